/-
  Chapter 16: the program's PayDebts: a queue that is paid from its front.
-/
import Derived.Test.YtpdddadplagcpaaDebtFn5
import Derived.Test.YtpdddadplagcpaaOwnCell
set_option linter.unusedSimpArgs false
namespace Go.Proofs.Ytpdddadplagcpaa
open Go.RowKit Go.Deep
set_option linter.unusedVariables false

set_option maxRecDepth 100000 in
set_option maxHeartbeats 2000000 in
theorem implPayDebts_any (A : Option Addr) (n c : Nat) (xs : List Fares.Debt) (m0 : Int) (w : World) (hx : Debts w w.heap.size A xs) (hn : xs.length = n) (hl : n ≤ 1000000000) (hm1 : m0 ≤ 9223372036854775807) (hnc : n ≤ c) (hcm : c ≤ maxLen) :
    Calls Try.prog 29 #[.slice A n c, .int .i64 m0] w fun e w' => ∃ v, e = .returned (.tuple #[v, .int .i64 (Fares.payDebts xs m0).2]) ∧ OwnDebts w' w.heap.size v (Fares.payDebts xs m0).1 ∧ Below w.heap.size w w' := by
  subst hn
  have Hd : Hid (Fares.payDebts xs m0 = if Fares.validDebts xs = true ∧ 0 ≤ m0 then Fares.payRun xs m0 else ([], -1)) := rfl
  have Hx := Lib.hid hx; clear hx
  go_enter Try.func29, Try.ntmps29
  go_wp2_with fail
  refine (implValidDebts_any A _ c xs _ Hx.out rfl (by omega)).mono ?_
  rintro e w1 ⟨rfl, hb⟩
  cases hv : Fares.validDebts xs
  · have hd2 : Fares.payDebts xs m0 = ([], -1) := by rw [show Fares.payDebts xs m0 = _ from Hd.out, hv, if_neg (by simp)]
    have Hd2 := Lib.hid hd2; clear hd2
    go_wp2
    go_ret2
    exact ⟨_, by rw [Hd2.out]; rfl, by rw [Hd2.out]; exact OwnDebts.none_ _ _, hb⟩
  · by_cases hm0 : 0 ≤ m0
    · have hd2 : Fares.payDebts xs m0 = Fares.payRun xs m0 := by rw [show Fares.payDebts xs m0 = _ from Hd.out, hv, if_pos ⟨rfl, hm0⟩]
      have Hd2 := Lib.hid hd2; clear hd2
      have hok := (Fares.validDebts_iff xs).1 hv
      have hlen := hok.length
      have Hok := Lib.hid hok.1; clear hok
      have Hy := Lib.hid (readsOver Hx.out hb)
      have hcm' := hcm
      unfold maxLen at hcm'
      by_cases h0 : xs.length = 0
      · obtain rfl : xs = [] := List.eq_nil_of_length_eq_zero h0
        go_wp2
        go_loop [6, 1] (fun q a => q = .slice A 0 c ∧ a = .int .i64 m0) (fun _ _ => 0)
        case atStart => exact ⟨rfl, rfl⟩
        case round =>
          obtain ⟨rfl, rfl⟩ := hrel
          go_wp2
          go_ret2
          exact ⟨_, by rw [Hd2.out]; rfl, by rw [Hd2.out]; exact OwnDebts.none_ _ _, hb⟩
      · obtain ⟨b1, o1, rfl, hb1, hr1⟩ := Debts.row Hy.out (by omega)
        have Hr := Lib.hid hr1; clear hr1
        go_wp2
        go_loop [6, 1] (fun q a => ∃ (k : Nat) (m : Int) (Aq : Option Addr) (cq : Nat), k ≤ xs.length ∧ 0 ≤ m ∧ m ≤ m0 ∧ q = .slice Aq (xs.length - k : Nat) cq ∧ a = .int .i64 m ∧ xs.length - k ≤ cq ∧ cq ≤ c ∧ (k < xs.length → Aq = some ⟨b1, o1 + k * 2, none⟩) ∧ Hid (Fares.payRun xs m0 = Fares.payRun (xs.drop k) m)) (fun q _ => match q with | .slice _ n _ => n | _ => 0)
        case atStart => exact ⟨0, m0, _, c, Nat.zero_le _, hm0, Int.le_refl _, rfl, rfl, by omega, Nat.le_refl _, fun _ => by simp, (by simp : Fares.payRun xs m0 = Fares.payRun (xs.drop 0) m0)⟩
        case round =>
          obtain ⟨k, m, Aq, cq, hk, g0, g1, rfl, rfl, hq1, hq2, hAq, HR⟩ := hrel
          by_cases hlt : k < xs.length
          · have eA := hAq hlt
            subst eA
            obtain ⟨x, hxk⟩ : ∃ x, xs[k]? = some x := ⟨xs[k], List.getElem?_eq_getElem hlt⟩
            obtain ⟨a0, a1, a2, a3⟩ := Hok.out x (List.mem_of_getElem? hxk)
            obtain ⟨p0, p1⟩ := Hr.out k x hxk
            have Hxk := Lib.hid hxk; clear hxk hAq
            have hdr : xs.drop k = x :: xs.drop (k + 1) := by
              obtain ⟨hk', e⟩ := List.getElem?_eq_some_iff.1 Hxk.out
              rw [List.drop_eq_getElem_cons hk', e]
            have Hdr := Lib.hid hdr; clear hdr
            obtain ⟨nq, hnq⟩ : ∃ nq, xs.length - k = nq := ⟨_, rfl⟩
            rw [hnq] at hq1 ⊢
            have n0 : 0 < nq := by omega
            by_cases hd : x.a ≤ m
            · go_wp2
              go_round
              case rel => exact ⟨k + 1, m - x.a, _, cq - 1, by omega, by omega, by omega, by rw [show xs.length - (k + 1) = nq - 1 by omega], rfl, by omega, by omega, fun h => by rw [if_neg (by omega), show o1 + (k + 1) * 2 = o1 + k * 2 + 2 by omega], (by rw [show Fares.payRun xs m0 = _ from HR.out, Hdr.out]; simp only [Fares.payRun]; rw [if_pos hd] : Fares.payRun xs m0 = Fares.payRun (xs.drop (k + 1)) (m - x.a))⟩
              case measure => show nq - 1 < nq; omega
            · have hz : (nq == 0) = false := by simp; omega
              have hF : Fares.payRun xs m0 = (⟨x.d, x.a - m⟩ :: xs.drop (k + 1), 0) := by
                rw [show Fares.payRun xs m0 = _ from HR.out, Hdr.out]
                simp only [Fares.payRun]
                rw [if_neg hd, Fares.payRun_zero (fun c hc => (Hok.out c (List.mem_of_mem_drop hc)).2.2.1)]
              have HF := Lib.hid hF; clear hF
              have Hq := Lib.hid (show Reads w1 w1.heap.size (some ⟨b1, o1 + k * 2, none⟩) ((xs.drop k).flatMap debtCells) from Reads.drop_at (f := debtCells) (s := 2) (fun _ => rfl) Hy.out k hk)
              have hnl : (xs.drop k).length = nq := by rw [List.length_drop]; exact hnq
              go_wp2_with fail
              refine (cloneDebts_any _ nq cq (xs.drop k) _ Hq.out hnl (fun e => by cases e) (by omega)).mono ?_
              rw [Hdr.out]
              rintro e w2 ⟨v, rfl, ho, hb2⟩
              have hrl : (x :: xs.drop (k + 1)).length = nq := by rw [← Hdr.out]; exact hnl
              unfold OwnDebts at ho
              rw [hrl] at ho
              obtain ⟨g, cap, rfl, hg1, hg2, hg3⟩ := own_some ho n0
              have hc2 : Below w.heap.size w w2 := bT hb hb2
              obtain ⟨cs, hblk⟩ := own_blk ho
              have f0 := hblk.free 1
              obtain ⟨c0, c1⟩ : w2.cell? ⟨g, 0, none⟩ = some (.int .i64 x.d) ∧ w2.cell? ⟨g, 1, none⟩ = some (.int .i64 x.a) := by
                have h := World.ownsRow.cells ho (g := g) rfl
                exact ⟨by simpa [Addr.add] using h 0 _ rfl, by simpa [Addr.add] using h 1 _ rfl⟩
              have W1 : IntKind.i64.wrap (x.a - m) = x.a - m := IntWalk.i64_in _ (by omega)
              have Ho := Lib.hid (own_setCell (i := 1) (.int .i64 (x.a - m)) ho (by simp [debtCells]))
              clear ho
              go_wp2
              go_ret2
              refine ⟨_, by rw [Hd2.out, HF.out]; rfl, ?_, ?_⟩
              · rw [Hd2.out, HF.out]
                unfold OwnDebts
                have h := ownBase Ho.out (show w.heap.size ≤ w1.heap.size from hb.size)
                have e1 : ((⟨x.d, x.a - m⟩ : Fares.Debt) :: xs.drop (k + 1)).length = nq := by rw [← hrl]; rfl
                rw [show ((⟨x.d, x.a - m⟩ :: xs.drop (k + 1), (0 : Int)) : List Fares.Debt × Int).1 = (⟨x.d, x.a - m⟩ : Fares.Debt) :: xs.drop (k + 1) from rfl, e1]
                exact h
              · exact bS hc2 (by have := hb.size; show w.heap.size ≤ g; omega) _
          · have e0 : xs.length - k = 0 := by omega
            rw [e0]
            have hF : Fares.payRun xs m0 = ([], m) := by rw [show Fares.payRun xs m0 = _ from HR.out, List.drop_of_length_le (by omega)]; rfl
            have HF := Lib.hid hF; clear hF
            go_wp2
            go_ret2
            exact ⟨_, by rw [Hd2.out, HF.out]; rfl, by rw [Hd2.out, HF.out]; exact OwnDebts.none_ _ _, hb⟩
    · have hd2 : Fares.payDebts xs m0 = ([], -1) := by rw [show Fares.payDebts xs m0 = _ from Hd.out, if_neg (fun h => hm0 h.2)]
      have Hd2 := Lib.hid hd2; clear hd2
      go_wp2
      go_ret2
      exact ⟨_, by rw [Hd2.out]; rfl, by rw [Hd2.out]; exact OwnDebts.none_ _ _, hb⟩
end Go.Proofs.Ytpdddadplagcpaa
