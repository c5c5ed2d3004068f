/-
  Chapter 16: the model's AddDebt.
-/
import Derived.Test.YtpdddadplagcpaaDebtFn4
import Derived.Test.YtpdddadplagcpaaDebtAddMath
import Derived.Test.YtpdddadplagcpaaOwnCell
set_option linter.unusedSimpArgs false
namespace Go.Proofs.Ytpdddadplagcpaa
open Go.RowKit Go.Deep
set_option linter.unusedVariables false

def AddsDebt (xs : List Fares.Debt) (day m : Int) (w : World) (e : Ending) (w' : World) : Prop :=
  ∃ v, e = .returned (.tuple #[v, .bool (Fares.addDebt xs day m).2]) ∧ OwnDebts w' w.heap.size v (Fares.addDebt xs day m).1 ∧ Below w.heap.size w w'

set_option maxRecDepth 100000 in
set_option maxHeartbeats 4000000 in
theorem specAddDebt_any (A : Option Addr) (n c : Nat) (xs : List Fares.Debt) (day m : Int) (w : World) (hx : Debts w w.heap.size A xs) (hn : xs.length = n) (hl : n ≤ 1000000000) :
    Calls Try.prog 26 #[.slice A n c, .int .i64 day, .int .i64 m] w (AddsDebt xs day m w) := by
  subst hn
  have Hx := Lib.hid hx; clear hx
  obtain ⟨ti, hi0, hz0, hz1, hz2⟩ := info_parts info_debt
  have HI := Lib.hid hi0; clear hi0
  have HZ0 := Lib.hid hz0; clear hz0
  have HZ1 := Lib.hid hz1; clear hz1
  have HZ2 := Lib.hid hz2; clear hz2
  have Hbad : Hid (¬ (Fares.validDebts xs = true ∧ (0 ≤ day ∧ day ≤ 28) ∧ (1 ≤ m ∧ m ≤ 100000)) → Fares.addDebt xs day m = ([], false)) := fun h => by
    unfold Fares.addDebt
    refine if_neg (fun g => h ⟨g.1, ?_⟩)
    have := g.2.1
    unfold Fares.debtOk at this
    rw [decide_eq_true_eq] at this
    dsimp only at this
    omega
  go_enter Try.func26, Try.ntmps26
  go_wp2_with fail
  generalize hW : World.alloc _ _ = w0
  have hb0 : Below w.heap.size w w0 := by rw [← hW]; exact bA (bA (Below.refl _ _) _) _
  have hbx0 : Blk w0 (w.heap.size + 1) 37 #[.int .i64 day, .int .i64 m] := by rw [← hW]; exact Blk.new' (by simp)
  have hown0 : OwnDebts w0 w.heap.size (.slice (some ⟨w.heap.size, 0, none⟩) 0 0) [] := by rw [← hW]; exact World.ownsRow.alloc (own_lit_debts w) _
  clear hW
  refine (specvalidDebts_any A _ c xs _ (readsOver Hx.out hb0) rfl hl).mono ?_
  rintro e w1 ⟨rfl, hb1⟩
  have hb : Below w.heap.size w w1 := bT hb0 hb1
  have Hbx := Lib.hid (hbx0.below hb1 hbx0.lt)
  have Hown1 := Lib.hid (hown0.below hb1)
  clear hb1 hb0 hbx0 hown0
  cases hv : Fares.validDebts xs
  · have hE := Hbad.out (fun h => by rw [hv] at h; exact absurd h.1 (by simp))
    have HE := Lib.hid hE; clear hE
    go_wp2
    go_ret2
    exact ⟨_, by rw [HE.out]; rfl, by rw [HE.out]; exact OwnDebts.none_ _ _, hb⟩
  · by_cases hd : 0 ≤ day ∧ day ≤ 28
    · by_cases hm : 1 ≤ m ∧ m ≤ 100000
      · have hok := (Fares.validDebts_iff xs).1 hv
        have hlen := hok.length
        have Hok := Lib.hid hok; clear hok
        have Heq := Lib.hid (fun k => Fares.eqSum_in (xs := xs.take k) (fun c hc => (Hok.out.1 c (List.mem_of_mem_take hc)).2.2) day)
        have Hgood : Hid (Fares.addDebt xs day m = if Fares.validDebts (Fares.addRes xs day m) = true then (Fares.addRes xs day m, true) else ([], false)) := by
          show _ = _
          have ho : Fares.debtOk ⟨day, m⟩ = true := by unfold Fares.debtOk; exact decide_eq_true ⟨hd.1, hd.2, hm.1, hm.2⟩
          unfold Fares.addDebt
          by_cases hr : Fares.validDebts (Fares.addRes xs day m) = true
          · rw [if_pos ⟨hv, ho, hr⟩, if_pos hr]
          · rw [if_neg (fun h => hr h.2.2), if_neg hr]
        clear Hbad
        obtain ⟨d0, d1⟩ := hd
        obtain ⟨m0, m1⟩ := hm
        go_wp2_with fail
        refine (inRange_yes _ _ _ _ d0 d1).mono ?_
        rintro e w' ⟨rfl, rfl⟩
        go_wp2_with fail
        refine (inRange_yes _ _ _ _ m0 m1).mono ?_
        rintro e w' ⟨rfl, rfl⟩
        go_wp2
        go_loopw [10, 8] (fun i v wr => ∃ k : Nat, k ≤ xs.length ∧ i = .int .i64 k ∧ OwnDebts wr w.heap.size v ((xs.take k).filter (fun x => decide (x.d < day))) ∧ v.ownBlock ≠ some (w.heap.size + 1) ∧ Blk wr (w.heap.size + 1) 37 #[.int .i64 day, .int .i64 (m + Fares.eqSum day (xs.take k))] ∧ Below w.heap.size w wr) (fun i _ _ => xs.length - (intOf i).toNat)
        case atStart => exact ⟨0, Nat.zero_le _, rfl, Hown1.out, by simp [Value.ownBlock], by simpa [Fares.eqSum] using Hbx.out, hb⟩
        case round =>
          clear Hown1 Hbx
          obtain ⟨k, hk, rfl, hown, hnb, hbx, hb⟩ := hrel
          obtain ⟨s0, s1⟩ := Heq.out k
          by_cases hlt : k < xs.length
          · obtain ⟨x, hxk⟩ : ∃ x, xs[k]? = some x := ⟨xs[k], List.getElem?_eq_getElem hlt⟩
            obtain ⟨_, _, a0, a1⟩ := Hok.out.1 x (List.mem_of_getElem? hxk)
            have hfl := Fares.filter_take_le xs k (fun x => decide (x.d < day))
            have Hnx := Lib.hid (Fares.filter_take_next hxk (fun x => decide (x.d < day)))
            have Hsx := Lib.hid (Fares.eqSum_next hxk day)
            rw [List.length_take] at s1
            obtain ⟨s, Es⟩ : ∃ s, Fares.eqSum day (xs.take k) = s := ⟨_, rfl⟩
            rw [Es] at s0 s1 hbx Hsx
            obtain ⟨b1, o1, rfl, hb1, hr1⟩ := Debts.row Hx.out (by omega)
            obtain ⟨p0, p1⟩ := (hr1 k x hxk).below hb hb1
            clear hr1 hxk Es
            obtain ⟨Av, cv, rfl, hcv1, hcv2, _⟩ := hown.form
            unfold OwnDebts at hown
            obtain ⟨ys, Ey⟩ : ∃ ys, (xs.take k).filter (fun x => decide (x.d < day)) = ys := ⟨_, rfl⟩
            rw [Ey] at hown hcv1 hfl Hnx hnb
            rw [Ey]
            have Hown := Lib.hid hown; clear hown Ey
            have Hnb := Lib.hid hnb; clear hnb
            have Hbx := Lib.hid hbx; clear hbx
            have hbl := Hbx.out.lt
            have i0 : (0 : Int) ≤ (k : Int) := by omega
            have i1 : (k : Int) < (xs.length : Int) := by omega
            by_cases hd : x.d < day
            · have hn2 : (xs.take (k + 1)).filter (fun x => decide (x.d < day)) = ys ++ [⟨x.d, x.a⟩] := by rw [show (xs.take (k + 1)).filter (fun x => decide (x.d < day)) = _ from Hnx.out, decide_eq_true hd]; rfl
              have Hn2 := Lib.hid hn2; clear hn2
              have hs2 : Fares.eqSum day (xs.take (k + 1)) = s := by rw [Hsx.out, if_neg (by omega), Int.add_zero]
              have Hs2 := Lib.hid hs2; clear hs2
              go_wp2_with (at_builtin; refine wpList_append_lies _ rfl (.tmp 43) (.tmp 48) _ rfl w.heap.size 37 ti _ 2 16 Try.underlying23 HI.out HZ0.out HZ1.out HZ2.out rfl (by omega) _ _ _ rfl (World.ownsRow.alloc (w := wr) Hown.out _) ⟨wr.heap.size, 0, none⟩ 1 1 (debtCells ⟨x.d, x.a⟩) rfl rfl ?c1 ?c2 (by omega) ?c3 ?c4 ?c5 _ rfl ?_)
              case c1 => first | exact World.news_of_block (heap_alloc_new wr (.cells #[.int .i64 x.d, .int .i64 x.a] 37)) | exact (fun j u hj => hj)
              case c2 => simp [debtCells, Value.oneCell']
              case c3 => unfold maxLen; omega
              case c4 => omega
              case c5 => have := hb.size; simp; omega
              intro g cap w2 hown2 hgrow hat hlt2
              have hb4 : Below w.heap.size w w2 := Below.grown (bA hb _) hgrow (by have := hb.size; simp; omega) (fun r hr => (World.ownsRow.lt Hown.out r hr).1)
              have Hown2 := Lib.hid (OwnDebts.snoc hown2); clear hown2
              have Hbx2 := Lib.hid ((Hbx.out.alloc (.cells #[.int .i64 x.d, .int .i64 x.a] 37)).grown hgrow (fun e => Hnb.out e.symm))
              have hg2 : g ≠ w.heap.size + 1 := by
                rcases hat with h | h
                · intro e; subst e; exact Hnb.out h
                · have hz : g = wr.heap.size + 1 := h
                  omega
              clear hgrow hat
              go_wp2
              go_roundw
              case rel => exact ⟨k + 1, by omega, by go_num, by rw [Hn2.out]; exact Hown2.out, by simp [Value.ownBlock]; omega, by rw [Hs2.out]; exact Hbx2.out, hb4⟩
              case measure => simp [intOf]; omega
            · have hn2 : (xs.take (k + 1)).filter (fun x => decide (x.d < day)) = ys := by rw [show (xs.take (k + 1)).filter (fun x => decide (x.d < day)) = _ from Hnx.out, decide_eq_false hd]; simp
              have Hn2 := Lib.hid hn2; clear hn2
              by_cases he : x.d = day
              · have hs2 : Fares.eqSum day (xs.take (k + 1)) = s + x.a := by rw [Hsx.out, if_pos he]
                have Hs2 := Lib.hid hs2; clear hs2
                have z1 : (x.d == day) = true := by simpa using he
                have c0 := Hbx.out.cell 1
                have f0 := Hbx.out.free 1
                have hne : ¬ (w.heap.size + 1 = b1) := by omega
                clear he
                go_wp2
                go_still_tail 9, (by kernel_rfl)
                change wpList _ _ _ _ _ _
                go_wp2
                go_roundw
                case rel => exact ⟨k + 1, by omega, by go_num, by rw [Hn2.out]; exact World.ownsRow.kept (w := wr.drew) Hown.out (grown_setCell (grown_refl _ (some (w.heap.size + 1))) (.inl rfl) _) (.inr Hnb.out), Hnb.out, by rw [Hs2.out, ← Int.add_assoc]; exact Blk.put (w := wr.drew) Hbx.out 1 _, bS (bD1 hb) (by show w.heap.size ≤ w.heap.size + 1; omega) _⟩
                case measure => simp [intOf]; omega
              · have hs2 : Fares.eqSum day (xs.take (k + 1)) = s := by rw [Hsx.out, if_neg he, Int.add_zero]
                have Hs2 := Lib.hid hs2; clear hs2
                have z1 : (x.d == day) = false := by simpa using he
                clear he
                go_wp2
                go_roundw
                case rel => exact ⟨k + 1, by omega, by go_num, by rw [Hn2.out]; exact Hown.out, Hnb.out, by rw [Hs2.out]; exact Hbx.out, hb⟩
                case measure => simp [intOf]; omega
          · have i1 : ¬ (k : Int) < (xs.length : Int) := by omega
            have hfl := List.length_filter_le (fun x : Fares.Debt => decide (x.d < day)) xs
            rw [List.take_of_length_le (by omega)] at hown hbx s0 s1
            obtain ⟨nx, Enx⟩ : ∃ nx, m + Fares.eqSum day xs = nx := ⟨_, rfl⟩
            rw [Enx] at hbx
            obtain ⟨lo, Elo⟩ : ∃ lo, xs.filter (fun x => decide (x.d < day)) = lo := ⟨_, rfl⟩
            rw [Elo] at hown hfl
            have HR : Hid (Fares.addRes xs day m = lo ++ ⟨day, nx⟩ :: xs.filter (fun x => decide (day < x.d))) := by
              show _ = _
              unfold Fares.addRes; rw [Elo, Enx]
            clear Enx Elo s0 s1
            obtain ⟨Av, cv, rfl, hcv1, hcv2, _⟩ := hown.form
            unfold OwnDebts at hown
            have Hown := Lib.hid hown; clear hown
            have c0 := hbx.cell 0
            have c1 := hbx.cell 1
            clear hbx hnb
            go_wp2_with (at_builtin; refine wpList_append_lies _ rfl (.tmp 67) (.tmp 69) _ rfl w.heap.size 37 ti _ 2 16 Try.underlying23 HI.out HZ0.out HZ1.out HZ2.out rfl (by omega) _ _ _ rfl (World.ownsRow.alloc (w := wr) Hown.out _) ⟨wr.heap.size, 0, none⟩ 1 1 (debtCells ⟨day, nx⟩) rfl rfl ?c1 ?c2 (by omega) ?c3 ?c4 ?c5 _ rfl ?_)
            case c1 => first | exact World.news_of_block (heap_alloc_new wr (.cells #[.int .i64 day, .int .i64 nx] 37)) | exact (fun j u hj => hj)
            case c2 => simp [debtCells, Value.oneCell']
            case c3 => unfold maxLen; omega
            case c4 => omega
            case c5 => have := hb.size; simp; omega
            intro g cap w2 hown2 hgrow hat hlt2
            have hb4 : Below w.heap.size w w2 := Below.grown (bA hb _) hgrow (by have := hb.size; simp; omega) (fun r hr => (World.ownsRow.lt Hown.out r hr).1)
            have Hown2 := Lib.hid (OwnDebts.snoc hown2); clear hown2
            clear hgrow hat
            go_wp2
            clear c0 c1
            go_loopw [11, 8] (fun i v wr => ∃ k : Nat, k ≤ xs.length ∧ i = .int .i64 k ∧ OwnDebts wr w.heap.size v ((lo ++ [⟨day, nx⟩]) ++ (xs.take k).filter (fun x => decide (day < x.d))) ∧ Below w.heap.size w wr) (fun i _ _ => xs.length - (intOf i).toNat)
            case atStart => exact ⟨0, Nat.zero_le _, rfl, by simpa using Hown2.out, hb4⟩
            case round =>
              clear Hown2 Hown hb4 hb
              obtain ⟨k, hk, rfl, hown, hb⟩ := hrel
              by_cases hlt : k < xs.length
              · obtain ⟨x, hxk⟩ : ∃ x, xs[k]? = some x := ⟨xs[k], List.getElem?_eq_getElem hlt⟩
                have hfl2 := Fares.filter_take_le xs k (fun x => decide (day < x.d))
                have Hnx := Lib.hid (Fares.filter_take_next hxk (fun x => decide (day < x.d)))
                obtain ⟨b1, o1, rfl, hb1, hr1⟩ := Debts.row Hx.out (by omega)
                obtain ⟨p0, p1⟩ := (hr1 k x hxk).below hb hb1
                clear hr1 hxk
                obtain ⟨Av, cv, rfl, hcv1, hcv2, _⟩ := hown.form
                unfold OwnDebts at hown
                obtain ⟨ys, Ey⟩ : ∃ ys, (lo ++ [⟨day, nx⟩]) ++ (xs.take k).filter (fun x => decide (day < x.d)) = ys := ⟨_, rfl⟩
                have hyl : ys.length ≤ 100 := by rw [← Ey]; simp only [List.length_append, List.length_cons, List.length_nil]; omega
                rw [Ey] at hown hcv1
                rw [Ey]
                have Hown := Lib.hid hown; clear hown
                have HEy := Lib.hid Ey; clear Ey hfl2
                have i0 : (0 : Int) ≤ (k : Int) := by omega
                have i1 : (k : Int) < (xs.length : Int) := by omega
                by_cases hd : day < x.d
                · have hn2 : (lo ++ [⟨day, nx⟩]) ++ (xs.take (k + 1)).filter (fun x => decide (day < x.d)) = ys ++ [⟨x.d, x.a⟩] := by rw [show (xs.take (k + 1)).filter (fun x => decide (day < x.d)) = _ from Hnx.out, decide_eq_true hd, ← List.append_assoc, HEy.out]; rfl
                  have Hn2 := Lib.hid hn2; clear hn2
                  go_wp2_with (at_builtin; refine wpList_append_lies _ rfl (.tmp 84) (.tmp 89) _ rfl w.heap.size 37 ti _ 2 16 Try.underlying23 HI.out HZ0.out HZ1.out HZ2.out rfl (by omega) _ _ _ rfl (World.ownsRow.alloc (w := wr) Hown.out _) ⟨wr.heap.size, 0, none⟩ 1 1 (debtCells ⟨x.d, x.a⟩) rfl rfl ?c1 ?c2 (by omega) ?c3 ?c4 ?c5 _ rfl ?_)
                  case c1 => first | exact World.news_of_block (heap_alloc_new wr (.cells #[.int .i64 x.d, .int .i64 x.a] 37)) | exact (fun j u hj => hj)
                  case c2 => simp [debtCells, Value.oneCell']
                  case c3 => unfold maxLen; omega
                  case c4 => omega
                  case c5 => have := hb.size; simp; omega
                  intro g cap w2 hown2 hgrow hat hlt2
                  have hb4 : Below w.heap.size w w2 := Below.grown (bA hb _) hgrow (by have := hb.size; simp; omega) (fun r hr => (World.ownsRow.lt Hown.out r hr).1)
                  have Hown2 := Lib.hid (OwnDebts.snoc hown2); clear hown2
                  clear hgrow hat
                  go_wp2
                  go_roundw
                  case rel => exact ⟨k + 1, by omega, by go_num, by rw [Hn2.out]; exact Hown2.out, hb4⟩
                  case measure => simp [intOf]; omega
                · have hn2 : (lo ++ [⟨day, nx⟩]) ++ (xs.take (k + 1)).filter (fun x => decide (day < x.d)) = ys := by rw [show (xs.take (k + 1)).filter (fun x => decide (day < x.d)) = _ from Hnx.out, decide_eq_false hd, ← List.append_assoc, HEy.out]; simp
                  have Hn2 := Lib.hid hn2; clear hn2
                  go_wp2
                  go_roundw
                  case rel => exact ⟨k + 1, by omega, by go_num, by rw [Hn2.out]; exact Hown.out, hb⟩
                  case measure => simp [intOf]; omega
              · have i1 : ¬ (k : Int) < (xs.length : Int) := by omega
                rw [List.take_of_length_le (by omega), List.append_assoc] at hown
                rw [show lo ++ ([⟨day, nx⟩] ++ xs.filter (fun x => decide (day < x.d))) = Fares.addRes xs day m from HR.out.symm] at hown
                have hrl := Fares.addRes_length xs day m
                obtain ⟨R, hR⟩ : ∃ R, Fares.addRes xs day m = R := ⟨_, rfl⟩
                have Hg2 : Hid (Fares.addDebt xs day m = if Fares.validDebts R = true then (R, true) else ([], false)) := by rw [← hR]; exact Hgood
                rw [hR] at hown hrl
                obtain ⟨Av, cv, rfl, hcv1, hcv2, hrr⟩ := hown.form
                have Hown := Lib.hid hown; clear hown
                have Hrr := Lib.hid hrr; clear hrr
                go_wp2_with fail
                refine (specvalidDebts_any Av R.length cv R _ Hrr.out rfl (by omega)).mono ?_
                rintro e w5 ⟨rfl, hb5⟩
                cases hq : Fares.validDebts R
                · have hE : Fares.addDebt xs day m = ([], false) := by rw [show Fares.addDebt xs day m = _ from Hg2.out, hq]; rfl
                  have HE := Lib.hid hE; clear hE
                  go_wp2
                  go_ret2
                  exact ⟨_, by rw [HE.out]; rfl, by rw [HE.out]; exact OwnDebts.none_ _ _, bT hb hb5⟩
                · have hE : Fares.addDebt xs day m = (R, true) := by rw [show Fares.addDebt xs day m = _ from Hg2.out, hq]; rfl
                  have HE := Lib.hid hE; clear hE
                  go_wp2
                  go_ret2
                  exact ⟨_, by rw [HE.out]; rfl, by rw [HE.out]; exact Hown.out.below hb5, bT hb hb5⟩
      · have hE := Hbad.out (fun h => hm h.2.2)
        have HE := Lib.hid hE; clear hE
        go_wp2_with fail
        refine (inRange_yes _ _ _ _ hd.1 hd.2).mono ?_
        rintro e w' ⟨rfl, rfl⟩
        go_wp2_with fail
        refine (inRange_no _ _ _ _ (by omega)).mono ?_
        rintro e w' ⟨rfl, rfl⟩
        go_wp2
        go_ret2
        exact ⟨_, by rw [HE.out]; rfl, by rw [HE.out]; exact OwnDebts.none_ _ _, hb⟩
    · have hE := Hbad.out (fun h => hd h.2.1)
      have HE := Lib.hid hE; clear hE
      go_wp2_with fail
      refine (inRange_no _ _ _ _ (by omega)).mono ?_
      rintro e w' ⟨rfl, rfl⟩
      go_wp2
      go_ret2
      exact ⟨_, by rw [HE.out]; rfl, by rw [HE.out]; exact OwnDebts.none_ _ _, hb⟩
end Go.Proofs.Ytpdddadplagcpaa
