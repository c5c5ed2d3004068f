/-
  Chapter 16: old debts, and what is left when an amount is paid.
-/
import Derived.Test.YtpdddadplagcpaaDebtFn3
import Derived.Test.YtpdddadplagcpaaListMath
set_option linter.unusedSimpArgs false
namespace Go.Proofs.Ytpdddadplagcpaa
open Go.RowKit Go.Deep
set_option linter.unusedVariables false

theorem own_lit_debts (w : World) : OwnDebts (w.alloc (.cells #[] 37)) w.heap.size (.slice (some ⟨w.heap.size, 0, none⟩) 0 0) [] :=
  World.ownsRow_lit (base := w.heap.size) (e := 37) (size := 2) w #[] 0 (Nat.le_refl _) (by unfold maxLen; omega) rfl
theorem OwnDebts.base {w : World} {b b' : Nat} {v : Value} {ys : List Fares.Debt} (h : OwnDebts w b v ys) (hb : b' ≤ b) : OwnDebts w b' v ys := ownBase h hb
/-- What the slice value of owned debts is: nil, or with a block of its own. -/
theorem OwnDebts.nilOk {w : World} {base : Nat} {A : Option Addr} {n c : Nat} {ys : List Fares.Debt} (h : OwnDebts w base (.slice A n c) ys) : NilOk A n c := by
  rcases h.2 with ⟨e, _⟩ | ⟨g, cap, cur, e, _⟩
  · injection e with e1 e2 e3
    exact fun _ => ⟨e2, e3⟩
  · injection e with e1
    exact fun h => by rw [h] at e1; cases e1

set_option maxRecDepth 100000 in
set_option maxHeartbeats 2000000 in
theorem specOldDebts_any (A : Option Addr) (n c : Nat) (xs : List Fares.Debt) (day : Int) (w : World) (hx : Debts w w.heap.size A xs) (hn : xs.length = n) (hl : n ≤ 1000000000) :
    Calls Try.prog 33 #[.slice A n c, .int .i64 day] w fun e w' => ∃ v, e = .returned v ∧ OwnDebts w' w.heap.size v (Fares.oldDebts xs day) ∧ Below w.heap.size w w' := by
  subst hn
  have Hd : Hid (Fares.oldDebts xs day = if Fares.validDebts xs then xs.filter (fun x => decide (x.d < day)) else []) := rfl
  have Hx := Lib.hid hx; clear hx
  have hb0 : Below w.heap.size w (w.alloc (.cells #[] 37)) := bA (Below.refl _ _) _
  obtain ⟨ti, hi0, hz0, hz1, hz2⟩ := info_parts info_debt
  have HI := Lib.hid hi0; clear hi0
  have HZ0 := Lib.hid hz0; clear hz0
  have HZ1 := Lib.hid hz1; clear hz1
  have HZ2 := Lib.hid hz2; clear hz2
  go_enter Try.func33, Try.ntmps33
  go_wp2_with fail
  refine (specvalidDebts_any A _ c xs _ (readsOver Hx.out hb0) rfl hl).mono ?_
  rintro e w1 ⟨rfl, hb⟩
  have hc1 : Below w.heap.size w w1 := bT hb0 hb
  cases hv : Fares.validDebts xs
  · go_wp2
    go_ret
    exact ⟨_, rfl, by rw [Hd.out, hv]; exact OwnDebts.none_ _ _, hc1⟩
  · have hlen := ((Fares.validDebts_iff xs).1 hv).length
    have hown0 := (own_lit_debts w).below hb
    clear hb hb0
    go_wp2
    go_loopw [6, 5] (fun i v wr => ∃ k : Nat, k ≤ xs.length ∧ i = .int .i64 k ∧ OwnDebts wr w.heap.size v ((xs.take k).filter (fun x => decide (x.d < day))) ∧ Below w.heap.size w wr) (fun i _ _ => xs.length - (intOf i).toNat)
    case atStart => exact ⟨0, Nat.zero_le _, rfl, hown0, hc1⟩
    case round =>
      clear hown0
      obtain ⟨k, hk, rfl, hown, hb⟩ := hrel
      by_cases hlt : k < xs.length
      · obtain ⟨x, hxk⟩ : ∃ x, xs[k]? = some x := ⟨xs[k], List.getElem?_eq_getElem hlt⟩
        have hfl := Fares.filter_take_le xs k (fun x => decide (x.d < day))
        have Hnx := Lib.hid (Fares.filter_take_next hxk (fun x => decide (x.d < day)))
        obtain ⟨b1, o1, rfl, hb1, hr1⟩ := Debts.row Hx.out (by omega)
        obtain ⟨p0, p1⟩ := (hr1 k x hxk).below hb hb1
        clear hr1 hxk
        obtain ⟨Av, cv, rfl, hcv1, hcv2, _⟩ := hown.form
        unfold OwnDebts at hown
        obtain ⟨ys, Ey⟩ : ∃ ys, (xs.take k).filter (fun x => decide (x.d < day)) = ys := ⟨_, rfl⟩
        rw [Ey] at hown hcv1 hfl Hnx
        rw [Ey]
        have Hown := Lib.hid hown; clear hown Ey
        have i0 : (0 : Int) ≤ (k : Int) := by omega
        have i1 : (k : Int) < (xs.length : Int) := by omega
        by_cases hd : x.d < day
        · have Hn2 : Hid ((xs.take (k + 1)).filter (fun x => decide (x.d < day)) = ys ++ [x]) := by rw [show (xs.take (k + 1)).filter (fun x => decide (x.d < day)) = _ from Hnx.out, decide_eq_true hd]; rfl
          go_wp2_with (at_builtin; refine wpList_append_lies _ rfl (.tmp 24) (.tmp 29) _ rfl w.heap.size 37 ti _ 2 16 Try.underlying23 HI.out HZ0.out HZ1.out HZ2.out rfl (by omega) _ _ _ rfl (World.ownsRow.alloc (w := wr) Hown.out _) ⟨wr.heap.size, 0, none⟩ 1 1 (debtCells x) rfl rfl ?c1 ?c2 (by omega) ?c3 ?c4 ?c5 _ rfl ?_)
          case c1 => exact World.news_of_block (heap_alloc_new wr (.cells #[.int .i64 x.d, .int .i64 x.a] 37))
          case c2 => simp [debtCells, Value.oneCell']
          case c3 => unfold maxLen; omega
          case c4 => omega
          case c5 => have := hb.size; simp; omega
          intro g cap w2 hown2 hgrow hat hlt2
          have hb4 : Below w.heap.size w w2 := Below.grown (bA hb _) hgrow (by have := hb.size; simp; omega) (fun r hr => (World.ownsRow.lt Hown.out r hr).1)
          have Hown2 := Lib.hid (OwnDebts.snoc hown2); clear hown2 hgrow hat
          go_wp2
          go_roundw
          case rel => exact ⟨k + 1, by omega, by go_num, by rw [Hn2.out]; exact Hown2.out, hb4⟩
          case measure => simp [intOf]; omega
        · have hn2 : (xs.take (k + 1)).filter (fun x => decide (x.d < day)) = ys := by rw [show (xs.take (k + 1)).filter (fun x => decide (x.d < day)) = _ from Hnx.out, decide_eq_false hd]; simp
          have Hn2 := Lib.hid hn2; clear hn2
          go_wp2
          go_roundw
          case rel => exact ⟨k + 1, by omega, by go_num, by rw [Hn2.out]; exact Hown.out, hb⟩
          case measure => simp [intOf]; omega
      · have i1 : ¬ (k : Int) < (xs.length : Int) := by omega
        go_wp2
        go_ret
        exact ⟨_, rfl, by rw [Hd.out, hv, if_pos rfl]; rwa [List.take_of_length_le (by omega)] at hown, hb⟩

set_option maxRecDepth 100000 in
set_option maxHeartbeats 2000000 in
theorem implOldDebts_any (A : Option Addr) (n c : Nat) (xs : List Fares.Debt) (day : Int) (w : World) (hx : Debts w w.heap.size A xs) (hn : xs.length = n) (hl : n ≤ 1000000000) (hA : NilOk A n c) (hnc : n ≤ c) (hcm : c ≤ maxLen) :
    Calls Try.prog 32 #[.slice A n c, .int .i64 day] w fun e w' => ∃ v, e = .returned v ∧ OwnDebts w' w.heap.size v (Fares.oldDebts xs day) ∧ Below w.heap.size w w' := by
  subst hn
  have Hd : Hid (Fares.oldDebts xs day = if Fares.validDebts xs then xs.filter (fun x => decide (x.d < day)) else []) := rfl
  have Hx := Lib.hid hx; clear hx
  go_enter Try.func32, Try.ntmps32
  go_wp2_with fail
  refine (implValidDebts_any A _ c xs _ Hx.out rfl (by omega)).mono ?_
  rintro e w1 ⟨rfl, hb⟩
  cases hv : Fares.validDebts xs
  · go_wp2
    go_ret
    exact ⟨_, rfl, by rw [Hd.out, hv]; exact OwnDebts.none_ _ _, hb⟩
  · have hok := (Fares.validDebts_iff xs).1 hv
    have hlen := hok.length
    have Hp := Lib.hid hok.2; clear hok
    have Hy := Lib.hid (readsOver Hx.out hb)
    go_wp2_with fail
    refine (placeOf_any A _ c xs day _ Hy.out rfl (by omega) Hp.out).mono ?_
    rintro e w2 ⟨i, rfl, hi, hs, hb2⟩
    have Hz := Lib.hid (readsOver Hy.out hb2)
    have hc2 : Below w.heap.size w w2 := bT hb hb2
    have He := Lib.hid (Fares.old_take Hp.out hi hs.1 hs.2)
    clear hb hb2 hs
    have Ht : Hid (Debts w2 w2.heap.size A (xs.take i)) := by
      cases A with
      | none =>
        obtain ⟨h1, _⟩ := hA rfl
        have : xs = [] := List.eq_nil_of_length_eq_zero h1
        subst this
        exact show Debts w2 w2.heap.size none (([] : List Fares.Debt).take i) by rw [List.take_nil]; exact Reads.nil _ _ _
      | some ad =>
        intro hne
        obtain ⟨a, e, hb, hc⟩ := (show Reads w2 w2.heap.size (some ad) (xs.flatMap debtCells) from Hz.out) (fun e => hne (by
          have : xs.flatMap debtCells = (xs.take i).flatMap debtCells ++ (xs.drop i).flatMap debtCells := by rw [← List.flatMap_append, List.take_append_drop]
          rw [this] at e
          exact (List.append_eq_nil_iff.1 e).1))
        refine ⟨a, e, hb, fun j u hj => hc j u ?_⟩
        have : xs.flatMap debtCells = (xs.take i).flatMap debtCells ++ (xs.drop i).flatMap debtCells := by rw [← List.flatMap_append, List.take_append_drop]
        rw [this, List.getElem?_append_left (List.getElem?_eq_some_iff.1 hj).1]
        exact hj
    have hti : (xs.take i).length = i := by rw [List.length_take]; omega
    have HA : Hid (NilOk A i c) := fun e => by obtain ⟨h1, h2⟩ := hA e; exact ⟨by omega, h2⟩
    have i0 : (0 : Int) ≤ (i : Int) := by omega
    have i1 : (i : Int) ≤ (c : Int) := by omega
    unfold maxLen at hcm
    cases A with
    | none =>
      obtain ⟨h1, h2⟩ := HA.out rfl
      subst h1 h2
      go_wp2_with fail
      refine (cloneDebts_any none _ _ (xs.take 0) _ Ht.out hti HA.out (by omega)).mono ?_
      rintro e w3 ⟨v, rfl, ho, hb3⟩
      go_wp2
      go_ret
      exact ⟨_, rfl, by rw [Hd.out, hv, if_pos rfl, He.out]; exact ho.base hc2.size, bT hc2 hb3⟩
    | some ad =>
      go_wp2_with fail
      refine (cloneDebts_any (some ad) _ _ (xs.take i) _ Ht.out hti HA.out (by omega)).mono ?_
      rintro e w3 ⟨v, rfl, ho, hb3⟩
      go_wp2
      go_ret
      exact ⟨_, rfl, by rw [Hd.out, hv, if_pos rfl, He.out]; exact ho.base hc2.size, bT hc2 hb3⟩
end Go.Proofs.Ytpdddadplagcpaa
