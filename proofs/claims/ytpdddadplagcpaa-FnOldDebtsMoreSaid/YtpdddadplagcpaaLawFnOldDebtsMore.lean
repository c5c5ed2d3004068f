/-
  Later days have more old debts: at every code, with the debts and the day drawn from it, the law FnOldDebtsMore returns true and leaves the code as it was. No conditions.
-/
import Derived.Test.YtpdddadplagcpaaDebtFn4
import Derived.Test.YtpdddadplagcpaaDebtLaw
import Derived.Test.YtpdddadplagcpaaEqualDebt
import Derived.Test.YtpdddadplagcpaaDrawDebt
import Derived.Test.YtpdddadplagcpaaOwnCell
import Derived.Test.YtpdddadplagcpaaLiftBytes
set_option linter.unusedSimpArgs false
namespace Go.Proofs.Ytpdddadplagcpaa.fnOldDebtsMore
open Go.ChangeShapes Go.WideShapes Go.ChangeAt Go.RowKit
set_option linter.unusedVariables false

set_option maxRecDepth 100000 in
set_option maxHeartbeats 2000000 in
theorem walk (A : Option Addr) (n c : Nat) (w : World) (h : Bytes w w.heap.size A n c) : Calls Try.prog 12 #[.slice A n c] w (TrueBelow w) := by
  by_cases hn : 1048576 < n
  · go_enter Try.func12, Try.ntmps12
    go_wp2
    go_ret
    exact ⟨rfl, Below.refl _ _⟩
  · go_enter Try.func12, Try.ntmps12
    go_wp2_with fail
    refine (drawOldDebts_any A n c w h).mono ?_
    rintro e w1 ⟨v, xs, m, rfl, ho, hlen, hsm, m0, m1, hc1⟩
    have hcode : n ≤ 1048576 := by omega
    clear h hsm
    obtain ⟨AL, cL, rfl, lL1, lL2, hr⟩ := ho.form
    have oL := ho.nilOk
    clear ho
    have HL1 := Lib.hid hr; clear hr
    unfold maxLen at lL2
    obtain ⟨out, hP⟩ : ∃ out, Fares.oldDebts xs m = out := ⟨_, rfl⟩
    obtain ⟨lat, hR⟩ : ∃ lat, Fares.oldDebts xs (m + 3) = lat := ⟨_, rfl⟩
    obtain ⟨k, hk1, hk2, hk3⟩ := Fares.oldDebts_more xs (show m ≤ m + 3 by omega)
    rw [hP] at hk1 hk3
    rw [hR] at hk2 hk3
    have hol : out.length ≤ 8 := by have := Fares.oldDebts_length xs m; rw [hP] at this; exact Nat.le_trans this hlen
    have hol2 : lat.length ≤ 8 := by have := Fares.oldDebts_length xs (m + 3); rw [hR] at this; exact Nat.le_trans this hlen
    go_wp2_with fail
    refine (implOldDebts_any AL xs.length cL xs m _ (HL1.out) rfl (by omega) oL lL1 (by unfold maxLen; omega)).mono ?_
    rw [hP]
    rintro e w2 ⟨v, rfl, ho, hb2⟩
    obtain ⟨AO, cO, rfl, lO1, lO2, hr⟩ := ho.form
    have oO := ho.nilOk
    clear ho
    have Hn2 := Lib.hid hr; clear hr
    have hc2 : Below w.heap.size w w2 := bT hc1 hb2
    have HkL2 := Lib.hid (readsOver HL1.out hb2)
    clear HL1
    clear hb2
    go_wp2_with fail
    refine (specOldDebts_any AL xs.length cL xs m _ (HkL2.out) rfl (by omega)).mono ?_
    rw [hP]
    rintro e w3 ⟨v, rfl, ho, hb3⟩
    obtain ⟨AW, cW, rfl, lW1, lW2, hr⟩ := ho.form
    have oW := ho.nilOk
    clear ho
    have Hn3 := Lib.hid hr; clear hr
    have hc3 : Below w.heap.size w w3 := bT hc2 hb3
    have HkL3 := Lib.hid (readsOver HkL2.out hb3)
    clear HkL2
    have HkO3 := Lib.hid (readsOver Hn2.out hb3)
    clear Hn2
    clear hb3
    go_wp2_with fail
    refine (equalDebts_any AO AW _ _ cO cW out out _ (HkO3.out) (Hn3.out) rfl rfl (by omega) (by omega)).mono ?_
    rw [decide_eq_true (rfl : out = out)]
    rintro e w4 ⟨rfl, hb4⟩
    have hc4 : Below w.heap.size w w4 := bT hc3 hb4
    have HkL4 := Lib.hid (readsOver HkL3.out hb4)
    clear HkL3
    have HkO4 := Lib.hid (readsOver HkO3.out hb4)
    clear HkO3
    have HkW4 := Lib.hid (readsOver Hn3.out hb4)
    clear Hn3
    clear hb4
    go_wp2_with fail
    refine (implOldDebts_any AL xs.length cL xs (m + 3) _ (HkL4.out) rfl (by omega) oL lL1 (by unfold maxLen; omega)).mono ?_
    rw [hR]
    rintro e w5 ⟨v, rfl, ho, hb5⟩
    obtain ⟨AP, cP, rfl, lP1, lP2, hr⟩ := ho.form
    have oP := ho.nilOk
    clear ho
    have Hn5 := Lib.hid hr; clear hr
    have hc5 : Below w.heap.size w w5 := bT hc4 hb5
    have HkL5 := Lib.hid (readsOver HkL4.out hb5)
    clear HkL4
    have HkO5 := Lib.hid (readsOver HkO4.out hb5)
    clear HkO4
    have HkW5 := Lib.hid (readsOver HkW4.out hb5)
    clear HkW4
    clear hb5
    unfold maxLen at lP2
    have d1 : decide ((out.length : Int) ≤ (lat.length : Int)) = true := by rw [decide_eq_true_eq]; omega
    have d1n : decide (out.length ≤ lat.length) = true := by rw [decide_eq_true_eq]; omega
    have i0 : (0 : Int) ≤ (out.length : Int) := by omega
    have i1 : (out.length : Int) ≤ (cP : Int) := by omega
    have Ht := Lib.hid (show Debts w5 w5.heap.size AP out from by rw [← hk3]; exact Reads.take_of (Hn5.out) k)
    cases AP with
    | none =>
      obtain ⟨h1, h2⟩ := oP rfl
      have e0 : out.length = 0 := by omega
      obtain rfl : out = [] := List.eq_nil_of_length_eq_zero e0
      obtain rfl : lat = [] := List.eq_nil_of_length_eq_zero h1
      subst h2
      go_wp2_with fail
      refine (equalDebts_any none AO 0 0 0 cO [] [] _ (Ht.out) (HkO5.out) rfl rfl (by omega) (by omega)).mono ?_
      rw [decide_eq_true (rfl : ([] : List Fares.Debt) = [])]
      rintro e w6 ⟨rfl, hb6⟩
      have hc6 : Below w.heap.size w w6 := bT hc5 hb6
      have HkL6 := Lib.hid (readsOver HkL5.out hb6)
      clear HkL5
      have HkO6 := Lib.hid (readsOver HkO5.out hb6)
      clear HkO5
      have HkW6 := Lib.hid (readsOver HkW5.out hb6)
      clear HkW5
      have HkP6 := Lib.hid (readsOver Hn5.out hb6)
      clear Hn5
      have HkT6 := Lib.hid (readsOver Ht.out hb6)
      clear Ht
      clear hb6
      go_wp2
      go_ret
      exact ⟨ret_bool (by simp), hc6⟩
    | some ad =>
      go_wp2_with fail
      refine (equalDebts_any (some ad) AO _ _ cP cO out out _ (Ht.out) (HkO5.out) rfl rfl (by omega) (by omega)).mono ?_
      rw [decide_eq_true (rfl : out = out)]
      rintro e w6 ⟨rfl, hb6⟩
      have hc6 : Below w.heap.size w w6 := bT hc5 hb6
      have HkL6 := Lib.hid (readsOver HkL5.out hb6)
      clear HkL5
      have HkO6 := Lib.hid (readsOver HkO5.out hb6)
      clear HkO5
      have HkW6 := Lib.hid (readsOver HkW5.out hb6)
      clear HkW5
      have HkP6 := Lib.hid (readsOver Hn5.out hb6)
      clear Hn5
      have HkT6 := Lib.hid (readsOver Ht.out hb6)
      clear Ht
      clear hb6
      go_wp2
      go_ret
      exact ⟨ret_bool (by simp), hc6⟩

set_option maxRecDepth 100000 in
theorem lifted (os : Os) (started : os.Started) (H : Type) (enc : TypeId × Value → H) :
    ReturnsInHanded {} Try.checked os 12 .any (Rows.fnOldDebtsMoreSpec.pre6 enc Try.prog Try.f12 Rows.fnOldDebtsMoreRow.domain false) (Rows.fnOldDebtsMoreSpec.post enc Try.prog Try.f12 false true false false) := by
  refine returnsInHanded_of_change (C := Try.checked) Cells.own started (by kernel_rfl) Try.func12
    (ChangeSpec.witness6 (enc := enc) (C := Try.checked) false ⟨#[], #[.slice none 0 0], []⟩ 8 (by kernel_rfl) (by kernel_rfl) (by kernel_rfl) (by kernel_rfl)) ?_
  intro W base args ds gs before hval0 hW _ _
  have hval : ∀ (j : Nat) t v, Try.f12.params[j]? = some t → args[j]? = some v → Value.okWide Try.prog W .any base t v := hval0
  have hW' := hW
  obtain ⟨p, q, hA0, hV, rfl, _, _⟩ := hW
  have hA : DataW.TrodAll enc Try.prog W 0 (fun _ => true) true Try.f12.params.toList args.toList ds p := hA0
  rw [Try.params12] at hA hval
  obtain ⟨v0, d0, rfl, rfl, h0⟩ := trodAll_one hA
  obtain ⟨rfl, rfl⟩ := trodVars_none hV
  obtain ⟨a0, len, cap, rfl⟩ := okWide_slice Try.underlying22 (hval 0 22 v0 rfl rfl)
  clear hA0 hval0
  simp only [List.append_nil] at hW'
  obtain ⟨hb, hargs⟩ := opened h0 (fun x hx => by simpa using hW'.lt x hx)
  refine (walk a0 len cap W hb).mono fun e W' ⟨he, hnx⟩ => ?_
  subst he
  exact ⟨_, rfl, _, _, _, [], _, [], hW', trodAll_mk1 (shut_bool Try.underlying4 _), trodAll_mk1 (hargs _ hnx), rfl, hnx.frame _, fun h => by cases h⟩

theorem closed : joinedFacts Try.prog 12 Try.f12 Rows.fnOldDebtsMoreSpec Rows.fnOldDebtsMoreRow = true := by
  unfold joinedFacts
  rw [Cells.laidOut, Cells.mapsRowed_, Cells.stops, Cells.stopKnobs, Cells.plainKeys, Cells.stopsHeard, Cells.mayEnter, Cells.liftsFinal, Cells.make]
  kernel_rfl

theorem over : Rows.fnOldDebtsMoreRow.holds Try.pinned (OpenSpec.ofChange Rows.fnOldDebtsMoreSpec) :=
  OpenClaim.holds_of_wide 12 Try.f12 rfl rfl rfl rfl rfl rfl rfl ⟨rfl, rfl, rfl, rfl, rfl⟩ rfl rfl rfl rfl rfl (by kernel_rfl) Try.func12 closed
    (of_decide_eq_true (by kernel_rfl)) (by unfold Func.isWrapper; first | (rw [if_pos (by decide +kernel)]; kernel_rfl) | (rw [if_neg (by decide +kernel)]; exact ⟨rfl, rfl⟩))
    (fun os started H enc _ => lifted os started H enc)

/-- THE STATEMENT -/
theorem proved : Rows.FnOldDebtsMoreSaid := over
#print axioms proved
end Go.Proofs.Ytpdddadplagcpaa.fnOldDebtsMore
