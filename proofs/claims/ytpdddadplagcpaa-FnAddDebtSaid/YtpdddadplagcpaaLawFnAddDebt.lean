/-
  Added debts are owed: at every code, with the debts, the day and the amount drawn from it, the law FnAddDebt returns true and leaves the code as it was. No conditions.
-/
import Derived.Test.YtpdddadplagcpaaDebtAddImpl
import Derived.Test.YtpdddadplagcpaaDebtAddLaw
import Derived.Test.YtpdddadplagcpaaDebtFn6
import Derived.Test.YtpdddadplagcpaaEqualDebt
import Derived.Test.YtpdddadplagcpaaDrawAddDebt
import Derived.Test.YtpdddadplagcpaaLiftBytes
set_option linter.unusedSimpArgs false
namespace Go.Proofs.Ytpdddadplagcpaa.fnAddDebt
open Go.ChangeShapes Go.WideShapes Go.ChangeAt Go.RowKit
set_option linter.unusedVariables false

set_option maxRecDepth 100000 in
set_option maxHeartbeats 2000000 in
theorem walk (A : Option Addr) (n c : Nat) (w : World) (h : Bytes w w.heap.size A n c) : Calls Try.prog 5 #[.slice A n c] w (TrueBelow w) := by
  by_cases hn : 1048576 < n
  · go_enter Try.func5, Try.ntmps5
    go_wp2
    go_ret
    exact ⟨rfl, Below.refl _ _⟩
  · go_enter Try.func5, Try.ntmps5
    go_wp2_with fail
    refine (drawAddDebt_any A n c w h).mono ?_
    rintro e w1 ⟨v, xs, day, m, rfl, ho, hlen, hsm, dy0, dy1, m0, m1, hc1⟩
    have hcode : n ≤ 1048576 := by omega
    clear h hsm
    obtain ⟨AL, cL, rfl, lL1, lL2, hr⟩ := ho.form
    have oL := ho.nilOk
    clear ho
    have HL1 := Lib.hid hr; clear hr
    unfold maxLen at lL2
    obtain ⟨out, ok, hP⟩ : ∃ out ok, Fares.addDebt xs day m = (out, ok) := ⟨_, _, rfl⟩
    have hol : out.length ≤ 29 := by have := Fares.addDebt_length xs day m; rw [hP] at this; exact this
    go_wp2_with fail
    refine (implAddDebt_any AL xs.length cL xs day m _ (HL1.out) rfl (by omega) oL lL1 (by unfold maxLen; omega)).mono ?_
    unfold AddsDebt
    rw [hP]
    rintro e w2 ⟨v, rfl, ho, hb2⟩
    obtain ⟨AO, cO, rfl, lO1, lO2, hr⟩ := ho.form
    have oO := ho.nilOk
    clear ho
    have Hn2 := Lib.hid hr; clear hr
    have hc2 : Below w.heap.size w w2 := bT hc1 hb2
    have HkL2 := Lib.hid (readsOver HL1.out hb2)
    clear HL1
    clear hb2
    go_wp2_with fail
    refine (specAddDebt_any AL xs.length cL xs day m _ (HkL2.out) rfl (by omega)).mono ?_
    unfold AddsDebt
    rw [hP]
    rintro e w3 ⟨v, rfl, ho, hb3⟩
    obtain ⟨AW, cW, rfl, lW1, lW2, hr⟩ := ho.form
    have oW := ho.nilOk
    clear ho
    have Hn3 := Lib.hid hr; clear hr
    have hc3 : Below w.heap.size w w3 := bT hc2 hb3
    have HkL3 := Lib.hid (readsOver HkL2.out hb3)
    clear HkL2
    have HkO3 := Lib.hid (readsOver Hn2.out hb3)
    clear Hn2
    clear hb3
    go_wp2_with fail
    refine (equalDebts_any AO AW _ _ cO cW out out _ (HkO3.out) (Hn3.out) rfl rfl (by omega) (by omega)).mono ?_
    rw [decide_eq_true (rfl : out = out)]
    rintro e w4 ⟨rfl, hb4⟩
    have hc4 : Below w.heap.size w w4 := bT hc3 hb4
    have HkL4 := Lib.hid (readsOver HkL3.out hb4)
    clear HkL3
    have HkO4 := Lib.hid (readsOver HkO3.out hb4)
    clear HkO3
    have HkW4 := Lib.hid (readsOver Hn3.out hb4)
    clear Hn3
    clear hb4
    by_cases hk : ok = true
    · subst hk
      obtain ⟨g1, g2, g3, g4⟩ := Fares.addDebt_yes hP
      have hs := Fares.addRes_sum xs day m
      rw [g4] at hs
      obtain ⟨n1, n2⟩ := Fares.addRes_count g1.2 day m
      rw [g4] at n1 n2
      have hvo := (Fares.validDebts_iff out).2 g3
      have hvx := (Fares.validDebts_iff xs).2 g1
      have e1 : Fares.debtOf out = Fares.debtSum out := by unfold Fares.debtOf; rw [hvo, if_pos rfl]
      have e2 : Fares.debtOf xs = Fares.debtSum xs := by unfold Fares.debtOf; rw [hvx, if_pos rfl]
      have e3 := Fares.debtSum_in g1
      obtain ⟨sx, Ex⟩ : ∃ sx, Fares.debtSum xs = sx := ⟨_, rfl⟩
      rw [Ex] at e2 e3 hs
      clear g1 g2 g3 g4 hP
      go_wp2_with fail
      refine (implValidDebts_any AO _ cO out _ (HkO4.out) rfl (by omega)).mono ?_
      rw [hvo]
      rintro e w5 ⟨rfl, hb5⟩
      have hc5 : Below w.heap.size w w5 := bT hc4 hb5
      have HkL5 := Lib.hid (readsOver HkL4.out hb5)
      clear HkL4
      have HkO5 := Lib.hid (readsOver HkO4.out hb5)
      clear HkO4
      have HkW5 := Lib.hid (readsOver HkW4.out hb5)
      clear HkW4
      clear hb5
      go_wp2_with fail
      refine (implDebtOf_any AO _ cO out _ (HkO5.out) rfl (by omega)).mono ?_
      rw [e1, hs]
      rintro e w6 ⟨rfl, hb6⟩
      have hc6 : Below w.heap.size w w6 := bT hc5 hb6
      have HkL6 := Lib.hid (readsOver HkL5.out hb6)
      clear HkL5
      have HkO6 := Lib.hid (readsOver HkO5.out hb6)
      clear HkO5
      have HkW6 := Lib.hid (readsOver HkW5.out hb6)
      clear HkW5
      clear hb6
      go_wp2_with fail
      refine (implDebtOf_any AL _ cL xs _ (HkL6.out) rfl (by omega)).mono ?_
      rw [e2]
      rintro e w7 ⟨rfl, hb7⟩
      have hc7 : Below w.heap.size w w7 := bT hc6 hb7
      have HkL7 := Lib.hid (readsOver HkL6.out hb7)
      clear HkL6
      have HkO7 := Lib.hid (readsOver HkO6.out hb7)
      clear HkO6
      have HkW7 := Lib.hid (readsOver HkW6.out hb7)
      clear HkW6
      clear hb7
      have d1 : decide ((xs.length : Int) ≤ (out.length : Int)) = true := by rw [decide_eq_true_eq]; omega
      have d1n : decide (xs.length ≤ out.length) = true := by rw [decide_eq_true_eq]; omega
      have d2 : decide ((out.length : Int) ≤ (xs.length : Int) + 1) = true := by rw [decide_eq_true_eq]; omega
      have W1 : IntKind.i64.wrap (sx + m) = sx + m := IntWalk.i64_in _ (by omega)
      clear n1 n2 hs
      go_wp2
      go_ret
      exact ⟨ret_bool (by simp), hc7⟩
    · obtain rfl : ok = false := by simpa using hk
      go_wp2_with fail
      refine (equalDebts_any AO AW _ _ cO cW out out _ (HkO4.out) (HkW4.out) rfl rfl (by omega) (by omega)).mono ?_
      rw [decide_eq_true (rfl : out = out)]
      rintro e w5 ⟨rfl, hb5⟩
      have hc5 : Below w.heap.size w w5 := bT hc4 hb5
      have HkL5 := Lib.hid (readsOver HkL4.out hb5)
      clear HkL4
      have HkO5 := Lib.hid (readsOver HkO4.out hb5)
      clear HkO4
      have HkW5 := Lib.hid (readsOver HkW4.out hb5)
      clear HkW4
      clear hb5
      go_wp2
      go_ret
      exact ⟨ret_bool (by simp), hc5⟩

set_option maxRecDepth 100000 in
theorem lifted (os : Os) (started : os.Started) (H : Type) (enc : TypeId × Value → H) :
    ReturnsInHanded {} Try.checked os 5 .any (Rows.fnAddDebtSpec.pre6 enc Try.prog Try.f5 Rows.fnAddDebtRow.domain false) (Rows.fnAddDebtSpec.post enc Try.prog Try.f5 false true false false) := by
  refine returnsInHanded_of_change (C := Try.checked) Cells.own started (by kernel_rfl) Try.func5
    (ChangeSpec.witness6 (enc := enc) (C := Try.checked) false ⟨#[], #[.slice none 0 0], []⟩ 8 (by kernel_rfl) (by kernel_rfl) (by kernel_rfl) (by kernel_rfl)) ?_
  intro W base args ds gs before hval0 hW _ _
  have hval : ∀ (j : Nat) t v, Try.f5.params[j]? = some t → args[j]? = some v → Value.okWide Try.prog W .any base t v := hval0
  have hW' := hW
  obtain ⟨p, q, hA0, hV, rfl, _, _⟩ := hW
  have hA : DataW.TrodAll enc Try.prog W 0 (fun _ => true) true Try.f5.params.toList args.toList ds p := hA0
  rw [Try.params5] at hA hval
  obtain ⟨v0, d0, rfl, rfl, h0⟩ := trodAll_one hA
  obtain ⟨rfl, rfl⟩ := trodVars_none hV
  obtain ⟨a0, len, cap, rfl⟩ := okWide_slice Try.underlying22 (hval 0 22 v0 rfl rfl)
  clear hA0 hval0
  simp only [List.append_nil] at hW'
  obtain ⟨hb, hargs⟩ := opened h0 (fun x hx => by simpa using hW'.lt x hx)
  refine (walk a0 len cap W hb).mono fun e W' ⟨he, hnx⟩ => ?_
  subst he
  exact ⟨_, rfl, _, _, _, [], _, [], hW', trodAll_mk1 (shut_bool Try.underlying4 _), trodAll_mk1 (hargs _ hnx), rfl, hnx.frame _, fun h => by cases h⟩

theorem closed : joinedFacts Try.prog 5 Try.f5 Rows.fnAddDebtSpec Rows.fnAddDebtRow = true := by
  unfold joinedFacts
  rw [Cells.laidOut, Cells.mapsRowed_, Cells.stops, Cells.stopKnobs, Cells.plainKeys, Cells.stopsHeard, Cells.mayEnter, Cells.liftsFinal, Cells.make]
  kernel_rfl

theorem over : Rows.fnAddDebtRow.holds Try.pinned (OpenSpec.ofChange Rows.fnAddDebtSpec) :=
  OpenClaim.holds_of_wide 5 Try.f5 rfl rfl rfl rfl rfl rfl rfl ⟨rfl, rfl, rfl, rfl, rfl⟩ rfl rfl rfl rfl rfl (by kernel_rfl) Try.func5 closed
    (of_decide_eq_true (by kernel_rfl)) (by unfold Func.isWrapper; first | (rw [if_pos (by decide +kernel)]; kernel_rfl) | (rw [if_neg (by decide +kernel)]; exact ⟨rfl, rfl⟩))
    (fun os started H enc _ => lifted os started H enc)

/-- THE STATEMENT -/
theorem proved : Rows.FnAddDebtSaid := over
#print axioms proved
end Go.Proofs.Ytpdddadplagcpaa.fnAddDebt
