/-
  Adjustments lead from amounts to amounts: at every code, with both lists of amounts drawn from it, the law FnAdjustments returns true and leaves the code as it was. No conditions.
-/
import Derived.Test.YtnlnlcllnbggdaaAdjApply
import Derived.Test.YtnlnlcllnbggdaaAdjApplySpec
import Derived.Test.YtnlnlcllnbggdaaAdjLaw
import Derived.Test.YtnlnlcllnbggdaaEqualAdjust
import Derived.Test.YtnlnlcllnbggdaaDrawsAdj
import Derived.Test.YtnlnlcllnbggdaaLiftBytes
set_option linter.unusedSimpArgs false
namespace Go.Proofs.Ytnlnlcllnbggdaa.fnAdjustments
open Go.ChangeShapes Go.WideShapes Go.ChangeAt Go.RowKit
set_option linter.unusedVariables false

set_option maxRecDepth 100000 in
set_option maxHeartbeats 2000000 in
theorem walk (A : Option Addr) (n c : Nat) (w : World) (h : Bytes w w.heap.size A n c) : Calls Try.prog 3 #[.slice A n c] w (TrueBelow w) := by
  by_cases hn : 1048576 < n
  · go_enter Try.func3, Try.ntmps3
    go_wp2
    go_ret
    exact ⟨rfl, Below.refl _ _⟩
  · go_enter Try.func3, Try.ntmps3
    go_wp2_with fail
    refine (drawAdjustments_any A n c w h).mono ?_
    rintro e w1 ⟨Aa, Ab, na, nb, ca, cb, us, vs, rfl, ha, hb, la, lb, ka, kb, hc1⟩
    have hcode : n ≤ 1048576 := by omega
    clear h
    subst la lb
    have Ha1 := Lib.hid ha; clear ha
    have Hb1 := Lib.hid hb; clear hb
    skip
    obtain ⟨l, hP⟩ : ∃ l, Fares.adjustments us vs = l := ⟨_, rfl⟩
    have hol : l.length ≤ 29 := hP ▸ Fares.adjustments_length us vs
    go_wp2_with fail
    refine (implAdjustments_any Aa Ab _ _ ca cb us vs _ (Ha1.out) (Hb1.out) rfl rfl (by omega) (by omega)).mono ?_
    rw [hP]
    rintro e w2 ⟨v, rfl, ho, hb2⟩
    obtain ⟨AO, cO, rfl, lO1, lO2, hr⟩ := ho.form
    have oO := ho.nilOk
    clear ho
    have Hn2 := Lib.hid hr; clear hr
    have hc2 : Below w.heap.size w w2 := bT hc1 hb2
    have Hka2 := Lib.hid (readsOver Ha1.out hb2)
    clear Ha1
    have Hkb2 := Lib.hid (readsOver Hb1.out hb2)
    clear Hb1
    clear hb2
    go_wp2_with fail
    refine (specAdjustments_any Aa Ab _ _ ca cb us vs _ (Hka2.out) (Hkb2.out) rfl rfl (by omega) (by omega)).mono ?_
    rw [hP]
    rintro e w3 ⟨v, rfl, ho, hb3⟩
    obtain ⟨AW, cW, rfl, lW1, lW2, hr⟩ := ho.form
    have oW := ho.nilOk
    clear ho
    have Hn3 := Lib.hid hr; clear hr
    have hc3 : Below w.heap.size w w3 := bT hc2 hb3
    have Hka3 := Lib.hid (readsOver Hka2.out hb3)
    clear Hka2
    have Hkb3 := Lib.hid (readsOver Hkb2.out hb3)
    clear Hkb2
    have HkO3 := Lib.hid (readsOver Hn2.out hb3)
    clear Hn2
    clear hb3
    go_wp2_with fail
    refine (equalAdjusts_any AO AW _ _ cO cW l l _ (HkO3.out) (Hn3.out) rfl rfl (by omega) (by omega)).mono ?_
    rw [decide_eq_true (rfl : l = l)]
    rintro e w4 ⟨rfl, hb4⟩
    have hc4 : Below w.heap.size w w4 := bT hc3 hb4
    have Hka4 := Lib.hid (readsOver Hka3.out hb4)
    clear Hka3
    have Hkb4 := Lib.hid (readsOver Hkb3.out hb4)
    clear Hkb3
    have HkO4 := Lib.hid (readsOver HkO3.out hb4)
    clear HkO3
    have HkW4 := Lib.hid (readsOver Hn3.out hb4)
    clear Hn3
    clear hb4
    by_cases hl : 0 < l.length
    · obtain ⟨v1, v2, hap⟩ := Fares.adjust_law hP (by intro e; subst e; simp at hl)
      have e0 : ((l.length : Int) == 0) = false := beq_eq_false_iff_ne.2 (by omega)
      clear v1 v2
      go_wp2_with fail
      refine (implApplyAdjust_any Aa AO _ _ ca cO us l _ (Hka4.out) (HkO4.out) rfl rfl (by omega) (by omega)).mono ?_
      unfold AppliesAdjust
      rw [hap]
      rintro e w5 ⟨v, rfl, ho, hb5⟩
      obtain ⟨AC, cC, rfl, lC1, lC2, hr⟩ := ho.form
      have oC := ho.nilOk
      clear ho
      have Hn5 := Lib.hid hr; clear hr
      have hc5 : Below w.heap.size w w5 := bT hc4 hb5
      have Hka5 := Lib.hid (readsOver Hka4.out hb5)
      clear Hka4
      have Hkb5 := Lib.hid (readsOver Hkb4.out hb5)
      clear Hkb4
      have HkO5 := Lib.hid (readsOver HkO4.out hb5)
      clear HkO4
      have HkW5 := Lib.hid (readsOver HkW4.out hb5)
      clear HkW4
      clear hb5
      go_wp2_with fail
      refine (equalInts_any AC Ab _ _ cC cb vs vs _ (Hn5.out) (Hkb5.out) rfl rfl (by omega) (by omega)).mono ?_
      rw [decide_eq_true (rfl : vs = vs)]
      rintro e w6 ⟨rfl, hb6⟩
      have hc6 : Below w.heap.size w w6 := bT hc5 hb6
      have Hka6 := Lib.hid (readsOver Hka5.out hb6)
      clear Hka5
      have Hkb6 := Lib.hid (readsOver Hkb5.out hb6)
      clear Hkb5
      have HkO6 := Lib.hid (readsOver HkO5.out hb6)
      clear HkO5
      have HkW6 := Lib.hid (readsOver HkW5.out hb6)
      clear HkW5
      have HkC6 := Lib.hid (readsOver Hn5.out hb6)
      clear Hn5
      clear hb6
      go_wp2
      go_ret
      exact ⟨ret_bool (by first | rfl | (simp; done) | (simp; omega)), hc6⟩
    · obtain rfl : l = [] := List.eq_nil_of_length_eq_zero (by omega)
      go_wp2_with fail
      refine (specAdjustments_any Aa Ab _ _ ca cb us vs _ (Hka4.out) (Hkb4.out) rfl rfl (by omega) (by omega)).mono ?_
      rw [hP]
      rintro e w5 ⟨v, rfl, ho, hb5⟩
      obtain ⟨AZ, cZ, rfl, lZ1, lZ2, hr⟩ := ho.form
      have oZ := ho.nilOk
      clear ho
      have Hn5 := Lib.hid hr; clear hr
      have hc5 : Below w.heap.size w w5 := bT hc4 hb5
      have Hka5 := Lib.hid (readsOver Hka4.out hb5)
      clear Hka4
      have Hkb5 := Lib.hid (readsOver Hkb4.out hb5)
      clear Hkb4
      have HkO5 := Lib.hid (readsOver HkO4.out hb5)
      clear HkO4
      have HkW5 := Lib.hid (readsOver HkW4.out hb5)
      clear HkW4
      clear hb5
      go_wp2_with fail
      refine (equalAdjusts_any AO AZ _ _ cO cZ ([] : List Fares.Adjust) ([] : List Fares.Adjust) _ (HkO5.out) (Hn5.out) rfl rfl (by omega) (by omega)).mono ?_
      rw [decide_eq_true (rfl : ([] : List Fares.Adjust) = ([] : List Fares.Adjust))]
      rintro e w6 ⟨rfl, hb6⟩
      have hc6 : Below w.heap.size w w6 := bT hc5 hb6
      have Hka6 := Lib.hid (readsOver Hka5.out hb6)
      clear Hka5
      have Hkb6 := Lib.hid (readsOver Hkb5.out hb6)
      clear Hkb5
      have HkO6 := Lib.hid (readsOver HkO5.out hb6)
      clear HkO5
      have HkW6 := Lib.hid (readsOver HkW5.out hb6)
      clear HkW5
      have HkZ6 := Lib.hid (readsOver Hn5.out hb6)
      clear Hn5
      clear hb6
      go_wp2
      go_ret
      exact ⟨ret_bool (by first | rfl | (simp; done) | (simp; omega)), hc6⟩

set_option maxRecDepth 100000 in
theorem lifted (os : Os) (started : os.Started) (H : Type) (enc : TypeId × Value → H) :
    ReturnsInHanded {} Try.checked os 3 .any (Rows.fnAdjustmentsSpec.pre6 enc Try.prog Try.f3 Rows.fnAdjustmentsRow.domain false) (Rows.fnAdjustmentsSpec.post enc Try.prog Try.f3 false true false false) := by
  refine returnsInHanded_of_change (C := Try.checked) Cells.own started (by kernel_rfl) Try.func3
    (ChangeSpec.witness6 (enc := enc) (C := Try.checked) false ⟨#[], #[.slice none 0 0], []⟩ 8 (by kernel_rfl) (by kernel_rfl) (by kernel_rfl) (by kernel_rfl)) ?_
  intro W base args ds gs before hval0 hW _ _
  have hval : ∀ (j : Nat) t v, Try.f3.params[j]? = some t → args[j]? = some v → Value.okWide Try.prog W .any base t v := hval0
  have hW' := hW
  obtain ⟨p, q, hA0, hV, rfl, _, _⟩ := hW
  have hA : DataW.TrodAll enc Try.prog W 0 (fun _ => true) true Try.f3.params.toList args.toList ds p := hA0
  rw [Try.params3] at hA hval
  obtain ⟨v0, d0, rfl, rfl, h0⟩ := trodAll_one hA
  obtain ⟨rfl, rfl⟩ := trodVars_none hV
  obtain ⟨a0, len, cap, rfl⟩ := okWide_slice Try.underlying22 (hval 0 22 v0 rfl rfl)
  clear hA0 hval0
  simp only [List.append_nil] at hW'
  obtain ⟨hb, hargs⟩ := opened h0 (fun x hx => by simpa using hW'.lt x hx)
  refine (walk a0 len cap W hb).mono fun e W' ⟨he, hnx⟩ => ?_
  subst he
  exact ⟨_, rfl, _, _, _, [], _, [], hW', trodAll_mk1 (shut_bool Try.underlying4 _), trodAll_mk1 (hargs _ hnx), rfl, hnx.frame _, fun h => by cases h⟩

theorem closed : joinedFacts Try.prog 3 Try.f3 Rows.fnAdjustmentsSpec Rows.fnAdjustmentsRow = true := by
  unfold joinedFacts
  rw [Cells.laidOut, Cells.mapsRowed_, Cells.stops, Cells.stopKnobs, Cells.plainKeys, Cells.stopsHeard, Cells.mayEnter, Cells.liftsFinal, Cells.make]
  kernel_rfl

theorem over : Rows.fnAdjustmentsRow.holds Try.pinned (OpenSpec.ofChange Rows.fnAdjustmentsSpec) :=
  OpenClaim.holds_of_wide 3 Try.f3 rfl rfl rfl rfl rfl rfl rfl ⟨rfl, rfl, rfl, rfl, rfl⟩ rfl rfl rfl rfl rfl (by kernel_rfl) Try.func3 closed
    (of_decide_eq_true (by kernel_rfl)) (by unfold Func.isWrapper; first | (rw [if_pos (by decide +kernel)]; kernel_rfl) | (rw [if_neg (by decide +kernel)]; exact ⟨rfl, rfl⟩))
    (fun os started H enc _ => lifted os started H enc)

/-- THE STATEMENT -/
theorem proved : Rows.FnAdjustmentsSaid := over
#print axioms proved
end Go.Proofs.Ytnlnlcllnbggdaa.fnAdjustments
