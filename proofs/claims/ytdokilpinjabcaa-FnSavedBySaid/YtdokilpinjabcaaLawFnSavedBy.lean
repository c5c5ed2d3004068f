/-
  Caps save money: for every code, with the charges and caps drawn from it, the law FnSavedBy returns true and leaves the code as it was. No conditions.
-/
import Derived.Test.YtdokilpinjabcaaCapLaw
import Derived.Test.YtdokilpinjabcaaLiftBytes
namespace Go.Proofs.Ytdokilpinjabcaa.fnSavedBy
open Go.ChangeShapes Go.WideShapes Go.ChangeAt Go.RowKit
set_option linter.unusedVariables false

set_option maxRecDepth 100000 in
set_option maxHeartbeats 1500000 in
theorem walk (A : Option Addr) (n c : Nat) (w : World) (h : Bytes w w.heap.size A n c) : Calls Try.prog 8 #[.slice A n c] w (TrueBelow w) := by
  by_cases hn : 1048576 < n
  · go_enter Try.func8, Try.ntmps8
    go_wp2
    go_ret
    exact ⟨rfl, Below.refl _ _⟩
  · go_enter Try.func8, Try.ntmps8
    go_wp2_with fail
    refine (drawSavedBy_any A n c w h).mono ?_
    rintro e w1 ⟨v, ys, a, b, rfl, hown1, hlen, hsm, a0, a1, b0, b1, hb1⟩
    obtain ⟨Av, cv, rfl, hcv1, hcv2, hrs1⟩ := hown1.form
    unfold maxLen at hcv2
    have Hrs1 := Lib.hid hrs1; clear hrs1
    have Hsm := Lib.hid hsm; clear hsm hown1
    obtain ⟨R, hR⟩ : ∃ R, R = Fares.savedBy ys a b := ⟨_, rfl⟩
    have HR := Lib.hid hR; clear hR
    go_wp2_with fail
    refine (implSavedBy_any Av _ cv ys a b _ Hrs1.out rfl (by omega)).mono ?_
    rintro e w2 ⟨rfl, hb2⟩
    rw [← HR.out]
    have hc2 : Below w.heap.size w w2 := bT hb1 hb2
    have Hrs2 := Lib.hid ((Hrs1.out.below hb2 (Nat.le_refl _)).more hb2.size)
    clear hb2
    go_wp2_with fail
    refine (specSavedBy_any Av _ cv ys a b _ Hrs2.out rfl (by omega)).mono ?_
    rintro e w3 ⟨rfl, hb3⟩
    rw [← HR.out]
    have hc3 : Below w.heap.size w w3 := bT hc2 hb3
    have Hrs3 := Lib.hid ((Hrs2.out.below hb3 (Nat.le_refl _)).more hb3.size)
    clear hb3
    by_cases hv : (Fares.validCharges ys && Fares.capOk a && Fares.capOk b) = true
    · have hRv : R = Fares.amountSum ys - Fares.sumI (Fares.capRun ys a b ys.length) := by rw [HR.out]; unfold Fares.savedBy; rw [if_pos hv]
      simp only [Bool.and_eq_true] at hv
      obtain ⟨⟨hv, hda⟩, hwb⟩ := hv
      have hR0 : 0 ≤ R := by rw [hRv]; exact Fares.savedBy_nonneg hv
      have hRn : decide (R < 0) = false := by rw [decide_eq_false_iff_not]; omega
      obtain ⟨a2, a3⟩ := Fares.capOk_iff.1 hda
      obtain ⟨b2, b3⟩ := Fares.capOk_iff.1 hwb
      have hylen := Fares.length_of_validCharges hv
      have hmem := Fares.chargeOk_mem hv
      have hmem2 : ∀ c ∈ ys, 0 ≤ c.a ∧ c.a ≤ 4000 := fun c h => ⟨(hmem c h).2.2.1, (hmem c h).2.2.2⟩
      have hamb := Fares.amountSum_bounds ys hmem2
      have htot := Fares.sumI_dayTotals hv
      have htb : ∀ x ∈ Fares.dayTotals ys, 0 ≤ x ∧ x ≤ 96000 := fun x hx => by
        unfold Fares.dayTotals at hx
        rw [if_pos hv] at hx
        unfold Fares.totals at hx
        rw [List.mem_map] at hx
        obtain ⟨i, _, rfl⟩ := hx
        have := Fares.dayTotal_bounds i ys hmem2
        omega
      have htl : (Fares.dayTotals ys).length ≤ 29 := Fares.dayTotals_length ys
      have HV := Lib.hid hv; clear hv
      have HDA := Lib.hid hda; clear hda
      have HWB := Lib.hid hwb; clear hwb
      have Hmem := Lib.hid hmem; clear hmem
      have Hmem2 := Lib.hid hmem2; clear hmem2
      have Htb := Lib.hid htb; clear htb
      have Htot := Lib.hid htot; clear htot
      have HRv := Lib.hid hRv; clear hRv
      go_wp2_with fail
      refine (implCapCharges_any Av _ cv ys a b _ Hrs3.out rfl (by omega)).mono ?_
      rintro e w4 ⟨vo, rfl, hown4, hb4⟩
      rw [Fares.capCharges_valid HV.out HDA.out HWB.out] at hown4
      have hc4 : Below w.heap.size w w4 := bT hc3 hb4
      have Hrs4 := Lib.hid ((Hrs3.out.below hb4 (Nat.le_refl _)).more hb4.size)
      obtain ⟨Ao, co, rfl, _, _, hro⟩ := hown4.form
      have hrl := Fares.capRun_length ys a b _ (Nat.le_refl ys.length)
      have hsb := Fares.sumI_bounds 4000 _ (Fares.capRun_bounds a b Hmem2.out ys.length)
      rw [hrl] at hsb
      have Hro := Lib.hid hro; clear hro hown4 hb4
      have Hrl := Lib.hid hrl; clear hrl
      rw [Hrl.out]
      go_wp2_with fail
      refine (lawsum_any Ao _ co _ 4000 _ Hro.out Hrl.out (by omega) (by omega) (Fares.capRun_bounds a b Hmem2.out _)).mono ?_
      rintro e w' ⟨rfl, rfl⟩
      have hfin : R + Fares.sumI (Fares.capRun ys a b ys.length) = Fares.amountSum ys := by rw [HRv.out]; omega
      go_wp2_with fail
      refine (implDayTotals_any Av _ cv ys _ Hrs4.out rfl (by omega)).mono ?_
      rintro e w5 ⟨vt, rfl, hownt, hbt⟩
      have hc5 : Below w.heap.size w w5 := bT hc4 hbt
      obtain ⟨At, ct, rfl, _, _, hrt⟩ := hownt.form
      have Hrt := Lib.hid hrt; clear hrt hownt
      go_wp2_with fail
      refine (lawsum_any At _ ct (Fares.dayTotals ys) 96000 _ Hrt.out rfl (by omega) (by omega) Htb.out).mono ?_
      rintro e w' ⟨rfl, rfl⟩
      rw [Htot.out]
      go_wp2
      go_ret
      exact ⟨rfl, hc5⟩
    · have hRv : R = -1 := by rw [HR.out]; unfold Fares.savedBy; rw [if_neg hv]
      have hRn : R < 0 := by omega
      clear hv
      have Hneg := Lib.hid hRv; clear hRv
      go_wp2_with fail
      refine (specSavedBy_any Av _ cv ys a b _ Hrs3.out rfl (by omega)).mono ?_
      rintro e w4 ⟨rfl, hb4⟩
      rw [← HR.out]
      have hc4 : Below w.heap.size w w4 := bT hc3 hb4
      go_wp2
      go_ret
      exact ⟨rfl, hc4⟩

set_option maxRecDepth 100000 in
theorem lifted (os : Os) (started : os.Started) (H : Type) (enc : TypeId × Value → H) :
    ReturnsInHanded {} Try.checked os 8 .any (Rows.fnSavedBySpec.pre6 enc Try.prog Try.f8 Rows.fnSavedByRow.domain false) (Rows.fnSavedBySpec.post enc Try.prog Try.f8 false true false false) := by
  refine returnsInHanded_of_change (C := Try.checked) Cells.own started (by kernel_rfl) Try.func8
    (ChangeSpec.witness6 (enc := enc) (C := Try.checked) false ⟨#[], #[.slice none 0 0], []⟩ 8 (by kernel_rfl) (by kernel_rfl) (by kernel_rfl) (by kernel_rfl)) ?_
  intro W base args ds gs before hval0 hW _ _
  have hval : ∀ (j : Nat) t v, Try.f8.params[j]? = some t → args[j]? = some v → Value.okWide Try.prog W .any base t v := hval0
  have hW' := hW
  obtain ⟨p, q, hA0, hV, rfl, _, _⟩ := hW
  have hA : DataW.TrodAll enc Try.prog W 0 (fun _ => true) true Try.f8.params.toList args.toList ds p := hA0
  rw [Try.params8] at hA hval
  obtain ⟨v0, d0, rfl, rfl, h0⟩ := trodAll_one hA
  obtain ⟨rfl, rfl⟩ := trodVars_none hV
  obtain ⟨a0, len, cap, rfl⟩ := okWide_slice Try.underlying22 (hval 0 22 v0 rfl rfl)
  clear hA0 hval0
  simp only [List.append_nil] at hW'
  obtain ⟨hb, hargs⟩ := opened h0 (fun x hx => by simpa using hW'.lt x hx)
  refine (walk a0 len cap W hb).mono fun e W' ⟨he, hnx⟩ => ?_
  subst he
  exact ⟨_, rfl, _, _, _, [], _, [], hW', trodAll_mk1 (shut_bool Try.underlying4 _), trodAll_mk1 (hargs _ hnx), rfl, hnx.frame _, fun h => by cases h⟩

theorem closed : joinedFacts Try.prog 8 Try.f8 Rows.fnSavedBySpec Rows.fnSavedByRow = true := by
  unfold joinedFacts
  rw [Cells.laidOut, Cells.mapsRowed_, Cells.stops, Cells.stopKnobs, Cells.plainKeys, Cells.stopsHeard, Cells.mayEnter, Cells.liftsFinal, Cells.make]
  kernel_rfl

theorem over : Rows.fnSavedByRow.holds Try.pinned (OpenSpec.ofChange Rows.fnSavedBySpec) :=
  OpenClaim.holds_of_wide 8 Try.f8 rfl rfl rfl rfl rfl rfl rfl ⟨rfl, rfl, rfl, rfl, rfl⟩ rfl rfl rfl rfl rfl (by kernel_rfl) Try.func8 closed
    (of_decide_eq_true (by kernel_rfl)) (by unfold Func.isWrapper; first | (rw [if_pos (by decide +kernel)]; kernel_rfl) | (rw [if_neg (by decide +kernel)]; exact ⟨rfl, rfl⟩))
    (fun os started H enc _ => lifted os started H enc)

/-- THE STATEMENT -/
theorem proved : Rows.FnSavedBySaid := over
#print axioms proved
end Go.Proofs.Ytdokilpinjabcaa.fnSavedBy
