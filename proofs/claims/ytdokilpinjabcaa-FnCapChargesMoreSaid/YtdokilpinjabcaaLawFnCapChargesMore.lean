/-
  Higher caps cost at least as much: for every code, with the charges and caps drawn from it, the law FnCapChargesMore returns true and leaves the code as it was. No conditions.
-/
import Derived.Test.YtdokilpinjabcaaCapLaw
import Derived.Test.YtdokilpinjabcaaLiftBytes
namespace Go.Proofs.Ytdokilpinjabcaa.fnCapChargesMore
open Go.ChangeShapes Go.WideShapes Go.ChangeAt Go.RowKit
set_option linter.unusedVariables false

set_option maxRecDepth 100000 in
set_option maxHeartbeats 1500000 in
theorem walk (A : Option Addr) (n c : Nat) (w : World) (h : Bytes w w.heap.size A n c) : Calls Try.prog 6 #[.slice A n c] w (TrueBelow w) := by
  by_cases hn : 1048576 < n
  · go_enter Try.func6, Try.ntmps6
    go_wp2
    go_ret
    exact ⟨rfl, Below.refl _ _⟩
  · go_enter Try.func6, Try.ntmps6
    go_wp2_with fail
    refine (drawCapCharges_any A n c w h).mono ?_
    rintro e w1 ⟨v, ys, a, b, rfl, hown1, hlen, hsm, a0, a1, b0, b1, hb1⟩
    obtain ⟨Av, cv, rfl, hcv1, hcv2, hrs1⟩ := hown1.form
    unfold maxLen at hcv2
    have Hrs1 := Lib.hid hrs1; clear hrs1
    have Hsm := Lib.hid hsm; clear hsm hown1
    obtain ⟨R, hR⟩ : ∃ R, R = Fares.capCharges ys a b := ⟨_, rfl⟩
    have hRl : R.length ≤ 24 := by rw [hR]; exact Fares.capCharges_length ys a b
    have HR := Lib.hid hR; clear hR
    go_wp2_with fail
    refine (implCapCharges_any Av _ cv ys a b _ Hrs1.out rfl (by omega)).mono ?_
    rintro e w2 ⟨vo, rfl, hown2, hb2⟩
    rw [← HR.out] at hown2
    have hc2 : Below w.heap.size w w2 := bT hb1 hb2
    have Hrs2 := Lib.hid ((Hrs1.out.below hb2 (Nat.le_refl _)).more hb2.size)
    obtain ⟨Ao, co, rfl, hco1, hco2, hro2⟩ := hown2.form
    unfold maxLen at hco2
    have Hro2 := Lib.hid hro2; clear hro2 hown2 hb2
    go_wp2_with fail
    refine (specCapCharges_any Av _ cv ys a b _ Hrs2.out rfl (by omega)).mono ?_
    rintro e w3 ⟨vs, rfl, hown3, hb3⟩
    rw [← HR.out] at hown3
    have hc3 : Below w.heap.size w w3 := bT hc2 hb3
    have Hrs3 := Lib.hid ((Hrs2.out.below hb3 (Nat.le_refl _)).more hb3.size)
    have Hro3 := Lib.hid ((Hro2.out.below hb3 (Nat.le_refl _)).more hb3.size)
    obtain ⟨As, cs, rfl, _, _, hrp3⟩ := hown3.form
    have Hrp3 := Lib.hid hrp3; clear hrp3 hown3 hb3
    go_wp2_with fail
    refine (equalInts_any Ao As _ _ co cs R R _ Hro3.out Hrp3.out rfl rfl (by omega) (by omega)).mono ?_
    rintro e w4 ⟨rfl, hb4⟩
    rw [decide_eq_true (rfl : R = R)]
    have hc4 : Below w.heap.size w w4 := bT hc3 hb4
    have Hrs4 := Lib.hid ((Hrs3.out.below hb4 (Nat.le_refl _)).more hb4.size)
    have Hro4 := Lib.hid ((Hro3.out.below hb4 (Nat.le_refl _)).more hb4.size)
    clear hb4
    clear Hrs1 Hrs2 Hro2 Hrs3 Hro3 Hrp3
    by_cases hl0 : R.length = 0
    · skip
      obtain rfl : R = [] := List.eq_nil_of_length_eq_zero hl0
      go_wp2_with fail
      refine (specCapCharges_any Av _ cv ys a b _ Hrs4.out rfl (by omega)).mono ?_
      rintro e w5 ⟨vs5, rfl, hown5, hb5⟩
      rw [← HR.out] at hown5
      have hc5 : Below w.heap.size w w5 := bT hc4 hb5
      have Hro5 := Lib.hid ((Hro4.out.below hb5 (Nat.le_refl _)).more hb5.size)
      obtain ⟨As5, cs5, rfl, _, _, hrp5⟩ := hown5.form
      have Hrp5 := Lib.hid hrp5; clear hrp5 hown5 hb5
      go_wp2_with fail
      refine (equalInts_any Ao As5 0 0 co cs5 [] [] _ Hro5.out Hrp5.out rfl rfl (by omega) (by omega)).mono ?_
      rintro e w6 ⟨rfl, hb6⟩
      rw [decide_eq_true (rfl : ([] : List Int) = [])]
      go_wp2
      go_ret
      exact ⟨rfl, bT hc5 hb6⟩
    · have hl1 : 0 < R.length := by omega
      have l1 : ((R.length : Int) == 0) = false := by rw [beq_eq_false_iff_ne]; omega
      have hfacts := Fares.capCharges_some (xs := ys) (D := a) (W := b) (by rw [← HR.out]; omega)
      obtain ⟨hv, hda, hwb, hrun⟩ := hfacts
      have HR2 := Lib.hid (show R = Fares.capRun ys a b ys.length by rw [HR.out]; exact hrun)
      have hRl2 : R.length = ys.length := by rw [HR2.out]; exact Fares.capRun_length ys a b _ (Nat.le_refl _)
      obtain ⟨a2, a3⟩ := Fares.capOk_iff.1 hda
      obtain ⟨b2, b3⟩ := Fares.capOk_iff.1 hwb
      have hmem := Fares.chargeOk_mem hv
      have hmem2 : ∀ c ∈ ys, 0 ≤ c.a ∧ c.a ≤ 4000 := fun c h => ⟨(hmem c h).2.2.1, (hmem c h).2.2.2⟩
      have hbd : ∀ o ∈ R, 0 ≤ o ∧ o ≤ 4000 := by rw [HR2.out]; exact Fares.capRun_bounds a b hmem2 _
      have HV := Lib.hid hv; clear hv hrun
      have HDA := Lib.hid hda; clear hda
      have HWB := Lib.hid hwb; clear hwb
      have Hmem := Lib.hid hmem; clear hmem
      have Hmem2 := Lib.hid hmem2; clear hmem2
      have Hbd := Lib.hid hbd; clear hbd
      have Hl2 := Lib.hid hRl2
      have hylen : ys.length ≤ 24 := by omega
      clear hRl2
      by_cases hmax : a = 50000
      · have hm1 : (a == 50000) = true := by simpa using hmax
        have Hmax := Lib.hid hmax; clear hmax
        go_wp2_with fail
        refine (specCapCharges_any Av _ cv ys a b _ Hrs4.out rfl (by omega)).mono ?_
        rintro e w5 ⟨vs5, rfl, hown5, hb5⟩
        rw [← HR.out] at hown5
        have hc5 : Below w.heap.size w w5 := bT hc4 hb5
        have Hro5 := Lib.hid ((Hro4.out.below hb5 (Nat.le_refl _)).more hb5.size)
        obtain ⟨As5, cs5, rfl, _, _, hrp5⟩ := hown5.form
        have Hrp5 := Lib.hid hrp5; clear hrp5 hown5 hb5
        go_wp2_with fail
        refine (equalInts_any Ao As5 _ _ co cs5 R R _ Hro5.out Hrp5.out rfl rfl (by omega) (by omega)).mono ?_
        rintro e w6 ⟨rfl, hb6⟩
        rw [decide_eq_true (rfl : R = R)]
        go_wp2
        go_ret
        exact ⟨rfl, bT hc5 hb6⟩
      · have hm1 : (a == 50000) = false := by simpa using hmax
        have hmono := Fares.capTotal_mono ys (show a ≤ a + 1 by omega) (Int.le_refl b)
        rw [← Fares.capRun_total ys a b a2 b2 Hmem.out, ← Fares.capRun_total ys (a + 1) b (by omega) b2 Hmem.out] at hmono
        have hzero := Fares.capTotal_none ys (D := 0) (W := b) Hmem2.out b2 rfl
        rw [← Fares.capRun_total ys 0 b (by omega) b2 Hmem.out] at hzero
        have Hz := Lib.hid hzero; clear hzero
        go_wp2_with fail
        refine (implCapCharges_any Av _ cv ys (a + 1) (b) _ Hrs4.out rfl (by omega)).mono ?_
        rintro e w5 ⟨vo5, rfl, hown5, hb5⟩
        rw [Fares.capCharges_valid HV.out (Fares.capOk_of (by omega) (by omega)) (HWB.out)] at hown5
        have hc5 : Below w.heap.size w w5 := bT hc4 hb5
        have Hrs5 := Lib.hid ((Hrs4.out.below hb5 (Nat.le_refl _)).more hb5.size)
        have Hro5 := Lib.hid ((Hro4.out.below hb5 (Nat.le_refl _)).more hb5.size)
        obtain ⟨Ao5, co5, rfl, _, _, hri5⟩ := hown5.form
        have Hri5 := Lib.hid hri5; clear hri5 hown5 hb5
        go_wp2_with fail
        refine (lawsum_any Ao5 _ co5 _ 4000 _ Hri5.out rfl (by rw [Fares.capRun_length ys _ _ _ (Nat.le_refl _)]; omega) (by omega) (Fares.capRun_bounds _ _ Hmem2.out _)).mono ?_
        rintro e w' ⟨rfl, rfl⟩
        go_wp2_with fail
        refine (lawsum_any Ao _ co R 4000 _ Hro5.out rfl (by omega) (by omega) Hbd.out).mono ?_
        rintro e w' ⟨rfl, rfl⟩
        rw [HR2.out]
        have hge : decide (Fares.sumI (Fares.capRun ys a b ys.length) ≤ Fares.sumI (Fares.capRun ys (a + 1) b ys.length)) = true := by simpa using hmono
        go_wp2_with fail
        refine (implCapCharges_any Av _ cv ys (0) (b) _ Hrs5.out rfl (by omega)).mono ?_
        rintro e w6 ⟨vo6, rfl, hown6, hb6⟩
        rw [Fares.capCharges_valid HV.out (Fares.capOk_of (by omega) (by omega)) (HWB.out)] at hown6
        have hc6 : Below w.heap.size w w6 := bT hc5 hb6
        have Hrs6 := Lib.hid ((Hrs5.out.below hb6 (Nat.le_refl _)).more hb6.size)
        have Hro6 := Lib.hid ((Hro5.out.below hb6 (Nat.le_refl _)).more hb6.size)
        obtain ⟨Ao6, co6, rfl, _, _, hri6⟩ := hown6.form
        have Hri6 := Lib.hid hri6; clear hri6 hown6 hb6
        go_wp2_with fail
        refine (lawsum_any Ao6 _ co6 _ 4000 _ Hri6.out rfl (by rw [Fares.capRun_length ys _ _ _ (Nat.le_refl _)]; omega) (by omega) (Fares.capRun_bounds _ _ Hmem2.out _)).mono ?_
        rintro e w' ⟨rfl, rfl⟩
        rw [Hz.out]
        go_wp2
        go_ret
        exact ⟨rfl, hc6⟩

set_option maxRecDepth 100000 in
theorem lifted (os : Os) (started : os.Started) (H : Type) (enc : TypeId × Value → H) :
    ReturnsInHanded {} Try.checked os 6 .any (Rows.fnCapChargesMoreSpec.pre6 enc Try.prog Try.f6 Rows.fnCapChargesMoreRow.domain false) (Rows.fnCapChargesMoreSpec.post enc Try.prog Try.f6 false true false false) := by
  refine returnsInHanded_of_change (C := Try.checked) Cells.own started (by kernel_rfl) Try.func6
    (ChangeSpec.witness6 (enc := enc) (C := Try.checked) false ⟨#[], #[.slice none 0 0], []⟩ 8 (by kernel_rfl) (by kernel_rfl) (by kernel_rfl) (by kernel_rfl)) ?_
  intro W base args ds gs before hval0 hW _ _
  have hval : ∀ (j : Nat) t v, Try.f6.params[j]? = some t → args[j]? = some v → Value.okWide Try.prog W .any base t v := hval0
  have hW' := hW
  obtain ⟨p, q, hA0, hV, rfl, _, _⟩ := hW
  have hA : DataW.TrodAll enc Try.prog W 0 (fun _ => true) true Try.f6.params.toList args.toList ds p := hA0
  rw [Try.params6] at hA hval
  obtain ⟨v0, d0, rfl, rfl, h0⟩ := trodAll_one hA
  obtain ⟨rfl, rfl⟩ := trodVars_none hV
  obtain ⟨a0, len, cap, rfl⟩ := okWide_slice Try.underlying22 (hval 0 22 v0 rfl rfl)
  clear hA0 hval0
  simp only [List.append_nil] at hW'
  obtain ⟨hb, hargs⟩ := opened h0 (fun x hx => by simpa using hW'.lt x hx)
  refine (walk a0 len cap W hb).mono fun e W' ⟨he, hnx⟩ => ?_
  subst he
  exact ⟨_, rfl, _, _, _, [], _, [], hW', trodAll_mk1 (shut_bool Try.underlying4 _), trodAll_mk1 (hargs _ hnx), rfl, hnx.frame _, fun h => by cases h⟩

theorem closed : joinedFacts Try.prog 6 Try.f6 Rows.fnCapChargesMoreSpec Rows.fnCapChargesMoreRow = true := by
  unfold joinedFacts
  rw [Cells.laidOut, Cells.mapsRowed_, Cells.stops, Cells.stopKnobs, Cells.plainKeys, Cells.stopsHeard, Cells.mayEnter, Cells.liftsFinal, Cells.make]
  kernel_rfl

theorem over : Rows.fnCapChargesMoreRow.holds Try.pinned (OpenSpec.ofChange Rows.fnCapChargesMoreSpec) :=
  OpenClaim.holds_of_wide 6 Try.f6 rfl rfl rfl rfl rfl rfl rfl ⟨rfl, rfl, rfl, rfl, rfl⟩ rfl rfl rfl rfl rfl (by kernel_rfl) Try.func6 closed
    (of_decide_eq_true (by kernel_rfl)) (by unfold Func.isWrapper; first | (rw [if_pos (by decide +kernel)]; kernel_rfl) | (rw [if_neg (by decide +kernel)]; exact ⟨rfl, rfl⟩))
    (fun os started H enc _ => lifted os started H enc)

/-- THE STATEMENT -/
theorem proved : Rows.FnCapChargesMoreSaid := over
#print axioms proved
end Go.Proofs.Ytdokilpinjabcaa.fnCapChargesMore
