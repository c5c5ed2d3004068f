/-
  Later charges do not matter: for every code, with the charges and caps drawn from it, the law FnCapChargesPrefix returns true and leaves the code as it was. No conditions.
-/
import Derived.Test.YtdokilpinjabcaaCapLaw
import Derived.Test.YtdokilpinjabcaaReg
import Derived.Test.YtdokilpinjabcaaLiftBytes
namespace Go.Proofs.Ytdokilpinjabcaa.fnCapChargesPrefix
open Go.ChangeShapes Go.WideShapes Go.ChangeAt Go.RowKit
set_option linter.unusedVariables false

set_option maxRecDepth 100000 in
set_option maxHeartbeats 1500000 in
theorem walk (A : Option Addr) (n c : Nat) (w : World) (h : Bytes w w.heap.size A n c) : Calls Try.prog 4 #[.slice A n c] w (TrueBelow w) := by
  by_cases hn : 1048576 < n
  · go_enter Try.func4, Try.ntmps4
    go_wp2
    go_ret
    exact ⟨rfl, Below.refl _ _⟩
  · go_enter Try.func4, Try.ntmps4
    go_wp2_with fail
    refine (drawCapCharges_any A n c w h).mono ?_
    rintro e w1 ⟨v, ys, a, b, rfl, hown1, hlen, hsm, a0, a1, b0, b1, hb1⟩
    obtain ⟨Av, cv, rfl, hcv1, hcv2, hrs1⟩ := hown1.form
    unfold maxLen at hcv2
    have Hrs1 := Lib.hid hrs1; clear hrs1
    have Hsm := Lib.hid hsm; clear hsm hown1
    obtain ⟨R, hR⟩ : ∃ R, R = Fares.capCharges ys a b := ⟨_, rfl⟩
    have hRl : R.length ≤ 24 := by rw [hR]; exact Fares.capCharges_length ys a b
    have HR := Lib.hid hR; clear hR
    go_wp2_with fail
    refine (implCapCharges_any Av _ cv ys a b _ Hrs1.out rfl (by omega)).mono ?_
    rintro e w2 ⟨vo, rfl, hown2, hb2⟩
    rw [← HR.out] at hown2
    have hc2 : Below w.heap.size w w2 := bT hb1 hb2
    have Hrs2 := Lib.hid ((Hrs1.out.below hb2 (Nat.le_refl _)).more hb2.size)
    obtain ⟨Ao, co, rfl, hco1, hco2, hro2⟩ := hown2.form
    unfold maxLen at hco2
    have Hro2 := Lib.hid hro2; clear hro2 hown2 hb2
    go_wp2_with fail
    refine (specCapCharges_any Av _ cv ys a b _ Hrs2.out rfl (by omega)).mono ?_
    rintro e w3 ⟨vs, rfl, hown3, hb3⟩
    rw [← HR.out] at hown3
    have hc3 : Below w.heap.size w w3 := bT hc2 hb3
    have Hrs3 := Lib.hid ((Hrs2.out.below hb3 (Nat.le_refl _)).more hb3.size)
    have Hro3 := Lib.hid ((Hro2.out.below hb3 (Nat.le_refl _)).more hb3.size)
    obtain ⟨As, cs, rfl, _, _, hrp3⟩ := hown3.form
    have Hrp3 := Lib.hid hrp3; clear hrp3 hown3 hb3
    go_wp2_with fail
    refine (equalInts_any Ao As _ _ co cs R R _ Hro3.out Hrp3.out rfl rfl (by omega) (by omega)).mono ?_
    rintro e w4 ⟨rfl, hb4⟩
    rw [decide_eq_true (rfl : R = R)]
    have hc4 : Below w.heap.size w w4 := bT hc3 hb4
    have Hrs4 := Lib.hid ((Hrs3.out.below hb4 (Nat.le_refl _)).more hb4.size)
    have Hro4 := Lib.hid ((Hro3.out.below hb4 (Nat.le_refl _)).more hb4.size)
    clear hb4
    clear Hrs1 Hrs2 Hro2 Hrs3 Hro3 Hrp3
    by_cases hl0 : R.length = 0
    · skip
      obtain rfl : R = [] := List.eq_nil_of_length_eq_zero hl0
      go_wp2_with fail
      refine (specCapCharges_any Av _ cv ys a b _ Hrs4.out rfl (by omega)).mono ?_
      rintro e w5 ⟨vs5, rfl, hown5, hb5⟩
      rw [← HR.out] at hown5
      have hc5 : Below w.heap.size w w5 := bT hc4 hb5
      have Hro5 := Lib.hid ((Hro4.out.below hb5 (Nat.le_refl _)).more hb5.size)
      obtain ⟨As5, cs5, rfl, _, _, hrp5⟩ := hown5.form
      have Hrp5 := Lib.hid hrp5; clear hrp5 hown5 hb5
      go_wp2_with fail
      refine (equalInts_any Ao As5 0 0 co cs5 [] [] _ Hro5.out Hrp5.out rfl rfl (by omega) (by omega)).mono ?_
      rintro e w6 ⟨rfl, hb6⟩
      rw [decide_eq_true (rfl : ([] : List Int) = [])]
      go_wp2
      go_ret
      exact ⟨rfl, bT hc5 hb6⟩
    · have hl1 : 0 < R.length := by omega
      have l1 : ((R.length : Int) == 0) = false := by rw [beq_eq_false_iff_ne]; omega
      have hfacts := Fares.capCharges_some (xs := ys) (D := a) (W := b) (by rw [← HR.out]; omega)
      obtain ⟨hv, hda, hwb, hrun⟩ := hfacts
      have HR2 := Lib.hid (show R = Fares.capRun ys a b ys.length by rw [HR.out]; exact hrun)
      have hRl2 : R.length = ys.length := by rw [HR2.out]; exact Fares.capRun_length ys a b _ (Nat.le_refl _)
      obtain ⟨a2, a3⟩ := Fares.capOk_iff.1 hda
      obtain ⟨b2, b3⟩ := Fares.capOk_iff.1 hwb
      have hmem := Fares.chargeOk_mem hv
      have hmem2 : ∀ c ∈ ys, 0 ≤ c.a ∧ c.a ≤ 4000 := fun c h => ⟨(hmem c h).2.2.1, (hmem c h).2.2.2⟩
      have hbd : ∀ o ∈ R, 0 ≤ o ∧ o ≤ 4000 := by rw [HR2.out]; exact Fares.capRun_bounds a b hmem2 _
      have HV := Lib.hid hv; clear hv hrun
      have HDA := Lib.hid hda; clear hda
      have HWB := Lib.hid hwb; clear hwb
      have Hmem := Lib.hid hmem; clear hmem
      have Hmem2 := Lib.hid hmem2; clear hmem2
      have Hbd := Lib.hid hbd; clear hbd
      obtain ⟨k, hk⟩ : ∃ k, k = ys.length / 2 := ⟨_, rfl⟩
      have Hkl := Lib.hid (show k ≤ ys.length by omega)
      have Htl := Lib.hid (show (R.take k).length = k by rw [List.length_take]; omega)
      have hk1 : k ≤ ys.length := by omega
      have hkt : (ys.length : Int).tdiv 2 = (k : Int) := by rw [Int.tdiv_eq_ediv_of_nonneg (by omega)]; omega
      have hkd : (ys.length : Int) / 2 = (k : Int) := by omega
      clear hk
      have i0 : (0 : Int) ≤ (k : Int) := by omega
      have i1 : (k : Int) ≤ (cv : Int) := by omega
      have i2 : (k : Int) ≤ (co : Int) := by omega
      have HRl2 := Lib.hid hRl2
      go_wp2
      clear hkt hkd hRl2
      refine wp_region_held_drew (S := fun w' => Below w4.heap.size w4 w') (by kernel_rfl) (by exact bD1 (Below.refl _ _)) (fun hS => ?_)
      refine take_at 0 42 (v := ?_) rfl rfl (by kernel_rfl) (by kernel_rfl) (by kernel_rfl) (fun _ _ _ h => h) (by rfl) ?_ hS ?_
      rotate_left 1
      · (intro w hSw; (try dsimp only at hSw); (try go_split_ands); go_simp; try with_reducible rfl)
      simp only [List.setIfInBounds_toArray, List.set_cons_zero, List.set_cons_succ]
      refine take_at 1 43 (v := ?_) rfl rfl (by kernel_rfl) (by kernel_rfl) (by kernel_rfl) (fun _ _ _ h => h) (by rfl) ?_ hS ?_
      rotate_left 1
      · (intro w hSw; (try dsimp only at hSw); (try go_split_ands); go_simp; try with_reducible rfl)
      simp only [List.setIfInBounds_toArray, List.set_cons_zero, List.set_cons_succ]
      refine take_at 2 44 (v := ?_) rfl rfl (by kernel_rfl) (by kernel_rfl) (by kernel_rfl) (fun _ _ _ h => h) (by rfl) ?_ hS ?_
      rotate_left 1
      · (intro w hSw; (try dsimp only at hSw); (try go_split_ands); go_simp; try with_reducible rfl)
      simp only [List.setIfInBounds_toArray, List.set_cons_zero, List.set_cons_succ]
      refine take_at 3 45 (v := ?_) rfl rfl (by kernel_rfl) (by kernel_rfl) (by kernel_rfl) (fun _ _ _ h => h) (by rfl) ?_ hS ?_
      rotate_left 1
      · (intro w hSw; (try dsimp only at hSw); (try go_split_ands); go_simp; try with_reducible rfl)
      simp only [List.setIfInBounds_toArray, List.set_cons_zero, List.set_cons_succ]
      refine take_at 4 46 (v := ?_) rfl rfl (by kernel_rfl) (by kernel_rfl) (by kernel_rfl) (fun _ _ _ h => h) (by rfl) ?_ hS ?_
      rotate_left 1
      · (intro w hSw; (try dsimp only at hSw); (try go_split_ands); go_simp; try with_reducible rfl)
      simp only [List.setIfInBounds_toArray, List.set_cons_zero, List.set_cons_succ]
      refine take_at 6 48 (v := ?_) rfl rfl (by kernel_rfl) (by kernel_rfl) (by kernel_rfl) (fun _ _ _ h => h) (by rfl) ?_ hS ?_
      rotate_left 1
      · (intro w hSw; (try dsimp only at hSw); (try go_split_ands); go_simp; try with_reducible rfl)
      simp only [List.setIfInBounds_toArray, List.set_cons_zero, List.set_cons_succ]
      refine take_at 7 49 (v := ?_) rfl rfl (by kernel_rfl) (by kernel_rfl) (by kernel_rfl) (fun _ _ _ h => h) (by rfl) ?_ hS ?_
      rotate_left 1
      · (intro w hSw; (try dsimp only at hSw); (try go_split_ands); go_simp; try with_reducible rfl)
      simp only [List.setIfInBounds_toArray, List.set_cons_zero, List.set_cons_succ]
      refine take_at 8 50 (v := ?_) rfl rfl (by kernel_rfl) (by kernel_rfl) (by kernel_rfl) (fun _ _ _ h => h) (by rfl) ?_ hS ?_
      rotate_left 1
      · (intro w hSw; (try dsimp only at hSw); (try go_split_ands); go_simp; try with_reducible rfl)
      simp only [List.setIfInBounds_toArray, List.set_cons_zero, List.set_cons_succ]
      refine wpAnyH_ready (rs := [5]) (by kernel_rfl) (by simp) ?_
      refine AllReadyH.cons rfl (fun K hK => ?_) AllReadyH.nil
      go_simp
      go_wp2_with fail
      refine (implCapCharges_any Av k cv (ys.take k) a b _ (((Hrs4.out.below hS (Nat.le_refl _)).more hS.size).take k) (by rw [List.length_take]; omega) (by omega)).mono ?_
      rintro e w5 ⟨v5, rfl, hown5, hb5⟩
      rw [Fares.capCharges_take k Hkl.out HV.out HDA.out HWB.out, ← HR2.out] at hown5
      obtain ⟨A5, c5, rfl, _, _, hri5⟩ := hown5.form
      rw [Htl.out]
      have Hri5 := Lib.hid hri5; clear hri5 hown5
      go_simp
      refine hK.out _ _ (by exact bT hS hb5) (fun hS => ?_)
      clear hK K
      refine wpAnyH_ready (rs := [9]) (by kernel_rfl) (by simp) ?_
      refine AllReadyH.cons rfl (fun K hK => ?_) AllReadyH.nil
      go_simp
      go_wp2_with fail
      refine (equalInts_any A5 Ao k k c5 co (R.take k) (R.take k) _ Hri5.out (((Hro4.out.below hS (Nat.le_refl _)).more hS.size).take k) Htl.out Htl.out (by omega) (by omega)).mono ?_
      rintro e w6 ⟨rfl, hb6⟩
      rw [decide_eq_true (rfl : R.take k = R.take k)]
      go_simp
      refine hK.out _ _ (by exact bT hS hb6) (fun hS => ?_)
      clear hK K
      refine take_at 10 2 (v := ?_) rfl rfl (by kernel_rfl) (by kernel_rfl) (by kernel_rfl) (fun _ _ _ h => h) (by rfl) ?_ hS ?_
      rotate_left 1
      · (intro w hSw; (try dsimp only at hSw); (try go_split_ands); go_simp; try with_reducible rfl)
      simp only [List.setIfInBounds_toArray, List.set_cons_zero, List.set_cons_succ]
      refine wpAnyH_done (by kernel_rfl) ?_ _
      go_wp2
      go_ret
      exact ⟨rfl, bT hc4 hS⟩

set_option maxRecDepth 100000 in
theorem lifted (os : Os) (started : os.Started) (H : Type) (enc : TypeId × Value → H) :
    ReturnsInHanded {} Try.checked os 4 .any (Rows.fnCapChargesPrefixSpec.pre6 enc Try.prog Try.f4 Rows.fnCapChargesPrefixRow.domain false) (Rows.fnCapChargesPrefixSpec.post enc Try.prog Try.f4 false true false false) := by
  refine returnsInHanded_of_change (C := Try.checked) Cells.own started (by kernel_rfl) Try.func4
    (ChangeSpec.witness6 (enc := enc) (C := Try.checked) false ⟨#[], #[.slice none 0 0], []⟩ 8 (by kernel_rfl) (by kernel_rfl) (by kernel_rfl) (by kernel_rfl)) ?_
  intro W base args ds gs before hval0 hW _ _
  have hval : ∀ (j : Nat) t v, Try.f4.params[j]? = some t → args[j]? = some v → Value.okWide Try.prog W .any base t v := hval0
  have hW' := hW
  obtain ⟨p, q, hA0, hV, rfl, _, _⟩ := hW
  have hA : DataW.TrodAll enc Try.prog W 0 (fun _ => true) true Try.f4.params.toList args.toList ds p := hA0
  rw [Try.params4] at hA hval
  obtain ⟨v0, d0, rfl, rfl, h0⟩ := trodAll_one hA
  obtain ⟨rfl, rfl⟩ := trodVars_none hV
  obtain ⟨a0, len, cap, rfl⟩ := okWide_slice Try.underlying22 (hval 0 22 v0 rfl rfl)
  clear hA0 hval0
  simp only [List.append_nil] at hW'
  obtain ⟨hb, hargs⟩ := opened h0 (fun x hx => by simpa using hW'.lt x hx)
  refine (walk a0 len cap W hb).mono fun e W' ⟨he, hnx⟩ => ?_
  subst he
  exact ⟨_, rfl, _, _, _, [], _, [], hW', trodAll_mk1 (shut_bool Try.underlying4 _), trodAll_mk1 (hargs _ hnx), rfl, hnx.frame _, fun h => by cases h⟩

theorem closed : joinedFacts Try.prog 4 Try.f4 Rows.fnCapChargesPrefixSpec Rows.fnCapChargesPrefixRow = true := by
  unfold joinedFacts
  rw [Cells.laidOut, Cells.mapsRowed_, Cells.stops, Cells.stopKnobs, Cells.plainKeys, Cells.stopsHeard, Cells.mayEnter, Cells.liftsFinal, Cells.make]
  kernel_rfl

theorem over : Rows.fnCapChargesPrefixRow.holds Try.pinned (OpenSpec.ofChange Rows.fnCapChargesPrefixSpec) :=
  OpenClaim.holds_of_wide 4 Try.f4 rfl rfl rfl rfl rfl rfl rfl ⟨rfl, rfl, rfl, rfl, rfl⟩ rfl rfl rfl rfl rfl (by kernel_rfl) Try.func4 closed
    (of_decide_eq_true (by kernel_rfl)) (by unfold Func.isWrapper; first | (rw [if_pos (by decide +kernel)]; kernel_rfl) | (rw [if_neg (by decide +kernel)]; exact ⟨rfl, rfl⟩))
    (fun os started H enc _ => lifted os started H enc)

/-- THE STATEMENT -/
theorem proved : Rows.FnCapChargesPrefixSaid := over
#print axioms proved
end Go.Proofs.Ytdokilpinjabcaa.fnCapChargesPrefix
