/-
  At every two lists of amounts, Adjustments of the program answers as its model, in memory of its own, and leaves its arguments as they were: the law FnExactAdjustments returns true. No conditions.
-/
import Derived.Test.YtnlnlcllnbggdaaOpen
import Derived.Test.YtnlnlcllnbggdaaAdjFn
set_option linter.unusedSimpArgs false
namespace Go.Proofs.Ytnlnlcllnbggdaa.fnExactAdjustments
open Go.ChangeShapes Go.WideShapes Go.ChangeAt Go.RowKit
set_option linter.unusedVariables false

set_option maxRecDepth 100000 in
set_option maxHeartbeats 2000000 in
theorem walk (w : World) (A0 : Option Addr) (n0 c0 : Nat) (xs0 : List Int) (hn0 : xs0.length = n0) (hm0 : n0 ≤ maxLen) (hx0 : Ints w w.heap.size A0 xs0) (hf0 : ∀ x ∈ xs0, fitsI x) (A1 : Option Addr) (n1 c1 : Nat) (xs1 : List Int) (hn1 : xs1.length = n1) (hm1 : n1 ≤ maxLen) (hx1 : Ints w w.heap.size A1 xs1) (hf1 : ∀ x ∈ xs1, fitsI x) : Calls Try.prog 6 #[.slice A0 n0 c0, .slice A1 n1 c1] w (TrueBelow w) := by
  by_cases hbig0 : 1048576 < n0
  · go_enter Try.func6, Try.ntmps6
    unfold maxLen at hm0
    go_wp2
    go_ret
    exact ⟨rfl, Below.refl _ _⟩
  · skip
    by_cases hbig1 : 1048576 < n1
    · go_enter Try.func6, Try.ntmps6
      unfold maxLen at hm1
      go_wp2
      go_ret
      exact ⟨rfl, Below.refl _ _⟩
    · skip
      obtain ⟨M, hM⟩ : ∃ M, M = Fares.adjustments xs0 xs1 := ⟨_, rfl⟩
      have hlen : M.length ≤ 1048576 := by rw [hM]; exact Nat.le_trans (Fares.adjustments_length xs0 xs1) (by omega)
      have HM := Lib.hid hM; clear hM
      go_enter Try.func6, Try.ntmps6
      have Hm := Lib.hid hm0; clear hm0
      have Hn := Lib.hid hn0; clear hn0
      have Hx := Lib.hid hx0; clear hx0
      have Hf := Lib.hid hf0; clear hf0
      have Hm1 := Lib.hid hm1; clear hm1
      have Hk := Lib.hid hn1; clear hn1
      have Hy := Lib.hid hx1; clear hx1
      have Hf1 := Lib.hid hf1; clear hf1
      have hc0 : Below w.heap.size w w := Below.refl _ _
      go_wp2_with fail
      refine (toIntS_any A0 n0 c0 xs0 _ ((Hx.out.below hc0 (Nat.le_refl _)).more hc0.size) Hn.out (by omega)).mono ?_
      rintro e w1 ⟨rfl, hs1, hb1⟩
      have hc1 : Below w.heap.size w w1 := bT hc0 hb1
      have Hp1 := Lib.hid hs1; clear hs1 hb1
      go_wp2_with fail
      refine (toIntS_any A1 n1 c1 xs1 _ ((Hy.out.below hc1 (Nat.le_refl _)).more hc1.size) Hk.out (by omega)).mono ?_
      rintro e w2 ⟨rfl, hs2, hb2⟩
      have hc2 : Below w.heap.size w w2 := bT hc1 hb2
      have Hp2 := Lib.hid (Hp1.out.below hb2 Hp1.out.lt)
      have Hq2 := Lib.hid hs2; clear hs2 hb2
      go_wp2_with fail
      refine (specAdjustments_any _ _ n0 n1 n0 n1 xs0 xs1 _ (Ints.of Hp2.out) (Ints.of Hq2.out) Hn.out Hk.out (by omega) (by omega)).mono ?_
      rintro e w3 ⟨vs, rfl, hos3, hb3⟩
      rw [← HM.out] at hos3
      have hc3 : Below w.heap.size w w3 := bT hc2 hb3
      clear hb3 Hp1 Hp2 Hq2
      obtain ⟨As, cs, rfl, _, _, _⟩ := hos3.form
      have Hslt := Lib.hid (fun k hk => (World.ownsRow.lt hos3 k hk).2)
      have Hos3 := Lib.hid hos3; clear hos3
      go_wp2_with fail
      refine (toIntS_any A0 n0 c0 xs0 _ ((Hx.out.below hc3 (Nat.le_refl _)).more hc3.size) Hn.out (by omega)).mono ?_
      rintro e w4 ⟨rfl, hs4, hb4⟩
      have hc4 : Below w.heap.size w w4 := bT hc3 hb4
      have Hos4 := Lib.hid (OwnAdjusts.below Hos3.out hb4)
      have Hp4 := Lib.hid hs4; clear hs4 hb4
      have hz_p := Lib.hid (show w3.heap.size < w4.heap.size from Hp4.out.lt)
      go_wp2_with fail
      refine (toIntS_any A1 n1 c1 xs1 _ ((Hy.out.below hc4 (Nat.le_refl _)).more hc4.size) Hk.out (by omega)).mono ?_
      rintro e w5 ⟨rfl, hs5, hb5⟩
      have hc5 : Below w.heap.size w w5 := bT hc4 hb5
      have Hos5 := Lib.hid (OwnAdjusts.below Hos4.out hb5)
      have Hp5 := Lib.hid (Hp4.out.below hb5 Hp4.out.lt)
      have Hq5 := Lib.hid hs5; clear hs5 hb5
      have hz_q := Lib.hid (show w4.heap.size < w5.heap.size from Hq5.out.lt)
      go_wp2_with fail
      refine (implAdjustments_any _ _ n0 n1 n0 n1 xs0 xs1 _ (Ints.of Hp5.out) (Ints.of Hq5.out) Hn.out Hk.out (by omega) (by omega)).mono ?_
      rintro e w6 ⟨vg, rfl, hog6, hb6⟩
      rw [← HM.out] at hog6
      have hc6 : Below w.heap.size w w6 := bT hc5 hb6
      have Hos6 := Lib.hid (OwnAdjusts.below Hos5.out hb6)
      have Hp6 := Lib.hid (Hp5.out.below hb6 Hp5.out.lt)
      have Hq6 := Lib.hid (Hq5.out.below hb6 Hq5.out.lt)
      clear hb6
      obtain ⟨Ag, cg, rfl, _, _, _⟩ := hog6.form
      have Hglt := Lib.hid (fun k hk => (World.ownsRow.lt hog6 k hk).1)
      have Hog6 := Lib.hid hog6; clear hog6
      obtain ⟨_, _, eog6, _, _, hrog6⟩ := Hog6.out.form
      injection eog6 with eog6a eog6b eog6c
      subst eog6a eog6c
      have Hra := Lib.hid hrog6; clear hrog6 eog6b
      obtain ⟨_, _, eos6, _, _, hros6⟩ := Hos6.out.form
      injection eos6 with eos6a eos6b eos6c
      subst eos6a eos6c
      have Hrb := Lib.hid hros6; clear hros6 eos6b
      go_wp2_with fail
      refine (eqAdjustS_any _ _ _ _ _ _ M M _ Hra.out Hrb.out rfl rfl (by omega) (by omega)).mono ?_
      rintro e w7 ⟨rfl, hb7⟩
      rw [decide_eq_true (rfl : M = M)]
      have hc7 : Below w.heap.size w w7 := bT hc6 hb7
      have Hos7 := Lib.hid (OwnAdjusts.below Hos6.out hb7)
      have Hog7 := Lib.hid (OwnAdjusts.below Hog6.out hb7)
      have Hp7 := Lib.hid (Hp6.out.below hb7 Hp6.out.lt)
      have Hq7 := Lib.hid (Hq6.out.below hb7 Hq6.out.lt)
      clear hb7 Hra Hrb
      go_wp2_with fail
      refine (toIntS_any A0 n0 c0 xs0 _ ((Hx.out.below hc7 (Nat.le_refl _)).more hc7.size) Hn.out (by omega)).mono ?_
      rintro e w8 ⟨rfl, hs8, hb8⟩
      have hc8 : Below w.heap.size w w8 := bT hc7 hb8
      have Hos8 := Lib.hid (OwnAdjusts.below Hos7.out hb8)
      have Hog8 := Lib.hid (OwnAdjusts.below Hog7.out hb8)
      have Hp8 := Lib.hid (Hp7.out.below hb8 Hp7.out.lt)
      have Hq8 := Lib.hid (Hq7.out.below hb8 Hq7.out.lt)
      have Hu8 := Lib.hid hs8; clear hs8 hb8
      go_wp2_with fail
      refine (eqIntS_any _ _ n0 n0 n0 n0 xs0 xs0 _ (Ints.of Hp8.out) (Ints.of Hu8.out) Hn.out Hn.out (by omega) (by omega)).mono ?_
      rintro e w9 ⟨rfl, hb9⟩
      rw [decide_eq_true (rfl : xs0 = xs0)]
      have hc9 : Below w.heap.size w w9 := bT hc8 hb9
      have Hos9 := Lib.hid (OwnAdjusts.below Hos8.out hb9)
      have Hog9 := Lib.hid (OwnAdjusts.below Hog8.out hb9)
      have Hp9 := Lib.hid (Hp8.out.below hb9 Hp8.out.lt)
      have Hq9 := Lib.hid (Hq8.out.below hb9 Hq8.out.lt)
      clear hb9 Hu8
      go_wp2_with fail
      refine (toIntS_any A1 n1 c1 xs1 _ ((Hy.out.below hc9 (Nat.le_refl _)).more hc9.size) Hk.out (by omega)).mono ?_
      rintro e w10 ⟨rfl, hs10, hb10⟩
      have hc10 : Below w.heap.size w w10 := bT hc9 hb10
      have Hos10 := Lib.hid (OwnAdjusts.below Hos9.out hb10)
      have Hog10 := Lib.hid (OwnAdjusts.below Hog9.out hb10)
      have Hp10 := Lib.hid (Hp9.out.below hb10 Hp9.out.lt)
      have Hq10 := Lib.hid (Hq9.out.below hb10 Hq9.out.lt)
      have Hv10 := Lib.hid hs10; clear hs10 hb10
      go_wp2_with fail
      refine (eqIntS_any _ _ n1 n1 n1 n1 xs1 xs1 _ (Ints.of Hq10.out) (Ints.of Hv10.out) Hk.out Hk.out (by omega) (by omega)).mono ?_
      rintro e w11 ⟨rfl, hb11⟩
      rw [decide_eq_true (rfl : xs1 = xs1)]
      have hc11 : Below w.heap.size w w11 := bT hc10 hb11
      have Hos11 := Lib.hid (OwnAdjusts.below Hos10.out hb11)
      have Hog11 := Lib.hid (OwnAdjusts.below Hog10.out hb11)
      have Hp11 := Lib.hid (Hp10.out.below hb11 Hp10.out.lt)
      have Hq11 := Lib.hid (Hq10.out.below hb11 Hq10.out.lt)
      clear hb11 Hv10
      go_wp2_with fail
      refine (markIntS_any w3.heap.size n0 n0 (n0 * 1) 1 _ _ Hp11.out (by omega) (by omega) (by omega) (by omega)).mono ?_
      rintro e w12 ⟨rfl, _, hg12⟩
      have hs3 := hc3.size
      have hs4 := hc4.size
      have hzp := hz_p.out
      have hzq := hz_q.out
      have hc12 : Below w.heap.size w w12 := Below.grown hc11 hg12 hc11.size (fun k hk => by injection hk with hk; omega)
      have Hos12 := Lib.hid (OwnAdjusts.kept Hos11.out hg12 (apart_of (fun k hk e => by injection e with e; have := Hslt.out k hk; omega)))
      have Hog12 := Lib.hid (OwnAdjusts.kept Hog11.out hg12 (apart_of (fun k hk e => by injection e with e; have := Hglt.out k hk; omega)))
      have Hq12 := Lib.hid (Hq11.out.grown hg12 (by intro e; injection e with e; omega))
      clear hg12
      go_wp2_with fail
      refine (markIntS_any w4.heap.size n1 n1 (n1 * 1) (1 + (n0 : Int)) _ _ Hq12.out (by omega) (by omega) (by omega) (by omega)).mono ?_
      rintro e w13 ⟨rfl, _, hg13⟩
      have hc13 : Below w.heap.size w w13 := Below.grown hc12 hg13 hc12.size (fun k hk => by injection hk with hk; omega)
      have Hos13 := Lib.hid (OwnAdjusts.kept Hos12.out hg13 (apart_of (fun k hk e => by injection e with e; have := Hslt.out k hk; omega)))
      have Hog13 := Lib.hid (OwnAdjusts.kept Hog12.out hg13 (apart_of (fun k hk e => by injection e with e; have := Hglt.out k hk; omega)))
      clear hg13 hzp hzq
      have hk1 : decide (1 + (n0 : Int) + ((n1 : Int)) < 0) = false := by rw [decide_eq_false_iff_not]; omega
      obtain ⟨_, _, eog13, _, _, hrog13⟩ := Hog13.out.form
      injection eog13 with eog13a eog13b eog13c
      subst eog13a eog13c
      have Hra := Lib.hid hrog13; clear hrog13 eog13b
      obtain ⟨_, _, eos13, _, _, hros13⟩ := Hos13.out.form
      injection eos13 with eos13a eos13b eos13c
      subst eos13a eos13c
      have Hrb := Lib.hid hros13; clear hros13 eos13b
      go_wp2_with fail
      refine (eqAdjustS_any _ _ _ _ _ _ M M _ Hra.out Hrb.out rfl rfl (by omega) (by omega)).mono ?_
      rintro e w14 ⟨rfl, hb14⟩
      rw [decide_eq_true (rfl : M = M)]
      have hc14 : Below w.heap.size w w14 := bT hc13 hb14
      have Hos14 := Lib.hid (OwnAdjusts.below Hos13.out hb14)
      have Hog14 := Lib.hid (OwnAdjusts.below Hog13.out hb14)
      clear hb14 Hra Hrb
      have hk2 : decide (1 + (M.length : Int) * 2 < 0) = false := by rw [decide_eq_false_iff_not]; omega
      go_wp2_with fail
      refine (markAdjustS_own _ _ _ _ 1 _ Hog14.out hlen (by omega) (by omega)).mono ?_
      rintro e w15 ⟨rfl, hmk, hg15⟩
      have hc15 : Below w.heap.size w w15 := Below.grown hc14 hg15 hc14.size (fun k hk => by have := Hglt.out k hk; have := hc5.size; omega)
      have Hos15 := Lib.hid (OwnAdjusts.kept Hos14.out hg15 (apart_of (fun k hk e => by have h1 := Hslt.out k hk; have h2 := Hglt.out k e; have h3 := hz_p.out; have h4 := hz_q.out; omega)))
      have Hmk15 := Lib.hid hmk; clear hmk hg15
      go_wp2_with fail
      refine (heldAdjustS_own _ _ _ 1 _ Hmk15.out hlen (by omega) (by omega)).mono ?_
      rintro e w' ⟨rfl, rfl⟩
      go_wp2_with fail
      refine (toIntS_any A0 n0 c0 xs0 _ ((Hx.out.below hc15 (Nat.le_refl _)).more hc15.size) Hn.out (by omega)).mono ?_
      rintro e w16 ⟨rfl, hs16, hb16⟩
      have hc16 : Below w.heap.size w w16 := bT hc15 hb16
      have Hos16 := Lib.hid (OwnAdjusts.below Hos15.out hb16)
      have Hmk16 := Lib.hid (own_below Hmk15.out hb16)
      have Hp16 := Lib.hid hs16; clear hs16 hb16
      go_wp2_with fail
      refine (toIntS_any A1 n1 c1 xs1 _ ((Hy.out.below hc16 (Nat.le_refl _)).more hc16.size) Hk.out (by omega)).mono ?_
      rintro e w17 ⟨rfl, hs17, hb17⟩
      have hc17 : Below w.heap.size w w17 := bT hc16 hb17
      have Hos17 := Lib.hid (OwnAdjusts.below Hos16.out hb17)
      have Hp17 := Lib.hid (Hp16.out.below hb17 Hp16.out.lt)
      have Hmk17 := Lib.hid (own_below Hmk16.out hb17)
      have Hq17 := Lib.hid hs17; clear hs17 hb17
      go_wp2_with fail
      refine (implAdjustments_any _ _ n0 n1 n0 n1 xs0 xs1 _ (Ints.of Hp17.out) (Ints.of Hq17.out) Hn.out Hk.out (by omega) (by omega)).mono ?_
      rintro e w18 ⟨vh, rfl, hoh18, hb18⟩
      rw [← HM.out] at hoh18
      have hc18 : Below w.heap.size w w18 := bT hc17 hb18
      have Hos18 := Lib.hid (OwnAdjusts.below Hos17.out hb18)
      have Hmk18 := Lib.hid (own_below Hmk17.out hb18)
      clear hb18
      obtain ⟨Ah, ch, rfl, _, _, hrh⟩ := hoh18.form
      clear hoh18
      have Hra := Lib.hid hrh; clear hrh
      obtain ⟨_, _, eos18, _, _, hros18⟩ := Hos18.out.form
      injection eos18 with eos18a eos18b eos18c
      subst eos18a eos18c
      have Hrb := Lib.hid hros18; clear hros18 eos18b
      go_wp2_with fail
      refine (eqAdjustS_any _ _ _ _ _ _ M M _ Hra.out Hrb.out rfl rfl (by omega) (by omega)).mono ?_
      rintro e w19 ⟨rfl, hb19⟩
      rw [decide_eq_true (rfl : M = M)]
      have hc19 : Below w.heap.size w w19 := bT hc18 hb19
      have Hmk19 := Lib.hid (own_below Hmk18.out hb19)
      go_wp2_with fail
      refine (heldAdjustS_own _ _ _ 1 _ Hmk19.out hlen (by omega) (by omega)).mono ?_
      rintro e w' ⟨rfl, rfl⟩
      go_wp2
      go_ret
      exact ⟨rfl, hc19⟩

set_option maxRecDepth 100000 in
theorem lifted (os : Os) (started : os.Started) (H : Type) (enc : TypeId × Value → H) :
    ReturnsInHanded {} Try.checked os 6 .any (Rows.fnExactAdjustmentsSpec.pre6 enc Try.prog Try.f6 Rows.fnExactAdjustmentsRow.domain false) (Rows.fnExactAdjustmentsSpec.post enc Try.prog Try.f6 false true false false) := by
  refine returnsInHanded_of_change (C := Try.checked) Cells.own started (by kernel_rfl) Try.func6
    (ChangeSpec.witness6 (enc := enc) (C := Try.checked) false ⟨#[], #[.slice none 0 0, .slice none 0 0], []⟩ 8 (by kernel_rfl) (by kernel_rfl) (by kernel_rfl) (by kernel_rfl)) ?_
  intro W base args ds gs before hval0 hW _ _
  have hval : ∀ (j : Nat) t v, Try.f6.params[j]? = some t → args[j]? = some v → Value.okWide Try.prog W .any base t v := hval0
  have hW' := hW
  obtain ⟨p, q, hA0, hV, rfl, _, _⟩ := hW
  have hA : DataW.TrodAll enc Try.prog W 0 (fun _ => true) true Try.f6.params.toList args.toList ds p := hA0
  rw [Try.params6] at hA hval
  obtain ⟨v0, vs0, d0, ds0, p0, q0, hargs, rfl, rfl, h0, r0⟩ := trodAll_cons hA
  obtain ⟨v1, vs1, d1, ds1, p1, q1, rfl, rfl, rfl, h1, r1⟩ := trodAll_cons r0
  obtain ⟨rfl, rfl, rfl⟩ := trodAll_nil r1
  obtain rfl : args = #[v0, v1] := by cases args; simp_all
  obtain ⟨rfl, rfl⟩ := trodVars_none hV
  clear hA0 hval0
  have hlt : ∀ x ∈ (p0 ++ (p1 ++ [])), x.block < W.heap.size := fun x hx => hW'.lt x (by simpa using hx)
  have k0 := fun (W' : World) (hn : Below W.heap.size W W') => Below.trod Cells.laidOut (by kernel_rfl) (of_decide_eq_true (by kernel_rfl)) h0 hn (fun x hx => hlt x (by simp [hx]))
  have k1 := fun (W' : World) (hn : Below W.heap.size W W') => Below.trod Cells.laidOut (by kernel_rfl) (of_decide_eq_true (by kernel_rfl)) h1 hn (fun x hx => hlt x (by simp [hx]))
  obtain ⟨A0, n0, c0, xs0, rfl, hn0, hm0, hx0, hf0⟩ := ints_open (hval 0 23 v0 rfl rfl) h0
  obtain ⟨A1, n1, c1, xs1, rfl, hn1, hm1, hx1, hf1⟩ := ints_open (hval 1 23 v1 rfl rfl) h1
  refine (walk W A0 n0 c0 xs0 hn0 hm0 hx0 hf0 A1 n1 c1 xs1 hn1 hm1 hx1 hf1).mono fun e W' ⟨he, hnx⟩ => ?_
  subst he
  refine ⟨_, rfl, _, _, _, [], (p0 ++ (p1 ++ [])), [], hW', trodAll_mk1 (shut_bool Try.underlying4 _), (trodAll_cons_mk (k0 _ hnx) (trodAll_cons_mk (k1 _ hnx) trodAll_mk0)), rfl, hnx.frame _, fun h => by cases h⟩

theorem closed : joinedFacts Try.prog 6 Try.f6 Rows.fnExactAdjustmentsSpec Rows.fnExactAdjustmentsRow = true := by
  unfold joinedFacts
  rw [Cells.laidOut, Cells.mapsRowed_, Cells.stops, Cells.stopKnobs, Cells.plainKeys, Cells.stopsHeard, Cells.mayEnter, Cells.liftsFinal, Cells.make]
  kernel_rfl

theorem over : Rows.fnExactAdjustmentsRow.holds Try.pinned (OpenSpec.ofChange Rows.fnExactAdjustmentsSpec) :=
  OpenClaim.holds_of_wide 6 Try.f6 rfl rfl rfl rfl rfl rfl rfl ⟨rfl, rfl, rfl, rfl, rfl⟩ rfl rfl rfl rfl rfl (by kernel_rfl) Try.func6 closed
    (of_decide_eq_true (by kernel_rfl)) (by unfold Func.isWrapper; first | (rw [if_pos (by decide +kernel)]; kernel_rfl) | (rw [if_neg (by decide +kernel)]; exact ⟨rfl, rfl⟩))
    (fun os started H enc _ => lifted os started H enc)

/-- THE STATEMENT -/
theorem proved : Rows.FnExactAdjustmentsSaid := over
#print axioms proved
end Go.Proofs.Ytnlnlcllnbggdaa.fnExactAdjustments
