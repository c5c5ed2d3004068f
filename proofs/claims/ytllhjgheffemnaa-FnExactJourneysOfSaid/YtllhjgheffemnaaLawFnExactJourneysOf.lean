/-
  At every list of taps and every card, JourneysOf of the program answers as its model, in memory of its own, and leaves its arguments as they were: the law FnExactJourneysOf returns true. No conditions.
-/
import Derived.Test.YtllhjgheffemnaaOpen
import Derived.Test.YtllhjgheffemnaaJoursImpl
import Derived.Test.YtllhjgheffemnaaJoursSpec
set_option linter.unusedSimpArgs false
namespace Go.Proofs.Ytllhjgheffemnaa.fnExactJourneysOf
open Go.ChangeShapes Go.WideShapes Go.ChangeAt Go.RowKit
set_option linter.unusedVariables false

set_option maxRecDepth 100000 in
set_option maxHeartbeats 2000000 in
theorem walk (w : World) (A0 : Option Addr) (n0 c0 : Nat) (xs0 : List Fares.Tap) (hn0 : xs0.length = n0) (hm0 : n0 ≤ maxLen) (hx0 : Taps w w.heap.size A0 xs0) (hf0 : ∀ x ∈ xs0, tapFits x) (a1 : Int) (w1 : fitsI a1) : Calls Try.prog 8 #[.slice A0 n0 c0, .int .i64 a1] w (TrueBelow w) := by
  by_cases hbig : 1048576 < n0
  · go_enter Try.func8, Try.ntmps8
    go_wp2_with fail
    refine (szTapS_any A0 n0 c0 _ _ (by omega) (by omega) hm0).mono ?_
    rintro e w1 ⟨rfl, rfl⟩
    rw [if_pos (by omega)]
    go_wp2
    go_ret
    exact ⟨rfl, Below.refl _ _⟩
  · go_enter Try.func8, Try.ntmps8
    have hlen : (Fares.journeysOf (Fares.cardTaps xs0 a1)).length ≤ 1048576 := Nat.le_trans (Fares.journeysOf_card xs0 a1) (by omega)
    have Hm := Lib.hid hm0; clear hm0
    have Hn := Lib.hid hn0; clear hn0
    have Hx := Lib.hid hx0; clear hx0
    have Hf := Lib.hid hf0; clear hf0
    go_wp2_with fail
    refine (szTapS_any A0 n0 c0 _ _ (by omega) (by omega) Hm.out).mono ?_
    rintro e w1 ⟨rfl, rfl⟩
    rw [if_neg (by omega)]
    go_wp2_with fail
    refine (toTapS_any A0 n0 c0 xs0 _ Hx.out Hn.out (by omega)).mono ?_
    rintro e w1 ⟨rfl, hs1, hb1⟩
    have Hs1 := Lib.hid hs1; clear hs1
    have hc1 : Below w.heap.size w w1 := hb1
    clear hb1
    go_wp2_with fail
    refine (specJourneysOf_any _ n0 n0 xs0 a1 _ (Taps.of Hs1.out) Hn.out (by omega)).mono ?_
    rintro e w2 ⟨vs, rfl, hos2, hb2⟩
    have hc2 : Below w.heap.size w w2 := bT hc1 hb2
    clear hb2
    obtain ⟨As, cs, rfl, hcs1, hcs2, _⟩ := hos2.form
    have Hslt := Lib.hid (fun k hk => (World.ownsRow.lt hos2 k hk).2)
    have Hos2 := Lib.hid hos2; clear hos2
    go_wp2_with fail
    refine (toTapS_any A0 n0 c0 xs0 _ ((Hx.out.below hc2 (Nat.le_refl _)).more hc2.size) Hn.out (by omega)).mono ?_
    rintro e w3 ⟨rfl, hs3, hb3⟩
    have hz3 : w2.heap.size < w3.heap.size := hs3.lt
    have Hs3 := Lib.hid hs3; clear hs3
    have hc3 : Below w.heap.size w w3 := bT hc2 hb3
    have Hos3 := Lib.hid (Hos2.out.below hb3)
    clear hb3
    go_wp2_with fail
    refine (implJourneysOf_any _ n0 n0 xs0 a1 _ (Taps.of Hs3.out) Hn.out (Nat.le_refl _) (by have := Hm.out; unfold maxLen at this; omega)).mono ?_
    rintro e w4 ⟨vg, rfl, hog4, hb4⟩
    have hc4 : Below w.heap.size w w4 := bT hc3 hb4
    have hz4 := hb4.size
    have Hos4 := Lib.hid (Hos3.out.below hb4)
    have Hs4 := Lib.hid (Hs3.out.below hb4 Hs3.out.lt)
    clear hb4
    obtain ⟨Ag, cg, rfl, hcg1, hcg2, hrg4⟩ := hog4.form
    have Hglt := Lib.hid (fun k hk => (World.ownsRow.lt hog4 k hk).1)
    have Hrg4 := Lib.hid hrg4; clear hrg4
    have Hog4 := Lib.hid hog4; clear hog4
    obtain ⟨_, _, es4, _, _, hrs4⟩ := Hos4.out.form
    injection es4 with es41 es42 es43
    subst es41 es43
    have Hrs4 := Lib.hid hrs4; clear hrs4 es42
    go_wp2_with fail
    refine (eqJourneyS_any _ _ _ _ _ _ (Fares.journeysOf (Fares.cardTaps xs0 a1)) (Fares.journeysOf (Fares.cardTaps xs0 a1)) _ Hrg4.out Hrs4.out rfl rfl (by omega) (by omega)).mono ?_
    rintro e w5 ⟨rfl, hb5⟩
    rw [decide_eq_true (rfl : (Fares.journeysOf (Fares.cardTaps xs0 a1)) = (Fares.journeysOf (Fares.cardTaps xs0 a1)))]
    have hc5 : Below w.heap.size w w5 := bT hc4 hb5
    have hz5 := hb5.size
    have Hos5 := Lib.hid (Hos4.out.below hb5)
    have Hog5 := Lib.hid (Hog4.out.below hb5)
    have Hs5 := Lib.hid (Hs4.out.below hb5 Hs4.out.lt)
    clear hb5
    go_wp2_with fail
    refine (toTapS_any A0 n0 c0 xs0 _ ((Hx.out.below hc5 (Nat.le_refl _)).more hc5.size) Hn.out (by omega)).mono ?_
    rintro e w6 ⟨rfl, hs6, hb6⟩
    have Hc6 := Lib.hid hs6; clear hs6
    have hc6 : Below w.heap.size w w6 := bT hc5 hb6
    have hz6 := hb6.size
    have Hos6 := Lib.hid (Hos5.out.below hb6)
    have Hog6 := Lib.hid (Hog5.out.below hb6)
    have Hs6 := Lib.hid (Hs5.out.below hb6 Hs5.out.lt)
    clear hb6
    go_wp2_with fail
    refine (eqTapS_any _ _ n0 n0 n0 n0 xs0 xs0 _ (Taps.of Hs6.out) (Taps.of Hc6.out) Hn.out Hn.out (by omega) (by omega)).mono ?_
    rintro e w7 ⟨rfl, hb7⟩
    rw [decide_eq_true (rfl : xs0 = xs0)]
    have hc7 : Below w.heap.size w w7 := bT hc6 hb7
    have hz7 := hb7.size
    have Hos7 := Lib.hid (Hos6.out.below hb7)
    have Hog7 := Lib.hid (Hog6.out.below hb7)
    have Hs7 := Lib.hid (Hs6.out.below hb7 Hs6.out.lt)
    clear hb7
    have hk1 : decide (1 + (n0 : Int) * 6 < 0) = false := by rw [decide_eq_false_iff_not]; omega
    go_wp2_with fail
    refine (markTapS_any w2.heap.size n0 n0 (n0 * 6) 1 _ _ Hs7.out (Nat.le_refl _) (by omega) (by omega) (by omega)).mono ?_
    rintro e w8 ⟨rfl, _, hg8⟩
    have hc8 : Below w.heap.size w w8 := Below.grown hc7 hg8 hc7.size (fun k hk => by injection hk with hk; have := hc2.size; omega)
    have hz8 := hg8.size
    have Hos8 := Lib.hid (Hos7.out.kept hg8 (apart_of (fun k hk e => by injection e with e; have := Hslt.out k hk; omega)))
    have Hog8 := Lib.hid (Hog7.out.kept hg8 (apart_of (fun k hk e => by injection e with e; have := Hglt.out k hk; omega)))
    clear hg8
    obtain ⟨_, _, es8, _, _, hrs8⟩ := Hos8.out.form
    injection es8 with es81 es82 es83
    subst es81 es83
    have Hrs8 := Lib.hid hrs8; clear hrs8 es82
    obtain ⟨_, _, eg8, _, _, hrg8⟩ := Hog8.out.form
    injection eg8 with eg81 eg82 eg83
    subst eg81 eg83
    have Hrg8 := Lib.hid hrg8; clear hrg8 eg82
    go_wp2_with fail
    refine (eqJourneyS_any _ _ _ _ _ _ (Fares.journeysOf (Fares.cardTaps xs0 a1)) (Fares.journeysOf (Fares.cardTaps xs0 a1)) _ Hrg8.out Hrs8.out rfl rfl (by omega) (by omega)).mono ?_
    rintro e w9 ⟨rfl, hb9⟩
    rw [decide_eq_true (rfl : (Fares.journeysOf (Fares.cardTaps xs0 a1)) = (Fares.journeysOf (Fares.cardTaps xs0 a1)))]
    have hc9 : Below w.heap.size w w9 := bT hc8 hb9
    have hz9 := hb9.size
    have Hos9 := Lib.hid (Hos8.out.below hb9)
    have Hog9 := Lib.hid (Hog8.out.below hb9)
    clear hb9
    have hk2 : decide (1 + ((Fares.journeysOf (Fares.cardTaps xs0 a1)).length : Int) * 5 < 0) = false := by rw [decide_eq_false_iff_not]; omega
    go_wp2_with fail
    refine (markJourneyS_own _ _ _ _ 1 _ Hog9.out hlen (by omega) (by omega)).mono ?_
    rintro e w10 ⟨rfl, hmk, hg10⟩
    have hc10 : Below w.heap.size w w10 := Below.grown hc9 hg10 hc9.size (fun k hk => by have := Hglt.out k hk; have := hc3.size; omega)
    have Hos10 := Lib.hid (Hos9.out.kept hg10 (apart_of (fun k hk e => by have h1 := Hslt.out k hk; have h2 := Hglt.out k e; omega)))
    have Hmk := Lib.hid hmk; clear hmk hg10
    go_wp2_with fail
    refine (heldJourneyS_own _ _ _ 1 _ Hmk.out hlen (by omega) (by omega)).mono ?_
    rintro e w' ⟨rfl, rfl⟩
    go_wp2_with fail
    refine (toTapS_any A0 n0 c0 xs0 _ ((Hx.out.below hc10 (Nat.le_refl _)).more hc10.size) Hn.out (by omega)).mono ?_
    rintro e w11 ⟨rfl, hs11, hb11⟩
    have Hs11 := Lib.hid hs11; clear hs11
    have hc11 : Below w.heap.size w w11 := bT hc10 hb11
    have Hos11 := Lib.hid (Hos10.out.below hb11)
    have Hmk11 := Lib.hid (own_below Hmk.out hb11)
    clear hb11
    go_wp2_with fail
    refine (implJourneysOf_any _ n0 n0 xs0 a1 _ (Taps.of Hs11.out) Hn.out (Nat.le_refl _) (by have := Hm.out; unfold maxLen at this; omega)).mono ?_
    rintro e w12 ⟨vh, rfl, hoh12, hb12⟩
    have hc12 : Below w.heap.size w w12 := bT hc11 hb12
    have Hos12 := Lib.hid (Hos11.out.below hb12)
    have Hmk12 := Lib.hid (own_below Hmk11.out hb12)
    clear hb12
    obtain ⟨Ah, ch, rfl, _, _, hrh12⟩ := hoh12.form
    clear hoh12
    have Hrh12 := Lib.hid hrh12; clear hrh12
    obtain ⟨_, _, es12, _, _, hrs12⟩ := Hos12.out.form
    injection es12 with es121 es122 es123
    subst es121 es123
    have Hrs12 := Lib.hid hrs12; clear hrs12 es122
    go_wp2_with fail
    refine (eqJourneyS_any _ _ _ _ _ _ (Fares.journeysOf (Fares.cardTaps xs0 a1)) (Fares.journeysOf (Fares.cardTaps xs0 a1)) _ Hrh12.out Hrs12.out rfl rfl (by omega) (by omega)).mono ?_
    rintro e w13 ⟨rfl, hb13⟩
    rw [decide_eq_true (rfl : (Fares.journeysOf (Fares.cardTaps xs0 a1)) = (Fares.journeysOf (Fares.cardTaps xs0 a1)))]
    have hc13 : Below w.heap.size w w13 := bT hc12 hb13
    have Hmk13 := Lib.hid (own_below Hmk12.out hb13)
    clear hb13
    go_wp2_with fail
    refine (heldJourneyS_own _ _ _ 1 _ Hmk13.out hlen (by omega) (by omega)).mono ?_
    rintro e w' ⟨rfl, rfl⟩
    go_wp2
    go_ret
    exact ⟨rfl, hc13⟩

set_option maxRecDepth 100000 in
theorem lifted (os : Os) (started : os.Started) (H : Type) (enc : TypeId × Value → H) :
    ReturnsInHanded {} Try.checked os 8 .any (Rows.fnExactJourneysOfSpec.pre6 enc Try.prog Try.f8 Rows.fnExactJourneysOfRow.domain false) (Rows.fnExactJourneysOfSpec.post enc Try.prog Try.f8 false true false false) := by
  refine returnsInHanded_of_change (C := Try.checked) Cells.own started (by kernel_rfl) Try.func8
    (ChangeSpec.witness6 (enc := enc) (C := Try.checked) false ⟨#[], #[.slice none 0 0, .int .i64 0], []⟩ 8 (by kernel_rfl) (by kernel_rfl) (by kernel_rfl) (by kernel_rfl)) ?_
  intro W base args ds gs before hval0 hW _ _
  have hval : ∀ (j : Nat) t v, Try.f8.params[j]? = some t → args[j]? = some v → Value.okWide Try.prog W .any base t v := hval0
  have hW' := hW
  obtain ⟨p, q, hA0, hV, rfl, _, _⟩ := hW
  have hA : DataW.TrodAll enc Try.prog W 0 (fun _ => true) true Try.f8.params.toList args.toList ds p := hA0
  rw [Try.params8] at hA hval
  obtain ⟨v0, vs0, d0, ds0, p0, q0, hargs, rfl, rfl, h0, r0⟩ := trodAll_cons hA
  obtain ⟨v1, vs1, d1, ds1, p1, q1, rfl, rfl, rfl, h1, r1⟩ := trodAll_cons r0
  obtain ⟨rfl, rfl, rfl⟩ := trodAll_nil r1
  obtain rfl : args = #[v0, v1] := by cases args; simp_all
  obtain ⟨rfl, rfl⟩ := trodVars_none hV
  clear hA0 hval0
  have hlt : ∀ x ∈ (p0 ++ (p1 ++ [])), x.block < W.heap.size := fun x hx => hW'.lt x (by simpa using hx)
  have k0 := fun (W' : World) (hn : Below W.heap.size W W') => Below.trod Cells.laidOut (by kernel_rfl) (of_decide_eq_true (by kernel_rfl)) h0 hn (fun x hx => hlt x (by simp [hx]))
  have k1 := fun (W' : World) (hn : Below W.heap.size W W') => Below.trod Cells.laidOut (by kernel_rfl) (of_decide_eq_true (by kernel_rfl)) h1 hn (fun x hx => hlt x (by simp [hx]))
  obtain ⟨A0, n0, c0, xs0, rfl, hn0, hm0, hx0, hf0⟩ := taps_open (hval 0 38 v0 rfl rfl) h0
  obtain ⟨a1, rfl, rfl, rfl, w1⟩ := open_int Try.underlying3 (hval 1 3 v1 rfl rfl) h1
  refine (walk W A0 n0 c0 xs0 hn0 hm0 hx0 hf0 a1 (fits_of_wf w1)).mono fun e W' ⟨he, hnx⟩ => ?_
  subst he
  refine ⟨_, rfl, _, _, _, [], (p0 ++ ([] ++ [])), [], hW', trodAll_mk1 (shut_bool Try.underlying4 _), (trodAll_cons_mk (k0 _ hnx) (trodAll_cons_mk (k1 _ hnx) trodAll_mk0)), rfl, hnx.frame _, fun h => by cases h⟩

theorem closed : joinedFacts Try.prog 8 Try.f8 Rows.fnExactJourneysOfSpec Rows.fnExactJourneysOfRow = true := by
  unfold joinedFacts
  rw [Cells.laidOut, Cells.mapsRowed_, Cells.stops, Cells.stopKnobs, Cells.plainKeys, Cells.stopsHeard, Cells.mayEnter, Cells.liftsFinal, Cells.make]
  kernel_rfl

theorem over : Rows.fnExactJourneysOfRow.holds Try.pinned (OpenSpec.ofChange Rows.fnExactJourneysOfSpec) :=
  OpenClaim.holds_of_wide 8 Try.f8 rfl rfl rfl rfl rfl rfl rfl ⟨rfl, rfl, rfl, rfl, rfl⟩ rfl rfl rfl rfl rfl (by kernel_rfl) Try.func8 closed
    (of_decide_eq_true (by kernel_rfl)) (by unfold Func.isWrapper; first | (rw [if_pos (by decide +kernel)]; kernel_rfl) | (rw [if_neg (by decide +kernel)]; exact ⟨rfl, rfl⟩))
    (fun os started H enc _ => lifted os started H enc)

/-- THE STATEMENT -/
theorem proved : Rows.FnExactJourneysOfSaid := over
#print axioms proved
end Go.Proofs.Ytllhjgheffemnaa.fnExactJourneysOf
