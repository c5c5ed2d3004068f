/-
  At every begin and first number, impl.TriesOf answers as the model does, and its answer is its own memory.
-/
import Derived.Test.YtfeeofablnjjdaaOpen
import Derived.Test.YtfeeofablnjjdaaTryImpl3
import Derived.Test.YtfeeofablnjjdaaStInt
set_option linter.unusedSimpArgs false
namespace Go.Proofs.Ytfeeofablnjjdaa.fnExactTriesOf
open Go.ChangeShapes Go.WideShapes Go.ChangeAt Go.RowKit
set_option linter.unusedVariables false

set_option maxRecDepth 100000 in
set_option maxHeartbeats 2000000 in
theorem walk (w : World) (a0 : Int) (w0 : fitsI a0) (a1 : Int) (w1 : fitsI a1) : Calls Try.prog 10 #[.int .i64 a0, .int .i64 a1] w (TrueBelow w) := by
  have hlen : (Fares.triesOf a0 a1).length ≤ 1048576 := by have := Fares.triesOf_length a0 a1; omega
  have hk2 : decide (1 + ((Fares.triesOf a0 a1).length : Int) * 1 < 0) = false := by rw [decide_eq_false_iff_not]; omega
  go_enter Try.func10, Try.ntmps10
  go_wp2_with fail
  refine (specTriesOf_any a0 a1 _).mono ?_
  rintro e w2 ⟨vs, rfl, hos2, hc2⟩
  obtain ⟨As, cs, rfl, hcs1, hcs2, _⟩ := hos2.form
  have Hslt := Lib.hid (fun k hk => (World.ownsRow.lt hos2 k hk).2)
  have Hos2 := Lib.hid hos2; clear hos2
  go_wp2_with fail
  refine (implTriesOf_any a0 a1 _).mono ?_
  rintro e w4 ⟨vg, rfl, hog4, hb4⟩
  have hc4 : Below w.heap.size w w4 := bT hc2 hb4
  have hz4 := hb4.size
  have Hos4 := Lib.hid (Hos2.out.below hb4)
  clear hb4
  obtain ⟨Ag, cg, rfl, hcg1, hcg2, hrg4⟩ := hog4.form
  have Hglt := Lib.hid (fun k hk => (World.ownsRow.lt hog4 k hk).1)
  have Hrg4 := Lib.hid hrg4; clear hrg4
  have Hog4 := Lib.hid hog4; clear hog4
  obtain ⟨_, _, es4, _, _, hrs4⟩ := Hos4.out.form
  injection es4 with es41 es42 es43
  subst es41 es43
  have Hrs4 := Lib.hid hrs4; clear hrs4 es42
  go_wp2_with fail
  refine (eqIntS_any _ _ _ _ _ _ (Fares.triesOf a0 a1) (Fares.triesOf a0 a1) _ Hrg4.out Hrs4.out rfl rfl (by omega) (by omega)).mono ?_
  rintro e w9 ⟨rfl, hb9⟩
  rw [decide_eq_true (rfl : (Fares.triesOf a0 a1) = (Fares.triesOf a0 a1))]
  have hc9 : Below w.heap.size w w9 := bT hc4 hb9
  have hz9 := hb9.size
  have Hos9 := Lib.hid (Hos4.out.below hb9)
  have Hog9 := Lib.hid (Hog4.out.below hb9)
  clear hb9
  go_wp2_with fail
  refine (markIntS_own _ _ _ _ 1 _ Hog9.out hlen (by omega) (by omega)).mono ?_
  rintro e w10 ⟨rfl, hmk, hg10⟩
  have hc10 : Below w.heap.size w w10 := Below.grown hc9 hg10 hc9.size (fun k hk => by have := Hglt.out k hk; have := hc2.size; omega)
  have Hos10 := Lib.hid (Hos9.out.kept hg10 (apart_of (fun k hk e => by have h1 := Hslt.out k hk; have h2 := Hglt.out k e; omega)))
  have Hmk := Lib.hid hmk; clear hmk hg10
  go_wp2_with fail
  refine (heldIntS_own _ _ _ 1 _ Hmk.out hlen (by omega) (by omega)).mono ?_
  rintro e w' ⟨rfl, rfl⟩
  go_wp2_with fail
  refine (implTriesOf_any a0 a1 _).mono ?_
  rintro e w12 ⟨vh, rfl, hoh12, hb12⟩
  have hc12 : Below w.heap.size w w12 := bT hc10 hb12
  have Hos12 := Lib.hid (Hos10.out.below hb12)
  have Hmk12 := Lib.hid (own_below Hmk.out hb12)
  clear hb12
  obtain ⟨Ah, ch, rfl, _, _, hrh12⟩ := hoh12.form
  clear hoh12
  have Hrh12 := Lib.hid hrh12; clear hrh12
  obtain ⟨_, _, es12, _, _, hrs12⟩ := Hos12.out.form
  injection es12 with es121 es122 es123
  subst es121 es123
  have Hrs12 := Lib.hid hrs12; clear hrs12 es122
  go_wp2_with fail
  refine (eqIntS_any _ _ _ _ _ _ (Fares.triesOf a0 a1) (Fares.triesOf a0 a1) _ Hrh12.out Hrs12.out rfl rfl (by omega) (by omega)).mono ?_
  rintro e w13 ⟨rfl, hb13⟩
  rw [decide_eq_true (rfl : (Fares.triesOf a0 a1) = (Fares.triesOf a0 a1))]
  have hc13 : Below w.heap.size w w13 := bT hc12 hb13
  have Hmk13 := Lib.hid (own_below Hmk12.out hb13)
  clear hb13
  go_wp2_with fail
  refine (heldIntS_own _ _ _ 1 _ Hmk13.out hlen (by omega) (by omega)).mono ?_
  rintro e w' ⟨rfl, rfl⟩
  go_wp2
  go_ret
  exact ⟨rfl, hc13⟩

set_option maxRecDepth 100000 in
theorem lifted (os : Os) (started : os.Started) (H : Type) (enc : TypeId × Value → H) :
    ReturnsInHanded {} Try.checked os 10 .any (Rows.fnExactTriesOfSpec.pre6 enc Try.prog Try.f10 Rows.fnExactTriesOfRow.domain false) (Rows.fnExactTriesOfSpec.post enc Try.prog Try.f10 false true false false) := by
  refine returnsInHanded_of_change (C := Try.checked) Cells.own started (by kernel_rfl) Try.func10
    (ChangeSpec.witness6 (enc := enc) (C := Try.checked) false ⟨#[], #[.int .i64 0, .int .i64 0], []⟩ 8 (by kernel_rfl) (by kernel_rfl) (by kernel_rfl) (by kernel_rfl)) ?_
  intro W base args ds gs before hval0 hW _ _
  have hval : ∀ (j : Nat) t v, Try.f10.params[j]? = some t → args[j]? = some v → Value.okWide Try.prog W .any base t v := hval0
  have hW' := hW
  obtain ⟨p, q, hA0, hV, rfl, _, _⟩ := hW
  have hA : DataW.TrodAll enc Try.prog W 0 (fun _ => true) true Try.f10.params.toList args.toList ds p := hA0
  rw [Try.params10] at hA hval
  obtain ⟨v0, vs0, d0, ds0, p0, q0, hargs, rfl, rfl, h0, r0⟩ := trodAll_cons hA
  obtain ⟨v1, vs1, d1, ds1, p1, q1, rfl, rfl, rfl, h1, r1⟩ := trodAll_cons r0
  obtain ⟨rfl, rfl, rfl⟩ := trodAll_nil r1
  obtain rfl : args = #[v0, v1] := by cases args; simp_all
  obtain ⟨rfl, rfl⟩ := trodVars_none hV
  clear hA0 hval0
  have hlt : ∀ x ∈ (p0 ++ (p1 ++ [])), x.block < W.heap.size := fun x hx => hW'.lt x (by simpa using hx)
  have k0 := fun (W' : World) (hn : Below W.heap.size W W') => Below.trod Cells.laidOut (by kernel_rfl) (of_decide_eq_true (by kernel_rfl)) h0 hn (fun x hx => hlt x (by simp [hx]))
  have k1 := fun (W' : World) (hn : Below W.heap.size W W') => Below.trod Cells.laidOut (by kernel_rfl) (of_decide_eq_true (by kernel_rfl)) h1 hn (fun x hx => hlt x (by simp [hx]))
  obtain ⟨a0, rfl, rfl, rfl, w0⟩ := open_int Try.underlying3 (hval 0 3 v0 rfl rfl) h0
  obtain ⟨a1, rfl, rfl, rfl, w1⟩ := open_int Try.underlying3 (hval 1 3 v1 rfl rfl) h1
  refine (walk W a0 (fits_of_wf w0) a1 (fits_of_wf w1)).mono fun e W' ⟨he, hnx⟩ => ?_
  subst he
  refine ⟨_, rfl, _, _, _, [], ([] ++ ([] ++ [])), [], hW', trodAll_mk1 (shut_bool Try.underlying4 _), (trodAll_cons_mk (k0 _ hnx) (trodAll_cons_mk (k1 _ hnx) trodAll_mk0)), rfl, hnx.frame _, fun h => by cases h⟩

theorem closed : joinedFacts Try.prog 10 Try.f10 Rows.fnExactTriesOfSpec Rows.fnExactTriesOfRow = true := by
  unfold joinedFacts
  rw [Cells.laidOut, Cells.mapsRowed_, Cells.stops, Cells.stopKnobs, Cells.plainKeys, Cells.stopsHeard, Cells.mayEnter, Cells.liftsFinal, Cells.make]
  kernel_rfl

theorem over : Rows.fnExactTriesOfRow.holds Try.pinned (OpenSpec.ofChange Rows.fnExactTriesOfSpec) :=
  OpenClaim.holds_of_wide 10 Try.f10 rfl rfl rfl rfl rfl rfl rfl ⟨rfl, rfl, rfl, rfl, rfl⟩ rfl rfl rfl rfl rfl (by kernel_rfl) Try.func10 closed
    (of_decide_eq_true (by kernel_rfl)) (by unfold Func.isWrapper; first | (rw [if_pos (by decide +kernel)]; kernel_rfl) | (rw [if_neg (by decide +kernel)]; exact ⟨rfl, rfl⟩))
    (fun os started H enc _ => lifted os started H enc)

/-- THE STATEMENT -/
theorem proved : Rows.FnExactTriesOfSaid := over
#print axioms proved
end Go.Proofs.Ytfeeofablnjjdaa.fnExactTriesOf
