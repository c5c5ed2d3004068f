/-
  At every list of legs and every operator, LengthOf of the program answers as its model, in memory of its own, and leaves its arguments as they were: the law FnExactLengthOf returns true. No conditions.
-/
import Derived.Test.YtgecgjndbaeahaaOpen
import Derived.Test.YtgecgjndbaeahaaLegFn
set_option linter.unusedSimpArgs false
namespace Go.Proofs.Ytgecgjndbaeahaa.fnExactLengthOf
open Go.ChangeShapes Go.WideShapes Go.ChangeAt Go.RowKit
set_option linter.unusedVariables false

set_option maxRecDepth 100000 in
set_option maxHeartbeats 2000000 in
theorem walk (w : World) (A0 : Option Addr) (n0 c0 : Nat) (xs0 : List Fares.Leg) (hn0 : xs0.length = n0) (hm0 : n0 ≤ maxLen) (hx0 : Legs w w.heap.size A0 xs0) (hf0 : ∀ x ∈ xs0, legFits x) (a1 : Int) (w1 : fitsI a1) : Calls Try.prog 10 #[.slice A0 n0 c0, .int .i64 a1] w (TrueBelow w) := by
  by_cases hbig : 1048576 < n0
  · go_enter Try.func10, Try.ntmps10
    go_wp2_with fail
    refine (szLegS_any A0 n0 c0 _ _ (by omega) (by omega) hm0).mono ?_
    rintro e w1 ⟨rfl, rfl⟩
    rw [if_pos (by omega)]
    go_wp2
    go_ret
    exact ⟨rfl, Below.refl _ _⟩
  · go_enter Try.func10, Try.ntmps10
    have Hm := Lib.hid hm0; clear hm0
    have Hn := Lib.hid hn0; clear hn0
    have Hx := Lib.hid hx0; clear hx0
    have Hf := Lib.hid hf0; clear hf0
    go_wp2_with fail
    refine (szLegS_any A0 n0 c0 _ _ (by omega) (by omega) Hm.out).mono ?_
    rintro e w1 ⟨rfl, rfl⟩
    rw [if_neg (by omega)]
    go_wp2_with fail
    refine (toLegS_any A0 n0 c0 xs0 _ Hx.out Hn.out (by omega)).mono ?_
    rintro e w1 ⟨rfl, hs1, hb1⟩
    have Hs1 := Lib.hid hs1; clear hs1
    have hc1 : Below w.heap.size w w1 := hb1
    go_wp2_with fail
    refine (specLengthOf_any _ n0 n0 xs0 a1 _ (Legs.of Hs1.out) Hn.out (by omega)).mono ?_
    rintro e w2 ⟨rfl, hb2⟩
    have hc2 : Below w.heap.size w w2 := bT hc1 hb2
    go_wp2_with fail
    refine (toLegS_any A0 n0 c0 xs0 _ ((Hx.out.below hc2 (Nat.le_refl _)).more hc2.size) Hn.out (by omega)).mono ?_
    rintro e w3 ⟨rfl, hs3, hb3⟩
    have Hs3 := Lib.hid hs3; clear hs3
    have hc3 : Below w.heap.size w w3 := bT hc2 hb3
    go_wp2_with fail
    refine (implLengthOf_any _ n0 n0 xs0 a1 _ (Legs.of Hs3.out) Hn.out (by omega)).mono ?_
    rintro e w4 ⟨rfl, hb4⟩
    have hc4 : Below w.heap.size w w4 := bT hc3 hb4
    go_wp2_with fail
    refine (toLegS_any A0 n0 c0 xs0 _ ((Hx.out.below hc4 (Nat.le_refl _)).more hc4.size) Hn.out (by omega)).mono ?_
    rintro e w5 ⟨rfl, hs5, hb5⟩
    have Hs5 := Lib.hid hs5; clear hs5
    have hc5 : Below w.heap.size w w5 := bT hc4 hb5
    have Hs35 := Lib.hid ((Hs3.out.below hb4 Hs3.out.lt).below hb5 (Nat.lt_of_lt_of_le Hs3.out.lt hb4.size))
    go_wp2_with fail
    refine (eqLegS_any _ _ n0 n0 n0 n0 xs0 xs0 _ (Legs.of Hs35.out) (Legs.of Hs5.out) Hn.out Hn.out (by omega) (by omega)).mono ?_
    rintro e w6 ⟨rfl, hb6⟩
    have hc6 : Below w.heap.size w w6 := bT hc5 hb6
    rw [decide_eq_true (rfl : xs0 = xs0)]
    go_wp2
    go_ret
    exact ⟨rfl, hc6⟩

set_option maxRecDepth 100000 in
theorem lifted (os : Os) (started : os.Started) (H : Type) (enc : TypeId × Value → H) :
    ReturnsInHanded {} Try.checked os 10 .any (Rows.fnExactLengthOfSpec.pre6 enc Try.prog Try.f10 Rows.fnExactLengthOfRow.domain false) (Rows.fnExactLengthOfSpec.post enc Try.prog Try.f10 false true false false) := by
  refine returnsInHanded_of_change (C := Try.checked) Cells.own started (by kernel_rfl) Try.func10
    (ChangeSpec.witness6 (enc := enc) (C := Try.checked) false ⟨#[], #[.slice none 0 0, .int .i64 0], []⟩ 8 (by kernel_rfl) (by kernel_rfl) (by kernel_rfl) (by kernel_rfl)) ?_
  intro W base args ds gs before hval0 hW _ _
  have hval : ∀ (j : Nat) t v, Try.f10.params[j]? = some t → args[j]? = some v → Value.okWide Try.prog W .any base t v := hval0
  have hW' := hW
  obtain ⟨p, q, hA0, hV, rfl, _, _⟩ := hW
  have hA : DataW.TrodAll enc Try.prog W 0 (fun _ => true) true Try.f10.params.toList args.toList ds p := hA0
  rw [Try.params10] at hA hval
  obtain ⟨v0, vs0, d0, ds0, p0, q0, hargs, rfl, rfl, h0, r0⟩ := trodAll_cons hA
  obtain ⟨v1, vs1, d1, ds1, p1, q1, rfl, rfl, rfl, h1, r1⟩ := trodAll_cons r0
  obtain ⟨rfl, rfl, rfl⟩ := trodAll_nil r1
  obtain rfl : args = #[v0, v1] := by cases args; simp_all
  obtain ⟨rfl, rfl⟩ := trodVars_none hV
  clear hA0 hval0
  have hlt : ∀ x ∈ (p0 ++ (p1 ++ [])), x.block < W.heap.size := fun x hx => hW'.lt x (by simpa using hx)
  have k0 := fun (W' : World) (hn : Below W.heap.size W W') => Below.trod Cells.laidOut (by kernel_rfl) (of_decide_eq_true (by kernel_rfl)) h0 hn (fun x hx => hlt x (by simp [hx]))
  have k1 := fun (W' : World) (hn : Below W.heap.size W W') => Below.trod Cells.laidOut (by kernel_rfl) (of_decide_eq_true (by kernel_rfl)) h1 hn (fun x hx => hlt x (by simp [hx]))
  obtain ⟨A0, n0, c0, xs0, rfl, hn0, hm0, hx0, hf0⟩ := legs_open (hval 0 37 v0 rfl rfl) h0
  obtain ⟨a1, rfl, rfl, rfl, w1⟩ := open_int Try.underlying3 (hval 1 3 v1 rfl rfl) h1
  refine (walk W A0 n0 c0 xs0 hn0 hm0 hx0 hf0 a1 (fits_of_wf w1)).mono fun e W' ⟨he, hnx⟩ => ?_
  subst he
  refine ⟨_, rfl, _, _, _, [], (p0 ++ ([] ++ [])), [], hW', trodAll_mk1 (shut_bool Try.underlying4 _), (trodAll_cons_mk (k0 _ hnx) (trodAll_cons_mk (k1 _ hnx) trodAll_mk0)), rfl, hnx.frame _, fun h => by cases h⟩

theorem closed : joinedFacts Try.prog 10 Try.f10 Rows.fnExactLengthOfSpec Rows.fnExactLengthOfRow = true := by
  unfold joinedFacts
  rw [Cells.laidOut, Cells.mapsRowed_, Cells.stops, Cells.stopKnobs, Cells.plainKeys, Cells.stopsHeard, Cells.mayEnter, Cells.liftsFinal, Cells.make]
  kernel_rfl

theorem over : Rows.fnExactLengthOfRow.holds Try.pinned (OpenSpec.ofChange Rows.fnExactLengthOfSpec) :=
  OpenClaim.holds_of_wide 10 Try.f10 rfl rfl rfl rfl rfl rfl rfl ⟨rfl, rfl, rfl, rfl, rfl⟩ rfl rfl rfl rfl rfl (by kernel_rfl) Try.func10 closed
    (of_decide_eq_true (by kernel_rfl)) (by unfold Func.isWrapper; first | (rw [if_pos (by decide +kernel)]; kernel_rfl) | (rw [if_neg (by decide +kernel)]; exact ⟨rfl, rfl⟩))
    (fun os started H enc _ => lifted os started H enc)

/-- THE STATEMENT -/
theorem proved : Rows.FnExactLengthOfSaid := over
#print axioms proved
end Go.Proofs.Ytgecgjndbaeahaa.fnExactLengthOf
