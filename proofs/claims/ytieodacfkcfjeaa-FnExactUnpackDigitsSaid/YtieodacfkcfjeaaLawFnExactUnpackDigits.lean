/-
  At every slice of bytes, UnpackDigits of the program answers as its model: the law FnExactUnpackDigits returns true and leaves its argument as it was. No conditions.
-/
import Derived.Test.YtieodacfkcfjeaaDigitFn
import Derived.Test.YtieodacfkcfjeaaLiftBytes
set_option linter.unusedSimpArgs false
namespace Go.Proofs.Ytieodacfkcfjeaa.fnExactUnpackDigits
open Go.ChangeShapes Go.WideShapes Go.ChangeAt Go.RowKit
set_option linter.unusedVariables false

set_option maxRecDepth 100000 in
set_option maxHeartbeats 2000000 in
theorem walk (A : Option Addr) (n c : Nat) (w : World) (h : Bytes w w.heap.size A n c) : Calls Try.prog 3 #[.slice A n c] w (TrueBelow w) := by
  obtain ⟨hc, hm, xs, hl, hx, hr⟩ := h
  have hx0 : ByteL w w.heap.size A xs := by unfold ByteL; rw [flat_bytes]; exact hr
  have Hx := Lib.hid hx0; clear hx0 hr
  have Hb := Lib.hid hx; clear hx
  have Hn := Lib.hid hl; clear hl
  have Hcm : Hid (n ≤ c) := hc
  by_cases hn : 1048576 < n
  · go_enter Try.func3, Try.ntmps3
    go_wp2
    go_ret
    exact ⟨rfl, Below.refl _ _⟩
  · go_enter Try.func3, Try.ntmps3
    go_wp2_with fail
    refine (toByteS_any A n c xs _ Hx.out Hn.out (by omega)).mono ?_
    rintro e w1 ⟨rfl, hs1, hb1⟩
    have Hs1 := Lib.hid hs1; clear hs1
    have hc1 : Below w.heap.size w w1 := hb1
    go_wp2_with fail
    refine (specUnpackDigits_any _ n n xs _ (ByteL.of Hs1.out) Hn.out (by omega) Hb.out).mono ?_
    rintro e w1 ⟨rfl, rfl⟩
    go_wp2_with fail
    refine (toByteS_any A n c xs _ ((Hx.out.below hc1 (Nat.le_refl _)).more hc1.size) Hn.out (by omega)).mono ?_
    rintro e w3 ⟨rfl, hs3, hb3⟩
    have Hs3 := Lib.hid hs3; clear hs3
    have hc3 : Below w.heap.size w w3 := bT hc1 hb3
    go_wp2_with fail
    refine (implUnpackDigits_any _ n n xs _ (ByteL.of Hs3.out) Hn.out (by omega) Hb.out).mono ?_
    rintro e w3 ⟨rfl, rfl⟩
    go_wp2_with fail
    refine (toByteS_any A n c xs _ ((Hx.out.below hc3 (Nat.le_refl _)).more hc3.size) Hn.out (by omega)).mono ?_
    rintro e w5 ⟨rfl, hs5, hb5⟩
    have Hs5 := Lib.hid hs5; clear hs5
    have hc5 : Below w.heap.size w w5 := bT hc3 hb5
    have Hs35 := Lib.hid (Hs3.out.below hb5 Hs3.out.lt)
    go_wp2_with fail
    refine (eqByteS_any _ _ n n n n xs xs _ (ByteL.of Hs35.out) (ByteL.of Hs5.out) Hn.out Hn.out (by omega) (by omega)).mono ?_
    rintro e w6 ⟨rfl, hb6⟩
    have hc6 : Below w.heap.size w w6 := bT hc5 hb6
    rw [decide_eq_true (rfl : xs = xs)]
    go_wp2
    go_ret
    exact ⟨rfl, hc6⟩

set_option maxRecDepth 100000 in
theorem lifted (os : Os) (started : os.Started) (H : Type) (enc : TypeId × Value → H) :
    ReturnsInHanded {} Try.checked os 3 .any (Rows.fnExactUnpackDigitsSpec.pre6 enc Try.prog Try.f3 Rows.fnExactUnpackDigitsRow.domain false) (Rows.fnExactUnpackDigitsSpec.post enc Try.prog Try.f3 false true false false) := by
  refine returnsInHanded_of_change (C := Try.checked) Cells.own started (by kernel_rfl) Try.func3
    (ChangeSpec.witness6 (enc := enc) (C := Try.checked) false ⟨#[], #[.slice none 0 0], []⟩ 8 (by kernel_rfl) (by kernel_rfl) (by kernel_rfl) (by kernel_rfl)) ?_
  intro W base args ds gs before hval0 hW _ _
  have hval : ∀ (j : Nat) t v, Try.f3.params[j]? = some t → args[j]? = some v → Value.okWide Try.prog W .any base t v := hval0
  have hW' := hW
  obtain ⟨p, q, hA0, hV, rfl, _, _⟩ := hW
  have hA : DataW.TrodAll enc Try.prog W 0 (fun _ => true) true Try.f3.params.toList args.toList ds p := hA0
  rw [Try.params3] at hA hval
  obtain ⟨v0, d0, rfl, rfl, h0⟩ := trodAll_one hA
  obtain ⟨rfl, rfl⟩ := trodVars_none hV
  obtain ⟨a0, len, cap, rfl⟩ := okWide_slice Try.underlying22 (hval 0 22 v0 rfl rfl)
  clear hA0 hval0
  simp only [List.append_nil] at hW'
  obtain ⟨hb, hargs⟩ := opened h0 (fun x hx => by simpa using hW'.lt x hx)
  refine (walk a0 len cap W hb).mono fun e W' ⟨he, hnx⟩ => ?_
  subst he
  exact ⟨_, rfl, _, _, _, [], _, [], hW', trodAll_mk1 (shut_bool Try.underlying4 _), trodAll_mk1 (hargs _ hnx), rfl, hnx.frame _, fun h => by cases h⟩

theorem closed : joinedFacts Try.prog 3 Try.f3 Rows.fnExactUnpackDigitsSpec Rows.fnExactUnpackDigitsRow = true := by
  unfold joinedFacts
  rw [Cells.laidOut, Cells.mapsRowed_, Cells.stops, Cells.stopKnobs, Cells.plainKeys, Cells.stopsHeard, Cells.mayEnter, Cells.liftsFinal, Cells.make]
  kernel_rfl

theorem over : Rows.fnExactUnpackDigitsRow.holds Try.pinned (OpenSpec.ofChange Rows.fnExactUnpackDigitsSpec) :=
  OpenClaim.holds_of_wide 3 Try.f3 rfl rfl rfl rfl rfl rfl rfl ⟨rfl, rfl, rfl, rfl, rfl⟩ rfl rfl rfl rfl rfl (by kernel_rfl) Try.func3 closed
    (of_decide_eq_true (by kernel_rfl)) (by unfold Func.isWrapper; first | (rw [if_pos (by decide +kernel)]; kernel_rfl) | (rw [if_neg (by decide +kernel)]; exact ⟨rfl, rfl⟩))
    (fun os started H enc _ => lifted os started H enc)

/-- THE STATEMENT -/
theorem proved : Rows.FnExactUnpackDigitsSaid := over
#print axioms proved
end Go.Proofs.Ytieodacfkcfjeaa.fnExactUnpackDigits
