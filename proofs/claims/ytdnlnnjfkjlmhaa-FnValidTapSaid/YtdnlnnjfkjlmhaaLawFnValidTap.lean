/-
  Taps are numbered: for every code, with the tap drawn from it, the law FnValidTap returns true and leaves the code as it was. No conditions.
-/
import Derived.Test.YtdnlnnjfkjlmhaaTapValid2
import Derived.Test.YtdnlnnjfkjlmhaaDrawValidTap
import Derived.Test.YtdnlnnjfkjlmhaaLiftBytes
namespace Go.Proofs.Ytdnlnnjfkjlmhaa.fnValidTap
open Go.ChangeShapes Go.WideShapes Go.ChangeAt Go.RowKit
set_option linter.unusedVariables false

theorem Fares.validTaps_one (t : Fares.Tap) : Fares.validTaps [t] = Fares.validTap t := by
  unfold Fares.validTaps
  have h : Fares.tapOkAt [t] 0 = Fares.validTap t := Fares.tapOkAt_zero rfl
  simp [List.range_succ, h]
set_option maxRecDepth 100000 in
set_option maxHeartbeats 2000000 in
theorem walk (A : Option Addr) (n c : Nat) (w : World) (h : Bytes w w.heap.size A n c) : Calls Try.prog 3 #[.slice A n c] w (TrueBelow w) := by
  by_cases hn : 1048576 < n
  · go_enter Try.func3, Try.ntmps3
    go_wp2
    go_ret
    exact ⟨rfl, Below.refl _ _⟩
  · go_enter Try.func3, Try.ntmps3
    go_wp2_with fail
    refine (drawValidTap_any A n c w h).mono ?_
    rintro e w1 ⟨t, rfl, ht, hc1⟩
    unfold tapV
    have HB1 := Lib.hid (TapBox.new w1 t 24)
    go_wp2_with fail
    refine (implValidTap_any t _).mono ?_
    rintro e w2 ⟨rfl, hb2⟩
    have hc2 : Below w.heap.size w w2 := bT (bA hc1 _) hb2
    have HB2 := Lib.hid (HB1.out.below hb2 (by simp))
    clear hb2
    obtain ⟨l0, q0, q1, q2, q3, q4, q5⟩ := HB2.out
    go_wp2_with fail
    refine (specValidTap_any t _).mono ?_
    rintro e w3 ⟨rfl, hb3⟩
    have hc3 : Below w.heap.size w w3 := bT hc2 hb3
    have HB3 := Lib.hid (HB2.out.below hb3 l0)
    clear hb3 q0 q1 q2 q3 q4 q5 l0
    obtain ⟨l0, q0, q1, q2, q3, q4, q5⟩ := HB3.out
    go_wp2_with fail
    refine (implValidTaps_any _ 1 _ [t] _ (Taps.of (N := 6) ⟨_, Blk.new w3 24 #[.int .i64 t.v, .int .i64 t.n, .int .i64 t.c, .int .i64 t.m, .int .i64 t.s, .bool t.o], rfl, by simp [tapCells]⟩) rfl (by omega) (by omega)).mono ?_
    rintro e w4 ⟨rfl, hb4⟩
    have hc4 : Below w.heap.size w w4 := bT (bA hc3 _) hb4
    clear hb4
    rw [Fares.validTaps_one]
    go_wp2
    go_ret
    exact ⟨ret_bool (by simp), hc4⟩

set_option maxRecDepth 100000 in
theorem lifted (os : Os) (started : os.Started) (H : Type) (enc : TypeId × Value → H) :
    ReturnsInHanded {} Try.checked os 3 .any (Rows.fnValidTapSpec.pre6 enc Try.prog Try.f3 Rows.fnValidTapRow.domain false) (Rows.fnValidTapSpec.post enc Try.prog Try.f3 false true false false) := by
  refine returnsInHanded_of_change (C := Try.checked) Cells.own started (by kernel_rfl) Try.func3
    (ChangeSpec.witness6 (enc := enc) (C := Try.checked) false ⟨#[], #[.slice none 0 0], []⟩ 8 (by kernel_rfl) (by kernel_rfl) (by kernel_rfl) (by kernel_rfl)) ?_
  intro W base args ds gs before hval0 hW _ _
  have hval : ∀ (j : Nat) t v, Try.f3.params[j]? = some t → args[j]? = some v → Value.okWide Try.prog W .any base t v := hval0
  have hW' := hW
  obtain ⟨p, q, hA0, hV, rfl, _, _⟩ := hW
  have hA : DataW.TrodAll enc Try.prog W 0 (fun _ => true) true Try.f3.params.toList args.toList ds p := hA0
  rw [Try.params3] at hA hval
  obtain ⟨v0, d0, rfl, rfl, h0⟩ := trodAll_one hA
  obtain ⟨rfl, rfl⟩ := trodVars_none hV
  obtain ⟨a0, len, cap, rfl⟩ := okWide_slice Try.underlying22 (hval 0 22 v0 rfl rfl)
  clear hA0 hval0
  simp only [List.append_nil] at hW'
  obtain ⟨hb, hargs⟩ := opened h0 (fun x hx => by simpa using hW'.lt x hx)
  refine (walk a0 len cap W hb).mono fun e W' ⟨he, hnx⟩ => ?_
  subst he
  exact ⟨_, rfl, _, _, _, [], _, [], hW', trodAll_mk1 (shut_bool Try.underlying4 _), trodAll_mk1 (hargs _ hnx), rfl, hnx.frame _, fun h => by cases h⟩

theorem closed : joinedFacts Try.prog 3 Try.f3 Rows.fnValidTapSpec Rows.fnValidTapRow = true := by
  unfold joinedFacts
  rw [Cells.laidOut, Cells.mapsRowed_, Cells.stops, Cells.stopKnobs, Cells.plainKeys, Cells.stopsHeard, Cells.mayEnter, Cells.liftsFinal, Cells.make]
  kernel_rfl

theorem over : Rows.fnValidTapRow.holds Try.pinned (OpenSpec.ofChange Rows.fnValidTapSpec) :=
  OpenClaim.holds_of_wide 3 Try.f3 rfl rfl rfl rfl rfl rfl rfl ⟨rfl, rfl, rfl, rfl, rfl⟩ rfl rfl rfl rfl rfl (by kernel_rfl) Try.func3 closed
    (of_decide_eq_true (by kernel_rfl)) (by unfold Func.isWrapper; first | (rw [if_pos (by decide +kernel)]; kernel_rfl) | (rw [if_neg (by decide +kernel)]; exact ⟨rfl, rfl⟩))
    (fun os started H enc _ => lifted os started H enc)

/-- THE STATEMENT -/
theorem proved : Rows.FnValidTapSaid := over
#print axioms proved
end Go.Proofs.Ytdnlnnjfkjlmhaa.fnValidTap
