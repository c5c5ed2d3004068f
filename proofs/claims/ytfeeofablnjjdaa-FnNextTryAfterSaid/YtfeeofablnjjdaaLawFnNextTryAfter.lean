/-
  Tries come to an end: at every code, the law FnNextTryAfter returns true and leaves the code as it was. No conditions.
-/
import Derived.Test.YtfeeofablnjjdaaTryNext
import Derived.Test.YtfeeofablnjjdaaTryLaw
import Derived.Test.YtfeeofablnjjdaaDrawsTries
import Derived.Test.YtfeeofablnjjdaaLiftBytes
set_option linter.unusedSimpArgs false
namespace Go.Proofs.Ytfeeofablnjjdaa.fnNextTryAfter
open Go.ChangeShapes Go.WideShapes Go.ChangeAt Go.RowKit
set_option linter.unusedVariables false

set_option maxRecDepth 100000 in
set_option maxHeartbeats 2000000 in
theorem walk (A : Option Addr) (n c : Nat) (w : World) (h : Bytes w w.heap.size A n c) : Calls Try.prog 8 #[.slice A n c] w (TrueBelow w) := by
  by_cases hn : 1048576 < n
  · go_enter Try.func8, Try.ntmps8
    go_wp2
    go_ret
    exact ⟨rfl, Below.refl _ _⟩
  · go_enter Try.func8, Try.ntmps8
    go_wp2_with fail
    refine (drawNextTry_any A n c w h).mono ?_
    rintro e w1 ⟨b, f, m, rfl, b0, b1, f0, f1, m0, m1, hb1⟩
    clear h
    go_wp2_with fail
    refine (implNextTry_any b f m _).mono ?_
    rintro e w2 ⟨rfl, hb2⟩
    have hc2 : Below w.heap.size w w2 := bT hb1 hb2
    go_wp2_with fail
    refine (specNextTry_any b f m _).mono ?_
    rintro e w3 ⟨rfl, hb3⟩
    have hc3 : Below w.heap.size w w3 := bT hc2 hb3
    obtain ⟨v, hv⟩ : ∃ v, Fares.nextTry b f m = v := ⟨_, rfl⟩
    rw [hv]
    have hr : v = -1 ∨ 0 < v ∧ v ≤ 40319 := hv ▸ Fares.nextTry_range b f m
    by_cases hp : 0 ≤ v
    · obtain ⟨l1, l2⟩ := Fares.after_law (hv.symm ▸ hp)
      rw [hv] at l1 l2
      obtain ⟨v2, hv2⟩ : ∃ v2, Fares.nextTry b f (v + 1) = v2 := ⟨_, rfl⟩
      rw [hv2] at l2
      go_wp2_with fail
      refine (implNextTry_any b f (v + 1) _).mono ?_
      rw [hv2]
      rintro e w4 ⟨rfl, hb4⟩
      go_wp2_with fail
      refine (implNextTry_any b f v _).mono ?_
      rw [l1]
      rintro e w5 ⟨rfl, hb5⟩
      go_wp2_with fail
      all_goals (go_ret; exact ⟨ret_bool (by first | rfl | (simp; done) | (simp; omega) | omega), bT (bT hc3 hb4) hb5⟩)
    · obtain rfl : v = -1 := by omega
      have es := hv
      go_wp2_with fail
      refine (specNextTry_any b f m _).mono ?_
      rw [es]
      rintro e w4 ⟨rfl, hb4⟩
      go_wp2_with fail
      go_ret
      exact ⟨rfl, bT hc3 hb4⟩

set_option maxRecDepth 100000 in
theorem lifted (os : Os) (started : os.Started) (H : Type) (enc : TypeId × Value → H) :
    ReturnsInHanded {} Try.checked os 8 .any (Rows.fnNextTryAfterSpec.pre6 enc Try.prog Try.f8 Rows.fnNextTryAfterRow.domain false) (Rows.fnNextTryAfterSpec.post enc Try.prog Try.f8 false true false false) := by
  refine returnsInHanded_of_change (C := Try.checked) Cells.own started (by kernel_rfl) Try.func8
    (ChangeSpec.witness6 (enc := enc) (C := Try.checked) false ⟨#[], #[.slice none 0 0], []⟩ 8 (by kernel_rfl) (by kernel_rfl) (by kernel_rfl) (by kernel_rfl)) ?_
  intro W base args ds gs before hval0 hW _ _
  have hval : ∀ (j : Nat) t v, Try.f8.params[j]? = some t → args[j]? = some v → Value.okWide Try.prog W .any base t v := hval0
  have hW' := hW
  obtain ⟨p, q, hA0, hV, rfl, _, _⟩ := hW
  have hA : DataW.TrodAll enc Try.prog W 0 (fun _ => true) true Try.f8.params.toList args.toList ds p := hA0
  rw [Try.params8] at hA hval
  obtain ⟨v0, d0, rfl, rfl, h0⟩ := trodAll_one hA
  obtain ⟨rfl, rfl⟩ := trodVars_none hV
  obtain ⟨a0, len, cap, rfl⟩ := okWide_slice Try.underlying22 (hval 0 22 v0 rfl rfl)
  clear hA0 hval0
  simp only [List.append_nil] at hW'
  obtain ⟨hb, hargs⟩ := opened h0 (fun x hx => by simpa using hW'.lt x hx)
  refine (walk a0 len cap W hb).mono fun e W' ⟨he, hnx⟩ => ?_
  subst he
  exact ⟨_, rfl, _, _, _, [], _, [], hW', trodAll_mk1 (shut_bool Try.underlying4 _), trodAll_mk1 (hargs _ hnx), rfl, hnx.frame _, fun h => by cases h⟩

theorem closed : joinedFacts Try.prog 8 Try.f8 Rows.fnNextTryAfterSpec Rows.fnNextTryAfterRow = true := by
  unfold joinedFacts
  rw [Cells.laidOut, Cells.mapsRowed_, Cells.stops, Cells.stopKnobs, Cells.plainKeys, Cells.stopsHeard, Cells.mayEnter, Cells.liftsFinal, Cells.make]
  kernel_rfl

theorem over : Rows.fnNextTryAfterRow.holds Try.pinned (OpenSpec.ofChange Rows.fnNextTryAfterSpec) :=
  OpenClaim.holds_of_wide 8 Try.f8 rfl rfl rfl rfl rfl rfl rfl ⟨rfl, rfl, rfl, rfl, rfl⟩ rfl rfl rfl rfl rfl (by kernel_rfl) Try.func8 closed
    (of_decide_eq_true (by kernel_rfl)) (by unfold Func.isWrapper; first | (rw [if_pos (by decide +kernel)]; kernel_rfl) | (rw [if_neg (by decide +kernel)]; exact ⟨rfl, rfl⟩))
    (fun os started H enc _ => lifted os started H enc)

/-- THE STATEMENT -/
theorem proved : Rows.FnNextTryAfterSaid := over
#print axioms proved
end Go.Proofs.Ytfeeofablnjjdaa.fnNextTryAfter
