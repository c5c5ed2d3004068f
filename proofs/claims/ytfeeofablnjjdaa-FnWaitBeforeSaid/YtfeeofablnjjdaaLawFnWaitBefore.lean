/-
  Waits become longer: at every code, with the first number and the try drawn from it, the law FnWaitBefore returns true and leaves the code as it was. No conditions.
-/
import Derived.Test.YtfeeofablnjjdaaTryImpl2
import Derived.Test.YtfeeofablnjjdaaTryLaw
import Derived.Test.YtfeeofablnjjdaaDrawsTries
import Derived.Test.YtfeeofablnjjdaaLiftBytes
set_option linter.unusedSimpArgs false
namespace Go.Proofs.Ytfeeofablnjjdaa.fnWaitBefore
open Go.ChangeShapes Go.WideShapes Go.ChangeAt Go.RowKit
set_option linter.unusedVariables false

set_option maxRecDepth 100000 in
set_option maxHeartbeats 2000000 in
theorem walk (A : Option Addr) (n c : Nat) (w : World) (h : Bytes w w.heap.size A n c) : Calls Try.prog 3 #[.slice A n c] w (TrueBelow w) := by
  by_cases hn : 1048576 < n
  · go_enter Try.func3, Try.ntmps3
    go_wp2
    go_ret
    exact ⟨rfl, Below.refl _ _⟩
  · go_enter Try.func3, Try.ntmps3
    go_wp2_with fail
    refine (drawWaitBefore_any A n c w h).mono ?_
    rintro e w1 ⟨f, t, rfl, f0, f1, t0, t1, hb1⟩
    clear h
    go_wp2_with fail
    refine (implWaitBefore_any f t _).mono ?_
    rintro e w2 ⟨rfl, hb2⟩
    have hc2 : Below w.heap.size w w2 := bT hb1 hb2
    go_wp2_with fail
    refine (specWaitBefore_any f t _).mono ?_
    rintro e w' ⟨rfl, rfl⟩
    obtain ⟨v, hv⟩ : ∃ v, Fares.waitBefore f t = v := ⟨_, rfl⟩
    rw [hv]
    have hr : v = -1 ∨ 1 ≤ v ∧ v ≤ 1440 := hv ▸ Fares.waitBefore_range f t
    by_cases hp : 0 ≤ v
    · obtain ⟨l1, l2, l3, l4, l5⟩ := Fares.wait_law (hv.symm ▸ hp)
      rw [hv] at l1 l2 l3 l4
      obtain ⟨t', Et⟩ : ∃ t', (if 4 < t + 1 then 4 else t + 1) = t' := ⟨_, rfl⟩
      rw [Et] at l1 l2
      obtain ⟨v2, hv2⟩ : ∃ v2, Fares.waitBefore f t' = v2 := ⟨_, rfl⟩
      rw [hv2] at l1 l2
      obtain ⟨v3, hv3⟩ : ∃ v3, Fares.waitBefore f 1 = v3 := ⟨_, rfl⟩
      rw [hv3] at l5
      subst l5
      go_wp2_with fail
      refine (implWaitBefore_any _ t' _).mono ?_
      rw [hv2]
      rintro e w3 ⟨rfl, hb3⟩
      go_wp2_with fail
      refine (implWaitBefore_any v3 1 _).mono ?_
      rw [hv3]
      rintro e w4 ⟨rfl, hb4⟩
      go_wp2_with fail
      all_goals (go_ret; exact ⟨rfl, bT (bT hc2 hb3) hb4⟩)
    · obtain rfl : v = -1 := by omega
      have es := hv
      go_wp2_with fail
      refine (specWaitBefore_any f t _).mono ?_
      rw [es]
      rintro e w' ⟨rfl, rfl⟩
      go_wp2_with fail
      go_ret
      exact ⟨rfl, hc2⟩

set_option maxRecDepth 100000 in
theorem lifted (os : Os) (started : os.Started) (H : Type) (enc : TypeId × Value → H) :
    ReturnsInHanded {} Try.checked os 3 .any (Rows.fnWaitBeforeSpec.pre6 enc Try.prog Try.f3 Rows.fnWaitBeforeRow.domain false) (Rows.fnWaitBeforeSpec.post enc Try.prog Try.f3 false true false false) := by
  refine returnsInHanded_of_change (C := Try.checked) Cells.own started (by kernel_rfl) Try.func3
    (ChangeSpec.witness6 (enc := enc) (C := Try.checked) false ⟨#[], #[.slice none 0 0], []⟩ 8 (by kernel_rfl) (by kernel_rfl) (by kernel_rfl) (by kernel_rfl)) ?_
  intro W base args ds gs before hval0 hW _ _
  have hval : ∀ (j : Nat) t v, Try.f3.params[j]? = some t → args[j]? = some v → Value.okWide Try.prog W .any base t v := hval0
  have hW' := hW
  obtain ⟨p, q, hA0, hV, rfl, _, _⟩ := hW
  have hA : DataW.TrodAll enc Try.prog W 0 (fun _ => true) true Try.f3.params.toList args.toList ds p := hA0
  rw [Try.params3] at hA hval
  obtain ⟨v0, d0, rfl, rfl, h0⟩ := trodAll_one hA
  obtain ⟨rfl, rfl⟩ := trodVars_none hV
  obtain ⟨a0, len, cap, rfl⟩ := okWide_slice Try.underlying22 (hval 0 22 v0 rfl rfl)
  clear hA0 hval0
  simp only [List.append_nil] at hW'
  obtain ⟨hb, hargs⟩ := opened h0 (fun x hx => by simpa using hW'.lt x hx)
  refine (walk a0 len cap W hb).mono fun e W' ⟨he, hnx⟩ => ?_
  subst he
  exact ⟨_, rfl, _, _, _, [], _, [], hW', trodAll_mk1 (shut_bool Try.underlying4 _), trodAll_mk1 (hargs _ hnx), rfl, hnx.frame _, fun h => by cases h⟩

theorem closed : joinedFacts Try.prog 3 Try.f3 Rows.fnWaitBeforeSpec Rows.fnWaitBeforeRow = true := by
  unfold joinedFacts
  rw [Cells.laidOut, Cells.mapsRowed_, Cells.stops, Cells.stopKnobs, Cells.plainKeys, Cells.stopsHeard, Cells.mayEnter, Cells.liftsFinal, Cells.make]
  kernel_rfl

theorem over : Rows.fnWaitBeforeRow.holds Try.pinned (OpenSpec.ofChange Rows.fnWaitBeforeSpec) :=
  OpenClaim.holds_of_wide 3 Try.f3 rfl rfl rfl rfl rfl rfl rfl ⟨rfl, rfl, rfl, rfl, rfl⟩ rfl rfl rfl rfl rfl (by kernel_rfl) Try.func3 closed
    (of_decide_eq_true (by kernel_rfl)) (by unfold Func.isWrapper; first | (rw [if_pos (by decide +kernel)]; kernel_rfl) | (rw [if_neg (by decide +kernel)]; exact ⟨rfl, rfl⟩))
    (fun os started H enc _ => lifted os started H enc)

/-- THE STATEMENT -/
theorem proved : Rows.FnWaitBeforeSaid := over
#print axioms proved
end Go.Proofs.Ytfeeofablnjjdaa.fnWaitBefore
