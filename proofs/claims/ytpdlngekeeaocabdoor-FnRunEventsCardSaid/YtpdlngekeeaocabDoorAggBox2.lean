/-
  StepSum on both sides, cell for cell; what its answers are, in plain numbers.
-/
import Derived.Test.YtpdlngekeeaocabDoorAggBox
import Derived.Test.YtpdlngekeeaocabDoorAggStep4
set_option linter.unusedSimpArgs false
namespace Go.Proofs.YtpdlngekeeaocabDoor
open Go.RowKit
set_option linter.unusedVariables false

theorem implStep_cells (x : Fares.Sum) (e : Fares.Event) (s a t : Int) (b : Bool) (hP : ((⟨s, a, t⟩ : Fares.Sum), b) = Fares.stepSum x e) (w : World) (hL : Limits w) (hT : Steps w) :
    Calls Tryd.prog 11 #[.agg #[.int .i64 x.s, .int .i64 x.a, .int .i64 x.t], .agg #[.int .i64 e.k, .int .i64 e.a]] w fun r w' => r = .returned (.tuple #[.agg #[.int .i64 s, .int .i64 a, .int .i64 t], .bool b]) ∧ Below w.heap.size w w' := by
  have h := implStepSum_any x e w hL hT
  rw [← hP] at h
  exact h
theorem specStep_cells (x : Fares.Sum) (e : Fares.Event) (s a t : Int) (b : Bool) (hP : ((⟨s, a, t⟩ : Fares.Sum), b) = Fares.stepSum x e) (w : World) :
    Calls Tryd.prog 12 #[.agg #[.int .i64 x.s, .int .i64 x.a, .int .i64 x.t], .agg #[.int .i64 e.k, .int .i64 e.a]] w fun r w' => r = .returned (.tuple #[.agg #[.int .i64 s, .int .i64 a, .int .i64 t], .bool b]) ∧ Below w.heap.size w w' := by
  have h := specStepSum_any x e w
  rw [← hP] at h
  exact h
theorem implValid_cells (x : Fares.Sum) (w : World) (hL : Limits w) :
    Calls Tryd.prog 13 #[.agg #[.int .i64 x.s, .int .i64 x.a, .int .i64 x.t]] w fun r w' => r = .returned (.bool (Fares.validSum x)) ∧ Below w.heap.size w w' := implValidSum_any x w hL
def okNums (s a t : Int) : Prop := 0 ≤ s ∧ s ≤ 5 ∧ 0 ≤ a ∧ a ≤ 100000 ∧ 0 ≤ t ∧ t ≤ 4 ∧ (s = 0 ∧ t = 0 ∨ s = 4 ∧ t = 0 ∧ a = 0 ∨ s = 1 ∧ 0 < a ∧ t < 4 ∨ s = 2 ∧ 0 < a ∧ 1 ≤ t ∨ s = 3 ∧ 0 < a ∧ 1 ≤ t ∨ s = 5 ∧ 0 < a ∧ t = 4)
def stepNums (xs xa xt k n s a t : Int) : Prop :=
  k = 1 ∧ xs = 0 ∧ 0 ≤ n ∧ n ≤ 100000 - xa ∧ s = 0 ∧ a = xa + n ∧ t = 0 ∨ k = 2 ∧ xs = 0 ∧ xa = 0 ∧ s = 4 ∧ a = 0 ∧ t = 0 ∨ k = 2 ∧ xs = 0 ∧ xa ≠ 0 ∧ s = 1 ∧ a = xa ∧ t = 0
    ∨ k = 3 ∧ xs = 1 ∧ s = 2 ∧ a = xa ∧ t = xt + 1 ∨ k = 4 ∧ xs = 2 ∧ s = 3 ∧ a = xa ∧ t = xt ∨ (k = 5 ∨ k = 6) ∧ xs = 2 ∧ xt = 4 ∧ s = 5 ∧ a = xa ∧ t = xt ∨ (k = 5 ∨ k = 6) ∧ xs = 2 ∧ xt ≠ 4 ∧ s = 1 ∧ a = xa ∧ t = xt
theorem stepSum_yes {x : Fares.Sum} {e : Fares.Event} (h : (Fares.stepSum x e).2 = true) : Fares.validSum x = true ∧ Fares.stepSum x e = Fares.step x e := by
  unfold Fares.stepSum at h ⊢
  split
  · rename_i hv; exact ⟨hv, rfl⟩
  · rename_i hv
    rw [if_neg hv] at h
    cases h
theorem step_nums {x : Fares.Sum} {e : Fares.Event} {s a t : Int} (h : ((⟨s, a, t⟩ : Fares.Sum), true) = Fares.stepSum x e) : okNums x.s x.a x.t ∧ okNums s a t ∧ stepNums x.s x.a x.t e.k e.a s a t := by
  obtain ⟨hv, hs⟩ := stepSum_yes (x := x) (e := e) (by rw [← h])
  rw [hs] at h
  have h2 : (Fares.step x e).2 = true := by rw [← h]
  have hv2 := Fares.step_valid hv h2
  have e1 : (Fares.step x e).1 = ⟨s, a, t⟩ := by rw [← h]
  rw [e1] at hv2
  refine ⟨Fares.valid_iff.1 hv, Fares.valid_iff.1 hv2, ?_⟩
  have hw := Fares.step_ways h2
  rw [e1] at hw
  simp only [Fares.Sum.mk.injEq] at hw
  exact hw
theorem stepSum_none {x : Fares.Sum} {e : Fares.Event} {s a t : Int} {b : Bool} (h : ((⟨s, a, t⟩ : Fares.Sum), b) = Fares.stepSum x e) (hn : ¬ ∃ s a t, stepNums x.s x.a x.t e.k e.a s a t) : b = false := by
  cases b with
  | false => rfl
  | true => exact absurd ⟨s, a, t, (step_nums h).2.2⟩ hn
theorem okNums_iff {x : Fares.Sum} : Fares.validSum x = true ↔ okNums x.s x.a x.t := Fares.valid_iff
/-- One of the first k kinds of events is possible. -/
def someStep (x : Fares.Sum) (k : Nat) : Bool := (List.range k).any fun j => (Fares.stepSum x ⟨(j : Int), 0⟩).2
theorem someStep_next (x : Fares.Sum) (k : Nat) : someStep x (k + 1) = (someStep x k || (Fares.stepSum x ⟨(k : Int), 0⟩).2) := by
  unfold someStep
  rw [List.range_succ, List.any_append]
  simp
theorem final_some {x : Fares.Sum} (hv : Fares.validSum x = true) : Fares.isFinal x = !someStep x 8 := by
  have h := Fares.valid_iff.1 hv
  have hs : ∀ e, Fares.stepSum x e = Fares.step x e := fun e => by unfold Fares.stepSum; rw [hv]; rfl
  unfold someStep Fares.isFinal
  rw [hv]
  simp only [hs, Bool.true_and]
  obtain ⟨s, a, t⟩ := x
  dsimp only at h ⊢
  rcases (by omega : s = 0 ∨ s = 1 ∨ s = 2 ∨ s = 3 ∨ s = 4 ∨ s = 5) with e | e | e | e | e | e <;> subst e
  · have : (Fares.step ⟨0, a, t⟩ ⟨((2 : Nat) : Int), 0⟩).2 = true := by
      unfold Fares.step
      by_cases ha : a = 0
      · subst ha; simp
      · simp [ha]
    have hany : ((List.range 8).any fun j => (Fares.step ⟨0, a, t⟩ ⟨(j : Int), 0⟩).2) = true := List.any_eq_true.2 ⟨2, by simp, this⟩
    rw [hany]; simp
  · have : (Fares.step ⟨1, a, t⟩ ⟨((3 : Nat) : Int), 0⟩).2 = true := by unfold Fares.step; simp
    have hany : ((List.range 8).any fun j => (Fares.step ⟨1, a, t⟩ ⟨(j : Int), 0⟩).2) = true := List.any_eq_true.2 ⟨3, by simp, this⟩
    rw [hany]; simp
  · have : (Fares.step ⟨2, a, t⟩ ⟨((4 : Nat) : Int), 0⟩).2 = true := by unfold Fares.step; simp
    have hany : ((List.range 8).any fun j => (Fares.step ⟨2, a, t⟩ ⟨(j : Int), 0⟩).2) = true := List.any_eq_true.2 ⟨4, by simp, this⟩
    rw [hany]; simp
  all_goals (
    have hany : ∀ (s' : Int), 3 ≤ s' → ((List.range 8).any fun j => (Fares.step ⟨s', a, t⟩ ⟨(j : Int), 0⟩).2) = false := fun s' hs' => by
      rw [List.any_eq_false]
      intro j _
      unfold Fares.step
      (repeat' split) <;> first | (exfalso; dsimp only at *; omega) | simp
    rw [hany _ (by omega)]; simp)
end Go.Proofs.YtpdlngekeeaocabDoor
