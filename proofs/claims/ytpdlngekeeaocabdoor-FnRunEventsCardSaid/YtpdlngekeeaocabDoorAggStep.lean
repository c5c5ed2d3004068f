/-
  Contracts over events of aggregates, on both sides.
-/
import Derived.Test.YtpdlngekeeaocabDoorAggMath
import Derived.Test.YtpdlngekeeaocabDoorStSum
import Derived.Test.YtpdlngekeeaocabDoorStEvent
import Derived.Test.YtpdlngekeeaocabDoorBasic
import Derived.Deep.Light
set_option linter.unusedSimpArgs false
namespace Go.Proofs.YtpdlngekeeaocabDoor
open Go.RowKit
set_option linter.unusedVariables false

set_option maxRecDepth 100000 in
set_option maxHeartbeats 8000000 in
theorem specstep_any (x : Fares.Sum) (e : Fares.Event) (w : World) (h0 : 0 ≤ x.a) (h1 : x.a ≤ 100000) (h2 : 0 ≤ x.t) (h3 : x.t ≤ 4) :
    Calls Tryd.prog 30 #[sumV x, eventV e] w fun r w' => r = .returned (.tuple #[sumV (Fares.step x e).1, .bool (Fares.step x e).2]) ∧ Below w.heap.size w w' := by
  unfold eventV
  have Hs : ∀ y, sumV y = .agg #[.int .i64 y.s, .int .i64 y.a, .int .i64 y.t] := fun y => rfl
  rw [Hs x]
  clear Hs
  go_enter Tryd.func30, Tryd.ntmps30
  go_wp2_with (first | (go_at_call 34; refine (inRange_any _ _ _ _).mono ?_; rintro e w' ⟨rfl, rfl⟩))
  all_goals (
    go_light
    first
    | (have E : Fares.step x e = (⟨0, x.a + e.a, 0⟩, true) := by (try simp only [beq_iff_eq, beq_eq_false_iff_ne, ne_eq, Bool.not_eq_false', Bool.not_eq_eq_eq_not, Bool.not_true, Bool.not_false, decide_eq_true_eq, decide_eq_false_iff_not, Bool.and_eq_true, Bool.or_eq_true, Bool.false_eq_true, Bool.true_eq_false, Bool.not_eq_true', true_iff, iff_true, false_iff, iff_false, Bool.not_eq_true, Bool.not_eq_false, Bool.and_eq_false_imp] at *); unfold Fares.step; (repeat' split) <;> first | rfl | (exfalso; omega)
       rw [E]
       exact bodyPost_ret (v := .tuple #[sumV ⟨0, x.a + e.a, 0⟩, .bool true]) (by simp [results, Tryd.results30, go_sem, sumV]) rfl ⟨rfl, (by repeat (first | exact Below.refl _ _ | refine bA ?_ _ | refine bD ?_ _ | refine bD1 ?_ | refine bS ?_ (by simp) _))⟩)
    | (have E : Fares.step x e = (⟨4, 0, 0⟩, true) := by (try simp only [beq_iff_eq, beq_eq_false_iff_ne, ne_eq, Bool.not_eq_false', Bool.not_eq_eq_eq_not, Bool.not_true, Bool.not_false, decide_eq_true_eq, decide_eq_false_iff_not, Bool.and_eq_true, Bool.or_eq_true, Bool.false_eq_true, Bool.true_eq_false, Bool.not_eq_true', true_iff, iff_true, false_iff, iff_false, Bool.not_eq_true, Bool.not_eq_false, Bool.and_eq_false_imp] at *); unfold Fares.step; (repeat' split) <;> first | rfl | (exfalso; omega)
       rw [E]
       exact bodyPost_ret (v := .tuple #[sumV ⟨4, 0, 0⟩, .bool true]) (by simp [results, Tryd.results30, go_sem, sumV]) rfl ⟨rfl, (by repeat (first | exact Below.refl _ _ | refine bA ?_ _ | refine bD ?_ _ | refine bD1 ?_ | refine bS ?_ (by simp) _))⟩)
    | (have E : Fares.step x e = (⟨1, x.a, 0⟩, true) := by (try simp only [beq_iff_eq, beq_eq_false_iff_ne, ne_eq, Bool.not_eq_false', Bool.not_eq_eq_eq_not, Bool.not_true, Bool.not_false, decide_eq_true_eq, decide_eq_false_iff_not, Bool.and_eq_true, Bool.or_eq_true, Bool.false_eq_true, Bool.true_eq_false, Bool.not_eq_true', true_iff, iff_true, false_iff, iff_false, Bool.not_eq_true, Bool.not_eq_false, Bool.and_eq_false_imp] at *); unfold Fares.step; (repeat' split) <;> first | rfl | (exfalso; omega)
       rw [E]
       exact bodyPost_ret (v := .tuple #[sumV ⟨1, x.a, 0⟩, .bool true]) (by simp [results, Tryd.results30, go_sem, sumV]) rfl ⟨rfl, (by repeat (first | exact Below.refl _ _ | refine bA ?_ _ | refine bD ?_ _ | refine bD1 ?_ | refine bS ?_ (by simp) _))⟩)
    | (have E : Fares.step x e = (⟨2, x.a, x.t + 1⟩, true) := by (try simp only [beq_iff_eq, beq_eq_false_iff_ne, ne_eq, Bool.not_eq_false', Bool.not_eq_eq_eq_not, Bool.not_true, Bool.not_false, decide_eq_true_eq, decide_eq_false_iff_not, Bool.and_eq_true, Bool.or_eq_true, Bool.false_eq_true, Bool.true_eq_false, Bool.not_eq_true', true_iff, iff_true, false_iff, iff_false, Bool.not_eq_true, Bool.not_eq_false, Bool.and_eq_false_imp] at *); unfold Fares.step; (repeat' split) <;> first | rfl | (exfalso; omega)
       rw [E]
       exact bodyPost_ret (v := .tuple #[sumV ⟨2, x.a, x.t + 1⟩, .bool true]) (by simp [results, Tryd.results30, go_sem, sumV]) rfl ⟨rfl, (by repeat (first | exact Below.refl _ _ | refine bA ?_ _ | refine bD ?_ _ | refine bD1 ?_ | refine bS ?_ (by simp) _))⟩)
    | (have E : Fares.step x e = (⟨3, x.a, x.t⟩, true) := by (try simp only [beq_iff_eq, beq_eq_false_iff_ne, ne_eq, Bool.not_eq_false', Bool.not_eq_eq_eq_not, Bool.not_true, Bool.not_false, decide_eq_true_eq, decide_eq_false_iff_not, Bool.and_eq_true, Bool.or_eq_true, Bool.false_eq_true, Bool.true_eq_false, Bool.not_eq_true', true_iff, iff_true, false_iff, iff_false, Bool.not_eq_true, Bool.not_eq_false, Bool.and_eq_false_imp] at *); unfold Fares.step; (repeat' split) <;> first | rfl | (exfalso; omega)
       rw [E]
       exact bodyPost_ret (v := .tuple #[sumV ⟨3, x.a, x.t⟩, .bool true]) (by simp [results, Tryd.results30, go_sem, sumV]) rfl ⟨rfl, (by repeat (first | exact Below.refl _ _ | refine bA ?_ _ | refine bD ?_ _ | refine bD1 ?_ | refine bS ?_ (by simp) _))⟩)
    | (have E : Fares.step x e = (⟨5, x.a, x.t⟩, true) := by (try simp only [beq_iff_eq, beq_eq_false_iff_ne, ne_eq, Bool.not_eq_false', Bool.not_eq_eq_eq_not, Bool.not_true, Bool.not_false, decide_eq_true_eq, decide_eq_false_iff_not, Bool.and_eq_true, Bool.or_eq_true, Bool.false_eq_true, Bool.true_eq_false, Bool.not_eq_true', true_iff, iff_true, false_iff, iff_false, Bool.not_eq_true, Bool.not_eq_false, Bool.and_eq_false_imp] at *); unfold Fares.step; (repeat' split) <;> first | rfl | (exfalso; omega)
       rw [E]
       exact bodyPost_ret (v := .tuple #[sumV ⟨5, x.a, x.t⟩, .bool true]) (by simp [results, Tryd.results30, go_sem, sumV]) rfl ⟨rfl, (by repeat (first | exact Below.refl _ _ | refine bA ?_ _ | refine bD ?_ _ | refine bD1 ?_ | refine bS ?_ (by simp) _))⟩)
    | (have E : Fares.step x e = (⟨1, x.a, x.t⟩, true) := by (try simp only [beq_iff_eq, beq_eq_false_iff_ne, ne_eq, Bool.not_eq_false', Bool.not_eq_eq_eq_not, Bool.not_true, Bool.not_false, decide_eq_true_eq, decide_eq_false_iff_not, Bool.and_eq_true, Bool.or_eq_true, Bool.false_eq_true, Bool.true_eq_false, Bool.not_eq_true', true_iff, iff_true, false_iff, iff_false, Bool.not_eq_true, Bool.not_eq_false, Bool.and_eq_false_imp] at *); unfold Fares.step; (repeat' split) <;> first | rfl | (exfalso; omega)
       rw [E]
       exact bodyPost_ret (v := .tuple #[sumV ⟨1, x.a, x.t⟩, .bool true]) (by simp [results, Tryd.results30, go_sem, sumV]) rfl ⟨rfl, (by repeat (first | exact Below.refl _ _ | refine bA ?_ _ | refine bD ?_ _ | refine bD1 ?_ | refine bS ?_ (by simp) _))⟩)
    | (have E : Fares.step x e = (⟨0, 0, 0⟩, false) := by (try simp only [beq_iff_eq, beq_eq_false_iff_ne, ne_eq, Bool.not_eq_false', Bool.not_eq_eq_eq_not, Bool.not_true, Bool.not_false, decide_eq_true_eq, decide_eq_false_iff_not, Bool.and_eq_true, Bool.or_eq_true, Bool.false_eq_true, Bool.true_eq_false, Bool.not_eq_true', true_iff, iff_true, false_iff, iff_false, Bool.not_eq_true, Bool.not_eq_false, Bool.and_eq_false_imp] at *); unfold Fares.step; (repeat' split) <;> first | rfl | (exfalso; omega)
       rw [E]
       exact bodyPost_ret (v := .tuple #[sumV ⟨0, 0, 0⟩, .bool false]) (by simp [results, Tryd.results30, go_sem, sumV]) rfl ⟨rfl, (by repeat (first | exact Below.refl _ _ | refine bA ?_ _ | refine bD ?_ _ | refine bD1 ?_ | refine bS ?_ (by simp) _))⟩)
    )
end Go.Proofs.YtpdlngekeeaocabDoor
