/-
  Contracts over aggregates: what is valid, on both sides; the program's tables.
-/
import Derived.Test.YtpdlngekeeaocabDoorAggMath
import Derived.Test.YtpdlngekeeaocabDoorStSum
import Derived.Test.YtpdlngekeeaocabDoorStEvent
import Derived.Test.YtpdlngekeeaocabDoorBasic
import Derived.Laws.Rows
import Derived.Deep.Light
set_option linter.unusedSimpArgs false
namespace Go.Proofs.YtpdlngekeeaocabDoor
open Go.RowKit
set_option linter.unusedVariables false

def limitCells : Array Value := #[.int .i64 0, .int .i64 100000, .int .i64 0, .int .i64 0, .int .i64 1, .int .i64 100000, .int .i64 0, .int .i64 3, .int .i64 1, .int .i64 100000, .int .i64 1, .int .i64 4, .int .i64 1, .int .i64 100000, .int .i64 1, .int .i64 4, .int .i64 0, .int .i64 0, .int .i64 0, .int .i64 0, .int .i64 1, .int .i64 100000, .int .i64 4, .int .i64 4]
def stepCells : Array Value := #[.int .i64 0, .int .i64 1, .int .i64 0, .int .i64 0, .int .i64 0, .int .i64 2, .int .i64 1, .int .i64 0, .int .i64 1, .int .i64 3, .int .i64 2, .int .i64 1, .int .i64 2, .int .i64 4, .int .i64 3, .int .i64 0, .int .i64 2, .int .i64 5, .int .i64 1, .int .i64 0, .int .i64 2, .int .i64 6, .int .i64 1, .int .i64 0]
/-- The table of what valid aggregates of a state have. -/
def Limits (w : World) : Prop := ∃ t, Blk w 0 t limitCells
theorem Limits.lt {w : World} (h : Limits w) : 0 < w.heap.size := by
  obtain ⟨t, h⟩ := h
  exact h.lt
theorem Limits.below {w w' : World} (h : Limits w) (hb : Below w.heap.size w w') : Limits w' := by
  obtain ⟨t, h⟩ := h
  exact ⟨t, h.below hb h.lt⟩
theorem Limits.row {w : World} (h : Limits w) (k : Nat) (a b c d : Int) (h0 : limitCells[k]? = some (.int .i64 a)) (h1 : limitCells[k + 1]? = some (.int .i64 b)) (h2 : limitCells[k + 2]? = some (.int .i64 c)) (h3 : limitCells[k + 3]? = some (.int .i64 d)) :
    w.cell? ⟨0, k, none⟩ = some (.int .i64 a) ∧ w.cell? ⟨0, k + 1, none⟩ = some (.int .i64 b) ∧ w.cell? ⟨0, k + 2, none⟩ = some (.int .i64 c) ∧ w.cell? ⟨0, k + 3, none⟩ = some (.int .i64 d) := by
  obtain ⟨t, h⟩ := h
  exact ⟨(h.cell k).trans h0, (h.cell _).trans h1, (h.cell _).trans h2, (h.cell _).trans h3⟩

set_option maxHeartbeats 1000000 in
theorem specvalidSum_any (x : Fares.Sum) (w : World) :
    Calls Tryd.prog 29 #[sumV x] w fun e w' => e = .returned (.bool (Fares.validSum x)) ∧ Below w.heap.size w w' := by
  unfold sumV
  go_enter Tryd.func29, Tryd.ntmps29
  go_wp2_with (first | (go_at_call 34; refine (inRange_any _ _ _ _).mono ?_; rintro e w' ⟨rfl, rfl⟩))
  all_goals (go_ret; refine ⟨ret_bool ?_, (by repeat (first | exact Below.refl _ _ | refine bA ?_ _ | refine bD ?_ _ | refine bD1 ?_ | refine bS ?_ (by simp) _))⟩; exact (by rw [Bool.eq_iff_iff]; simp only [Fares.validSum, beq_iff_eq, beq_eq_false_iff_ne, ne_eq, Bool.not_eq_false', Bool.not_eq_eq_eq_not, Bool.not_true, Bool.not_false, decide_eq_true_eq, decide_eq_false_iff_not, Bool.and_eq_true, Bool.or_eq_true, Bool.false_eq_true, Bool.true_eq_false, Bool.not_eq_true', true_iff, iff_true, false_iff, iff_false, Bool.not_eq_true, Bool.not_eq_false, Bool.and_eq_false_imp] at *; omega))
set_option maxHeartbeats 1000000 in
theorem implValidSum_any (x : Fares.Sum) (w : World) (hT : Limits w) :
    Calls Tryd.prog 13 #[sumV x] w fun e w' => e = .returned (.bool (Fares.validSum x)) ∧ Below w.heap.size w w' := by
  obtain ⟨s, a, t⟩ := x
  unfold sumV
  by_cases hs : 0 ≤ s ∧ s ≤ 5
  · obtain ⟨k, rfl⟩ := Int.eq_ofNat_of_zero_le hs.1
    have hg := hT.lt
    rcases (by omega : k = 0 ∨ k = 1 ∨ k = 2 ∨ k = 3 ∨ k = 4 ∨ k = 5) with h | h | h | h | h | h <;> subst h
    · obtain ⟨q0, q1, q2, q3⟩ := hT.row 0 _ _ _ _ rfl rfl rfl rfl
      clear hs hT
      go_enter Tryd.func13, Tryd.ntmps13
      go_wp2
      all_goals (go_ret; refine ⟨ret_bool ?_, (by repeat (first | exact Below.refl _ _ | refine bA ?_ _ | refine bD ?_ _ | refine bD1 ?_ | refine bS ?_ (by simp) _))⟩; exact (by rw [Bool.eq_iff_iff]; simp only [Fares.validSum, beq_iff_eq, beq_eq_false_iff_ne, ne_eq, Bool.not_eq_false', Bool.not_eq_eq_eq_not, Bool.not_true, Bool.not_false, decide_eq_true_eq, decide_eq_false_iff_not, Bool.and_eq_true, Bool.or_eq_true, Bool.false_eq_true, Bool.true_eq_false, Bool.not_eq_true', true_iff, iff_true, false_iff, iff_false, Bool.not_eq_true, Bool.not_eq_false, Bool.and_eq_false_imp] at *; omega))
    · obtain ⟨q0, q1, q2, q3⟩ := hT.row 4 _ _ _ _ rfl rfl rfl rfl
      clear hs hT
      go_enter Tryd.func13, Tryd.ntmps13
      go_wp2
      all_goals (go_ret; refine ⟨ret_bool ?_, (by repeat (first | exact Below.refl _ _ | refine bA ?_ _ | refine bD ?_ _ | refine bD1 ?_ | refine bS ?_ (by simp) _))⟩; exact (by rw [Bool.eq_iff_iff]; simp only [Fares.validSum, beq_iff_eq, beq_eq_false_iff_ne, ne_eq, Bool.not_eq_false', Bool.not_eq_eq_eq_not, Bool.not_true, Bool.not_false, decide_eq_true_eq, decide_eq_false_iff_not, Bool.and_eq_true, Bool.or_eq_true, Bool.false_eq_true, Bool.true_eq_false, Bool.not_eq_true', true_iff, iff_true, false_iff, iff_false, Bool.not_eq_true, Bool.not_eq_false, Bool.and_eq_false_imp] at *; omega))
    · obtain ⟨q0, q1, q2, q3⟩ := hT.row 8 _ _ _ _ rfl rfl rfl rfl
      clear hs hT
      go_enter Tryd.func13, Tryd.ntmps13
      go_wp2
      all_goals (go_ret; refine ⟨ret_bool ?_, (by repeat (first | exact Below.refl _ _ | refine bA ?_ _ | refine bD ?_ _ | refine bD1 ?_ | refine bS ?_ (by simp) _))⟩; exact (by rw [Bool.eq_iff_iff]; simp only [Fares.validSum, beq_iff_eq, beq_eq_false_iff_ne, ne_eq, Bool.not_eq_false', Bool.not_eq_eq_eq_not, Bool.not_true, Bool.not_false, decide_eq_true_eq, decide_eq_false_iff_not, Bool.and_eq_true, Bool.or_eq_true, Bool.false_eq_true, Bool.true_eq_false, Bool.not_eq_true', true_iff, iff_true, false_iff, iff_false, Bool.not_eq_true, Bool.not_eq_false, Bool.and_eq_false_imp] at *; omega))
    · obtain ⟨q0, q1, q2, q3⟩ := hT.row 12 _ _ _ _ rfl rfl rfl rfl
      clear hs hT
      go_enter Tryd.func13, Tryd.ntmps13
      go_wp2
      all_goals (go_ret; refine ⟨ret_bool ?_, (by repeat (first | exact Below.refl _ _ | refine bA ?_ _ | refine bD ?_ _ | refine bD1 ?_ | refine bS ?_ (by simp) _))⟩; exact (by rw [Bool.eq_iff_iff]; simp only [Fares.validSum, beq_iff_eq, beq_eq_false_iff_ne, ne_eq, Bool.not_eq_false', Bool.not_eq_eq_eq_not, Bool.not_true, Bool.not_false, decide_eq_true_eq, decide_eq_false_iff_not, Bool.and_eq_true, Bool.or_eq_true, Bool.false_eq_true, Bool.true_eq_false, Bool.not_eq_true', true_iff, iff_true, false_iff, iff_false, Bool.not_eq_true, Bool.not_eq_false, Bool.and_eq_false_imp] at *; omega))
    · obtain ⟨q0, q1, q2, q3⟩ := hT.row 16 _ _ _ _ rfl rfl rfl rfl
      clear hs hT
      go_enter Tryd.func13, Tryd.ntmps13
      go_wp2
      all_goals (go_ret; refine ⟨ret_bool ?_, (by repeat (first | exact Below.refl _ _ | refine bA ?_ _ | refine bD ?_ _ | refine bD1 ?_ | refine bS ?_ (by simp) _))⟩; exact (by rw [Bool.eq_iff_iff]; simp only [Fares.validSum, beq_iff_eq, beq_eq_false_iff_ne, ne_eq, Bool.not_eq_false', Bool.not_eq_eq_eq_not, Bool.not_true, Bool.not_false, decide_eq_true_eq, decide_eq_false_iff_not, Bool.and_eq_true, Bool.or_eq_true, Bool.false_eq_true, Bool.true_eq_false, Bool.not_eq_true', true_iff, iff_true, false_iff, iff_false, Bool.not_eq_true, Bool.not_eq_false, Bool.and_eq_false_imp] at *; omega))
    · obtain ⟨q0, q1, q2, q3⟩ := hT.row 20 _ _ _ _ rfl rfl rfl rfl
      clear hs hT
      go_enter Tryd.func13, Tryd.ntmps13
      go_wp2
      all_goals (go_ret; refine ⟨ret_bool ?_, (by repeat (first | exact Below.refl _ _ | refine bA ?_ _ | refine bD ?_ _ | refine bD1 ?_ | refine bS ?_ (by simp) _))⟩; exact (by rw [Bool.eq_iff_iff]; simp only [Fares.validSum, beq_iff_eq, beq_eq_false_iff_ne, ne_eq, Bool.not_eq_false', Bool.not_eq_eq_eq_not, Bool.not_true, Bool.not_false, decide_eq_true_eq, decide_eq_false_iff_not, Bool.and_eq_true, Bool.or_eq_true, Bool.false_eq_true, Bool.true_eq_false, Bool.not_eq_true', true_iff, iff_true, false_iff, iff_false, Bool.not_eq_true, Bool.not_eq_false, Bool.and_eq_false_imp] at *; omega))
  · have hv : Hid (Fares.validSum ⟨s, a, t⟩ = false) := by
      show Fares.validSum ⟨s, a, t⟩ = false
      unfold Fares.validSum
      rw [decide_eq_false_iff_not]
      dsimp only
      omega
    by_cases h0 : s < 0
    · go_enter Tryd.func13, Tryd.ntmps13
      go_wp2
      all_goals (go_ret; exact ⟨ret_bool hv.out.symm, (by repeat (first | exact Below.refl _ _ | refine bA ?_ _ | refine bD ?_ _ | refine bD1 ?_ | refine bS ?_ (by simp) _))⟩)
    · have d0 : decide (s < 0) = false := decide_eq_false h0
      have d1 : decide (6 ≤ s) = true := decide_eq_true (by omega)
      clear hs h0
      go_enter Tryd.func13, Tryd.ntmps13
      go_wp2
      all_goals (go_ret; exact ⟨ret_bool hv.out.symm, (by repeat (first | exact Below.refl _ _ | refine bA ?_ _ | refine bD ?_ _ | refine bD1 ?_ | refine bS ?_ (by simp) _))⟩)
end Go.Proofs.YtpdlngekeeaocabDoor
