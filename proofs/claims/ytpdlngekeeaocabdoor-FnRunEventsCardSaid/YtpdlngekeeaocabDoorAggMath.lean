/-
  Chapter 13 as plain functions: aggregates, their events, what stays as it was.
-/
import Derived.Test.YtpdlngekeeaocabDoorTypes
set_option linter.unusedSimpArgs false
set_option linter.unusedVariables false
namespace Go.Proofs.YtpdlngekeeaocabDoor.Fares
def validSum (x : Sum) : Bool :=
  decide (0 ≤ x.s ∧ x.s ≤ 5 ∧ 0 ≤ x.a ∧ x.a ≤ 100000 ∧ 0 ≤ x.t ∧ x.t ≤ 4 ∧ (x.s = 0 ∧ x.t = 0 ∨ x.s = 4 ∧ x.t = 0 ∧ x.a = 0 ∨ x.s = 1 ∧ 0 < x.a ∧ x.t < 4 ∨ x.s = 2 ∧ 0 < x.a ∧ 1 ≤ x.t ∨ x.s = 3 ∧ 0 < x.a ∧ 1 ≤ x.t ∨ x.s = 5 ∧ 0 < x.a ∧ x.t = 4))
/-- An event of a valid aggregate. -/
def step (x : Sum) (e : Event) : Sum × Bool :=
  if e.k = 1 ∧ x.s = 0 ∧ 0 ≤ e.a ∧ e.a ≤ 100000 - x.a then (⟨0, x.a + e.a, 0⟩, true)
  else if e.k = 2 ∧ x.s = 0 ∧ x.a = 0 then (⟨4, 0, 0⟩, true)
  else if e.k = 2 ∧ x.s = 0 then (⟨1, x.a, 0⟩, true)
  else if e.k = 3 ∧ x.s = 1 then (⟨2, x.a, x.t + 1⟩, true)
  else if e.k = 4 ∧ x.s = 2 then (⟨3, x.a, x.t⟩, true)
  else if (e.k = 5 ∨ e.k = 6) ∧ x.s = 2 ∧ x.t = 4 then (⟨5, x.a, x.t⟩, true)
  else if (e.k = 5 ∨ e.k = 6) ∧ x.s = 2 then (⟨1, x.a, x.t⟩, true)
  else (⟨0, 0, 0⟩, false)
def stepSum (x : Sum) (e : Event) : Sum × Bool := if validSum x then step x e else (⟨0, 0, 0⟩, false)
/-- One event more; what is not possible is left out. -/
def runNext (y : Sum × Int) (e : Event) : Sum × Int := if (step y.1 e).2 then ((step y.1 e).1, y.2 + 1) else y
def runAll (x : Sum) (l : List Event) : Sum × Int := l.foldl runNext (x, 0)
def runEvents (x : Sum) (l : List Event) : Sum × Int := if validSum x ∧ l.length ≤ 20 then runAll x l else (⟨0, 0, 0⟩, -1)
def isFinal (x : Sum) : Bool := validSum x && decide (x.s = 3 ∨ x.s = 4 ∨ x.s = 5)
def owedOf (x : Sum) : Int := if validSum x then (if x.s = 3 then 0 else x.a) else -1

theorem valid_iff {x : Sum} : validSum x = true ↔ (0 ≤ x.s ∧ x.s ≤ 5 ∧ 0 ≤ x.a ∧ x.a ≤ 100000 ∧ 0 ≤ x.t ∧ x.t ≤ 4 ∧ (x.s = 0 ∧ x.t = 0 ∨ x.s = 4 ∧ x.t = 0 ∧ x.a = 0 ∨ x.s = 1 ∧ 0 < x.a ∧ x.t < 4 ∨ x.s = 2 ∧ 0 < x.a ∧ 1 ≤ x.t ∨ x.s = 3 ∧ 0 < x.a ∧ 1 ≤ x.t ∨ x.s = 5 ∧ 0 < x.a ∧ x.t = 4)) := by
  unfold validSum; rw [decide_eq_true_eq]
/-- The seven ways of an event. -/
theorem step_ways {x : Sum} {e : Event} (h : (step x e).2 = true) :
    (e.k = 1 ∧ x.s = 0 ∧ 0 ≤ e.a ∧ e.a ≤ 100000 - x.a ∧ (step x e).1 = ⟨0, x.a + e.a, 0⟩) ∨ (e.k = 2 ∧ x.s = 0 ∧ x.a = 0 ∧ (step x e).1 = ⟨4, 0, 0⟩) ∨ (e.k = 2 ∧ x.s = 0 ∧ x.a ≠ 0 ∧ (step x e).1 = ⟨1, x.a, 0⟩)
      ∨ (e.k = 3 ∧ x.s = 1 ∧ (step x e).1 = ⟨2, x.a, x.t + 1⟩) ∨ (e.k = 4 ∧ x.s = 2 ∧ (step x e).1 = ⟨3, x.a, x.t⟩) ∨ ((e.k = 5 ∨ e.k = 6) ∧ x.s = 2 ∧ x.t = 4 ∧ (step x e).1 = ⟨5, x.a, x.t⟩) ∨ ((e.k = 5 ∨ e.k = 6) ∧ x.s = 2 ∧ x.t ≠ 4 ∧ (step x e).1 = ⟨1, x.a, x.t⟩) := by
  unfold step at h ⊢
  by_cases h0 : e.k = 1 ∧ x.s = 0 ∧ 0 ≤ e.a ∧ e.a ≤ 100000 - x.a
  · left; rw [if_pos h0]; exact ⟨h0.1, h0.2.1, h0.2.2.1, h0.2.2.2, rfl⟩
  rw [if_neg h0] at h ⊢
  by_cases h1 : e.k = 2 ∧ x.s = 0 ∧ x.a = 0
  · right; left; rw [if_pos h1]; exact ⟨h1.1, h1.2.1, h1.2.2, rfl⟩
  rw [if_neg h1] at h ⊢
  by_cases h2 : e.k = 2 ∧ x.s = 0
  · right; right; left; rw [if_pos h2]; exact ⟨h2.1, h2.2, fun h => h1 ⟨h2.1, h2.2, h⟩, rfl⟩
  rw [if_neg h2] at h ⊢
  by_cases h3 : e.k = 3 ∧ x.s = 1
  · right; right; right; left; rw [if_pos h3]; exact ⟨h3.1, h3.2, rfl⟩
  rw [if_neg h3] at h ⊢
  by_cases h4 : e.k = 4 ∧ x.s = 2
  · right; right; right; right; left; rw [if_pos h4]; exact ⟨h4.1, h4.2, rfl⟩
  rw [if_neg h4] at h ⊢
  by_cases h5 : (e.k = 5 ∨ e.k = 6) ∧ x.s = 2 ∧ x.t = 4
  · right; right; right; right; right; left; rw [if_pos h5]; exact ⟨h5.1, h5.2.1, h5.2.2, rfl⟩
  rw [if_neg h5] at h ⊢
  by_cases h6 : (e.k = 5 ∨ e.k = 6) ∧ x.s = 2
  · right; right; right; right; right; right; rw [if_pos h6]; exact ⟨h6.1, h6.2, fun h => h5 ⟨h6.1, h6.2, h⟩, rfl⟩
  rw [if_neg h6] at h
  cases h
theorem step_no {x : Sum} {e : Event} (h : (step x e).2 = false) : (step x e).1 = ⟨0, 0, 0⟩ := by
  have key : ∀ (p : Sum × Bool), p = step x e → p.2 = false → p.1 = ⟨0, 0, 0⟩ := by
    intro p hp
    unfold step at hp
    (repeat' split at hp) <;> (subst hp; simp)
  exact key _ rfl h
/-- An event of a valid aggregate makes a valid one. -/
theorem step_valid {x : Sum} {e : Event} (hv : validSum x = true) (h : (step x e).2 = true) : validSum (step x e).1 = true := by
  have hv := valid_iff.1 hv
  rw [valid_iff]
  rcases step_ways h with h | h | h | h | h | h | h
  · obtain ⟨_, _, _, _, e⟩ := h; rw [e]; dsimp only; omega
  · obtain ⟨_, _, _, e⟩ := h; rw [e]; dsimp only; omega
  · obtain ⟨_, _, _, e⟩ := h; rw [e]; dsimp only; omega
  · obtain ⟨_, _, e⟩ := h; rw [e]; dsimp only; omega
  · obtain ⟨_, _, e⟩ := h; rw [e]; dsimp only; omega
  · obtain ⟨_, _, _, e⟩ := h; rw [e]; dsimp only; omega
  · obtain ⟨_, _, _, e⟩ := h; rw [e]; dsimp only; omega
theorem runNext_valid {y : Sum × Int} (e : Event) (hv : validSum y.1 = true) : validSum (runNext y e).1 = true := by
  unfold runNext
  split
  · rename_i h; exact step_valid hv h
  · exact hv
theorem runFold_valid : ∀ (l : List Event) (y : Sum × Int), validSum y.1 = true → validSum (l.foldl runNext y).1 = true
  | [], _, h => h
  | e :: l, y, h => runFold_valid l _ (runNext_valid e h)
theorem runAll_valid {x : Sum} (l : List Event) (h : validSum x = true) : validSum (runAll x l).1 = true := runFold_valid l _ h
theorem runFold_shift : ∀ (l : List Event) (x : Sum) (n : Int), l.foldl runNext (x, n) = ((l.foldl runNext (x, 0)).1, (l.foldl runNext (x, 0)).2 + n)
  | [], x, n => by simp
  | e :: l, x, n => by
    simp only [List.foldl_cons, runNext]
    split
    · rw [runFold_shift l _ (n + 1), runFold_shift l _ (0 + 1)]; ext <;> simp; omega
    · exact runFold_shift l x n
theorem runAll_append (x : Sum) (l m : List Event) : runAll x (l ++ m) = ((runAll (runAll x l).1 m).1, (runAll x l).2 + (runAll (runAll x l).1 m).2) := by
  unfold runAll
  rw [List.foldl_append, show l.foldl runNext (x, 0) = ((l.foldl runNext (x, 0)).1, (l.foldl runNext (x, 0)).2) from rfl, runFold_shift m]
  ext <;> simp; omega
theorem runAll_next {x : Sum} {l : List Event} {k : Nat} {e : Event} (h : l[k]? = some e) : runAll x (l.take (k + 1)) = runNext (runAll x (l.take k)) e := by
  unfold runAll
  rw [List.take_add_one, h, List.foldl_append]; rfl
theorem runFold_range : ∀ (l : List Event) (y : Sum × Int), y.2 ≤ (l.foldl runNext y).2 ∧ (l.foldl runNext y).2 ≤ y.2 + l.length
  | [], y => by simp
  | e :: l, y => by
    have h := runFold_range l (runNext y e)
    have h2 : y.2 ≤ (runNext y e).2 ∧ (runNext y e).2 ≤ y.2 + 1 := by unfold runNext; split <;> (try dsimp only) <;> omega
    simp only [List.foldl_cons, List.length_cons]
    omega
theorem runAll_range (x : Sum) (l : List Event) : 0 ≤ (runAll x l).2 ∧ (runAll x l).2 ≤ l.length := by
  have := runFold_range l (x, 0)
  unfold runAll
  simpa using this
end Go.Proofs.YtpdlngekeeaocabDoor.Fares
