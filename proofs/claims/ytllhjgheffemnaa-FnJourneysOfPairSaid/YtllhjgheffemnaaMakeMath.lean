/-
  Chapter 4: the journeys that the taps of a card make; as plain functions on lists.
-/
import Derived.Test.YtllhjgheffemnaaAddMath
import Derived.Test.YtllhjgheffemnaaJourMath
set_option linter.unusedSimpArgs false
set_option linter.unusedVariables false
namespace Go.Proofs.Ytllhjgheffemnaa.Fares
def halfOf (t : Tap) : Journey := ⟨t.s, t.s, t.m, t.m, false⟩
/-- One tap more: the journeys so far, and the place of a tap in that is open. -/
def jStep (xs : List Tap) (k : Nat) (t : Tap) (s : List Journey × Option Nat) : List Journey × Option Nat :=
  if t.o then
    match s.2 with
    | some j => match xs[j]? with
      | some a => if t.m - a.m ≤ 180 then (s.1 ++ [⟨a.s, t.s, a.m, t.m, true⟩], none) else (s.1 ++ [halfOf a, halfOf t], none)
      | none => s
    | none => (s.1 ++ [halfOf t], none)
  else
    match s.2 with
    | some j => match xs[j]? with
      | some a => (s.1 ++ [halfOf a], some k)
      | none => s
    | none => (s.1, some k)
def jRun (xs : List Tap) : Nat → List Journey × Option Nat
  | 0 => ([], none)
  | k + 1 => match xs[k]? with
    | some t => jStep xs k t (jRun xs k)
    | none => jRun xs k
def journeysOf (xs : List Tap) : List Journey :=
  let s := jRun xs xs.length
  match s.2 with
  | some j => match xs[j]? with
    | some a => s.1 ++ [halfOf a]
    | none => s.1
  | none => s.1
theorem jRun_succ {xs : List Tap} {k : Nat} {t : Tap} (h : xs[k]? = some t) : jRun xs (k + 1) = jStep xs k t (jRun xs k) := by
  simp only [jRun, h]
def openN (s : List Journey × Option Nat) : Nat := if s.2.isSome then 1 else 0
/-- The place that is open is one of those before; there are at most as many journeys as taps. -/
theorem jRun_fits (xs : List Tap) : ∀ k, k ≤ xs.length → (∀ j, (jRun xs k).2 = some j → j < k) ∧ (jRun xs k).1.length + openN (jRun xs k) ≤ k
  | 0, _ => ⟨fun j h => by simp [jRun] at h, by simp [jRun, openN]⟩
  | k + 1, h => by
    have hx : xs[k]? = some xs[k] := List.getElem?_eq_getElem (by omega)
    obtain ⟨ih1, ih2⟩ := jRun_fits xs k (by omega)
    rw [jRun_succ hx]
    generalize jRun xs k = s at ih1 ih2
    obtain ⟨out, o⟩ := s
    generalize xs[k] = t
    unfold jStep openN at *
    cases o with
    | none =>
      cases t.o
      · refine ⟨fun j hj => ?_, ?_⟩
        · simp at hj; omega
        · simp at ih2 ⊢; omega
      · refine ⟨fun j hj => ?_, ?_⟩
        · simp at hj
        · simp at ih2 ⊢; omega
    | some j =>
      have hj := ih1 j rfl
      have hxj : xs[j]? = some (xs[j]'(by omega)) := List.getElem?_eq_getElem (by omega)
      simp only [hxj]
      cases t.o
      · refine ⟨fun i hi => ?_, ?_⟩
        · simp at hi; omega
        · simp at ih2 ⊢; omega
      · simp only [if_true]
        split
        · refine ⟨fun i hi => ?_, ?_⟩
          · simp at hi
          · simp at ih2 ⊢; omega
        · refine ⟨fun i hi => ?_, ?_⟩
          · simp at hi
          · simp at ih2 ⊢; omega
theorem journeysOf_length (xs : List Tap) : (journeysOf xs).length ≤ xs.length := by
  obtain ⟨h1, h2⟩ := jRun_fits xs xs.length (Nat.le_refl _)
  unfold journeysOf
  generalize jRun xs xs.length = s at h1 h2
  obtain ⟨out, o⟩ := s
  unfold openN at h2
  cases o with
  | none => simp at h2 ⊢; omega
  | some j =>
    have hj := h1 j rfl
    have hxj : xs[j]? = some (xs[j]'(by omega)) := List.getElem?_eq_getElem (by omega)
    simp only [hxj]
    simp at h2 ⊢
    omega
/-- A journey's stops and minutes are those of taps. -/
def ofTaps (xs : List Tap) (j : Journey) : Prop := ∃ t ∈ xs, ∃ u ∈ xs, j.a = t.s ∧ j.b = u.s ∧ j.x = t.m ∧ j.y = u.m
theorem halfOf_taps {xs : List Tap} {t : Tap} (h : t ∈ xs) : ofTaps xs (halfOf t) := ⟨t, h, t, h, rfl, rfl, rfl, rfl⟩
theorem jRun_taps (xs : List Tap) : ∀ k, k ≤ xs.length → ∀ j ∈ (jRun xs k).1, ofTaps xs j
  | 0, _, j, h => by simp [jRun] at h
  | k + 1, hk, j, h => by
    have hx : xs[k]? = some xs[k] := List.getElem?_eq_getElem (by omega)
    have ih := jRun_taps xs k (by omega)
    rw [jRun_succ hx] at h
    have hm := List.mem_of_getElem? hx
    generalize jRun xs k = s at ih h
    obtain ⟨out, o⟩ := s
    generalize xs[k] = t at hm h
    unfold jStep at h
    cases o with
    | none =>
      cases ht : t.o
      · rw [ht] at h; exact ih j h
      · rw [ht] at h
        simp at h
        rcases h with h | h
        · exact ih j h
        · subst h; exact halfOf_taps hm
    | some i =>
      cases hi : xs[i]? with
      | none =>
        simp only [hi] at h
        cases ht : t.o <;> rw [ht] at h <;> exact ih j h
      | some a =>
        have ha := List.mem_of_getElem? hi
        simp only [hi] at h
        cases ht : t.o
        · rw [ht] at h
          simp at h
          rcases h with h | h
          · exact ih j h
          · subst h; exact halfOf_taps ha
        · rw [ht] at h
          simp only [if_true] at h
          split at h
          · simp at h
            rcases h with h | h
            · exact ih j h
            · subst h; exact ⟨a, ha, t, hm, rfl, rfl, rfl, rfl⟩
          · simp at h
            rcases h with h | h | h
            · exact ih j h
            · subst h; exact halfOf_taps ha
            · subst h; exact halfOf_taps hm
theorem journeysOf_taps {xs : List Tap} {j : Journey} (h : j ∈ journeysOf xs) : ofTaps xs j := by
  have ih := jRun_taps xs xs.length (Nat.le_refl _)
  unfold journeysOf at h
  generalize jRun xs xs.length = s at ih h
  obtain ⟨out, o⟩ := s
  cases o with
  | none => exact ih j h
  | some i =>
    cases hi : xs[i]? with
    | none => simp only [hi] at h; exact ih j h
    | some a =>
      simp only [hi] at h
      rcases List.mem_append.1 h with h | h
      · exact ih j h
      · simp at h; subst h; exact halfOf_taps (List.mem_of_getElem? hi)
end Go.Proofs.Ytllhjgheffemnaa.Fares
