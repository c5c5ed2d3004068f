/-
  Calls by their traces: how an element of such a map reads, and what the map holds when all calls have been put into it.
-/
import Derived.Maps.OwnSet
set_option linter.unusedSimpArgs false
namespace Go.Proofs.Ytnkoapccnlgijaa
open Go
set_option linter.unusedVariables false

/-- The datum of a struct of three numbers. -/
def tripleD {H : Type} (t a s : Int) : DataW H := .agg [.lit (.int .i64 t), .lit (.int .i64 a), .lit (.int .i64 s)]
def tripleElem {H : Type} : Value → Option (DataW H × List MemPlace)
  | .agg cs => match cs.toList with
    | [.int .i64 t, .int .i64 a, .int .i64 s] => some (tripleD t a s, [])
    | _ => none
  | _ => none
theorem tripleElem_mk {H : Type} (t a s : Int) : tripleElem (H := H) (.agg #[.int .i64 t, .int .i64 a, .int .i64 s]) = some (tripleD t a s, []) := rfl
theorem tripleElem_inv {H : Type} {v : Value} {t a s : Int} {ps : List MemPlace} (h : tripleElem (H := H) v = some (tripleD t a s, ps)) : v = .agg #[.int .i64 t, .int .i64 a, .int .i64 s] := by
  unfold tripleElem at h
  split at h
  · rename_i cs
    split at h
    · rename_i t' a' s' e
      injection h with h
      injection h with h1 h2
      unfold tripleD at h1
      injection h1 with h1
      injection h1 with q1 h1
      injection h1 with q2 h1
      injection h1 with q3 h1
      injection q1 with q1
      injection q2 with q2
      injection q3 with q3
      injection q1 with _ q1
      injection q2 with _ q2
      injection q3 with _ q3
      subst q1 q2 q3
      have : cs = #[.int .i64 t', .int .i64 a', .int .i64 s'] := by
        rw [← Array.toArray_toList (xs := cs), e]
      rw [this]
    · cases h
  · cases h

/-- All put in, one after the other. -/
def tripleMap {H : Type} (l : List (Int × Int × Int)) : DataW H := l.foldl (fun m c => m.put (.int .i64 c.1) (tripleD c.1 c.2.1 c.2.2)) (.map [])
theorem tripleMap_nil {H : Type} : tripleMap (H := H) [] = .map [] := rfl
theorem tripleMap_snoc {H : Type} (l : List (Int × Int × Int)) (c : Int × Int × Int) : tripleMap (H := H) (l ++ [c]) = (tripleMap l).put (.int .i64 c.1) (tripleD c.1 c.2.1 c.2.2) := by
  simp [tripleMap, List.foldl_append]

/-- Induction from the end, by the length. -/
theorem snoc_ind {α : Type} {p : List α → Prop} (h0 : p []) (h1 : ∀ l c, p l → p (l ++ [c])) : ∀ l, p l := by
  intro l
  have h : ∀ n, p (l.take n) := by
    intro n
    induction n with
    | zero => simpa using h0
    | succ n ih =>
      by_cases hn : n < l.length
      · rw [List.take_succ_eq_append_getElem hn]; exact h1 _ _ ih
      · rw [List.take_of_length_le (by omega)] at ih ⊢; exact ih
  have := h l.length
  rwa [List.take_length] at this

theorem isKey_int (k : Int) : WideAt.IsKeyLit (.int .i64 k) := True.intro
theorem tripleMap_tidy {H : Type} (l : List (Int × Int × Int)) : Maps.Tidy (tripleMap (H := H) l) := by
  induction l using snoc_ind with
  | h0 => exact Maps.tidy_empty
  | h1 l c ih => rw [tripleMap_snoc]; exact ih.put (isKey_int c.1) _

theorem tripleMap_has {H : Type} (l : List (Int × Int × Int)) (k : Int) : Maps.has (tripleMap (H := H) l) (.int .i64 k) = l.any (fun c => c.1 == k) := by
  induction l using snoc_ind with
  | h0 => rfl
  | h1 l c ih =>
    rw [tripleMap_snoc, List.any_append]
    by_cases e : c.1 = k
    · subst e
      rw [Maps.has_put_same (tripleMap_tidy l).isMap (isKey_int c.1)]; simp
    · rw [Maps.has_put_other (by intro h; injection h with _ h; exact e h.symm), ih]; simp [e]

theorem tripleMap_size {H : Type} (l : List (Int × Int × Int)) : Maps.size (tripleMap (H := H) l) ≤ l.length ∧ (Maps.size (tripleMap (H := H) l) = l.length ↔ l.Pairwise (fun x y => x.1 ≠ y.1)) := by
  induction l using snoc_ind with
  | h0 => exact ⟨Nat.le_refl _, by simp [tripleMap_nil, Maps.size_eq]⟩
  | h1 l c ih =>
    obtain ⟨i1, i2⟩ := ih
    rw [tripleMap_snoc, Maps.size_put (tripleMap_tidy l), tripleMap_has, List.length_append, List.pairwise_append]
    have e1 : [c].length = 1 := rfl
    rw [e1]
    cases hb : l.any (fun d => d.1 == c.1) with
    | true =>
      obtain ⟨d, hd, hdc⟩ := List.any_eq_true.1 hb
      refine ⟨by rw [if_pos rfl]; omega, ?_⟩
      rw [if_pos rfl]
      constructor
      · intro h; omega
      · intro h; exact absurd (by simpa using hdc) (h.2.2 d hd c (by simp))
    | false =>
      have hb' : ∀ d ∈ l, d.1 ≠ c.1 := by
        intro d hd e
        have := List.any_eq_false.1 hb d hd
        exact this (by simpa using e)
      rw [if_neg (by simp)]
      refine ⟨by omega, ?_⟩
      constructor
      · intro h
        exact ⟨i2.1 (by omega), List.pairwise_singleton _ _, fun d hd y hy => by rw [List.mem_singleton] at hy; subst hy; exact hb' d hd⟩
      · intro h
        have := i2.2 h.1; omega

theorem tripleMap_at {H : Type} (l : List (Int × Int × Int)) (hn : l.Pairwise (fun x y => x.1 ≠ y.1)) (c : Int × Int × Int) (hc : c ∈ l) (z : DataW H) : (tripleMap (H := H) l).atKey (.int .i64 c.1) z = tripleD c.1 c.2.1 c.2.2 := by
  revert hn hc
  induction l using snoc_ind with
  | h0 => intro _ hc; cases hc
  | h1 l d ih =>
    intro hn hc
    rw [List.pairwise_append] at hn
    rw [tripleMap_snoc]
    rcases List.mem_append.1 hc with h | h
    · rw [Maps.atKey_put_other (by intro e; injection e with _ e; exact hn.2.2 c h d (by simp) e)]
      exact ih hn.1 h
    · rw [List.mem_singleton] at h; subst h
      exact Maps.atKey_put_same (tripleMap_tidy l).isMap (isKey_int c.1) _ _

/-- The zero of the struct where the key is absent. -/
theorem tripleMap_zero {H : Type} (l : List (Int × Int × Int)) (k : Int) (h : l.any (fun c => c.1 == k) = false) (z : DataW H) : (tripleMap (H := H) l).atKey (.int .i64 k) z = z :=
  Maps.atKey_of_not_has (by rw [tripleMap_has]; exact h) z
end Go.Proofs.Ytnkoapccnlgijaa
