/-
  Chapter 3: valid taps, pair by pair; what the laws ask of them.
-/
import Derived.Test.YtllhjgheffemnaaAddMath
set_option linter.unusedSimpArgs false
set_option linter.unusedVariables false
namespace Go.Proofs.Ytllhjgheffemnaa.Fares
theorem earlier_iff {a b : Tap} : earlier a b = true ↔ a.m < b.m ∨ a.m = b.m ∧ (a.v < b.v ∨ a.v = b.v ∧ a.n < b.n) := by
  unfold earlier; simp
theorem earlier_trans {a b c : Tap} (h : earlier a b = true) (k : earlier b c = true) : earlier a c = true := by
  rw [earlier_iff] at *; omega
theorem earlier_irrefl (a : Tap) : earlier a a = false := by
  unfold earlier; simp
theorem same_iff {a b : Tap} : sameTap a b = true ↔ a.v = b.v ∧ a.n = b.n := by
  unfold sameTap; simp
theorem same_false {a b : Tap} : sameTap a b = false ↔ ¬ (a.v = b.v ∧ a.n = b.n) := by
  unfold sameTap; simp
/-- One tap comes before another one, and is not the same. -/
def Before (a b : Tap) : Prop := earlier a b = true ∧ sameTap a b = false
theorem known_false {xs : List Tap} {t : Tap} : known xs t = false ↔ ∀ o ∈ xs, sameTap o t = false := by
  unfold known
  rw [List.any_eq_false]
  constructor
  · intro h o ho; simpa using h o ho
  · intro h o ho; simpa using h o ho
theorem known_true {xs : List Tap} {t : Tap} : known xs t = true ↔ ∃ o ∈ xs, sameTap o t = true := by
  unfold known
  rw [List.any_eq_true]
theorem okAt_front (xs : List Tap) (t : Tap) {i : Nat} (h : i < xs.length) : tapOkAt (xs ++ [t]) i = tapOkAt xs i := by
  unfold tapOkAt
  rw [List.getElem?_append_left h, List.take_append_of_le_length (by omega)]
  cases i with
  | zero => rfl
  | succ j =>
    have e : (xs ++ [t])[j]? = xs[j]? := List.getElem?_append_left (by omega)
    simp only [e]
theorem okAt_last (xs : List Tap) (t : Tap) : tapOkAt (xs ++ [t]) xs.length = (validTap t && !known xs t && (match xs.getLast? with | some p => earlier p t | none => true)) := by
  unfold tapOkAt
  rw [List.getElem?_append_right (Nat.le_refl _), List.take_append_of_le_length (Nat.le_refl _), List.take_length]
  simp only [Nat.sub_self, List.getElem?_cons_zero]
  congr 1
  rcases Nat.eq_zero_or_pos xs.length with h0 | h0
  · obtain rfl := List.eq_nil_of_length_eq_zero h0
    rfl
  · obtain ⟨j, hj⟩ : ∃ j, xs.length = j + 1 := ⟨xs.length - 1, by omega⟩
    rw [List.getLast?_eq_getElem?, hj]
    simp only [Nat.add_sub_cancel]
    rw [List.getElem?_append_left (by omega), List.getElem?_eq_getElem (by omega)]
theorem ok_pairs : ∀ (n : Nat) (xs : List Tap), xs.length = n → ((List.range xs.length).all (tapOkAt xs) = true ↔ (∀ t ∈ xs, validTap t = true) ∧ xs.Pairwise Before)
  | 0, xs, h => by
    obtain rfl := List.eq_nil_of_length_eq_zero h
    simp
  | n + 1, xs, h => by
    obtain ⟨ys, t, rfl⟩ : ∃ ys t, xs = ys ++ [t] := ⟨xs.dropLast, xs.getLast (by intro e; subst e; simp at h), (List.dropLast_concat_getLast _).symm⟩
    have hl : ys.length = n := by simpa using h
    have ih := ok_pairs n ys hl
    have hfront : (List.range ys.length).all (tapOkAt (ys ++ [t])) = (List.range ys.length).all (tapOkAt ys) := by
      rw [Bool.eq_iff_iff, List.all_eq_true, List.all_eq_true]
      constructor
      · intro h i hi; rw [← okAt_front ys t (List.mem_range.1 hi)]; exact h i hi
      · intro h i hi; rw [okAt_front ys t (List.mem_range.1 hi)]; exact h i hi
    rw [show (ys ++ [t]).length = ys.length + 1 by simp, List.range_succ, List.all_append, hfront]
    simp only [List.all_cons, List.all_nil, Bool.and_true, Bool.and_eq_true, okAt_last]
    rw [ih, List.pairwise_append]
    simp only [List.mem_append, List.mem_cons, List.not_mem_nil, or_false, List.pairwise_cons, List.Pairwise.nil, and_true, Bool.not_eq_true']
    constructor
    · rintro ⟨⟨hv, hp⟩, ⟨ht, hk⟩, he⟩
      refine ⟨fun o ho => ?_, hp, ⟨fun _ h => by simp at h, ?_⟩⟩
      · rcases ho with ho | rfl
        · exact hv o ho
        · exact ht
      · intro a ha b hb
        subst hb
        refine ⟨?_, known_false.1 hk a ha⟩
        cases hg : ys.getLast? with
        | none => rw [List.getLast?_eq_none_iff] at hg; subst hg; simp at ha
        | some p =>
          rw [hg] at he
          obtain ⟨zs, rfl⟩ := List.getLast?_eq_some_iff.1 hg
          rcases List.mem_append.1 ha with h1 | h1
          · rw [List.pairwise_append] at hp
            exact earlier_trans (hp.2.2 a h1 p (by simp)).1 he
          · simp at h1; subst h1; exact he
    · rintro ⟨hv, hp, _, hlast⟩
      refine ⟨⟨fun o ho => hv o (.inl ho), hp⟩, ⟨hv t (.inr rfl), known_false.2 (fun o ho => (hlast o ho t rfl).2)⟩, ?_⟩
      cases hg : ys.getLast? with
      | none => rfl
      | some p => exact (hlast p (List.mem_of_getLast? hg) t rfl).1
theorem valid_pairs {xs : List Tap} : validTaps xs = true ↔ xs.length ≤ 24 ∧ (∀ t ∈ xs, validTap t = true) ∧ xs.Pairwise Before := by
  unfold validTaps
  rw [Bool.and_eq_true, decide_eq_true_eq, ok_pairs _ xs rfl]
theorem valid_sub {xs ys : List Tap} (h : validTaps xs = true) (hs : ys.Sublist xs) : validTaps ys = true := by
  rw [valid_pairs] at h ⊢
  exact ⟨Nat.le_trans hs.length_le h.1, fun t ht => h.2.1 t (hs.subset ht), h.2.2.sublist hs⟩
theorem tapsOut_sub (xs : List Tap) (k : Nat) : (xs.take k ++ xs.drop (k + 1)).Sublist xs := by
  rw [← List.eraseIdx_eq_take_drop_succ]
  exact List.eraseIdx_sublist xs k
theorem valid_tapsOut {xs : List Tap} (h : validTaps xs = true) (k : Nat) : validTaps (xs.take k ++ xs.drop (k + 1)) = true := valid_sub h (tapsOut_sub xs k)
end Go.Proofs.Ytllhjgheffemnaa.Fares
