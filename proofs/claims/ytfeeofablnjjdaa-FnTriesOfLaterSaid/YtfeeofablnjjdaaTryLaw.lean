/-
  Plain facts for chapter 15's laws.
-/
import Derived.Test.YtfeeofablnjjdaaTryMath
set_option linter.unusedSimpArgs false
set_option linter.unusedVariables false
namespace Go.Proofs.Ytfeeofablnjjdaa.Fares
theorem waitN_more {f g : Int} (h : f ≤ g) : ∀ k, waitN f k ≤ waitN g k
  | 0 => h
  | k + 1 => by
    have := waitN_more h k
    simp only [waitN]
    omega
theorem waitN_up {f : Int} (h0 : 1 ≤ f) (h1 : f ≤ 1440) (k : Nat) : waitN f k ≤ waitN f (k + 1) ∧ waitN f (k + 1) ≤ 2 * waitN f k := by
  have := waitN_in h0 h1 k
  simp only [waitN]
  omega
theorem waitN_first {f : Int} (h0 : 1 ≤ f) (h1 : f ≤ 1440) : ∀ k, f ≤ waitN f k
  | 0 => Int.le_refl _
  | k + 1 => by
    have := waitN_first h0 h1 k
    have := (waitN_up h0 h1 k).1
    omega
theorem wait_law {f t : Int} (h : 0 ≤ waitBefore f t) : waitBefore f t ≤ waitBefore f (if 4 < t + 1 then 4 else t + 1) ∧ waitBefore f (if 4 < t + 1 then 4 else t + 1) ≤ 2 * waitBefore f t ∧ waitBefore f t ≤ 1440 ∧ 1 ≤ waitBefore f t ∧ waitBefore f 1 = f := by
  by_cases hv : 1 ≤ f ∧ f ≤ 1440 ∧ 1 ≤ t ∧ t ≤ 4
  · obtain ⟨f0, f1, t0, t1⟩ := hv
    obtain ⟨k, rfl⟩ : ∃ k : Nat, t = (k : Int) + 1 := ⟨(t - 1).toNat, by omega⟩
    have hk : k < 4 := by omega
    have h1 : waitBefore f 1 = f := by simpa [waitN] using waitBefore_at f0 f1 (k := 0) (by omega)
    have hw := waitN_in f0 f1 k
    rw [waitBefore_at f0 f1 hk, h1]
    by_cases h3 : k = 3
    · subst h3
      rw [if_pos (by decide), show (4 : Int) = ((3 : Nat) : Int) + 1 by decide, waitBefore_at f0 f1 (by omega)]
      omega
    · rw [if_neg (by omega), show (k : Int) + 1 + 1 = ((k + 1 : Nat) : Int) + 1 by omega, waitBefore_at f0 f1 (by omega)]
      have := waitN_up f0 f1 k
      omega
  · rw [waitBefore_no hv] at h
    omega
theorem more_law {f t : Int} (h : 0 ≤ waitBefore f t) : waitBefore f t ≤ waitBefore (if 1440 < f + 1 then 1440 else f + 1) t ∧ f ≤ waitBefore f t := by
  by_cases hv : 1 ≤ f ∧ f ≤ 1440 ∧ 1 ≤ t ∧ t ≤ 4
  · obtain ⟨f0, f1, t0, t1⟩ := hv
    obtain ⟨k, rfl⟩ : ∃ k : Nat, t = (k : Int) + 1 := ⟨(t - 1).toNat, by omega⟩
    have hk : k < 4 := by omega
    rw [waitBefore_at f0 f1 hk]
    refine ⟨?_, waitN_first f0 f1 k⟩
    split
    · rw [waitBefore_at (by omega) (by omega) hk]
      exact waitN_more (by omega) k
    · rw [waitBefore_at (by omega) (by omega) hk]
      exact waitN_more (by omega) k
  · rw [waitBefore_no hv] at h
    omega
theorem firstAt_of {m : Int} : ∀ (xs : List Int), (∀ x ∈ xs, 0 < x) → (firstAt m xs = -1 ∧ ∀ x ∈ xs, x < m) ∨ (firstAt m xs ∈ xs ∧ m ≤ firstAt m xs ∧ 0 < firstAt m xs)
  | [], _ => .inl ⟨rfl, by simp⟩
  | t :: ts, h => by
    by_cases hm : m ≤ t
    · rw [firstAt_hit _ hm]
      exact .inr ⟨by simp, hm, h t (by simp)⟩
    · rw [firstAt_skip _ hm]
      rcases firstAt_of ts (fun x hx => h x (by simp [hx])) with ⟨h1, h2⟩ | ⟨h1, h2⟩
      · refine .inl ⟨h1, fun x hx => ?_⟩
        rcases List.mem_cons.1 hx with rfl | hx
        · omega
        · exact h2 x hx
      · exact .inr ⟨by simp [h1], h2⟩
theorem firstAt_self {m : Int} : ∀ (xs : List Int), (∀ x ∈ xs, 0 < x) → 0 ≤ firstAt m xs → firstAt (firstAt m xs) xs = firstAt m xs
  | [], _, h => by simp [firstAt] at h
  | t :: ts, h, hf => by
    by_cases hm : m ≤ t
    · rw [firstAt_hit _ hm, firstAt_hit _ (Int.le_refl _)]
    · rw [firstAt_skip _ hm] at hf ⊢
      have hh := firstAt_of (m := m) ts (fun x hx => h x (by simp [hx]))
      rw [firstAt_skip _ (by rcases hh with ⟨h1, _⟩ | ⟨_, h2, _⟩ <;> omega)]
      exact firstAt_self ts (fun x hx => h x (by simp [hx])) hf
theorem after_law {b f m : Int} (h : 0 ≤ nextTry b f m) : nextTry b f (nextTry b f m) = nextTry b f m ∧ (nextTry b f (nextTry b f m + 1) < 0 ∨ nextTry b f m < nextTry b f (nextTry b f m + 1)) := by
  have hp : ∀ x ∈ triesOf b f, 0 < x := fun x hx => (triesOf_in x hx).1
  refine ⟨firstAt_self _ hp h, ?_⟩
  rcases firstAt_of (m := nextTry b f m + 1) _ hp with ⟨h1, _⟩ | ⟨_, h2, _⟩
  · left; unfold nextTry at h1 ⊢; omega
  · right; unfold nextTry at h2 ⊢; omega
theorem nextTry_range (b f m : Int) : nextTry b f m = -1 ∨ 0 < nextTry b f m ∧ nextTry b f m ≤ 40319 := by
  rcases firstAt_of (m := m) (triesOf b f) (fun x hx => (triesOf_in x hx).1) with ⟨h1, _⟩ | ⟨h1, h2, h3⟩
  · exact .inl h1
  · exact .inr ⟨h3, (triesOf_in _ h1).2⟩
theorem tries_get {f : Int} : ∀ (n k : Nat) (b : Int) (j : Nat) (x : Int), (tries f n k b)[j]? = some x → x = sumOf f b (List.range' k (j + 1))
  | 0, k, b, j, x, h => by simp [tries] at h
  | n + 1, k, b, j, x, h => by
    simp only [tries] at h
    split at h
    · cases j with
      | zero =>
        simp at h
        simp [List.range', sumOf, h]
      | succ j =>
        rw [List.getElem?_cons_succ] at h
        have := tries_get n (k + 1) _ j x h
        rw [this]
        rfl
    · simp at h
theorem range'_snoc (k n : Nat) : List.range' k (n + 1) = List.range' k n ++ [k + n] := by
  rw [List.range'_concat]; simp
/-- The minute ahead of try k. -/
def behind (b f : Int) (k : Nat) : Int := sumOf f b (List.range' 0 k)
theorem behind_zero (b f : Int) : behind b f 0 = b := rfl
theorem triesOf_get {b f : Int} {k : Nat} {x : Int} (h : (triesOf b f)[k]? = some x) : (1 ≤ f ∧ f ≤ 1440 ∧ k < 4 ∧ x ≤ 40319) ∧ x = behind b f k + waitN f k ∧ x = behind b f (k + 1) := by
  have hk := (List.getElem?_eq_some_iff.1 h).1
  have hl := triesOf_length b f
  have hin := triesOf_in x (List.mem_of_getElem? h)
  unfold triesOf at h
  split at h
  · rename_i hv
    have := tries_get 4 0 b k x h
    refine ⟨⟨hv.2.2.1, hv.2.2.2, by omega, hin.2⟩, ?_, this⟩
    rw [this, range'_snoc, sumOf_snoc]
    simp [behind]
  · cases h
theorem tries_later {f : Int} (h0 : 1 ≤ f) (h1 : f ≤ 1440) : ∀ (n k : Nat) (b : Int), (tries f n k b).length ≤ (tries f n k (b + 1)).length + 1 ∧ (tries f n k (b + 1)).length ≤ (tries f n k b).length ∧
    ∀ (j : Nat) (y : Int), (tries f n k (b + 1))[j]? = some y → (tries f n k b)[j]? = some (y - 1)
  | 0, k, b => by simp [tries]
  | n + 1, k, b => by
    have hw := waitN_in h0 h1 k
    obtain ⟨i1, i2, i3⟩ := tries_later h0 h1 n (k + 1) (b + waitN f k)
    have e : b + 1 + waitN f k = b + waitN f k + 1 := by omega
    simp only [tries, e]
    by_cases hb : b + waitN f k + 1 ≤ 40319
    · rw [if_pos hb, if_pos (by omega)]
      refine ⟨by simp; omega, by simp; omega, fun j y h => ?_⟩
      cases j with
      | zero => simp at h ⊢; omega
      | succ j => rw [List.getElem?_cons_succ] at h ⊢; exact i3 j y h
    · rw [if_neg hb]
      refine ⟨?_, by simp, fun j y h => by simp at h⟩
      split
      · have : tries f n (k + 1) (b + waitN f k) = [] := by
          cases n with
          | zero => rfl
          | succ n =>
            have := waitN_in h0 h1 (k + 1)
            simp only [tries]
            rw [if_neg (by omega)]
        rw [this]; simp
      · simp
theorem later_law {b f : Int} (hne : triesOf b f ≠ []) (hb : b ≠ 40319) : (triesOf b f).length ≤ (triesOf (b + 1) f).length + 1 ∧ (triesOf (b + 1) f).length ≤ (triesOf b f).length ∧
    ∀ (j : Nat) (y : Int), (triesOf (b + 1) f)[j]? = some y → (triesOf b f)[j]? = some (y - 1) := by
  by_cases hv : 0 ≤ b ∧ b ≤ 40319 ∧ 1 ≤ f ∧ f ≤ 1440
  · rw [triesOf_yes hv, triesOf_yes (by omega)]
    exact tries_later hv.2.2.1 hv.2.2.2 4 0 b
  · exact absurd (triesOf_no hv) hne
theorem tries_up {f : Int} (h0 : 1 ≤ f) (h1 : f ≤ 1440) : ∀ (n k : Nat) (b : Int), (tries f n k b).Pairwise (· < ·)
  | 0, _, _ => by simp [tries]
  | n + 1, k, b => by
    have hw := waitN_in h0 h1 k
    simp only [tries]
    split
    · exact List.pairwise_cons.2 ⟨fun t ht => (tries_in h0 h1 n (k + 1) _ t ht).1, tries_up h0 h1 n (k + 1) _⟩
    · exact List.Pairwise.nil
theorem firstAt_least {m : Int} : ∀ (xs : List Int), xs.Pairwise (· < ·) → ∀ x ∈ xs, m ≤ x → firstAt m xs ≤ x
  | [], _, x, hx, _ => by cases hx
  | t :: ts, hp, x, hx, hm => by
    rw [List.pairwise_cons] at hp
    by_cases ht : m ≤ t
    · rw [firstAt_hit _ ht]
      rcases List.mem_cons.1 hx with rfl | hx
      · exact Int.le_refl _
      · have := hp.1 x hx; omega
    · rw [firstAt_skip _ ht]
      rcases List.mem_cons.1 hx with rfl | hx
      · omega
      · exact firstAt_least ts hp.2 x hx hm
theorem next_law (b f m : Int) : (nextTry b f m = -1 ∧ ∀ x ∈ triesOf b f, x < m) ∨ (nextTry b f m ∈ triesOf b f ∧ m ≤ nextTry b f m ∧ 0 < nextTry b f m ∧ ∀ x ∈ triesOf b f, m ≤ x → nextTry b f m ≤ x) := by
  rcases firstAt_of (m := m) (triesOf b f) (fun x hx => (triesOf_in x hx).1) with h | ⟨h1, h2, h3⟩
  · exact .inl h
  · refine .inr ⟨h1, h2, h3, fun x hx hm => firstAt_least _ ?_ x hx hm⟩
    unfold triesOf
    split
    · rename_i hv
      exact tries_up hv.2.2.1 hv.2.2.2 _ _ _
    · exact List.Pairwise.nil
end Go.Proofs.Ytfeeofablnjjdaa.Fares
