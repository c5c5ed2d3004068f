/-
  Plain definitions and facts for chapter 15: waits, tries, the next try.
-/
set_option linter.unusedSimpArgs false
set_option linter.unusedVariables false
namespace Go.Proofs.Ytfeeofablnjjdaa.Fares
def waitOk (f : Int) : Bool := decide (1 ≤ f ∧ f ≤ 1440)
/-- The minutes before try k + 1. -/
def waitN (f : Int) : Nat → Int
  | 0 => f
  | k + 1 => min (2 * waitN f k) 1440
theorem waitN_in {f : Int} (h0 : 1 ≤ f) (h1 : f ≤ 1440) : ∀ k, 1 ≤ waitN f k ∧ waitN f k ≤ 1440
  | 0 => ⟨h0, h1⟩
  | k + 1 => by
    have := waitN_in h0 h1 k
    simp only [waitN]
    omega
theorem waitN_next (f : Int) (k : Nat) : waitN f (k + 1) = if 1440 < 2 * waitN f k then 1440 else 2 * waitN f k := by
  simp only [waitN]
  split <;> omega
def waitBefore (f t : Int) : Int := if 1 ≤ f ∧ f ≤ 1440 ∧ 1 ≤ t ∧ t ≤ 4 then waitN f (t - 1).toNat else -1
theorem waitBefore_no {f t : Int} (h : ¬ (1 ≤ f ∧ f ≤ 1440 ∧ 1 ≤ t ∧ t ≤ 4)) : waitBefore f t = -1 := if_neg h
theorem waitBefore_at {f : Int} (h0 : 1 ≤ f) (h1 : f ≤ 1440) {k : Nat} (hk : k < 4) : waitBefore f ((k : Int) + 1) = waitN f k := by
  unfold waitBefore
  rw [if_pos (by omega)]
  congr 1
  omega
theorem waitBefore_range (f t : Int) : waitBefore f t = -1 ∨ 1 ≤ waitBefore f t ∧ waitBefore f t ≤ 1440 := by
  unfold waitBefore
  split
  · rename_i h
    exact .inr (waitN_in h.1 h.2.1 _)
  · exact .inl rfl
/-- The minute behind the tries ks, and the minutes of all of them. -/
def sumOf (f b : Int) : List Nat → Int
  | [] => b
  | k :: ks => sumOf f (b + waitN f k) ks
def minsOf (f b : Int) : List Nat → List Int
  | [] => []
  | k :: ks => (b + waitN f k) :: minsOf f (b + waitN f k) ks
theorem sumOf_snoc (f : Int) (k : Nat) : ∀ (ks : List Nat) (b : Int), sumOf f b (ks ++ [k]) = sumOf f b ks + waitN f k
  | [], _ => rfl
  | _ :: ks, _ => sumOf_snoc f k ks _
theorem minsOf_snoc (f : Int) (k : Nat) : ∀ (ks : List Nat) (b : Int), minsOf f b (ks ++ [k]) = minsOf f b ks ++ [sumOf f b ks + waitN f k]
  | [], _ => rfl
  | _ :: ks, b => by simp [minsOf, sumOf, minsOf_snoc f k ks]
theorem minsOf_length (f : Int) : ∀ (ks : List Nat) (b : Int), (minsOf f b ks).length = ks.length
  | [], _ => rfl
  | _ :: ks, _ => by simp [minsOf, minsOf_length f ks]
theorem sumOf_in {f : Int} (h0 : 1 ≤ f) (h1 : f ≤ 1440) : ∀ (ks : List Nat) (b : Int), b ≤ sumOf f b ks ∧ sumOf f b ks ≤ b + 1440 * (ks.length : Int)
  | [], b => by simp [sumOf]
  | k :: ks, b => by
    have := waitN_in h0 h1 k
    have := sumOf_in h0 h1 ks (b + waitN f k)
    simp only [sumOf, List.length_cons]
    omega
theorem minsOf_ge {f : Int} (h0 : 1 ≤ f) (h1 : f ≤ 1440) : ∀ (ks : List Nat) (b : Int), ∀ t ∈ minsOf f b ks, b < t ∧ t ≤ sumOf f b ks
  | [], _ => by simp [minsOf]
  | k :: ks, b => by
    have := waitN_in h0 h1 k
    have hs := sumOf_in h0 h1 ks (b + waitN f k)
    intro t ht
    simp only [minsOf, List.mem_cons] at ht
    simp only [sumOf]
    rcases ht with rfl | ht
    · omega
    · have := minsOf_ge h0 h1 ks _ t ht
      omega
def tries (f : Int) : Nat → Nat → Int → List Int
  | 0, _, _ => []
  | n + 1, k, b => if b + waitN f k ≤ 40319 then (b + waitN f k) :: tries f n (k + 1) (b + waitN f k) else []
def triesOf (b f : Int) : List Int := if 0 ≤ b ∧ b ≤ 40319 ∧ 1 ≤ f ∧ f ≤ 1440 then tries f 4 0 b else []
theorem triesOf_no {b f : Int} (h : ¬ (0 ≤ b ∧ b ≤ 40319 ∧ 1 ≤ f ∧ f ≤ 1440)) : triesOf b f = [] := if_neg h
theorem triesOf_yes {b f : Int} (h : 0 ≤ b ∧ b ≤ 40319 ∧ 1 ≤ f ∧ f ≤ 1440) : triesOf b f = tries f 4 0 b := if_pos h
theorem tries_split {f : Int} (h0 : 1 ≤ f) (h1 : f ≤ 1440) (b : Int) : ∀ (j n : Nat), sumOf f b (List.range j) ≤ 40319 → minsOf f b (List.range j) ++ tries f n j (sumOf f b (List.range j)) = tries f (j + n) 0 b
  | 0, n, _ => by simp [minsOf, sumOf]
  | j + 1, n, h => by
    have hw := waitN_in h0 h1 j
    rw [List.range_succ, sumOf_snoc] at h
    rw [List.range_succ, sumOf_snoc, minsOf_snoc, List.append_assoc]
    have ih := tries_split h0 h1 b j (n + 1) (by omega)
    rw [show j + 1 + n = j + (n + 1) by omega, ← ih]
    congr 1
    simp only [tries, List.singleton_append]
    rw [if_pos h]
theorem tries_end {f : Int} (h0 : 1 ≤ f) (h1 : f ≤ 1440) {b : Int} (h : sumOf f b (List.range 4) ≤ 40319) : minsOf f b (List.range 4) = tries f 4 0 b := by
  have := tries_split h0 h1 b 4 0 h
  simpa [tries] using this
theorem tries_stop {f : Int} (h0 : 1 ≤ f) (h1 : f ≤ 1440) {b : Int} {j : Nat} (hj : j < 4) (h : sumOf f b (List.range j) ≤ 40319) (hs : 40319 < sumOf f b (List.range j) + waitN f j) : minsOf f b (List.range j) = tries f 4 0 b := by
  obtain ⟨n, hn⟩ : ∃ n, 4 = j + (n + 1) := ⟨3 - j, by omega⟩
  have := tries_split h0 h1 b j (n + 1) h
  rw [hn, ← this]
  simp only [tries]
  rw [if_neg (by omega), List.append_nil]
theorem tries_length (f : Int) : ∀ (n k : Nat) (b : Int), (tries f n k b).length ≤ n
  | 0, _, _ => by simp [tries]
  | n + 1, k, b => by
    have := tries_length f n (k + 1) (b + waitN f k)
    simp only [tries]
    split
    · simp; omega
    · simp
theorem triesOf_length (b f : Int) : (triesOf b f).length ≤ 4 := by
  unfold triesOf
  split
  · exact tries_length _ _ _ _
  · simp
theorem tries_in {f : Int} (h0 : 1 ≤ f) (h1 : f ≤ 1440) : ∀ (n k : Nat) (b : Int), ∀ t ∈ tries f n k b, b < t ∧ t ≤ 40319
  | 0, _, _ => by simp [tries]
  | n + 1, k, b => by
    have hw := waitN_in h0 h1 k
    intro t ht
    simp only [tries] at ht
    split at ht
    · rename_i hb
      rcases List.mem_cons.1 ht with rfl | ht
      · omega
      · have := tries_in h0 h1 n (k + 1) _ t ht
        omega
    · cases ht
theorem triesOf_in {b f : Int} : ∀ t ∈ triesOf b f, 0 < t ∧ t ≤ 40319 := by
  intro t ht
  unfold triesOf at ht
  split at ht
  · rename_i h
    have := tries_in h.2.2.1 h.2.2.2 4 0 b t ht
    omega
  · cases ht
/-- The first one that is not before a minute. -/
def firstAt (m : Int) : List Int → Int
  | [] => -1
  | t :: ts => if m ≤ t then t else firstAt m ts
def nextTry (b f m : Int) : Int := firstAt m (triesOf b f)
theorem firstAt_skip {m t : Int} (ts : List Int) (h : ¬ m ≤ t) : firstAt m (t :: ts) = firstAt m ts := if_neg h
theorem firstAt_hit {m t : Int} (ts : List Int) (h : m ≤ t) : firstAt m (t :: ts) = t := if_pos h
end Go.Proofs.Ytfeeofablnjjdaa.Fares
