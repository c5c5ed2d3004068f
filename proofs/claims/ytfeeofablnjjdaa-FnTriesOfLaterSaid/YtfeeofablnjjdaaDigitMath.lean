/-
  Digits, two in each byte, as plain functions on lists.
-/
import Derived.Test.YtfeeofablnjjdaaTypes
set_option linter.unusedSimpArgs false
set_option linter.unusedVariables false
namespace Go.Proofs.Ytfeeofablnjjdaa.Fares
def pairBad (x : Int) : Bool := decide (9 < x / 16 ∨ 9 < x % 16)
def pairOf (x : Int) : Int := 10 * (x / 16) + x % 16
def unpackFrom (n : Int) : List Int → Int
  | [] => n
  | x :: r => if pairBad x then -1 else unpackFrom (100 * n + pairOf x) r
def unpackDigits (xs : List Int) : Int := if xs.length = 0 ∨ 4 < xs.length then -1 else unpackFrom 0 xs
theorem unpackFrom_bad {x : Int} (h : pairBad x = true) (n : Int) (r : List Int) : unpackFrom n (x :: r) = -1 := by rw [unpackFrom, if_pos h]
theorem unpackFrom_next {x : Int} (h : pairBad x = false) (n : Int) (r : List Int) : unpackFrom n (x :: r) = unpackFrom (100 * n + pairOf x) r := by rw [unpackFrom, if_neg (by simp [h])]
theorem pair_bad_iff (x : Int) : pairBad x = true ↔ (9 < x / 16 ∨ 9 < x % 16) := by unfold pairBad; rw [decide_eq_true_eq]
theorem pair_ok_iff (x : Int) : pairBad x = false ↔ (x / 16 ≤ 9 ∧ x % 16 ≤ 9) := by unfold pairBad; rw [decide_eq_false_iff_not]; omega
theorem drop_cons {T : Type} {xs : List T} {k : Nat} {x : T} (h : xs[k]? = some x) : xs.drop k = x :: xs.drop (k + 1) := by
  obtain ⟨hk, e⟩ := List.getElem?_eq_some_iff.1 h
  rw [List.drop_eq_getElem_cons hk, e]
/-- What stands in front is worth a hundred times more for each byte behind. -/
theorem unpackFrom_shift : ∀ (r : List Int) (n : Int), (∀ x ∈ r, pairBad x = false) → unpackFrom n r = n * 100 ^ r.length + unpackFrom 0 r
  | [], n, _ => by simp [unpackFrom]
  | x :: r, n, h => by
    have hx := h x (by simp)
    have hr : ∀ y ∈ r, pairBad y = false := fun y hy => h y (by simp [hy])
    rw [unpackFrom_next hx, unpackFrom_next hx, unpackFrom_shift r (100 * n + pairOf x) hr, unpackFrom_shift r (100 * 0 + pairOf x) hr, List.length_cons, Int.pow_succ]
    generalize (100 : Int) ^ r.length = p
    have : (100 * n + pairOf x) * p = 100 * n * p + pairOf x * p := Int.add_mul _ _ _
    have h2 : (100 * 0 + pairOf x) * p = pairOf x * p := by rw [Int.mul_zero, Int.zero_add]
    have h3 : n * (p * 100) = 100 * n * p := by rw [Int.mul_comm p 100, ← Int.mul_assoc, Int.mul_comm n 100]
    omega
theorem unpackFrom_neg : ∀ (r : List Int) (n : Int), (∃ x ∈ r, pairBad x = true) → unpackFrom n r = -1
  | [], _, ⟨x, h, _⟩ => by cases h
  | y :: r, n, ⟨x, h, hx⟩ => by
    by_cases hy : pairBad y = true
    · exact unpackFrom_bad hy _ _
    · rw [unpackFrom_next (by simpa using hy)]
      rcases List.mem_cons.1 h with rfl | h
      · exact absurd hx hy
      · exact unpackFrom_neg r _ ⟨x, h, hx⟩
theorem unpackFrom_bound : ∀ (r : List Int) (n : Int), 0 ≤ n → (∀ x ∈ r, 0 ≤ x) → -1 ≤ unpackFrom n r ∧ unpackFrom n r < (n + 1) * 100 ^ r.length
  | [], n, h, _ => by simp [unpackFrom]; omega
  | x :: r, n, h, h0 => by
    have hx0 := h0 x (by simp)
    have hpos : 0 < (100 : Int) ^ (x :: r).length := Int.pow_pos (by omega)
    by_cases hx : pairBad x = true
    · rw [unpackFrom_bad hx]
      exact ⟨by omega, Int.lt_of_lt_of_le (by omega) (Int.mul_nonneg (by omega) (by omega))⟩
    · have hx' : pairBad x = false := by simpa using hx
      rw [unpackFrom_next hx']
      have hp := (pair_ok_iff x).1 hx'
      have hq : 0 ≤ pairOf x ∧ pairOf x ≤ 99 := by unfold pairOf; omega
      obtain ⟨h1, h2⟩ := unpackFrom_bound r (100 * n + pairOf x) (by omega) (fun y hy => h0 y (by simp [hy]))
      refine ⟨h1, Int.lt_of_lt_of_le h2 ?_⟩
      rw [List.length_cons, Int.pow_succ, Int.mul_comm (100 ^ r.length) 100, ← Int.mul_assoc]
      exact Int.mul_le_mul_of_nonneg_right (by omega) (Int.le_of_lt (Int.pow_pos (by omega)))
theorem unpackFrom_nonneg : ∀ (r : List Int) (n : Int), 0 ≤ n → (∀ x ∈ r, 0 ≤ x) → (∀ x ∈ r, pairBad x = false) → 0 ≤ unpackFrom n r
  | [], n, h, _, _ => h
  | x :: r, n, h, h0, hb => by
    rw [unpackFrom_next (hb x (by simp))]
    have hp := h0 x (by simp)
    exact unpackFrom_nonneg r _ (by unfold pairOf; omega) (fun y hy => h0 y (by simp [hy])) (fun y hy => hb y (by simp [hy]))
/-- The first byte, and the others. -/
theorem unpack_one {ys : List Int} (hx : ∀ x ∈ ys, 0 ≤ x) (h2 : 2 ≤ ys.length) (h4 : ys.length ≤ 4) (hn : 0 ≤ unpackDigits ys) :
    unpackDigits (ys.take 1) * 100 ^ (ys.length - 1) + unpackDigits (ys.drop 1) = unpackDigits ys ∧ 0 ≤ unpackDigits (ys.take 1) ∧ unpackDigits (ys.take 1) ≤ 99 ∧ 0 ≤ unpackDigits (ys.drop 1) ∧ unpackDigits (ys.drop 1) ≤ 999999 := by
  match ys, hx, h2, h4, hn with
  | a :: b :: r, hx, h2, h4, hn =>
    have h4' : r.length ≤ 2 := by simpa using h4
    have hall : ∀ x ∈ a :: b :: r, pairBad x = false := by
      intro x hx
      cases hb : pairBad x with
      | false => rfl
      | true =>
        unfold unpackDigits at hn
        rw [if_neg (by simp; omega), unpackFrom_neg _ _ ⟨x, hx, hb⟩] at hn
        omega
    have e0 : unpackDigits (a :: b :: r) = unpackFrom 0 (a :: b :: r) := by unfold unpackDigits; rw [if_neg (by simp; omega)]
    have e1 : unpackDigits [a] = pairOf a := by
      unfold unpackDigits
      rw [if_neg (by simp), unpackFrom_next (hall a (by simp)), unpackFrom]; omega
    have e2 : unpackDigits (b :: r) = unpackFrom 0 (b :: r) := by unfold unpackDigits; rw [if_neg (by simp; omega)]
    have hr : ∀ x ∈ b :: r, pairBad x = false := fun x hx => hall x (List.mem_cons_of_mem _ hx)
    have e3 : unpackFrom 0 (a :: b :: r) = pairOf a * 100 ^ (b :: r).length + unpackFrom 0 (b :: r) := by
      rw [unpackFrom_next (hall a (by simp)), unpackFrom_shift _ _ hr]; simp
    have hpa : 0 ≤ pairOf a ∧ pairOf a ≤ 99 := by
      have := (pair_ok_iff a).1 (hall a (by simp))
      have := hx a (by simp)
      unfold pairOf; omega
    have hx2 : ∀ x ∈ b :: r, 0 ≤ x := fun x h => hx x (List.mem_cons_of_mem _ h)
    have q0 := unpackFrom_nonneg (b :: r) 0 (by omega) hx2 hr
    have q1 := (unpackFrom_bound (b :: r) 0 (by omega) hx2).2
    have q2 : (100 : Int) ^ (b :: r).length ≤ 1000000 := by
      rw [List.length_cons]
      rcases (by omega : r.length = 0 ∨ r.length = 1 ∨ r.length = 2) with h | h | h <;> rw [h] <;> decide
    refine ⟨?_, ?_, ?_, ?_, ?_⟩
    · rw [e0, e3, List.take_succ_cons, List.take_zero, e1, List.drop_succ_cons, List.drop_zero, e2]; rfl
    · rw [List.take_succ_cons, List.take_zero, e1]; exact hpa.1
    · rw [List.take_succ_cons, List.take_zero, e1]; exact hpa.2
    · rw [List.drop_succ_cons, List.drop_zero, e2]; exact q0
    · rw [List.drop_succ_cons, List.drop_zero, e2]; omega
end Go.Proofs.Ytfeeofablnjjdaa.Fares
