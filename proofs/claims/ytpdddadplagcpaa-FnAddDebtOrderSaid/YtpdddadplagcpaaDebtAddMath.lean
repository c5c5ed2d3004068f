/-
  Chapter 16: an amount more for a day, as plain functions on lists.
-/
import Derived.Test.YtpdddadplagcpaaDebtMath
set_option linter.unusedSimpArgs false
set_option linter.unusedVariables false
namespace Go.Proofs.Ytpdddadplagcpaa.Fares
/-- What is owed for a day. -/
def eqSum (day : Int) : List Debt → Int
  | [] => 0
  | x :: xs => (if x.d = day then x.a else 0) + eqSum day xs
theorem eqSum_append (day : Int) (xs ys : List Debt) : eqSum day (xs ++ ys) = eqSum day xs + eqSum day ys := by
  induction xs with
  | nil => simp [eqSum]
  | cons x xs ih => simp [eqSum, ih]; omega
theorem eqSum_next {xs : List Debt} {k : Nat} {x : Debt} (h : xs[k]? = some x) (day : Int) : eqSum day (xs.take (k + 1)) = eqSum day (xs.take k) + (if x.d = day then x.a else 0) := by
  rw [List.take_add_one, h, eqSum_append]; simp [eqSum]
theorem eqSum_in {xs : List Debt} (h : ∀ c ∈ xs, 1 ≤ c.a ∧ c.a ≤ 100000) (day : Int) : 0 ≤ eqSum day xs ∧ eqSum day xs ≤ 100000 * xs.length := by
  induction xs with
  | nil => simp [eqSum]
  | cons x xs ih =>
    have := ih (fun c hc => h c (by simp [hc]))
    have := h x (by simp)
    simp only [eqSum, List.length_cons]
    split <;> omega
theorem eqSum_none {xs : List Debt} {day : Int} (h : ∀ c ∈ xs, c.d ≠ day) : eqSum day xs = 0 := by
  induction xs with
  | nil => rfl
  | cons x xs ih =>
    simp only [eqSum]
    rw [if_neg (h x (by simp)), ih (fun c hc => h c (by simp [hc]))]
    rfl
/-- All debts when an amount is added for a day. -/
def addRes (xs : List Debt) (day m : Int) : List Debt := xs.filter (fun x => decide (x.d < day)) ++ ⟨day, m + eqSum day xs⟩ :: xs.filter (fun x => decide (day < x.d))
def addDebt (xs : List Debt) (day m : Int) : List Debt × Bool :=
  if validDebts xs = true ∧ debtOk ⟨day, m⟩ = true ∧ validDebts (addRes xs day m) = true then (addRes xs day m, true) else ([], false)
theorem addRes_length (xs : List Debt) (day m : Int) : (addRes xs day m).length ≤ xs.length + xs.length + 1 := by
  have h1 := List.length_filter_le (fun x : Debt => decide (x.d < day)) xs
  have h2 := List.length_filter_le (fun x : Debt => decide (day < x.d)) xs
  unfold addRes
  simp only [List.length_append, List.length_cons]
  omega
theorem drop_later {xs : List Debt} (h : xs.Pairwise (fun x y => x.d < y.d)) {day : Int} {k : Nat} (h1 : ∀ i x, i < k → xs[i]? = some x → ¬ day < x.d) (h2 : ∀ i x, k ≤ i → xs[i]? = some x → day < x.d) : xs.filter (fun x => decide (day < x.d)) = xs.drop k := by
  conv => lhs; rw [← List.take_append_drop k xs]
  rw [List.filter_append]
  have e1 : (xs.take k).filter (fun x => decide (day < x.d)) = [] := by
    rw [List.filter_eq_nil_iff]
    intro x hx
    obtain ⟨i, hi, e⟩ := List.mem_iff_getElem.1 hx
    rw [List.length_take] at hi
    rw [List.getElem_take] at e
    have := h1 i x (by omega) (by rw [List.getElem?_eq_getElem (by omega), e])
    simpa using this
  have e2 : (xs.drop k).filter (fun x => decide (day < x.d)) = xs.drop k := by
    rw [List.filter_eq_self]
    intro x hx
    obtain ⟨i, hi, e⟩ := List.mem_iff_getElem.1 hx
    rw [List.getElem_drop] at e
    exact decide_eq_true (h2 (k + i) x (by omega) (by rw [List.getElem?_eq_getElem (by rw [List.length_drop] at hi; omega), e]))
  rw [e1, e2, List.nil_append]
/-- A new day goes in at its place. -/
theorem addRes_new {xs : List Debt} (h : xs.Pairwise (fun x y => x.d < y.d)) {day m : Int} {i : Nat} (hi : i ≤ xs.length) (h1 : ∀ t x, t < i → xs[t]? = some x → x.d < day) (h2 : ∀ t x, i ≤ t → xs[t]? = some x → day ≤ x.d) (hn : ∀ x, xs[i]? = some x → x.d ≠ day) :
    addRes xs day m = xs.take i ++ ⟨day, m⟩ :: xs.drop i := by
  have h3 : ∀ t x, i ≤ t → xs[t]? = some x → day < x.d := fun t x ht hx => by
    have := h2 t x ht hx
    rcases Nat.lt_or_ge i t with hlt | hge
    · obtain ⟨ht', e1⟩ := List.getElem?_eq_some_iff.1 hx
      have hxi : xs[i]? = some xs[i] := List.getElem?_eq_getElem (by omega)
      have g1 := h2 i _ (Nat.le_refl _) hxi
      have := List.pairwise_iff_getElem.1 h i t (by omega) ht' hlt
      rw [e1] at this
      omega
    · obtain rfl : t = i := by omega
      have := hn x hx
      omega
  unfold addRes
  rw [old_take h hi h1 h2, drop_later h (fun t x ht hx => by have := h1 t x ht hx; omega) h3, eqSum_none, Int.add_zero]
  intro c hc
  obtain ⟨t, ht⟩ := List.mem_iff_getElem?.1 hc
  rcases Nat.lt_or_ge t i with hlt | hge
  · have := h1 t c hlt ht; omega
  · have := h3 t c hge ht; omega
/-- A day that is there becomes greater. -/
theorem addRes_old {xs : List Debt} (h : xs.Pairwise (fun x y => x.d < y.d)) {day m : Int} {i : Nat} {y : Debt} (hy : xs[i]? = some y) (hd : y.d = day) :
    addRes xs day m = xs.set i ⟨y.d, y.a + m⟩ := by
  obtain ⟨hi, ey⟩ := List.getElem?_eq_some_iff.1 hy
  have lo : ∀ t x, t < i → xs[t]? = some x → x.d < day := fun t x ht hx => by
    obtain ⟨h1, e1⟩ := List.getElem?_eq_some_iff.1 hx
    have := List.pairwise_iff_getElem.1 h t i h1 hi ht
    rw [e1, ey] at this; omega
  have hi' : ∀ t x, i + 1 ≤ t → xs[t]? = some x → day < x.d := fun t x ht hx => by
    obtain ⟨h1, e1⟩ := List.getElem?_eq_some_iff.1 hx
    have := List.pairwise_iff_getElem.1 h i t hi h1 (by omega)
    rw [e1, ey] at this; omega
  have e1 : xs.filter (fun x => decide (x.d < day)) = xs.take i := old_take h (by omega) lo (fun t x ht hx => by
    rcases Nat.lt_or_ge i t with hlt | hge
    · have := hi' t x (by omega) hx; omega
    · obtain rfl : t = i := by omega
      rw [hy] at hx; injection hx with hx; subst hx; omega)
  have e2 : xs.filter (fun x => decide (day < x.d)) = xs.drop (i + 1) := drop_later h (fun t x ht hx => by
    rcases Nat.lt_or_ge t i with hlt | hge
    · have := lo t x hlt hx; omega
    · obtain rfl : t = i := by omega
      rw [hy] at hx; injection hx with hx; subst hx; omega) hi'
  have e3 : eqSum day xs = y.a := by
    have hs : xs = xs.take i ++ y :: xs.drop (i + 1) := by
      have hd : xs.drop i = y :: xs.drop (i + 1) := by rw [List.drop_eq_getElem_cons hi, ey]
      rw [← hd, List.take_append_drop]
    rw [hs, eqSum_append, eqSum_none (xs := xs.take i)]
    · simp only [eqSum]
      rw [if_pos hd, eqSum_none]
      · omega
      · intro c hc
        obtain ⟨t, ht⟩ := List.mem_iff_getElem?.1 hc
        rw [List.getElem?_drop] at ht
        have := hi' (i + 1 + t) c (by omega) ht
        omega
    · intro c hc
      obtain ⟨t, ht⟩ := List.mem_iff_getElem?.1 hc
      rw [List.getElem?_take] at ht
      split at ht
      · have := lo t c (by assumption) ht; omega
      · cases ht
  unfold addRes
  rw [e1, e2, e3, List.set_eq_take_append_cons_drop, if_pos hi, ← hd, Int.add_comm]
end Go.Proofs.Ytpdddadplagcpaa.Fares
