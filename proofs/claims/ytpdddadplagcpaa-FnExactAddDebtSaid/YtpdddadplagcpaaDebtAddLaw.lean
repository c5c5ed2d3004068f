/-
  Plain facts for the laws on AddDebt.
-/
import Derived.Test.YtpdddadplagcpaaDebtAddMath
import Derived.Test.YtpdddadplagcpaaDebtLaw
set_option linter.unusedSimpArgs false
set_option linter.unusedVariables false
namespace Go.Proofs.Ytpdddadplagcpaa.Fares
theorem addDebt_yes {xs : List Debt} {day m : Int} {out : List Debt} (h : addDebt xs day m = (out, true)) : DebtsOk xs ∧ debtOk ⟨day, m⟩ = true ∧ DebtsOk out ∧ addRes xs day m = out := by
  unfold addDebt at h
  split at h
  · rename_i hc
    injection h with h1 _
    subst h1
    exact ⟨(validDebts_iff _).1 hc.1, hc.2.1, (validDebts_iff _).1 hc.2.2, rfl⟩
  · injection h with _ h2; cases h2
theorem addDebt_length (xs : List Debt) (day m : Int) : (addDebt xs day m).1.length ≤ 29 := by
  unfold addDebt
  split
  · rename_i hc
    exact ((validDebts_iff _).1 hc.2.2).length
  · simp
theorem debtSum_filter (p : Debt → Bool) (xs : List Debt) : debtSum (xs.filter p) + debtSum (xs.filter (fun x => !p x)) = debtSum xs := by
  induction xs with
  | nil => rfl
  | cons x xs ih =>
    by_cases h : p x = true
    · rw [List.filter_cons, if_pos h, List.filter_cons, if_neg (by simp [h])]
      simp only [debtSum]; omega
    · rw [List.filter_cons, if_neg h, List.filter_cons, if_pos (by simp at h; simp [h])]
      simp only [debtSum]; omega
theorem debtSum_parts (day : Int) (xs : List Debt) : debtSum (xs.filter (fun x => decide (x.d < day))) + eqSum day xs + debtSum (xs.filter (fun x => decide (day < x.d))) = debtSum xs := by
  induction xs with
  | nil => rfl
  | cons x xs ih =>
    simp only [List.filter_cons, eqSum, debtSum]
    by_cases h1 : x.d < day
    · rw [if_pos (by simpa using h1), if_neg (by omega), if_neg (by simp; omega)]
      simp only [debtSum]; omega
    · rw [if_neg (by simpa using h1)]
      by_cases h2 : x.d = day
      · rw [if_pos h2, if_neg (by simp; omega)]; omega
      · rw [if_neg h2, if_pos (by simp; omega)]
        simp only [debtSum]; omega
theorem addRes_sum (xs : List Debt) (day m : Int) : debtSum (addRes xs day m) = debtSum xs + m := by
  have := debtSum_parts day xs
  unfold addRes
  rw [debtSum_append]
  simp only [debtSum]
  omega
theorem count_parts {xs : List Debt} (h : xs.Pairwise (fun x y => x.d < y.d)) (day : Int) :
    (xs.filter (fun x => decide (x.d < day))).length + (xs.filter (fun x => decide (day < x.d))).length ≤ xs.length ∧
    xs.length ≤ (xs.filter (fun x => decide (x.d < day))).length + (xs.filter (fun x => decide (day < x.d))).length + 1 := by
  induction xs with
  | nil => simp
  | cons x xs ih =>
    obtain ⟨hx, hp⟩ := List.pairwise_cons.1 h
    have ih := ih hp
    simp only [List.filter_cons]
    by_cases h1 : x.d < day
    · rw [if_pos (by simpa using h1), if_neg (by simp; omega)]
      simp only [List.length_cons]; omega
    · rw [if_neg (by simpa using h1)]
      by_cases h2 : x.d = day
      · rw [if_neg (by simp; omega)]
        have e1 : xs.filter (fun x => decide (x.d < day)) = [] := by
          rw [List.filter_eq_nil_iff]
          intro y hy; have := hx y hy; simp; omega
        have e2 : xs.filter (fun x => decide (day < x.d)) = xs := by
          rw [List.filter_eq_self]
          intro y hy; have := hx y hy; simp; omega
        rw [e1, e2]; simp
      · rw [if_pos (by simp; omega)]
        simp only [List.length_cons]; omega
theorem addRes_count {xs : List Debt} (h : xs.Pairwise (fun x y => x.d < y.d)) (day m : Int) : xs.length ≤ (addRes xs day m).length ∧ (addRes xs day m).length ≤ xs.length + 1 := by
  have := count_parts h day
  unfold addRes
  simp only [List.length_append, List.length_cons]
  omega
theorem eqSum_filter {day : Int} {p : Debt → Bool} (hp : ∀ x : Debt, x.d = day → p x = true) (xs : List Debt) : eqSum day (xs.filter p) = eqSum day xs := by
  induction xs with
  | nil => rfl
  | cons x xs ih =>
    by_cases h : p x = true
    · rw [List.filter_cons, if_pos h]; simp only [eqSum, ih]
    · have hne : x.d ≠ day := fun e => h (hp x e)
      rw [List.filter_cons, if_neg h]; simp only [eqSum]
      rw [if_neg hne, ih]; omega
theorem eqSum_off {day : Int} {p : Debt → Bool} (hp : ∀ x : Debt, p x = true → x.d ≠ day) (xs : List Debt) : eqSum day (xs.filter p) = 0 :=
  eqSum_none fun c hc => hp c (List.mem_filter.1 hc).2
theorem addRes_lt {a b : Int} (hab : a < b) (xs : List Debt) (m k : Int) : addRes (addRes xs a m) b k = addRes (addRes xs b k) a m := by
  have e1 : addRes (addRes xs a m) b k = xs.filter (fun x => decide (x.d < a)) ++ ⟨a, m + eqSum a xs⟩ :: xs.filter (fun x => decide (a < x.d) && decide (x.d < b)) ++ ⟨b, k + eqSum b xs⟩ :: xs.filter (fun x => decide (b < x.d)) := by
    have es : eqSum b (addRes xs a m) = eqSum b xs := by
      unfold addRes
      rw [eqSum_append, eqSum_off (fun x hx => by simp at hx; omega)]
      simp only [eqSum]
      rw [if_neg (by omega), eqSum_filter (fun x hx => by simp; omega)]
      omega
    have el : (addRes xs a m).filter (fun x => decide (x.d < b)) = xs.filter (fun x => decide (x.d < a)) ++ ⟨a, m + eqSum a xs⟩ :: xs.filter (fun x => decide (a < x.d) && decide (x.d < b)) := by
      unfold addRes
      rw [List.filter_append, List.filter_cons, if_pos (by simpa using hab), List.filter_filter, List.filter_filter]
      congr 1
      · apply List.filter_congr
        intro x _
        rw [Bool.eq_iff_iff]; simp; omega
      · congr 1
        apply List.filter_congr
        intro x _
        rw [Bool.and_comm]
    have eg : (addRes xs a m).filter (fun x => decide (b < x.d)) = xs.filter (fun x => decide (b < x.d)) := by
      unfold addRes
      rw [List.filter_append, List.filter_cons, if_neg (by simp; omega), List.filter_filter, List.filter_filter]
      have : xs.filter (fun x => decide (b < x.d) && decide (x.d < a)) = [] := by
        rw [List.filter_eq_nil_iff]; intro x _; simp; omega
      rw [this, List.nil_append]
      apply List.filter_congr
      intro x _
      rw [Bool.eq_iff_iff]; simp; omega
    rw [show addRes (addRes xs a m) b k = (addRes xs a m).filter (fun x => decide (x.d < b)) ++ ⟨b, k + eqSum b (addRes xs a m)⟩ :: (addRes xs a m).filter (fun x => decide (b < x.d)) from rfl, es, el, eg]
  have e2 : addRes (addRes xs b k) a m = xs.filter (fun x => decide (x.d < a)) ++ ⟨a, m + eqSum a xs⟩ :: (xs.filter (fun x => decide (a < x.d) && decide (x.d < b)) ++ ⟨b, k + eqSum b xs⟩ :: xs.filter (fun x => decide (b < x.d))) := by
    have es : eqSum a (addRes xs b k) = eqSum a xs := by
      unfold addRes
      rw [eqSum_append, eqSum_filter (fun x hx => by simp; omega)]
      simp only [eqSum]
      rw [if_neg (by omega), eqSum_off (fun x hx => by simp at hx; omega)]
      omega
    have el : (addRes xs b k).filter (fun x => decide (x.d < a)) = xs.filter (fun x => decide (x.d < a)) := by
      unfold addRes
      rw [List.filter_append, List.filter_cons, if_neg (by simp; omega), List.filter_filter, List.filter_filter]
      have : xs.filter (fun x => decide (x.d < a) && decide (b < x.d)) = [] := by
        rw [List.filter_eq_nil_iff]; intro x _; simp; omega
      rw [this, List.append_nil]
      apply List.filter_congr
      intro x _
      rw [Bool.eq_iff_iff]; simp; omega
    have eg : (addRes xs b k).filter (fun x => decide (a < x.d)) = xs.filter (fun x => decide (a < x.d) && decide (x.d < b)) ++ ⟨b, k + eqSum b xs⟩ :: xs.filter (fun x => decide (b < x.d)) := by
      unfold addRes
      rw [List.filter_append, List.filter_cons, if_pos (by simpa using hab), List.filter_filter, List.filter_filter]
      congr 2
      apply List.filter_congr
      intro x _
      rw [Bool.eq_iff_iff]; simp; omega
    rw [show addRes (addRes xs b k) a m = (addRes xs b k).filter (fun x => decide (x.d < a)) ++ ⟨a, m + eqSum a (addRes xs b k)⟩ :: (addRes xs b k).filter (fun x => decide (a < x.d)) from rfl, es, el, eg]
  rw [e1, e2, List.append_assoc]
  rfl
theorem addRes_same (a : Int) (xs : List Debt) (m k : Int) : addRes (addRes xs a m) a k = addRes xs a (m + k) := by
  have es : eqSum a (addRes xs a m) = m + eqSum a xs := by
    unfold addRes
    rw [eqSum_append, eqSum_off (fun x hx => by simp at hx; omega)]
    simp only [eqSum]
    rw [if_pos trivial, eqSum_off (fun x hx => by simp at hx; omega)]
    omega
  have el : (addRes xs a m).filter (fun x => decide (x.d < a)) = xs.filter (fun x => decide (x.d < a)) := by
    unfold addRes
    rw [List.filter_append, List.filter_cons, if_neg (by simp), List.filter_filter, List.filter_filter]
    have : xs.filter (fun x => decide (x.d < a) && decide (a < x.d)) = [] := by
      rw [List.filter_eq_nil_iff]; intro x _; simp; omega
    rw [this, List.append_nil]
    apply List.filter_congr
    intro x _
    rw [Bool.and_self]
  have eg : (addRes xs a m).filter (fun x => decide (a < x.d)) = xs.filter (fun x => decide (a < x.d)) := by
    unfold addRes
    rw [List.filter_append, List.filter_cons, if_neg (by simp), List.filter_filter, List.filter_filter]
    have : xs.filter (fun x => decide (a < x.d) && decide (x.d < a)) = [] := by
      rw [List.filter_eq_nil_iff]; intro x _; simp; omega
    rw [this, List.nil_append]
    apply List.filter_congr
    intro x _
    rw [Bool.and_self]
  rw [show addRes (addRes xs a m) a k = (addRes xs a m).filter (fun x => decide (x.d < a)) ++ ⟨a, k + eqSum a (addRes xs a m)⟩ :: (addRes xs a m).filter (fun x => decide (a < x.d)) from rfl, es, el, eg]
  unfold addRes
  congr 3
  omega
theorem addRes_comm (a b : Int) (xs : List Debt) (m k : Int) : addRes (addRes xs a m) b k = addRes (addRes xs b k) a m := by
  rcases Int.lt_trichotomy a b with h | h | h
  · exact addRes_lt h xs m k
  · subst h; rw [addRes_same, addRes_same, Int.add_comm]
  · exact (addRes_lt h xs k m).symm
/-- The order of two debts does not matter. -/
theorem add_order {xs out a b : List Debt} {day m : Int} (h0 : addDebt xs day m = (out, true)) (h1 : addDebt out 9 5 = (a, true)) (h2 : addDebt xs 9 5 = (b, true)) : addDebt b day m = (a, true) := by
  obtain ⟨g1, g2, g3, g4⟩ := addDebt_yes h0
  obtain ⟨k1, k2, k3, k4⟩ := addDebt_yes h1
  obtain ⟨l1, l2, l3, l4⟩ := addDebt_yes h2
  have e : addRes b day m = a := by rw [← l4, addRes_comm, g4, k4]
  unfold addDebt
  rw [e, if_pos ⟨(validDebts_iff _).2 l3, g2, (validDebts_iff _).2 k3⟩]
/-- All that is owed can be paid. -/
theorem pay_all {xs : List Debt} (h : DebtsOk xs) : payDebts xs (debtSum xs) = ([], 0) := by
  have hs := debtSum_in h
  rw [payDebts, if_pos ⟨(validDebts_iff _).2 h, hs.1⟩]
  rcases payRun_form (fun c hc => (h.1 c hc).2.2.1) hs.1 with ⟨h1, h2, _⟩ | ⟨k, x, r, h1, h2, h3, h4, h5⟩
  · exact Prod.ext h1 (by rw [h2]; omega)
  · exfalso
    have e := debtSum_append (xs.take (k + 1)) (xs.drop (k + 1))
    rw [List.take_append_drop, debtSum_next h1] at e
    have := (debtSum_in (h.sub (List.drop_sublist (k + 1) xs))).1
    omega
end Go.Proofs.Ytpdddadplagcpaa.Fares
