/-
  Plain facts for chapter 16's laws.
-/
import Derived.Test.YtpdddadplagcpaaDebtMath
set_option linter.unusedSimpArgs false
set_option linter.unusedVariables false
namespace Go.Proofs.Ytpdddadplagcpaa.Fares
/-- What is left when an amount is paid: nothing, or the debts from place k on, the first one smaller. -/
theorem payRun_form {xs : List Debt} (h : ∀ c ∈ xs, 1 ≤ c.a) : ∀ {m : Int}, 0 ≤ m →
    ((payRun xs m).1 = [] ∧ (payRun xs m).2 = m - debtSum xs ∧ 0 ≤ m - debtSum xs) ∨
    (∃ k x r, xs[k]? = some x ∧ (payRun xs m) = (⟨x.d, r⟩ :: xs.drop (k + 1), 0) ∧ 1 ≤ r ∧ r ≤ x.a ∧ debtSum (xs.take k) + x.a - r = m) := by
  induction xs with
  | nil => intro m hm; exact .inl ⟨rfl, by simp [payRun, debtSum], by simpa [debtSum] using hm⟩
  | cons x xs ih =>
    intro m hm
    have hx := h x (by simp)
    have hxs : ∀ c ∈ xs, 1 ≤ c.a := fun c hc => h c (by simp [hc])
    by_cases hle : x.a ≤ m
    · have e : payRun (x :: xs) m = payRun xs (m - x.a) := by simp only [payRun]; rw [if_pos hle]
      rw [e]
      rcases ih hxs (m := m - x.a) (by omega) with ⟨h1, h2, h3⟩ | ⟨k, y, r, h1, h2, h3, h4, h5⟩
      · exact .inl ⟨h1, by rw [h2]; simp only [debtSum]; omega, by simp only [debtSum]; omega⟩
      · exact .inr ⟨k + 1, y, r, by simpa using h1, by rw [h2]; rfl, h3, h4, by simp only [List.take_succ_cons, debtSum]; omega⟩
    · have e : payRun (x :: xs) m = (⟨x.d, x.a - m⟩ :: xs, 0) := by simp only [payRun]; rw [if_neg hle, payRun_zero hxs]
      exact .inr ⟨0, x, x.a - m, rfl, by rw [e]; rfl, by omega, by omega, by simp only [List.take_zero, debtSum]; omega⟩
theorem DebtsOk.rest {xs : List Debt} (h : DebtsOk xs) {k : Nat} {x : Debt} (hx : xs[k]? = some x) {r : Int} (h1 : 1 ≤ r) (h2 : r ≤ x.a) : DebtsOk (⟨x.d, r⟩ :: xs.drop (k + 1)) := by
  have hd : xs.drop k = x :: xs.drop (k + 1) := by
    obtain ⟨hk, e⟩ := List.getElem?_eq_some_iff.1 hx
    rw [List.drop_eq_getElem_cons hk, e]
  have hs : DebtsOk (x :: xs.drop (k + 1)) := hd ▸ h.sub (List.drop_sublist k xs)
  refine ⟨fun c hc => ?_, ?_⟩
  · rcases List.mem_cons.1 hc with rfl | hc
    · have := hs.1 x (by simp)
      refine ⟨this.1, this.2.1, h1, ?_⟩
      show r ≤ 100000
      omega
    · exact hs.1 c (by simp [hc])
  · have := List.pairwise_cons.1 hs.2
    exact List.pairwise_cons.2 ⟨this.1, this.2⟩
theorem pay_law {xs : List Debt} (h : DebtsOk xs) {m : Int} (hm : 0 ≤ m) :
    DebtsOk (payRun xs m).1 ∧ debtSum (payRun xs m).1 = debtSum xs - (m - (payRun xs m).2) ∧ 0 ≤ (payRun xs m).2 ∧ (payRun xs m).2 ≤ m ∧ ((payRun xs m).2 = 0 ∨ (payRun xs m).1 = []) := by
  have h0 := debtSum_in h
  rcases payRun_form (fun c hc => (h.1 c hc).2.2.1) hm with ⟨h1, h2, h3⟩ | ⟨k, x, r, h1, h2, h3, h4, h5⟩
  · refine ⟨?_, ?_, by rw [h2]; exact h3, by rw [h2]; omega, .inr h1⟩
    · rw [h1]; exact ⟨by simp, List.Pairwise.nil⟩
    · rw [h1, h2]; simp only [debtSum]; omega
  · rw [h2]
    refine ⟨h.rest h1 h3 h4, ?_, Int.le_refl _, hm, .inl rfl⟩
    have e := debtSum_append (xs.take (k + 1)) (xs.drop (k + 1))
    rw [List.take_append_drop, debtSum_next h1] at e
    simp only [debtSum]
    omega
theorem pay_old {xs : List Debt} (h : DebtsOk xs) {m : Int} (hm : 0 ≤ m) (hne : (payRun xs m).1 ≠ []) :
    ∃ k x r, k + (payRun xs m).1.length = xs.length ∧ xs[k]? = some x ∧ (payRun xs m).1 = ⟨x.d, r⟩ :: xs.drop (k + 1) ∧ 1 ≤ r ∧ r ≤ x.a := by
  rcases payRun_form (fun c hc => (h.1 c hc).2.2.1) hm with ⟨h1, _⟩ | ⟨k, x, r, h1, h2, h3, h4, _⟩
  · exact absurd h1 hne
  · have hk := (List.getElem?_eq_some_iff.1 h1).1
    exact ⟨k, x, r, by rw [h2]; simp only [List.length_cons, List.length_drop]; omega, h1, by rw [h2], h3, h4⟩
theorem pay_twice {xs : List Debt} (h : ∀ c ∈ xs, 1 ≤ c.a) : ∀ {p q : Int}, 0 ≤ p → 0 ≤ q → payRun xs (p + q) = ((payRun (payRun xs p).1 q).1, (payRun xs p).2 + (payRun (payRun xs p).1 q).2) := by
  induction xs with
  | nil => intro p q _ _; simp [payRun]
  | cons x xs ih =>
    intro p q hp hq
    have hx := h x (by simp)
    have hxs : ∀ c ∈ xs, 1 ≤ c.a := fun c hc => h c (by simp [hc])
    by_cases hle : x.a ≤ p
    · have e1 : payRun (x :: xs) p = payRun xs (p - x.a) := by simp only [payRun]; rw [if_pos hle]
      have e2 : payRun (x :: xs) (p + q) = payRun xs (p - x.a + q) := by simp only [payRun]; rw [if_pos (by omega), show p + q - x.a = p - x.a + q by omega]
      rw [e1, e2]
      exact ih hxs (by omega) hq
    · have e1 : payRun (x :: xs) p = (⟨x.d, x.a - p⟩ :: xs, 0) := by simp only [payRun]; rw [if_neg hle, payRun_zero hxs]
      rw [e1]
      simp only [payRun]
      by_cases hq2 : x.a - p ≤ q
      · rw [if_pos hq2, if_pos (by omega), show p + q - x.a = q - (x.a - p) by omega]; simp
      · rw [if_neg hq2, if_neg (by omega), show x.a - (p + q) = x.a - p - q by omega]; simp
/-- Old debts are a beginning. -/
theorem old_form {xs : List Debt} (h : xs.Pairwise (fun x y => x.d < y.d)) (day : Int) :
    ∃ k, k ≤ xs.length ∧ xs.filter (fun x => decide (x.d < day)) = xs.take k ∧ (∀ i x, i < k → xs[i]? = some x → x.d < day) ∧ (∀ i x, k ≤ i → xs[i]? = some x → day ≤ x.d) := by
  induction xs with
  | nil => exact ⟨0, Nat.le_refl _, rfl, fun i x hi => absurd hi (by omega), fun i x _ hx => by simp at hx⟩
  | cons x xs ih =>
    obtain ⟨hx, hp⟩ := List.pairwise_cons.1 h
    by_cases hd : x.d < day
    · obtain ⟨k, h1, h2, h3, h4⟩ := ih hp
      refine ⟨k + 1, by simp; omega, by rw [List.filter_cons, if_pos (by simpa using hd), h2]; rfl, fun i y hi hy => ?_, fun i y hi hy => ?_⟩
      · cases i with
        | zero => simp at hy; subst hy; exact hd
        | succ i => exact h3 i y (by omega) (by simpa using hy)
      · cases i with
        | zero => omega
        | succ i => exact h4 i y (by omega) (by simpa using hy)
    · refine ⟨0, Nat.zero_le _, ?_, fun i y hi => absurd hi (by omega), fun i y _ hy => ?_⟩
      · rw [List.take_zero, List.filter_eq_nil_iff]
        intro y hy
        rcases List.mem_cons.1 hy with rfl | hy
        · simpa using hd
        · have := hx y hy; simp; omega
      · rcases List.mem_cons.1 (List.mem_of_getElem? hy) with rfl | hy
        · omega
        · have := hx y hy; omega
theorem oldDebts_form {xs : List Debt} (h : DebtsOk xs) (day : Int) :
    ∃ k, k ≤ xs.length ∧ oldDebts xs day = xs.take k ∧ (∀ i x, i < k → xs[i]? = some x → x.d < day) ∧ (∀ i x, k ≤ i → xs[i]? = some x → day ≤ x.d) := by
  obtain ⟨k, h1, h2, h3⟩ := old_form h.2 day
  exact ⟨k, h1, by unfold oldDebts; rw [(validDebts_iff xs).2 h, if_pos rfl]; exact h2, h3⟩
theorem oldDebts_more (xs : List Debt) {a b : Int} (hab : a ≤ b) : ∃ k, k = (oldDebts xs a).length ∧ k ≤ (oldDebts xs b).length ∧ (oldDebts xs b).take k = oldDebts xs a := by
  by_cases hv : validDebts xs = true
  · have h := (validDebts_iff xs).1 hv
    obtain ⟨i, h1, h2, h3, h4⟩ := oldDebts_form h a
    obtain ⟨j, g1, g2, g3, g4⟩ := oldDebts_form h b
    have hij : i ≤ j := by
      rcases Nat.lt_or_ge j i with hlt | hge
      · exfalso
        have hx : xs[j]? = some xs[j] := List.getElem?_eq_getElem (by omega)
        have := h3 j _ hlt hx
        have := g4 j _ (Nat.le_refl _) hx
        omega
      · exact hge
    refine ⟨i, by rw [h2, List.length_take]; omega, by rw [g2, List.length_take]; omega, ?_⟩
    rw [g2, h2, List.take_take, Nat.min_eq_left hij]
  · have e : ∀ d, oldDebts xs d = [] := fun d => if_neg hv
    exact ⟨0, by rw [e]; rfl, Nat.zero_le _, by rw [e, e]; rfl⟩
theorem debtOf_halves {xs : List Debt} (h : DebtsOk xs) (k : Nat) : validDebts (xs.take k) = true ∧ validDebts (xs.drop k) = true ∧ debtSum (xs.take k) + debtSum (xs.drop k) = debtSum xs ∧ 0 ≤ debtSum xs ∧ debtSum xs ≤ 2900000 ∧ 0 ≤ debtSum (xs.drop k) ∧ 0 ≤ debtSum (xs.take k) := by
  have h1 := h.sub (List.take_sublist k xs)
  have h2 := h.sub (List.drop_sublist k xs)
  have e := debtSum_append (xs.take k) (xs.drop k)
  rw [List.take_append_drop] at e
  have h3 := debtSum_in h
  have h4 := h.length
  exact ⟨(validDebts_iff _).2 h1, (validDebts_iff _).2 h2, e.symm, h3.1, by omega, (debtSum_in h2).1, (debtSum_in h1).1⟩
theorem validDebts_less {xs : List Debt} (h : validDebts xs = true) (k : Nat) : validDebts (xs.take k ++ xs.drop (k + 1)) = true := by
  refine (validDebts_iff _).2 (((validDebts_iff xs).1 h).sub ?_)
  have : xs = xs.take k ++ xs.drop k := (List.take_append_drop k xs).symm
  conv => rhs; rw [this]
  exact (List.Sublist.refl _).append (by rw [← List.drop_drop]; exact List.drop_sublist _ _)
end Go.Proofs.Ytpdddadplagcpaa.Fares
