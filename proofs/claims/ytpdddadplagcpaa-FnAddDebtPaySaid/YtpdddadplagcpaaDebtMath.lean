/-
  Chapter 16: debts; as plain functions on lists.
-/
import Derived.Test.YtpdddadplagcpaaTypes
import Derived.Test.YtpdddadplagcpaaSumMath
set_option linter.unusedSimpArgs false
set_option linter.unusedVariables false
namespace Go.Proofs.Ytpdddadplagcpaa.Fares
def debtOk (c : Debt) : Bool := decide (0 ≤ c.d ∧ c.d ≤ 28 ∧ 1 ≤ c.a ∧ c.a ≤ 100000)
/-- The day of the debt before place k. -/
def lastDay (xs : List Debt) : Nat → Int
  | 0 => -1
  | m + 1 => match xs[m]? with | some p => p.d | none => -1
def debtOkAt (xs : List Debt) (k : Nat) : Bool :=
  match xs[k]? with
  | some c => debtOk c && decide (lastDay xs k < c.d)
  | none => true
def validDebts (xs : List Debt) : Bool := (List.range xs.length).all (debtOkAt xs)
theorem debtOkAt_of {xs : List Debt} {k : Nat} {c : Debt} (h : xs[k]? = some c) : debtOkAt xs k = (debtOk c && decide (lastDay xs k < c.d)) := by
  unfold debtOkAt; rw [h]
theorem lastDay_succ {xs : List Debt} {k : Nat} {c : Debt} (h : xs[k]? = some c) : lastDay xs (k + 1) = c.d := by
  simp only [lastDay, h]
theorem range_false {n : Nat} {p : Nat → Bool} {k : Nat} (hk : k < n) (h : p k = false) : (List.range n).all p = false := by
  rw [List.all_eq_false]
  exact ⟨k, by simpa using hk, by rw [h]; simp⟩
theorem range_true {n : Nat} {p : Nat → Bool} (h : ∀ k, k < n → p k = true) : (List.range n).all p = true := by
  rw [List.all_eq_true]
  exact fun k hk => h k (by simpa using hk)
/-- Debts are valid: days ascend, each debt is good. -/
def DebtsOk (xs : List Debt) : Prop := (∀ c ∈ xs, 0 ≤ c.d ∧ c.d ≤ 28 ∧ 1 ≤ c.a ∧ c.a ≤ 100000) ∧ xs.Pairwise (fun x y => x.d < y.d)
theorem pairwise_of_steps {xs : List Debt} (h : ∀ k x y, xs[k]? = some x → xs[k + 1]? = some y → x.d < y.d) : xs.Pairwise (fun x y => x.d < y.d) := by
  induction xs with
  | nil => exact List.Pairwise.nil
  | cons x xs ih =>
    have ih' := ih (fun k a b ha hb => h (k + 1) a b (by simpa using ha) (by simpa using hb))
    refine List.pairwise_cons.2 ⟨fun y hy => ?_, ih'⟩
    cases xs with
    | nil => cases hy
    | cons z zs =>
      have hz := h 0 x z rfl rfl
      rcases List.mem_cons.1 hy with rfl | hy
      · exact hz
      · have := (List.pairwise_cons.1 ih').1 y hy; omega
theorem validDebts_iff (xs : List Debt) : validDebts xs = true ↔ DebtsOk xs := by
  unfold validDebts
  rw [List.all_eq_true]
  constructor
  · intro h
    have hk : ∀ k c, xs[k]? = some c → debtOk c = true ∧ lastDay xs k < c.d := fun k c hc => by
      have := h k (by simpa using (List.getElem?_eq_some_iff.1 hc).1)
      rw [debtOkAt_of hc] at this
      simpa using this
    refine ⟨fun c hc => ?_, pairwise_of_steps fun k x y hx hy => ?_⟩
    · obtain ⟨k, hk', e⟩ := List.mem_iff_getElem.1 hc
      have := (hk k c (by rw [List.getElem?_eq_getElem hk', e])).1
      unfold debtOk at this
      simpa using this
    · have := (hk (k + 1) y hy).2
      rwa [lastDay_succ hx] at this
  · rintro ⟨h1, h2⟩ k hk
    have hk' : k < xs.length := by simpa using hk
    have hc := List.getElem?_eq_getElem hk'
    rw [debtOkAt_of hc]
    have ho := h1 _ (List.getElem_mem hk')
    simp only [Bool.and_eq_true, decide_eq_true_eq]
    refine ⟨by unfold debtOk; exact decide_eq_true ho, ?_⟩
    cases k with
    | zero => simp only [lastDay]; omega
    | succ k =>
      rw [lastDay_succ (List.getElem?_eq_getElem (by omega))]
      exact List.pairwise_iff_getElem.1 h2 k (k + 1) (by omega) hk' (by omega)
theorem DebtsOk.length {xs : List Debt} (h : DebtsOk xs) : xs.length ≤ 29 := by
  have key : ∀ (ys : List Debt) (lo : Int), ys.Pairwise (fun x y => x.d < y.d) → (∀ c ∈ ys, lo ≤ c.d ∧ c.d ≤ 28) → lo ≤ 29 → (ys.length : Int) ≤ 29 - lo := by
    intro ys
    induction ys with
    | nil => intro lo _ _ h; simp; omega
    | cons y ys ih =>
      intro lo hp hb _
      have hy := hb y (by simp)
      have := ih (y.d + 1) (List.pairwise_cons.1 hp).2 (fun c hc => ⟨by have := (List.pairwise_cons.1 hp).1 c hc; omega, (hb c (by simp [hc])).2⟩) (by omega)
      simp only [List.length_cons]
      omega
  have := key xs 0 h.2 (fun c hc => ⟨(h.1 c hc).1, (h.1 c hc).2.1⟩) (by omega)
  omega
theorem DebtsOk.tail {x : Debt} {xs : List Debt} (h : DebtsOk (x :: xs)) : DebtsOk xs := ⟨fun c hc => h.1 c (by simp [hc]), (List.pairwise_cons.1 h.2).2⟩
theorem DebtsOk.sub {xs ys : List Debt} (h : DebtsOk xs) (hs : ys.Sublist xs) : DebtsOk ys := ⟨fun c hc => h.1 c (hs.subset hc), h.2.sublist hs⟩
def debtSum : List Debt → Int
  | [] => 0
  | c :: r => c.a + debtSum r
theorem debtSum_append (xs ys : List Debt) : debtSum (xs ++ ys) = debtSum xs + debtSum ys := by
  induction xs with
  | nil => simp [debtSum]
  | cons x xs ih => simp [debtSum, ih]; omega
theorem debtSum_next {xs : List Debt} {k : Nat} {x : Debt} (h : xs[k]? = some x) : debtSum (xs.take (k + 1)) = debtSum (xs.take k) + x.a := by
  rw [List.take_add_one, h, debtSum_append]; simp [debtSum]
theorem debtSum_in {xs : List Debt} (h : DebtsOk xs) : 0 ≤ debtSum xs ∧ debtSum xs ≤ 100000 * xs.length := by
  induction xs with
  | nil => simp [debtSum]
  | cons x xs ih =>
    have := ih h.tail
    have := h.1 x (by simp)
    simp only [debtSum, List.length_cons]
    omega
theorem debtSum_take {xs : List Debt} (h : DebtsOk xs) (k : Nat) : 0 ≤ debtSum (xs.take k) ∧ debtSum (xs.take k) ≤ 2900000 := by
  have h1 := debtSum_in (h.sub (List.take_sublist k xs))
  have h2 := (h.sub (List.take_sublist k xs)).length
  omega
def debtOf (xs : List Debt) : Int := if validDebts xs then debtSum xs else -1
def payRun : List Debt → Int → List Debt × Int
  | [], m => ([], m)
  | x :: xs, m => if x.a ≤ m then payRun xs (m - x.a) else (⟨x.d, x.a - m⟩ :: (payRun xs 0).1, (payRun xs 0).2)
theorem payRun_zero {xs : List Debt} (h : ∀ c ∈ xs, 1 ≤ c.a) : payRun xs 0 = (xs, 0) := by
  induction xs with
  | nil => rfl
  | cons x xs ih =>
    have hx := h x (by simp)
    simp only [payRun]
    rw [if_neg (by omega), ih (fun c hc => h c (by simp [hc]))]
    simp
def payDebts (xs : List Debt) (m : Int) : List Debt × Int := if validDebts xs = true ∧ 0 ≤ m then payRun xs m else ([], -1)
def oldDebts (xs : List Debt) (day : Int) : List Debt := if validDebts xs then xs.filter (fun x => decide (x.d < day)) else []
theorem old_take {xs : List Debt} (h : xs.Pairwise (fun x y => x.d < y.d)) {day : Int} {k : Nat} (hk : k ≤ xs.length) (h1 : ∀ i x, i < k → xs[i]? = some x → x.d < day) (h2 : ∀ i x, k ≤ i → xs[i]? = some x → day ≤ x.d) : xs.filter (fun x => decide (x.d < day)) = xs.take k := by
  conv => lhs; rw [← List.take_append_drop k xs]
  rw [List.filter_append]
  have e1 : (xs.take k).filter (fun x => decide (x.d < day)) = xs.take k := by
    rw [List.filter_eq_self]
    intro x hx
    obtain ⟨i, hi, e⟩ := List.mem_iff_getElem.1 hx
    rw [List.length_take] at hi
    rw [List.getElem_take] at e
    exact decide_eq_true (h1 i x (by omega) (by rw [List.getElem?_eq_getElem (by omega), e]))
  have e2 : (xs.drop k).filter (fun x => decide (x.d < day)) = [] := by
    rw [List.filter_eq_nil_iff]
    intro x hx
    obtain ⟨i, hi, e⟩ := List.mem_iff_getElem.1 hx
    rw [List.getElem_drop] at e
    have := h2 (k + i) x (by omega) (by rw [List.getElem?_eq_getElem (by rw [List.length_drop] at hi; omega), e])
    simp; omega
  rw [e1, e2, List.append_nil]
theorem oldDebts_length (xs : List Debt) (day : Int) : (oldDebts xs day).length ≤ xs.length := by
  unfold oldDebts
  split
  · exact List.length_filter_le _ _
  · simp
theorem payRun_length : ∀ (xs : List Debt) (m : Int), (payRun xs m).1.length ≤ xs.length
  | [], _ => by simp [payRun]
  | x :: xs, m => by
    simp only [payRun]
    split
    · have := payRun_length xs (m - x.a); simp; omega
    · have := payRun_length xs 0; simp; omega
theorem payDebts_length (xs : List Debt) (m : Int) : (payDebts xs m).1.length ≤ xs.length := by
  unfold payDebts
  split
  · exact payRun_length xs m
  · simp
end Go.Proofs.Ytpdddadplagcpaa.Fares
