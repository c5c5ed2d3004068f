/-
  Chapter 6: charges with caps; as plain functions on lists.
-/
import Derived.Test.YtnahdclmfegmeaaTypes
import Derived.Test.YtnahdclmfegmeaaSumMath
namespace Go.Proofs.Ytnahdclmfegmeaa.Fares
def chargeOk (c : Charge) : Bool := decide (0 ≤ c.d ∧ c.d ≤ 28 ∧ 0 ≤ c.a ∧ c.a ≤ 4000)
/-- The day of the charge before place k. -/
def dayBefore (xs : List Charge) : Nat → Int
  | 0 => 0
  | m + 1 => match xs[m]? with | some p => p.d | none => 0
def chargeOkAt (xs : List Charge) (k : Nat) : Bool :=
  match xs[k]? with
  | some c => chargeOk c && decide (dayBefore xs k ≤ c.d)
  | none => true
def validCharges (xs : List Charge) : Bool := decide (xs.length ≤ 24) && (List.range xs.length).all (chargeOkAt xs)
def capOk (n : Int) : Bool := decide (0 ≤ n ∧ n ≤ 50000)
/-- What is paid by the charges that p holds of. -/
def paidBy (p : Charge → Bool) : List Charge → List Int → Int
  | c :: xs, o :: out => (if p c then o else 0) + paidBy p xs out
  | _, _ => 0
def inSpan (d s : Int) (c : Charge) : Bool := decide (c.d / s = d / s)
def capPay (xs : List Charge) (out : List Int) (day week : Int) (c : Charge) : Int :=
  max 0 (min c.a (min (day - paidBy (inSpan c.d 1) xs out) (week - paidBy (inSpan c.d 7) xs out)))
/-- What the first k charges pay. -/
def capRun (xs : List Charge) (day week : Int) : Nat → List Int
  | 0 => []
  | k + 1 => match xs[k]? with
    | some c => capRun xs day week k ++ [capPay xs (capRun xs day week k) day week c]
    | none => capRun xs day week k
def capCharges (xs : List Charge) (day week : Int) : List Int := if validCharges xs && capOk day && capOk week then capRun xs day week xs.length else []
def amountSum : List Charge → Int
  | [] => 0
  | c :: r => c.a + amountSum r
def dayTotal (i : Nat) : List Charge → Int
  | [] => 0
  | c :: r => (if c.d = (i : Int) then c.a else 0) + dayTotal i r
def totals (xs : List Charge) : List Int := (List.range 29).map fun i => dayTotal i xs
def dayTotals (xs : List Charge) : List Int := if validCharges xs then totals xs else []
def savedBy (xs : List Charge) (day week : Int) : Int := if validCharges xs && capOk day && capOk week then amountSum xs - sumI (capRun xs day week xs.length) else -1

theorem chargeOkAt_of {xs : List Charge} {k : Nat} {c : Charge} (h : xs[k]? = some c) : chargeOkAt xs k = (chargeOk c && decide (dayBefore xs k ≤ c.d)) := by
  unfold chargeOkAt; rw [h]
theorem dayBefore_succ {xs : List Charge} {k : Nat} {c : Charge} (h : xs[k]? = some c) : dayBefore xs (k + 1) = c.d := by
  simp only [dayBefore, h]
theorem length_of_validCharges {xs : List Charge} (hv : validCharges xs = true) : xs.length ≤ 24 := by
  unfold validCharges at hv
  simp only [Bool.and_eq_true, decide_eq_true_eq] at hv
  exact hv.1
theorem chargeOk_of {xs : List Charge} {k : Nat} {c : Charge} (hv : validCharges xs = true) (h : xs[k]? = some c) : 0 ≤ c.d ∧ c.d ≤ 28 ∧ 0 ≤ c.a ∧ c.a ≤ 4000 := by
  unfold validCharges at hv
  simp only [Bool.and_eq_true, List.all_eq_true, List.mem_range] at hv
  have hl : k < xs.length := (List.getElem?_eq_some_iff.1 h).1
  have := hv.2 k hl
  rw [chargeOkAt_of h] at this
  simp only [Bool.and_eq_true] at this
  have h1 := this.1
  unfold chargeOk at h1
  simpa using h1
theorem chargeOk_mem {xs : List Charge} (hv : validCharges xs = true) : ∀ c ∈ xs, 0 ≤ c.d ∧ c.d ≤ 28 ∧ 0 ≤ c.a ∧ c.a ≤ 4000 := fun c h => by
  obtain ⟨i, hi⟩ := List.getElem?_of_mem h
  exact chargeOk_of hv hi
theorem validCharges_take {xs : List Charge} (k : Nat) (hv : validCharges xs = true) : validCharges (xs.take k) = true := by
  unfold validCharges at hv ⊢
  simp only [Bool.and_eq_true, List.all_eq_true, List.mem_range, decide_eq_true_eq] at hv ⊢
  refine ⟨by have := List.length_take_le k xs; simp only [List.length_take]; omega, fun i hi => ?_⟩
  rw [List.length_take] at hi
  have h1 : i < k := by omega
  have h2 : i < xs.length := by omega
  have := hv.2 i h2
  have hget : ∀ j, j < k → (xs.take k)[j]? = xs[j]? := fun j hj => by rw [List.getElem?_take, if_pos hj]
  have hdb : dayBefore (xs.take k) i = dayBefore xs i := by
    cases i with
    | zero => rfl
    | succ m => simp only [dayBefore]; rw [hget m (by omega)]
  unfold chargeOkAt at this ⊢
  rw [hget i h1, hdb]
  exact this

theorem paidBy_nil (p : Charge → Bool) (xs : List Charge) : paidBy p xs [] = 0 := by cases xs <;> rfl
theorem paidBy_take (p : Charge → Bool) : ∀ (xs : List Charge) (out : List Int), paidBy p (xs.take out.length) out = paidBy p xs out
  | [], [] => rfl
  | [], _ :: _ => rfl
  | _ :: _, [] => rfl
  | c :: xs, o :: out => by simp only [List.length_cons, List.take_succ_cons, paidBy, paidBy_take p xs out]
theorem paidBy_snoc (p : Charge → Bool) : ∀ (xs : List Charge) (out : List Int) (c : Charge) (o : Int), xs[out.length]? = some c → paidBy p xs (out ++ [o]) = paidBy p xs out + (if p c then o else 0)
  | [], _, _, _, h => by simp at h
  | x :: xs, [], c, o, h => by
    simp at h
    subst h
    simp [paidBy, paidBy_nil]
  | x :: xs, y :: out, c, o, h => by
    have h' : xs[out.length]? = some c := by simpa using h
    simp only [List.cons_append, paidBy, paidBy_snoc p xs out c o h']
    omega
theorem paidBy_next (p : Charge → Bool) (xs : List Charge) (out : List Int) (k : Nat) (c : Charge) (o : Int) (hx : xs[k]? = some c) (ho : out[k]? = some o) :
    paidBy p xs (out.take (k + 1)) = paidBy p xs (out.take k) + (if p c then o else 0) := by
  have hk : k < out.length := (List.getElem?_eq_some_iff.1 ho).1
  rw [List.take_add_one, ho]
  refine paidBy_snoc p xs _ c o ?_
  rw [List.length_take, Nat.min_eq_left (by omega)]
  exact hx
theorem paidBy_bounds (p : Charge → Bool) (M : Int) : ∀ (xs : List Charge) (out : List Int), (∀ o ∈ out, 0 ≤ o ∧ o ≤ M) → 0 ≤ paidBy p xs out ∧ paidBy p xs out ≤ M * out.length
  | [], [], _ => by simp [paidBy]
  | [], y :: ys, h => by
    have hy := h y (List.mem_cons_self ..)
    have hM : 0 ≤ M := by omega
    refine ⟨Int.le_refl 0, ?_⟩
    show (0 : Int) ≤ M * ((y :: ys).length : Int)
    exact Int.mul_nonneg hM (by omega)
  | _ :: _, [], _ => by simp [paidBy]
  | x :: xs, y :: out, h => by
    have hy := h y (List.mem_cons_self ..)
    have ih := paidBy_bounds p M xs out (fun o ho => h o (List.mem_cons_of_mem _ ho))
    have e : M * (((y :: out).length : Nat) : Int) = M * (out.length : Int) + M := by
      rw [List.length_cons, show ((out.length + 1 : Nat) : Int) = (out.length : Int) + 1 by omega, Int.mul_add, Int.mul_one]
    rw [e]
    simp only [paidBy]
    split <;> omega

theorem capRun_succ {xs : List Charge} {day week : Int} {k : Nat} {c : Charge} (h : xs[k]? = some c) : capRun xs day week (k + 1) = capRun xs day week k ++ [capPay xs (capRun xs day week k) day week c] := by
  simp only [capRun, h]
theorem capRun_length (xs : List Charge) (day week : Int) : ∀ k, k ≤ xs.length → (capRun xs day week k).length = k
  | 0, _ => rfl
  | k + 1, h => by
    rw [capRun_succ (List.getElem?_eq_getElem (show k < xs.length by omega)), List.length_append, capRun_length xs day week k (by omega)]
    rfl
theorem capPay_bounds (xs : List Charge) (out : List Int) (day week : Int) (c : Charge) (h : 0 ≤ c.a) : 0 ≤ capPay xs out day week c ∧ capPay xs out day week c ≤ c.a := by
  unfold capPay
  omega
theorem capRun_bounds {xs : List Charge} (day week : Int) (hc : ∀ c ∈ xs, 0 ≤ c.a ∧ c.a ≤ 4000) : ∀ k, ∀ o ∈ capRun xs day week k, 0 ≤ o ∧ o ≤ 4000
  | 0 => fun o h => by cases h
  | k + 1 => fun o h => by
    by_cases hk : k < xs.length
    · rw [capRun_succ (List.getElem?_eq_getElem hk)] at h
      rcases List.mem_append.1 h with h | h
      · exact capRun_bounds day week hc k o h
      · simp only [List.mem_singleton] at h
        subst h
        have h1 := hc _ (List.getElem_mem hk)
        have := capPay_bounds xs (capRun xs day week k) day week xs[k] h1.1
        omega
    · have e : xs[k]? = none := List.getElem?_eq_none (by omega)
      simp only [capRun, e] at h
      exact capRun_bounds day week hc k o h
theorem capRun_take (xs : List Charge) (day week : Int) : ∀ j k, j + k ≤ xs.length → (capRun xs day week (j + k)).take j = capRun xs day week j
  | j, 0, h => by
    rw [Nat.add_zero]
    exact List.take_of_length_le (by rw [capRun_length xs day week j (by omega)]; exact Nat.le_refl _)
  | j, k + 1, h => by
    rw [← Nat.add_assoc, capRun_succ (List.getElem?_eq_getElem (show j + k < xs.length by omega)), List.take_append_of_le_length (by rw [capRun_length xs day week (j + k) (by omega)]; omega)]
    exact capRun_take xs day week j k (by omega)
theorem capRun_get {xs : List Charge} (day week : Int) {k : Nat} {c : Charge} (h : xs[k]? = some c) : (capRun xs day week xs.length)[k]? = some (capPay xs (capRun xs day week k) day week c) := by
  have hk : k < xs.length := (List.getElem?_eq_some_iff.1 h).1
  have ht := capRun_take xs day week (k + 1) (xs.length - (k + 1)) (by omega)
  rw [show k + 1 + (xs.length - (k + 1)) = xs.length by omega, capRun_succ h] at ht
  have h1 : ((capRun xs day week xs.length).take (k + 1))[k]? = (capRun xs day week xs.length)[k]? := by rw [List.getElem?_take, if_pos (by omega)]
  rw [← h1, ht, List.getElem?_append_right (by rw [capRun_length xs day week k (by omega)]; exact Nat.le_refl _), capRun_length xs day week k (by omega), Nat.sub_self]
  rfl
/-- What the charges behind the first n are doesn't matter. -/
theorem capRun_prefix (xs : List Charge) (day week : Int) (n : Nat) : ∀ k, k ≤ n → capRun (xs.take n) day week k = capRun xs day week k
  | 0, _ => rfl
  | k + 1, h => by
    have e : (xs.take n)[k]? = xs[k]? := by rw [List.getElem?_take, if_pos (by omega)]
    have ih := capRun_prefix xs day week n k (by omega)
    by_cases hk : k < xs.length
    · have hx : xs[k]? = some xs[k] := List.getElem?_eq_getElem hk
      rw [capRun_succ hx, capRun_succ (e.trans hx), ih]
      have hp : ∀ p, paidBy p (xs.take n) (capRun xs day week k) = paidBy p xs (capRun xs day week k) := fun p => by
        rw [← paidBy_take p (xs.take n), ← paidBy_take p xs, capRun_length xs day week k (by omega), List.take_take, Nat.min_eq_left (by omega)]
      unfold capPay
      rw [hp, hp]
    · have hx : xs[k]? = none := List.getElem?_eq_none (by omega)
      simp only [capRun, e, hx, ih]

theorem sumI_bounds (M : Int) : ∀ xs : List Int, (∀ x ∈ xs, 0 ≤ x ∧ x ≤ M) → 0 ≤ sumI xs ∧ sumI xs ≤ M * xs.length
  | [], _ => by simp [sumI]
  | x :: xs, h => by
    have hx := h x (List.mem_cons_self ..)
    have ih := sumI_bounds M xs (fun o ho => h o (List.mem_cons_of_mem _ ho))
    have e : M * (((x :: xs).length : Nat) : Int) = M * (xs.length : Int) + M := by
      rw [List.length_cons, show ((xs.length + 1 : Nat) : Int) = (xs.length : Int) + 1 by omega, Int.mul_add, Int.mul_one]
    rw [e]
    simp only [sumI]
    omega
theorem amountSum_append (xs ys : List Charge) : amountSum (xs ++ ys) = amountSum xs + amountSum ys := by
  induction xs with
  | nil => simp [amountSum]
  | cons x r ih => simp [amountSum, ih]; omega
theorem amountSum_next {xs : List Charge} {k : Nat} {x : Charge} (h : xs[k]? = some x) : amountSum (xs.take (k + 1)) = amountSum (xs.take k) + x.a := by
  rw [List.take_add_one, h, amountSum_append]; simp [amountSum]
theorem amountSum_bounds : ∀ xs : List Charge, (∀ c ∈ xs, 0 ≤ c.a ∧ c.a ≤ 4000) → 0 ≤ amountSum xs ∧ amountSum xs ≤ 4000 * xs.length
  | [], _ => by simp [amountSum]
  | x :: xs, h => by
    have hx := h x (List.mem_cons_self ..)
    have ih := amountSum_bounds xs (fun o ho => h o (List.mem_cons_of_mem _ ho))
    simp only [amountSum, List.length_cons]
    omega
theorem dayTotal_append (i : Nat) (xs ys : List Charge) : dayTotal i (xs ++ ys) = dayTotal i xs + dayTotal i ys := by
  induction xs with
  | nil => simp [dayTotal]
  | cons x r ih => simp [dayTotal, ih]; omega
theorem dayTotal_next {xs : List Charge} {k : Nat} {x : Charge} (i : Nat) (h : xs[k]? = some x) : dayTotal i (xs.take (k + 1)) = dayTotal i (xs.take k) + (if x.d = (i : Int) then x.a else 0) := by
  rw [List.take_add_one, h, dayTotal_append]; simp [dayTotal]
theorem dayTotal_bounds (i : Nat) : ∀ xs : List Charge, (∀ c ∈ xs, 0 ≤ c.a ∧ c.a ≤ 4000) → 0 ≤ dayTotal i xs ∧ dayTotal i xs ≤ 4000 * xs.length
  | [], _ => by simp [dayTotal]
  | x :: xs, h => by
    have hx := h x (List.mem_cons_self ..)
    have ih := dayTotal_bounds i xs (fun o ho => h o (List.mem_cons_of_mem _ ho))
    simp only [dayTotal, List.length_cons]
    split <;> omega
theorem totals_length (xs : List Charge) : (totals xs).length = 29 := by simp [totals]
theorem totals_get (xs : List Charge) {i : Nat} (h : i < 29) : (totals xs)[i]? = some (dayTotal i xs) := by
  simp [totals, h]
theorem totals_next {xs : List Charge} {k : Nat} {x : Charge} {d : Nat} (h : xs[k]? = some x) (hd : x.d = (d : Int)) (hd2 : d < 29) :
    totals (xs.take (k + 1)) = (totals (xs.take k)).set d (dayTotal d (xs.take k) + x.a) := by
  apply List.ext_getElem?
  intro i
  by_cases hi : i < 29
  · rw [totals_get _ hi, List.getElem?_set]
    by_cases e : d = i
    · subst e
      rw [if_pos rfl, if_pos (by rw [totals_length]; exact hi), dayTotal_next d h, if_pos hd]
    · rw [if_neg e, totals_get _ hi, dayTotal_next i h, if_neg (by omega), Int.add_zero]
  · rw [List.getElem?_eq_none (by rw [totals_length]; omega), List.getElem?_eq_none (by rw [List.length_set, totals_length]; omega)]

/-! Sums over days and weeks. -/
def sumR : Nat → (Nat → Int) → Int
  | 0, _ => 0
  | n + 1, f => sumR n f + f n
theorem sumR_congr {f g : Nat → Int} : ∀ n, (∀ i, i < n → f i = g i) → sumR n f = sumR n g
  | 0, _ => rfl
  | n + 1, h => by simp only [sumR]; rw [sumR_congr n (fun i hi => h i (by omega)), h n (by omega)]
theorem sumR_zero {f : Nat → Int} : ∀ n, (∀ i, i < n → f i = 0) → sumR n f = 0
  | 0, _ => rfl
  | n + 1, h => by simp only [sumR]; rw [sumR_zero n (fun i hi => h i (by omega)), h n (by omega)]; rfl
theorem sumR_le {f g : Nat → Int} : ∀ n, (∀ i, i < n → f i ≤ g i) → sumR n f ≤ sumR n g
  | 0, _ => Int.le_refl _
  | n + 1, h => by
    have := sumR_le n (fun i hi => h i (by omega))
    have := h n (by omega)
    simp only [sumR]; omega
theorem sumR_nonneg {f : Nat → Int} : ∀ n, (∀ i, i < n → 0 ≤ f i) → 0 ≤ sumR n f
  | 0, _ => Int.le_refl _
  | n + 1, h => by
    have := sumR_nonneg n (fun i hi => h i (by omega))
    have := h n (by omega)
    simp only [sumR]; omega
theorem sumR_at {f g : Nat → Int} {d : Nat} {x : Int} : ∀ n, d < n → (∀ i, i < n → i ≠ d → f i = g i) → f d = g d + x → sumR n f = sumR n g + x
  | 0, h, _, _ => by omega
  | n + 1, h, h1, h2 => by
    simp only [sumR]
    by_cases e : d = n
    · subst e
      rw [sumR_congr d (fun i hi => h1 i (by omega) (by omega)), h2]; omega
    · rw [sumR_at n (by omega) (fun i hi hne => h1 i (by omega) hne) h2, h1 n (by omega) (by omega)]; omega
theorem sumR_eq {f g : Nat → Int} : ∀ n, (∀ i, i < n → f i ≤ g i) → sumR n f = sumR n g → ∀ i, i < n → f i = g i
  | 0, _, _, i, h => by omega
  | n + 1, h, e, i, hi => by
    have h1 := sumR_le n (fun j hj => h j (by omega))
    have h2 := h n (by omega)
    simp only [sumR] at e
    by_cases hin : i = n
    · subst hin; omega
    · exact sumR_eq n (fun j hj => h j (by omega)) (by omega) i (by omega)
/-- The part of week w among the first n days. -/
def weekPart (n : Nat) (f : Nat → Int) (w : Nat) : Int := sumR n (fun i => if i / 7 = w then f i else 0)
theorem weekPart_succ (n : Nat) (f : Nat → Int) (w : Nat) : weekPart (n + 1) f w = weekPart n f w + (if n / 7 = w then f n else 0) := rfl
theorem weekPart_congr {f g : Nat → Int} {w : Nat} (h : ∀ i, i < 29 → i / 7 = w → f i = g i) : weekPart 29 f w = weekPart 29 g w :=
  sumR_congr 29 (fun i hi => by
    by_cases e : i / 7 = w
    · simp only [if_pos e]; exact h i hi e
    · simp only [if_neg e])
theorem weekPart_le {f g : Nat → Int} {w : Nat} (h : ∀ i, i < 29 → f i ≤ g i) : weekPart 29 f w ≤ weekPart 29 g w :=
  sumR_le 29 (fun i hi => by
    by_cases e : i / 7 = w
    · simp only [if_pos e]; exact h i hi
    · simp only [if_neg e]; exact Int.le_refl 0)
theorem weekPart_zero {f : Nat → Int} {w : Nat} (h : ∀ i, i < 29 → f i = 0) : weekPart 29 f w = 0 :=
  sumR_zero 29 (fun i hi => by
    by_cases e : i / 7 = w
    · simp only [if_pos e]; exact h i hi
    · simp only [if_neg e])
theorem weekPart_at {f g : Nat → Int} {d w : Nat} {x : Int} (hd : d < 29) (h1 : ∀ i, i < 29 → i ≠ d → f i = g i) (h2 : f d = g d + x) : weekPart 29 f w = weekPart 29 g w + (if d / 7 = w then x else 0) := by
  refine sumR_at (d := d) 29 hd (fun i hi hne => ?_) ?_
  · simp only [h1 i hi hne]
  · simp only [h2]
    split <;> omega
theorem sumI_eq_sumR : ∀ (xs : List Int), sumI xs = sumR xs.length (fun i => xs.getD i 0) := by
  intro xs
  have h : ∀ k, k ≤ xs.length → sumI (xs.take k) = sumR k (fun i => xs.getD i 0) := by
    intro k
    induction k with
    | zero => intro _; simp [sumI, sumR]
    | succ k ih =>
      intro hk
      have hx : xs[k]? = some xs[k] := List.getElem?_eq_getElem (by omega)
      rw [sumI_next hx, ih (by omega)]
      simp only [sumR]
      rw [List.getD_eq_getElem?_getD, hx]
      rfl
  have := h xs.length (Nat.le_refl _)
  rwa [List.take_length] at this
theorem sumI_totals (xs : List Charge) : sumI (totals xs) = sumR 29 (fun i => dayTotal i xs) := by
  rw [sumI_eq_sumR, totals_length]
  exact sumR_congr 29 (fun i hi => by rw [List.getD_eq_getElem?_getD, totals_get xs hi]; rfl)
theorem sumR_totals : ∀ xs : List Charge, (∀ c ∈ xs, 0 ≤ c.d ∧ c.d ≤ 28) → sumR 29 (fun i => dayTotal i xs) = amountSum xs
  | [], _ => sumR_zero 29 (fun _ _ => rfl)
  | c :: r, h => by
    have hc := h c (List.mem_cons_self ..)
    have ih := sumR_totals r (fun x hx => h x (List.mem_cons_of_mem _ hx))
    rw [sumR_at (g := fun i => dayTotal i r) (d := c.d.toNat) (x := c.a) 29 (by omega) (fun i hi hne => by simp only [dayTotal]; rw [if_neg (by omega)]; omega) (by simp only [dayTotal]; rw [if_pos (by omega)]; omega), ih]
    simp only [amountSum]; omega

/-- What is paid for day i. -/
def paidDay (xs : List Charge) (out : List Int) (i : Nat) : Int := paidBy (inSpan (i : Int) 1) xs out
theorem paidDay_snoc {xs : List Charge} {out : List Int} {c : Charge} {o : Int} (h : xs[out.length]? = some c) (hc : 0 ≤ c.d) (i : Nat) : paidDay xs (out ++ [o]) i = paidDay xs out i + (if c.d.toNat = i then o else 0) := by
  unfold paidDay
  rw [paidBy_snoc _ _ _ _ _ h]
  have e : inSpan (i : Int) 1 c = decide (c.d.toNat = i) := by unfold inSpan; rw [Bool.eq_iff_iff]; simp only [decide_eq_true_eq]; omega
  rw [e]
  simp only [decide_eq_true_eq]
theorem paidDay_zero (xs : List Charge) (i : Nat) : paidDay xs [] i = 0 := paidBy_nil _ _
theorem paid_day (xs : List Charge) (out : List Int) (d : Int) (h : 0 ≤ d) : paidBy (inSpan d 1) xs out = paidDay xs out d.toNat := by
  unfold paidDay
  rw [Int.toNat_of_nonneg h]
/-- What is paid for a week is what is paid for its days. -/
theorem paid_week (day week : Int) (xs : List Charge) (hd : ∀ c ∈ xs, 0 ≤ c.d ∧ c.d ≤ 28) (d : Int) (h0 : 0 ≤ d) : ∀ k, k ≤ xs.length → paidBy (inSpan d 7) xs (capRun xs day week k) = weekPart 29 (paidDay xs (capRun xs day week k)) (d.toNat / 7)
  | 0, _ => by
    rw [show capRun xs day week 0 = [] from rfl, paidBy_nil]
    exact (weekPart_zero (fun i _ => paidDay_zero xs i)).symm
  | k + 1, h => by
    have hk : k < xs.length := by omega
    have hx : xs[k]? = some xs[k] := List.getElem?_eq_getElem hk
    have hc := hd _ (List.getElem_mem hk)
    have hl := capRun_length xs day week k (by omega)
    have ih := paid_week day week xs hd d h0 k (by omega)
    generalize xs[k] = c at *
    rw [capRun_succ hx, paidBy_snoc _ _ _ _ _ (by rw [hl]; exact hx), ih]
    generalize capPay xs (capRun xs day week k) day week c = o
    have hsn : ∀ i, paidDay xs (capRun xs day week k ++ [o]) i = paidDay xs (capRun xs day week k) i + (if c.d.toNat = i then o else 0) := paidDay_snoc (by rw [hl]; exact hx) hc.1
    have e : inSpan d 7 c = decide (c.d.toNat / 7 = d.toNat / 7) := by unfold inSpan; rw [Bool.eq_iff_iff]; simp only [decide_eq_true_eq]; omega
    rw [e]
    simp only [decide_eq_true_eq]
    exact (weekPart_at (d := c.d.toNat) (by omega) (fun i hi hne => by rw [hsn, if_neg (fun e => hne e.symm), Int.add_zero]) (by rw [hsn, if_pos rfl])).symm

/-- What days and weeks have paid behind the first k charges. -/
theorem capRun_state (xs : List Charge) (D W : Int) (hD : 0 ≤ D) (hW : 0 ≤ W) (hc : ∀ c ∈ xs, 0 ≤ c.d ∧ c.d ≤ 28 ∧ 0 ≤ c.a ∧ c.a ≤ 4000) : ∀ k, k ≤ xs.length →
    (∀ i, i < 29 → 0 ≤ paidDay xs (capRun xs D W k) i ∧ paidDay xs (capRun xs D W k) i ≤ min D (dayTotal i (xs.take k))) ∧
    (∀ w, weekPart 29 (paidDay xs (capRun xs D W k)) w = min W (weekPart 29 (fun i => min D (dayTotal i (xs.take k))) w))
  | 0, _ => by
    refine ⟨fun i hi => ?_, fun w => ?_⟩
    · rw [show capRun xs D W 0 = [] from rfl, paidDay_zero]
      simp only [List.take_zero, dayTotal]; omega
    · rw [show capRun xs D W 0 = [] from rfl, weekPart_zero (fun i _ => paidDay_zero xs i), weekPart_zero (fun i _ => by simp only [List.take_zero, dayTotal]; omega)]
      omega
  | k + 1, h => by
    have hk : k < xs.length := by omega
    have hx : xs[k]? = some xs[k] := List.getElem?_eq_getElem hk
    obtain ⟨c0, c1, c2, c3⟩ := hc _ (List.getElem_mem hk)
    have hl := capRun_length xs D W k (by omega)
    obtain ⟨ih1, ih2⟩ := capRun_state xs D W hD hW hc k (by omega)
    generalize xs[k] = c at *
    have hd29 : c.d.toNat < 29 := by omega
    have hp1 : paidBy (inSpan c.d 1) xs (capRun xs D W k) = paidDay xs (capRun xs D W k) c.d.toNat := paid_day _ _ _ c0
    have hp7 : paidBy (inSpan c.d 7) xs (capRun xs D W k) = weekPart 29 (paidDay xs (capRun xs D W k)) (c.d.toNat / 7) := paid_week D W xs (fun x hx => ⟨(hc x hx).1, (hc x hx).2.1⟩) c.d c0 k (by omega)
    have hpay : capPay xs (capRun xs D W k) D W c = max 0 (min c.a (min (D - paidDay xs (capRun xs D W k) c.d.toNat) (W - weekPart 29 (paidDay xs (capRun xs D W k)) (c.d.toNat / 7)))) := by
      unfold capPay; rw [hp1, hp7]
    rw [capRun_succ hx]
    generalize capPay xs (capRun xs D W k) D W c = o at *
    have hsn : ∀ i, paidDay xs (capRun xs D W k ++ [o]) i = paidDay xs (capRun xs D W k) i + (if c.d.toNat = i then o else 0) := paidDay_snoc (by rw [hl]; exact hx) c0
    have htn : ∀ i : Nat, dayTotal i (xs.take (k + 1)) = dayTotal i (xs.take k) + (if c.d.toNat = i then c.a else 0) := fun i => by
      rw [dayTotal_next i hx]
      by_cases e : c.d.toNat = i
      · rw [if_pos e, if_pos (by omega)]
      · rw [if_neg e, if_neg (by omega)]
    have hday := ih1 c.d.toNat hd29
    have hwk := ih2 (c.d.toNat / 7)
    refine ⟨fun i hi => ?_, fun w => ?_⟩
    · rw [hsn, htn]
      have := ih1 i hi
      by_cases e : c.d.toNat = i
      · subst e
        simp only [if_true]
        omega
      · simp only [if_neg e]
        omega
    · have e1 : weekPart 29 (paidDay xs (capRun xs D W k ++ [o])) w = weekPart 29 (paidDay xs (capRun xs D W k)) w + (if c.d.toNat / 7 = w then o else 0) :=
        weekPart_at hd29 (fun i hi hne => by rw [hsn, if_neg (fun e => hne e.symm), Int.add_zero]) (by rw [hsn, if_pos rfl])
      have e2 : weekPart 29 (fun i => min D (dayTotal i (xs.take (k + 1)))) w = weekPart 29 (fun i => min D (dayTotal i (xs.take k))) w + (if c.d.toNat / 7 = w then min D (dayTotal c.d.toNat (xs.take k) + c.a) - min D (dayTotal c.d.toNat (xs.take k)) else 0) :=
        weekPart_at hd29 (fun i hi hne => by
          show min D (dayTotal i (xs.take (k + 1))) = min D (dayTotal i (xs.take k))
          rw [htn, if_neg (fun e => hne e.symm), Int.add_zero]) (by
          show min D (dayTotal c.d.toNat (xs.take (k + 1))) = min D (dayTotal c.d.toNat (xs.take k)) + _
          rw [htn, if_pos rfl]; omega)
      rw [e1, e2]
      by_cases hw : c.d.toNat / 7 = w
      · subst hw
        simp only [if_true]
        by_cases hfull : weekPart 29 (paidDay xs (capRun xs D W k)) (c.d.toNat / 7) = W
        · omega
        · have heq : weekPart 29 (paidDay xs (capRun xs D W k)) (c.d.toNat / 7) = weekPart 29 (fun i => min D (dayTotal i (xs.take k))) (c.d.toNat / 7) := by omega
          have hd := sumR_eq 29 (fun i hi => by
            have := (ih1 i hi).2
            show (if i / 7 = c.d.toNat / 7 then paidDay xs (capRun xs D W k) i else 0) ≤ (if i / 7 = c.d.toNat / 7 then min D (dayTotal i (xs.take k)) else 0)
            split
            · exact this
            · exact Int.le_refl 0) heq c.d.toNat hd29
          simp only [if_true] at hd
          omega
      · simp only [if_neg hw, Int.add_zero]
        exact ih2 w
/-- All that is paid is the sum over the weeks. -/
theorem capRun_sum (xs : List Charge) (D W : Int) (hd : ∀ c ∈ xs, 0 ≤ c.d ∧ c.d ≤ 28) : ∀ k, k ≤ xs.length → sumI (capRun xs D W k) = sumR 5 (fun w => weekPart 29 (paidDay xs (capRun xs D W k)) w)
  | 0, _ => by
    refine (sumR_zero 5 (fun w _ => weekPart_zero (fun i _ => ?_))).symm
    rw [show capRun xs D W 0 = [] from rfl, paidDay_zero]
  | k + 1, h => by
    have hk : k < xs.length := by omega
    have hx : xs[k]? = some xs[k] := List.getElem?_eq_getElem hk
    have hc := hd _ (List.getElem_mem hk)
    have hl := capRun_length xs D W k (by omega)
    have ih := capRun_sum xs D W hd k (by omega)
    generalize xs[k] = c at *
    rw [capRun_succ hx, sumI_append, ih]
    generalize capPay xs (capRun xs D W k) D W c = o
    have hsn : ∀ i, paidDay xs (capRun xs D W k ++ [o]) i = paidDay xs (capRun xs D W k) i + (if c.d.toNat = i then o else 0) := paidDay_snoc (by rw [hl]; exact hx) hc.1
    have e1 : ∀ w, weekPart 29 (paidDay xs (capRun xs D W k ++ [o])) w = weekPart 29 (paidDay xs (capRun xs D W k)) w + (if c.d.toNat / 7 = w then o else 0) := fun w =>
      weekPart_at (show c.d.toNat < 29 by omega) (fun i hi hne => by rw [hsn, if_neg (fun e => hne e.symm), Int.add_zero]) (by rw [hsn, if_pos rfl])
    rw [show sumI [o] = o by simp [sumI]]
    refine (sumR_at (d := c.d.toNat / 7) 5 (by omega) (fun w hw hne => ?_) ?_).symm
    · rw [e1, if_neg (fun e => hne e.symm), Int.add_zero]
    · rw [e1, if_pos rfl]
def capTotal (xs : List Charge) (D W : Int) : Int := sumR 5 (fun w => min W (weekPart 29 (fun i => min D (dayTotal i xs)) w))
theorem capRun_total (xs : List Charge) (D W : Int) (hD : 0 ≤ D) (hW : 0 ≤ W) (hc : ∀ c ∈ xs, 0 ≤ c.d ∧ c.d ≤ 28 ∧ 0 ≤ c.a ∧ c.a ≤ 4000) : sumI (capRun xs D W xs.length) = capTotal xs D W := by
  rw [capRun_sum xs D W (fun c h => ⟨(hc c h).1, (hc c h).2.1⟩) _ (Nat.le_refl _)]
  refine sumR_congr 5 (fun w _ => ?_)
  rw [(capRun_state xs D W hD hW hc xs.length (Nat.le_refl _)).2 w, List.take_length]
theorem capTotal_mono (xs : List Charge) {D D' W W' : Int} (h1 : D ≤ D') (h2 : W ≤ W') : capTotal xs D W ≤ capTotal xs D' W' := by
  refine sumR_le 5 (fun w _ => ?_)
  have h : weekPart 29 (fun i => min D (dayTotal i xs)) w ≤ weekPart 29 (fun i => min D' (dayTotal i xs)) w := weekPart_le (fun i _ => by
    show min D (dayTotal i xs) ≤ min D' (dayTotal i xs)
    omega)
  omega
theorem capTotal_none (xs : List Charge) {D W : Int} (hc : ∀ c ∈ xs, 0 ≤ c.a ∧ c.a ≤ 4000) (hW : 0 ≤ W) (hD : D = 0) : capTotal xs D W = 0 := by
  subst hD
  refine sumR_zero 5 (fun w _ => ?_)
  have h : weekPart 29 (fun i => min 0 (dayTotal i xs)) w = 0 := weekPart_zero (fun i _ => by
    have := (dayTotal_bounds i xs hc).1
    show min 0 (dayTotal i xs) = 0
    omega)
  rw [h]; omega
theorem capCharges_length (xs : List Charge) (D W : Int) : (capCharges xs D W).length ≤ 24 := by
  unfold capCharges
  split
  · rename_i h
    simp only [Bool.and_eq_true] at h
    rw [capRun_length xs D W _ (Nat.le_refl _)]
    exact length_of_validCharges h.1.1
  · simp
theorem dayTotals_length (xs : List Charge) : (dayTotals xs).length ≤ 29 := by
  unfold dayTotals
  split
  · rw [totals_length]; exact Nat.le_refl _
  · simp
/-- What is left of the cap of day i, or of week i - 29. -/
def leftOf (xs : List Charge) (out : List Int) (day week : Int) (i : Nat) : Int :=
  if i < 29 then day - paidBy (inSpan (i : Int) 1) xs out else week - paidBy (inSpan (7 * ((i - 29 : Nat) : Int)) 7) xs out
theorem leftOf_start (xs : List Charge) (day week : Int) (i : Nat) : leftOf xs [] day week i = if i < 29 then day else week := by
  unfold leftOf
  rw [paidBy_nil, paidBy_nil, Int.sub_zero, Int.sub_zero]
theorem leftOf_bounds (xs : List Charge) (D W : Int) (hD : 0 ≤ D) (hW : 0 ≤ W) (hc : ∀ c ∈ xs, 0 ≤ c.d ∧ c.d ≤ 28 ∧ 0 ≤ c.a ∧ c.a ≤ 4000) (k : Nat) (hk : k ≤ xs.length) (i : Nat) :
    0 ≤ leftOf xs (capRun xs D W k) D W i ∧ leftOf xs (capRun xs D W k) D W i ≤ max D W := by
  obtain ⟨h1, h2⟩ := capRun_state xs D W hD hW hc k hk
  have hb := capRun_bounds D W (fun c h => ⟨(hc c h).2.2.1, (hc c h).2.2.2⟩) k
  have hb1 := (paidBy_bounds (inSpan (i : Int) 1) 4000 xs _ hb).1
  have hb7 := (paidBy_bounds (inSpan (7 * ((i - 29 : Nat) : Int)) 7) 4000 xs _ hb).1
  unfold leftOf
  split
  · rename_i hi
    have h := (h1 i hi).2
    have e : paidBy (inSpan (i : Int) 1) xs (capRun xs D W k) = paidDay xs (capRun xs D W k) i := rfl
    rw [e] at hb1 ⊢
    omega
  · have e := paid_week D W xs (fun x hx => ⟨(hc x hx).1, (hc x hx).2.1⟩) (7 * ((i - 29 : Nat) : Int)) (by omega) k hk
    rw [h2] at e
    omega
theorem inSpan_week (d : Nat) : inSpan (7 * ((d / 7 : Nat) : Int)) 7 = inSpan (d : Int) 7 := by
  funext c
  unfold inSpan
  rw [Bool.eq_iff_iff]
  simp only [decide_eq_true_eq]
  omega
theorem leftOf_day {xs : List Charge} {out : List Int} {day week : Int} {d : Nat} (hd : d < 29) : leftOf xs out day week d = day - paidBy (inSpan (d : Int) 1) xs out := by
  unfold leftOf; rw [if_pos hd]
theorem leftOf_week {xs : List Charge} {out : List Int} {day week : Int} {d : Nat} : leftOf xs out day week (29 + d / 7) = week - paidBy (inSpan (d : Int) 7) xs out := by
  unfold leftOf
  rw [if_neg (by omega), ← inSpan_week d, show 29 + d / 7 - 29 = d / 7 by omega]
theorem capPay_left {xs : List Charge} {out : List Int} {day week a : Int} {d : Nat} (hd : d < 29) (ha : 0 ≤ a) (h1 : 0 ≤ leftOf xs out day week d) (h2 : 0 ≤ leftOf xs out day week (29 + d / 7)) :
    capPay xs out day week ⟨(d : Int), a⟩ = min a (min (leftOf xs out day week d) (leftOf xs out day week (29 + d / 7))) := by
  rw [leftOf_day hd] at h1 ⊢
  rw [leftOf_week] at h2 ⊢
  unfold capPay
  dsimp only
  omega
theorem leftOf_snoc {xs : List Charge} {out : List Int} {day week a o : Int} {d : Nat} (hx : xs[out.length]? = some ⟨(d : Int), a⟩) (hd : d < 29) (i : Nat) (hi : i < 34) :
    leftOf xs (out ++ [o]) day week i = if i = 29 + d / 7 then leftOf xs out day week (29 + d / 7) - o else if i = d then leftOf xs out day week d - o else leftOf xs out day week i := by
  unfold leftOf
  rw [paidBy_snoc _ _ _ _ _ hx, paidBy_snoc _ _ _ _ _ hx]
  have e1 : inSpan (i : Int) 1 ⟨(d : Int), a⟩ = decide (i = d) := by unfold inSpan; rw [Bool.eq_iff_iff]; simp only [decide_eq_true_eq]; omega
  have e7 : inSpan (7 * ((i - 29 : Nat) : Int)) 7 ⟨(d : Int), a⟩ = decide (i - 29 = d / 7) := by unfold inSpan; rw [Bool.eq_iff_iff]; simp only [decide_eq_true_eq]; omega
  rw [e1, e7]
  simp only [decide_eq_true_eq]
  by_cases hw : i = 29 + d / 7
  · subst hw
    rw [if_neg (by omega), if_pos (by omega), if_pos rfl, if_neg (by omega)]
    omega
  · by_cases hi2 : i = d
    · subst hi2
      rw [if_pos hd, if_pos rfl, if_neg hw, if_pos rfl]
      rw [if_pos hd]
      omega
    · rw [if_neg hi2, if_neg hw, if_neg hi2]
      split
      · omega
      · rw [if_neg (by omega)]; omega
end Go.Proofs.Ytnahdclmfegmeaa.Fares
