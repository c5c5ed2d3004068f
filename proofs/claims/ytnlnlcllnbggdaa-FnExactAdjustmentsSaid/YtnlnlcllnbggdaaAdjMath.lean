/-
  Chapter 19, plain: amounts of days, what differs between them, adjustments laid on them.
-/
import Derived.Test.YtnlnlcllnbggdaaTypes
import Derived.Test.YtnlnlcllnbggdaaTariffMath
import Derived.Test.YtnlnlcllnbggdaaDenyMath
import Derived.Test.YtnlnlcllnbggdaaSumMath
import Derived.Test.YtnlnlcllnbggdaaMem
set_option linter.unusedSimpArgs false
namespace Go.Proofs.Ytnlnlcllnbggdaa.Fares
set_option linter.unusedVariables false

def dueOk (xs : List Int) : Bool := decide (xs.length = 29) && within xs 100000
def nth (xs : List Int) (d : Nat) : Int := xs.getD d 0
theorem nth_of {xs : List Int} {d : Nat} {x : Int} (h : xs[d]? = some x) : nth xs d = x := by
  unfold nth
  rw [List.getD_eq_getElem?_getD, h]
  rfl
theorem nth_some {xs : List Int} {d : Nat} (h : d < xs.length) : xs[d]? = some (nth xs d) := by
  rw [nth_of (List.getElem?_eq_getElem h)]
  exact List.getElem?_eq_getElem h
theorem nth_set (xs : List Int) (d : Nat) (v : Int) (h : d < xs.length) (j : Nat) : nth (xs.set d v) j = if d = j then v else nth xs j := by
  unfold nth
  rw [List.getD_eq_getElem?_getD, List.getD_eq_getElem?_getD, List.getElem?_set]
  by_cases e : d = j
  · subst e
    rw [if_pos rfl, if_pos h, if_pos rfl]
    rfl
  · rw [if_neg e, if_neg e]
theorem nth_ext {xs ys : List Int} (hl : xs.length = ys.length) (h : ∀ j, j < xs.length → nth xs j = nth ys j) : xs = ys := by
  apply List.ext_getElem?
  intro i
  by_cases hi : i < xs.length
  · rw [nth_some hi, nth_some (by omega), h i hi]
  · rw [List.getElem?_eq_none (by omega), List.getElem?_eq_none (by omega)]
theorem dueOk_iff {xs : List Int} : dueOk xs = true ↔ xs.length = 29 ∧ ∀ j, j < 29 → 0 ≤ nth xs j ∧ nth xs j ≤ 100000 := by
  unfold dueOk
  rw [Bool.and_eq_true, decide_eq_true_eq]
  constructor
  · rintro ⟨h1, h2⟩
    exact ⟨h1, fun j hj => within_of h2 (nth_some (by omega))⟩
  · rintro ⟨h1, h2⟩
    exact ⟨h1, within_true (fun k x hk => by
      have hl := (List.getElem?_eq_some_iff.1 hk).1
      have := h2 k (by omega)
      rwa [nth_of hk] at this)⟩

def diffAt (as bs : List Int) (d : Nat) : List Adjust := if nth as d = nth bs d then [] else [⟨d, nth bs d - nth as d⟩]
def diffs (as bs : List Int) (k : Nat) : List Adjust := (List.range k).flatMap (diffAt as bs)
theorem diffs_zero (as bs : List Int) : diffs as bs 0 = [] := rfl
theorem diffs_succ (as bs : List Int) (k : Nat) : diffs as bs (k + 1) = diffs as bs k ++ diffAt as bs k := by
  unfold diffs
  rw [List.range_succ, List.flatMap_append, List.flatMap_singleton]
theorem diffs_same {as bs : List Int} {k : Nat} (h : nth as k = nth bs k) : diffs as bs (k + 1) = diffs as bs k := by
  rw [diffs_succ, diffAt, if_pos h, List.append_nil]
theorem diffs_other {as bs : List Int} {k : Nat} (h : nth as k ≠ nth bs k) : diffs as bs (k + 1) = diffs as bs k ++ [⟨k, nth bs k - nth as k⟩] := by
  rw [diffs_succ, diffAt, if_neg h]
theorem diffs_length (as bs : List Int) : ∀ k, (diffs as bs k).length ≤ k
  | 0 => Nat.le_refl _
  | k + 1 => by
    have := diffs_length as bs k
    by_cases h : nth as k = nth bs k
    · rw [diffs_same h]; omega
    · rw [diffs_other h, List.length_append]; simp; omega
def adjustments (as bs : List Int) : List Adjust := if dueOk as && dueOk bs then diffs as bs 29 else []
theorem adjustments_length (as bs : List Int) : (adjustments as bs).length ≤ 29 := by
  unfold adjustments
  split
  · exact diffs_length as bs 29
  · simp

def applyOne (xs : List Int) (c : Adjust) : List Int := xs.set c.d.toNat (nth xs c.d.toNat + c.a)
def applyTo (xs : List Int) (cs : List Adjust) : List Int := cs.foldl applyOne xs
theorem applyTo_length (xs : List Int) : ∀ cs : List Adjust, (applyTo xs cs).length = xs.length := by
  intro cs
  induction cs generalizing xs with
  | nil => rfl
  | cons c cs ih => show (applyTo (applyOne xs c) cs).length = _; rw [ih, applyOne, List.length_set]
theorem applyTo_append (xs : List Int) (cs ds : List Adjust) : applyTo xs (cs ++ ds) = applyTo (applyTo xs cs) ds := List.foldl_append
theorem applyTo_next {xs : List Int} {cs : List Adjust} {k : Nat} {c : Adjust} (h : cs[k]? = some c) : applyTo xs (cs.take (k + 1)) = applyOne (applyTo xs (cs.take k)) c := by
  rw [List.take_add_one, h, applyTo_append]; rfl
/-- days that ascend, in 0..28 -/
def daysOk (cs : List Adjust) : Prop := ascOk (cs.map (·.d)) 28
theorem days_in {cs : List Adjust} (h : daysOk cs) {k : Nat} {c : Adjust} (hc : cs[k]? = some c) : 0 ≤ c.d ∧ c.d ≤ 28 :=
  h.1 k c.d (by rw [List.getElem?_map, hc]; rfl)
theorem asc_lt {xs : List Int} {M : Int} (h : ascOk xs M) : ∀ (n k : Nat) (a b : Int), xs[k]? = some a → xs[k + 1 + n]? = some b → a < b
  | 0, k, a, b, ha, hb => h.2 k a b ha hb
  | n + 1, k, a, b, ha, hb => by
    have hl := (List.getElem?_eq_some_iff.1 hb).1
    have hc : xs[k + 1 + n]? = some (xs[k + 1 + n]'(by omega)) := List.getElem?_eq_getElem (by omega)
    have h1 := asc_lt h n k a _ ha hc
    have h2 := h.2 (k + 1 + n) _ b hc hb
    omega
theorem days_lt {cs : List Adjust} (h : daysOk cs) {j k : Nat} {b c : Adjust} (hj : cs[j]? = some b) (hc : cs[k]? = some c) (hlt : j < k) : b.d < c.d := by
  obtain ⟨n, rfl⟩ : ∃ n, k = j + 1 + n := ⟨k - (j + 1), by omega⟩
  exact asc_lt h n j b.d c.d (by rw [List.getElem?_map, hj]; rfl) (by rw [List.getElem?_map, hc]; rfl)
theorem days_length {cs : List Adjust} (h : daysOk cs) : cs.length ≤ 29 := by
  have key : ∀ (k : Nat) (c : Adjust), cs[k]? = some c → (k : Int) ≤ c.d := by
    intro k
    induction k with
    | zero => intro c hc; have := (days_in h hc).1; omega
    | succ k ih =>
      intro c hc
      have hl := (List.getElem?_eq_some_iff.1 hc).1
      have hp : cs[k]? = some (cs[k]'(by omega)) := List.getElem?_eq_getElem (by omega)
      have h1 := ih _ hp
      have h2 := days_lt h hp hc (by omega)
      omega
  by_cases hl : cs.length ≤ 29
  · exact hl
  · have hp : cs[29]? = some (cs[29]'(by omega)) := List.getElem?_eq_getElem (by omega)
    have h1 := key 29 _ hp
    have h2 := (days_in h hp).2
    omega
/-- a day that none of the adjustments has keeps its amount -/
theorem nth_apply_far : ∀ (cs : List Adjust) (xs : List Int) (j : Nat), (∀ c ∈ cs, c.d.toNat ≠ j ∧ c.d.toNat < xs.length) → nth (applyTo xs cs) j = nth xs j
  | [], _, _, _ => rfl
  | c :: cs, xs, j, h => by
    have hc := h c (List.mem_cons_self ..)
    show nth (applyTo (applyOne xs c) cs) j = _
    rw [nth_apply_far cs _ j (fun d hd => ⟨(h d (List.mem_cons_of_mem _ hd)).1, by rw [applyOne, List.length_set]; exact (h d (List.mem_cons_of_mem _ hd)).2⟩)]
    rw [applyOne, nth_set _ _ _ hc.2, if_neg hc.1]
theorem nth_before {xs : List Int} {cs : List Adjust} (hd : daysOk cs) (hx : xs.length = 29) {k : Nat} {c : Adjust} (hc : cs[k]? = some c) : nth (applyTo xs (cs.take k)) c.d.toNat = nth xs c.d.toNat := by
  refine nth_apply_far _ _ _ (fun b hb => ?_)
  obtain ⟨j, hj⟩ := List.getElem?_of_mem hb
  rw [List.getElem?_take] at hj
  split at hj
  · rename_i hjk
    have h1 := days_in hd hj
    have h2 := days_in hd hc
    have h3 := days_lt hd hj hc hjk
    exact ⟨by omega, by omega⟩
  · cases hj
theorem nth_day {xs : List Int} {cs : List Adjust} (hd : daysOk cs) (hx : xs.length = 29) {k : Nat} {c : Adjust} (hc : cs[k]? = some c) : nth (applyTo xs cs) c.d.toNat = nth xs c.d.toNat + c.a := by
  have hc0 := days_in hd hc
  have hlk := (List.getElem?_eq_some_iff.1 hc).1
  have e : applyTo xs cs = applyTo (applyOne (applyTo xs (cs.take k)) c) (cs.drop (k + 1)) := by
    rw [← applyTo_next hc, ← applyTo_append, List.take_append_drop]
  rw [e, nth_apply_far, applyOne, nth_set _ _ _ (by rw [applyTo_length]; omega), if_pos rfl, nth_before hd hx hc]
  intro b hb
  obtain ⟨j, hj⟩ := List.getElem?_of_mem hb
  rw [List.getElem?_drop] at hj
  have h1 := days_in hd hj
  have h3 := days_lt hd hc hj (by omega)
  exact ⟨by omega, by rw [applyOne, List.length_set, applyTo_length]; omega⟩
theorem nth_other {xs : List Int} {cs : List Adjust} (hd : daysOk cs) (hx : xs.length = 29) {j : Nat} (h : ∀ c ∈ cs, c.d.toNat ≠ j) : nth (applyTo xs cs) j = nth xs j :=
  nth_apply_far _ _ _ (fun c hc => ⟨h c hc, by
    obtain ⟨k, hk⟩ := List.getElem?_of_mem hc
    have := days_in hd hk
    omega⟩)
def fitsDay (xs : List Int) (c : Adjust) : Bool := decide (0 ≤ nth xs c.d.toNat + c.a ∧ nth xs c.d.toNat + c.a ≤ 100000)
theorem due_apply {xs : List Int} {cs : List Adjust} (hx : dueOk xs = true) (hd : daysOk cs) : dueOk (applyTo xs cs) = cs.all (fitsDay xs) := by
  obtain ⟨h29, hin⟩ := dueOk_iff.1 hx
  rw [Bool.eq_iff_iff, dueOk_iff, List.all_eq_true]
  constructor
  · rintro ⟨_, h⟩ c hc
    obtain ⟨k, hk⟩ := List.getElem?_of_mem hc
    have h1 := days_in hd hk
    have := h c.d.toNat (by omega)
    rw [nth_day hd h29 hk] at this
    exact decide_eq_true this
  · intro h
    refine ⟨by rw [applyTo_length]; exact h29, fun j hj => ?_⟩
    by_cases hex : ∃ c ∈ cs, c.d.toNat = j
    · obtain ⟨c, hc, rfl⟩ := hex
      obtain ⟨k, hk⟩ := List.getElem?_of_mem hc
      rw [nth_day hd h29 hk]
      exact of_decide_eq_true (h c hc)
    · rw [nth_other hd h29 (fun c hc e => hex ⟨c, hc, e⟩)]
      exact hin j hj
noncomputable def applyAdjust (xs : List Int) (cs : List Adjust) : List Int × Bool := if (dueOk xs && ascends (cs.map (·.d)) 28 && cs.all (fitsDay xs)) = true then (applyTo xs cs, true) else ([], false)
theorem applyAdjust_length (xs : List Int) (cs : List Adjust) : (applyAdjust xs cs).1.length ≤ 29 := by
  unfold applyAdjust
  split
  · rename_i h
    simp only [Bool.and_eq_true] at h
    rw [applyTo_length]
    exact Nat.le_of_eq (dueOk_iff.1 h.1.1).1
  · simp
theorem apply_no_due {xs : List Int} (cs : List Adjust) (h : dueOk xs = false) : applyAdjust xs cs = ([], false) := by
  unfold applyAdjust; rw [h]; rfl
theorem apply_no_days (xs : List Int) {cs : List Adjust} (h : ¬ daysOk cs) : applyAdjust xs cs = ([], false) := by
  unfold applyAdjust; rw [show ascends (cs.map (·.d)) 28 = false from ascends_false h]; simp
theorem apply_no_fit {xs : List Int} {cs : List Adjust} {k : Nat} {c : Adjust} (hc : cs[k]? = some c) (h : ¬ (0 ≤ nth xs c.d.toNat + c.a ∧ nth xs c.d.toNat + c.a ≤ 100000)) : applyAdjust xs cs = ([], false) := by
  have : cs.all (fitsDay xs) = false := by
    rw [List.all_eq_false]
    exact ⟨c, List.mem_of_getElem? hc, by unfold fitsDay; simp only [decide_eq_true_eq]; exact h⟩
  unfold applyAdjust; rw [this]; simp
theorem apply_yes {xs : List Int} {cs : List Adjust} (h : dueOk xs = true) (hd : daysOk cs) (hf : ∀ c ∈ cs, 0 ≤ nth xs c.d.toNat + c.a ∧ nth xs c.d.toNat + c.a ≤ 100000) : applyAdjust xs cs = (applyTo xs cs, true) := by
  unfold applyAdjust
  rw [h, show ascends (cs.map (·.d)) 28 = true from ascends_true hd, show cs.all (fitsDay xs) = true from List.all_eq_true.2 (fun c hc => decide_eq_true (hf c hc))]
  rfl
theorem apply_ok {xs : List Int} {cs : List Adjust} {b : List Int} (h : applyAdjust xs cs = (b, true)) : dueOk xs = true ∧ daysOk cs ∧ (∀ c ∈ cs, 0 ≤ nth xs c.d.toNat + c.a ∧ nth xs c.d.toNat + c.a ≤ 100000) ∧ b = applyTo xs cs := by
  unfold applyAdjust at h
  split at h
  · rename_i hh
    simp only [Bool.and_eq_true] at hh
    injection h with h1 h2
    exact ⟨hh.1.1, ascends_iff.1 hh.1.2, fun c hc => of_decide_eq_true (List.all_eq_true.1 hh.2 c hc), h1.symm⟩
  · injection h with _ h2
    cases h2

/-! the laws' facts -/
theorem diffs_day (as bs : List Int) : ∀ k c, c ∈ diffs as bs k → ∃ d : Nat, d < k ∧ c = ⟨d, nth bs d - nth as d⟩ ∧ nth as d ≠ nth bs d := by
  intro k
  induction k with
  | zero => intro c hc; cases hc
  | succ k ih =>
    intro c hc
    by_cases h : nth as k = nth bs k
    · rw [diffs_same h] at hc
      obtain ⟨d, h1, h2, h3⟩ := ih c hc
      exact ⟨d, by omega, h2, h3⟩
    · rw [diffs_other h, List.mem_append, List.mem_singleton] at hc
      rcases hc with hc | rfl
      · obtain ⟨d, h1, h2, h3⟩ := ih c hc
        exact ⟨d, by omega, h2, h3⟩
      · exact ⟨k, by omega, rfl, h⟩
theorem diffs_all (as bs : List Int) : ∀ k d, d < k → nth as d ≠ nth bs d → (⟨d, nth bs d - nth as d⟩ : Adjust) ∈ diffs as bs k := by
  intro k
  induction k with
  | zero => intro d hd; omega
  | succ k ih =>
    intro d hd hne
    by_cases h : nth as k = nth bs k
    · rw [diffs_same h]
      rcases Nat.lt_or_ge d k with h1 | h1
      · exact ih d h1 hne
      · have : d = k := by omega
        subst this
        exact absurd h hne
    · rw [diffs_other h, List.mem_append]
      rcases Nat.lt_or_ge d k with h1 | h1
      · exact .inl (ih d h1 hne)
      · have : d = k := by omega
        subst this
        exact .inr (List.mem_singleton.2 rfl)
theorem diffs_asc (as bs : List Int) : ∀ k, k ≤ 29 → daysOk (diffs as bs k) := by
  intro k
  induction k with
  | zero => intro _; exact ascOk_nil 28
  | succ k ih =>
    intro hk
    by_cases h : nth as k = nth bs k
    · rw [diffs_same h]; exact ih (by omega)
    · have ho := ih (by omega)
      rw [diffs_other h]
      unfold daysOk
      rw [List.map_append]
      have hlt : ∀ x : Int, x ∈ (diffs as bs k).map (·.d) → 0 ≤ x ∧ x < (k : Int) := fun x hx => by
        obtain ⟨c, hc, rfl⟩ := List.mem_map.1 hx
        obtain ⟨d, h1, rfl, _⟩ := diffs_day as bs k c hc
        exact ⟨by simp, by simp; omega⟩
      constructor
      · intro j a ha
        rcases List.mem_append.1 (List.mem_of_getElem? ha) with hm | hm
        · have := hlt a hm; omega
        · simp at hm; subst hm; omega
      · intro j a b ha hb
        rw [List.getElem?_append] at ha hb
        split at hb
        · rename_i hj
          rw [if_pos (by omega)] at ha
          exact ho.2 j a b ha hb
        · rename_i hj
          have hj2 := (List.getElem?_eq_some_iff.1 hb).1
          simp at hj2
          rw [if_pos (by simp; simp at hj; omega)] at ha
          have hb' := List.mem_of_getElem? hb
          simp at hb'
          subst hb'
          have := hlt a (List.mem_of_getElem? ha)
          omega
theorem apply_diffs {as bs : List Int} (ha : dueOk as = true) (hb : dueOk bs = true) : applyAdjust as (diffs as bs 29) = (bs, true) := by
  obtain ⟨a29, ain⟩ := dueOk_iff.1 ha
  obtain ⟨b29, bin⟩ := dueOk_iff.1 hb
  have hd := diffs_asc as bs 29 (Nat.le_refl _)
  rw [apply_yes ha hd (fun c hc => by
    obtain ⟨d, h1, rfl, _⟩ := diffs_day as bs 29 c hc
    have := bin d h1
    simp only [Int.toNat_natCast]
    omega)]
  congr 1
  refine nth_ext (by rw [applyTo_length]; omega) (fun j hj => ?_)
  rw [applyTo_length, a29] at hj
  by_cases h : nth as j = nth bs j
  · rw [nth_other hd a29 (fun c hc e => ?_), h]
    obtain ⟨d, h1, rfl, h2⟩ := diffs_day as bs 29 c hc
    simp only [Int.toNat_natCast] at e
    subst e
    exact h2 h
  · obtain ⟨k, hk⟩ := List.getElem?_of_mem (diffs_all as bs 29 j hj h)
    have := nth_day hd a29 hk
    simp only [Int.toNat_natCast] at this
    rw [this]
    omega
theorem adjust_law {as bs : List Int} {l : List Adjust} (h : adjustments as bs = l) (hl : l ≠ []) : dueOk as = true ∧ dueOk bs = true ∧ applyAdjust as l = (bs, true) := by
  unfold adjustments at h
  split at h
  · rename_i hh
    rw [Bool.and_eq_true] at hh
    subst h
    exact ⟨hh.1, hh.2, apply_diffs hh.1 hh.2⟩
  · exact absurd h.symm hl
theorem diffs_back (as bs : List Int) : ∀ k, diffs bs as k = (diffs as bs k).map fun c => ⟨c.d, -c.a⟩ := by
  intro k
  induction k with
  | zero => rfl
  | succ k ih =>
    by_cases h : nth as k = nth bs k
    · rw [diffs_same h, diffs_same h.symm, ih]
    · rw [diffs_other h, diffs_other (fun e => h e.symm), ih, List.map_append]
      congr 1
      simp
      omega
theorem adjust_back (as bs : List Int) : adjustments bs as = (adjustments as bs).map fun c => ⟨c.d, -c.a⟩ := by
  unfold adjustments
  rw [Bool.and_comm]
  split
  · exact diffs_back as bs 29
  · rfl
theorem adjust_ne {as bs : List Int} {k : Nat} {c : Adjust} (h : (adjustments as bs)[k]? = some c) : c.a ≠ 0 ∧ -100000 ≤ c.a ∧ c.a ≤ 100000 ∧ 0 ≤ c.d ∧ c.d ≤ 28 := by
  unfold adjustments at h
  split at h
  · rename_i hh
    rw [Bool.and_eq_true] at hh
    obtain ⟨d, h1, rfl, h2⟩ := diffs_day as bs 29 c (List.mem_of_getElem? h)
    have q1 := (dueOk_iff.1 hh.1).2 d h1
    have q2 := (dueOk_iff.1 hh.2).2 d h1
    refine ⟨?_, ?_, ?_, ?_, ?_⟩ <;> dsimp only <;> omega
  · simp at h
theorem adjust_same (as : List Int) : adjustments as as = [] := by
  unfold adjustments
  have : ∀ k, diffs as as k = [] := by
    intro k
    induction k with
    | zero => rfl
    | succ k ih => rw [diffs_same rfl, ih]
  rw [this]
  simp
theorem sum_set : ∀ (xs : List Int) (d : Nat) (v : Int), d < xs.length → sumI (xs.set d v) = sumI xs - nth xs d + v
  | [], d, v, h => by simp at h
  | x :: xs, 0, v, h => by
    show v + sumI xs = x + sumI xs - x + v
    omega
  | x :: xs, d + 1, v, h => by
    show x + sumI (xs.set d v) = x + sumI xs - nth xs d + v
    rw [sum_set xs d v (by simpa using h)]
    omega
def amounts (cs : List Adjust) : Int := sumI (cs.map (·.a))
theorem amounts_next {cs : List Adjust} {k : Nat} {c : Adjust} (h : cs[k]? = some c) : amounts (cs.take (k + 1)) = amounts (cs.take k) + c.a := by
  unfold amounts
  rw [List.map_take, List.map_take]
  exact sumI_next (by rw [List.getElem?_map, h]; rfl)
theorem sum_apply : ∀ (cs : List Adjust) (xs : List Int), (∀ c ∈ cs, c.d.toNat < xs.length) → sumI (applyTo xs cs) = sumI xs + amounts cs
  | [], xs, _ => by simp [applyTo, amounts, sumI]
  | c :: cs, xs, h => by
    show sumI (applyTo (applyOne xs c) cs) = sumI xs + (c.a + amounts cs)
    have hc := h c (List.mem_cons_self ..)
    rw [sum_apply cs _ (fun d hd => by rw [applyOne, List.length_set]; exact h d (List.mem_cons_of_mem _ hd)), applyOne, sum_set _ _ _ hc]
    omega
theorem apply_law {xs b : List Int} {cs : List Adjust} (h : applyAdjust xs cs = (b, true)) :
    dueOk xs = true ∧ dueOk b = true ∧ sumI b = sumI xs + amounts cs ∧ applyAdjust xs (adjustments xs b) = (b, true) ∧ (∀ c ∈ cs, -100000 ≤ c.a ∧ c.a ≤ 100000) ∧ cs.length ≤ 29 := by
  obtain ⟨h1, h2, h3, rfl⟩ := apply_ok h
  have h29 := (dueOk_iff.1 h1).1
  have hb : dueOk (applyTo xs cs) = true := by
    rw [due_apply h1 h2]
    exact List.all_eq_true.2 (fun c hc => decide_eq_true (h3 c hc))
  have hin : ∀ c ∈ cs, 0 ≤ c.d ∧ c.d ≤ 28 := fun c hc => by
    obtain ⟨k, hk⟩ := List.getElem?_of_mem hc
    exact days_in h2 hk
  refine ⟨h1, hb, sum_apply cs xs (fun c hc => by have := hin c hc; omega), ?_, fun c hc => ?_, days_length h2⟩
  · unfold adjustments
    rw [h1, hb]
    exact apply_diffs h1 hb
  · have := h3 c hc
    have hd := hin c hc
    have := (dueOk_iff.1 h1).2 c.d.toNat (by omega)
    omega
end Go.Proofs.Ytnlnlcllnbggdaa.Fares
