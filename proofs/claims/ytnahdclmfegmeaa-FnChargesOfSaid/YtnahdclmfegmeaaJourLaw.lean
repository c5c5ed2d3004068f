/-
  Chapter 4: journeys that are valid, step by step; what the laws ask of them.
-/
import Derived.Test.YtnahdclmfegmeaaJourMath
namespace Go.Proofs.Ytnahdclmfegmeaa.Fares
/-- Valid journeys that begin at f or later. -/
def chain : Int → List Journey → Bool
  | _, [] => true
  | f, j :: r => validJourney j && decide (f ≤ j.x) && chain j.y r
theorem chain_all : ∀ (xs : List Journey) (f : Int) (pre : List Journey), (∀ k, freeAt (pre ++ xs) (pre.length + k) = (match k with | 0 => f | m + 1 => match xs[m]? with | some p => p.y | none => 0)) →
    chain f xs = (List.range xs.length).all (fun k => jourOkAt (pre ++ xs) (pre.length + k))
  | [], f, pre, _ => by simp [chain]
  | j :: r, f, pre, h => by
    have h0 : freeAt (pre ++ j :: r) pre.length = f := by simpa using h 0
    have hj : jourOkAt (pre ++ j :: r) pre.length = (validJourney j && decide (f ≤ j.x)) := by
      rw [jourOkAt_of (j := j) (by simp), h0]
    have ih := chain_all r j.y (pre ++ [j]) (fun k => by
      have := h (k + 1)
      simp only [List.append_assoc, List.cons_append, List.nil_append, List.length_append, List.length_cons, List.length_nil] at *
      rw [show pre.length + (0 + 1) + k = pre.length + (k + 1) by omega, this]
      cases k with
      | zero => simp
      | succ m => simp)
    simp only [List.append_assoc, List.cons_append, List.nil_append, List.length_append, List.length_cons, List.length_nil] at ih
    rw [chain, ih, List.length_cons, List.range_succ_eq_map, List.all_cons, List.all_map, ← hj]
    congr 2
    funext k
    simp only [Function.comp]
    rw [show pre.length + (0 + 1) + k = pre.length + (k + 1) by omega]
theorem valid_chain (xs : List Journey) : validJourneys xs = (decide (xs.length ≤ 24) && chain 0 xs) := by
  unfold validJourneys
  have := chain_all xs 0 [] (fun k => by cases k <;> simp [freeAt] <;> rfl)
  simp only [List.length_nil, Nat.zero_add, List.nil_append] at this
  rw [this]
theorem journey_in {j : Journey} (h : validJourney j = true) : 0 ≤ j.x ∧ j.x ≤ j.y ∧ j.y ≤ 40319 ∧ j.y - j.x ≤ 180 ∧ (j.f = true ∨ (j.a = j.b ∧ j.x = j.y)) := by
  unfold validJourney at h
  simp only [decide_eq_true_eq] at h
  obtain ⟨h0, h1, h2, h3, h4, h5, h6, h7, h8, h9, h10⟩ := h
  exact ⟨h4, h8, h7, h9, h10⟩
theorem chain_cons {f : Int} {j : Journey} {r : List Journey} : chain f (j :: r) = true ↔ validJourney j = true ∧ f ≤ j.x ∧ chain j.y r = true := by
  simp only [chain, Bool.and_eq_true, decide_eq_true_eq, and_assoc]
theorem chain_mono {f f' : Int} (h : f' ≤ f) {xs : List Journey} (hc : chain f xs = true) : chain f' xs = true := by
  cases xs with
  | nil => rfl
  | cons j r =>
    rw [chain_cons] at hc ⊢
    exact ⟨hc.1, by omega, hc.2.2⟩
theorem chain_tail {f : Int} {j : Journey} {r : List Journey} (hc : chain f (j :: r) = true) : chain f r = true := by
  rw [chain_cons] at hc
  have := journey_in hc.1
  exact chain_mono (by omega) hc.2.2
theorem chain_take {f : Int} : ∀ (xs : List Journey) (k : Nat) {f : Int}, chain f xs = true → chain f (xs.take k) = true
  | [], _, _, _ => by simp [chain]
  | _ :: _, 0, _, _ => by simp [chain]
  | j :: r, k + 1, f, h => by
    rw [chain_cons] at h
    rw [List.take_succ_cons, chain_cons]
    exact ⟨h.1, h.2.1, chain_take (f := j.y) r k h.2.2⟩
theorem chain_drop : ∀ (xs : List Journey) (k : Nat) {f : Int}, chain f xs = true → chain f (xs.drop k) = true
  | [], _, _, _ => by simp [chain]
  | _ :: _, 0, _, h => by simpa using h
  | j :: r, k + 1, f, h => by
    rw [List.drop_succ_cons]
    exact chain_drop r k (chain_tail h)
theorem chain_out : ∀ (xs : List Journey) (k : Nat) {f : Int}, chain f xs = true → chain f (xs.take k ++ xs.drop (k + 1)) = true
  | [], _, _, _ => by simp [chain]
  | j :: r, 0, f, h => by simpa using chain_tail h
  | j :: r, k + 1, f, h => by
    rw [chain_cons] at h
    rw [List.take_succ_cons, List.drop_succ_cons, List.cons_append, chain_cons]
    exact ⟨h.1, h.2.1, chain_out r k h.2.2⟩
theorem chain_filter (p : Journey → Bool) : ∀ (xs : List Journey) {f : Int}, chain f xs = true → chain f (xs.filter p) = true
  | [], _, _ => by simp [chain]
  | j :: r, f, h => by
    rw [List.filter_cons]
    split
    · rw [chain_cons] at h ⊢
      exact ⟨h.1, h.2.1, chain_filter p r h.2.2⟩
    · exact chain_filter p r (chain_tail h)
theorem valid_iff {xs : List Journey} : validJourneys xs = true ↔ xs.length ≤ 24 ∧ chain 0 xs = true := by
  rw [valid_chain]; simp
theorem valid_take {xs : List Journey} (h : validJourneys xs = true) (k : Nat) : validJourneys (xs.take k) = true := by
  rw [valid_iff] at h ⊢
  exact ⟨by simp; omega, chain_take (f := 0) xs k h.2⟩
theorem valid_drop {xs : List Journey} (h : validJourneys xs = true) (k : Nat) : validJourneys (xs.drop k) = true := by
  rw [valid_iff] at h ⊢
  exact ⟨by simp; omega, chain_drop xs k h.2⟩
theorem valid_out {xs : List Journey} (h : validJourneys xs = true) (k : Nat) : validJourneys (xs.take k ++ xs.drop (k + 1)) = true := by
  rw [valid_iff] at h ⊢
  exact ⟨by simp; omega, chain_out xs k h.2⟩
theorem valid_filter {xs : List Journey} (h : validJourneys xs = true) (p : Journey → Bool) : validJourneys (xs.filter p) = true := by
  rw [valid_iff] at h ⊢
  have := List.length_filter_le p xs
  exact ⟨by omega, chain_filter p xs h.2⟩

theorem rideSum_parts (xs : List Journey) (k : Nat) : rideSum (xs.take k) + rideSum (xs.drop k) = rideSum xs := by
  rw [← rideSum_append, List.take_append_drop]
theorem halfSum_parts (xs : List Journey) (k : Nat) : halfSum (xs.take k) + halfSum (xs.drop k) = halfSum xs := by
  rw [← halfSum_append, List.take_append_drop]
theorem halfSum_bounds : ∀ xs : List Journey, 0 ≤ halfSum xs ∧ halfSum xs ≤ xs.length
  | [] => by simp [halfSum]
  | j :: r => by
    have := halfSum_bounds r
    simp only [halfSum, List.length_cons]
    split <;> omega
/-- The minutes of all journeys are at most those from the first begin to the last end. -/
theorem rideSum_span : ∀ (xs : List Journey) (f : Int), chain f xs = true → ∀ l, xs.getLast? = some l → 0 ≤ rideSum xs ∧ rideSum xs ≤ l.y - f
  | [], _, _, _, h => by simp at h
  | [j], f, hc, l, h => by
    rw [chain_cons] at hc
    have := journey_in hc.1
    simp at h
    subst h
    simp only [rideSum]
    omega
  | j :: i :: r, f, hc, l, h => by
    rw [chain_cons] at hc
    have := journey_in hc.1
    have ih := rideSum_span (i :: r) j.y hc.2.2 l (by simpa using h)
    rw [rideSum]
    omega
theorem rideSum_nonneg : ∀ (xs : List Journey) (f : Int), chain f xs = true → 0 ≤ rideSum xs
  | [], _, _ => by simp [rideSum]
  | j :: r, f, hc => by
    rw [chain_cons] at hc
    have := journey_in hc.1
    have := rideSum_nonneg r j.y hc.2.2
    simp only [rideSum]
    omega
theorem rideSum_first {xs : List Journey} (h : validJourneys xs = true) {j l : Journey} (h0 : xs[0]? = some j) (hl : xs[xs.length - 1]? = some l) : rideSum xs ≤ l.y - j.x := by
  rw [valid_iff] at h
  cases xs with
  | nil => simp at h0
  | cons i r =>
    simp at h0
    subst h0
    have hc := chain_cons.1 h.2
    have := rideSum_span (i :: r) i.x (chain_cons.2 ⟨hc.1, Int.le_refl _, hc.2.2⟩) l (by rw [List.getLast?_eq_getElem?]; exact hl)
    exact this.2
theorem rideSum_full : ∀ (xs : List Journey) (f : Int), chain f xs = true → rideSum (xs.filter (fun j => j.f)) = rideSum xs
  | [], _, _ => rfl
  | j :: r, f, hc => by
    have hc' := chain_cons.1 hc
    have hj := journey_in hc'.1
    have ih := rideSum_full r j.y hc'.2.2
    rw [List.filter_cons]
    by_cases h : j.f = true
    · rw [if_pos h]; simp only [rideSum, ih]
    · rw [if_neg h]; simp only [rideSum, ih]
      have : j.x = j.y := by rcases hj.2.2.2.2 with h' | h'; exact absurd h' h; exact h'.2
      omega
theorem halfSum_full (xs : List Journey) : halfSum (xs.filter (fun j => j.f)) = 0 := by
  induction xs with
  | nil => rfl
  | cons j r ih =>
    rw [List.filter_cons]
    by_cases h : j.f = true
    · rw [if_pos h]; simp only [halfSum, ih, h]; rfl
    · rw [if_neg h]; exact ih
theorem halfSum_all : ∀ xs : List Journey, halfSum xs = xs.length → ∀ j ∈ xs, j.f = false
  | [], _, _, h => by cases h
  | i :: r, h, j, hj => by
    have hb := halfSum_bounds r
    simp only [halfSum, List.length_cons] at h
    have hf : i.f = false := by
      cases hi : i.f
      · rfl
      · rw [hi] at h; simp at h; omega
    rcases List.mem_cons.1 hj with rfl | hj
    · exact hf
    · rw [hf] at h; simp at h
      exact halfSum_all r (by omega) j hj
end Go.Proofs.Ytnahdclmfegmeaa.Fares
