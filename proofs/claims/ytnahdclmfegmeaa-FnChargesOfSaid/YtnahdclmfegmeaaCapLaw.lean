/-
  What the laws of charges say, as plain facts; first and last parts of a slice.
-/
import Derived.Test.YtnahdclmfegmeaaCapSaved
import Derived.Test.YtnahdclmfegmeaaDrawCharge
namespace Go.Proofs.Ytnahdclmfegmeaa
open Go.RowKit Go.Deep
set_option linter.unusedVariables false
namespace Fares
theorem capRun_le {xs : List Charge} (D W : Int) (hc : ∀ c ∈ xs, 0 ≤ c.a ∧ c.a ≤ 4000) : ∀ k, k ≤ xs.length → sumI (capRun xs D W k) ≤ amountSum (xs.take k)
  | 0, _ => by simp [capRun, sumI, amountSum]
  | k + 1, h => by
    have hx : xs[k]? = some xs[k] := List.getElem?_eq_getElem (by omega)
    have h1 := hc _ (List.getElem_mem (show k < xs.length by omega))
    have hp := capPay_bounds xs (capRun xs D W k) D W xs[k] h1.1
    have ih := capRun_le D W hc k (by omega)
    rw [capRun_succ hx, sumI_append, amountSum_next hx, show sumI [capPay xs (capRun xs D W k) D W xs[k]] = capPay xs (capRun xs D W k) D W xs[k] by simp [sumI]]
    omega
theorem savedBy_nonneg {xs : List Charge} {D W : Int} (hv : validCharges xs = true) : 0 ≤ amountSum xs - sumI (capRun xs D W xs.length) := by
  have h := capRun_le D W (fun c h => ⟨(chargeOk_mem hv c h).2.2.1, (chargeOk_mem hv c h).2.2.2⟩) xs.length (Nat.le_refl _)
  rw [List.take_length] at h
  omega
theorem sumI_dayTotals {xs : List Charge} (hv : validCharges xs = true) : sumI (dayTotals xs) = amountSum xs := by
  unfold dayTotals
  rw [if_pos hv, sumI_totals, sumR_totals xs (fun c h => ⟨(chargeOk_mem hv c h).1, (chargeOk_mem hv c h).2.1⟩)]
theorem paidBy_le_sum (p : Charge → Bool) : ∀ (xs : List Charge) (out : List Int), (∀ o ∈ out, 0 ≤ o) → paidBy p xs out ≤ sumI out
  | [], [], _ => Int.le_refl _
  | [], y :: ys, h => by
    have hy := h y (List.mem_cons_self ..)
    have := paidBy_le_sum p [] ys (fun o ho => h o (List.mem_cons_of_mem _ ho))
    have e : paidBy p [] ys = 0 := by cases ys <;> rfl
    rw [e] at this
    simp only [paidBy, sumI]
    omega
  | _ :: _, [], _ => Int.le_refl _
  | x :: xs, y :: out, h => by
    have hy := h y (List.mem_cons_self ..)
    have := paidBy_le_sum p xs out (fun o ho => h o (List.mem_cons_of_mem _ ho))
    simp only [paidBy, sumI]
    split <;> omega
theorem amountSum_take_le {xs : List Charge} (hc : ∀ c ∈ xs, 0 ≤ c.a ∧ c.a ≤ 4000) (k : Nat) : amountSum (xs.take k) ≤ amountSum xs := by
  have h := amountSum_append (xs.take k) (xs.drop k)
  rw [List.take_append_drop] at h
  have := (amountSum_bounds (xs.drop k) (fun c hcm => hc c (List.mem_of_mem_drop hcm))).1
  omega
/-- Large caps take nothing. -/
theorem capPay_large {xs : List Charge} {D W : Int} {k : Nat} {c : Charge} (hc : ∀ c ∈ xs, 0 ≤ c.a ∧ c.a ≤ 4000) (hD : amountSum xs ≤ D) (hW : amountSum xs ≤ W) (hx : xs[k]? = some c) : capPay xs (capRun xs D W k) D W c = c.a := by
  have hk : k < xs.length := (List.getElem?_eq_some_iff.1 hx).1
  have h1 := capRun_le D W hc k (by omega)
  have hb := capRun_bounds D W hc k
  have h2 := paidBy_le_sum (inSpan c.d 1) xs (capRun xs D W k) (fun o ho => (hb o ho).1)
  have h3 := paidBy_le_sum (inSpan c.d 7) xs (capRun xs D W k) (fun o ho => (hb o ho).1)
  have h4 := amountSum_take_le hc (k + 1)
  rw [amountSum_next hx] at h4
  have h5 := hc c (List.mem_of_getElem? hx)
  unfold capPay
  omega
theorem validCharges_drop {xs : List Charge} (k : Nat) (hv : validCharges xs = true) : validCharges (xs.drop k) = true := by
  have hm := chargeOk_mem hv
  unfold validCharges at hv ⊢
  simp only [Bool.and_eq_true, List.all_eq_true, List.mem_range, decide_eq_true_eq] at hv ⊢
  refine ⟨by rw [List.length_drop]; omega, fun i hi => ?_⟩
  rw [List.length_drop] at hi
  have h2 : k + i < xs.length := by omega
  have hget : ∀ j, (xs.drop k)[j]? = xs[k + j]? := fun j => List.getElem?_drop
  have hx : xs[k + i]? = some xs[k + i] := List.getElem?_eq_getElem h2
  have := hv.2 _ h2
  rw [chargeOkAt_of hx] at this
  rw [chargeOkAt_of ((hget i).trans hx)]
  simp only [Bool.and_eq_true, decide_eq_true_eq] at this ⊢
  refine ⟨this.1, ?_⟩
  cases i with
  | zero =>
    have := hm _ (List.getElem_mem h2)
    simp only [dayBefore]
    exact this.1
  | succ m =>
    have h3 := this.2
    have e : dayBefore xs (k + (m + 1)) = dayBefore (xs.drop k) (m + 1) := by
      rw [← Nat.add_assoc]
      simp only [dayBefore]
      rw [hget m]
    rw [← e]
    exact h3
theorem dayTotal_parts (i k : Nat) (xs : List Charge) : dayTotal i (xs.take k) + dayTotal i (xs.drop k) = dayTotal i xs := by
  rw [← dayTotal_append, List.take_append_drop]
theorem capCharges_take {xs : List Charge} {D W : Int} (k : Nat) (hk : k ≤ xs.length) (hv : validCharges xs = true) (hd : capOk D = true) (hw : capOk W = true) : capCharges (xs.take k) D W = (capRun xs D W xs.length).take k := by
  unfold capCharges
  rw [validCharges_take k hv, hd, hw]
  simp only [Bool.and_self, if_true]
  rw [List.length_take, Nat.min_eq_left hk, capRun_prefix xs D W k k (Nat.le_refl _)]
  have h := capRun_take xs D W k (xs.length - k) (by omega)
  rw [show k + (xs.length - k) = xs.length by omega] at h
  exact h.symm
theorem capCharges_some {xs : List Charge} {D W : Int} (h : 0 < (capCharges xs D W).length) : validCharges xs = true ∧ capOk D = true ∧ capOk W = true ∧ capCharges xs D W = capRun xs D W xs.length := by
  unfold capCharges at h ⊢
  by_cases hc : (validCharges xs && capOk D && capOk W) = true
  · rw [if_pos hc]
    simp only [Bool.and_eq_true] at hc
    exact ⟨hc.1.1, hc.1.2, hc.2, rfl⟩
  · rw [if_neg hc] at h; simp at h
theorem capCharges_valid {xs : List Charge} {D W : Int} (hv : validCharges xs = true) (hd : capOk D = true) (hw : capOk W = true) : capCharges xs D W = capRun xs D W xs.length := by
  unfold capCharges; rw [hv, hd, hw]; rfl
theorem capOk_iff {n : Int} : capOk n = true ↔ 0 ≤ n ∧ n ≤ 50000 := by unfold capOk; simp
theorem capOk_of {n : Int} (h0 : 0 ≤ n) (h1 : n ≤ 50000) : capOk n = true := capOk_iff.2 ⟨h0, h1⟩
def weekSums (n : Nat) (f : Nat → Int) : List Int := (List.range 5).map (weekPart n f)
theorem weekSums_length (n : Nat) (f : Nat → Int) : (weekSums n f).length = 5 := by simp [weekSums]
theorem weekSums_get (n : Nat) (f : Nat → Int) {w : Nat} (h : w < 5) : (weekSums n f)[w]? = some (weekPart n f w) := by simp [weekSums, h]
theorem weekSums_succ (n : Nat) (f : Nat → Int) (hn : n < 29) : weekSums (n + 1) f = (weekSums n f).set (n / 7) (weekPart n f (n / 7) + f n) := by
  apply List.ext_getElem?
  intro w
  by_cases hw : w < 5
  · rw [weekSums_get _ _ hw, List.getElem?_set, weekPart_succ]
    by_cases e : n / 7 = w
    · subst e
      rw [if_pos rfl, if_pos rfl, if_pos (by rw [weekSums_length]; exact hw)]
    · rw [if_neg e, if_neg e, weekSums_get _ _ hw, Int.add_zero]
  · rw [List.getElem?_eq_none (by rw [weekSums_length]; omega), List.getElem?_eq_none (by rw [List.length_set, weekSums_length]; omega)]
theorem weekPart_bounds {f : Nat → Int} {M : Int} (hM : 0 ≤ M) (h : ∀ i, 0 ≤ f i ∧ f i ≤ M) (w : Nat) : ∀ n, 0 ≤ weekPart n f w ∧ weekPart n f w ≤ M * n
  | 0 => by simp [weekPart, sumR]
  | n + 1 => by
    have ih := weekPart_bounds hM h w n
    have hf := h n
    rw [weekPart_succ, show ((n + 1 : Nat) : Int) = (n : Int) + 1 by omega, Int.mul_add, Int.mul_one]
    split <;> omega
end Fares

theorem Reads.prefix {w : World} {B : Nat} {A : Option Addr} {vs us : List Value} (h : Reads w B A (vs ++ us)) : Reads w B A vs := fun hn => by
  obtain ⟨a, e, hb, hc⟩ := h (by intro e; exact hn (List.append_eq_nil_iff.1 e).1)
  exact ⟨a, e, hb, fun i u hu => hc i u (by rw [List.getElem?_append_left (List.getElem?_eq_some_iff.1 hu).1]; exact hu)⟩
theorem Charges.take {w : World} {B : Nat} {A : Option Addr} {xs : List Fares.Charge} (h : Charges w B A xs) (k : Nat) : Charges w B A (xs.take k) := by
  refine Reads.prefix (us := (xs.drop k).flatMap chargeCells) ?_
  rw [← List.flatMap_append, List.take_append_drop]
  exact h
theorem Charges.drop {w : World} {B b o : Nat} {xs : List Fares.Charge} (h : Charges w B (some ⟨b, o, none⟩) xs) (k : Nat) (hk : k ≤ xs.length) : Charges w B (some ⟨b, o + k * 2, none⟩) (xs.drop k) := fun hne => by
  have hlen : xs.length - k > 0 := by
    rcases Nat.lt_or_ge k xs.length with h1 | h1
    · omega
    · rw [List.drop_eq_nil_of_le h1] at hne; exact absurd rfl hne
  obtain ⟨b', o', e, hb, hr⟩ := Charges.row h (by omega)
  injection e with e
  injection e with e1 e2
  subst e1 e2
  refine ⟨_, rfl, hb, fun i u hu => ?_⟩
  rw [Addr.add_mid]
  have hi : i < (xs.drop k).length * 2 := by
    rw [← length_flat chargeCells 2 (fun _ => rfl)]
    exact (List.getElem?_eq_some_iff.1 hu).1
  rw [List.length_drop] at hi
  have ei : i = i / 2 * 2 + i % 2 := by omega
  rw [ei, flat_get chargeCells 2 (fun _ => rfl) _ _ _ (by omega), List.getElem?_drop] at hu
  have hq : k + i / 2 < xs.length := by omega
  rw [List.getElem?_eq_getElem hq] at hu
  obtain ⟨h0, h1⟩ := hr _ _ (List.getElem?_eq_getElem hq)
  have hm : i % 2 = 0 ∨ i % 2 = 1 := by omega
  rcases hm with hm | hm
  · rw [hm] at hu
    have : u = .int .i64 xs[k + i / 2].d := by simpa [chargeCells] using hu.symm
    subst this
    rw [show o + k * 2 + i = o + (k + i / 2) * 2 by omega]
    exact h0
  · rw [hm] at hu
    have : u = .int .i64 xs[k + i / 2].a := by simpa [chargeCells] using hu.symm
    subst this
    rw [show o + k * 2 + i = o + (k + i / 2) * 2 + 1 by omega]
    exact h1
end Go.Proofs.Ytnahdclmfegmeaa
