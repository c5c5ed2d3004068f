/-
  Chapter 2: tariffs as plain functions.
-/
import Derived.Test.YtnlnlcllnbggdaaBandMath
set_option linter.unusedSimpArgs false
set_option linter.unusedVariables false
namespace Go.Proofs.Ytnlnlcllnbggdaa.Fares
structure Tariff where
  p : List (List Int)
  z : List Int
  k : List Band
  e : Int
  t : Int
deriving DecidableEq
/-- All numbers are in 0..most. -/
def within (xs : List Int) (most : Int) : Bool := xs.all fun x => decide (0 ≤ x ∧ x ≤ most)
def rowOk (n : Nat) (r : List Int) : Bool := decide (r.length = n) && within r 2000
def pricesOk (p : List (List Int)) : Bool := decide (1 ≤ p.length ∧ p.length ≤ 5) && p.all (rowOk p.length)
def zonesOk (z : List Int) (n : Nat) : Bool := decide (1 ≤ z.length ∧ z.length ≤ 10) && within z ((n : Int) - 1)
def extraOk (e : Int) : Bool := decide (0 ≤ e ∧ e ≤ 100)
def topOk (t : Int) : Bool := decide (0 ≤ t ∧ t ≤ 4000)
def validTariff (t : Tariff) : Bool := pricesOk t.p && zonesOk t.z t.p.length && validBands t.k && extraOk t.e && topOk t.t
def cell (p : List (List Int)) (a b : Nat) : Int := ((p.getD a []).getD b 0)
def zone (t : Tariff) (s : Nat) : Nat := (t.z.getD s 0).toNat
/-- The price between two stops. -/
def base (t : Tariff) (a b : Nat) : Int := cell t.p (zone t a) (zone t b)
def hasStop (t : Tariff) (s : Int) : Bool := decide (0 ≤ s ∧ s < t.z.length)
def peakAt (k : List Band) (m : Int) : Bool := workday (dayOf m) && k.any (fun b => inBand b (m % 1440))
def fare (t : Tariff) (a b : Nat) (m : Int) : Int := base t a b + (if peakAt t.k m then base t a b * t.e / 100 else 0)
def basePrice (t : Tariff) (a b : Int) : Int := if validTariff t && hasStop t a && hasStop t b then base t a.toNat b.toNat else -1
def fareOf (t : Tariff) (a b m : Int) : Int := if validTariff t && hasStop t a && hasStop t b && minuteOk m then fare t a.toNat b.toNat m else -1

theorem within_of {xs : List Int} {M : Int} (h : within xs M = true) {k : Nat} {x : Int} (hk : xs[k]? = some x) : 0 ≤ x ∧ x ≤ M := by
  unfold within at h
  rw [List.all_eq_true] at h
  simpa using h x (List.mem_of_getElem? hk)
theorem within_false {xs : List Int} {M : Int} {k : Nat} {x : Int} (hk : xs[k]? = some x) (h : ¬ (0 ≤ x ∧ x ≤ M)) : within xs M = false := by
  unfold within
  rw [List.all_eq_false]
  exact ⟨x, List.mem_of_getElem? hk, by simpa using h⟩
theorem within_true {xs : List Int} {M : Int} (h : ∀ (k : Nat) (x : Int), xs[k]? = some x → 0 ≤ x ∧ x ≤ M) : within xs M = true := by
  unfold within
  rw [List.all_eq_true]
  intro a ha
  obtain ⟨i, hi⟩ := List.getElem?_of_mem ha
  simpa using h i a hi
theorem pricesOk_len {p : List (List Int)} (h : pricesOk p = true) : 1 ≤ p.length ∧ p.length ≤ 5 := by
  unfold pricesOk at h
  simp only [Bool.and_eq_true, decide_eq_true_eq] at h
  exact h.1
theorem pricesOk_row {p : List (List Int)} (h : pricesOk p = true) {a : Nat} {r : List Int} (hr : p[a]? = some r) : r.length = p.length ∧ within r 2000 = true := by
  unfold pricesOk at h
  simp only [Bool.and_eq_true, decide_eq_true_eq, List.all_eq_true] at h
  have := h.2 r (List.mem_of_getElem? hr)
  unfold rowOk at this
  simpa using this
theorem validTariff_iff {t : Tariff} : validTariff t = true ↔ pricesOk t.p = true ∧ zonesOk t.z t.p.length = true ∧ validBands t.k = true ∧ extraOk t.e = true ∧ topOk t.t = true := by
  unfold validTariff
  simp only [Bool.and_eq_true, and_assoc]
theorem zonesOk_iff {z : List Int} {n : Nat} : zonesOk z n = true ↔ (1 ≤ z.length ∧ z.length ≤ 10) ∧ within z ((n : Int) - 1) = true := by
  unfold zonesOk
  simp only [Bool.and_eq_true, decide_eq_true_eq]
/-- The zone of a stop, and the row of its prices. -/
theorem zone_get {t : Tariff} (hv : validTariff t = true) {s : Nat} (hs : s < t.z.length) : ∃ (z : Nat) (r : List Int), t.z[s]? = some (z : Int) ∧ zone t s = z ∧ z < t.p.length ∧ t.p[z]? = some r ∧ r.length = t.p.length := by
  obtain ⟨hp, hz, _⟩ := validTariff_iff.1 hv
  have hz2 := (zonesOk_iff.1 hz).2
  have hx : t.z[s]? = some t.z[s] := List.getElem?_eq_getElem hs
  have hb := within_of hz2 hx
  obtain ⟨z, hzz⟩ := Int.eq_ofNat_of_zero_le hb.1
  have hlt : z < t.p.length := by omega
  refine ⟨z, t.p[z], by rw [hx, hzz], ?_, hlt, List.getElem?_eq_getElem hlt, (pricesOk_row hp (List.getElem?_eq_getElem hlt)).1⟩
  unfold zone
  rw [List.getD_eq_getElem?_getD, hx]
  simp [hzz]
theorem cell_of {p : List (List Int)} {a b : Nat} {r : List Int} {x : Int} (hr : p[a]? = some r) (hx : r[b]? = some x) : cell p a b = x := by
  unfold cell
  simp only [List.getD_eq_getElem?_getD, hr, Option.getD_some, hx]
theorem base_bounds {t : Tariff} (hv : validTariff t = true) {a b : Nat} (ha : a < t.z.length) (hb : b < t.z.length) : 0 ≤ base t a b ∧ base t a b ≤ 2000 := by
  obtain ⟨za, ra, _, ea, la, hra, hla⟩ := zone_get hv ha
  obtain ⟨zb, rb, _, eb, lb, hrb, hlb⟩ := zone_get hv hb
  obtain ⟨hp, _⟩ := validTariff_iff.1 hv
  have hw := (pricesOk_row hp hra).2
  have hx : ra[zb]? = some (ra[zb]'(by omega)) := List.getElem?_eq_getElem (by omega)
  unfold base
  rw [ea, eb, cell_of hra hx]
  exact within_of hw hx
theorem extra_bounds {t : Tariff} (hv : validTariff t = true) : 0 ≤ t.e ∧ t.e ≤ 100 := by
  have h := (validTariff_iff.1 hv).2.2.2.1
  unfold extraOk at h
  simpa using h
theorem top_bounds {t : Tariff} (hv : validTariff t = true) : 0 ≤ t.t ∧ t.t ≤ 4000 := by
  have h := (validTariff_iff.1 hv).2.2.2.2
  unfold topOk at h
  simpa using h
theorem mul_bounds {x e : Int} (h0 : 0 ≤ x) (h1 : x ≤ 2000) (e0 : 0 ≤ e) (e1 : e ≤ 100) : 0 ≤ x * e ∧ x * e ≤ 200000 ∧ x * e ≤ 100 * x := by
  have h2 : 0 ≤ x * e := Int.mul_nonneg h0 e0
  have h3 : x * e ≤ x * 100 := Int.mul_le_mul_of_nonneg_left e1 h0
  omega
theorem fare_bounds {t : Tariff} (hv : validTariff t = true) {a b : Nat} (ha : a < t.z.length) (hb : b < t.z.length) (m : Int) : base t a b ≤ fare t a b m ∧ fare t a b m ≤ 4000 := by
  obtain ⟨b0, b1⟩ := base_bounds hv ha hb
  obtain ⟨e0, e1⟩ := extra_bounds hv
  have := mul_bounds b0 b1 e0 e1
  unfold fare
  split <;> omega
theorem pricesOk_no {p : List (List Int)} {a : Nat} {r : List Int} (hr : p[a]? = some r) (h : rowOk p.length r = false) : pricesOk p = false := by
  unfold pricesOk
  rw [Bool.and_eq_false_iff]
  exact .inr (by rw [List.all_eq_false]; exact ⟨r, List.mem_of_getElem? hr, by simp [h]⟩)
theorem pricesOk_few {p : List (List Int)} (h : ¬ (1 ≤ p.length ∧ p.length ≤ 5)) : pricesOk p = false := by
  unfold pricesOk
  rw [decide_eq_false h]; rfl
theorem pricesOk_yes {p : List (List Int)} (h : 1 ≤ p.length ∧ p.length ≤ 5) (ha : ∀ (a : Nat) (r : List Int), p[a]? = some r → rowOk p.length r = true) : pricesOk p = true := by
  unfold pricesOk
  rw [decide_eq_true h, Bool.true_and, List.all_eq_true]
  intro r hr
  obtain ⟨i, hi⟩ := List.getElem?_of_mem hr
  exact ha i r hi
theorem rowOk_eq {n : Nat} {r : List Int} (h : r.length = n) : rowOk n r = within r 2000 := by unfold rowOk; rw [decide_eq_true h, Bool.true_and]
theorem rowOk_ne {n : Nat} {r : List Int} (h : r.length ≠ n) : rowOk n r = false := by unfold rowOk; rw [decide_eq_false h, Bool.false_and]
theorem zonesOk_len {z : List Int} {n : Nat} (h : ¬ (1 ≤ z.length ∧ z.length ≤ 10)) : zonesOk z n = false := by
  unfold zonesOk
  rw [decide_eq_false h]; rfl
theorem zonesOk_eq {z : List Int} {n : Nat} (h : 1 ≤ z.length ∧ z.length ≤ 10) : zonesOk z n = within z ((n : Int) - 1) := by
  unfold zonesOk
  rw [decide_eq_true h, Bool.true_and]
theorem validTariff_prices {t : Tariff} (h : pricesOk t.p = false) : validTariff t = false := by unfold validTariff; rw [h]; rfl
theorem validTariff_zones {t : Tariff} (h : zonesOk t.z t.p.length = false) : validTariff t = false := by unfold validTariff; rw [h]; simp
theorem validTariff_bands {t : Tariff} (h : validBands t.k = false) : validTariff t = false := by unfold validTariff; rw [h]; simp
theorem validTariff_extra {t : Tariff} (h : ¬ (0 ≤ t.e ∧ t.e ≤ 100)) : validTariff t = false := by unfold validTariff extraOk; rw [decide_eq_false h]; simp
theorem validTariff_top {t : Tariff} (h : ¬ (0 ≤ t.t ∧ t.t ≤ 4000)) : validTariff t = false := by unfold validTariff topOk; rw [decide_eq_false h]; simp
theorem validTariff_yes {t : Tariff} (h1 : pricesOk t.p = true) (h2 : zonesOk t.z t.p.length = true) (h3 : validBands t.k = true) (h4 : 0 ≤ t.e ∧ t.e ≤ 100) (h5 : 0 ≤ t.t ∧ t.t ≤ 4000) : validTariff t = true := by
  unfold validTariff extraOk topOk
  rw [h1, h2, h3, decide_eq_true h4, decide_eq_true h5]; rfl
theorem basePrice_invalid {t : Tariff} (h : validTariff t = false) (a b : Int) : basePrice t a b = -1 := by unfold basePrice; rw [h]; simp
theorem basePrice_from {t : Tariff} {a : Int} (h : ¬ (0 ≤ a ∧ a < t.z.length)) (b : Int) : basePrice t a b = -1 := by unfold basePrice hasStop; rw [decide_eq_false h]; simp
theorem basePrice_to {t : Tariff} {b : Int} (h : ¬ (0 ≤ b ∧ b < t.z.length)) (a : Int) : basePrice t a b = -1 := by unfold basePrice hasStop; rw [decide_eq_false h]; simp
theorem basePrice_yes {t : Tariff} (hv : validTariff t = true) {a b : Nat} (ha : a < t.z.length) (hb : b < t.z.length) : basePrice t a b = base t a b := by
  unfold basePrice hasStop
  rw [hv, decide_eq_true (show (0 : Int) ≤ a ∧ (a : Int) < t.z.length by omega), decide_eq_true (show (0 : Int) ≤ b ∧ (b : Int) < t.z.length by omega)]
  simp
theorem fareOf_base {t : Tariff} {a b m : Int} (h : basePrice t a b < 0) (hb : ∀ x y : Nat, x < t.z.length → y < t.z.length → validTariff t = true → 0 ≤ base t x y) : fareOf t a b m = -1 := by
  unfold basePrice at h
  unfold fareOf
  by_cases hh : (validTariff t && hasStop t a && hasStop t b) = true
  · rw [hh] at h
    simp only [Bool.and_eq_true, hasStop, decide_eq_true_eq] at hh
    have := hb a.toNat b.toNat (by omega) (by omega) hh.1.1
    simp only [if_true] at h
    omega
  · rw [Bool.not_eq_true] at hh
    rw [hh]; rfl
theorem fareOf_late {t : Tariff} {m : Int} (h : minuteOk m = false) (a b : Int) : fareOf t a b m = -1 := by unfold fareOf; rw [h]; simp
theorem fareOf_yes {t : Tariff} (hv : validTariff t = true) {a b : Nat} (ha : a < t.z.length) (hb : b < t.z.length) {m : Int} (hm : minuteOk m = true) : fareOf t a b m = fare t a b m := by
  unfold fareOf hasStop
  rw [hv, hm, decide_eq_true (show (0 : Int) ≤ a ∧ (a : Int) < t.z.length by omega), decide_eq_true (show (0 : Int) ≤ b ∧ (b : Int) < t.z.length by omega)]
  simp
theorem basePrice_some {t : Tariff} {a b : Int} (h : ¬ basePrice t a b < 0) : ∃ x y : Nat, a = x ∧ b = y ∧ x < t.z.length ∧ y < t.z.length ∧ validTariff t = true ∧ basePrice t a b = base t x y := by
  by_cases hh : (validTariff t && hasStop t a && hasStop t b) = true
  · have h2 := hh
    simp only [Bool.and_eq_true, hasStop, decide_eq_true_eq] at h2
    refine ⟨a.toNat, b.toNat, by omega, by omega, by omega, by omega, h2.1.1, ?_⟩
    unfold basePrice
    rw [hh]; rfl
  · exfalso
    unfold basePrice at h
    rw [if_neg hh] at h
    omega
theorem fareOf_invalid {t : Tariff} (h : validTariff t = false) (a b m : Int) : fareOf t a b m = -1 := by unfold fareOf; rw [h]; simp
theorem fareOf_from {t : Tariff} {a : Int} (h : ¬ (0 ≤ a ∧ a < t.z.length)) (b m : Int) : fareOf t a b m = -1 := by unfold fareOf hasStop; rw [decide_eq_false h]; simp
theorem fareOf_to {t : Tariff} {b : Int} (h : ¬ (0 ≤ b ∧ b < t.z.length)) (a m : Int) : fareOf t a b m = -1 := by unfold fareOf hasStop; rw [decide_eq_false h]; simp
theorem isPeak_of {xs : List Band} {m : Int} (h : validBands xs = true) (hm : minuteOk m = true) : isPeak xs m = peakAt xs m := by
  unfold isPeak peakAt
  rw [h, hm]; simp
/-- A stop fewer. -/
theorem validTariff_take {t : Tariff} (h : validTariff t = true) {m : Nat} (h1 : 1 ≤ m) (h2 : m ≤ t.z.length) : validTariff ⟨t.p, t.z.take m, t.k, t.e, t.t⟩ = true := by
  obtain ⟨a, b, c, d, e⟩ := validTariff_iff.1 h
  refine validTariff_iff.2 ⟨a, ?_, c, d, e⟩
  obtain ⟨b1, b2⟩ := zonesOk_iff.1 b
  refine zonesOk_iff.2 ⟨?_, ?_⟩
  · show 1 ≤ (t.z.take m).length ∧ (t.z.take m).length ≤ 10
    rw [List.length_take]; omega
  · exact within_true (fun k x hk => by
      rw [List.getElem?_take] at hk
      split at hk
      · exact within_of b2 hk
      · cases hk)
end Go.Proofs.Ytnlnlcllnbggdaa.Fares
