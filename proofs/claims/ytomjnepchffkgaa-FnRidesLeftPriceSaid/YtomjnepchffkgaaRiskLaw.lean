/-
  Plain facts of chapter 17's laws.
-/
import Derived.Test.YtomjnepchffkgaaRiskFn
set_option linter.unusedSimpArgs false
namespace Go.Proofs.Ytomjnepchffkgaa
open Go.RowKit
set_option linter.unusedVariables false

theorem OwnBools.nilOk {w : World} {base : Nat} {A : Option Addr} {n c : Nat} {ys : List Bool} (h : OwnBools w base (.slice A n c) ys) : A = none → n = 0 ∧ c = 0 := by
  rcases h.2 with ⟨hv, hl⟩ | ⟨g, cap, cur, hv, _⟩
  · injection hv with h1 h2 h3
    exact fun _ => ⟨h2, h3⟩
  · injection hv with h1 h2 h3
    intro e
    rw [e] at h1
    cases h1
theorem Fares.trustOf_range (xs : List Bool) (f s : Int) : Fares.trustOf xs f s = -1 ∨ (0 ≤ Fares.trustOf xs f s ∧ Fares.trustOf xs f s ≤ 5000) := by
  by_cases h : Fares.trustOk xs f s
  · exact .inr (Fares.trustOf_in h)
  · exact .inl (if_neg h)
theorem Fares.trust_ok {xs : List Bool} {f s v : Int} (h : Fares.trustOf xs f s = v) (hp : 0 ≤ v) : Fares.trustOk xs f s ∧ Fares.trustRun xs f s = v := by
  by_cases ho : Fares.trustOk xs f s
  · unfold Fares.trustOf at h
    rw [if_pos ho] at h
    exact ⟨ho, h⟩
  · unfold Fares.trustOf at h
    rw [if_neg ho] at h
    omega
theorem Fares.trust_law {xs : List Bool} {f s v : Int} (h : Fares.trustOf xs f s = v) (hp : 0 ≤ v) (hl : xs.length ≠ 30) (hl2 : xs.length ≤ 31) :
    Fares.trustOf (xs ++ [true]) f s = (if 5000 < v + s then 5000 else v + s) ∧ Fares.trustOf (xs ++ [false]) f s = 0 := by
  obtain ⟨ho, hr⟩ := Fares.trust_ok h hp
  have ho' := ho
  unfold Fares.trustOk at ho
  have hk : ∀ b, Fares.trustOk (xs ++ [b]) f s := fun b => by
    unfold Fares.trustOk
    simp only [List.length_append, List.length_singleton]
    omega
  unfold Fares.trustOf
  rw [if_pos (hk true), if_pos (hk false), Fares.trustRun_snoc, Fares.trustRun_snoc, hr]
  exact ⟨rfl, rfl⟩
theorem Fares.trust_first {xs : List Bool} {f s v : Int} (h : Fares.trustOf xs f s = v) (hp : 0 ≤ v) :
    v ≤ Fares.trustOf xs (if 5000 < f + 100 then 5000 else f + 100) s ∧ Fares.trustOf [] f s = f := by
  obtain ⟨ho, hr⟩ := Fares.trust_ok h hp
  have ho' := ho
  unfold Fares.trustOk at ho
  obtain ⟨h1, h2, h3, h4, h5⟩ := ho
  refine ⟨?_, ?_⟩
  · unfold Fares.trustOf
    rw [if_pos (by unfold Fares.trustOk; split <;> omega), ← hr]
    refine Fares.trustRun_mono xs _ _ ?_
    split <;> omega
  · unfold Fares.trustOf
    rw [if_pos (by unfold Fares.trustOk; simp; omega)]
    rfl
theorem Fares.may_law {o t p : Int} (h : Fares.mayRide o t p = true) :
    0 ≤ o ∧ o ≤ 100000 ∧ 0 ≤ t ∧ t ≤ 100000 ∧ 0 ≤ p ∧ p ≤ 4000 ∧ o + p ≤ t ∧ Fares.mayRide (o / 2) t p = true ∧ Fares.mayRide o (if 100000 < t + 1 then 100000 else t + 1) p = true ∧ Fares.mayRide o t (p / 2) = true := by
  unfold Fares.mayRide Fares.oweOk at *
  simp only [decide_eq_true_eq] at *
  refine ⟨by omega, by omega, by omega, by omega, by omega, by omega, by omega, by omega, ?_, by omega⟩
  split <;> omega
theorem Fares.left_ok {o t p v : Int} (h : Fares.ridesLeft o t p = v) (hp : 0 ≤ v) : (Fares.oweOk o t ∧ 1 ≤ p ∧ p ≤ 4000) ∧ (if 0 < t - o then t - o else 0) / p = v := by
  by_cases ho : Fares.oweOk o t ∧ 1 ≤ p ∧ p ≤ 4000
  · unfold Fares.ridesLeft at h
    rw [if_pos ho] at h
    exact ⟨ho, h⟩
  · unfold Fares.ridesLeft at h
    rw [if_neg ho] at h
    omega
theorem Fares.ridesLeft_range (o t p : Int) : Fares.ridesLeft o t p = -1 ∨ (0 ≤ Fares.ridesLeft o t p ∧ Fares.ridesLeft o t p ≤ 100000) := by
  by_cases ho : Fares.oweOk o t ∧ 1 ≤ p ∧ p ≤ 4000
  · right
    obtain ⟨m, hm⟩ : ∃ m, (if (0 : Int) < t - o then t - o else 0) = m := ⟨_, rfl⟩
    obtain ⟨m0, m1⟩ := rides_in (p := p) ho.1 hm
    unfold Fares.ridesLeft
    rw [if_pos ho, hm]
    exact ⟨Int.ediv_nonneg m0 (by omega), Int.le_trans (Int.ediv_le_self _ m0) m1⟩
  · exact .inl (if_neg ho)
theorem Fares.left_law {o t p v : Int} (h : Fares.ridesLeft o t p = v) (hp : 0 ≤ v) :
    Fares.mayRide o t p = decide (0 < v) ∧ (Fares.mayRide o t p = true → Fares.ridesLeft (o + p) t p = v - 1) ∧ 1 ≤ p ∧ p ≤ 4000 := by
  obtain ⟨⟨ho, h1, h2⟩, hv⟩ := Fares.left_ok h hp
  have ho' := ho
  unfold Fares.oweOk at ho'
  have hm : Fares.mayRide o t p = decide (o + p ≤ t) := by
    unfold Fares.mayRide
    by_cases hc : o + p ≤ t
    · rw [decide_eq_true hc, decide_eq_true (show _ ∧ _ from ⟨ho, by omega, h2, hc⟩)]
    · rw [decide_eq_false hc, decide_eq_false (fun x => hc x.2.2.2)]
  refine ⟨?_, fun hmay => ?_, h1, h2⟩
  · rw [hm]
    by_cases hc : o + p ≤ t
    · rw [decide_eq_true hc, decide_eq_true]
      rw [← hv, if_pos (by omega)]
      have h9 : 1 ≤ (t - o) / p := (Int.le_ediv_iff_mul_le (by omega)).2 (by omega)
      omega
    · rw [decide_eq_false hc, decide_eq_false]
      rw [← hv]
      split
      · rw [Int.ediv_eq_zero_of_lt (by omega) (by omega)]
        omega
      · rw [Int.zero_ediv]
        omega
  · rw [hm, decide_eq_true_eq] at hmay
    unfold Fares.ridesLeft
    rw [if_pos ⟨by unfold Fares.oweOk; omega, h1, h2⟩, ← hv, if_pos (show 0 < t - o by omega)]
    have e : t - o = (t - (o + p)) + p * 1 := by omega
    have hd : (t - o) / p = (t - (o + p)) / p + 1 := by
      rw [e, Int.add_mul_ediv_left _ _ (by omega)]
    split
    · omega
    · have : t - (o + p) = 0 := by omega
      rw [hd, this]
      omega
theorem Fares.left_more {o t p v : Int} (h : Fares.ridesLeft o t p = v) (hp : 0 ≤ v) :
    v ≤ Fares.ridesLeft o t (if 1 < p - 1 then p - 1 else 1) ∧ Fares.ridesLeft (if 100000 < o + 1 then 100000 else o + 1) t p ≤ v := by
  obtain ⟨⟨ho, h1, h2⟩, hv⟩ := Fares.left_ok h hp
  have ho' := ho
  unfold Fares.oweOk at ho'
  obtain ⟨m, hm⟩ : ∃ m, (if (0 : Int) < t - o then t - o else 0) = m := ⟨_, rfl⟩
  obtain ⟨m0, m1⟩ := rides_in (p := p) ho hm
  rw [hm] at hv
  obtain ⟨q, hq⟩ : ∃ q, (if (1 : Int) < p - 1 then p - 1 else 1) = q := ⟨_, rfl⟩
  have hq1 : 1 ≤ q ∧ q ≤ p := by split at hq <;> omega
  refine ⟨?_, ?_⟩
  · rw [hq]
    unfold Fares.ridesLeft
    rw [if_pos ⟨ho, by omega, by omega⟩, hm]
    refine (Int.le_ediv_iff_mul_le (by omega)).2 ?_
    have hle : v * p ≤ m := by rw [← hv]; exact Int.ediv_mul_le _ (by omega)
    exact Int.le_trans (Int.mul_le_mul_of_nonneg_left hq1.2 hp) hle
  · obtain ⟨o', ho2⟩ : ∃ o', (if (100000 : Int) < o + 1 then 100000 else o + 1) = o' := ⟨_, rfl⟩
    have hoo : o ≤ o' ∧ o' ≤ 100000 := by split at ho2 <;> omega
    rw [ho2]
    unfold Fares.ridesLeft
    rw [if_pos ⟨by unfold Fares.oweOk; omega, h1, h2⟩, ← hv]
    refine Int.ediv_le_ediv (by omega) ?_
    split <;> split at hm <;> omega
end Go.Proofs.Ytomjnepchffkgaa
