/-
  Validators.
-/
import Derived.Test.YtpijjlggmibfnaaDenyMath
import Derived.Test.YtpijjlggmibfnaaTapMath
set_option linter.unusedSimpArgs false
set_option linter.unusedVariables false
namespace Go.Proofs.Ytpijjlggmibfnaa.Fares
/-- taps of validator v with numbers below nx that ascend -/
def KeptOk (v nx : Int) (xs : List Tap) : Prop := (∀ (k : Nat) (t : Tap), xs[k]? = some t → validTap t = true ∧ t.v = v ∧ t.n < nx) ∧ ∀ (k : Nat) (a b : Tap), xs[k]? = some a → xs[k + 1]? = some b → a.n < b.n
open Classical in
noncomputable def keptOk (v nx : Int) (xs : List Tap) : Bool := decide (KeptOk v nx xs)
open Classical in
theorem keptOk_true {v nx : Int} {xs : List Tap} (h : KeptOk v nx xs) : keptOk v nx xs = true := by unfold keptOk; exact decide_eq_true h
open Classical in
theorem keptOk_false {v nx : Int} {xs : List Tap} (h : ¬ KeptOk v nx xs) : keptOk v nx xs = false := by unfold keptOk; exact decide_eq_false h
open Classical in
theorem keptOk_iff {v nx : Int} {xs : List Tap} : keptOk v nx xs = true ↔ KeptOk v nx xs := by unfold keptOk; exact decide_eq_true_iff
def LastN (xs : List Tap) (k : Nat) (l : Int) : Prop := (k = 0 ∧ l = -1) ∨ ∃ j t, k = j + 1 ∧ xs[j]? = some t ∧ t.n = l
theorem LastN.next {xs : List Tap} {k : Nat} {t : Tap} (h : xs[k]? = some t) : LastN xs (k + 1) t.n := .inr ⟨k, t, rfl, h, rfl⟩
theorem KeptOk.nil (v nx : Int) : KeptOk v nx [] := ⟨fun k a h => by simp at h, fun k a b h => by simp at h⟩
theorem take_some {T : Type} {xs : List T} {k j : Nat} {b : T} (h : (xs.take k)[j]? = some b) : j < k ∧ xs[j]? = some b := by
  rw [List.getElem?_take] at h
  split at h
  · exact ⟨by assumption, h⟩
  · cases h
theorem KeptOk.take {v nx : Int} {xs : List Tap} (h : KeptOk v nx xs) (k : Nat) : KeptOk v nx (xs.take k) :=
  ⟨fun j t ht => h.1 j t (take_some ht).2, fun j a b ha hb => h.2 j a b (take_some ha).2 (take_some hb).2⟩
theorem KeptOk.all {v nx : Int} {xs : List Tap} {k : Nat} (h : KeptOk v nx (xs.take k)) (hk : xs.length ≤ k) : KeptOk v nx xs := by rwa [List.take_of_length_le hk] at h
theorem KeptOk.succ {v nx : Int} {xs : List Tap} {k : Nat} {t : Tap} {l : Int} (h : KeptOk v nx (xs.take k)) (hl : LastN xs k l) (ht : xs[k]? = some t) (h1 : validTap t = true) (h2 : t.v = v) (h3 : t.n < nx) (h4 : l < t.n) : KeptOk v nx (xs.take (k + 1)) := by
  have hk : ∀ (j : Nat) (b : Tap), j < k → xs[j]? = some b → (xs.take k)[j]? = some b := fun j b hj hb => by rw [List.getElem?_take, if_pos hj]; exact hb
  constructor
  · intro j b hb
    obtain ⟨hj, hb⟩ := take_some hb
    rcases Nat.lt_or_ge j k with hlt | hge
    · exact h.1 j b (hk j b hlt hb)
    · have e : j = k := by omega
      rw [e, ht] at hb
      injection hb with hb
      subst hb
      exact ⟨h1, h2, h3⟩
  · intro j b c hb hc
    obtain ⟨_, hb⟩ := take_some hb
    obtain ⟨hj, hc⟩ := take_some hc
    rcases Nat.lt_or_ge (j + 1) k with hlt | hge
    · exact h.2 j b c (hk j b (by omega) hb) (hk (j + 1) c hlt hc)
    · have e : j + 1 = k := by omega
      rw [e, ht] at hc
      injection hc with hc
      rcases hl with ⟨h0, _⟩ | ⟨i, q, hi, hq, hql⟩
      · omega
      · have e2 : i = j := by omega
        rw [e2, hb] at hq
        injection hq with hq
        subst hc hq
        omega
theorem KeptOk.not_tap {v nx : Int} {xs : List Tap} {k : Nat} {t : Tap} (ht : xs[k]? = some t) (h : ¬ (validTap t = true ∧ t.v = v ∧ t.n < nx)) : ¬ KeptOk v nx xs := fun e => h (e.1 k t ht)
theorem KeptOk.not_last {v nx : Int} {xs : List Tap} {k : Nat} {t : Tap} {l : Int} (hl : LastN xs k l) (ht : xs[k]? = some t) (h : t.n ≤ l) : ¬ KeptOk v nx xs := by
  intro e
  rcases hl with ⟨h0, h1⟩ | ⟨j, q, hj, hq, hql⟩
  · have := (e.1 k t ht).1
    unfold validTap at this
    rw [decide_eq_true_eq] at this
    omega
  · subst hj
    have := e.2 j q t hq ht
    omega
theorem valid_num {t : Tap} (h : validTap t = true) : 0 ≤ t.n ∧ t.n ≤ 999 := by
  unfold validTap at h
  rw [decide_eq_true_eq] at h
  omega
noncomputable def validGate (g : Gate) : Bool := decide (0 ≤ g.val ∧ g.val ≤ 9 ∧ 0 ≤ g.nxt ∧ g.nxt ≤ 1000) && validDeny g.deny && decide (g.kept.length ≤ 10) && keptOk g.val g.nxt g.kept
end Go.Proofs.Ytpijjlggmibfnaa.Fares
