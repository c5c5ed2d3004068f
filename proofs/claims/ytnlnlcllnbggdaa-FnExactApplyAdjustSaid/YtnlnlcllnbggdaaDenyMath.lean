/-
  Numbers that ascend; deny lists.
-/
import Derived.Test.YtnlnlcllnbggdaaComps
import Derived.Test.YtnlnlcllnbggdaaTariffMath
set_option linter.unusedSimpArgs false
set_option linter.unusedVariables false
namespace Go.Proofs.Ytnlnlcllnbggdaa.Fares
def ascOk (xs : List Int) (M : Int) : Prop := (∀ (k : Nat) (a : Int), xs[k]? = some a → 0 ≤ a ∧ a ≤ M) ∧ ∀ (k : Nat) (a b : Int), xs[k]? = some a → xs[k + 1]? = some b → a < b
open Classical in
noncomputable def ascends (xs : List Int) (M : Int) : Bool := decide (ascOk xs M)
open Classical in
theorem ascends_true {xs : List Int} {M : Int} (h : ascOk xs M) : ascends xs M = true := by unfold ascends; exact decide_eq_true h
open Classical in
theorem ascends_false {xs : List Int} {M : Int} (h : ¬ ascOk xs M) : ascends xs M = false := by unfold ascends; exact decide_eq_false h
open Classical in
theorem ascends_iff {xs : List Int} {M : Int} : ascends xs M = true ↔ ascOk xs M := by unfold ascends; exact decide_eq_true_iff
/-- the number ahead of place k, or -1 -/
def LastOf (xs : List Int) (k : Nat) (l : Int) : Prop := (k = 0 ∧ l = -1) ∨ ∃ j, k = j + 1 ∧ xs[j]? = some l
theorem ascOk_nil (M : Int) : ascOk [] M := ⟨fun k a h => by simp at h, fun k a b h => by simp at h⟩
theorem LastOf.next {xs : List Int} {k : Nat} {a : Int} (h : xs[k]? = some a) : LastOf xs (k + 1) a := .inr ⟨k, rfl, h⟩
theorem ascOk_take_succ {xs : List Int} {M : Int} {k : Nat} {l a : Int} (h : ascOk (xs.take k) M) (hl : LastOf xs k l) (ha : xs[k]? = some a) (h1 : l < a) (h2 : a ≤ M) : ascOk (xs.take (k + 1)) M := by
  have hk : ∀ j b, j < k → xs[j]? = some b → (xs.take k)[j]? = some b := fun j b hj hb => by rw [List.getElem?_take, if_pos hj]; exact hb
  have hu : ∀ j b, (xs.take (k + 1))[j]? = some b → j < k + 1 ∧ xs[j]? = some b := fun j b hb => by
    rw [List.getElem?_take] at hb
    split at hb
    · exact ⟨by assumption, hb⟩
    · cases hb
  have hl0 : -1 ≤ l := by
    rcases hl with ⟨_, hx⟩ | ⟨j, hj, hx⟩
    · omega
    · have := h.1 j l (hk j l (by omega) hx); omega
  constructor
  · intro j b hb
    obtain ⟨hj, hb'⟩ := hu j b hb
    rcases Nat.lt_or_ge j k with hlt | hge
    · exact h.1 j b (hk j b hlt hb')
    · have e : j = k := by omega
      subst e
      rw [ha] at hb'
      injection hb' with hb'
      omega
  · intro j b c hb hc
    obtain ⟨_, hb'⟩ := hu j b hb
    obtain ⟨hj, hc'⟩ := hu (j + 1) c hc
    rcases Nat.lt_or_ge (j + 1) k with hlt | hge
    · exact h.2 j b c (hk j b (by omega) hb') (hk (j + 1) c hlt hc')
    · have e : j + 1 = k := by omega
      subst e
      rw [ha] at hc'
      injection hc' with hc'
      rcases hl with ⟨h0, _⟩ | ⟨i, hi, hli⟩
      · omega
      · have e : i = j := by omega
        subst e
        rw [hb'] at hli
        injection hli with hli
        omega
theorem ascOk_all {xs : List Int} {M : Int} {k : Nat} (h : ascOk (xs.take k) M) (hk : xs.length ≤ k) : ascOk xs M := by rwa [List.take_of_length_le hk] at h
theorem ascOk_take {xs : List Int} {M : Int} (h : ascOk xs M) (k : Nat) : ascOk (xs.take k) M := by
  have hu : ∀ j b, (xs.take k)[j]? = some b → xs[j]? = some b := fun j b hb => by
    rw [List.getElem?_take] at hb
    split at hb
    · exact hb
    · cases hb
  exact ⟨fun j a ha => h.1 j a (hu j a ha), fun j a b ha hb => h.2 j a b (hu j a ha) (hu _ b hb)⟩
theorem ascOk_not {xs : List Int} {M : Int} {k : Nat} {l a : Int} (hl : LastOf xs k l) (ha : xs[k]? = some a) (h : a ≤ l ∨ M < a) : ¬ ascOk xs M := by
  intro ⟨h1, h2⟩
  have h3 := h1 k a ha
  rcases hl with ⟨_, e⟩ | ⟨j, e, hj⟩
  · omega
  · subst e
    have := h2 j l a hj ha
    omega
noncomputable def validDeny (d : Deny) : Bool := decide (0 ≤ d.ver ∧ d.ver ≤ 999 ∧ d.cards.length ≤ 12) && ascends d.cards 99
end Go.Proofs.Ytnlnlcllnbggdaa.Fares
