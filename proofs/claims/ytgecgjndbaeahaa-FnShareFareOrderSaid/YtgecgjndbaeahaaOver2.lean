/-
  Parts of lists that are read: their beginnings and their ends.
-/
import Derived.Test.YtgecgjndbaeahaaOver
set_option linter.unusedSimpArgs false
namespace Go.Proofs.Ytgecgjndbaeahaa
open Go.RowKit
set_option linter.unusedVariables false
theorem flat_length {T : Type} (f : T → List Value) (s : Nat) (hf : ∀ x, (f x).length = s) (xs : List T) : (xs.flatMap f).length = xs.length * s := by
  induction xs with
  | nil => simp
  | cons y ys ih => simp [ih, hf, Nat.succ_mul]; omega
theorem reads_take {T : Type} (f : T → List Value) (s : Nat) (hf : ∀ x, (f x).length = s) {w : World} {B : Nat} {A : Option Addr} {xs : List T} (h : Reads w B A (xs.flatMap f)) (k : Nat) : Reads w B A ((xs.take k).flatMap f) := fun hne => by
  have hne' : xs.flatMap f ≠ [] := by
    intro e
    apply hne
    have h1 := flat_length f s hf xs
    rw [e] at h1
    have h2 := flat_length f s hf (xs.take k)
    have h3 : (xs.take k).length ≤ xs.length := by rw [List.length_take]; omega
    have h4 := Nat.mul_le_mul_right s h3
    rw [List.length_nil] at h1
    exact List.eq_nil_of_length_eq_zero (by omega)
  obtain ⟨a, e, hb, hc⟩ := h hne'
  refine ⟨a, e, hb, fun i u hu => hc i u ?_⟩
  have hx : xs.flatMap f = (xs.take k).flatMap f ++ (xs.drop k).flatMap f := by rw [← List.flatMap_append, List.take_append_drop]
  rw [hx, List.getElem?_append_left (List.getElem?_eq_some_iff.1 hu).1]
  exact hu
theorem reads_from {T : Type} (f : T → List Value) (s : Nat) (hf : ∀ x, (f x).length = s) {w : World} {B b o : Nat} {xs : List T} (h : Reads w B (some ⟨b, o, none⟩) (xs.flatMap f)) (k : Nat) (hk : k ≤ xs.length) :
    Reads w B (some ⟨b, o + k * s, none⟩) ((xs.drop k).flatMap f) := fun hne => by
  have hx : xs.flatMap f = (xs.take k).flatMap f ++ (xs.drop k).flatMap f := by rw [← List.flatMap_append, List.take_append_drop]
  have hl : ((xs.take k).flatMap f).length = k * s := by rw [flat_length f s hf, List.length_take, Nat.min_eq_left hk]
  obtain ⟨a, e, hb, hc⟩ := h (by rw [hx]; intro e; exact hne (List.append_eq_nil_iff.1 e).2)
  injection e with e
  subst e
  refine ⟨_, rfl, hb, fun i u hu => ?_⟩
  rw [Addr.add_mid]
  have := hc (k * s + i) u (by rw [hx, List.getElem?_append_right (by omega), hl]; simpa using hu)
  rw [Addr.add_mid] at this
  rwa [Nat.add_assoc]
theorem reads_from_if {T : Type} (f : T → List Value) (s : Nat) (hf : ∀ x, (f x).length = s) {w : World} {B b o cap k : Nat} {xs : List T} {A : Option Addr} (h : Reads w B (some ⟨b, o, none⟩) (xs.flatMap f)) (hk : k ≤ xs.length) (hc : xs.length ≤ cap)
    (e : (if cap = k then some (⟨b, o, none⟩ : Addr) else some ⟨b, o + k * s, none⟩) = A) : Reads w B A ((xs.drop k).flatMap f) := by
  subst e
  split
  · rename_i hcap
    rw [List.drop_of_length_le (by omega)]
    exact Reads.nil _ _ _
  · exact reads_from f s hf h k hk
end Go.Proofs.Ytgecgjndbaeahaa
