/-
  Facts of chapter 18's laws on shares.
-/
import Derived.Test.YtgecgjndbaeahaaShareMath
import Derived.Test.YtgecgjndbaeahaaStInt
import Derived.Test.YtgecgjndbaeahaaStLeg
import Derived.Test.YtgecgjndbaeahaaTouch
set_option linter.unusedSimpArgs false
namespace Go.Proofs.Ytgecgjndbaeahaa
open Go.RowKit Go.Deep
set_option linter.unusedVariables false

theorem OwnInts.nilOk {w : World} {base : Nat} {A : Option Addr} {n c : Nat} {ys : List Int} (h : OwnInts w base (.slice A n c) ys) : NilOk A n c := own_nil_ h
theorem lawsum_below (A : Option Addr) (n c : Nat) (xs : List Int) (M s : Int) (w : World) (hx : Ints w w.heap.size A xs) (hn : xs.length = n) (hl : n ≤ 1000000) (hM : M ≤ 1000000000) (hb : ∀ x ∈ xs, 0 ≤ x ∧ x ≤ M) (hs : Fares.sumI xs = s) :
    Calls Try.prog 17 #[.slice A n c] w fun e w' => e = .returned (.int .i64 s) ∧ Below w.heap.size w w' := by
  refine (lawsum_any A n c xs M w hx hn hl hM hb).mono ?_
  rintro e w' ⟨rfl, rfl⟩
  exact ⟨by rw [hs], Below.refl _ _⟩
namespace Fares
def legTo (xs : List Leg) : Nat → Int
  | 0 => 0
  | k + 1 => legTo xs k + legSum k xs
theorem legTo_in {xs : List Leg} {m : Int} (h : Shared xs m) : ∀ k : Nat, 0 ≤ legTo xs k ∧ legTo xs k ≤ 4000 * (k : Int)
  | 0 => by simp [legTo]
  | k + 1 => by
    have h1 := legTo_in h k
    have h2 := h.len k
    have h3 := h.a1
    show 0 ≤ legTo xs k + legSum k xs ∧ legTo xs k + legSum k xs ≤ 4000 * ((k + 1 : Nat) : Int)
    push_cast
    omega
theorem legTo_all {xs : List Leg} {m : Int} (h : Shared xs m) : legTo xs 4 = legAll xs := by
  have := h.sum
  simp only [legTo]
  rw [this]
  show 0 + legSum 0 xs + legSum 1 xs + legSum 2 xs + legSum 3 xs = _
  omega
theorem length_at {xs : List Leg} (h : validLegs xs = true) (i : Int) : lengthOf xs i = legSum i xs := by unfold lengthOf; rw [h, if_pos rfl]
theorem share_bounds {xs : List Leg} {m : Int} {out : List Int} (h : shareOk xs m = true) (hP : shareFare xs m = out) : ∀ x ∈ out, 0 ≤ x ∧ x ≤ 100001 := by
  subst hP
  intro x hx
  obtain ⟨k, hk⟩ := List.getElem?_of_mem hx
  have := (share_law h).2.2 k x hk
  exact ⟨this.1, this.2.1⟩
theorem share_zero {xs : List Leg} {m : Int} (h : shareOk xs m = true) : ∃ z, shareFare xs 0 = z ∧ z.length = 4 ∧ (∀ x ∈ z, 0 ≤ x ∧ x ≤ 100001) ∧ sumI z = 0 := by
  have h0 : shareOk xs 0 = true := shareOk_iff.2 ⟨(shareOk_iff.1 h).1, by omega, by omega⟩
  obtain ⟨a, b, _⟩ := share_law h0
  exact ⟨_, rfl, a, share_bounds h0 rfl, b⟩
theorem share_head {xs : List Leg} {m : Int} (h : shareOk xs m = true) : ∃ g rest one, xs = g :: rest ∧ shareFare [g] m = one ∧ one.length = 4 ∧ 0 ≤ g.o ∧ g.o ≤ 3 ∧ ∀ (k : Nat) (v : Int), one[k]? = some v → v = if (k : Int) = g.o then m else 0 := by
  obtain ⟨hv, hm⟩ := shareOk_iff.1 h
  obtain ⟨⟨h1, _⟩, hin⟩ := validLegs_iff.1 hv
  match xs, h1, hin with
  | g :: rest, _, hin =>
    have hg := hin g (List.mem_cons_self ..)
    have hv1 : validLegs [g] = true := validLegs_iff.2 ⟨by simp, fun x hx => by simp at hx; subst hx; exact hg⟩
    have hk : shareOk [g] m = true := shareOk_iff.2 ⟨hv1, hm⟩
    exact ⟨g, rest, _, rfl, rfl, (share_law hk).1, hg.1, hg.2.1, share_single hg hm⟩
end Fares
end Go.Proofs.Ytgecgjndbaeahaa
