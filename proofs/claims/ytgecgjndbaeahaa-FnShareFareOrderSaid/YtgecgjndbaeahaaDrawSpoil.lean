/-
  A drawn list of numbers that may be spoilt.
-/
import Derived.Test.YtgecgjndbaeahaaStInt
import Derived.Test.YtgecgjndbaeahaaCarry
import Derived.Test.YtgecgjndbaeahaaOver2
import Derived.Test.YtgecgjndbaeahaaAppendSrc
import Derived.Deep.AppendLies
set_option linter.unusedSimpArgs false
namespace Go.Proofs.Ytgecgjndbaeahaa
open Go.RowKit Go.Deep
set_option linter.unusedVariables false

theorem info_intS : (Try.prog.info? 3).map (fun i => (i.zero, i.size, i.bytes)) = some (some (.int .i64 0), 1, 8) := by kernel_rfl
theorem own_nil {w : World} {base size n : Nat} {t : TypeId} {A : Option Addr} {m c : Nat} {xs : List Value} (h : w.ownsRow base t size (.slice A m c) n xs) : A = none → m = 0 ∧ c = 0 := by
  intro hA
  rcases h.2 with ⟨hv, _⟩ | ⟨g', cap, cur, hv, _⟩
  · injection hv with e1 e2 e3; exact ⟨e2, e3⟩
  · injection hv with e1 e2 e3; rw [hA] at e1; cases e1
/-- Numbers that were drawn: where they lie is new, and not the reader. -/
def SpoilInts (M : Nat) (lo hi : Int) (g p : Nat) (w : World) (e : Ending) (w' : World) : Prop :=
  ∃ (A : Option Addr) (n c : Nat) (ys : List Int) (q : Nat), e = .returned (.slice A n c) ∧ Ints w' w'.heap.size A ys ∧ (∀ a, A = some a → w.heap.size ≤ a.block) ∧ (A = none → n = 0 ∧ c = 0) ∧ ys.length = n ∧ n ≤ c ∧ c ≤ maxLen ∧ ys.length ≤ M ∧ (∀ x ∈ ys, lo ≤ x ∧ x ≤ hi) ∧ q ≤ p + 3 ∧ Rd w' g q ∧ w.grownBy w' (some g)
theorem OwnInts.spoil {M : Nat} {lo hi : Int} {g p q : Nat} {w w' : World} {v : Value} {ys : List Int} (h : OwnInts w' w.heap.size v ys) (hl : ys.length ≤ M) (hb : ∀ x ∈ ys, lo ≤ x ∧ x ≤ hi) (hq : q ≤ p + 3) (hr : Rd w' g q) (hg : w.grownBy w' (some g)) : SpoilInts M lo hi g p w (.returned v) w' := by
  rcases Nat.eq_zero_or_pos ys.length with h0 | h0
  · obtain ⟨A, c, rfl, h1, h2, h3⟩ := OwnInts.form h
    refine ⟨A, _, c, ys, q, rfl, h3, fun a ha => ?_, fun hA => ?_, rfl, h1, h2, hl, hb, hq, hr, hg⟩
    · subst ha
      exact (World.ownsRow.lt h a.block (by obtain ⟨b, o, s⟩ := a; rfl)).1
    · rcases h.2 with ⟨hv, _⟩ | ⟨g', cap, cur, hv, _⟩
      · injection hv with e1 e2 e3; exact ⟨e2, e3⟩
      · injection hv with e1 e2 e3; rw [hA] at e1; cases e1
  · obtain ⟨gb, cap, rfl, h1, h2, h3, h4, _, _, _⟩ := own_at intCells 1 (fun _ => rfl) h h0
    obtain ⟨A, c, e, _, _, hrs⟩ := OwnInts.form h
    injection e with e1 e2 e3
    subst e1 e3
    exact ⟨_, _, _, ys, q, rfl, hrs, (fun a ha => by injection ha with ha; subst ha; exact h1), (fun hA => by cases hA), rfl, h3, h4, hl, hb, hq, hr, hg⟩
end Go.Proofs.Ytgecgjndbaeahaa
