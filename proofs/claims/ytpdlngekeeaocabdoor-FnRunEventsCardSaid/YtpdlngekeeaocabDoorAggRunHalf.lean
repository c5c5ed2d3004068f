/-
  RunEvents of the first events, and then of the others.
-/
import Derived.Test.YtpdlngekeeaocabDoorAggRunLaw
set_option linter.unusedSimpArgs false
namespace Go.Proofs.YtpdlngekeeaocabDoor
open Go.RowKit
set_option linter.unusedVariables false

theorem run_halves {x : Fares.Sum} {l : List Fares.Event} {s a t m : Int} (h : ((⟨s, a, t⟩ : Fares.Sum), m) = Fares.runEvents x l) (hm : 0 ≤ m) (k : Nat) :
    ∃ sc ac tc mc md : Int, ((⟨sc, ac, tc⟩ : Fares.Sum), mc) = Fares.runEvents x (l.take k) ∧ ((⟨s, a, t⟩ : Fares.Sum), md) = Fares.runEvents ⟨sc, ac, tc⟩ (l.drop k) ∧ mc + md = m ∧ 0 ≤ mc ∧ mc ≤ 20 ∧ 0 ≤ md ∧ md ≤ 20 ∧ Fares.validSum ⟨s, a, t⟩ = true := by
  obtain ⟨hv, hl, hr⟩ := run_yes h hm
  have h1 := Fares.runAll_append x (l.take k) (l.drop k)
  rw [List.take_append_drop, ← hr] at h1
  have hlt : (l.take k).length ≤ 20 := by rw [List.length_take]; omega
  have hld : (l.drop k).length ≤ 20 := by rw [List.length_drop]; omega
  have hvC := Fares.runAll_valid (l.take k) hv
  have r1 := Fares.runAll_range x (l.take k)
  have e1 := runEvents_ok hv hlt
  obtain ⟨⟨⟨sc, ac, tc⟩, mc⟩, hC⟩ : ∃ C, Fares.runAll x (l.take k) = C := ⟨_, rfl⟩
  rw [hC] at h1 hvC r1 e1
  have r2 := Fares.runAll_range ⟨sc, ac, tc⟩ (l.drop k)
  have hvD := Fares.runAll_valid (l.drop k) hvC
  have e2 := runEvents_ok hvC hld
  obtain ⟨⟨⟨sd, ad, td⟩, md⟩, hD⟩ : ∃ D, Fares.runAll ⟨sc, ac, tc⟩ (l.drop k) = D := ⟨_, rfl⟩
  dsimp only at h1 hvC
  rw [hD] at h1 hvD r2 e2
  dsimp only at h1 hvD r2 r1
  injection h1 with g1 g2
  injection g1 with g3 g4 g5
  subst g3 g4 g5
  exact ⟨sc, ac, tc, mc, md, e1.symm, e2.symm, g2.symm, r1.1, by omega, r2.1, by omega, hvD⟩
theorem Events.none_nil {w : World} {B : Nat} {l : List Fares.Event} (h : Events w B none l) : l = [] := by
  cases l with
  | nil => rfl
  | cons x r =>
    obtain ⟨a, e, _⟩ := h (by simp [eventCells])
    cases e
end Go.Proofs.YtpdlngekeeaocabDoor
