/-
  A struct that came in: its fields' cells, one or more each.
-/
import Derived.Test.YtnkoapccnlgijaaOpen
set_option linter.unusedSimpArgs false
namespace Go.Proofs.Ytnkoapccnlgijaa
open Go.ChangeShapes Go.WideShapes Go.ChangeAt Go.RowKit
set_option linter.unusedVariables false
section
variable {H : Type} {enc : TypeId × Value → H} {w : World} {base : Nat} {spare : Nat → Bool} {held : Bool}
theorem pieces_of_struct {e : TypeId} {fs : Array Field} {N : Nat} (he : Try.prog.underlying e = some (.struct fs)) (hC : Try.prog.cellsOf e = N)
    {n : Nat} {cs : List Value} {x : DataW H × List MemPlace} (h : DataW.trod enc Try.prog w base spare held n e cs = some x) :
    cs.length = N ∧ ∀ (j : Nat) (f : Field) (o k : Nat), fs[j]? = some f → f.offset = o → Try.prog.cellsOf f.type = k → ∃ (y : DataW H × List MemPlace) (n : Nat), DataW.trod enc Try.prog w base spare held n f.type ((cs.drop o).take k) = some y := by
  obtain ⟨ys, n', _, _, hlen, hyl, hf⟩ := DataW.trod_struct he h
  rw [hC] at hlen
  refine ⟨hlen, fun j f o k hj ho hk => ?_⟩
  have h1 := hf j f hj
  rw [ho, hk] at h1
  have hjl : j < ys.length := by
    rw [hyl]; exact (Array.getElem?_eq_some_iff.1 hj).1
  rw [List.getElem?_eq_getElem hjl] at h1
  exact ⟨_, n', h1⟩
end
end Go.Proofs.Ytnkoapccnlgijaa
