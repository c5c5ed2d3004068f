/-
  The argument of ValidTap, drawn.
-/
import Derived.Test.YtpijjlggmibfnaaDrawAnyTap
import Derived.Test.YtpijjlggmibfnaaLiftBytes
set_option linter.unusedSimpArgs false
namespace Go.Proofs.Ytpijjlggmibfnaa
open Go.RowKit
set_option linter.unusedVariables false
theorem Bytes.alloc {w : World} {A : Option Addr} {n c : Nat} (h : Bytes w w.heap.size A n c) (o : Obj) : Bytes (w.alloc o) (w.alloc o).heap.size A n c := by
  obtain ⟨h1, h2, xs, h3, h4, h5⟩ := h
  exact ⟨h1, h2, xs, h3, h4, (h5.alloc (Nat.le_refl _) o).more (by simp)⟩
def DrawsTap (w : World) (e : Ending) (w' : World) : Prop := ∃ t : Fares.Tap, e = .returned (tapV t) ∧ tapSmall t ∧ Below w.heap.size w w'
end Go.Proofs.Ytpijjlggmibfnaa
