/-
  The reader over writes into other blocks.
-/
import Derived.Test.YtpdlngekeeaocabDoorTouch
import Derived.Test.YtpdlngekeeaocabDoorCarry
set_option linter.unusedSimpArgs false
namespace Go.Proofs.YtpdlngekeeaocabDoor
open Go.RowKit
set_option linter.unusedVariables false
theorem Rd.touch {w w' : World} {g p : Nat} {K : Nat → Prop} (h : Rd w g p) (k : Touch K w w') (hk : ∀ i, K i → g < i) : Rd w' g p :=
  h.below ⟨k.os, k.tape, k.output, k.size, fun i hi => k.block i (Nat.lt_of_lt_of_le hi h.lt) (fun e => absurd (hk i e) (by omega))⟩
theorem grown_touch {K : Nat → Prop} {a b c : World} {row : Option Nat} (h : a.grownBy b row) (k : Touch K b c) (hk : ∀ i, K i → a.heap.size ≤ i) : a.grownBy c row :=
  ⟨k.os.trans h.os, k.tape.trans h.tape, k.output.trans h.output, Nat.le_trans h.size k.size, fun i hi hn => (k.block i (Nat.lt_of_lt_of_le hi h.size) (fun e => absurd (hk i e) (by omega))).trans (h.block i hi hn)⟩
end Go.Proofs.YtpdlngekeeaocabDoor
