/-
  Variables that hold an aggregate or an event.
-/
import Derived.Test.YtpdlngekeeaocabDoorAggStep3
import Derived.Test.YtpdlngekeeaocabDoorRdTouch
import Derived.Test.YtpdlngekeeaocabDoorOver
import Derived.Test.YtpdlngekeeaocabDoorCarry
set_option linter.unusedSimpArgs false
namespace Go.Proofs.YtpdlngekeeaocabDoor
open Go.RowKit
set_option linter.unusedVariables false

def AggR.cells (v : Fares.Sum) : Array Value := #[.int .i64 v.s, .int .i64 v.a, .int .i64 v.t]
def EvtR.cells (v : Fares.Event) : Array Value := #[.int .i64 v.k, .int .i64 v.a]
theorem aggCells {w : World} {b : Nat} {t : TypeId} {v : Fares.Sum} (h : Blk w b t (AggR.cells v)) : w.cell? ⟨b, 0, none⟩ = some (.int .i64 v.s) ∧ w.cell? ⟨b, 1, none⟩ = some (.int .i64 v.a) ∧ w.cell? ⟨b, 2, none⟩ = some (.int .i64 v.t) := ⟨h.cell 0, h.cell 1, h.cell 2⟩
theorem evtCells {w : World} {b : Nat} {t : TypeId} {v : Fares.Event} (h : Blk w b t (EvtR.cells v)) : w.cell? ⟨b, 0, none⟩ = some (.int .i64 v.k) ∧ w.cell? ⟨b, 1, none⟩ = some (.int .i64 v.a) := ⟨h.cell 0, h.cell 1⟩
/-- The model's step, cell for cell. -/
theorem step_cells (x : Fares.Sum) (e : Fares.Event) (P : Fares.Sum × Bool) (hP : P = Fares.step x e) (hv : Fares.validSum x = true) (w : World) :
    Calls Tryd.prog 30 #[.agg #[.int .i64 x.s, .int .i64 x.a, .int .i64 x.t], .agg #[.int .i64 e.k, .int .i64 e.a]] w fun r w' => r = .returned (.tuple #[.agg #[.int .i64 P.1.s, .int .i64 P.1.a, .int .i64 P.1.t], .bool P.2]) ∧ Below w.heap.size w w' := by
  have hq := Fares.valid_iff.1 hv
  rw [hP]
  exact specstep_any x e w hq.2.2.1 hq.2.2.2.1 hq.2.2.2.2.1 hq.2.2.2.2.2.1
end Go.Proofs.YtpdlngekeeaocabDoor
