/-
  What is owed before and behind an event.
-/
import Derived.Test.YtpdlngekeeaocabDoorAggBox2
import Derived.Test.YtpdlngekeeaocabDoorAggFinal
import Derived.Test.YtpdlngekeeaocabDoorReg
import Derived.Deep.RegionHeld3
set_option linter.unusedSimpArgs false
namespace Go.Proofs.YtpdlngekeeaocabDoor
open Go.RowKit
set_option linter.unusedVariables false

theorem owed_of_ok {s a t : Int} (h : okNums s a t) : Fares.owedOf ⟨s, a, t⟩ = if s = 3 then 0 else a := by
  unfold Fares.owedOf
  rw [(okNums_iff (x := ⟨s, a, t⟩)).2 h, if_pos rfl]
theorem owed_nums {x : Fares.Sum} {e : Fares.Event} {s a t : Int} (h : ((⟨s, a, t⟩ : Fares.Sum), true) = Fares.stepSum x e) :
    (e.k = 4 → Fares.owedOf ⟨s, a, t⟩ = 0 ∧ 0 < Fares.owedOf x) ∧ (e.k ≠ 4 → e.k ≠ 1 → Fares.owedOf ⟨s, a, t⟩ = Fares.owedOf x) := by
  obtain ⟨h0, h1, h2⟩ := step_nums h
  have e0 : Fares.owedOf x = if x.s = 3 then 0 else x.a := owed_of_ok (s := x.s) (a := x.a) (t := x.t) h0
  rw [owed_of_ok h1, e0]
  unfold okNums at h0 h1
  unfold stepNums at h2
  refine ⟨fun hk => ⟨?_, ?_⟩, fun hk hk1 => ?_⟩
  · rw [if_pos (by omega)]
  · rw [if_neg (by omega)]; omega
  · rw [if_neg (by omega), if_neg (by omega)]; omega
theorem owed_range (x : Fares.Sum) : -1 ≤ Fares.owedOf x ∧ Fares.owedOf x ≤ 100000 := by
  unfold Fares.owedOf
  split
  · rename_i hv
    have := Fares.valid_iff.1 hv
    split <;> omega
  · omega
end Go.Proofs.YtpdlngekeeaocabDoor
