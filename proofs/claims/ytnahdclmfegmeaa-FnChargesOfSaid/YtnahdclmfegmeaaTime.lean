/-
  Contracts of the functions of chapter 1 that take numbers alone.
-/
import Derived.Test.YtnahdclmfegmeaaRows
import Derived.Test.YtnahdclmfegmeaaTimeDefs
import Derived.WalkKit
namespace Go.Proofs.Ytnahdclmfegmeaa
open Go.RowKit

set_option maxHeartbeats 400000 in
theorem implWeekOf_any (d : Int) (w : World) :
    Calls Try.prog 131 #[.int .i64 d] w fun e w' => e = .returned (.int .i64 (Fares.weekOf d)) ∧ w = w' := by
  by_cases h0 : 0 ≤ d
  · by_cases h1 : d ≤ 28
    · have h2 : Fares.weekOf d = d / 7 := if_pos ⟨h0, h1⟩
      rw [h2]; clear h2
      go_enter Try.func131, Try.ntmps131
      go_wp2
      go_ret
      exact ⟨rfl, rfl⟩
    · have h2 : Fares.weekOf d = -1 := if_neg (fun h => h1 h.2)
      rw [h2]; clear h2
      go_enter Try.func131, Try.ntmps131
      go_wp2
      go_ret
      exact ⟨rfl, rfl⟩
  · have h2 : Fares.weekOf d = -1 := if_neg (fun h => h0 h.1)
    rw [h2]; clear h2
    go_enter Try.func131, Try.ntmps131
    go_wp2
    go_ret
    exact ⟨rfl, rfl⟩
set_option maxHeartbeats 400000 in
theorem implServiceDay_any (d : Int) (w : World) :
    Calls Try.prog 61 #[.int .i64 d] w fun e w' => e = .returned (.int .i64 (Fares.serviceDay d)) ∧ w = w' := by
  by_cases h0 : 0 ≤ d
  · by_cases h1 : d ≤ 40319
    · have h2 : Fares.serviceDay d = (d + 1440 - 240) / 1440 := by rw [Fares.serviceDay, if_pos ⟨h0, h1⟩]; omega
      rw [h2]; clear h2
      go_enter Try.func61, Try.ntmps61
      go_wp2
      go_ret
      exact ⟨rfl, rfl⟩
    · have h2 : Fares.serviceDay d = -1 := if_neg (fun h => h1 h.2)
      rw [h2]; clear h2
      go_enter Try.func61, Try.ntmps61
      go_wp2
      go_ret
      exact ⟨rfl, rfl⟩
  · have h2 : Fares.serviceDay d = -1 := if_neg (fun h => h0 h.1)
    rw [h2]; clear h2
    go_enter Try.func61, Try.ntmps61
    go_wp2
    go_ret
    exact ⟨rfl, rfl⟩
end Go.Proofs.Ytnahdclmfegmeaa
