/-
  Contracts of the functions of chapter 1 that take numbers alone.
-/
import Derived.Test.YtkipichbohioaaaRows
import Derived.Test.YtkipichbohioaaaTimeDefs
import Derived.WalkKit
namespace Go.Proofs.Ytkipichbohioaaa
open Go.RowKit

set_option maxHeartbeats 400000 in
theorem implWeekOf_any (d : Int) (w : World) :
    Calls Try.prog 33 #[.int .i64 d] w fun e w' => e = .returned (.int .i64 (Fares.weekOf d)) ∧ w = w' := by
  by_cases h0 : 0 ≤ d
  · by_cases h1 : d ≤ 28
    · have h2 : Fares.weekOf d = d / 7 := if_pos ⟨h0, h1⟩
      rw [h2]; clear h2
      go_enter Try.func33, Try.ntmps33
      go_wp2
      go_ret
      exact ⟨rfl, rfl⟩
    · have h2 : Fares.weekOf d = -1 := if_neg (fun h => h1 h.2)
      rw [h2]; clear h2
      go_enter Try.func33, Try.ntmps33
      go_wp2
      go_ret
      exact ⟨rfl, rfl⟩
  · have h2 : Fares.weekOf d = -1 := if_neg (fun h => h0 h.1)
    rw [h2]; clear h2
    go_enter Try.func33, Try.ntmps33
    go_wp2
    go_ret
    exact ⟨rfl, rfl⟩
set_option maxHeartbeats 400000 in
theorem specWeekOf_any (d : Int) (w : World) :
    Calls Try.prog 34 #[.int .i64 d] w fun e w' => e = .returned (.int .i64 (Fares.weekOf d)) ∧ w = w' := by
  by_cases h0 : 0 ≤ d
  · by_cases h1 : d ≤ 28
    · have h2 : Fares.weekOf d = d / 7 := if_pos ⟨h0, h1⟩
      rw [h2]; clear h2
      go_enter Try.func34, Try.ntmps34
      go_wp2
      go_ret
      exact ⟨rfl, rfl⟩
    · have h2 : Fares.weekOf d = -1 := if_neg (fun h => h1 h.2)
      rw [h2]; clear h2
      go_enter Try.func34, Try.ntmps34
      go_wp2
      go_ret
      exact ⟨rfl, rfl⟩
  · have h2 : Fares.weekOf d = -1 := if_neg (fun h => h0 h.1)
    rw [h2]; clear h2
    go_enter Try.func34, Try.ntmps34
    go_wp2
    go_ret
    exact ⟨rfl, rfl⟩
set_option maxHeartbeats 400000 in
theorem implServiceDay_any (d : Int) (w : World) :
    Calls Try.prog 29 #[.int .i64 d] w fun e w' => e = .returned (.int .i64 (Fares.serviceDay d)) ∧ w = w' := by
  by_cases h0 : 0 ≤ d
  · by_cases h1 : d ≤ 40319
    · have h2 : Fares.serviceDay d = (d + 1440 - 240) / 1440 := by rw [Fares.serviceDay, if_pos ⟨h0, h1⟩]; omega
      rw [h2]; clear h2
      go_enter Try.func29, Try.ntmps29
      go_wp2
      go_ret
      exact ⟨rfl, rfl⟩
    · have h2 : Fares.serviceDay d = -1 := if_neg (fun h => h1 h.2)
      rw [h2]; clear h2
      go_enter Try.func29, Try.ntmps29
      go_wp2
      go_ret
      exact ⟨rfl, rfl⟩
  · have h2 : Fares.serviceDay d = -1 := if_neg (fun h => h0 h.1)
    rw [h2]; clear h2
    go_enter Try.func29, Try.ntmps29
    go_wp2
    go_ret
    exact ⟨rfl, rfl⟩
set_option maxHeartbeats 400000 in
theorem specServiceDay_any (d : Int) (w : World) :
    Calls Try.prog 30 #[.int .i64 d] w fun e w' => e = .returned (.int .i64 (Fares.serviceDay d)) ∧ w = w' := by
  by_cases h0 : 0 ≤ d
  · by_cases h1 : d ≤ 40319
    · have h2 : Fares.serviceDay d = (d + 1440 - 240) / 1440 := by rw [Fares.serviceDay, if_pos ⟨h0, h1⟩]; omega
      rw [h2]; clear h2
      go_enter Try.func30, Try.ntmps30
      go_wp2
      go_ret
      exact ⟨rfl, rfl⟩
    · have h2 : Fares.serviceDay d = -1 := if_neg (fun h => h1 h.2)
      rw [h2]; clear h2
      go_enter Try.func30, Try.ntmps30
      go_wp2
      go_ret
      exact ⟨rfl, rfl⟩
  · have h2 : Fares.serviceDay d = -1 := if_neg (fun h => h0 h.1)
    rw [h2]; clear h2
    go_enter Try.func30, Try.ntmps30
    go_wp2
    go_ret
    exact ⟨rfl, rfl⟩
set_option maxHeartbeats 400000 in
theorem implDayStart_any (d : Int) (w : World) :
    Calls Try.prog 31 #[.int .i64 d] w fun e w' => e = .returned (.int .i64 (Fares.dayStart d)) ∧ w = w' := by
  by_cases h0 : 0 ≤ d
  · by_cases h1 : d ≤ 28
    · by_cases h3 : d = 0
      · subst h3
        have h2 : Fares.dayStart 0 = 0 := by decide
        rw [h2]; clear h2
        go_enter Try.func31, Try.ntmps31
        go_wp2
        go_ret
        exact ⟨rfl, rfl⟩
      · have h2 : Fares.dayStart d = (d - 1) * 1440 + 240 := by rw [Fares.dayStart, if_pos ⟨h0, h1⟩, if_neg h3]; omega
        rw [h2]; clear h2
        have hb : (d == 0) = false := by simpa using h3
        go_enter Try.func31, Try.ntmps31
        go_wp2
        go_ret
        exact ⟨rfl, rfl⟩
    · have h2 : Fares.dayStart d = -1 := if_neg (fun h => h1 h.2)
      rw [h2]; clear h2
      go_enter Try.func31, Try.ntmps31
      go_wp2
      go_ret
      exact ⟨rfl, rfl⟩
  · have h2 : Fares.dayStart d = -1 := if_neg (fun h => h0 h.1)
    rw [h2]; clear h2
    go_enter Try.func31, Try.ntmps31
    go_wp2
    go_ret
    exact ⟨rfl, rfl⟩
set_option maxHeartbeats 400000 in
theorem specDayStart_any (d : Int) (w : World) :
    Calls Try.prog 36 #[.int .i64 d] w fun e w' => e = .returned (.int .i64 (Fares.dayStart d)) ∧ w = w' := by
  by_cases h0 : 0 ≤ d
  · by_cases h1 : d ≤ 28
    · have h2 : Fares.dayStart d = max 0 (1440 * (d - 1) + 240) := by rw [Fares.dayStart, if_pos ⟨h0, h1⟩]; split <;> omega
      rw [h2]; clear h2
      by_cases h3 : d = 0
      · subst h3
        go_enter Try.func36, Try.ntmps36
        go_wp2
        go_ret
        exact ⟨rfl, rfl⟩
      · have h4 : 0 ≤ 1440 * (d - 1) + 240 := by omega
        have h5 : max 0 (1440 * (d - 1) + 240) = 1440 * (d - 1) + 240 := by omega
        rw [h5]; clear h5
        go_enter Try.func36, Try.ntmps36
        go_wp2
        go_ret
        exact ⟨rfl, rfl⟩
    · have h2 : Fares.dayStart d = -1 := if_neg (fun h => h1 h.2)
      rw [h2]; clear h2
      go_enter Try.func36, Try.ntmps36
      go_wp2
      go_ret
      exact ⟨rfl, rfl⟩
  · have h2 : Fares.dayStart d = -1 := if_neg (fun h => h0 h.1)
    rw [h2]; clear h2
    go_enter Try.func36, Try.ntmps36
    go_wp2
    go_ret
    exact ⟨rfl, rfl⟩
end Go.Proofs.Ytkipichbohioaaa
