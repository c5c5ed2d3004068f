/-
  The charges of journeys: the checks of amounts, the day of a minute.
-/
import Derived.Test.YtnahdclmfegmeaaChargesMath
import Derived.Test.YtnahdclmfegmeaaStInt
import Derived.Test.YtnahdclmfegmeaaStCharge
import Derived.Test.YtnahdclmfegmeaaJourValid
import Derived.Test.YtnahdclmfegmeaaTime
import Derived.Deep.AppendLies
namespace Go.Proofs.Ytnahdclmfegmeaa
open Go.RowKit Go.Deep
set_option linter.unusedVariables false

set_option maxRecDepth 100000 in
set_option maxHeartbeats 1000000 in
theorem specallIn_any (A : Option Addr) (n c : Nat) (am : List Int) (w : World) (hx : Ints w w.heap.size A am) (hn : am.length = n) (hl : n ≤ 1000000000) :
    Calls Try.prog 105 #[.slice A n c, .int .i64 0, .int .i64 4000] w fun e w' => e = .returned (.bool (Fares.amountsOk am)) ∧ w = w' := by
  subst hn
  go_enter Try.func105, Try.ntmps105
  go_wp2
  go_loop [7] (fun i => ∃ k : Nat, k ≤ am.length ∧ i = .int .i64 k ∧ ∀ j a, j < k → am[j]? = some a → 0 ≤ a ∧ a ≤ 4000) (fun i => am.length - (intOf i).toNat)
  case atStart => exact ⟨0, Nat.zero_le _, rfl, fun j a hj => by omega⟩
  case round =>
    obtain ⟨k, hk, rfl, he⟩ := hrel
    have He := Lib.hid he; clear he
    by_cases hlt : k < am.length
    · obtain ⟨a, hak⟩ : ∃ a, am[k]? = some a := ⟨am[k], List.getElem?_eq_getElem hlt⟩
      obtain ⟨b1, o1, rfl, hb1, hr1⟩ := hx.row (by omega)
      have p0 := hr1 k a hak
      have Hak := Lib.hid hak; clear hak hr1
      have i0 : (0 : Int) ≤ (k : Int) := by omega
      have i1 : (k : Int) < (am.length : Int) := by omega
      by_cases ha : 0 ≤ a ∧ a ≤ 4000
      · obtain ⟨a0, a1⟩ := ha
        go_wp2_with (go_at_call 102; refine (inRange_yes _ _ _ _ a0 a1).mono ?_; rintro e w' ⟨rfl, rfl⟩)
        go_round
        case rel => exact ⟨k + 1, by omega, by go_num, fun j b hj hb => by
          rcases Nat.lt_or_ge j k with h | h
          · exact He.out j b h hb
          · have e : j = k := by omega
            rw [e, Hak.out] at hb
            injection hb with hb
            omega⟩
        case measure => simp [intOf]; omega
      · have Hf := Lib.hid (Fares.amountsOk_false Hak.out ha)
        have Ha := Lib.hid ha; clear ha
        go_wp2_with (go_at_call 102; refine (inRange_no _ _ _ _ (by have := Ha.out; omega)).mono ?_; rintro e w' ⟨rfl, rfl⟩)
        go_ret
        exact ⟨ret_bool Hf.out.symm, rfl⟩
    · go_wp2
      go_ret
      exact ⟨ret_bool (Fares.amountsOk_true (fun j a h => He.out j a (by have := (List.getElem?_eq_some_iff.1 h).1; omega) h)).symm, rfl⟩

set_option maxRecDepth 100000 in
set_option maxHeartbeats 1000000 in
theorem implallWithin_any (A : Option Addr) (n c : Nat) (am : List Int) (w : World) (hx : Ints w w.heap.size A am) (hn : am.length = n) (hl : n ≤ 1000000000) :
    Calls Try.prog 104 #[.slice A n c, .int .i64 4000] w fun e w' => e = .returned (.bool (Fares.amountsOk am)) ∧ w = w' := by
  subst hn
  go_enter Try.func104, Try.ntmps104
  go_wp2
  go_loop [9] (fun i => ∃ k : Nat, k ≤ am.length ∧ i = .int .i64 k ∧ ∀ j a, j < k → am[j]? = some a → 0 ≤ a ∧ a ≤ 4000) (fun i => am.length - (intOf i).toNat)
  case atStart => exact ⟨0, Nat.zero_le _, rfl, fun j a hj => by omega⟩
  case round =>
    obtain ⟨k, hk, rfl, he⟩ := hrel
    have He := Lib.hid he; clear he
    by_cases hlt : k < am.length
    · obtain ⟨a, hak⟩ : ∃ a, am[k]? = some a := ⟨am[k], List.getElem?_eq_getElem hlt⟩
      obtain ⟨b1, o1, rfl, hb1, hr1⟩ := hx.row (by omega)
      have p0 := hr1 k a hak
      have Hak := Lib.hid hak; clear hak hr1
      have i0 : (0 : Int) ≤ (k : Int) := by omega
      have i1 : (k : Int) < (am.length : Int) := by omega
      by_cases h0 : a < 0
      · have Hf := Lib.hid (Fares.amountsOk_false Hak.out (by omega))
        go_wp2
        go_ret
        exact ⟨ret_bool Hf.out.symm, rfl⟩
      · have d0 : decide (a < 0) = false := by simpa using h0
        by_cases h1 : 4000 < a
        · have Hf := Lib.hid (Fares.amountsOk_false Hak.out (by omega))
          go_wp2
          go_ret
          exact ⟨ret_bool Hf.out.symm, rfl⟩
        · have d1 : decide (4000 < a) = false := by simpa using h1
          have Hh := Lib.hid (show 0 ≤ a ∧ a ≤ 4000 by omega)
          clear h0 h1
          go_wp2
          go_round
          case rel => exact ⟨k + 1, by omega, by go_num, fun j b hj hb => by
            rcases Nat.lt_or_ge j k with h | h
            · exact He.out j b h hb
            · have e : j = k := by omega
              rw [e, Hak.out] at hb
              injection hb with hb
              have := Hh.out
              omega⟩
          case measure => simp [intOf]; omega
    · go_wp2
      go_ret
      exact ⟨ret_bool (Fares.amountsOk_true (fun j a h => He.out j a (by have := (List.getElem?_eq_some_iff.1 h).1; omega) h)).symm, rfl⟩

theorem serviceDay_in (m : Int) (w : World) (h0 : 0 ≤ m) (h1 : m ≤ 40319) :
    Calls Try.prog 61 #[.int .i64 m] w fun e w' => e = .returned (.int .i64 ((m + 1200) / 1440)) ∧ w = w' :=
  (implServiceDay_any m w).mono fun e w' ⟨he, hw⟩ => ⟨by rw [he]; unfold Fares.serviceDay; rw [if_pos ⟨h0, h1⟩], hw⟩
theorem back {P : Program} {f : FuncId} {args : Array Value} {w : World} {v : Value} (h : Calls P f args w fun e w' => e = .returned v ∧ w = w') : Calls P f args w fun e w' => e = .returned v ∧ w' = w :=
  h.mono fun _ _ ⟨he, hw⟩ => ⟨he, hw.symm⟩
end Go.Proofs.Ytnahdclmfegmeaa
