/-
  Lists of numbers within bounds.
-/
import Derived.Test.YtnlnlcllnbggdaaTariffMath
import Derived.Test.YtnlnlcllnbggdaaStInt
import Derived.Test.YtnlnlcllnbggdaaBasic
set_option linter.unusedSimpArgs false
namespace Go.Proofs.Ytnlnlcllnbggdaa
open Go.RowKit Go.Deep
set_option linter.unusedVariables false

set_option maxRecDepth 100000 in
set_option maxHeartbeats 1000000 in
theorem specallIn_gen (M : Int) (A : Option Addr) (n c : Nat) (am : List Int) (w : World) (hx : Ints w w.heap.size A am) (hn : am.length = n) (hl : n ≤ 1000000000) :
    Calls Try.prog 41 #[.slice A n c, .int .i64 0, .int .i64 M] w fun e w' => e = .returned (.bool (Fares.within am M)) ∧ w = w' := by
  subst hn
  go_enter Try.func41, Try.ntmps41
  go_wp2
  go_loop [7] (fun i => ∃ k : Nat, k ≤ am.length ∧ i = .int .i64 k ∧ ∀ j a, j < k → am[j]? = some a → 0 ≤ a ∧ a ≤ M) (fun i => am.length - (intOf i).toNat)
  case atStart => exact ⟨0, Nat.zero_le _, rfl, fun j a hj => by omega⟩
  case round =>
    obtain ⟨k, hk, rfl, he⟩ := hrel
    have He := Lib.hid he; clear he
    by_cases hlt : k < am.length
    · obtain ⟨a, hak⟩ : ∃ a, am[k]? = some a := ⟨am[k], List.getElem?_eq_getElem hlt⟩
      obtain ⟨b1, o1, rfl, hb1, hr1⟩ := hx.row (by omega)
      have p0 := hr1 k a hak
      have Hak := Lib.hid hak; clear hak hr1
      have i0 : (0 : Int) ≤ (k : Int) := by omega
      have i1 : (k : Int) < (am.length : Int) := by omega
      by_cases ha : 0 ≤ a ∧ a ≤ M
      · obtain ⟨a0, a1⟩ := ha
        go_wp2_with (go_at_call 37; refine (inRange_yes _ _ _ _ a0 a1).mono ?_; rintro e w' ⟨rfl, rfl⟩)
        go_round
        case rel => exact ⟨k + 1, by omega, by go_num, fun j b hj hb => by
          rcases Nat.lt_or_ge j k with h | h
          · exact He.out j b h hb
          · have e : j = k := by omega
            rw [e, Hak.out] at hb
            injection hb with hb
            omega⟩
        case measure => simp [intOf]; omega
      · have Hf := Lib.hid (show Fares.within am M = false from Fares.within_false Hak.out ha)
        have Ha := Lib.hid ha; clear ha
        go_wp2_with (go_at_call 37; refine (inRange_no _ _ _ _ (by have := Ha.out; omega)).mono ?_; rintro e w' ⟨rfl, rfl⟩)
        go_ret
        exact ⟨ret_bool Hf.out.symm, rfl⟩
    · go_wp2
      go_ret
      exact ⟨ret_bool (Fares.within_true (fun j a h => He.out j a (by have := (List.getElem?_eq_some_iff.1 h).1; omega) h)).symm, rfl⟩
set_option maxRecDepth 100000 in
set_option maxHeartbeats 1000000 in
theorem implallWithin_gen (M : Int) (A : Option Addr) (n c : Nat) (am : List Int) (w : World) (hx : Ints w w.heap.size A am) (hn : am.length = n) (hl : n ≤ 1000000000) :
    Calls Try.prog 42 #[.slice A n c, .int .i64 M] w fun e w' => e = .returned (.bool (Fares.within am M)) ∧ w = w' := by
  subst hn
  go_enter Try.func42, Try.ntmps42
  go_wp2
  go_loop [9] (fun i => ∃ k : Nat, k ≤ am.length ∧ i = .int .i64 k ∧ ∀ j a, j < k → am[j]? = some a → 0 ≤ a ∧ a ≤ M) (fun i => am.length - (intOf i).toNat)
  case atStart => exact ⟨0, Nat.zero_le _, rfl, fun j a hj => by omega⟩
  case round =>
    obtain ⟨k, hk, rfl, he⟩ := hrel
    have He := Lib.hid he; clear he
    by_cases hlt : k < am.length
    · obtain ⟨a, hak⟩ : ∃ a, am[k]? = some a := ⟨am[k], List.getElem?_eq_getElem hlt⟩
      obtain ⟨b1, o1, rfl, hb1, hr1⟩ := hx.row (by omega)
      have p0 := hr1 k a hak
      have Hak := Lib.hid hak; clear hak hr1
      have i0 : (0 : Int) ≤ (k : Int) := by omega
      have i1 : (k : Int) < (am.length : Int) := by omega
      by_cases h0 : a < 0
      · have Hf := Lib.hid (show Fares.within am M = false from Fares.within_false Hak.out (by omega))
        go_wp2
        go_ret
        exact ⟨ret_bool Hf.out.symm, rfl⟩
      · have d0 : decide (a < 0) = false := by simpa using h0
        by_cases h1 : M < a
        · have Hf := Lib.hid (show Fares.within am M = false from Fares.within_false Hak.out (by omega))
          go_wp2
          go_ret
          exact ⟨ret_bool Hf.out.symm, rfl⟩
        · have d1 : decide (M < a) = false := by simpa using h1
          have Hh := Lib.hid (show 0 ≤ a ∧ a ≤ M by omega)
          clear h0 h1
          go_wp2
          go_round
          case rel => exact ⟨k + 1, by omega, by go_num, fun j b hj hb => by
            rcases Nat.lt_or_ge j k with h | h
            · exact He.out j b h hb
            · have e : j = k := by omega
              rw [e, Hak.out] at hb
              injection hb with hb
              have := Hh.out
              omega⟩
          case measure => simp [intOf]; omega
    · go_wp2
      go_ret
      exact ⟨ret_bool (Fares.within_true (fun j a h => He.out j a (by have := (List.getElem?_eq_some_iff.1 h).1; omega) h)).symm, rfl⟩
end Go.Proofs.Ytnlnlcllnbggdaa
