/-
  Chapter 6: what is valid: the program's checks and their models'.
-/
import Derived.Test.YtdokilpinjabcaaChargeMath
import Derived.Test.YtdokilpinjabcaaStCharge
import Derived.Test.YtdokilpinjabcaaBasic
import Derived.Test.YtdokilpinjabcaaReg
namespace Go.Proofs.Ytdokilpinjabcaa
open Go.RowKit
set_option linter.unusedVariables false

set_option maxHeartbeats 400000 in
theorem specvalidCap_any (n : Int) (w : World) :
    Calls Try.prog 55 #[.int .i64 n] w fun e w' => e = .returned (.bool (Fares.capOk n)) ∧ w = w' := by
  go_enter Try.func55, Try.ntmps55
  go_wp2_with (first | (go_at_call 76; refine (inRange_any _ _ _ _).mono ?_; rintro e w' ⟨rfl, rfl⟩))
  go_ret
  exact ⟨ret_bool (by unfold Fares.capOk; simp), rfl⟩
set_option maxHeartbeats 400000 in
theorem implvalidCaps_any (a b : Int) (w : World) :
    Calls Try.prog 51 #[.int .i64 a, .int .i64 b] w fun e w' => e = .returned (.bool (Fares.capOk a && Fares.capOk b)) ∧ w = w' := by
  go_enter Try.func51, Try.ntmps51
  go_wp2
  all_goals (go_ret; exact ⟨ret_bool (by rw [Bool.eq_iff_iff]; simp only [Fares.capOk, decide_eq_true_eq, decide_eq_false_iff_not, Bool.and_eq_true, Bool.or_eq_true, Bool.false_eq_true, Bool.true_eq_false, Bool.not_eq_true', true_iff, iff_true, false_iff, iff_false, Bool.not_eq_true, Bool.not_eq_false, Bool.and_eq_false_imp] at *; omega), rfl⟩)
set_option maxHeartbeats 400000 in
theorem implChargevalid_any (c : Fares.Charge) (w : World) :
    Calls Try.prog 75 #[chargeV c] w fun e w' => e = .returned (.bool (Fares.chargeOk c)) ∧ Below w.heap.size w w' := by
  unfold chargeV
  go_enter Try.func75, Try.ntmps75
  go_wp2_with (first | (go_at_call 57; refine (dayValid_any _ _).mono ?_; rintro e w' ⟨rfl, rfl⟩))
  all_goals (go_ret; exact ⟨ret_bool (by rw [Bool.eq_iff_iff]; simp only [Fares.chargeOk, Fares.dayOk, decide_eq_true_eq, decide_eq_false_iff_not, Bool.and_eq_true, Bool.or_eq_true, Bool.false_eq_true, Bool.true_eq_false, Bool.not_eq_true', true_iff, iff_true, false_iff, iff_false, Bool.not_eq_true, Bool.not_eq_false, Bool.and_eq_false_imp] at *; omega), (by repeat (first | exact Below.refl _ _ | refine bA ?_ _ | refine bD ?_ _ | refine bD1 ?_ | refine bS ?_ (by simp) _))⟩)

set_option maxRecDepth 100000 in
set_option maxHeartbeats 2000000 in
theorem specvalidCharges_any (A : Option Addr) (n c : Nat) (xs : List Fares.Charge) (w : World) (hx : Charges w w.heap.size A xs) (hn : xs.length = n) (hl : n ≤ 1000000000) :
    Calls Try.prog 54 #[.slice A n c] w fun e w' => e = .returned (.bool (Fares.validCharges xs)) ∧ Below w.heap.size w w' := by
  subst hn
  go_enter Try.func54, Try.ntmps54
  go_wp2
  go_loopw [3] (fun i wr => ∃ k : Nat, k ≤ xs.length ∧ i = .int .i64 k ∧ Below w.heap.size w wr ∧ ∀ j, j < k → Fares.chargeOkAt xs j = true) (fun i _ => xs.length - (intOf i).toNat)
  case atStart => exact ⟨0, Nat.zero_le _, rfl, Below.refl _ _, fun j hj => absurd hj (by omega)⟩
  case round =>
    obtain ⟨k, hk, rfl, hb, he⟩ := hrel
    have He := Lib.hid he; clear he
    by_cases hlt : k < xs.length
    · obtain ⟨x, hxk⟩ : ∃ x, xs[k]? = some x := ⟨xs[k], List.getElem?_eq_getElem hlt⟩
      have Hend : Hid (Fares.chargeOkAt xs k = false → Fares.validCharges xs = false) := fun h => by
        unfold Fares.validCharges; rw [Fares.all_range_false hlt h]; simp
      obtain ⟨b1, o1, rfl, hb1, hr1⟩ := hx.row (by omega)
      obtain ⟨p0, p1⟩ := (hr1 k x hxk).below hb hb1
      have Hok := Lib.hid (Fares.chargeOkAt_of hxk)
      have Hr := Lib.hid hr1; clear hr1
      clear hxk hx
      have i0 : (0 : Int) ≤ (k : Int) := by omega
      have i1 : (k : Int) < (xs.length : Int) := by omega
      by_cases hd : 0 ≤ x.d ∧ x.d ≤ 28
      · by_cases ha : 0 ≤ x.a ∧ x.a ≤ 4000
        · have hv := Lib.hid (show Fares.chargeOk x = true by unfold Fares.chargeOk; simp only [decide_eq_true_eq]; exact ⟨hd.1, hd.2, ha.1, ha.2⟩)
          obtain ⟨d0, d1⟩ := hd
          obtain ⟨a0, a1⟩ := ha
          by_cases hk0 : 0 < k
          · obtain ⟨j, hj⟩ : ∃ j, k = j + 1 := ⟨k - 1, by omega⟩
            obtain ⟨y, hyj⟩ : ∃ y, xs[j]? = some y := ⟨xs[j], List.getElem?_eq_getElem (by omega)⟩
            have hfa : Fares.dayBefore xs k = y.d := by rw [hj, Fares.dayBefore_succ hyj]
            obtain ⟨r0, r1⟩ := (Hr.out j y hyj).below hb hb1
            have w1 : IntKind.i64.wrap ((k : Int) - 1) = (j : Int) := by rw [IntKind.wrap_i64]; omega
            have j0 : (0 : Int) ≤ (j : Int) := by omega
            have j1 : (j : Int) < (xs.length : Int) := by omega
            have hk1 : (0 : Int) < (k : Int) := by omega
            clear hyj
            have Hj := Lib.hid hj; clear hj
            by_cases hlate : x.d < y.d
            · have Hfr := Lib.hid (show decide (Fares.dayBefore xs k ≤ x.d) = false by rw [decide_eq_false_iff_not, hfa]; omega)
              clear hfa
              go_wp2
              go_quiet ((go_at_call 76; first | (refine quiet_same (inRange_yes _ _ _ _ ?_ ?_) <;> omega) | (refine quiet_same (inRange_no _ _ _ _ ?_); omega)))
              go_wp2
              go_ret
              exact ⟨ret_bool (by rw [Hend.out (by rw [Hok.out, Hfr.out]; simp)]), (by repeat (first | exact hb | exact Below.refl _ _ | refine bA ?_ _ | refine bD ?_ _ | refine bD1 ?_ | refine bS ?_ (by simp) _))⟩
            · have Hfr := Lib.hid (show decide (Fares.dayBefore xs k ≤ x.d) = true by rw [decide_eq_true_eq, hfa]; omega)
              have hlate' : decide (x.d < y.d) = false := by simpa using hlate
              clear hfa
              go_wp2
              go_quiet ((go_at_call 76; first | (refine quiet_same (inRange_yes _ _ _ _ ?_ ?_) <;> omega) | (refine quiet_same (inRange_no _ _ _ _ ?_); omega)))
              go_wp2
              go_roundw
              case rel => exact ⟨k + 1, by omega, by go_num, (by repeat (first | exact hb | exact Below.refl _ _ | refine bA ?_ _ | refine bD ?_ _ | refine bD1 ?_ | refine bS ?_ (by simp) _)), fun i hi => by
                rcases Nat.lt_or_ge i k with h | h
                · exact He.out i h
                · rw [show i = k by omega, Hok.out, hv.out, Hfr.out]; rfl⟩
              case measure => simp [intOf]; omega
          · have hk1 : decide ((0 : Int) < (k : Int)) = false := by simp; omega
            have Hfr : Hid (decide (Fares.dayBefore xs k ≤ x.d) = true) := by
              have e0 : k = 0 := by omega
              subst e0
              exact decide_eq_true d0
            go_wp2
            go_quiet ((go_at_call 76; first | (refine quiet_same (inRange_yes _ _ _ _ ?_ ?_) <;> omega) | (refine quiet_same (inRange_no _ _ _ _ ?_); omega)))
            go_wp2
            go_roundw
            case rel => exact ⟨k + 1, by omega, by go_num, (by repeat (first | exact hb | exact Below.refl _ _ | refine bA ?_ _ | refine bD ?_ _ | refine bD1 ?_ | refine bS ?_ (by simp) _)), fun i hi => by
              rcases Nat.lt_or_ge i k with h | h
              · exact He.out i h
              · rw [show i = k by omega, Hok.out, hv.out, Hfr.out]; rfl⟩
            case measure => simp [intOf]; omega
        · have hv := Lib.hid (show Fares.chargeOk x = false by unfold Fares.chargeOk; rw [decide_eq_false_iff_not]; intro h; exact ha ⟨h.2.2.1, h.2.2.2⟩)
          obtain ⟨d0, d1⟩ := hd
          have Ha := Lib.hid ha; clear ha
          go_wp2
          go_quiet ((go_at_call 76; first | (refine quiet_same (inRange_yes _ _ _ _ ?_ ?_) <;> (have := Ha.out; omega)) | (refine quiet_same (inRange_no _ _ _ _ ?_); have := Ha.out; omega)))
          go_wp2
          go_ret
          exact ⟨ret_bool (by rw [Hend.out (by rw [Hok.out, hv.out]; rfl)]), (by repeat (first | exact hb | exact Below.refl _ _ | refine bA ?_ _ | refine bD ?_ _ | refine bD1 ?_ | refine bS ?_ (by simp) _))⟩
      · have hv := Lib.hid (show Fares.chargeOk x = false by unfold Fares.chargeOk; rw [decide_eq_false_iff_not]; intro h; exact hd ⟨h.1, h.2.1⟩)
        have Hd := Lib.hid hd; clear hd
        go_wp2
        go_quiet ((go_at_call 76; first | (refine quiet_same (inRange_yes _ _ _ _ ?_ ?_) <;> (have := Hd.out; omega)) | (refine quiet_same (inRange_no _ _ _ _ ?_); have := Hd.out; omega)))
        go_wp2
        go_ret
        exact ⟨ret_bool (by rw [Hend.out (by rw [Hok.out, hv.out]; rfl)]), (by repeat (first | exact hb | exact Below.refl _ _ | refine bA ?_ _ | refine bD ?_ _ | refine bD1 ?_ | refine bS ?_ (by simp) _))⟩
    · have hk2 : k = xs.length := by omega
      have Hk2 := Lib.hid hk2; clear hk2
      go_wp2
      go_ret
      exact ⟨ret_bool (by
        unfold Fares.validCharges
        rw [Fares.all_range_true (fun j hj => He.out j (by omega)), Bool.eq_iff_iff]
        simp
        try omega), hb⟩
end Go.Proofs.Ytdokilpinjabcaa
