/-
  Chapter 16: what is valid, and the sums: the program's and the model's.
-/
import Derived.Test.YtpdddadplagcpaaDebtMath
import Derived.Test.YtpdddadplagcpaaStDebt
import Derived.Test.YtpdddadplagcpaaBasic
import Derived.Test.YtpdddadplagcpaaReg
set_option linter.unusedSimpArgs false
namespace Go.Proofs.Ytpdddadplagcpaa
open Go.RowKit
set_option linter.unusedVariables false

set_option maxHeartbeats 400000 in
theorem amountValid_any (m : Int) (w : World) :
    Calls Try.prog 53 #[.int .i64 m] w fun e w' => e = .returned (.bool (decide (1 ≤ m ∧ m ≤ 100000))) ∧ w = w' := by
  go_enter Try.func53, Try.ntmps53
  go_wp2
  all_goals (go_ret; exact ⟨ret_bool (by rw [Bool.eq_iff_iff]; simp; try omega), rfl⟩)
set_option maxHeartbeats 400000 in
theorem implDebtvalid_any (c : Fares.Debt) (w : World) :
    Calls Try.prog 41 #[debtV c] w fun e w' => e = .returned (.bool (Fares.debtOk c)) ∧ Below w.heap.size w w' := by
  unfold debtV
  have hE : Fares.debtOk c = (Fares.dayOk c.d && decide (1 ≤ c.a ∧ c.a ≤ 100000)) := by
    unfold Fares.debtOk Fares.dayOk
    rw [Bool.eq_iff_iff]
    simp only [decide_eq_true_eq, Bool.and_eq_true]
    omega
  have HE := Lib.hid hE; clear hE
  cases hd : Fares.dayOk c.d
  · go_enter Try.func41, Try.ntmps41
    go_wp2_with (first | (go_at_call 52; refine (dayValid_any _ _).mono ?_; rintro e w' ⟨rfl, rfl⟩; rw [hd]))
    go_ret
    exact ⟨ret_bool (by rw [HE.out, hd]; rfl), (by repeat (first | exact Below.refl _ _ | refine bA ?_ _ | refine bD ?_ _ | refine bD1 ?_ | refine bS ?_ (by simp) _))⟩
  · go_enter Try.func41, Try.ntmps41
    go_wp2_with (first | (go_at_call 52; refine (dayValid_any _ _).mono ?_; rintro e w' ⟨rfl, rfl⟩; rw [hd]) | (go_at_call 53; refine (amountValid_any _ _).mono ?_; rintro e w' ⟨rfl, rfl⟩))
    go_ret
    exact ⟨ret_bool (by rw [HE.out, hd]; simp), (by repeat (first | exact Below.refl _ _ | refine bA ?_ _ | refine bD ?_ _ | refine bD1 ?_ | refine bS ?_ (by simp) _))⟩

set_option maxRecDepth 100000 in
set_option maxHeartbeats 2000000 in
theorem specvalidDebts_any (A : Option Addr) (n c : Nat) (xs : List Fares.Debt) (w : World) (hx : Debts w w.heap.size A xs) (hn : xs.length = n) (hl : n ≤ 1000000000) :
    Calls Try.prog 42 #[.slice A n c] w fun e w' => e = .returned (.bool (Fares.validDebts xs)) ∧ Below w.heap.size w w' := by
  subst hn
  go_enter Try.func42, Try.ntmps42
  go_wp2
  go_loopw [3] (fun i wr => ∃ k : Nat, k ≤ xs.length ∧ i = .int .i64 k ∧ Below w.heap.size w wr ∧ ∀ j, j < k → Fares.debtOkAt xs j = true) (fun i _ => xs.length - (intOf i).toNat)
  case atStart => exact ⟨0, Nat.zero_le _, rfl, Below.refl _ _, fun j hj => absurd hj (by omega)⟩
  case round =>
    obtain ⟨k, hk, rfl, hb, he⟩ := hrel
    have He := Lib.hid he; clear he
    by_cases hlt : k < xs.length
    · obtain ⟨x, hxk⟩ : ∃ x, xs[k]? = some x := ⟨xs[k], List.getElem?_eq_getElem hlt⟩
      have Hend : Hid (Fares.debtOkAt xs k = false → Fares.validDebts xs = false) := fun h => by
        unfold Fares.validDebts; exact Fares.range_false hlt h
      obtain ⟨b1, o1, rfl, hb1, hr1⟩ := hx.row (by omega)
      obtain ⟨p0, p1⟩ := (hr1 k x hxk).below hb hb1
      have Hok := Lib.hid (Fares.debtOkAt_of hxk)
      have Hr := Lib.hid hr1; clear hr1
      clear hxk hx
      have i0 : (0 : Int) ≤ (k : Int) := by omega
      have i1 : (k : Int) < (xs.length : Int) := by omega
      by_cases hd : 0 ≤ x.d ∧ x.d ≤ 28
      · by_cases ha : 1 ≤ x.a ∧ x.a ≤ 100000
        · have hv := Lib.hid (show Fares.debtOk x = true by unfold Fares.debtOk; simp only [decide_eq_true_eq]; exact ⟨hd.1, hd.2, ha.1, ha.2⟩)
          obtain ⟨d0, d1⟩ := hd
          obtain ⟨a0, a1⟩ := ha
          by_cases hk0 : 0 < k
          · obtain ⟨j, hj⟩ : ∃ j, k = j + 1 := ⟨k - 1, by omega⟩
            obtain ⟨y, hyj⟩ : ∃ y, xs[j]? = some y := ⟨xs[j], List.getElem?_eq_getElem (by omega)⟩
            have hfa : Fares.lastDay xs k = y.d := by rw [hj, Fares.lastDay_succ hyj]
            obtain ⟨r0, r1⟩ := (Hr.out j y hyj).below hb hb1
            have w1 : IntKind.i64.wrap ((k : Int) - 1) = (j : Int) := by rw [IntKind.wrap_i64]; omega
            have j0 : (0 : Int) ≤ (j : Int) := by omega
            have j1 : (j : Int) < (xs.length : Int) := by omega
            have hk1 : (0 : Int) < (k : Int) := by omega
            clear hyj
            have Hj := Lib.hid hj; clear hj
            by_cases hlate : x.d ≤ y.d
            · have Hfr := Lib.hid (show decide (Fares.lastDay xs k < x.d) = false by rw [decide_eq_false_iff_not, hfa]; omega)
              clear hfa
              go_wp2
              go_quiet ((go_at_call 49; first | (refine quiet_same (inRange_yes _ _ _ _ ?_ ?_) <;> omega) | (refine quiet_same (inRange_no _ _ _ _ ?_); omega)))
              go_wp2
              go_ret
              exact ⟨ret_bool (by rw [Hend.out (by rw [Hok.out, Hfr.out]; simp)]), (by repeat (first | exact hb | exact Below.refl _ _ | refine bA ?_ _ | refine bD ?_ _ | refine bD1 ?_ | refine bS ?_ (by simp) _))⟩
            · have Hfr := Lib.hid (show decide (Fares.lastDay xs k < x.d) = true by rw [decide_eq_true_eq, hfa]; omega)
              have hlate' : decide (x.d ≤ y.d) = false := by simpa using hlate
              clear hfa
              go_wp2
              go_quiet ((go_at_call 49; first | (refine quiet_same (inRange_yes _ _ _ _ ?_ ?_) <;> omega) | (refine quiet_same (inRange_no _ _ _ _ ?_); omega)))
              go_wp2
              go_roundw
              case rel => exact ⟨k + 1, by omega, by go_num, (by repeat (first | exact hb | exact Below.refl _ _ | refine bA ?_ _ | refine bD ?_ _ | refine bD1 ?_ | refine bS ?_ (by simp) _)), fun i hi => by
                rcases Nat.lt_or_ge i k with h | h
                · exact He.out i h
                · rw [show i = k by omega, Hok.out, hv.out, Hfr.out]; rfl⟩
              case measure => simp [intOf]; omega
          · have hk1 : decide ((0 : Int) < (k : Int)) = false := by simp; omega
            have Hfr : Hid (decide (Fares.lastDay xs k < x.d) = true) := by
              have e0 : k = 0 := by omega
              subst e0
              exact decide_eq_true (by show (-1 : Int) < x.d; omega)
            go_wp2
            go_quiet ((go_at_call 49; first | (refine quiet_same (inRange_yes _ _ _ _ ?_ ?_) <;> omega) | (refine quiet_same (inRange_no _ _ _ _ ?_); omega)))
            go_wp2
            go_roundw
            case rel => exact ⟨k + 1, by omega, by go_num, (by repeat (first | exact hb | exact Below.refl _ _ | refine bA ?_ _ | refine bD ?_ _ | refine bD1 ?_ | refine bS ?_ (by simp) _)), fun i hi => by
              rcases Nat.lt_or_ge i k with h | h
              · exact He.out i h
              · rw [show i = k by omega, Hok.out, hv.out, Hfr.out]; rfl⟩
            case measure => simp [intOf]; omega
        · have hv := Lib.hid (show Fares.debtOk x = false by unfold Fares.debtOk; rw [decide_eq_false_iff_not]; intro h; exact ha ⟨h.2.2.1, h.2.2.2⟩)
          obtain ⟨d0, d1⟩ := hd
          have Ha := Lib.hid ha; clear ha
          go_wp2
          go_quiet ((go_at_call 49; first | (refine quiet_same (inRange_yes _ _ _ _ ?_ ?_) <;> (have := Ha.out; omega)) | (refine quiet_same (inRange_no _ _ _ _ ?_); have := Ha.out; omega)))
          go_wp2
          go_ret
          exact ⟨ret_bool (by rw [Hend.out (by rw [Hok.out, hv.out]; rfl)]), (by repeat (first | exact hb | exact Below.refl _ _ | refine bA ?_ _ | refine bD ?_ _ | refine bD1 ?_ | refine bS ?_ (by simp) _))⟩
      · have hv := Lib.hid (show Fares.debtOk x = false by unfold Fares.debtOk; rw [decide_eq_false_iff_not]; intro h; exact hd ⟨h.1, h.2.1⟩)
        have Hd := Lib.hid hd; clear hd
        go_wp2
        go_quiet ((go_at_call 49; first | (refine quiet_same (inRange_yes _ _ _ _ ?_ ?_) <;> (have := Hd.out; omega)) | (refine quiet_same (inRange_no _ _ _ _ ?_); have := Hd.out; omega)))
        go_wp2
        go_ret
        exact ⟨ret_bool (by rw [Hend.out (by rw [Hok.out, hv.out]; rfl)]), (by repeat (first | exact hb | exact Below.refl _ _ | refine bA ?_ _ | refine bD ?_ _ | refine bD1 ?_ | refine bS ?_ (by simp) _))⟩
    · have i1 : ¬ (k : Int) < (xs.length : Int) := by omega
      go_wp2
      go_ret
      exact ⟨ret_bool (by unfold Fares.validDebts; rw [Fares.range_true (fun j hj => He.out j (by omega))]), hb⟩

theorem specValidDebts_any (A : Option Addr) (n c : Nat) (xs : List Fares.Debt) (w : World) (hx : Debts w w.heap.size A xs) (hn : xs.length = n) (hl : n ≤ 1000000000) :
    Calls Try.prog 20 #[.slice A n c] w fun e w' => e = .returned (.bool (Fares.validDebts xs)) ∧ Below w.heap.size w w' := by
  go_enter Try.func20, Try.ntmps20
  go_wp2_with fail
  refine (specvalidDebts_any A n c xs _ hx hn hl).mono ?_
  rintro e w1 ⟨rfl, hb⟩
  go_wp2
  go_ret
  exact ⟨rfl, hb⟩
end Go.Proofs.Ytpdddadplagcpaa
