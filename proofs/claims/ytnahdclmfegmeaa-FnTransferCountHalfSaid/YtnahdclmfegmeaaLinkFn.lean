/-
  Journeys that belong to the one before them: the program's fold and its model.
-/
import Derived.Test.YtnahdclmfegmeaaLinkMath
import Derived.Test.YtnahdclmfegmeaaJourValid
namespace Go.Proofs.Ytnahdclmfegmeaa
open Go.RowKit
set_option linter.unusedVariables false

set_option maxHeartbeats 400000 in
theorem validWindow_any (n : Int) (w : World) :
    Calls Try.prog 99 #[.int .i64 n] w fun e w' => e = .returned (.bool (Fares.windowOk n)) ∧ w = w' := by
  go_enter Try.func99, Try.ntmps99
  go_wp2
  all_goals (go_ret; exact ⟨ret_bool (by unfold Fares.windowOk; rw [Bool.eq_iff_iff]; simp only [decide_eq_true_eq, Bool.false_eq_true, true_iff, iff_true, false_iff, iff_false, Bool.true_eq_false]; omega), rfl⟩)

set_option maxRecDepth 100000 in
set_option maxHeartbeats 1000000 in
theorem follows_any (x y : Fares.Journey) (win : Int) (w : World) (x0 : 0 ≤ x.x) (x1 : x.x ≤ 40319) (y0 : 0 ≤ y.y) (y1 : y.y ≤ 40319) :
    Calls Try.prog 128 #[journeyV x, journeyV y, .int .i64 win] w fun e w' => e = .returned (.bool (Fares.belongs y x win)) ∧ Below w.heap.size w w' := by
  unfold journeyV
  go_enter Try.func128, Try.ntmps128
  go_wp2
  all_goals (go_ret; exact ⟨ret_bool (by rw [Bool.eq_iff_iff]; unfold Fares.belongs; simp_all), (by repeat (first | exact Below.refl _ _ | refine bA ?_ _ | refine bD ?_ _ | refine bD1 ?_ | refine bS ?_ (by simp) _))⟩)

set_option maxRecDepth 100000 in
set_option maxHeartbeats 1000000 in
theorem specTransferCount_any (A : Option Addr) (n c : Nat) (xs : List Fares.Journey) (win : Int) (w : World) (hx : Journeys w w.heap.size A xs) (hn : xs.length = n) (hl : n ≤ 1000000000) :
    Calls Try.prog 56 #[.slice A n c, .int .i64 win] w fun e w' => e = .returned (.int .i64 (Fares.transferCount xs win)) ∧ Below w.heap.size w w' := by
  subst hn
  have HE : Hid (Fares.transferCount xs win = if Fares.validJourneys xs && Fares.windowOk win then Fares.transferSum xs win xs.length else -1) := rfl
  by_cases hv : Fares.validJourneys xs = true
  · have hlen := Fares.length_of_valid hv
    by_cases hw : 0 ≤ win ∧ win ≤ 120
    · have HE2 := Lib.hid (show Fares.transferCount xs win = Fares.transferSum xs win xs.length by rw [HE.out, hv]; unfold Fares.windowOk; rw [decide_eq_true hw]; rfl)
      obtain ⟨g0, g1⟩ := hw
      have Hok : Hid (∀ {k : Nat} {j : Fares.Journey}, xs[k]? = some j → 0 ≤ j.x ∧ j.x ≤ 40319 ∧ 0 ≤ j.y ∧ j.y ≤ 40319) := fun h => Fares.journey_bounds hv h
      go_enter Try.func56, Try.ntmps56
      go_wp2_with fail
      refine (specvalidJourneys_any A _ c xs _ hx rfl hl).mono ?_
      rintro e wx ⟨rfl, hbx⟩
      go_wp2_with (go_at_call 102; refine (inRange_yes _ _ _ _ g0 g1).mono ?_; rintro e w' ⟨rfl, rfl⟩)
      go_loopw [6, 5] (fun i v wr => ∃ (k : Nat) (s : Int), 1 ≤ k ∧ (k ≤ xs.length ∨ (xs.length = 0 ∧ k = 1)) ∧ i = .int .i64 k ∧ v = .int .i64 s ∧ 0 ≤ s ∧ s ≤ k ∧ s = Fares.transferSum xs win k ∧ Below w.heap.size w wr) (fun i _ _ => xs.length - (intOf i).toNat)
      case atStart => exact ⟨1, 0, Nat.le_refl _, by omega, rfl, rfl, by omega, by omega, rfl, hbx⟩
      case round =>
        obtain ⟨k, s, hk1, hk, rfl, rfl, s0, s1, hs, hb⟩ := hrel
        have Hs := Lib.hid hs; clear hs
        have Hkk := Lib.hid hk; clear hk
        obtain ⟨m, hm⟩ : ∃ m, k = m + 1 := ⟨k - 1, by omega⟩
        by_cases hlt : k < xs.length
        · skip
          obtain ⟨x, hxk⟩ : ∃ x, xs[k]? = some x := ⟨_, List.getElem?_eq_getElem hlt⟩
          obtain ⟨y, hyk⟩ : ∃ y, xs[m]? = some y := ⟨xs[m], List.getElem?_eq_getElem (by omega)⟩
          obtain ⟨x0, x1, _, _⟩ := Hok.out hxk
          obtain ⟨_, _, y0, y1⟩ := Hok.out hyk
          obtain ⟨b1, o1, rfl, hb1, hr1⟩ := hx.row (by omega)
          obtain ⟨p0, p1, p2, p3, p4⟩ := (hr1 k x hxk).below hb hb1
          obtain ⟨r0, r1, r2, r3, r4⟩ := (hr1 m y hyk).below hb hb1
          have Hbel := Lib.hid (show Fares.belongsAt xs win k = Fares.belongs y x win by rw [hm] at hxk ⊢; exact Fares.belongsAt_of (w := win) hyk hxk)
          have Hts := Lib.hid (show Fares.transferSum xs win (k + 1) = Fares.transferSum xs win k + (if Fares.belongsAt xs win k then 1 else 0) from rfl)
          clear hxk hyk hr1 hx
          have w1 : IntKind.i64.wrap ((k : Int) - 1) = (m : Int) := by rw [IntKind.wrap_i64]; omega
          have i0 : (0 : Int) ≤ (k : Int) := by omega
          have i1 : (k : Int) < (xs.length : Int) := by omega
          have j0 : (0 : Int) ≤ (m : Int) := by omega
          have j1 : (m : Int) < (xs.length : Int) := by omega
          have Hm := Lib.hid hm; clear hm
          by_cases hxf : x.f = true
          · by_cases hyf : y.f = true
            · by_cases hle : x.x - y.y ≤ win
              · skip
                rw [hxf] at p4
                rw [hyf] at r4
                have hd : decide (x.x - y.y ≤ win) = true := by simpa using hle
                have W0 : IntKind.i64.wrap (x.x - y.y) = x.x - y.y := IntWalk.i64_in _ (by omega)
                have W1 : IntKind.i64.wrap (s + 1) = s + 1 := IntWalk.i64_in _ (by omega)
                have Hb := Lib.hid (show Fares.belongsAt xs win k = true by rw [Hbel.out]; unfold Fares.belongs; rw [hxf, hyf]; simpa using hle)
                clear hxf hyf
                clear hle
                go_wp2
                go_quiet ((go_at_call 97; exact quiet_same (toInt_yes _)))
                go_wp2
                clear W1 w1 W0 hd
                go_roundw
                case rel => exact ⟨k + 1, s + 1, by omega, .inl (by omega), by go_num, by go_num, by omega, by push_cast; omega, by rw [Hts.out, Hb.out, ← Hs.out]; simp, (by repeat (first | exact hb | exact Below.refl _ _ | refine bA ?_ _ | refine bD ?_ _ | refine bD1 ?_ | refine bS ?_ (by simp) _))⟩
                case measure => simp [intOf]; omega
              · skip
                rw [hxf] at p4
                rw [hyf] at r4
                have hd : decide (x.x - y.y ≤ win) = false := by simpa using hle
                have W0 : IntKind.i64.wrap (x.x - y.y) = x.x - y.y := IntWalk.i64_in _ (by omega)
                have W1 : IntKind.i64.wrap (s + 0) = s + 0 := IntWalk.i64_in _ (by omega)
                have Hb := Lib.hid (show Fares.belongsAt xs win k = false by rw [Hbel.out]; unfold Fares.belongs; rw [hxf, hyf]; simpa using hle)
                clear hxf hyf
                clear hle
                go_wp2
                go_quiet ((go_at_call 97; exact quiet_same (toInt_no _)))
                go_wp2
                clear W1 w1 W0 hd
                go_roundw
                case rel => exact ⟨k + 1, s, by omega, .inl (by omega), by go_num, by simp, by omega, by push_cast; omega, by rw [Hts.out, Hb.out, ← Hs.out]; simp, (by repeat (first | exact hb | exact Below.refl _ _ | refine bA ?_ _ | refine bD ?_ _ | refine bD1 ?_ | refine bS ?_ (by simp) _))⟩
                case measure => simp [intOf]; omega
            · have hyf' : y.f = false := by simpa using hyf
              clear hyf
              have hyf := hyf'
              clear hyf'
              rw [hxf] at p4
              rw [hyf] at r4
              have W1 : IntKind.i64.wrap (s + 0) = s + 0 := IntWalk.i64_in _ (by omega)
              have Hb := Lib.hid (show Fares.belongsAt xs win k = false by rw [Hbel.out]; unfold Fares.belongs; rw [hxf, hyf]; simp)
              clear hxf hyf
              go_wp2
              go_quiet ((go_at_call 97; exact quiet_same (toInt_no _)))
              go_wp2
              clear W1 w1
              go_roundw
              case rel => exact ⟨k + 1, s, by omega, .inl (by omega), by go_num, by simp, by omega, by push_cast; omega, by rw [Hts.out, Hb.out, ← Hs.out]; simp, (by repeat (first | exact hb | exact Below.refl _ _ | refine bA ?_ _ | refine bD ?_ _ | refine bD1 ?_ | refine bS ?_ (by simp) _))⟩
              case measure => simp [intOf]; omega
          · have hxf' : x.f = false := by simpa using hxf
            clear hxf
            have hxf := hxf'
            clear hxf'
            by_cases hyf : y.f = true
            · skip
              rw [hxf] at p4
              rw [hyf] at r4
              have W1 : IntKind.i64.wrap (s + 0) = s + 0 := IntWalk.i64_in _ (by omega)
              have Hb := Lib.hid (show Fares.belongsAt xs win k = false by rw [Hbel.out]; unfold Fares.belongs; rw [hxf, hyf]; simp)
              clear hxf hyf
              go_wp2
              go_quiet ((go_at_call 97; exact quiet_same (toInt_no _)))
              go_wp2
              clear W1 w1
              go_roundw
              case rel => exact ⟨k + 1, s, by omega, .inl (by omega), by go_num, by simp, by omega, by push_cast; omega, by rw [Hts.out, Hb.out, ← Hs.out]; simp, (by repeat (first | exact hb | exact Below.refl _ _ | refine bA ?_ _ | refine bD ?_ _ | refine bD1 ?_ | refine bS ?_ (by simp) _))⟩
              case measure => simp [intOf]; omega
            · have hyf' : y.f = false := by simpa using hyf
              clear hyf
              have hyf := hyf'
              clear hyf'
              rw [hxf] at p4
              rw [hyf] at r4
              have W1 : IntKind.i64.wrap (s + 0) = s + 0 := IntWalk.i64_in _ (by omega)
              have Hb := Lib.hid (show Fares.belongsAt xs win k = false by rw [Hbel.out]; unfold Fares.belongs; rw [hxf, hyf]; simp)
              clear hxf hyf
              go_wp2
              go_quiet ((go_at_call 97; exact quiet_same (toInt_no _)))
              go_wp2
              clear W1 w1
              go_roundw
              case rel => exact ⟨k + 1, s, by omega, .inl (by omega), by go_num, by simp, by omega, by push_cast; omega, by rw [Hts.out, Hb.out, ← Hs.out]; simp, (by repeat (first | exact hb | exact Below.refl _ _ | refine bA ?_ _ | refine bD ?_ _ | refine bD1 ?_ | refine bS ?_ (by simp) _))⟩
              case measure => simp [intOf]; omega
        · have hend : s = Fares.transferSum xs win xs.length := by
            rcases Hkk.out with h | ⟨h1, h2⟩
            · rw [show xs.length = k by omega]; exact Hs.out
            · rw [h1]
              have := Hs.out
              rw [h2] at this
              exact this
          have Hend := Lib.hid hend; clear hend hm
          go_wp2
          go_ret
          exact ⟨ret_int (by rw [HE2.out, ← Hend.out]), hb⟩
    · have HE2 := Lib.hid (show Fares.transferCount xs win = -1 by rw [HE.out, hv]; unfold Fares.windowOk; rw [decide_eq_false hw]; rfl)
      have Hw := Lib.hid hw; clear hw
      go_enter Try.func56, Try.ntmps56
      go_wp2_with fail
      refine (specvalidJourneys_any A _ c xs _ hx rfl hl).mono ?_
      rintro e wx ⟨rfl, hbx⟩
      go_wp2_with (go_at_call 102; refine (inRange_no _ _ _ _ (by have := Hw.out; omega)).mono ?_; rintro e w' ⟨rfl, rfl⟩)
      go_ret
      exact ⟨ret_int (by rw [HE2.out]), hbx⟩
  · have hv' : Fares.validJourneys xs = false := by simpa using hv
    have HE2 := Lib.hid (show Fares.transferCount xs win = -1 by rw [HE.out, hv']; rfl)
    clear hv
    go_enter Try.func56, Try.ntmps56
    go_wp2_with fail
    refine (specvalidJourneys_any A _ c xs _ hx rfl hl).mono ?_
    rintro e wx ⟨rfl, hbx⟩
    go_wp2
    go_ret
    exact ⟨ret_int (by rw [HE2.out]), hbx⟩
end Go.Proofs.Ytnahdclmfegmeaa
