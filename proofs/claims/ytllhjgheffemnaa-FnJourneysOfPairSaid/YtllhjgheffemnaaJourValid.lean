/-
  Journeys in order: the program's check and its model's; the sums over them.
-/
import Derived.Test.YtllhjgheffemnaaJourFn
set_option linter.unusedSimpArgs false
namespace Go.Proofs.Ytllhjgheffemnaa
open Go.RowKit
set_option linter.unusedVariables false

set_option maxRecDepth 100000 in
set_option maxHeartbeats 2000000 in
theorem implValidJourneys_any (A : Option Addr) (n c : Nat) (xs : List Fares.Journey) (w : World) (hx : Journeys w w.heap.size A xs) (hn : xs.length = n) (hl : n ≤ 4611686018427387904) :
    Calls Try.prog 15 #[.slice A n c] w fun e w' => e = .returned (.bool (Fares.validJourneys xs)) ∧ Below w.heap.size w w' := by
  subst hn
  by_cases hlong : 24 < xs.length
  · go_enter Try.func15, Try.ntmps15
    go_wp2
    go_ret
    exact ⟨ret_bool (by unfold Fares.validJourneys; simp; omega), Below.refl _ _⟩
  · go_enter Try.func15, Try.ntmps15
    go_wp2
    go_loopw [11, 3] (fun i f wr => ∃ k : Nat, k ≤ xs.length ∧ i = .int .i64 k ∧ f = .int .i64 (Fares.freeAt xs k) ∧ Below w.heap.size w wr ∧ ∀ j, j < k → Fares.jourOkAt xs j = true) (fun i _ _ => xs.length - (intOf i).toNat)
    case atStart => exact ⟨0, Nat.zero_le _, rfl, rfl, Below.refl _ _, fun j hj => absurd hj (by omega)⟩
    case round =>
      obtain ⟨k, hk, rfl, rfl, hb, he⟩ := hrel
      have He := Lib.hid he; clear he
      have hs1 := hb.size
      by_cases hlt : k < xs.length
      · obtain ⟨x, hxk⟩ : ∃ x, xs[k]? = some x := ⟨xs[k], List.getElem?_eq_getElem hlt⟩
        have Hend : Hid (Fares.jourOkAt xs k = false → Fares.validJourneys xs = false) := fun h => by
          unfold Fares.validJourneys; rw [Fares.all_range_false hlt h]; simp
        obtain ⟨b1, o1, rfl, hb1, hr1⟩ := hx.row (by omega)
        obtain ⟨p0, p1, p2, p3, p4⟩ := (hr1 k x hxk).below hb hb1
        have Hok := Lib.hid (Fares.jourOkAt_of hxk)
        have Hx := Lib.hid hxk; clear hxk
        have Hr := Lib.hid hr1; clear hr1
        have Hxs := Lib.hid hx; clear hx
        have i0 : (0 : Int) ≤ (k : Int) := by omega
        have i1 : (k : Int) < (xs.length : Int) := by omega
        have hnx := Fares.freeAt_succ Hx.out
        have Hnx := Lib.hid hnx; clear hnx
        by_cases hv : Fares.validJourney x = true
        · by_cases hlate : x.x < Fares.freeAt xs k
          · have Hfr := Lib.hid (show decide (Fares.freeAt xs k ≤ x.x) = false by rw [decide_eq_false_iff_not]; omega)
            go_wp2_with fail
            refine (implJourneyvalid_any x _).mono ?_
            rintro e w1 ⟨rfl, hb3⟩
            have hb4 : Below w.heap.size w w1 := bT (bA hb _) hb3
            obtain ⟨_, q0, q1, q2, q3, q4⟩ := (JourneyBox.new wr x 31).below hb3 (by simp)
            clear hb3
            go_wp2
            go_ret
            exact ⟨ret_bool (by rw [Hend.out (by rw [Hok.out, Hfr.out]; simp)]), hb4⟩
          · have Hfr := Lib.hid (show decide (Fares.freeAt xs k ≤ x.x) = true by rw [decide_eq_true_eq]; omega)
            go_wp2_with fail
            refine (implJourneyvalid_any x _).mono ?_
            rintro e w1 ⟨rfl, hb3⟩
            have hb4 : Below w.heap.size w w1 := bT (bA hb _) hb3
            obtain ⟨_, q0, q1, q2, q3, q4⟩ := (JourneyBox.new wr x 31).below hb3 (by simp)
            clear hb3
            go_wp2
            go_roundw
            case rel => exact ⟨k + 1, by omega, by go_num, by rw [Hnx.out], hb4, fun i hi => by
              rcases Nat.lt_or_ge i k with h | h
              · exact He.out i h
              · rw [show i = k by omega, Hok.out, hv, Hfr.out]; rfl⟩
            case measure => simp [intOf]; omega
        · have hv' : Fares.validJourney x = false := by simpa using hv
          clear hv
          go_wp2_with fail
          refine (implJourneyvalid_any x _).mono ?_
          rintro e w1 ⟨rfl, hb3⟩
          have hb4 : Below w.heap.size w w1 := bT (bA hb _) hb3
          clear hb3
          go_wp2
          go_ret
          exact ⟨ret_bool (by rw [Hend.out (by rw [Hok.out, hv']; rfl)]), hb4⟩
      · go_wp2
        go_ret
        exact ⟨ret_bool (by
          unfold Fares.validJourneys
          rw [Fares.all_range_true (fun j hj => He.out j (by omega))]
          simp; omega), hb⟩
end Go.Proofs.Ytllhjgheffemnaa
