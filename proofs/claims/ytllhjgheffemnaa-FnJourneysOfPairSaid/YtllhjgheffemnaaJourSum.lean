/-
  Minutes and halves of journeys: the program's sums and their models.
-/
import Derived.Test.YtllhjgheffemnaaJourValid
set_option linter.unusedSimpArgs false
namespace Go.Proofs.Ytllhjgheffemnaa
open Go.RowKit
set_option linter.unusedVariables false

set_option maxRecDepth 100000 in
set_option maxHeartbeats 2000000 in
theorem implHalfCount_any (A : Option Addr) (n c : Nat) (xs : List Fares.Journey) (w : World) (hx : Journeys w w.heap.size A xs) (hn : xs.length = n) (hl : n ≤ 1000000000) :
    Calls Try.prog 16 #[.slice A n c] w fun e w' => e = .returned (.int .i64 (Fares.halfCount xs)) ∧ Below w.heap.size w w' := by
  have hsl := hn
  subst hn
  by_cases hv : Fares.validJourneys xs = true
  · have htot : Fares.halfCount xs = Fares.halfSum xs := by unfold Fares.halfCount; rw [if_pos hv]
    have Htot := Lib.hid htot; clear htot
    have hlen := Fares.length_of_valid hv
    have Hok : Hid (∀ k x, xs[k]? = some x → Fares.validJourney x = true) := fun k x h => Fares.validJourney_of hv h
    go_enter Try.func16, Try.ntmps16
    go_wp2_with fail
    refine (implValidJourneys_any A _ c xs _ hx rfl (by omega)).mono ?_
    rintro e w1 ⟨rfl, hb1⟩
    go_wp2
    go_loopw [11, 3] (fun i v wr => ∃ (k : Nat) (s : Int), k ≤ xs.length ∧ i = .int .i64 k ∧ v = .int .i64 s ∧ 0 ≤ s ∧ s ≤ k ∧ s = Fares.halfSum (xs.take k) ∧ Below w.heap.size w wr) (fun i _ _ => xs.length - (intOf i).toNat)
    case atStart => exact ⟨0, 0, Nat.zero_le _, rfl, rfl, by omega, by omega, by simp [Fares.halfSum], hb1⟩
    case round =>
      obtain ⟨k, s, hk, rfl, rfl, s0, s1, hs, hb⟩ := hrel
      have Hs := Lib.hid hs; clear hs
      by_cases hlt : k < xs.length
      · obtain ⟨x, hxk⟩ : ∃ x, xs[k]? = some x := ⟨xs[k], List.getElem?_eq_getElem hlt⟩
        have hvx := Hok.out k x hxk
        unfold Fares.validJourney at hvx
        simp only [decide_eq_true_eq] at hvx
        obtain ⟨_, _, _, _, x0, x1, y0, y1, xy, xd, _⟩ := hvx
        obtain ⟨b1, o1, rfl, hbb1, hr1⟩ := hx.row (by omega)
        obtain ⟨p0, p1, p2, p3, p4⟩ := (hr1 k x hxk).below hb hbb1
        have Hnx := Lib.hid (Fares.halfSum_next hxk)
        clear hxk hr1
        have i0 : (0 : Int) ≤ (k : Int) := by omega
        have i1 : (k : Int) < (xs.length : Int) := by omega
        clear hb1
        by_cases hf : x.f = true
        · have Hf := Lib.hid hf
          go_wp2
          go_roundw
          case rel => exact ⟨k + 1, s, by omega, by go_num, by go_num, by omega, by omega, by rw [Hnx.out, ← Hs.out, Hf.out]; simp, (by repeat (first | exact hb | exact Below.refl _ _ | refine bA ?_ _ | refine bD ?_ _ | refine bD1 ?_ | refine bS ?_ (by simp) _))⟩
          case measure => simp [intOf]; omega
        · have hf' : x.f = false := by simpa using hf
          have Hf := Lib.hid hf'
          clear hf
          go_wp2
          go_roundw
          case rel => exact ⟨k + 1, s + 1, by omega, by go_num, by go_num, by omega, by omega, by rw [Hnx.out, ← Hs.out, Hf.out]; simp, (by repeat (first | exact hb | exact Below.refl _ _ | refine bA ?_ _ | refine bD ?_ _ | refine bD1 ?_ | refine bS ?_ (by simp) _))⟩
          case measure => simp [intOf]; omega
      · go_wp2
        go_ret
        exact ⟨ret_int (by have := Hs.out; rw [List.take_of_length_le (by omega)] at this; rw [this, Htot.out]), hb⟩
  · have hv' : Fares.validJourneys xs = false := by simpa using hv
    have htot : Fares.halfCount xs = -1 := by unfold Fares.halfCount; rw [if_neg hv]
    have Htot := Lib.hid htot; clear htot hv
    go_enter Try.func16, Try.ntmps16
    go_wp2_with fail
    refine (implValidJourneys_any A _ c xs _ hx rfl (by omega)).mono ?_
    rintro e w1 ⟨rfl, hb1⟩
    go_wp2
    go_ret
    exact ⟨ret_int (by rw [Htot.out]), hb1⟩

end Go.Proofs.Ytllhjgheffemnaa
