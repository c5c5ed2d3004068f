/-
  NextTry on both sides: the first try that is not before a minute.
-/
import Derived.Test.YtfeeofablnjjdaaTryImpl3
import Derived.Test.YtfeeofablnjjdaaDigitMath
set_option linter.unusedSimpArgs false
namespace Go.Proofs.Ytfeeofablnjjdaa
open Go.RowKit
set_option linter.unusedVariables false

set_option maxRecDepth 100000 in
set_option maxHeartbeats 1000000 in
theorem specNextTry_any (b f m : Int) (w : World) :
    Calls Try.prog 21 #[.int .i64 b, .int .i64 f, .int .i64 m] w fun e w' => e = .returned (.int .i64 (Fares.nextTry b f m)) ∧ Below w.heap.size w w' := by
  have Hl := Lib.hid (Fares.triesOf_length b f)
  have Hd : Hid (Fares.nextTry b f m = Fares.firstAt m (Fares.triesOf b f)) := rfl
  obtain ⟨xs, hX⟩ : ∃ xs, Fares.triesOf b f = xs := ⟨_, rfl⟩
  rw [hX] at Hl Hd
  go_enter Try.func21, Try.ntmps21
  go_wp2_with fail
  refine (specTriesOf_any b f _).mono ?_
  rw [hX]
  rintro e w1 ⟨v, rfl, hown, hb⟩
  obtain ⟨A, c, rfl, hc1, hc2, hx⟩ := hown.form
  clear hown
  go_wp2
  go_loop [8] (fun i => ∃ k : Nat, k ≤ xs.length ∧ i = .int .i64 k ∧ Hid (Fares.firstAt m xs = Fares.firstAt m (xs.drop k))) (fun i => xs.length - (intOf i).toNat)
  case atStart => exact ⟨0, Nat.zero_le _, rfl, (rfl : Fares.firstAt m xs = _)⟩
  case round =>
    obtain ⟨k, hk, rfl, Hs⟩ := hrel
    have hl4 := Hl.out
    by_cases hlt : k < xs.length
    · obtain ⟨x, hxk⟩ : ∃ x, xs[k]? = some x := ⟨xs[k], List.getElem?_eq_getElem hlt⟩
      obtain ⟨b1, o1, rfl, hb1, hr1⟩ := hx.row (by omega)
      have q0 := hr1 k x hxk
      have Hx := Lib.hid (Fares.drop_cons hxk)
      clear hr1 hxk
      have i0 : (0 : Int) ≤ (k : Int) := by omega
      have i1 : (k : Int) < (xs.length : Int) := by omega
      by_cases hm : m ≤ x
      · go_wp2
        go_ret
        exact ⟨ret_int (by rw [Hd.out, Hs.out, Hx.out, Fares.firstAt_hit _ hm]), hb⟩
      · go_wp2
        go_round
        case rel => exact ⟨k + 1, by omega, by go_num, (by rw [Hs.out, Hx.out, Fares.firstAt_skip _ hm] : Fares.firstAt m xs = _)⟩
        case measure => simp [intOf]; omega
    · have i1 : ¬ (k : Int) < (xs.length : Int) := by omega
      go_wp2
      go_ret
      exact ⟨ret_int (by rw [Hd.out, Hs.out, List.drop_of_length_le (by omega)]; rfl), hb⟩

set_option maxRecDepth 100000 in
set_option maxHeartbeats 1000000 in
theorem implNextTry_any (b f m : Int) (w : World) :
    Calls Try.prog 20 #[.int .i64 b, .int .i64 f, .int .i64 m] w fun e w' => e = .returned (.int .i64 (Fares.nextTry b f m)) ∧ Below w.heap.size w w' := by
  have Hl := Lib.hid (Fares.triesOf_length b f)
  have Hd : Hid (Fares.nextTry b f m = Fares.firstAt m (Fares.triesOf b f)) := rfl
  obtain ⟨xs, hX⟩ : ∃ xs, Fares.triesOf b f = xs := ⟨_, rfl⟩
  rw [hX] at Hl Hd
  go_enter Try.func20, Try.ntmps20
  go_wp2_with fail
  refine (implTriesOf_any b f _).mono ?_
  rw [hX]
  rintro e w1 ⟨v, rfl, hown, hb⟩
  obtain ⟨A, c, rfl, hc1, hc2, hx⟩ := hown.form
  clear hown
  go_wp2
  go_loop [13] (fun i => ∃ k : Nat, k ≤ xs.length ∧ i = .int .i64 k ∧ Hid (Fares.firstAt m xs = Fares.firstAt m (xs.drop k))) (fun i => xs.length - (intOf i).toNat)
  case atStart => exact ⟨0, Nat.zero_le _, rfl, (rfl : Fares.firstAt m xs = _)⟩
  case round =>
    obtain ⟨k, hk, rfl, Hs⟩ := hrel
    have hl4 := Hl.out
    by_cases hlt : k < xs.length
    · obtain ⟨x, hxk⟩ : ∃ x, xs[k]? = some x := ⟨xs[k], List.getElem?_eq_getElem hlt⟩
      obtain ⟨b1, o1, rfl, hb1, hr1⟩ := hx.row (by omega)
      have q0 := hr1 k x hxk
      have Hx := Lib.hid (Fares.drop_cons hxk)
      clear hr1 hxk
      have i0 : (0 : Int) ≤ (k : Int) := by omega
      have i1 : (k : Int) < (xs.length : Int) := by omega
      by_cases hm : m ≤ x
      · go_wp2
        go_ret
        exact ⟨ret_int (by rw [Hd.out, Hs.out, Hx.out, Fares.firstAt_hit _ hm]), hb⟩
      · go_wp2
        go_round
        case rel => exact ⟨k + 1, by omega, by go_num, (by rw [Hs.out, Hx.out, Fares.firstAt_skip _ hm] : Fares.firstAt m xs = _)⟩
        case measure => simp [intOf]; omega
    · have i1 : ¬ (k : Int) < (xs.length : Int) := by omega
      go_wp2
      go_ret
      exact ⟨ret_int (by rw [Hd.out, Hs.out, List.drop_of_length_le (by omega)]; rfl), hb⟩
end Go.Proofs.Ytfeeofablnjjdaa
