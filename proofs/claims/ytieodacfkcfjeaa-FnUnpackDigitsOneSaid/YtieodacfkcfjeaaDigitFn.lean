/-
  Contracts over digits in bytes: UnpackDigits on both sides.
-/
import Derived.Test.YtieodacfkcfjeaaDigitMath
import Derived.Test.YtieodacfkcfjeaaStByte
import Derived.Test.YtieodacfkcfjeaaBasic
set_option linter.unusedSimpArgs false
namespace Go.Proofs.Ytieodacfkcfjeaa
open Go.RowKit
set_option linter.unusedVariables false

theorem and15 (x : Int) (h0 : 0 ≤ x) (h1 : x < 256) : bits .and .u8 x 15 = x % 16 := by
  obtain ⟨n, rfl⟩ := Int.eq_ofNat_of_zero_le h0
  have key : ∀ m : Fin 256, bits .and .u8 (m.val : Int) 15 = (m.val : Int) % 16 := by decide +kernel
  exact key ⟨n, by omega⟩
def pow100 (k : Nat) : Int := (100 : Int) ^ k
theorem pow100_le {k : Nat} (h : k ≤ 3) : pow100 k ≤ 1000000 ∧ pow100 (k + 1) = 100 * pow100 k := by
  rcases (by omega : k = 0 ∨ k = 1 ∨ k = 2 ∨ k = 3) with h | h | h | h <;> subst h <;> decide
set_option maxRecDepth 100000 in
set_option maxHeartbeats 1000000 in
theorem specUnpackDigits_any (A : Option Addr) (n c : Nat) (xs : List Int) (w : World) (hx : ByteL w w.heap.size A xs) (hn : xs.length = n) (hl : n ≤ 1000000000) (hb : ∀ x ∈ xs, 0 ≤ x ∧ x < 256) :
    Calls Try.prog 5 #[.slice A n c] w fun e w' => e = .returned (.int .i64 (Fares.unpackDigits xs)) ∧ w = w' := by
  subst hn
  by_cases h4 : 1 ≤ xs.length ∧ xs.length ≤ 4
  · have H4 := Lib.hid h4; clear h4
    have Hb := Lib.hid hb; clear hb
    have Hd : Hid (Fares.unpackDigits xs = Fares.unpackFrom 0 xs) := by
      have := H4.out
      show Fares.unpackDigits xs = Fares.unpackFrom 0 xs
      unfold Fares.unpackDigits; rw [if_neg (by omega)]
    go_enter Try.func5, Try.ntmps5
    go_wp2_with fail
    refine (inRange_yes _ _ _ _ (by have := H4.out; omega) (by have := H4.out; omega)).mono ?_
    rintro e w' ⟨rfl, rfl⟩
    go_wp2
    go_loop [4, 3] (fun i v => ∃ (k : Nat) (s : Int), k ≤ xs.length ∧ i = .int .i64 k ∧ v = .int .i64 s ∧ 0 ≤ s ∧ s < pow100 k ∧ Fares.unpackFrom 0 xs = Fares.unpackFrom s (xs.drop k)) (fun i _ => xs.length - (intOf i).toNat)
    case atStart => exact ⟨0, 0, Nat.zero_le _, rfl, rfl, by omega, by decide, by simp⟩
    case round =>
      obtain ⟨k, s, hk, rfl, rfl, s0, s1, hs⟩ := hrel
      have Hs := Lib.hid hs; clear hs
      by_cases hlt : k < xs.length
      · have h3 : k ≤ 3 := by have := H4.out; omega
        obtain ⟨p0, p1⟩ := pow100_le h3
        have HP := Lib.hid p1; clear p1
        obtain ⟨x, hxk⟩ : ∃ x, xs[k]? = some x := ⟨xs[k], List.getElem?_eq_getElem hlt⟩
        obtain ⟨x0, x1⟩ := Hb.out x (List.mem_of_getElem? hxk)
        obtain ⟨b1, o1, rfl, hb1, hr1⟩ := hx.row (by omega)
        have q0 := hr1 k x hxk
        have Hx := Lib.hid (Fares.drop_cons hxk)
        clear hxk hr1
        have i0 : (0 : Int) ≤ (k : Int) := by omega
        have i1 : (k : Int) < (xs.length : Int) := by omega
        by_cases hbad : Fares.pairBad x = true
        · have hw := (Fares.pair_bad_iff x).1 hbad
          have HB := Lib.hid hbad; clear hbad
          go_wp2
          all_goals (go_ret; exact ⟨ret_int (by rw [Hd.out, Hs.out, Hx.out, Fares.unpackFrom_bad HB.out]), rfl⟩)
        · have hbad' : Fares.pairBad x = false := by simpa using hbad
          obtain ⟨b0, b1⟩ := (Fares.pair_ok_iff x).1 hbad'
          have HB := Lib.hid hbad'; clear hbad hbad'
          go_wp2
          go_round
          case rel => exact ⟨k + 1, 100 * s + 10 * (x / 16) + x % 16, by omega, by go_num, by go_num, by omega, by rw [HP.out]; omega, by rw [Hs.out, Hx.out, Fares.unpackFrom_next HB.out]; congr 1; unfold Fares.pairOf; omega⟩
          case measure => simp [intOf]; omega
      · go_wp2
        go_ret
        exact ⟨ret_int (by rw [Hd.out, Hs.out, List.drop_of_length_le (by omega)]; rfl), rfl⟩
  · have Hd : Hid (Fares.unpackDigits xs = -1) := by
      show Fares.unpackDigits xs = -1
      unfold Fares.unpackDigits; rw [if_pos (by omega)]
    go_enter Try.func5, Try.ntmps5
    go_wp2_with fail
    refine (inRange_no _ _ _ _ (by omega)).mono ?_
    rintro e w' ⟨rfl, rfl⟩
    go_wp2
    go_ret
    exact ⟨ret_int Hd.out.symm, rfl⟩

set_option maxRecDepth 100000 in
set_option maxHeartbeats 1000000 in
theorem implUnpackDigits_any (A : Option Addr) (n c : Nat) (xs : List Int) (w : World) (hx : ByteL w w.heap.size A xs) (hn : xs.length = n) (hl : n ≤ 1000000000) (hb : ∀ x ∈ xs, 0 ≤ x ∧ x < 256) :
    Calls Try.prog 7 #[.slice A n c] w fun e w' => e = .returned (.int .i64 (Fares.unpackDigits xs)) ∧ w = w' := by
  subst hn
  by_cases h4 : 1 ≤ xs.length ∧ xs.length ≤ 4
  · have Hd : Hid (Fares.unpackDigits xs = Fares.unpackFrom 0 xs) := by
      show Fares.unpackDigits xs = Fares.unpackFrom 0 xs
      unfold Fares.unpackDigits; rw [if_neg (by omega)]
    have z0 : ((xs.length : Int) == 0) = false := by rw [beq_eq_false_iff_ne]; omega
    have H4 := Lib.hid h4; clear h4
    have Hb := Lib.hid hb; clear hb
    have z1 : decide ((4 : Int) < (xs.length : Int)) = false := decide_eq_false (by have := H4.out; omega)
    go_enter Try.func7, Try.ntmps7
    go_wp2
    go_loop [18, 3] (fun i v => ∃ (k : Nat) (s : Int), k ≤ xs.length ∧ i = .int .i64 k ∧ v = .int .i64 s ∧ 0 ≤ s ∧ s < pow100 k ∧ Fares.unpackFrom 0 xs = Fares.unpackFrom s (xs.drop k)) (fun i _ => xs.length - (intOf i).toNat)
    case atStart => exact ⟨0, 0, Nat.zero_le _, rfl, rfl, by omega, by decide, by simp⟩
    case round =>
      obtain ⟨k, s, hk, rfl, rfl, s0, s1, hs⟩ := hrel
      have Hs := Lib.hid hs; clear hs
      by_cases hlt : k < xs.length
      · have h3 : k ≤ 3 := by have := H4.out; omega
        obtain ⟨p0, p1⟩ := pow100_le h3
        have HP := Lib.hid p1; clear p1
        obtain ⟨x, hxk⟩ : ∃ x, xs[k]? = some x := ⟨xs[k], List.getElem?_eq_getElem hlt⟩
        obtain ⟨x0, x1⟩ := Hb.out x (List.mem_of_getElem? hxk)
        obtain ⟨b1, o1, rfl, hb1, hr1⟩ := hx.row (by omega)
        have q0 := hr1 k x hxk
        have Hx := Lib.hid (Fares.drop_cons hxk)
        clear hxk hr1
        have i0 : (0 : Int) ≤ (k : Int) := by omega
        have i1 : (k : Int) < (xs.length : Int) := by omega
        have a15 := and15 x x0 x1
        by_cases hbad : Fares.pairBad x = true
        · have hw := (Fares.pair_bad_iff x).1 hbad
          have HB := Lib.hid hbad; clear hbad
          go_wp2
          all_goals (go_ret; exact ⟨ret_int (by rw [Hd.out, Hs.out, Hx.out, Fares.unpackFrom_bad HB.out]), rfl⟩)
        · have hbad' : Fares.pairBad x = false := by simpa using hbad
          obtain ⟨b0, b1⟩ := (Fares.pair_ok_iff x).1 hbad'
          have HB := Lib.hid hbad'; clear hbad hbad'
          go_wp2
          go_round
          case rel => exact ⟨k + 1, 100 * s + 10 * (x / 16) + x % 16, by omega, by go_num, by go_num, by omega, by rw [HP.out]; omega, by rw [Hs.out, Hx.out, Fares.unpackFrom_next HB.out]; congr 1; unfold Fares.pairOf; omega⟩
          case measure => simp [intOf]; omega
      · go_wp2
        go_ret
        exact ⟨ret_int (by rw [Hd.out, Hs.out, List.drop_of_length_le (by omega)]; rfl), rfl⟩
  · have Hd : Hid (Fares.unpackDigits xs = -1) := by
      show Fares.unpackDigits xs = -1
      unfold Fares.unpackDigits; rw [if_pos (by omega)]
    by_cases h0 : xs.length = 0
    · have z0 : ((xs.length : Int) == 0) = true := by rw [beq_iff_eq]; omega
      have H0 := Lib.hid h0; clear h0 h4
      go_enter Try.func7, Try.ntmps7
      go_wp2
      all_goals (go_ret; exact ⟨ret_int Hd.out.symm, rfl⟩)
    · have z0 : ((xs.length : Int) == 0) = false := by rw [beq_eq_false_iff_ne]; omega
      have z1 : decide ((4 : Int) < (xs.length : Int)) = true := decide_eq_true (by omega)
      clear h0 h4
      go_enter Try.func7, Try.ntmps7
      go_wp2
      all_goals (go_ret; exact ⟨ret_int Hd.out.symm, rfl⟩)
end Go.Proofs.Ytieodacfkcfjeaa
