/-
  Contracts over one tap and over slices of taps: what is valid, what is known, the order.
-/
import Derived.Test.YtllhjgheffemnaaTapMath
import Derived.Test.YtllhjgheffemnaaStTap
import Derived.Test.YtllhjgheffemnaaBasic
import Derived.Deep.RegionHeld3
set_option linter.unusedSimpArgs false
namespace Go.Proofs.Ytllhjgheffemnaa
open Go.RowKit
set_option linter.unusedVariables false

set_option maxHeartbeats 1000000 in
theorem specvalidTap_any (t : Fares.Tap) (w : World) :
    Calls Try.prog 42 #[tapV t] w fun e w' => e = .returned (.bool (Fares.validTap t)) ∧ Below w.heap.size w w' := by
  unfold tapV
  go_enter Try.func42, Try.ntmps42
  go_wp2_with (first | (go_at_call 54; refine (inRange_any _ _ _ _).mono ?_; rintro e w' ⟨rfl, rfl⟩))
  all_goals (go_ret; exact ⟨ret_bool (by rw [Bool.eq_iff_iff]; simp only [Fares.validTap, Fares.minuteOk, Fares.stopOk, decide_eq_true_eq, decide_eq_false_iff_not, Bool.and_eq_true, Bool.or_eq_true, Bool.false_eq_true, Bool.true_eq_false, Bool.not_eq_true', true_iff, iff_true, false_iff, iff_false, Bool.not_eq_true, Bool.not_eq_false, Bool.and_eq_false_imp] at *; omega), (by repeat (first | exact Below.refl _ _ | refine bA ?_ _ | refine bD ?_ _ | refine bD1 ?_ | refine bS ?_ (by simp) _))⟩)
set_option maxHeartbeats 1000000 in
theorem implValidTap_any (t : Fares.Tap) (w : World) :
    Calls Try.prog 30 #[tapV t] w fun e w' => e = .returned (.bool (Fares.validTap t)) ∧ Below w.heap.size w w' := by
  unfold tapV
  go_enter Try.func30, Try.ntmps30
  go_wp2_with (first | (go_at_call 46; refine (momentValid_any _ _).mono ?_; rintro e w' ⟨rfl, rfl⟩) | (go_at_call 47; refine (validStop_any _ _).mono ?_; rintro e w' ⟨rfl, rfl⟩))
  all_goals (go_ret; exact ⟨ret_bool (by rw [Bool.eq_iff_iff]; simp only [Fares.validTap, Fares.minuteOk, Fares.stopOk, decide_eq_true_eq, decide_eq_false_iff_not, Bool.and_eq_true, Bool.or_eq_true, Bool.false_eq_true, Bool.true_eq_false, Bool.not_eq_true', true_iff, iff_true, false_iff, iff_false, Bool.not_eq_true, Bool.not_eq_false, Bool.and_eq_false_imp] at *; omega), (by repeat (first | exact Below.refl _ _ | refine bA ?_ _ | refine bD ?_ _ | refine bD1 ?_ | refine bS ?_ (by simp) _))⟩)
set_option maxHeartbeats 400000 in
theorem sameTap_any (a b : Fares.Tap) (w : World) :
    Calls Try.prog 44 #[tapV a, tapV b] w fun e w' => e = .returned (.bool (Fares.sameTap a b)) ∧ Below w.heap.size w w' := by
  unfold tapV
  go_enter Try.func44, Try.ntmps44
  go_wp2
  all_goals (go_ret; exact ⟨ret_bool (by unfold Fares.sameTap; rw [Bool.eq_iff_iff]; simp_all), (by repeat (first | exact Below.refl _ _ | refine bA ?_ _ | refine bD ?_ _ | refine bD1 ?_ | refine bS ?_ (by simp) _))⟩)
set_option maxHeartbeats 400000 in
theorem earlier_any (a b : Fares.Tap) (w : World) :
    Calls Try.prog 43 #[tapV a, tapV b] w fun e w' => e = .returned (.bool (Fares.earlier a b)) ∧ Below w.heap.size w w' := by
  unfold tapV
  go_enter Try.func43, Try.ntmps43
  go_wp2
  all_goals (go_ret; exact ⟨ret_bool (by unfold Fares.earlier; rw [Bool.eq_iff_iff]; simp_all; try omega), (by repeat (first | exact Below.refl _ _ | refine bA ?_ _ | refine bD ?_ _ | refine bD1 ?_ | refine bS ?_ (by simp) _))⟩)
set_option maxHeartbeats 400000 in
theorem isNaN_any (a : Int) (w : World) : Calls Try.prog 55 #[.int .i64 a] w fun e w' => e = .returned (.bool false) ∧ w = w' := by
  go_enter Try.func55, Try.ntmps55
  go_wp2
  go_ret
  exact ⟨ret_bool (by simp), rfl⟩
set_option maxHeartbeats 400000 in
theorem cmpCompare_any (a b : Int) (w : World) : Calls Try.prog 49 #[.int .i64 a, .int .i64 b] w fun e w' => e = .returned (.int .i64 (Fares.signI a b)) ∧ w = w' := by
  go_enter Try.func49, Try.ntmps49
  go_wp2_with (first | (go_at_call 55; refine (isNaN_any _ _).mono ?_; rintro e w' ⟨rfl, rfl⟩))
  all_goals (go_ret; exact ⟨ret_int (by unfold Fares.signI; (repeat' split) <;> omega), rfl⟩)

def or3 (a b d : Int) : Int := if a ≠ 0 then a else if b ≠ 0 then b else d
set_option maxHeartbeats 400000 in
theorem cmpOr3_any (g : Nat) (c : Nat) (a b d : Int) (w : World) (h0 : w.cell? ⟨g, 0, none⟩ = some (.int .i64 a)) (h1 : w.cell? ⟨g, 1, none⟩ = some (.int .i64 b)) (h2 : w.cell? ⟨g, 2, none⟩ = some (.int .i64 d)) :
    Calls Try.prog 48 #[.slice (some ⟨g, 0, none⟩) 3 c] w fun e w' => e = .returned (.int .i64 (or3 a b d)) ∧ w = w' := by
  have hc : ∀ k : Nat, k < 3 → w.cell? ⟨g, k, none⟩ = some (.int .i64 (if k = 0 then a else if k = 1 then b else d)) := fun k hk => by
    match k, hk with
    | 0, _ => simpa using h0
    | 1, _ => simpa using h1
    | 2, _ => simpa using h2
  have Hc := Lib.hid hc; clear hc h0 h1 h2
  go_enter Try.func48, Try.ntmps48
  go_wp2
  go_loop [8] (fun i => ∃ k : Nat, k ≤ 3 ∧ i = .int .i64 k ∧ (0 < k → a = 0) ∧ (1 < k → b = 0) ∧ (2 < k → d = 0)) (fun i => 3 - (intOf i).toNat)
  case atStart => exact ⟨0, by omega, rfl, by omega, by omega, by omega⟩
  case round =>
    obtain ⟨k, hk, rfl, ha, hb, hd⟩ := hrel
    have Ha := Lib.hid ha; clear ha
    have Hb := Lib.hid hb; clear hb
    have Hd := Lib.hid hd; clear hd
    by_cases hlt : k < 3
    · have q := Hc.out k hlt
      obtain ⟨x, hx⟩ : ∃ x : Int, x = (if k = 0 then a else if k = 1 then b else d) := ⟨_, rfl⟩
      rw [← hx] at q
      have Hx := Lib.hid hx; clear hx
      have i0 : (0 : Int) ≤ (k : Int) := by omega
      have i1 : (k : Int) < 3 := by omega
      by_cases hz : x = 0
      · have hz' : (x != 0) = false := by simpa using hz
        have Hz := Lib.hid hz; clear hz
        go_wp2
        go_round
        case rel =>
          have e := Hx.out
          rw [Hz.out] at e
          exact ⟨k + 1, by omega, by go_num, fun h => by
            rcases Nat.eq_zero_or_pos k with h0 | h0
            · rw [if_pos h0] at e; exact e.symm
            · exact Ha.out h0, fun h => by
            rcases Nat.lt_or_ge 1 k with h0 | h0
            · exact Hb.out h0
            · rw [if_neg (by omega), if_pos (by omega)] at e; exact e.symm, fun h => by
            rw [if_neg (by omega), if_neg (by omega)] at e; exact e.symm⟩
        case measure => simp [intOf]; omega
      · have hz' : (x != 0) = true := by simpa using hz
        have Hz := Lib.hid hz; clear hz
        go_wp2
        go_ret
        refine ⟨ret_int ?_, rfl⟩
        unfold or3
        have e := Hx.out
        have z := Hz.out
        have ha := Ha.out
        have hb := Hb.out
        clear Ha Hb Hx Hz Hc q
        rcases (by omega : k = 0 ∨ k = 1 ∨ k = 2) with h | h | h <;> subst h
        · rw [if_pos rfl] at e
          rw [if_pos (by rw [← e]; exact z), e]
        · rw [if_neg (by omega), if_pos rfl] at e
          rw [if_neg (by intro h; exact h (ha (by omega))), if_pos (by rw [← e]; exact z), e]
        · rw [if_neg (by omega), if_neg (by omega)] at e
          rw [if_neg (by intro h; exact h (ha (by omega))), if_neg (by intro h; exact h (hb (by omega))), e]
    · have hk3 : k = 3 := by omega
      subst hk3
      go_wp2
      go_ret
      exact ⟨ret_int (by unfold or3; rw [Ha.out (by omega), Hb.out (by omega), Hd.out (by omega)]; simp), rfl⟩

set_option maxRecDepth 100000 in
set_option maxHeartbeats 1000000 in
theorem compareTaps_any (a b : Fares.Tap) (w : World) :
    Calls Try.prog 32 #[tapV a, tapV b] w fun e w' => e = .returned (.int .i64 (Fares.compareTaps a b)) ∧ Below w.heap.size w w' := by
  unfold tapV
  go_enter Try.func32, Try.ntmps32
  go_wp2
  go_region_held3 (fun w' => w'.cell? ⟨w.heap.size, 3, none⟩ = some (.int .i64 a.m) ∧ w'.cell? ⟨w.heap.size, 0, none⟩ = some (.int .i64 a.v) ∧ w'.cell? ⟨w.heap.size, 1, none⟩ = some (.int .i64 a.n) ∧ w'.cell? ⟨w.heap.size + 1, 3, none⟩ = some (.int .i64 b.m) ∧ w'.cell? ⟨w.heap.size + 1, 0, none⟩ = some (.int .i64 b.v) ∧ w'.cell? ⟨w.heap.size + 1, 1, none⟩ = some (.int .i64 b.n))
    (go_keep)
    (first | (go_at_call 49; refine (cmpCompare_any _ _ _).mono ?_; rintro e w' ⟨rfl, rfl⟩) | (go_at_call 48; refine (cmpOr3_any (w.heap.size + 1 + 1) 3 (Fares.signI a.m b.m) (Fares.signI a.v b.v) (Fares.signI a.n b.n) _ ?_ ?_ ?_).mono ?_; rotate_left 3; rintro e w' ⟨rfl, rfl⟩; rotate_left 1; all_goals (first | (go_simp; done) | skip)))
  go_wp2
  go_ret
  exact ⟨rfl, (by repeat (first | exact Below.refl _ _ | refine bA ?_ _ | refine bD ?_ _ | refine bD1 ?_ | refine bS ?_ (by simp) _))⟩

/-- The first k of a slice. -/
theorem Taps.take {w : World} {B : Nat} {A : Option Addr} {xs : List Fares.Tap} (h : Taps w B A xs) (k : Nat) : Taps w B A (xs.take k) := by
  intro hn
  obtain ⟨a, e, hb, hc⟩ := h (by
    intro e
    apply hn
    cases xs with
    | nil => simp
    | cons x r => simp [tapCells] at e)
  refine ⟨a, e, hb, fun i u hu => hc i u ?_⟩
  have hp : xs.flatMap tapCells = (xs.take k).flatMap tapCells ++ (xs.drop k).flatMap tapCells := by rw [← List.flatMap_append, List.take_append_drop]
  rw [hp, List.getElem?_append_left (List.getElem?_eq_some_iff.1 hu).1]
  exact hu

set_option maxRecDepth 100000 in
set_option maxHeartbeats 1000000 in
theorem hasNumber_any (A : Option Addr) (n c : Nat) (xs : List Fares.Tap) (t : Fares.Tap) (w : World) (hx : Taps w w.heap.size A xs) (hn : xs.length = n) (hl : n ≤ 1000000000) :
    Calls Try.prog 31 #[.slice A n c, tapV t] w fun e w' => e = .returned (.bool (Fares.known xs t)) ∧ Below w.heap.size w w' := by
  subst hn
  unfold tapV
  go_enter Try.func31, Try.ntmps31
  go_wp2
  go_loopw [9] (fun i wr => ∃ k : Nat, k ≤ xs.length ∧ i = .int .i64 k ∧ Below w.heap.size w wr ∧ wr.cell? ⟨w.heap.size, 0, none⟩ = some (.int .i64 t.v) ∧ wr.cell? ⟨w.heap.size, 1, none⟩ = some (.int .i64 t.n) ∧ w.heap.size < wr.heap.size ∧ Fares.known (xs.take k) t = false) (fun i _ => xs.length - (intOf i).toNat)
  case atStart => exact ⟨0, Nat.zero_le _, rfl, bA (Below.refl _ _) _, by go_simp, by go_simp, by simp, by simp [Fares.known]⟩
  case round =>
    obtain ⟨k, hk, rfl, hb, c0, c1, hs, he⟩ := hrel
    have He := Lib.hid he; clear he
    by_cases hlt : k < xs.length
    · obtain ⟨x, hxk⟩ : ∃ x, xs[k]? = some x := ⟨xs[k], List.getElem?_eq_getElem hlt⟩
      obtain ⟨b1, o1, rfl, hb1, hr1⟩ := hx.row (by omega)
      obtain ⟨p0, p1, p2, p3, p4, p5⟩ := (hr1 k x hxk).below hb hb1
      have Hx := Lib.hid hxk; clear hxk
      clear hr1 hx
      have i0 : (0 : Int) ≤ (k : Int) := by omega
      have i1 : (k : Int) < (xs.length : Int) := by omega
      by_cases h0 : x.v = t.v
      · have d0 : (x.v == t.v) = true := by simpa using h0
        by_cases h1 : x.n = t.n
        · have d1 : (x.n == t.n) = true := by simpa using h1
          have H0 := Lib.hid h0; clear h0
          have H1 := Lib.hid h1; clear h1
          go_wp2
          go_ret
          exact ⟨ret_bool (by
            refine (List.any_eq_true.2 ⟨x, List.mem_of_getElem? Hx.out, ?_⟩).symm
            simp [Fares.sameTap, H0.out, H1.out]), (by repeat (first | exact hb | exact Below.refl _ _ | refine bA ?_ _ | refine bD ?_ _ | refine bD1 ?_ | refine bS ?_ (by simp) _))⟩
        · have d1 : (x.n == t.n) = false := by simpa using h1
          have H0 := Lib.hid h0; clear h0
          have H1 := Lib.hid h1; clear h1
          go_wp2
          go_roundw
          case rel => exact ⟨k + 1, by omega, by go_num, (by repeat (first | exact hb | exact Below.refl _ _ | refine bA ?_ _ | refine bD ?_ _ | refine bD1 ?_ | refine bS ?_ (by simp) _)), by go_simp, by go_simp, by simp; omega, by rw [Fares.known_take_succ Hx.out, He.out]; simp [Fares.sameTap, H1.out]⟩
          case measure => simp [intOf]; omega
      · have d0 : (x.v == t.v) = false := by simpa using h0
        have H0 := Lib.hid h0; clear h0
        go_wp2
        go_roundw
        case rel => exact ⟨k + 1, by omega, by go_num, (by repeat (first | exact hb | exact Below.refl _ _ | refine bA ?_ _ | refine bD ?_ _ | refine bD1 ?_ | refine bS ?_ (by simp) _)), by go_simp, by go_simp, by simp; omega, by rw [Fares.known_take_succ Hx.out, He.out]; simp [Fares.sameTap, H0.out]⟩
        case measure => simp [intOf]; omega
    · go_wp2
      go_ret
      exact ⟨ret_bool (by have := He.out; rw [List.take_of_length_le (by omega)] at this; exact this.symm), hb⟩
end Go.Proofs.Ytllhjgheffemnaa
