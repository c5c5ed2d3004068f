/-
  What caps save: the program's function and its model.
-/
import Derived.Test.YtdokilpinjabcaaCapSum
namespace Go.Proofs.Ytdokilpinjabcaa
open Go.RowKit Go.Deep
set_option linter.unusedVariables false

set_option maxRecDepth 100000 in
set_option maxHeartbeats 2000000 in
theorem specSavedBy_any (A : Option Addr) (n c : Nat) (xs : List Fares.Charge) (day week : Int) (w : World) (hx : Charges w w.heap.size A xs) (hn : xs.length = n) (hl : n ≤ 1000000000) :
    Calls Try.prog 28 #[.slice A n c, .int .i64 day, .int .i64 week] w fun e w' => e = .returned (.int .i64 (Fares.savedBy xs day week)) ∧ Below w.heap.size w w' := by
  subst hn
  have HE : Hid (Fares.savedBy xs day week = if Fares.validCharges xs && Fares.capOk day && Fares.capOk week then Fares.amountSum xs - Fares.sumI (Fares.capRun xs day week xs.length) else -1) := rfl
  by_cases hv : Fares.validCharges xs = true
  · by_cases hd : Fares.capOk day = true
    · by_cases hw : Fares.capOk week = true
      · have HE2 := Lib.hid (show Fares.savedBy xs day week = Fares.amountSum xs - Fares.sumI (Fares.capRun xs day week xs.length) by rw [HE.out, hv, hd, hw]; rfl)
        have hlen := Fares.length_of_validCharges hv
        have Hm := Lib.hid (Fares.chargeOk_mem hv)
        have hd' := hd
        have hw' := hw
        unfold Fares.capOk at hd' hw'
        rw [decide_eq_true_eq] at hd' hw'
        obtain ⟨d0, d1⟩ := hd'
        obtain ⟨g0, g1⟩ := hw'
        have hrl := Fares.capRun_length xs day week xs.length (Nat.le_refl _)
        have hrb := Fares.capRun_bounds day week (fun c h => ⟨(Hm.out c h).2.2.1, (Hm.out c h).2.2.2⟩) xs.length
        have hsum := Fares.sumI_bounds 4000 _ hrb
        rw [hrl] at hsum
        have Hrl := Lib.hid hrl; clear hrl
        have Hrb := Lib.hid hrb; clear hrb
        go_enter Try.func28, Try.ntmps28
        go_wp2_with fail
        refine (specvalidCharges_any A _ c xs _ hx rfl hl).mono ?_
        rintro e w1 ⟨rfl, hb1⟩
        have Hx1 := Lib.hid ((hx.below hb1 (Nat.le_refl _)).more hb1.size)
        go_wp2_with (go_at_call 55; refine (specvalidCap_any _ _).mono ?_; rintro e w' ⟨rfl, rfl⟩)
        go_loop [8, 7] (fun i v => ∃ (k : Nat) (s : Int), k ≤ xs.length ∧ i = .int .i64 k ∧ v = .int .i64 s ∧ 0 ≤ s ∧ s ≤ 4000 * k ∧ s = Fares.amountSum (xs.take k)) (fun i _ => xs.length - (intOf i).toNat)
        case atStart => exact ⟨0, 0, Nat.zero_le _, rfl, rfl, by omega, by omega, by simp [Fares.amountSum]⟩
        case round =>
          obtain ⟨k, s, hk, rfl, rfl, s0, s1, hs⟩ := hrel
          have Hs := Lib.hid hs; clear hs
          by_cases hlt : k < xs.length
          · obtain ⟨x, hxk⟩ : ∃ x, xs[k]? = some x := ⟨xs[k], List.getElem?_eq_getElem hlt⟩
            obtain ⟨_, _, a0, a1⟩ := Hm.out x (List.mem_of_getElem? hxk)
            obtain ⟨b1, o1, rfl, hbb, hr1⟩ := hx.row (by omega)
            obtain ⟨p0, p1⟩ := (hr1 k x hxk).below hb1 hbb
            have Hnx := Lib.hid (Fares.amountSum_next hxk)
            clear hxk hr1 hx
            have i0 : (0 : Int) ≤ (k : Int) := by omega
            have i1 : (k : Int) < (xs.length : Int) := by omega
            go_wp2
            go_round
            case rel => exact ⟨k + 1, s + x.a, by omega, by go_num, by go_num, by omega, by push_cast; omega, by rw [Hnx.out, ← Hs.out]⟩
            case measure => simp [intOf]; omega
          · have hfin := Lib.hid (show s = Fares.amountSum xs by have := Hs.out; rwa [List.take_of_length_le (by omega)] at this)
            go_wp2_with fail
            refine (speccapped_any A _ c xs day week _ Hx1.out rfl hlen Hm.out d0 d1 g0 g1).mono ?_
            rintro e w2 ⟨v, rfl, hown, hb2⟩
            obtain ⟨Av, cv, rfl, _, _, hri⟩ := hown.form
            have Hri := Lib.hid hri; clear hri hown
            rw [Hrl.out]
            go_wp2_with fail
            refine (specsum_any Av _ cv (Fares.capRun xs day week xs.length) 4000 _ Hri.out Hrl.out (by omega) (by omega) Hrb.out).mono ?_
            rintro e w' ⟨rfl, rfl⟩
            go_wp2
            go_ret
            exact ⟨ret_int (by rw [HE2.out, ← hfin.out]), bT hb1 hb2⟩
      · have hw' : Fares.capOk week = false := by simpa using hw
        clear hw
        have HE2 := Lib.hid (show Fares.savedBy xs day week = -1 by rw [HE.out, hv, hd, hw']; rfl)
        go_enter Try.func28, Try.ntmps28
        go_wp2_with fail
        refine (specvalidCharges_any A _ c xs _ hx rfl hl).mono ?_
        rintro e w1 ⟨rfl, hb1⟩
        go_wp2_with (go_at_call 55; refine (specvalidCap_any _ _).mono ?_; rintro e w' ⟨rfl, rfl⟩)
        go_ret
        exact ⟨ret_int (by rw [HE2.out]), hb1⟩
    · have hd' : Fares.capOk day = false := by simpa using hd
      clear hd
      have HE2 := Lib.hid (show Fares.savedBy xs day week = -1 by rw [HE.out, hv, hd']; rfl)
      go_enter Try.func28, Try.ntmps28
      go_wp2_with fail
      refine (specvalidCharges_any A _ c xs _ hx rfl hl).mono ?_
      rintro e w1 ⟨rfl, hb1⟩
      go_wp2_with (go_at_call 55; refine (specvalidCap_any _ _).mono ?_; rintro e w' ⟨rfl, rfl⟩)
      go_ret
      exact ⟨ret_int (by rw [HE2.out]), hb1⟩
  · have hv' : Fares.validCharges xs = false := by simpa using hv
    clear hv
    have HE2 := Lib.hid (show Fares.savedBy xs day week = -1 by rw [HE.out, hv']; rfl)
    go_enter Try.func28, Try.ntmps28
    go_wp2_with fail
    refine (specvalidCharges_any A _ c xs _ hx rfl hl).mono ?_
    rintro e w1 ⟨rfl, hb1⟩
    go_wp2
    go_ret
    exact ⟨ret_int (by rw [HE2.out]), hb1⟩

set_option maxRecDepth 100000 in
set_option maxHeartbeats 2000000 in
theorem implSavedBy_any (A : Option Addr) (n c : Nat) (xs : List Fares.Charge) (day week : Int) (w : World) (hx : Charges w w.heap.size A xs) (hn : xs.length = n) (hl : n ≤ 4611686018427387904) :
    Calls Try.prog 27 #[.slice A n c, .int .i64 day, .int .i64 week] w fun e w' => e = .returned (.int .i64 (Fares.savedBy xs day week)) ∧ Below w.heap.size w w' := by
  subst hn
  have HE : Hid (Fares.savedBy xs day week = if Fares.validCharges xs && Fares.capOk day && Fares.capOk week then Fares.amountSum xs - Fares.sumI (Fares.capRun xs day week xs.length) else -1) := rfl
  by_cases hv : Fares.validCharges xs = true
  · by_cases hd : (Fares.capOk day && Fares.capOk week) = true
    · have HE2 := Lib.hid (show Fares.savedBy xs day week = Fares.amountSum xs - Fares.sumI (Fares.capRun xs day week xs.length) by
        rw [HE.out, hv]; simp only [Bool.true_and]; rw [if_pos hd])
      have HE3 := Lib.hid (show Fares.capCharges xs day week = Fares.capRun xs day week xs.length by
        unfold Fares.capCharges; rw [hv]; simp only [Bool.true_and]; rw [if_pos hd])
      have hlen := Fares.length_of_validCharges hv
      have Hm := Lib.hid (Fares.chargeOk_mem hv)
      have hrl := Fares.capRun_length xs day week xs.length (Nat.le_refl _)
      have Hrb := Lib.hid (Fares.capRun_bounds day week (fun c h => ⟨(Hm.out c h).2.2.1, (Hm.out c h).2.2.2⟩) xs.length)
      have Hrl := Lib.hid hrl; clear hrl
      go_enter Try.func27, Try.ntmps27
      go_wp2_with fail
      refine (implvalidCharges_any A _ c xs _ hx rfl hl).mono ?_
      rintro e w1 ⟨rfl, hb1⟩
      have Hx1 := Lib.hid ((hx.below hb1 (Nat.le_refl _)).more hb1.size)
      go_wp2_with (go_at_call 51; refine (implvalidCaps_any _ _ _).mono ?_; rintro e w' ⟨rfl, rfl⟩)
      refine (implCapCharges_any A _ c xs day week _ Hx1.out rfl hl).mono ?_
      rintro e w2 ⟨v, rfl, hown, hb2⟩
      rw [HE3.out] at hown
      obtain ⟨Av, cv, rfl, hcv1, hcv2, hri⟩ := hown.form
      rw [Hrl.out] at hcv1 ⊢
      clear hown
      have hb12 : Below w.heap.size w w2 := bT hb1 hb2
      clear hb1 hb2
      go_wp2
      go_loop [24, 7] (fun i v => ∃ (k : Nat) (s : Int), k ≤ xs.length ∧ i = .int .i64 k ∧ v = .int .i64 s ∧ -4000 * k ≤ s ∧ s ≤ 4000 * k ∧ s = Fares.amountSum (xs.take k) - Fares.sumI ((Fares.capRun xs day week xs.length).take k)) (fun i _ => xs.length - (intOf i).toNat)
      case atStart => exact ⟨0, 0, Nat.zero_le _, rfl, rfl, by omega, by omega, by simp [Fares.amountSum, Fares.sumI]⟩
      case round =>
        obtain ⟨k, s, hk, rfl, rfl, s0, s1, hs⟩ := hrel
        have Hs := Lib.hid hs; clear hs
        by_cases hlt : k < xs.length
        · obtain ⟨x, hxk⟩ : ∃ x, xs[k]? = some x := ⟨xs[k], List.getElem?_eq_getElem hlt⟩
          obtain ⟨y, hyk⟩ : ∃ y, (Fares.capRun xs day week xs.length)[k]? = some y := ⟨_, List.getElem?_eq_getElem (by rw [Hrl.out]; exact hlt)⟩
          obtain ⟨_, _, a0, a1⟩ := Hm.out x (List.mem_of_getElem? hxk)
          obtain ⟨y0, y1⟩ := Hrb.out y (List.mem_of_getElem? hyk)
          obtain ⟨b1, o1, rfl, hbb, hr1⟩ := hx.row (by omega)
          obtain ⟨b2, o2, rfl, hbb2, hr2⟩ := hri.row (by rw [Hrl.out]; omega)
          obtain ⟨p0, p1⟩ := (hr1 k x hxk).below hb12 hbb
          have q0 := hr2 k y hyk
          have Hnx := Lib.hid (Fares.amountSum_next hxk)
          have Hny := Lib.hid (Fares.sumI_next hyk)
          clear hxk hr1 hx hyk hr2 hri
          have i0 : (0 : Int) ≤ (k : Int) := by omega
          have i1 : (k : Int) < (xs.length : Int) := by omega
          go_wp2
          go_round
          case rel => exact ⟨k + 1, s + (x.a - y), by omega, by go_num, by go_num, by push_cast; omega, by push_cast; omega, by rw [Hnx.out, Hny.out, Hs.out]; omega⟩
          case measure => simp [intOf]; omega
        · go_wp2
          go_ret
          exact ⟨ret_int (by
            have := Hs.out
            rw [List.take_of_length_le (by omega), List.take_of_length_le (by rw [Hrl.out]; omega)] at this
            rw [HE2.out, this]), hb12⟩
    · have hd' : (Fares.capOk day && Fares.capOk week) = false := by simpa using hd
      have HE2 := Lib.hid (show Fares.savedBy xs day week = -1 by
        rw [HE.out, hv]; simp only [Bool.true_and]; rw [hd']; rfl)
      clear hd
      go_enter Try.func27, Try.ntmps27
      go_wp2_with fail
      refine (implvalidCharges_any A _ c xs _ hx rfl hl).mono ?_
      rintro e w1 ⟨rfl, hb1⟩
      go_wp2_with (go_at_call 51; refine (implvalidCaps_any _ _ _).mono ?_; rintro e w' ⟨rfl, rfl⟩)
      all_goals (go_ret; exact ⟨ret_int (by rw [HE2.out]), hb1⟩)
  · have hv' : Fares.validCharges xs = false := by simpa using hv
    clear hv
    have HE2 := Lib.hid (show Fares.savedBy xs day week = -1 by rw [HE.out, hv']; rfl)
    go_enter Try.func27, Try.ntmps27
    go_wp2_with fail
    refine (implvalidCharges_any A _ c xs _ hx rfl hl).mono ?_
    rintro e w1 ⟨rfl, hb1⟩
    go_wp2
    go_ret
    exact ⟨ret_int (by rw [HE2.out]), hb1⟩
end Go.Proofs.Ytdokilpinjabcaa
