/-
  Chapter 18: valid legs, the length of an operator's legs: the program's functions and their models.
-/
import Derived.Test.YtgecgjndbaeahaaLegMath
import Derived.Test.YtgecgjndbaeahaaStLeg
import Derived.Test.YtgecgjndbaeahaaBasic
import Derived.StillTactics
set_option linter.unusedSimpArgs false
namespace Go.Proofs.Ytgecgjndbaeahaa
open Go.RowKit Go.Deep
set_option linter.unusedVariables false

set_option maxHeartbeats 1000000 in
theorem legValid_yes (g : Fares.Leg) (w : World) (h : Fares.legOk g = true) : Calls Try.prog 49 #[legV g] w fun e w' => e = .returned (.bool true) ∧ Below w.heap.size w w' := by
  obtain ⟨h0, h1, h2, h3⟩ := Fares.legOk_iff.1 h
  unfold legV
  go_enter Try.func49, Try.ntmps49
  go_wp2
  all_goals first | (go_ret; exact ⟨ret_bool (by first | rfl | (simp; done) | (simp; omega)), bA (Below.refl _ _) _⟩) | (exfalso; omega)
set_option maxHeartbeats 1000000 in
theorem legValid_no (g : Fares.Leg) (w : World) (h : Fares.legOk g = false) : Calls Try.prog 49 #[legV g] w fun e w' => e = .returned (.bool false) ∧ Below w.heap.size w w' := by
  have h' : ¬ (0 ≤ g.o ∧ g.o ≤ 3 ∧ 1 ≤ g.l ∧ g.l ≤ 500) := fun x => by rw [Fares.legOk_iff.2 x] at h; cases h
  unfold legV
  go_enter Try.func49, Try.ntmps49
  go_wp2
  all_goals first | (go_ret; exact ⟨ret_bool (by first | rfl | (simp; done) | (simp; omega)), bA (Below.refl _ _) _⟩) | (exfalso; omega)
set_option maxRecDepth 100000 in
set_option maxHeartbeats 2000000 in
theorem implvalidLegs_any (A : Option Addr) (n c : Nat) (xs : List Fares.Leg) (w : World) (hx : Legs w w.heap.size A xs) (hn : xs.length = n) (hl : n ≤ 1000000000) :
    Calls Try.prog 35 #[.slice A n c] w fun e w' => e = .returned (.bool (Fares.validLegs xs)) ∧ Below w.heap.size w w' := by
  subst hn
  by_cases h8 : 1 ≤ xs.length ∧ xs.length ≤ 8
  · obtain ⟨l1, l8⟩ := id h8
    go_enter Try.func35, Try.ntmps35
    go_wp2
    go_loopw [15] (fun i wr => ∃ k : Nat, k ≤ xs.length ∧ i = .int .i64 k ∧ Below w.heap.size w wr ∧ ∀ j g, j < k → xs[j]? = some g → Fares.legOk g = true) (fun i _ => xs.length - (intOf i).toNat)
    case atStart => exact ⟨0, Nat.zero_le _, rfl, Below.refl _ _, fun j g hj => by omega⟩
    case round =>
      obtain ⟨k, hk, rfl, hb, he⟩ := hrel
      have He := Lib.hid he; clear he
      by_cases hlt : k < xs.length
      · obtain ⟨g, hgk⟩ : ∃ g, xs[k]? = some g := ⟨xs[k], List.getElem?_eq_getElem hlt⟩
        obtain ⟨b1, o1, rfl, hb1, hr1⟩ := hx.row (by omega)
        obtain ⟨p0, p1⟩ := (hr1 k g hgk).below hb hb1
        obtain ⟨_, q0, q1⟩ := LegBox.new wr g 33
        have Hgk := Lib.hid hgk; clear hgk hr1 hx
        have hba := bA hb (.cells #[.int .i64 g.o, .int .i64 g.l] 33)
        have i0 : (0 : Int) ≤ (k : Int) := by omega
        have i1 : (k : Int) < (xs.length : Int) := by omega
        by_cases hok : Fares.legOk g = true
        · go_wp2_with (go_at_call 49; refine (legValid_yes g _ hok).mono ?_; rintro e w1 ⟨rfl, hb3⟩)
          have hb4 := bT hba hb3
          go_roundw
          case rel => exact ⟨k + 1, by omega, by go_num, hb4, fun j g' hj hg' => by
            rcases Nat.lt_or_ge j k with h | h
            · exact He.out j g' h hg'
            · have e : j = k := by omega
              subst e
              rw [Hgk.out] at hg'
              injection hg' with hg'
              subst hg'
              exact hok⟩
          case measure => simp [intOf]; omega
        · have hok' : Fares.legOk g = false := by simpa using hok
          have HN := Lib.hid (Fares.valid_no Hgk.out hok')
          go_wp2_with (go_at_call 49; refine (legValid_no g _ hok').mono ?_; rintro e w1 ⟨rfl, hb3⟩)
          have hb4 := bT hba hb3
          go_ret
          exact ⟨ret_bool HN.out.symm, hb4⟩
      · have HY := Lib.hid (Fares.valid_all h8 (fun j g hj => He.out j g (by have := (List.getElem?_eq_some_iff.1 hj).1; omega) hj))
        go_wp2
        go_ret
        exact ⟨ret_bool HY.out.symm, hb⟩
  · have HN := Lib.hid (Fares.valid_len h8)
    go_enter Try.func35, Try.ntmps35
    go_wp2
    all_goals first | (go_ret; exact ⟨ret_bool HN.out.symm, Below.refl _ _⟩) | (exfalso; omega)
set_option maxRecDepth 100000 in
set_option maxHeartbeats 2000000 in
theorem specvalidLegs_any (A : Option Addr) (n c : Nat) (xs : List Fares.Leg) (w : World) (hx : Legs w w.heap.size A xs) (hn : xs.length = n) (hl : n ≤ 1000000000) :
    Calls Try.prog 40 #[.slice A n c] w fun e w' => e = .returned (.bool (Fares.validLegs xs)) ∧ w = w' := by
  subst hn
  go_enter Try.func40, Try.ntmps40
  go_wp2
  go_loop [3] (fun i => ∃ k : Nat, k ≤ xs.length ∧ i = .int .i64 k ∧ ∀ j g, j < k → xs[j]? = some g → Fares.legOk g = true) (fun i => xs.length - (intOf i).toNat)
  case atStart => exact ⟨0, Nat.zero_le _, rfl, fun j g hj => by omega⟩
  case round =>
    obtain ⟨k, hk, rfl, he⟩ := hrel
    have He := Lib.hid he; clear he
    by_cases hlt : k < xs.length
    · obtain ⟨g, hgk⟩ : ∃ g, xs[k]? = some g := ⟨xs[k], List.getElem?_eq_getElem hlt⟩
      obtain ⟨b1, o1, rfl, hb1, hr1⟩ := hx.row (by omega)
      obtain ⟨p0, p1⟩ := hr1 k g hgk
      have Hgk := Lib.hid hgk; clear hgk hr1 hx
      have i0 : (0 : Int) ≤ (k : Int) := by omega
      have i1 : (k : Int) < (xs.length : Int) := by omega
      by_cases ho : 0 ≤ g.o ∧ g.o ≤ 3
      · by_cases hg : 1 ≤ g.l ∧ g.l ≤ 500
        · have Hok := Lib.hid (Fares.legOk_iff.2 ⟨ho.1, ho.2, hg.1, hg.2⟩)
          go_wp2_with fail
          refine (inRange_yes _ _ _ _ ho.1 ho.2).mono ?_
          rintro e w' ⟨rfl, rfl⟩
          go_wp2_with fail
          refine (inRange_yes _ _ _ _ hg.1 hg.2).mono ?_
          rintro e w' ⟨rfl, rfl⟩
          go_wp2
          go_round
          case rel => exact ⟨k + 1, by omega, by go_num, fun j g' hj hg' => by
            rcases Nat.lt_or_ge j k with h | h
            · exact He.out j g' h hg'
            · have e : j = k := by omega
              subst e
              rw [Hgk.out] at hg'
              injection hg' with hg'
              subst hg'
              exact Hok.out⟩
          case measure => simp [intOf]; omega
        · have HN := Lib.hid (Fares.valid_no Hgk.out (by unfold Fares.legOk; exact decide_eq_false (by omega)))
          go_wp2_with fail
          refine (inRange_yes _ _ _ _ ho.1 ho.2).mono ?_
          rintro e w' ⟨rfl, rfl⟩
          go_wp2_with fail
          refine (inRange_no _ _ _ _ (by omega)).mono ?_
          rintro e w' ⟨rfl, rfl⟩
          go_wp2
          go_ret
          exact ⟨ret_bool HN.out.symm, rfl⟩
      · have HN := Lib.hid (Fares.valid_no Hgk.out (by unfold Fares.legOk; exact decide_eq_false (by omega)))
        go_wp2_with fail
        refine (inRange_no _ _ _ _ (by omega)).mono ?_
        rintro e w' ⟨rfl, rfl⟩
        go_wp2
        go_ret
        exact ⟨ret_bool HN.out.symm, rfl⟩
    · by_cases h8 : 1 ≤ xs.length ∧ xs.length ≤ 8
      · have HY := Lib.hid (Fares.valid_all h8 (fun j g hj => He.out j g (by have := (List.getElem?_eq_some_iff.1 hj).1; omega) hj))
        go_wp2_with fail
        refine (inRange_yes _ _ _ _ (by omega) (by omega)).mono ?_
        rintro e w' ⟨rfl, rfl⟩
        go_wp2
        go_ret
        exact ⟨ret_bool HY.out.symm, rfl⟩
      · have HN := Lib.hid (Fares.valid_len h8)
        go_wp2_with fail
        refine (inRange_no _ _ _ _ (by omega)).mono ?_
        rintro e w' ⟨rfl, rfl⟩
        go_wp2
        go_ret
        exact ⟨ret_bool HN.out.symm, rfl⟩
set_option maxRecDepth 100000 in
set_option maxHeartbeats 2000000 in
theorem implLengthOf_any (A : Option Addr) (n c : Nat) (xs : List Fares.Leg) (op : Int) (w : World) (hx : Legs w w.heap.size A xs) (hn : xs.length = n) (hl : n ≤ 1000000000) :
    Calls Try.prog 16 #[.slice A n c, .int .i64 op] w fun e w' => e = .returned (.int .i64 (Fares.lengthOf xs op)) ∧ Below w.heap.size w w' := by
  subst hn
  by_cases hv : Fares.validLegs xs = true
  · have hi := Fares.legs_in hv
    have h8 := (Fares.validLegs_iff.1 hv).1
    have HM := Lib.hid (show Fares.lengthOf xs op = Fares.legSum op xs by unfold Fares.lengthOf; rw [if_pos hv])
    have Hin := Lib.hid hi; clear hi
    go_enter Try.func16, Try.ntmps16
    go_wp2_with fail
    refine (implvalidLegs_any A _ c xs _ hx rfl (by omega)).mono ?_
    rw [hv]
    rintro e w1 ⟨rfl, hb1⟩
    go_wp2
    go_loopw [13, 5] (fun i t wr => ∃ k : Nat, k ≤ xs.length ∧ i = .int .i64 k ∧ t = .int .i64 (Fares.legSum op (xs.take k)) ∧ Below w.heap.size w wr) (fun i _ _ => xs.length - (intOf i).toNat)
    case atStart => exact ⟨0, Nat.zero_le _, rfl, rfl, hb1⟩
    case round =>
      obtain ⟨k, hk, rfl, rfl, hb⟩ := hrel
      by_cases hlt : k < xs.length
      · obtain ⟨g, hgk⟩ : ∃ g, xs[k]? = some g := ⟨xs[k], List.getElem?_eq_getElem hlt⟩
        obtain ⟨b1, o1, rfl, hbb, hr1⟩ := hx.row (by omega)
        obtain ⟨p0, p1⟩ := (hr1 k g hgk).below hb hbb
        obtain ⟨_, q0, q1⟩ := LegBox.new wr g 33
        have HN := Lib.hid (Fares.legSum_next hgk op)
        obtain ⟨t0, t1, _, _⟩ := Fares.legSum_take (op := op) Hin.out k hk
        obtain ⟨gl0, gl1⟩ := Hin.out g (List.mem_of_getElem? hgk)
        obtain ⟨t, ht⟩ : ∃ t, Fares.legSum op (xs.take k) = t := ⟨_, rfl⟩
        rw [ht] at t0 t1 HN
        rw [ht]
        clear ht hgk hr1 hx
        have hba := bA hb (.cells #[.int .i64 g.o, .int .i64 g.l] 33)
        have i0 : (0 : Int) ≤ (k : Int) := by omega
        have i1 : (k : Int) < (xs.length : Int) := by omega
        by_cases ho : g.o = op
        · have HP := Lib.hid (show Fares.part op g = g.l from if_pos ho)
          have d0 : (g.o == op) = true := by simpa using ho
          clear ho
          go_wp2
          go_roundw
          case rel => exact ⟨k + 1, by omega, by go_num, by rw [HN.out, HP.out], hba⟩
          case measure => simp [intOf]; omega
        · have HP := Lib.hid (show Fares.part op g = 0 from if_neg ho)
          have d0 : (g.o == op) = false := by simpa using ho
          clear ho
          go_wp2
          go_roundw
          case rel => exact ⟨k + 1, by omega, by go_num, by rw [HN.out, HP.out, Int.add_zero], hba⟩
          case measure => simp [intOf]; omega
      · rw [List.take_of_length_le (by omega)]
        go_wp2
        go_ret
        exact ⟨ret_int HM.out.symm, hb⟩
  · have hv' : Fares.validLegs xs = false := by simpa using hv
    have HM := Lib.hid (show Fares.lengthOf xs op = -1 by unfold Fares.lengthOf; rw [hv']; rfl)
    go_enter Try.func16, Try.ntmps16
    go_wp2_with fail
    refine (implvalidLegs_any A _ c xs _ hx rfl (by omega)).mono ?_
    rw [hv']
    rintro e w1 ⟨rfl, hb1⟩
    go_wp2
    go_ret
    exact ⟨ret_int HM.out.symm, hb1⟩
set_option maxRecDepth 100000 in
set_option maxHeartbeats 2000000 in
theorem specLengthOf_any (A : Option Addr) (n c : Nat) (xs : List Fares.Leg) (op : Int) (w : World) (hx : Legs w w.heap.size A xs) (hn : xs.length = n) (hl : n ≤ 1000000000) :
    Calls Try.prog 20 #[.slice A n c, .int .i64 op] w fun e w' => e = .returned (.int .i64 (Fares.lengthOf xs op)) ∧ Below w.heap.size w w' := by
  subst hn
  by_cases hv : Fares.validLegs xs = true
  · have hi := Fares.legs_in hv
    have h8 := (Fares.validLegs_iff.1 hv).1
    have HM := Lib.hid (show Fares.lengthOf xs op = Fares.legSum op xs by unfold Fares.lengthOf; rw [if_pos hv])
    have Hin := Lib.hid hi; clear hi
    go_enter Try.func20, Try.ntmps20
    go_wp2_with fail
    refine (specvalidLegs_any A _ c xs _ hx rfl (by omega)).mono ?_
    rw [hv]
    rintro e w' ⟨rfl, rfl⟩
    go_wp2
    go_loopw [6, 5] (fun i t wr => ∃ k : Nat, k ≤ xs.length ∧ i = .int .i64 k ∧ t = .int .i64 (Fares.legSum op (xs.take k)) ∧ Below w.heap.size w wr) (fun i _ _ => xs.length - (intOf i).toNat)
    case atStart => exact ⟨0, Nat.zero_le _, rfl, rfl, Below.refl _ _⟩
    case round =>
      obtain ⟨k, hk, rfl, rfl, hb⟩ := hrel
      by_cases hlt : k < xs.length
      · obtain ⟨g, hgk⟩ : ∃ g, xs[k]? = some g := ⟨xs[k], List.getElem?_eq_getElem hlt⟩
        obtain ⟨b1, o1, rfl, hbb, hr1⟩ := hx.row (by omega)
        obtain ⟨p0, p1⟩ := (hr1 k g hgk).below hb hbb
        have HN := Lib.hid (Fares.legSum_next hgk op)
        obtain ⟨t0, t1, _, _⟩ := Fares.legSum_take (op := op) Hin.out k hk
        obtain ⟨gl0, gl1⟩ := Hin.out g (List.mem_of_getElem? hgk)
        obtain ⟨t, ht⟩ : ∃ t, Fares.legSum op (xs.take k) = t := ⟨_, rfl⟩
        rw [ht] at t0 t1 HN
        rw [ht]
        clear ht hgk hr1 hx
        have i0 : (0 : Int) ≤ (k : Int) := by omega
        have i1 : (k : Int) < (xs.length : Int) := by omega
        by_cases ho : g.o = op
        · have HP := Lib.hid (show Fares.part op g = g.l from if_pos ho)
          have d0 : (g.o == op) = true := by simpa using ho
          have W1 : IntKind.i64.wrap (g.l * 1) = g.l := by rw [Int.mul_one]; exact IntWalk.i64_in _ (by omega)
          have W2 : IntKind.i64.wrap (t + g.l) = t + g.l := IntWalk.i64_in _ (by omega)
          clear ho
          go_wp2
          go_quiet ((go_at_call 46; refine quiet_same (toInt_yes _)))
          go_wp2
          go_roundw
          case rel => exact ⟨k + 1, by omega, by go_num, by rw [HN.out, HP.out], by first | exact bD hb _ | exact hb⟩
          case measure => simp [intOf]; omega
        · have HP := Lib.hid (show Fares.part op g = 0 from if_neg ho)
          have d0 : (g.o == op) = false := by simpa using ho
          have W1 : IntKind.i64.wrap (g.l * 0) = 0 := by rw [Int.mul_zero]; rfl
          have W2 : IntKind.i64.wrap (t + 0) = t := by rw [Int.add_zero]; exact IntWalk.i64_in _ (by omega)
          have W3 : IntKind.i64.wrap t = t := IntWalk.i64_in _ (by omega)
          clear ho
          go_wp2
          go_quiet ((go_at_call 46; refine quiet_same (toInt_no _)))
          go_wp2
          go_roundw
          case rel => exact ⟨k + 1, by omega, by go_num, by rw [HN.out, HP.out]; simp, by first | exact bD hb _ | exact hb⟩
          case measure => simp [intOf]; omega
      · rw [List.take_of_length_le (by omega)]
        go_wp2
        go_ret
        exact ⟨ret_int HM.out.symm, hb⟩
  · have hv' : Fares.validLegs xs = false := by simpa using hv
    have HM := Lib.hid (show Fares.lengthOf xs op = -1 by unfold Fares.lengthOf; rw [hv']; rfl)
    go_enter Try.func20, Try.ntmps20
    go_wp2_with fail
    refine (specvalidLegs_any A _ c xs _ hx rfl (by omega)).mono ?_
    rw [hv']
    rintro e w' ⟨rfl, rfl⟩
    go_wp2
    go_ret
    exact ⟨ret_int HM.out.symm, Below.refl _ _⟩
end Go.Proofs.Ytgecgjndbaeahaa
