/-
  Sums of charges: of days, and what caps save; the program's functions and their models.
-/
import Derived.Test.YtdokilpinjabcaaCapImpl
namespace Go.Proofs.Ytdokilpinjabcaa
open Go.RowKit Go.Deep
set_option linter.unusedVariables false

set_option maxRecDepth 100000 in
set_option maxHeartbeats 2000000 in
theorem specDayTotals_any (A : Option Addr) (n c : Nat) (xs : List Fares.Charge) (w : World) (hx : Charges w w.heap.size A xs) (hn : xs.length = n) (hl : n ≤ 1000000000) :
    Calls Try.prog 25 #[.slice A n c] w fun e w' => ∃ v, e = .returned v ∧ OwnInts w' w.heap.size v (Fares.dayTotals xs) ∧ Below w.heap.size w w' := by
  subst hn
  by_cases hv : Fares.validCharges xs = true
  · have HE := Lib.hid (show Fares.dayTotals xs = Fares.totals xs by unfold Fares.dayTotals; rw [if_pos hv])
    have hlen := Fares.length_of_validCharges hv
    have Hm := Lib.hid (Fares.chargeOk_mem hv)
    obtain ⟨Z, hZ, hZ0, hmk0⟩ := run_make_ints 29 (by omega)
    have hmk : ∀ w : World, (Instr.makeSlice 26 (.int .i64 29) (.int .i64 29)).run Try.prog w = .ok (.slice (some ⟨w.heap.size, 0, none⟩) 29 29) (w.alloc (.cells Z 3)) := hmk0
    have HZ := Lib.hid hZ; clear hZ
    have HZ0 := Lib.hid hZ0; clear hZ0 hmk0
    go_enter Try.func25, Try.ntmps25
    go_wp2_with fail
    refine (specvalidCharges_any A _ c xs _ hx rfl hl).mono ?_
    rintro e w1 ⟨rfl, hb1⟩
    go_wp2
    clear hmk
    go_loopw [4] (fun i wr => ∃ k : Nat, k ≤ xs.length ∧ i = .int .i64 k ∧ Starts wr w1.heap.size 3 29 ((Fares.totals (xs.take k)).flatMap intCells) ∧ Below w.heap.size w wr) (fun i _ => xs.length - (intOf i).toNat)
    case atStart => exact ⟨0, Nat.zero_le _, rfl, (by
      have h := zeros_starts (Blk.new w1 3 Z) HZ.out HZ0.out
      have e : Fares.totals (xs.take 0) = List.replicate 29 (0 : Int) := rfl
      rw [e]
      exact h), bA hb1 _⟩
    case round =>
      obtain ⟨k, hk, rfl, hst, hb⟩ := hrel
      have hz1 := hst.lt
      have hbs := hb1.size
      by_cases hlt : k < xs.length
      · obtain ⟨x, hxk⟩ : ∃ x, xs[k]? = some x := ⟨xs[k], List.getElem?_eq_getElem hlt⟩
        obtain ⟨x0, x1, a0, a1⟩ := Hm.out x (List.mem_of_getElem? hxk)
        obtain ⟨xd, xa⟩ := x
        dsimp only at x0 x1 a0 a1
        obtain ⟨d, rfl⟩ := Int.eq_ofNat_of_zero_le x0
        obtain ⟨b1, o1, rfl, hbb, hr1⟩ := hx.row (by omega)
        obtain ⟨p0, p1⟩ := (hr1 k _ hxk).below hb hbb
        dsimp only at p0 p1
        have Hnx := Lib.hid (Fares.totals_next hxk rfl (by omega : d < 29))
        have htb := Fares.dayTotal_bounds d (xs.take k) (fun c hc => ⟨(Hm.out c (List.mem_of_mem_take hc)).2.2.1, (Hm.out c (List.mem_of_mem_take hc)).2.2.2⟩)
        rw [List.length_take] at htb
        obtain ⟨t, ht⟩ : ∃ t, t = Fares.dayTotal d (xs.take k) := ⟨_, rfl⟩
        rw [← ht] at htb
        have Ht := Lib.hid ht; clear ht
        have hq0 : wr.cell? ⟨w1.heap.size, d, none⟩ = some (.int .i64 t) := by
          obtain ⟨cs, h1, h2, h3⟩ := hst
          rw [h1.cell]
          refine h3 _ _ ?_
          rw [flat_ints, List.getElem?_map, Fares.totals_get _ (by omega), Ht.out]
          rfl
        have e0 := hst.free d
        have Hst := Lib.hid hst; clear hst
        clear hxk hr1 hx
        have i0 : (0 : Int) ≤ (k : Int) := by omega
        have i1 : (k : Int) < (xs.length : Int) := by omega
        have j0 : (0 : Int) ≤ (d : Int) := by omega
        have j1 : (d : Int) < 29 := by omega
        have hne : ¬ w1.heap.size = wr.heap.size := by omega
        go_wp2
        go_still_tail 21, (by kernel_rfl)
        change wpList _ _ _ _ _ _
        go_wp2
        go_roundw
        case rel => exact ⟨k + 1, by omega, by go_num, (by
          rw [Hnx.out, ← Ht.out]
          exact Starts.setInt Hst.out), bS (bD1 hb) (by show w.heap.size ≤ w1.heap.size; omega) _⟩
        case measure => simp [intOf]; omega
      · go_wp2
        go_ret
        rw [List.take_of_length_le (by omega)] at hst
        have h := OwnInts.of_starts (base := w.heap.size) hst (by rw [Fares.totals_length]; omega) (by unfold maxLen; omega) (by omega)
        rw [Fares.totals_length] at h
        exact ⟨_, rfl, by rw [HE.out]; exact h, hb⟩
  · have hv' : Fares.validCharges xs = false := by simpa using hv
    have HE := Lib.hid (show Fares.dayTotals xs = [] by unfold Fares.dayTotals; rw [if_neg hv])
    clear hv
    go_enter Try.func25, Try.ntmps25
    go_wp2_with fail
    refine (specvalidCharges_any A _ c xs _ hx rfl hl).mono ?_
    rintro e w1 ⟨rfl, hb1⟩
    go_wp2
    go_ret
    exact ⟨_, rfl, by rw [HE.out]; exact OwnInts.none_ _ _, hb1⟩

set_option maxRecDepth 100000 in
set_option maxHeartbeats 2000000 in
theorem implDayTotals_any (A : Option Addr) (n c : Nat) (xs : List Fares.Charge) (w : World) (hx : Charges w w.heap.size A xs) (hn : xs.length = n) (hl : n ≤ 4611686018427387904) :
    Calls Try.prog 24 #[.slice A n c] w fun e w' => ∃ v, e = .returned v ∧ OwnInts w' w.heap.size v (Fares.dayTotals xs) ∧ Below w.heap.size w w' := by
  subst hn
  by_cases hv : Fares.validCharges xs = true
  · have HE := Lib.hid (show Fares.dayTotals xs = Fares.totals xs by unfold Fares.dayTotals; rw [if_pos hv])
    have hlen := Fares.length_of_validCharges hv
    have Hm := Lib.hid (Fares.chargeOk_mem hv)
    obtain ⟨Z, hZ, hZ0, hmk0⟩ := run_make_ints 29 (by omega)
    have hmk : ∀ w : World, (Instr.makeSlice 26 (.int .i64 29) (.int .i64 29)).run Try.prog w = .ok (.slice (some ⟨w.heap.size, 0, none⟩) 29 29) (w.alloc (.cells Z 3)) := hmk0
    have HZ := Lib.hid hZ; clear hZ
    have HZ0 := Lib.hid hZ0; clear hZ0 hmk0
    go_enter Try.func24, Try.ntmps24
    go_wp2_with fail
    refine (implvalidCharges_any A _ c xs _ hx rfl hl).mono ?_
    rintro e w1 ⟨rfl, hb1⟩
    go_wp2
    clear hmk
    go_loopw [12] (fun i wr => ∃ k : Nat, k ≤ xs.length ∧ i = .int .i64 k ∧ Starts wr w1.heap.size 3 29 ((Fares.totals (xs.take k)).flatMap intCells) ∧ Below w.heap.size w wr) (fun i _ => xs.length - (intOf i).toNat)
    case atStart => exact ⟨0, Nat.zero_le _, rfl, (by
      have h := zeros_starts (Blk.new w1 3 Z) HZ.out HZ0.out
      have e : Fares.totals (xs.take 0) = List.replicate 29 (0 : Int) := rfl
      rw [e]
      exact h), bA hb1 _⟩
    case round =>
      obtain ⟨k, hk, rfl, hst, hb⟩ := hrel
      have hz1 := hst.lt
      have hbs := hb1.size
      by_cases hlt : k < xs.length
      · obtain ⟨x, hxk⟩ : ∃ x, xs[k]? = some x := ⟨xs[k], List.getElem?_eq_getElem hlt⟩
        obtain ⟨x0, x1, a0, a1⟩ := Hm.out x (List.mem_of_getElem? hxk)
        obtain ⟨xd, xa⟩ := x
        dsimp only at x0 x1 a0 a1
        obtain ⟨d, rfl⟩ := Int.eq_ofNat_of_zero_le x0
        obtain ⟨b1, o1, rfl, hbb, hr1⟩ := hx.row (by omega)
        obtain ⟨p0, p1⟩ := (hr1 k _ hxk).below hb hbb
        dsimp only at p0 p1
        have Hnx := Lib.hid (Fares.totals_next hxk rfl (by omega : d < 29))
        have htb := Fares.dayTotal_bounds d (xs.take k) (fun c hc => ⟨(Hm.out c (List.mem_of_mem_take hc)).2.2.1, (Hm.out c (List.mem_of_mem_take hc)).2.2.2⟩)
        rw [List.length_take] at htb
        obtain ⟨t, ht⟩ : ∃ t, t = Fares.dayTotal d (xs.take k) := ⟨_, rfl⟩
        rw [← ht] at htb
        have Ht := Lib.hid ht; clear ht
        have hq0 : wr.cell? ⟨w1.heap.size, d, none⟩ = some (.int .i64 t) := by
          obtain ⟨cs, h1, h2, h3⟩ := hst
          rw [h1.cell]
          refine h3 _ _ ?_
          rw [flat_ints, List.getElem?_map, Fares.totals_get _ (by omega), Ht.out]
          rfl
        have e0 := hst.free d
        have Hst := Lib.hid hst; clear hst
        clear hxk hr1 hx
        obtain ⟨_, s0, s1⟩ := ChargeBox.new wr ⟨(d : Int), xa⟩ 30
        dsimp only at s0 s1
        have hq1 : (wr.alloc (.cells #[.int .i64 (d : Int), .int .i64 xa] 30)).cell? ⟨w1.heap.size, d, none⟩ = some (.int .i64 t) := ((bA (Below.refl wr.heap.size wr) _).cell (by simpa using hz1)).trans hq0
        have e1 : (wr.alloc (.cells #[.int .i64 (d : Int), .int .i64 xa] 30)).frozen? ⟨w1.heap.size, d, none⟩ = false := ((bA (Below.refl wr.heap.size wr) _).frozen (by simpa using hz1)).trans e0
        have Hsta := Lib.hid (Hst.out.below (bA (Below.refl wr.heap.size wr) (.cells #[.int .i64 (d : Int), .int .i64 xa] 30)) hz1)
        have hba := bA hb (.cells #[.int .i64 (d : Int), .int .i64 xa] 30)
        clear hq0 e0 Hst hb
        have i0 : (0 : Int) ≤ (k : Int) := by omega
        have i1 : (k : Int) < (xs.length : Int) := by omega
        have j0 : (0 : Int) ≤ (d : Int) := by omega
        have j1 : (d : Int) < 29 := by omega
        have hne : ¬ w1.heap.size = wr.heap.size := by omega
        go_wp2
        generalize wr.alloc (.cells #[.int .i64 (d : Int), .int .i64 xa] 30) = wa at s0 s1 hq1 e1 Hsta hba ⊢
        go_still_tail 9, (by kernel_rfl)
        change wpList _ _ _ _ _ _
        go_wp2
        go_roundw
        case rel => exact ⟨k + 1, by omega, by go_num, (by
          rw [Hnx.out, ← Ht.out]
          exact Starts.setInt Hsta.out), bS (bD1 hba) (by show w.heap.size ≤ w1.heap.size; omega) _⟩
        case measure => simp [intOf]; omega
      · go_wp2
        go_ret
        rw [List.take_of_length_le (by omega)] at hst
        have h := OwnInts.of_starts (base := w.heap.size) hst (by rw [Fares.totals_length]; omega) (by unfold maxLen; omega) (by omega)
        rw [Fares.totals_length] at h
        exact ⟨_, rfl, by rw [HE.out]; exact h, hb⟩
  · have hv' : Fares.validCharges xs = false := by simpa using hv
    have HE := Lib.hid (show Fares.dayTotals xs = [] by unfold Fares.dayTotals; rw [if_neg hv])
    clear hv
    go_enter Try.func24, Try.ntmps24
    go_wp2_with fail
    refine (implvalidCharges_any A _ c xs _ hx rfl hl).mono ?_
    rintro e w1 ⟨rfl, hb1⟩
    go_wp2
    go_ret
    exact ⟨_, rfl, by rw [HE.out]; exact OwnInts.none_ _ _, hb1⟩

end Go.Proofs.Ytdokilpinjabcaa
