/-
  Prices between stops, with and without a peak: the program's functions and their models.
-/
import Derived.Test.YtgmphbkcblkmbaaTariffFn
import Derived.Test.YtgmphbkcblkmbaaPeakFn
set_option linter.unusedSimpArgs false
namespace Go.Proofs.Ytgmphbkcblkmbaa
open Go.RowKit Go.Deep
set_option linter.unusedVariables false
set_option maxRecDepth 100000 in
set_option maxHeartbeats 2000000 in
theorem hasStop_any (v : TariffR) (s : Int) (w : World) (hz : v.z.length ≤ 1048576) :
    Calls Try.prog 71 #[tariffV v, .int .i64 s] w fun e w' => e = .returned (.bool (decide (0 ≤ s ∧ s < v.z.length))) ∧ Below w.heap.size w w' := by
  unfold tariffV
  by_cases h0 : 0 ≤ s
  · have d0 : decide (0 ≤ s) = true := by simpa using h0
    by_cases h1 : s < v.z.length
    · have d1 : decide (s < (v.z.length : Int)) = true := by simpa using h1
      have Hd := Lib.hid (show decide (0 ≤ s ∧ s < (v.z.length : Int)) = true by rw [decide_eq_true_eq]; exact ⟨h0, h1⟩)
      clear h0 h1
      go_enter Try.func71, Try.ntmps71
      go_wp2
      go_ret
      exact ⟨ret_bool (by rw [Hd.out]), (by repeat (first | exact Below.refl _ _ | refine bA ?_ _ | refine bD ?_ _ | refine bD1 ?_ | refine bS ?_ (by simp) _))⟩
    · have d1 : decide (s < (v.z.length : Int)) = false := by simpa using h1
      have Hd := Lib.hid (show decide (0 ≤ s ∧ s < (v.z.length : Int)) = false by rw [decide_eq_false_iff_not]; omega)
      clear h0 h1
      go_enter Try.func71, Try.ntmps71
      go_wp2
      go_ret
      exact ⟨ret_bool (by rw [Hd.out]), (by repeat (first | exact Below.refl _ _ | refine bA ?_ _ | refine bD ?_ _ | refine bD1 ?_ | refine bS ?_ (by simp) _))⟩
  · have d0 : decide (0 ≤ s) = false := by simpa using h0
    have Hd := Lib.hid (show decide (0 ≤ s ∧ s < (v.z.length : Int)) = false by rw [decide_eq_false_iff_not]; omega)
    clear h0
    go_enter Try.func71, Try.ntmps71
    go_wp2
    go_ret
    exact ⟨ret_bool (by rw [Hd.out]), (by repeat (first | exact Below.refl _ _ | refine bA ?_ _ | refine bD ?_ _ | refine bD1 ?_ | refine bS ?_ (by simp) _))⟩
set_option maxRecDepth 100000 in
set_option maxHeartbeats 2000000 in
theorem implBasePrice_any (v : TariffR) (a b : Int) (w : World) (hi : TariffIn w w.heap.size v) (hs : TariffSmall v) :
    Calls Try.prog 28 #[tariffV v, .int .i64 a, .int .i64 b] w fun e w' => e = .returned (.int .i64 (Fares.basePrice v.of a b)) ∧ Below w.heap.size w w' := by
  have Hi := Lib.hid hi; clear hi
  have Hs := Lib.hid hs; clear hs
  have hz := Hs.out.2.2.1
  unfold tariffV
  go_enter Try.func28, Try.ntmps28
  go_wp2_with fail
  generalize hW : World.alloc _ _ = W0
  have hP0 : Blk W0 w.heap.size 27 v.cells := by rw [← hW]; exact Blk.new w _ _
  have hc0 : Below w.heap.size w W0 := by rw [← hW]; exact bA (Below.refl _ _) _
  clear hW
  have HP0 := Lib.hid hP0; clear hP0
  refine (implValidTariff_any v _ (Hi.out.over hc0) Hs.out).mono ?_
  rintro e w1 ⟨rfl, hb1⟩
  have hc1 : Below w.heap.size w w1 := bT hc0 hb1
  have hP1 := HP0.out.belowAll hb1
  clear hb1
  obtain ⟨t0, t1, t2, t3, t4⟩ := tariffCells hP1
  have HP1 := Lib.hid hP1; clear hP1
  cases hv : Fares.validTariff v.of
  · have Hv := Lib.hid hv; clear hv
    go_wp2
    go_ret
    exact ⟨ret_int (Fares.basePrice_invalid Hv.out a b).symm, hc1⟩
  · have Hv := Lib.hid hv; clear hv
    go_wp2_with fail
    refine (hasStop_any v a _ hz).mono ?_
    rintro e w2 ⟨rfl, hb2⟩
    have hc2 : Below w.heap.size w w2 := bT hc1 hb2
    have hP2 := HP1.out.belowAll hb2
    clear t0 t1 t2 t3 t4 hb2
    obtain ⟨t0, t1, t2, t3, t4⟩ := tariffCells hP2
    have HP2 := Lib.hid hP2; clear hP2
    by_cases ha : 0 ≤ a ∧ a < (v.z.length : Int)
    · rw [decide_eq_true ha]
      go_wp2_with fail
      refine (hasStop_any v b _ hz).mono ?_
      rintro e w3 ⟨rfl, hb3⟩
      have hc3 : Below w.heap.size w w3 := bT hc2 hb3
      have hP3 := HP2.out.belowAll hb3
      clear t0 t1 t2 t3 t4 hb3
      obtain ⟨t0, t1, t2, t3, t4⟩ := tariffCells hP3
      have HP3 := Lib.hid hP3; clear hP3
      by_cases hb : 0 ≤ b ∧ b < (v.z.length : Int)
      · rw [decide_eq_true hb]
        obtain ⟨a, rfl⟩ := Int.eq_ofNat_of_zero_le ha.1
        obtain ⟨b, rfl⟩ := Int.eq_ofNat_of_zero_le hb.1
        have ha1 : a < v.z.length := by omega
        have hb1 : b < v.z.length := by omega
        have Hyes := Lib.hid (Fares.basePrice_yes Hv.out (a := a) (b := b) ha1 hb1)
        have HT := Lib.hid (Hi.out.over hc3).1
        have HZ : Hid (Ints _ _ v.zA v.z) := Lib.hid (Hi.out.over hc3).2.1
        obtain ⟨za, ra, ga1, ga2, ga3, ga4, ga5⟩ := Fares.zone_get (t := v.of) Hv.out ha1
        obtain ⟨zb, rb, gb1, gb2, gb3, gb4, gb5⟩ := Fares.zone_get (t := v.of) Hv.out hb1
        have hpl : v.of.p.length = v.L.length := rowsOf_length v.L
        rw [hpl] at ga3 ga5 gb3 gb5
        obtain ⟨x, hx⟩ : ∃ x, v.L[za]? = some x := ⟨v.L[za], List.getElem?_eq_getElem ga3⟩
        have hxr : x.xs = ra := by have h := rowsOf_get hx; rw [show (rowsOf v.L)[za]? = some ra from ga4] at h; injection h with h; exact h.symm
        have hlx : zb < x.xs.length := by rw [hxr, ga5]; exact gb3
        obtain ⟨y, hy⟩ : ∃ y, x.xs[zb]? = some y := ⟨x.xs[zb], List.getElem?_eq_getElem hlx⟩
        have Hbase := Lib.hid (show Fares.base v.of a b = y by unfold Fares.base; rw [ga2, gb2]; exact Fares.cell_of ga4 (by rw [← hxr]; exact hy))
        obtain ⟨b1, o1, hA1, hb1, hr1⟩ := HT.out.row (by omega)
        have c1 := hr1 za x hx
        obtain ⟨b2, o2, hA2, hb2, hr2⟩ := Ints.row (HT.out.rowIn hx).1 (by omega)
        have c2 := hr2 zb y hy
        obtain ⟨b3, o3, hA3, hb3, hr3⟩ := Ints.row HZ.out (by omega)
        have c3 := hr3 a (za : Int) ga1
        have c4 := hr3 b (zb : Int) gb1
        rw [hA1] at t0
        rw [hA2] at c1
        rw [hA3] at t1
        have i1 : (0 : Int) ≤ (a : Int) := by omega
        have i2 : (a : Int) < (v.z.length : Int) := by omega
        have i3 : (0 : Int) ≤ (b : Int) := by omega
        have i4 : (b : Int) < (v.z.length : Int) := by omega
        have i5 : (0 : Int) ≤ (za : Int) := by omega
        have i6 : (za : Int) < (v.L.length : Int) := by omega
        have i7 : (0 : Int) ≤ (zb : Int) := by omega
        have i8 : (zb : Int) < (x.xs.length : Int) := by omega
        clear hx hy hr1 hr2 hr3 hxr ga1 ga2 ga4 ga5 gb1 gb2 gb4 gb5 HT HZ hA1 hA2 hA3
        go_wp2
        go_quiet (fail)
        go_wp2
        go_ret
        exact ⟨ret_int (by rw [Hyes.out, Hbase.out]), by first | exact hc3 | exact bD1 hc3 | exact bD hc3 _⟩
      · have Hb := Lib.hid hb
        rw [decide_eq_false hb]
        go_wp2
        go_ret
        exact ⟨ret_int (Fares.basePrice_to (t := v.of) Hb.out a).symm, hc3⟩
    · have Ha := Lib.hid ha
      rw [decide_eq_false ha]
      go_wp2
      go_ret
      exact ⟨ret_int (Fares.basePrice_from (t := v.of) Ha.out b).symm, hc2⟩
set_option maxRecDepth 100000 in
set_option maxHeartbeats 2000000 in
theorem specbase_any (v : TariffR) (a b : Nat) (w : World) (hi : TariffIn w w.heap.size v) (hs : TariffSmall v) (hv : Fares.validTariff v.of = true) (ha : a < v.z.length) (hb : b < v.z.length) :
    Calls Try.prog 73 #[tariffV v, .int .i64 a, .int .i64 b] w fun e w' => e = .returned (.int .i64 (Fares.base v.of a b)) ∧ Below w.heap.size w w' := by
  have Hi := Lib.hid hi; clear hi
  have Hv := Lib.hid hv; clear hv
  have hz := hs.2.2.1
  clear hs
  unfold tariffV
  go_enter Try.func73, Try.ntmps73
  go_wp2
  generalize hW : World.alloc _ _ = W0
  have hP0 : Blk W0 w.heap.size 27 v.cells := by rw [← hW]; exact Blk.new w _ _
  have hc0 : Below w.heap.size w W0 := by rw [← hW]; exact bA (Below.refl _ _) _
  clear hW
  obtain ⟨t0, t1, t2, t3, t4⟩ := tariffCells hP0
  clear hP0
  have HT := Lib.hid (Hi.out.over hc0).1
  have HZ : Hid (Ints _ _ v.zA v.z) := Lib.hid (Hi.out.over hc0).2.1
  obtain ⟨za, ra, ga1, ga2, ga3, ga4, ga5⟩ := Fares.zone_get (t := v.of) Hv.out ha
  obtain ⟨zb, rb, gb1, gb2, gb3, gb4, gb5⟩ := Fares.zone_get (t := v.of) Hv.out hb
  have hpl : v.of.p.length = v.L.length := rowsOf_length v.L
  rw [hpl] at ga3 ga5 gb3 gb5
  obtain ⟨x, hx⟩ : ∃ x, v.L[za]? = some x := ⟨v.L[za], List.getElem?_eq_getElem ga3⟩
  have hxr : x.xs = ra := by have h := rowsOf_get hx; rw [show (rowsOf v.L)[za]? = some ra from ga4] at h; injection h with h; exact h.symm
  have hlx : zb < x.xs.length := by rw [hxr, ga5]; exact gb3
  obtain ⟨y, hy⟩ : ∃ y, x.xs[zb]? = some y := ⟨x.xs[zb], List.getElem?_eq_getElem hlx⟩
  have Hbase := Lib.hid (show Fares.base v.of a b = y by unfold Fares.base; rw [ga2, gb2]; exact Fares.cell_of ga4 (by rw [← hxr]; exact hy))
  obtain ⟨b1, o1, hA1, hb1, hr1⟩ := HT.out.row (by omega)
  have c1 := hr1 za x hx
  obtain ⟨b2, o2, hA2, hb2, hr2⟩ := Ints.row (HT.out.rowIn hx).1 (by omega)
  have c2 := hr2 zb y hy
  obtain ⟨b3, o3, hA3, hb3, hr3⟩ := Ints.row HZ.out (by omega)
  have c3 := hr3 a (za : Int) ga1
  have c4 := hr3 b (zb : Int) gb1
  rw [hA1] at t0
  rw [hA2] at c1
  rw [hA3] at t1
  have i1 : (0 : Int) ≤ (a : Int) := by omega
  have i2 : (a : Int) < (v.z.length : Int) := by omega
  have i3 : (0 : Int) ≤ (b : Int) := by omega
  have i4 : (b : Int) < (v.z.length : Int) := by omega
  have i5 : (0 : Int) ≤ (za : Int) := by omega
  have i6 : (za : Int) < (v.L.length : Int) := by omega
  have i7 : (0 : Int) ≤ (zb : Int) := by omega
  have i8 : (zb : Int) < (x.xs.length : Int) := by omega
  clear hx hy hr1 hr2 hr3 hxr ga1 ga2 ga4 ga5 gb1 gb2 gb4 gb5 HT HZ hA1 hA2 hA3
  go_quiet (fail)
  go_wp2
  go_ret
  exact ⟨ret_int (by rw [Hbase.out]), by first | exact hc0 | exact bD1 hc0 | exact bD hc0 _⟩
set_option maxRecDepth 100000 in
set_option maxHeartbeats 2000000 in
theorem specBasePrice_any (v : TariffR) (a b : Int) (w : World) (hi : TariffIn w w.heap.size v) (hs : TariffSmall v) :
    Calls Try.prog 29 #[tariffV v, .int .i64 a, .int .i64 b] w fun e w' => e = .returned (.int .i64 (Fares.basePrice v.of a b)) ∧ Below w.heap.size w w' := by
  have Hi := Lib.hid hi; clear hi
  have Hs := Lib.hid hs; clear hs
  have hz := Hs.out.2.2.1
  unfold tariffV
  go_enter Try.func29, Try.ntmps29
  go_wp2_with fail
  generalize hW : World.alloc _ _ = W0
  have hP0 : Blk W0 w.heap.size 27 v.cells := by rw [← hW]; exact Blk.new w _ _
  have hc0 : Below w.heap.size w W0 := by rw [← hW]; exact bA (Below.refl _ _) _
  clear hW
  have HP0 := Lib.hid hP0; clear hP0
  refine (specvalidTariff_any v _ (Hi.out.over hc0) Hs.out).mono ?_
  rintro e w1 ⟨rfl, hb1⟩
  have hc1 : Below w.heap.size w w1 := bT hc0 hb1
  have hP1 := HP0.out.belowAll hb1
  clear hb1
  obtain ⟨t0, t1, t2, t3, t4⟩ := tariffCells hP1
  have HP1 := Lib.hid hP1; clear hP1
  cases hv : Fares.validTariff v.of
  · have Hv := Lib.hid hv; clear hv
    go_wp2
    go_ret
    exact ⟨ret_int (Fares.basePrice_invalid Hv.out a b).symm, hc1⟩
  · have Hv := Lib.hid hv; clear hv
    go_wp2_with fail
    by_cases ha : 0 ≤ a ∧ a ≤ (v.z.length : Int) - 1
    · refine (inRange_yes _ _ _ _ (by omega) (by omega)).mono ?_
      rintro e w' ⟨rfl, rfl⟩
      go_wp2_with fail
      by_cases hb : 0 ≤ b ∧ b ≤ (v.z.length : Int) - 1
      · refine (inRange_yes _ _ _ _ (by omega) (by omega)).mono ?_
        rintro e w' ⟨rfl, rfl⟩
        obtain ⟨a, rfl⟩ := Int.eq_ofNat_of_zero_le ha.1
        obtain ⟨b, rfl⟩ := Int.eq_ofNat_of_zero_le hb.1
        have ha1 : a < v.z.length := by omega
        have hb1 : b < v.z.length := by omega
        have Hyes := Lib.hid (Fares.basePrice_yes Hv.out (a := a) (b := b) ha1 hb1)
        go_wp2_with fail
        refine (specbase_any v a b _ (Hi.out.over hc1) Hs.out Hv.out ha1 hb1).mono ?_
        rintro e w2 ⟨rfl, hb2⟩
        rw [← Hyes.out]
        go_wp2
        go_ret
        exact ⟨rfl, bT hc1 hb2⟩
      · have Hno := Lib.hid hb
        refine (inRange_no _ _ _ _ (by omega)).mono ?_
        rintro e w' ⟨rfl, rfl⟩
        go_wp2
        go_ret
        exact ⟨ret_int (Fares.basePrice_to (t := v.of) (fun h => Hno.out ⟨h.1, by have := h.2; have : v.of.z.length = v.z.length := rfl; omega⟩) a).symm, hc1⟩
    · have Hno := Lib.hid ha
      refine (inRange_no _ _ _ _ (by omega)).mono ?_
      rintro e w' ⟨rfl, rfl⟩
      go_wp2
      go_ret
      exact ⟨ret_int (Fares.basePrice_from (t := v.of) (fun h => Hno.out ⟨h.1, by have := h.2; have : v.of.z.length = v.z.length := rfl; omega⟩) b).symm, hc1⟩
set_option maxRecDepth 100000 in
set_option maxHeartbeats 2000000 in
theorem specfare_any (v : TariffR) (a b : Nat) (m : Int) (w : World) (hi : TariffIn w w.heap.size v) (hs : TariffSmall v) (hv : Fares.validTariff v.of = true) (ha : a < v.z.length) (hb : b < v.z.length) (m0 : 0 ≤ m) (m1 : m ≤ 40319) :
    Calls Try.prog 76 #[tariffV v, .int .i64 a, .int .i64 b, .int .i64 m] w fun e w' => e = .returned (.int .i64 (Fares.fare v.of a b m)) ∧ Below w.heap.size w w' := by
  have Hi := Lib.hid hi; clear hi
  have Hs := Lib.hid hs; clear hs
  have Hv := Lib.hid hv; clear hv
  have hz := Hs.out.2.2.1
  have hk := Hs.out.2.2.2
  obtain ⟨x, hx⟩ : ∃ x, x = Fares.base v.of a b := ⟨_, rfl⟩
  obtain ⟨x0, x1⟩ := Fares.base_bounds Hv.out (a := a) (b := b) ha hb
  obtain ⟨e0, e1⟩ : 0 ≤ v.e ∧ v.e ≤ 100 := Fares.extra_bounds Hv.out
  rw [← hx] at x0 x1
  obtain ⟨m2, m3, m4⟩ := Fares.mul_bounds x0 x1 e0 e1
  unfold tariffV
  go_enter Try.func76, Try.ntmps76
  go_wp2_with fail
  generalize hW : World.alloc _ _ = W0
  have hP0 : Blk W0 w.heap.size 27 v.cells := by rw [← hW]; exact Blk.new w _ _
  have hc0 : Below w.heap.size w W0 := by rw [← hW]; exact bA (Below.refl _ _) _
  clear hW
  have HP0 := Lib.hid hP0; clear hP0
  refine (specbase_any v a b _ (Hi.out.over hc0) Hs.out Hv.out ha hb).mono ?_
  rintro e w1 ⟨rfl, hb1⟩
  have hc1 : Below w.heap.size w w1 := bT hc0 hb1
  have hP1 := HP0.out.belowAll hb1
  clear hb1
  obtain ⟨t0, t1, t2, t3, t4⟩ := tariffCells hP1
  have HP1 := Lib.hid hP1; clear hP1
  rw [← hx]
  have Hx := Lib.hid hx; clear hx
  have wx : IntKind.i64.wrap (x * v.e) = x * v.e := IntWalk.i64_in _ (by omega)
  have tx : (x * v.e).tdiv 100 = x * v.e / 100 := Int.tdiv_eq_ediv_of_nonneg m2
  have wy : IntKind.i64.wrap (x + x * v.e / 100) = x + x * v.e / 100 := IntWalk.i64_in _ (by omega)
  have hbk : Hid (Bands w1 w1.heap.size v.kA v.k) := Lib.hid (Hi.out.over hc1).2.2.1
  cases hp : (Fares.workday (Fares.dayOf m) && v.k.any (fun b => Fares.inBand b (m % 1440)))
  · have Hp := Lib.hid hp; clear hp
    go_wp2_with fail
    refine (specpeak_any v.kA v.k.length v.kc v.k m _ hbk.out rfl (by omega) m0 m1).mono ?_
    rintro e w' ⟨rfl, rfl⟩
    rw [Hp.out]
    go_wp2
    go_ret
    exact ⟨ret_int (by unfold Fares.fare; rw [show Fares.peakAt v.of.k m = false from Hp.out, ← Hx.out]; simp), hc1⟩
  · have Hp := Lib.hid hp; clear hp
    go_wp2_with fail
    refine (specpeak_any v.kA v.k.length v.kc v.k m _ hbk.out rfl (by omega) m0 m1).mono ?_
    rintro e w' ⟨rfl, rfl⟩
    rw [Hp.out]
    go_wp2
    go_ret
    exact ⟨ret_int (by unfold Fares.fare; rw [show Fares.peakAt v.of.k m = true from Hp.out, ← Hx.out]; first | rfl | (simp only [if_true]; rfl)), hc1⟩
set_option maxRecDepth 100000 in
set_option maxHeartbeats 2000000 in
theorem specFareOf_any (v : TariffR) (a b m : Int) (w : World) (hi : TariffIn w w.heap.size v) (hs : TariffSmall v) :
    Calls Try.prog 32 #[tariffV v, .int .i64 a, .int .i64 b, .int .i64 m] w fun e w' => e = .returned (.int .i64 (Fares.fareOf v.of a b m)) ∧ Below w.heap.size w w' := by
  have Hi := Lib.hid hi; clear hi
  have Hs := Lib.hid hs; clear hs
  have hz := Hs.out.2.2.1
  unfold tariffV
  go_enter Try.func32, Try.ntmps32
  go_wp2_with fail
  generalize hW : World.alloc _ _ = W0
  have hP0 : Blk W0 w.heap.size 27 v.cells := by rw [← hW]; exact Blk.new w _ _
  have hc0 : Below w.heap.size w W0 := by rw [← hW]; exact bA (Below.refl _ _) _
  clear hW
  have HP0 := Lib.hid hP0; clear hP0
  refine (specvalidTariff_any v _ (Hi.out.over hc0) Hs.out).mono ?_
  rintro e w1 ⟨rfl, hb1⟩
  have hc1 : Below w.heap.size w w1 := bT hc0 hb1
  have hP1 := HP0.out.belowAll hb1
  clear hb1
  obtain ⟨t0, t1, t2, t3, t4⟩ := tariffCells hP1
  have HP1 := Lib.hid hP1; clear hP1
  cases hv : Fares.validTariff v.of
  · have Hv := Lib.hid hv; clear hv
    go_wp2
    go_ret
    exact ⟨ret_int (Fares.fareOf_invalid Hv.out a b m).symm, hc1⟩
  · have Hv := Lib.hid hv; clear hv
    go_wp2_with fail
    by_cases ha : 0 ≤ a ∧ a ≤ (v.z.length : Int) - 1
    · refine (inRange_yes _ _ _ _ (by omega) (by omega)).mono ?_
      rintro e w' ⟨rfl, rfl⟩
      go_wp2_with fail
      by_cases hb : 0 ≤ b ∧ b ≤ (v.z.length : Int) - 1
      · refine (inRange_yes _ _ _ _ (by omega) (by omega)).mono ?_
        rintro e w' ⟨rfl, rfl⟩
        go_wp2_with fail
        by_cases hm : 0 ≤ m ∧ m ≤ 40319
        · refine (inRange_yes _ _ _ _ (by omega) (by omega)).mono ?_
          rintro e w' ⟨rfl, rfl⟩
          obtain ⟨a, rfl⟩ := Int.eq_ofNat_of_zero_le ha.1
          obtain ⟨b, rfl⟩ := Int.eq_ofNat_of_zero_le hb.1
          have ha1 : a < v.z.length := by omega
          have hb1 : b < v.z.length := by omega
          have Hyes := Lib.hid (Fares.fareOf_yes Hv.out (a := a) (b := b) ha1 hb1 (m := m) (by unfold Fares.minuteOk; rw [decide_eq_true_eq]; exact hm))
          go_wp2_with fail
          refine (specfare_any v a b m _ (Hi.out.over hc1) Hs.out Hv.out ha1 hb1 hm.1 hm.2).mono ?_
          rintro e w2 ⟨rfl, hb2⟩
          rw [← Hyes.out]
          go_wp2
          go_ret
          exact ⟨rfl, bT hc1 hb2⟩
        · have Hno := Lib.hid hm
          refine (inRange_no _ _ _ _ (by omega)).mono ?_
          rintro e w' ⟨rfl, rfl⟩
          go_wp2
          go_ret
          exact ⟨ret_int (Fares.fareOf_late (t := v.of) (by unfold Fares.minuteOk; rw [decide_eq_false_iff_not]; exact Hno.out) a b).symm, hc1⟩
      · have Hno := Lib.hid hb
        refine (inRange_no _ _ _ _ (by omega)).mono ?_
        rintro e w' ⟨rfl, rfl⟩
        go_wp2
        go_ret
        exact ⟨ret_int (Fares.fareOf_to (t := v.of) (fun h => Hno.out ⟨h.1, by have := h.2; have : v.of.z.length = v.z.length := rfl; omega⟩) a m).symm, hc1⟩
    · have Hno := Lib.hid ha
      refine (inRange_no _ _ _ _ (by omega)).mono ?_
      rintro e w' ⟨rfl, rfl⟩
      go_wp2
      go_ret
      exact ⟨ret_int (Fares.fareOf_from (t := v.of) (fun h => Hno.out ⟨h.1, by have := h.2; have : v.of.z.length = v.z.length := rfl; omega⟩) b m).symm, hc1⟩
set_option maxRecDepth 100000 in
set_option maxHeartbeats 2000000 in
theorem implFareOf_any (v : TariffR) (a b m : Int) (w : World) (hi : TariffIn w w.heap.size v) (hs : TariffSmall v) :
    Calls Try.prog 31 #[tariffV v, .int .i64 a, .int .i64 b, .int .i64 m] w fun e w' => e = .returned (.int .i64 (Fares.fareOf v.of a b m)) ∧ Below w.heap.size w w' := by
  have Hi := Lib.hid hi; clear hi
  have Hs := Lib.hid hs; clear hs
  have hk := Hs.out.2.2.2
  unfold tariffV
  go_enter Try.func31, Try.ntmps31
  go_wp2_with fail
  generalize hW : World.alloc _ _ = W0
  have hP0 : Blk W0 w.heap.size 27 v.cells := by rw [← hW]; exact Blk.new w _ _
  have hc0 : Below w.heap.size w W0 := by rw [← hW]; exact bA (Below.refl _ _) _
  clear hW
  have HP0 := Lib.hid hP0; clear hP0
  refine (implBasePrice_any v a b _ (Hi.out.over hc0) Hs.out).mono ?_
  rintro e w1 ⟨rfl, hb1⟩
  have hc1 : Below w.heap.size w w1 := bT hc0 hb1
  have hP1 := HP0.out.belowAll hb1
  clear hb1
  obtain ⟨t0, t1, t2, t3, t4⟩ := tariffCells hP1
  have HP1 := Lib.hid hP1; clear hP1
  by_cases hneg : Fares.basePrice v.of a b < 0
  · have Hf := Lib.hid (Fares.fareOf_base (m := m) hneg (fun x y hx hy hv => (Fares.base_bounds hv hx hy).1))
    have d : decide (Fares.basePrice v.of a b < 0) = true := by simpa using hneg
    go_wp2
    go_ret
    exact ⟨ret_int Hf.out.symm, hc1⟩
  · have d : decide (Fares.basePrice v.of a b < 0) = false := by simpa using hneg
    obtain ⟨x, y, rfl, rfl, hx, hy, hv, hbp⟩ := Fares.basePrice_some hneg
    obtain ⟨p, hp⟩ : ∃ p, p = Fares.base v.of x y := ⟨_, rfl⟩
    obtain ⟨x0, x1⟩ := Fares.base_bounds hv hx hy
    obtain ⟨e0, e1⟩ : 0 ≤ v.e ∧ v.e ≤ 100 := Fares.extra_bounds hv
    rw [← hp] at x0 x1 hbp
    rw [hbp] at d ⊢
    cases hm : Fares.minuteOk m
    · have Hf := Lib.hid (Fares.fareOf_late (t := v.of) hm (x : Int) (y : Int))
      have Hm := Lib.hid hm; clear hm
      clear hneg hp
      go_wp2_with fail
      refine (momentValid_any m _).mono ?_
      rintro e w' ⟨rfl, rfl⟩
      rw [Hm.out]
      go_wp2
      go_ret
      exact ⟨ret_int Hf.out.symm, hc1⟩
    · have Hf := Lib.hid (Fares.fareOf_yes (t := v.of) hv hx hy hm)
      have Hpk := Lib.hid (Fares.isPeak_of (xs := v.k) (m := m) (Fares.validTariff_iff.1 hv).2.2.1 hm)
      have Hm := Lib.hid hm; clear hm
      obtain ⟨m2, m3, m4⟩ := Fares.mul_bounds x0 x1 e0 e1
      have Hp := Lib.hid hp; clear hp
      have wx : IntKind.i64.wrap (p * v.e) = p * v.e := IntWalk.i64_in _ (by omega)
      have tx : (p * v.e).tdiv 100 = p * v.e / 100 := Int.tdiv_eq_ediv_of_nonneg m2
      have wy : IntKind.i64.wrap (p + p * v.e / 100) = p + p * v.e / 100 := IntWalk.i64_in _ (by omega)
      clear hneg hbp
      go_wp2_with fail
      refine (momentValid_any m _).mono ?_
      rintro e w' ⟨rfl, rfl⟩
      rw [Hm.out]
      go_wp2_with fail
      have hbk : Hid (Bands w1 w1.heap.size v.kA v.k) := Lib.hid (Hi.out.over hc1).2.2.1
      refine (implIsPeak_any v.kA v.k.length v.kc v.k m _ hbk.out rfl (by omega)).mono ?_
      rintro e w2 ⟨rfl, hb2⟩
      have hc2 : Below w.heap.size w w2 := bT hc1 hb2
      have hP2 := HP1.out.belowAll hb2
      clear t0 t1 t2 t3 t4 hb2
      obtain ⟨t0, t1, t2, t3, t4⟩ := tariffCells hP2
      have HP2 := Lib.hid hP2; clear hP2
      rw [Hpk.out]
      cases hq : Fares.peakAt v.k m
      · have Hq := Lib.hid hq; clear hq
        go_wp2
        go_ret
        exact ⟨ret_int (by rw [Hf.out]; unfold Fares.fare; rw [show Fares.peakAt v.of.k m = false from Hq.out, ← Hp.out]; simp), hc2⟩
      · have Hq := Lib.hid hq; clear hq
        go_wp2
        go_ret
        exact ⟨ret_int (by rw [Hf.out]; unfold Fares.fare; rw [show Fares.peakAt v.of.k m = true from Hq.out, ← Hp.out]; first | rfl | (simp only [if_true]; rfl)), hc2⟩
end Go.Proofs.Ytgmphbkcblkmbaa
