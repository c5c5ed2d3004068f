/-
  At every code the law FnFareOfZone returns true: FareOf is the same from all stops of a zone. No conditions.
-/
import Derived.Test.YtgmphbkcblkmbaaFareFn
import Derived.Test.YtgmphbkcblkmbaaDrawsFare
import Derived.Test.YtgmphbkcblkmbaaLiftBytes
set_option linter.unusedSimpArgs false
namespace Go.Proofs.Ytgmphbkcblkmbaa.fnFareOfZone
open Go.ChangeShapes Go.WideShapes Go.ChangeAt Go.RowKit Go.Deep
set_option linter.unusedVariables false

theorem fareOf_some {t : Fares.Tariff} {a b m : Int} (h : ¬ Fares.fareOf t a b m < 0) : ∃ x y : Nat, a = x ∧ b = y ∧ x < t.z.length ∧ y < t.z.length ∧ Fares.validTariff t = true ∧ Fares.minuteOk m = true ∧ Fares.fareOf t a b m = Fares.fare t x y m := by
  by_cases hh : (Fares.validTariff t && Fares.hasStop t a && Fares.hasStop t b && Fares.minuteOk m) = true
  · have h2 := hh
    simp only [Bool.and_eq_true, Fares.hasStop, decide_eq_true_eq] at h2
    refine ⟨a.toNat, b.toNat, by omega, by omega, by omega, by omega, h2.1.1.1, h2.2, ?_⟩
    unfold Fares.fareOf
    rw [hh]; rfl
  · exfalso
    unfold Fares.fareOf at h
    rw [if_neg hh] at h
    omega
theorem tariffCalm {w : World} {B : Nat} {u : TariffR} (h : TariffIn w B u) : TariffIn w B ⟨u.pA, u.pc, u.L, u.zA, u.zc, u.z, none, 0, [], u.e, u.t⟩ := ⟨h.1, h.2.1, Reads.nil _ _ _, h.2.2.2.1, h.2.2.2.2.1, h.2.2.2.2.2.1, h.2.2.2.2.2.2.1, Nat.le_refl _, Nat.zero_le _⟩
theorem calm_fare {t : Fares.Tariff} (hv : Fares.validTariff t = true) {x y : Nat} (hx : x < t.z.length) (hy : y < t.z.length) {m : Int} (hm : Fares.minuteOk m = true) : Fares.fareOf ⟨t.p, t.z, [], t.e, t.t⟩ x y m = Fares.base t x y := by
  obtain ⟨a, b, c, d, e⟩ := Fares.validTariff_iff.1 hv
  have hv2 : Fares.validTariff ⟨t.p, t.z, [], t.e, t.t⟩ = true := Fares.validTariff_iff.2 ⟨a, b, rfl, d, e⟩
  rw [Fares.fareOf_yes hv2 hx hy hm]
  unfold Fares.fare Fares.peakAt
  simp
  rfl
theorem drewn {w : World} {v : TariffR} (h : TariffIn w w.heap.size v) : TariffIn w.drew w.drew.heap.size v := h.over (bD1 (Below.refl _ _))
theorem fareOf_zone {t : Fares.Tariff} {x k : Nat} {a : Int} (hx : t.z[x]? = some a) (hk : t.z[k]? = some a) (y : Int) (m : Int) : Fares.fareOf t k y m = Fares.fareOf t x y m := by
  have h1 := (List.getElem?_eq_some_iff.1 hx).1
  have h2 := (List.getElem?_eq_some_iff.1 hk).1
  have hz : Fares.zone t k = Fares.zone t x := by unfold Fares.zone; rw [List.getD_eq_getElem?_getD, List.getD_eq_getElem?_getD, hx, hk]
  have hs : Fares.hasStop t k = Fares.hasStop t x := by unfold Fares.hasStop; rw [decide_eq_true (show (0 : Int) ≤ (k : Int) ∧ (k : Int) < t.z.length by omega), decide_eq_true (show (0 : Int) ≤ (x : Int) ∧ (x : Int) < t.z.length by omega)]
  unfold Fares.fareOf Fares.fare Fares.base
  rw [hs]
  simp only [Int.toNat_natCast]
  rw [hz]
set_option maxRecDepth 100000 in
set_option maxHeartbeats 2000000 in
theorem walk (A : Option Addr) (n c : Nat) (w : World) (h : Bytes w w.heap.size A n c) : Calls Try.prog 10 #[.slice A n c] w (TrueBelow w) := by
  by_cases hn : 1048576 < n
  · go_enter Try.func10, Try.ntmps10
    go_wp2
    go_ret
    exact ⟨rfl, Below.refl _ _⟩
  · go_enter Try.func10, Try.ntmps10
    have Hh := Lib.hid h; clear h
    go_wp2_with fail
    refine (drawFareOf_any A n c w Hh.out).mono ?_
    rintro e w0 ⟨u, f, t, m, rfl, hin0, hsm, h3, hc0⟩
    rw [if_pos rfl]
    have Hsm := Lib.hid hsm; clear hsm
    have hk := Hsm.out.2.2.2
    have Hin0 := Lib.hid hin0; clear hin0
    unfold tariffV
    go_wp2_with fail
    generalize hW : World.alloc _ _ = w1
    have hT1 : Blk w1 w0.heap.size 27 u.cells := by rw [← hW]; exact Blk.new w0 _ _
    have HB1 : Hid (Below w.heap.size w w1) := Lib.hid (by rw [← hW]; exact bA hc0 _)
    have Hin1 : Hid (TariffIn w1 w1.heap.size u) := Lib.hid (by rw [← hW]; exact Hin0.out.up _)
    clear hW hc0 Hin0
    have Htv1 := Lib.hid hT1; clear hT1
    obtain ⟨N, hN⟩ : ∃ N, N = Fares.fareOf u.of f t m := ⟨_, rfl⟩
    have HN := Lib.hid hN; clear hN
    refine (implFareOf_any u f t m _ Hin1.out Hsm.out).mono ?_
    rintro e w2 ⟨rfl, hb2⟩
    rw [← HN.out]
    have HB2 := Lib.hid (bT HB1.out hb2)
    clear HB1
    have Htv2 := Lib.hid (Blk.belowAll Htv1.out hb2)
    clear Htv1
    have Hin2 := Lib.hid (TariffIn.over Hin1.out hb2)
    clear Hin1
    clear hb2
    obtain ⟨t2_0, t2_1, t2_2, t2_3, t2_4⟩ := tariffCells (t := 27) (Htv2.out)
    go_wp2_with fail
    refine (specFareOf_any u f t m _ Hin2.out Hsm.out).mono ?_
    rintro e w3 ⟨rfl, hb3⟩
    rw [← HN.out]
    have HB3 := Lib.hid (bT HB2.out hb3)
    clear HB2
    have Htv3 := Lib.hid (Blk.belowAll Htv2.out hb3)
    clear Htv2
    have Hin3 := Lib.hid (TariffIn.over Hin2.out hb3)
    clear Hin2
    clear hb3
    clear t2_0 t2_1 t2_2 t2_3 t2_4
    obtain ⟨t3_0, t3_1, t3_2, t3_3, t3_4⟩ := tariffCells (t := 27) (Htv3.out)
    by_cases hneg : N < 0
    · have hneg' : decide (N < 0) = true := by simpa using hneg
      go_wp2_with fail
      refine (specFareOf_any u f t m _ Hin3.out Hsm.out).mono ?_
      rintro e w4 ⟨rfl, hb4⟩
      rw [← HN.out]
      have HB4 := Lib.hid (bT HB3.out hb4)
      clear HB3
      have Htv4 := Lib.hid (Blk.belowAll Htv3.out hb4)
      clear Htv3
      have Hin4 := Lib.hid (TariffIn.over Hin3.out hb4)
      clear Hin3
      clear hb4
      clear t3_0 t3_1 t3_2 t3_3 t3_4
      obtain ⟨t4_0, t4_1, t4_2, t4_3, t4_4⟩ := tariffCells (t := 27) (Htv4.out)
      go_wp2
      go_ret
      exact ⟨rfl, HB4.out⟩
    · have hneg' : decide (N < 0) = false := by simpa using hneg
      obtain ⟨x, y, rfl, rfl, hx, hy, hv, hm, hf⟩ := fareOf_some (t := u.of) (a := f) (b := t) (m := m) (by rw [← HN.out]; exact hneg)
      have Hb := Lib.hid (Fares.basePrice_yes hv hx hy)
      have Hpk := Lib.hid (Fares.isPeak_of (xs := u.k) (m := m) (Fares.validTariff_iff.1 hv).2.2.1 hm)
      obtain ⟨p, hp⟩ : ∃ p, p = Fares.base u.of x y := ⟨_, rfl⟩
      obtain ⟨x0, x1⟩ := Fares.base_bounds hv hx hy
      obtain ⟨e0, e1⟩ : 0 ≤ u.e ∧ u.e ≤ 100 := Fares.extra_bounds hv
      rw [← hp] at x0 x1 Hb
      obtain ⟨m2, m3, m4⟩ := Fares.mul_bounds x0 x1 e0 e1
      have Hf := Lib.hid (HN.out.trans hf)
      have Hp := Lib.hid hp; clear hp hf
      have Hv := Lib.hid hv
      have Hx := Lib.hid (show x < u.z.length from hx)
      have Hy := Lib.hid (show y < u.z.length from hy)
      have Hm := Lib.hid hm
      clear hv hx hy hm
      clear hneg m4
      go_wp2
      go_loopw [8] (fun i wr => ∃ k : Nat, k ≤ u.z.length ∧ i = .int .i64 k ∧ Below w.heap.size w wr ∧ Blk wr w0.heap.size 27 u.cells ∧ TariffIn wr wr.heap.size u) (fun i _ => u.z.length - (intOf i).toNat)
      case atStart => exact ⟨0, Nat.zero_le _, rfl, HB3.out, Htv3.out, Hin3.out⟩
      case round =>
        obtain ⟨k, hkl, rfl, hB, htv, hin⟩ := hrel
        have HB10 := Lib.hid hB; clear hB
        have Htv10 := Lib.hid htv; clear htv
        have Hin10 := Lib.hid hin; clear hin
        obtain ⟨t10_0, t10_1, t10_2, t10_3, t10_4⟩ := tariffCells (t := 27) (Htv10.out)
        by_cases hlt : k < u.z.length
        · obtain ⟨b1, o1, e1, hb1, hrw⟩ := Ints.row (Hin10.out).2.1 (by omega)
          obtain ⟨zk, hzk⟩ : ∃ zk, u.z[k]? = some zk := ⟨u.z[k], List.getElem?_eq_getElem hlt⟩
          obtain ⟨zx, hzx⟩ : ∃ zx, u.z[x]? = some zx := ⟨u.z[x]'Hx.out, List.getElem?_eq_getElem Hx.out⟩
          have Hck := Lib.hid (show CF wr b1 (o1 + k) (.int .i64 zk) from ⟨hrw k zk hzk, hb1⟩)
          have Hcx := Lib.hid (show CF wr b1 (o1 + x) (.int .i64 zx) from ⟨hrw x zx hzx, hb1⟩)
          have Hzk := Lib.hid hzk; clear hzk
          have Hzx := Lib.hid hzx; clear hzx hrw
          have i0 : (0 : Int) ≤ (k : Int) := by omega
          have i1 : (k : Int) < (u.z.length : Int) := by omega
          have i2 : (0 : Int) ≤ (x : Int) := by omega
          have i3 : (x : Int) < (u.z.length : Int) := by have := Hx.out; omega
          by_cases hz : zk = zx
          · have hz' : (zk == zx) = true := by simpa using hz
            have Hz := Lib.hid hz; clear hz
            go_wp2
            refine wp_region_held_drew (S := fun w' => (w'.cell? ⟨w0.heap.size, 0, none⟩ = some (.slice u.pA u.L.length u.pc) ∧ w'.cell? ⟨w0.heap.size, 1, none⟩ = some (.slice u.zA u.z.length u.zc) ∧ w'.cell? ⟨w0.heap.size, 2, none⟩ = some (.slice u.kA u.k.length u.kc) ∧ w'.cell? ⟨w0.heap.size, 3, none⟩ = some (.int .i64 u.e) ∧ w'.cell? ⟨w0.heap.size, 4, none⟩ = some (.int .i64 u.t)) ∧ w'.cell? ⟨b1, o1 + k, none⟩ = some (.int .i64 zk) ∧ w'.cell? ⟨b1, o1 + x, none⟩ = some (.int .i64 zx)) (by kernel_rfl) (by exact ⟨tariffCells (t := 27) (Htv10.out), (Hck.out).1, (Hcx.out).1⟩) (fun hS => ?_)
            refine take_at 0 49 (v := ?_) rfl rfl (by kernel_rfl) (by kernel_rfl) (by kernel_rfl) (fun _ _ _ h => h) (by rfl) ?_ hS ?_
            rotate_left 1
            · (intro w hSw; (try dsimp only at hSw); (try go_split_ands); go_simp; try with_reducible rfl)
            simp only [List.setIfInBounds_toArray, List.set_cons_zero, List.set_cons_succ]
            refine take_at 1 50 (v := ?_) rfl rfl (by kernel_rfl) (by kernel_rfl) (by kernel_rfl) (fun _ _ _ h => h) (by rfl) ?_ hS ?_
            rotate_left 1
            · (intro w hSw; (try dsimp only at hSw); (try go_split_ands); go_simp; try with_reducible rfl)
            simp only [List.setIfInBounds_toArray, List.set_cons_zero, List.set_cons_succ]
            refine take_at 2 51 (v := ?_) rfl rfl (by kernel_rfl) (by kernel_rfl) (by kernel_rfl) (fun _ _ _ h => h) (by rfl) ?_ hS ?_
            rotate_left 1
            · (intro w hSw; (try dsimp only at hSw); (try go_split_ands); go_simp; try with_reducible rfl)
            simp only [List.setIfInBounds_toArray, List.set_cons_zero, List.set_cons_succ]
            refine take_at 3 52 (v := ?_) rfl rfl (by kernel_rfl) (by kernel_rfl) (by kernel_rfl) (fun _ _ _ h => h) (by rfl) ?_ hS ?_
            rotate_left 1
            · (intro w hSw; (try dsimp only at hSw); (try go_split_ands); go_simp; try with_reducible rfl)
            simp only [List.setIfInBounds_toArray, List.set_cons_zero, List.set_cons_succ]
            refine take_at 4 53 (v := ?_) rfl rfl (by kernel_rfl) (by kernel_rfl) (by kernel_rfl) (fun _ _ _ h => h) (by rfl) ?_ hS ?_
            rotate_left 1
            · (intro w hSw; (try dsimp only at hSw); (try go_split_ands); go_simp; try with_reducible rfl)
            simp only [List.setIfInBounds_toArray, List.set_cons_zero, List.set_cons_succ]
            refine take_at 5 54 (v := ?_) rfl rfl (by kernel_rfl) (by kernel_rfl) (by kernel_rfl) (fun _ _ _ h => h) (by rfl) ?_ hS ?_
            rotate_left 1
            · (intro w hSw; (try dsimp only at hSw); (try go_split_ands); go_simp; try with_reducible rfl)
            simp only [List.setIfInBounds_toArray, List.set_cons_zero, List.set_cons_succ]
            refine take_at 6 55 (v := ?_) rfl rfl (by kernel_rfl) (by kernel_rfl) (by kernel_rfl) (fun _ _ _ h => h) (by rfl) ?_ hS ?_
            rotate_left 1
            · (intro w hSw; (try dsimp only at hSw); (try go_split_ands); go_simp; try with_reducible rfl)
            simp only [List.setIfInBounds_toArray, List.set_cons_zero, List.set_cons_succ]
            refine take_at 7 56 (v := ?_) rfl rfl (by kernel_rfl) (by kernel_rfl) (by kernel_rfl) (fun _ _ _ h => h) (by rfl) ?_ hS ?_
            rotate_left 1
            · (intro w hSw; (try dsimp only at hSw); (try go_split_ands); go_simp; try with_reducible rfl)
            simp only [List.setIfInBounds_toArray, List.set_cons_zero, List.set_cons_succ]
            refine take_at 8 57 (v := ?_) rfl rfl (by kernel_rfl) (by kernel_rfl) (by kernel_rfl) (fun _ _ _ h => h) (by rfl) ?_ hS ?_
            rotate_left 1
            · (intro w hSw; (try dsimp only at hSw); (try go_split_ands); go_simp; try with_reducible rfl)
            simp only [List.setIfInBounds_toArray, List.set_cons_zero, List.set_cons_succ]
            refine take_at 9 58 (v := ?_) rfl rfl (by kernel_rfl) (by kernel_rfl) (by kernel_rfl) (fun _ _ _ h => h) (by rfl) ?_ hS ?_
            rotate_left 1
            · (intro w hSw; (try dsimp only at hSw); (try go_split_ands); go_simp; try with_reducible rfl)
            simp only [List.setIfInBounds_toArray, List.set_cons_zero, List.set_cons_succ]
            refine take_at 10 59 (v := ?_) rfl rfl (by kernel_rfl) (by kernel_rfl) (by kernel_rfl) (fun _ _ _ h => h) (by rfl) ?_ hS ?_
            rotate_left 1
            · (intro w hSw; (try dsimp only at hSw); (try go_split_ands); go_simp; try with_reducible rfl)
            simp only [List.setIfInBounds_toArray, List.set_cons_zero, List.set_cons_succ]
            refine take_at 11 60 (v := ?_) rfl rfl (by kernel_rfl) (by kernel_rfl) (by kernel_rfl) (fun _ _ _ h => h) (by rfl) ?_ hS ?_
            rotate_left 1
            · (intro w hSw; (try dsimp only at hSw); (try go_split_ands); go_simp; try with_reducible rfl)
            simp only [List.setIfInBounds_toArray, List.set_cons_zero, List.set_cons_succ]
            refine take_at 12 61 (v := ?_) rfl rfl (by kernel_rfl) (by kernel_rfl) (by kernel_rfl) (fun _ _ _ h => h) (by rfl) ?_ hS ?_
            rotate_left 1
            · (intro w hSw; (try dsimp only at hSw); (try go_split_ands); go_simp; try with_reducible rfl)
            simp only [List.setIfInBounds_toArray, List.set_cons_zero, List.set_cons_succ]
            refine take_at 13 62 (v := ?_) rfl rfl (by kernel_rfl) (by kernel_rfl) (by kernel_rfl) (fun _ _ _ h => h) (by rfl) ?_ hS ?_
            rotate_left 1
            · (intro w hSw; (try dsimp only at hSw); (try go_split_ands); go_simp; try with_reducible rfl)
            simp only [List.setIfInBounds_toArray, List.set_cons_zero, List.set_cons_succ]
            refine take_at 14 63 (v := ?_) rfl rfl (by kernel_rfl) (by kernel_rfl) (by kernel_rfl) (fun _ _ _ h => h) (by rfl) ?_ hS ?_
            rotate_left 1
            · (intro w hSw; (try dsimp only at hSw); (try go_split_ands); go_simp; try with_reducible rfl)
            simp only [List.setIfInBounds_toArray, List.set_cons_zero, List.set_cons_succ]
            refine take_at 15 64 (v := ?_) rfl rfl (by kernel_rfl) (by kernel_rfl) (by kernel_rfl) (fun _ _ _ h => h) (by rfl) ?_ hS ?_
            rotate_left 1
            · (intro w hSw; (try dsimp only at hSw); (try go_split_ands); go_simp; try with_reducible rfl)
            simp only [List.setIfInBounds_toArray, List.set_cons_zero, List.set_cons_succ]
            refine take_at 17 66 (v := ?_) rfl rfl (by kernel_rfl) (by kernel_rfl) (by kernel_rfl) (fun _ _ _ h => h) (by rfl) ?_ hS ?_
            rotate_left 1
            · (intro w hSw; (try dsimp only at hSw); (try go_split_ands); go_simp; try with_reducible rfl)
            simp only [List.setIfInBounds_toArray, List.set_cons_zero, List.set_cons_succ]
            refine wpAnyH_ready (rs := [16]) (by kernel_rfl) (by simp) ?_
            refine AllReadyH.cons rfl (fun K hK => ?_) (AllReadyH.nil)
            go_simp
            have hcl := implFareOf_any u (k : Int) (y : Int) m _ (drewn Hin10.out) Hsm.out
            rw [fareOf_zone (t := u.of) (x := x) (k := k) (a := zx) Hzx.out (by rw [← Hz.out]; exact Hzk.out), ← HN.out] at hcl
            unfold tariffV at hcl
            rw [e1] at hcl
            have Hcl := Lib.hid hcl; clear hcl
            go_wp2_with fail
            refine (Hcl.out).mono ?_
            rintro e w11 ⟨rfl, hb11⟩
            have HB11 := Lib.hid (bT (bD1 HB10.out) hb11)
            clear HB10
            have Htv11 := Lib.hid (Blk.belowAll (blkDrew Htv10.out) hb11)
            clear Htv10
            have Hin11 := Lib.hid (TariffIn.over (drewn Hin10.out) hb11)
            clear Hin10
            have Hck11 := Lib.hid (CF.over (CF.drew Hck.out) hb11)
            clear Hck
            have Hcx11 := Lib.hid (CF.over (CF.drew Hcx.out) hb11)
            clear Hcx
            clear hb11
            go_simp
            refine hK.out _ _ (by exact ⟨tariffCells (t := 27) (Htv11.out), (Hck11.out).1, (Hcx11.out).1⟩) (fun hS => ?_)
            clear hK K
            refine take_at 18 67 (v := ?_) rfl rfl (by kernel_rfl) (by kernel_rfl) (by kernel_rfl) (fun _ _ _ h => h) (by rfl) ?_ hS ?_
            rotate_left 1
            · (intro w hSw; (try dsimp only at hSw); (try go_split_ands); go_simp; try with_reducible rfl)
            simp only [List.setIfInBounds_toArray, List.set_cons_zero, List.set_cons_succ]
            refine take_at 19 68 (v := ?_) rfl rfl (by kernel_rfl) (by kernel_rfl) (by kernel_rfl) (fun _ _ _ h => h) (by rfl) ?_ hS ?_
            rotate_left 1
            · (intro w hSw; (try dsimp only at hSw); (try go_split_ands); go_simp; try with_reducible rfl)
            simp only [List.setIfInBounds_toArray, List.set_cons_zero, List.set_cons_succ]
            refine wpAnyH_done (by kernel_rfl) ?_ _
            clear hS
            go_wp2
            (try rw [← e1])
            clear e1
            go_roundw
            case rel => exact ⟨k + 1, by omega, by go_num, HB11.out, Htv11.out, Hin11.out⟩
            case measure => simp [intOf]; omega
          · have hz' : (zk == zx) = false := by simpa using hz
            have Hz := Lib.hid hz; clear hz
            go_wp2
            refine wp_region_held_drew (S := fun w' => (w'.cell? ⟨w0.heap.size, 0, none⟩ = some (.slice u.pA u.L.length u.pc) ∧ w'.cell? ⟨w0.heap.size, 1, none⟩ = some (.slice u.zA u.z.length u.zc) ∧ w'.cell? ⟨w0.heap.size, 2, none⟩ = some (.slice u.kA u.k.length u.kc) ∧ w'.cell? ⟨w0.heap.size, 3, none⟩ = some (.int .i64 u.e) ∧ w'.cell? ⟨w0.heap.size, 4, none⟩ = some (.int .i64 u.t)) ∧ w'.cell? ⟨b1, o1 + k, none⟩ = some (.int .i64 zk) ∧ w'.cell? ⟨b1, o1 + x, none⟩ = some (.int .i64 zx)) (by kernel_rfl) (by exact ⟨tariffCells (t := 27) (Htv10.out), (Hck.out).1, (Hcx.out).1⟩) (fun hS => ?_)
            refine take_at 0 49 (v := ?_) rfl rfl (by kernel_rfl) (by kernel_rfl) (by kernel_rfl) (fun _ _ _ h => h) (by rfl) ?_ hS ?_
            rotate_left 1
            · (intro w hSw; (try dsimp only at hSw); (try go_split_ands); go_simp; try with_reducible rfl)
            simp only [List.setIfInBounds_toArray, List.set_cons_zero, List.set_cons_succ]
            refine take_at 1 50 (v := ?_) rfl rfl (by kernel_rfl) (by kernel_rfl) (by kernel_rfl) (fun _ _ _ h => h) (by rfl) ?_ hS ?_
            rotate_left 1
            · (intro w hSw; (try dsimp only at hSw); (try go_split_ands); go_simp; try with_reducible rfl)
            simp only [List.setIfInBounds_toArray, List.set_cons_zero, List.set_cons_succ]
            refine take_at 2 51 (v := ?_) rfl rfl (by kernel_rfl) (by kernel_rfl) (by kernel_rfl) (fun _ _ _ h => h) (by rfl) ?_ hS ?_
            rotate_left 1
            · (intro w hSw; (try dsimp only at hSw); (try go_split_ands); go_simp; try with_reducible rfl)
            simp only [List.setIfInBounds_toArray, List.set_cons_zero, List.set_cons_succ]
            refine take_at 3 52 (v := ?_) rfl rfl (by kernel_rfl) (by kernel_rfl) (by kernel_rfl) (fun _ _ _ h => h) (by rfl) ?_ hS ?_
            rotate_left 1
            · (intro w hSw; (try dsimp only at hSw); (try go_split_ands); go_simp; try with_reducible rfl)
            simp only [List.setIfInBounds_toArray, List.set_cons_zero, List.set_cons_succ]
            refine take_at 4 53 (v := ?_) rfl rfl (by kernel_rfl) (by kernel_rfl) (by kernel_rfl) (fun _ _ _ h => h) (by rfl) ?_ hS ?_
            rotate_left 1
            · (intro w hSw; (try dsimp only at hSw); (try go_split_ands); go_simp; try with_reducible rfl)
            simp only [List.setIfInBounds_toArray, List.set_cons_zero, List.set_cons_succ]
            refine take_at 5 54 (v := ?_) rfl rfl (by kernel_rfl) (by kernel_rfl) (by kernel_rfl) (fun _ _ _ h => h) (by rfl) ?_ hS ?_
            rotate_left 1
            · (intro w hSw; (try dsimp only at hSw); (try go_split_ands); go_simp; try with_reducible rfl)
            simp only [List.setIfInBounds_toArray, List.set_cons_zero, List.set_cons_succ]
            refine take_at 6 55 (v := ?_) rfl rfl (by kernel_rfl) (by kernel_rfl) (by kernel_rfl) (fun _ _ _ h => h) (by rfl) ?_ hS ?_
            rotate_left 1
            · (intro w hSw; (try dsimp only at hSw); (try go_split_ands); go_simp; try with_reducible rfl)
            simp only [List.setIfInBounds_toArray, List.set_cons_zero, List.set_cons_succ]
            refine take_at 7 56 (v := ?_) rfl rfl (by kernel_rfl) (by kernel_rfl) (by kernel_rfl) (fun _ _ _ h => h) (by rfl) ?_ hS ?_
            rotate_left 1
            · (intro w hSw; (try dsimp only at hSw); (try go_split_ands); go_simp; try with_reducible rfl)
            simp only [List.setIfInBounds_toArray, List.set_cons_zero, List.set_cons_succ]
            refine take_at 8 57 (v := ?_) rfl rfl (by kernel_rfl) (by kernel_rfl) (by kernel_rfl) (fun _ _ _ h => h) (by rfl) ?_ hS ?_
            rotate_left 1
            · (intro w hSw; (try dsimp only at hSw); (try go_split_ands); go_simp; try with_reducible rfl)
            simp only [List.setIfInBounds_toArray, List.set_cons_zero, List.set_cons_succ]
            refine take_at 9 58 (v := ?_) rfl rfl (by kernel_rfl) (by kernel_rfl) (by kernel_rfl) (fun _ _ _ h => h) (by rfl) ?_ hS ?_
            rotate_left 1
            · (intro w hSw; (try dsimp only at hSw); (try go_split_ands); go_simp; try with_reducible rfl)
            simp only [List.setIfInBounds_toArray, List.set_cons_zero, List.set_cons_succ]
            refine take_at 10 59 (v := ?_) rfl rfl (by kernel_rfl) (by kernel_rfl) (by kernel_rfl) (fun _ _ _ h => h) (by rfl) ?_ hS ?_
            rotate_left 1
            · (intro w hSw; (try dsimp only at hSw); (try go_split_ands); go_simp; try with_reducible rfl)
            simp only [List.setIfInBounds_toArray, List.set_cons_zero, List.set_cons_succ]
            refine take_at 11 60 (v := ?_) rfl rfl (by kernel_rfl) (by kernel_rfl) (by kernel_rfl) (fun _ _ _ h => h) (by rfl) ?_ hS ?_
            rotate_left 1
            · (intro w hSw; (try dsimp only at hSw); (try go_split_ands); go_simp; try with_reducible rfl)
            simp only [List.setIfInBounds_toArray, List.set_cons_zero, List.set_cons_succ]
            refine skip_at 12 61 rfl rfl (by kernel_rfl) (by kernel_rfl) (by kernel_rfl) (fun _ _ _ h => h) (by rfl) hS ?_
            simp only [List.setIfInBounds_toArray, List.set_cons_zero, List.set_cons_succ]
            refine skip_at 13 62 rfl rfl (by kernel_rfl) (by kernel_rfl) (by kernel_rfl) (fun _ _ _ h => h) (by rfl) hS ?_
            simp only [List.setIfInBounds_toArray, List.set_cons_zero, List.set_cons_succ]
            refine skip_at 14 63 rfl rfl (by kernel_rfl) (by kernel_rfl) (by kernel_rfl) (fun _ _ _ h => h) (by rfl) hS ?_
            simp only [List.setIfInBounds_toArray, List.set_cons_zero, List.set_cons_succ]
            refine skip_at 15 64 rfl rfl (by kernel_rfl) (by kernel_rfl) (by kernel_rfl) (fun _ _ _ h => h) (by rfl) hS ?_
            simp only [List.setIfInBounds_toArray, List.set_cons_zero, List.set_cons_succ]
            refine skip_at 16 65 rfl rfl (by kernel_rfl) (by kernel_rfl) (by kernel_rfl) (fun _ _ _ h => h) (by rfl) hS ?_
            simp only [List.setIfInBounds_toArray, List.set_cons_zero, List.set_cons_succ]
            refine skip_at 17 66 rfl rfl (by kernel_rfl) (by kernel_rfl) (by kernel_rfl) (fun _ _ _ h => h) (by rfl) hS ?_
            simp only [List.setIfInBounds_toArray, List.set_cons_zero, List.set_cons_succ]
            refine skip_at 18 67 rfl rfl (by kernel_rfl) (by kernel_rfl) (by kernel_rfl) (fun _ _ _ h => h) (by rfl) hS ?_
            simp only [List.setIfInBounds_toArray, List.set_cons_zero, List.set_cons_succ]
            refine take_at 19 68 (v := ?_) rfl rfl (by kernel_rfl) (by kernel_rfl) (by kernel_rfl) (fun _ _ _ h => h) (by rfl) ?_ hS ?_
            rotate_left 1
            · (intro w hSw; (try dsimp only at hSw); (try go_split_ands); go_simp; try with_reducible rfl)
            simp only [List.setIfInBounds_toArray, List.set_cons_zero, List.set_cons_succ]
            refine wpAnyH_done (by kernel_rfl) ?_ _
            clear hS
            go_wp2
            (try rw [← e1])
            clear e1
            go_roundw
            case rel => exact ⟨k + 1, by omega, by go_num, (bD1 HB10.out), (blkDrew Htv10.out), (drewn Hin10.out)⟩
            case measure => simp [intOf]; omega
        · have hk1 : decide ((k : Int) < (u.z.length : Int)) = false := by simp; omega
          go_wp2
          go_ret
          exact ⟨rfl, HB10.out⟩

set_option maxRecDepth 100000 in
theorem lifted (os : Os) (started : os.Started) (H : Type) (enc : TypeId × Value → H) :
    ReturnsInHanded {} Try.checked os 10 .any (Rows.fnFareOfZoneSpec.pre6 enc Try.prog Try.f10 Rows.fnFareOfZoneRow.domain false) (Rows.fnFareOfZoneSpec.post enc Try.prog Try.f10 false true false false) := by
  refine returnsInHanded_of_change (C := Try.checked) Cells.own started (by kernel_rfl) Try.func10
    (ChangeSpec.witness6 (enc := enc) (C := Try.checked) false ⟨#[], #[.slice none 0 0], []⟩ 8 (by kernel_rfl) (by kernel_rfl) (by kernel_rfl) (by kernel_rfl)) ?_
  intro W base args ds gs before hval0 hW _ _
  have hval : ∀ (j : Nat) t v, Try.f10.params[j]? = some t → args[j]? = some v → Value.okWide Try.prog W .any base t v := hval0
  have hW' := hW
  obtain ⟨p, q, hA0, hV, rfl, _, _⟩ := hW
  have hA : DataW.TrodAll enc Try.prog W 0 (fun _ => true) true Try.f10.params.toList args.toList ds p := hA0
  rw [Try.params10] at hA hval
  obtain ⟨v0, d0, rfl, rfl, h0⟩ := trodAll_one hA
  obtain ⟨rfl, rfl⟩ := trodVars_none hV
  obtain ⟨a0, len, cap, rfl⟩ := okWide_slice Try.underlying22 (hval 0 22 v0 rfl rfl)
  clear hA0 hval0
  simp only [List.append_nil] at hW'
  obtain ⟨hb, hargs⟩ := opened h0 (fun x hx => by simpa using hW'.lt x hx)
  refine (walk a0 len cap W hb).mono fun e W' ⟨he, hnx⟩ => ?_
  subst he
  exact ⟨_, rfl, _, _, _, [], _, [], hW', trodAll_mk1 (shut_bool Try.underlying4 _), trodAll_mk1 (hargs _ hnx), rfl, hnx.frame _, fun h => by cases h⟩

theorem closed : joinedFacts Try.prog 10 Try.f10 Rows.fnFareOfZoneSpec Rows.fnFareOfZoneRow = true := by
  unfold joinedFacts
  rw [Cells.laidOut, Cells.mapsRowed_, Cells.stops, Cells.stopKnobs, Cells.plainKeys, Cells.stopsHeard, Cells.mayEnter, Cells.liftsFinal, Cells.make]
  kernel_rfl

theorem over : Rows.fnFareOfZoneRow.holds Try.pinned (OpenSpec.ofChange Rows.fnFareOfZoneSpec) :=
  OpenClaim.holds_of_wide 10 Try.f10 rfl rfl rfl rfl rfl rfl rfl ⟨rfl, rfl, rfl, rfl, rfl⟩ rfl rfl rfl rfl rfl (by kernel_rfl) Try.func10 closed
    (of_decide_eq_true (by kernel_rfl)) (by unfold Func.isWrapper; first | (rw [if_pos (by decide +kernel)]; kernel_rfl) | (rw [if_neg (by decide +kernel)]; exact ⟨rfl, rfl⟩))
    (fun os started H enc _ => lifted os started H enc)

/-- THE STATEMENT -/
theorem proved : Rows.FnFareOfZoneSaid := over
#print axioms proved
end Go.Proofs.Ytgmphbkcblkmbaa.fnFareOfZone
