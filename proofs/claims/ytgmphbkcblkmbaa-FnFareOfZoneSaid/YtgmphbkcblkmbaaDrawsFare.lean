/-
  A drawn tariff with stops and a minute.
-/
import Derived.Test.YtgmphbkcblkmbaaDrawsTariff
import Derived.Test.YtgmphbkcblkmbaaDrawTime
import Derived.Deep.RegionHeld
set_option linter.unusedSimpArgs false
namespace Go.Proofs.Ytgmphbkcblkmbaa
open Go.RowKit Go.Deep
set_option linter.unusedVariables false

set_option maxRecDepth 100000 in
set_option maxHeartbeats 1000000 in
theorem someStop_any (g p : Nat) (w : World) (hr : Rd w g p) (hp : p ≤ 50000) :
    Calls Try.prog 70 #[.pointer (some ⟨g, 0, none⟩)] w fun e w' => ∃ m : Int, e = .returned (.int .i64 m) ∧ -1 ≤ m ∧ m ≤ 10 ∧ Rd w' g (p + 1) ∧ w.grownBy w' (some g) := by
  have hgw := hr.lt
  have Hr0 := Lib.hid hr; clear hr
  have HG0 := Lib.hid (grown_refl w (some g))
  go_enter Try.func70, Try.ntmps70
  go_wp2_with fail
  refine (one_in g (p) _ [0, 1, 2, 3, 0, 1, 9, 10, -1, 4] (-1) 10 10 10 _ _ (Rd.alloc Hr0.out _) (by omega) (Blk.new' (by simp)) (by have := (Hr0.out).lt; (try simp); omega) rfl rfl (by omega) (by omega) (by decide)).mono ?_
  rintro e w1 ⟨x, rfl, x0, x1, hr1, hg1⟩
  have HG1 := Lib.hid (grown_trans (grown_alloc HG0.out _) hg1)
  clear HG0
  clear hg1
  clear Hr0
  have Hrd1 := Lib.hid hr1; clear hr1
  have hgl1 : g < w1.heap.size := (Hrd1.out).lt
  go_wp2
  go_ret
  exact ⟨x, rfl, x0, x1, Hrd1.out, HG1.out⟩
def DrawsFare (k : Nat) (w : World) (e : Ending) (w' : World) : Prop :=
  ∃ (u : TariffR) (f t m : Int), e = .returned (.tuple (if k = 3 then #[tariffV u, .int .i64 f, .int .i64 t, .int .i64 m] else #[tariffV u, .int .i64 f, .int .i64 t])) ∧ TariffIn w' w'.heap.size u ∧ TariffSmall u ∧ u.z.length ≤ 11 ∧ Below w.heap.size w w'
set_option maxRecDepth 100000 in
set_option maxHeartbeats 2000000 in
theorem drawFareOf_any (A : Option Addr) (n c : Nat) (w : World) (h : Bytes w w.heap.size A n c) : Calls Try.prog 30 #[.slice A n c] w (DrawsFare 3 w) := by
  go_enter Try.func30, Try.ntmps30
  go_wp2_with fail
  generalize hW : World.alloc _ _ = W0
  have h0 : Bytes W0 W0.heap.size A n c := by rw [← hW]; exact Bytes.alloc h _
  have hR0 : Blk W0 w.heap.size 27 #[.slice none 0 0, .slice none 0 0, .slice none 0 0, .int .i64 0, .int .i64 0] := by rw [← hW]; exact Blk.new w _ _
  have hc0 : Below w.heap.size w W0 := by rw [← hW]; exact bA (Below.refl _ _) _
  have hs0 : W0.heap.size = w.heap.size + 1 := by rw [← hW]; simp
  clear hW
  refine (newReader_any A n c W0 h0).mono ?_
  rintro e w1 ⟨rfl, hr1, hb1, hz1⟩
  have Hres1 := Lib.hid (hR0.belowAll hb1)
  have HB1 := Lib.hid (bT hc0 hb1)
  clear hR0 hb1 h0 hc0
  rw [hs0] at hr1
  have hlo : w.heap.size + 1 < w1.heap.size := by omega
  have Hrd1 := Lib.hid hr1; clear hr1 hz1
  go_wp2_with fail
  refine (anyTariff_any (w.heap.size + 1) (0) _ Hrd1.out (by omega)).mono ?_
  rintro e w2 ⟨u, q, rfl, htl, h1, h2, h3, h4, hq, hr2, hg2⟩
  have Htl2 := Lib.hid htl; clear htl
  have Hsm := Lib.hid (AnyTariff.small h1 h2 h3 h4); clear h2
  have HB2 := Lib.hid (Below.trans HB1.out (below_of_grown hg2 (Below.size HB1.out) (by omega)))
  clear HB1
  have Hres2 := Lib.hid (Blk.grown Hres1.out hg2 (by intro e; injection e with e; omega))
  clear Hres1
  clear hg2
  clear Hrd1
  have Hrd2 := Lib.hid hr2; clear hr2
  have hgl2 : (w.heap.size + 1) < w2.heap.size := (Hrd2.out).lt
  unfold tariffV
  have hres2 : w.heap.size < w2.heap.size := Hres2.out.lt
  have Hktv2 := Lib.hid (Blk.new' (w := w2) (t := 27) (cs := #[.slice u.pA u.L.length u.pc, .slice u.zA u.z.length u.zc, .slice u.kA u.k.length u.kc, .int .i64 u.e, .int .i64 u.t]) (b := w2.heap.size) (by (try simp)))
  go_wp2_with fail
  refine (someStop_any _ _ _ (Rd.alloc Hrd2.out _) (by omega)).mono ?_
  rintro e w3 ⟨f, rfl, fl, fh, hr3, hg3⟩
  have HB3 := Lib.hid (Below.trans (bA HB2.out _) (below_of_grown hg3 (Below.size (bA HB2.out _)) (by omega)))
  clear HB2
  have Hres3 := Lib.hid (Blk.grown (Blk.alloc Hres2.out _) hg3 (by intro e; injection e with e; omega))
  clear Hres2
  have Htl3 := Lib.hid (TariffLies.kept (TariffLies.up Htl2.out _) hg3 (.inl (by omega)))
  clear Htl2
  have Htv3 := Lib.hid (Blk.grown Hktv2.out hg3 (by intro e; injection e with e; omega))
  clear Hktv2
  clear hg3
  clear Hrd2
  have Hrd3 := Lib.hid hr3; clear hr3
  have hgl3 : (w.heap.size + 1) < w3.heap.size := (Hrd3.out).lt
  have htv3 : w2.heap.size < w3.heap.size := Htv3.out.lt
  go_wp2_with fail
  refine (someStop_any _ _ _ Hrd3.out (by omega)).mono ?_
  rintro e w4 ⟨t, rfl, tl, th, hr4, hg4⟩
  have HB4 := Lib.hid (Below.trans HB3.out (below_of_grown hg4 (Below.size HB3.out) (by omega)))
  clear HB3
  have Hres4 := Lib.hid (Blk.grown Hres3.out hg4 (by intro e; injection e with e; omega))
  clear Hres3
  have Htl4 := Lib.hid (TariffLies.kept Htl3.out hg4 (.inl (by omega)))
  clear Htl3
  have Htv4 := Lib.hid (Blk.grown Htv3.out hg4 (by intro e; injection e with e; omega))
  clear Htv3
  clear hg4
  clear Hrd3
  have Hrd4 := Lib.hid hr4; clear hr4
  have hgl4 : (w.heap.size + 1) < w4.heap.size := (Hrd4.out).lt
  have r4_0 : w4.cell? ⟨w.heap.size, 0, none⟩ = some (.slice none 0 0) := (Hres4.out).cell 0
  have g4_0 : w4.frozen? ⟨w.heap.size, 0, none⟩ = false := (Hres4.out).free 0
  have r4_1 : w4.cell? ⟨w.heap.size, 1, none⟩ = some (.slice none 0 0) := (Hres4.out).cell 1
  have g4_1 : w4.frozen? ⟨w.heap.size, 1, none⟩ = false := (Hres4.out).free 1
  have r4_2 : w4.cell? ⟨w.heap.size, 2, none⟩ = some (.slice none 0 0) := (Hres4.out).cell 2
  have g4_2 : w4.frozen? ⟨w.heap.size, 2, none⟩ = false := (Hres4.out).free 2
  have r4_3 : w4.cell? ⟨w.heap.size, 3, none⟩ = some (.int .i64 0) := (Hres4.out).cell 3
  have g4_3 : w4.frozen? ⟨w.heap.size, 3, none⟩ = false := (Hres4.out).free 3
  have r4_4 : w4.cell? ⟨w.heap.size, 4, none⟩ = some (.int .i64 0) := (Hres4.out).cell 4
  have g4_4 : w4.frozen? ⟨w.heap.size, 4, none⟩ = false := (Hres4.out).free 4
  obtain ⟨t4_0, t4_1, t4_2, t4_3, t4_4⟩ := tariffCells (t := 27) (Htv4.out)
  go_wp2
  refine wp_region_held_drew (S := fun w' => w'.cell? ⟨w2.heap.size, 0, none⟩ = some (.slice u.pA u.L.length u.pc) ∧ w'.cell? ⟨w2.heap.size, 1, none⟩ = some (.slice u.zA u.z.length u.zc) ∧ w'.cell? ⟨w2.heap.size, 2, none⟩ = some (.slice u.kA u.k.length u.kc) ∧ w'.cell? ⟨w2.heap.size, 3, none⟩ = some (.int .i64 u.e) ∧ w'.cell? ⟨w2.heap.size, 4, none⟩ = some (.int .i64 u.t)) (by kernel_rfl) (by exact tariffCells (t := 27) (Htv4.out)) (fun hS => ?_)
  refine take_at 0 18 (v := ?_) rfl rfl (by kernel_rfl) (by kernel_rfl) (by kernel_rfl) (fun _ _ _ h => h) (by rfl) ?_ hS ?_
  rotate_left 1
  · (intro w hSw; (try dsimp only at hSw); (try go_split_ands); go_simp; try with_reducible rfl)
  simp only [List.setIfInBounds_toArray, List.set_cons_zero, List.set_cons_succ]
  refine take_at 1 19 (v := ?_) rfl rfl (by kernel_rfl) (by kernel_rfl) (by kernel_rfl) (fun _ _ _ h => h) (by rfl) ?_ hS ?_
  rotate_left 1
  · (intro w hSw; (try dsimp only at hSw); (try go_split_ands); go_simp; try with_reducible rfl)
  simp only [List.setIfInBounds_toArray, List.set_cons_zero, List.set_cons_succ]
  refine take_at 2 20 (v := ?_) rfl rfl (by kernel_rfl) (by kernel_rfl) (by kernel_rfl) (fun _ _ _ h => h) (by rfl) ?_ hS ?_
  rotate_left 1
  · (intro w hSw; (try dsimp only at hSw); (try go_split_ands); go_simp; try with_reducible rfl)
  simp only [List.setIfInBounds_toArray, List.set_cons_zero, List.set_cons_succ]
  refine take_at 3 21 (v := ?_) rfl rfl (by kernel_rfl) (by kernel_rfl) (by kernel_rfl) (fun _ _ _ h => h) (by rfl) ?_ hS ?_
  rotate_left 1
  · (intro w hSw; (try dsimp only at hSw); (try go_split_ands); go_simp; try with_reducible rfl)
  simp only [List.setIfInBounds_toArray, List.set_cons_zero, List.set_cons_succ]
  refine wpAnyH_ready (rs := [4]) (by kernel_rfl) (by simp) ?_
  refine AllReadyH.cons rfl (fun K hK => ?_) (AllReadyH.nil)
  go_simp
  go_wp2_with fail
  refine (anyMinute_any _ _ _ (Rd.drew Hrd4.out) (by omega)).mono ?_
  rintro e w5 ⟨m, q2, rfl, ml, mh, hq2, hr5, hg5⟩
  have HB5 := Lib.hid (Below.trans (bD1 HB4.out) (below_of_grown hg5 (Below.size (bD1 HB4.out)) (by omega)))
  clear HB4
  have Hres5 := Lib.hid (Blk.grown (blkDrew Hres4.out) hg5 (by intro e; injection e with e; omega))
  clear Hres4
  have Htl5 := Lib.hid (TariffLies.kept (TariffLies.drewn Htl4.out) hg5 (.inl (by omega)))
  clear Htl4
  have Htv5 := Lib.hid (Blk.grown (blkDrew Htv4.out) hg5 (by intro e; injection e with e; omega))
  clear Htv4
  clear hg5
  clear Hrd4
  have Hrd5 := Lib.hid hr5; clear hr5
  have hgl5 : (w.heap.size + 1) < w5.heap.size := (Hrd5.out).lt
  clear r4_0 g4_0 t4_0 r4_1 g4_1 t4_1 r4_2 g4_2 t4_2 r4_3 g4_3 t4_3 r4_4 g4_4 t4_4
  have r5_0 : w5.cell? ⟨w.heap.size, 0, none⟩ = some (.slice none 0 0) := (Hres5.out).cell 0
  have g5_0 : w5.frozen? ⟨w.heap.size, 0, none⟩ = false := (Hres5.out).free 0
  have r5_1 : w5.cell? ⟨w.heap.size, 1, none⟩ = some (.slice none 0 0) := (Hres5.out).cell 1
  have g5_1 : w5.frozen? ⟨w.heap.size, 1, none⟩ = false := (Hres5.out).free 1
  have r5_2 : w5.cell? ⟨w.heap.size, 2, none⟩ = some (.slice none 0 0) := (Hres5.out).cell 2
  have g5_2 : w5.frozen? ⟨w.heap.size, 2, none⟩ = false := (Hres5.out).free 2
  have r5_3 : w5.cell? ⟨w.heap.size, 3, none⟩ = some (.int .i64 0) := (Hres5.out).cell 3
  have g5_3 : w5.frozen? ⟨w.heap.size, 3, none⟩ = false := (Hres5.out).free 3
  have r5_4 : w5.cell? ⟨w.heap.size, 4, none⟩ = some (.int .i64 0) := (Hres5.out).cell 4
  have g5_4 : w5.frozen? ⟨w.heap.size, 4, none⟩ = false := (Hres5.out).free 4
  obtain ⟨t5_0, t5_1, t5_2, t5_3, t5_4⟩ := tariffCells (t := 27) (Htv5.out)
  go_simp
  refine hK.out _ _ (by exact tariffCells (t := 27) (Htv5.out)) (fun hS => ?_)
  clear hK K
  refine wpAnyH_ready (rs := [5]) (by kernel_rfl) (by simp) ?_
  refine AllReadyH.cons rfl (fun K hK => ?_) (AllReadyH.nil)
  go_simp
  have hgs25 := (grown_setCell (grown_setCell (grown_setCell (grown_setCell (grown_setCell (grown_refl w5 (some w.heap.size)) (p := ⟨w.heap.size, 0, none⟩) (.inl rfl) (.slice u.pA u.L.length u.pc)) (p := ⟨w.heap.size, 1, none⟩) (.inl rfl) (.slice u.zA u.z.length u.zc)) (p := ⟨w.heap.size, 2, none⟩) (.inl rfl) (.slice u.kA u.k.length u.kc)) (p := ⟨w.heap.size, 3, none⟩) (.inl rfl) (.int .i64 u.e)) (p := ⟨w.heap.size, 4, none⟩) (.inl rfl) (.int .i64 u.t))
  have Hrz25 := Lib.hid ((Blk.put (Blk.put (Blk.put (Blk.put (Blk.put Hres5.out 0 (.slice u.pA u.L.length u.pc)) 1 (.slice u.zA u.z.length u.zc)) 2 (.slice u.kA u.k.length u.kc)) 3 (.int .i64 u.e)) 4 (.int .i64 u.t)))
  have HB25 := Lib.hid (Below.grown HB5.out hgs25 (Below.size HB5.out) (fun r hr => by injection hr with hr; omega))
  have Htl25 := Lib.hid (TariffLies.kept Htl5.out hgs25 (.inl (by omega)))
  have Htv25 := Lib.hid (Blk.grown Htv5.out hgs25 (by intro e; injection e with e; omega))
  refine hK.out _ _ (by exact tariffCells (t := 27) (Htv25.out)) (fun hS => ?_)
  clear hK K
  refine take_at 6 3 (v := ?_) rfl rfl (by kernel_rfl) (by kernel_rfl) (by kernel_rfl) (fun _ _ _ h => h) (by rfl) ?_ hS ?_
  rotate_left 1
  · (intro w hSw; (try dsimp only at hSw); (try go_split_ands); go_simp; try with_reducible rfl)
  simp only [List.setIfInBounds_toArray, List.set_cons_zero, List.set_cons_succ]
  refine take_at 7 4 (v := ?_) rfl rfl (by kernel_rfl) (by kernel_rfl) (by kernel_rfl) (fun _ _ _ h => h) (by rfl) ?_ hS ?_
  rotate_left 1
  · (intro w hSw; (try dsimp only at hSw); (try go_split_ands); go_simp; try with_reducible rfl)
  simp only [List.setIfInBounds_toArray, List.set_cons_zero, List.set_cons_succ]
  refine take_at 8 5 (v := ?_) rfl rfl (by kernel_rfl) (by kernel_rfl) (by kernel_rfl) (fun _ _ _ h => h) (by rfl) ?_ hS ?_
  rotate_left 1
  · (intro w hSw; (try dsimp only at hSw); (try go_split_ands); go_simp; try with_reducible rfl)
  simp only [List.setIfInBounds_toArray, List.set_cons_zero, List.set_cons_succ]
  refine wpAnyH_done (by kernel_rfl) ?_ _
  clear hS
  obtain ⟨Wf, hW⟩ : ∃ Wf, Wf = (((((w5.setCell ⟨w.heap.size, 0, none⟩ (.slice u.pA u.L.length u.pc)).setCell ⟨w.heap.size, 1, none⟩ (.slice u.zA u.z.length u.zc)).setCell ⟨w.heap.size, 2, none⟩ (.slice u.kA u.k.length u.kc)).setCell ⟨w.heap.size, 3, none⟩ (.int .i64 u.e)).setCell ⟨w.heap.size, 4, none⟩ (.int .i64 u.t)) := ⟨_, rfl⟩
  have hRf := Hrz25.out
  have htf := Htl25.out
  have hbf := HB25.out
  rw [← hW] at hRf htf hbf
  go_wp2
  rw [← hW]
  have zz0 : Wf.cell? ⟨w.heap.size, 0, none⟩ = some (.slice u.pA u.L.length u.pc) := hRf.cell 0
  have zz1 : Wf.cell? ⟨w.heap.size, 1, none⟩ = some (.slice u.zA u.z.length u.zc) := hRf.cell 1
  have zz2 : Wf.cell? ⟨w.heap.size, 2, none⟩ = some (.slice u.kA u.k.length u.kc) := hRf.cell 2
  have zz3 : Wf.cell? ⟨w.heap.size, 3, none⟩ = some (.int .i64 u.e) := hRf.cell 3
  have zz4 : Wf.cell? ⟨w.heap.size, 4, none⟩ = some (.int .i64 u.t) := hRf.cell 4
  clear hW
  have huv : tariffV u = .agg #[.slice u.pA u.L.length u.pc, .slice u.zA u.z.length u.zc, .slice u.kA u.k.length u.kc, .int .i64 u.e, .int .i64 u.t] := rfl
  exact bodyPost_ret (v := .tuple #[tariffV u, .int .i64 f, .int .i64 t, .int .i64 m]) (by simp [results, Try.results30, go_sem, huv, zz0, zz1, zz2, zz3, zz4]) rfl ⟨u, f, t, m, rfl, htf.tariffIn, Hsm.out, h3, hbf⟩
set_option maxRecDepth 100000 in
set_option maxHeartbeats 2000000 in
theorem drawBasePrice_any (A : Option Addr) (n c : Nat) (w : World) (h : Bytes w w.heap.size A n c) : Calls Try.prog 27 #[.slice A n c] w (DrawsFare 2 w) := by
  go_enter Try.func27, Try.ntmps27
  go_wp2_with fail
  generalize hW : World.alloc _ _ = W0
  have h0 : Bytes W0 W0.heap.size A n c := by rw [← hW]; exact Bytes.alloc h _
  have hR0 : Blk W0 w.heap.size 27 #[.slice none 0 0, .slice none 0 0, .slice none 0 0, .int .i64 0, .int .i64 0] := by rw [← hW]; exact Blk.new w _ _
  have hc0 : Below w.heap.size w W0 := by rw [← hW]; exact bA (Below.refl _ _) _
  have hs0 : W0.heap.size = w.heap.size + 1 := by rw [← hW]; simp
  clear hW
  refine (newReader_any A n c W0 h0).mono ?_
  rintro e w1 ⟨rfl, hr1, hb1, hz1⟩
  have Hres1 := Lib.hid (hR0.belowAll hb1)
  have HB1 := Lib.hid (bT hc0 hb1)
  clear hR0 hb1 h0 hc0
  rw [hs0] at hr1
  have hlo : w.heap.size + 1 < w1.heap.size := by omega
  have Hrd1 := Lib.hid hr1; clear hr1 hz1
  go_wp2_with fail
  refine (anyTariff_any (w.heap.size + 1) (0) _ Hrd1.out (by omega)).mono ?_
  rintro e w2 ⟨u, q, rfl, htl, h1, h2, h3, h4, hq, hr2, hg2⟩
  have Htl2 := Lib.hid htl; clear htl
  have Hsm := Lib.hid (AnyTariff.small h1 h2 h3 h4); clear h2
  have HB2 := Lib.hid (Below.trans HB1.out (below_of_grown hg2 (Below.size HB1.out) (by omega)))
  clear HB1
  have Hres2 := Lib.hid (Blk.grown Hres1.out hg2 (by intro e; injection e with e; omega))
  clear Hres1
  clear hg2
  clear Hrd1
  have Hrd2 := Lib.hid hr2; clear hr2
  have hgl2 : (w.heap.size + 1) < w2.heap.size := (Hrd2.out).lt
  unfold tariffV
  have hres2 : w.heap.size < w2.heap.size := Hres2.out.lt
  have Hktv2 := Lib.hid (Blk.new' (w := w2) (t := 27) (cs := #[.slice u.pA u.L.length u.pc, .slice u.zA u.z.length u.zc, .slice u.kA u.k.length u.kc, .int .i64 u.e, .int .i64 u.t]) (b := w2.heap.size) (by (try simp)))
  go_wp2_with fail
  refine (someStop_any _ _ _ (Rd.alloc Hrd2.out _) (by omega)).mono ?_
  rintro e w3 ⟨f, rfl, fl, fh, hr3, hg3⟩
  have HB3 := Lib.hid (Below.trans (bA HB2.out _) (below_of_grown hg3 (Below.size (bA HB2.out _)) (by omega)))
  clear HB2
  have Hres3 := Lib.hid (Blk.grown (Blk.alloc Hres2.out _) hg3 (by intro e; injection e with e; omega))
  clear Hres2
  have Htl3 := Lib.hid (TariffLies.kept (TariffLies.up Htl2.out _) hg3 (.inl (by omega)))
  clear Htl2
  have Htv3 := Lib.hid (Blk.grown Hktv2.out hg3 (by intro e; injection e with e; omega))
  clear Hktv2
  clear hg3
  clear Hrd2
  have Hrd3 := Lib.hid hr3; clear hr3
  have hgl3 : (w.heap.size + 1) < w3.heap.size := (Hrd3.out).lt
  have htv3 : w2.heap.size < w3.heap.size := Htv3.out.lt
  have r3_0 : w3.cell? ⟨w.heap.size, 0, none⟩ = some (.slice none 0 0) := (Hres3.out).cell 0
  have g3_0 : w3.frozen? ⟨w.heap.size, 0, none⟩ = false := (Hres3.out).free 0
  have r3_1 : w3.cell? ⟨w.heap.size, 1, none⟩ = some (.slice none 0 0) := (Hres3.out).cell 1
  have g3_1 : w3.frozen? ⟨w.heap.size, 1, none⟩ = false := (Hres3.out).free 1
  have r3_2 : w3.cell? ⟨w.heap.size, 2, none⟩ = some (.slice none 0 0) := (Hres3.out).cell 2
  have g3_2 : w3.frozen? ⟨w.heap.size, 2, none⟩ = false := (Hres3.out).free 2
  have r3_3 : w3.cell? ⟨w.heap.size, 3, none⟩ = some (.int .i64 0) := (Hres3.out).cell 3
  have g3_3 : w3.frozen? ⟨w.heap.size, 3, none⟩ = false := (Hres3.out).free 3
  have r3_4 : w3.cell? ⟨w.heap.size, 4, none⟩ = some (.int .i64 0) := (Hres3.out).cell 4
  have g3_4 : w3.frozen? ⟨w.heap.size, 4, none⟩ = false := (Hres3.out).free 4
  obtain ⟨t3_0, t3_1, t3_2, t3_3, t3_4⟩ := tariffCells (t := 27) (Htv3.out)
  go_wp2
  refine wp_region_held_drew (S := fun w' => w'.cell? ⟨w2.heap.size, 0, none⟩ = some (.slice u.pA u.L.length u.pc) ∧ w'.cell? ⟨w2.heap.size, 1, none⟩ = some (.slice u.zA u.z.length u.zc) ∧ w'.cell? ⟨w2.heap.size, 2, none⟩ = some (.slice u.kA u.k.length u.kc) ∧ w'.cell? ⟨w2.heap.size, 3, none⟩ = some (.int .i64 u.e) ∧ w'.cell? ⟨w2.heap.size, 4, none⟩ = some (.int .i64 u.t)) (by kernel_rfl) (by exact tariffCells (t := 27) (Htv3.out)) (fun hS => ?_)
  refine take_at 0 14 (v := ?_) rfl rfl (by kernel_rfl) (by kernel_rfl) (by kernel_rfl) (fun _ _ _ h => h) (by rfl) ?_ hS ?_
  rotate_left 1
  · (intro w hSw; (try dsimp only at hSw); (try go_split_ands); go_simp; try with_reducible rfl)
  simp only [List.setIfInBounds_toArray, List.set_cons_zero, List.set_cons_succ]
  refine take_at 1 15 (v := ?_) rfl rfl (by kernel_rfl) (by kernel_rfl) (by kernel_rfl) (fun _ _ _ h => h) (by rfl) ?_ hS ?_
  rotate_left 1
  · (intro w hSw; (try dsimp only at hSw); (try go_split_ands); go_simp; try with_reducible rfl)
  simp only [List.setIfInBounds_toArray, List.set_cons_zero, List.set_cons_succ]
  refine take_at 2 16 (v := ?_) rfl rfl (by kernel_rfl) (by kernel_rfl) (by kernel_rfl) (fun _ _ _ h => h) (by rfl) ?_ hS ?_
  rotate_left 1
  · (intro w hSw; (try dsimp only at hSw); (try go_split_ands); go_simp; try with_reducible rfl)
  simp only [List.setIfInBounds_toArray, List.set_cons_zero, List.set_cons_succ]
  refine wpAnyH_ready (rs := [3]) (by kernel_rfl) (by simp) ?_
  refine AllReadyH.cons rfl (fun K hK => ?_) (AllReadyH.nil)
  go_simp
  go_wp2_with fail
  refine (someStop_any _ _ _ (Rd.drew Hrd3.out) (by omega)).mono ?_
  rintro e w4 ⟨t, rfl, tl, th, hr4, hg4⟩
  have HB4 := Lib.hid (Below.trans (bD1 HB3.out) (below_of_grown hg4 (Below.size (bD1 HB3.out)) (by omega)))
  clear HB3
  have Hres4 := Lib.hid (Blk.grown (blkDrew Hres3.out) hg4 (by intro e; injection e with e; omega))
  clear Hres3
  have Htl4 := Lib.hid (TariffLies.kept (TariffLies.drewn Htl3.out) hg4 (.inl (by omega)))
  clear Htl3
  have Htv4 := Lib.hid (Blk.grown (blkDrew Htv3.out) hg4 (by intro e; injection e with e; omega))
  clear Htv3
  clear hg4
  clear Hrd3
  have Hrd4 := Lib.hid hr4; clear hr4
  have hgl4 : (w.heap.size + 1) < w4.heap.size := (Hrd4.out).lt
  clear r3_0 g3_0 t3_0 r3_1 g3_1 t3_1 r3_2 g3_2 t3_2 r3_3 g3_3 t3_3 r3_4 g3_4 t3_4
  have r4_0 : w4.cell? ⟨w.heap.size, 0, none⟩ = some (.slice none 0 0) := (Hres4.out).cell 0
  have g4_0 : w4.frozen? ⟨w.heap.size, 0, none⟩ = false := (Hres4.out).free 0
  have r4_1 : w4.cell? ⟨w.heap.size, 1, none⟩ = some (.slice none 0 0) := (Hres4.out).cell 1
  have g4_1 : w4.frozen? ⟨w.heap.size, 1, none⟩ = false := (Hres4.out).free 1
  have r4_2 : w4.cell? ⟨w.heap.size, 2, none⟩ = some (.slice none 0 0) := (Hres4.out).cell 2
  have g4_2 : w4.frozen? ⟨w.heap.size, 2, none⟩ = false := (Hres4.out).free 2
  have r4_3 : w4.cell? ⟨w.heap.size, 3, none⟩ = some (.int .i64 0) := (Hres4.out).cell 3
  have g4_3 : w4.frozen? ⟨w.heap.size, 3, none⟩ = false := (Hres4.out).free 3
  have r4_4 : w4.cell? ⟨w.heap.size, 4, none⟩ = some (.int .i64 0) := (Hres4.out).cell 4
  have g4_4 : w4.frozen? ⟨w.heap.size, 4, none⟩ = false := (Hres4.out).free 4
  obtain ⟨t4_0, t4_1, t4_2, t4_3, t4_4⟩ := tariffCells (t := 27) (Htv4.out)
  go_simp
  refine hK.out _ _ (by exact tariffCells (t := 27) (Htv4.out)) (fun hS => ?_)
  clear hK K
  refine wpAnyH_ready (rs := [4]) (by kernel_rfl) (by simp) ?_
  refine AllReadyH.cons rfl (fun K hK => ?_) (AllReadyH.nil)
  go_simp
  have hgs24 := (grown_setCell (grown_setCell (grown_setCell (grown_setCell (grown_setCell (grown_refl w4 (some w.heap.size)) (p := ⟨w.heap.size, 0, none⟩) (.inl rfl) (.slice u.pA u.L.length u.pc)) (p := ⟨w.heap.size, 1, none⟩) (.inl rfl) (.slice u.zA u.z.length u.zc)) (p := ⟨w.heap.size, 2, none⟩) (.inl rfl) (.slice u.kA u.k.length u.kc)) (p := ⟨w.heap.size, 3, none⟩) (.inl rfl) (.int .i64 u.e)) (p := ⟨w.heap.size, 4, none⟩) (.inl rfl) (.int .i64 u.t))
  have Hrz24 := Lib.hid ((Blk.put (Blk.put (Blk.put (Blk.put (Blk.put Hres4.out 0 (.slice u.pA u.L.length u.pc)) 1 (.slice u.zA u.z.length u.zc)) 2 (.slice u.kA u.k.length u.kc)) 3 (.int .i64 u.e)) 4 (.int .i64 u.t)))
  have HB24 := Lib.hid (Below.grown HB4.out hgs24 (Below.size HB4.out) (fun r hr => by injection hr with hr; omega))
  have Htl24 := Lib.hid (TariffLies.kept Htl4.out hgs24 (.inl (by omega)))
  have Htv24 := Lib.hid (Blk.grown Htv4.out hgs24 (by intro e; injection e with e; omega))
  refine hK.out _ _ (by exact tariffCells (t := 27) (Htv24.out)) (fun hS => ?_)
  clear hK K
  refine take_at 5 3 (v := ?_) rfl rfl (by kernel_rfl) (by kernel_rfl) (by kernel_rfl) (fun _ _ _ h => h) (by rfl) ?_ hS ?_
  rotate_left 1
  · (intro w hSw; (try dsimp only at hSw); (try go_split_ands); go_simp; try with_reducible rfl)
  simp only [List.setIfInBounds_toArray, List.set_cons_zero, List.set_cons_succ]
  refine take_at 6 4 (v := ?_) rfl rfl (by kernel_rfl) (by kernel_rfl) (by kernel_rfl) (fun _ _ _ h => h) (by rfl) ?_ hS ?_
  rotate_left 1
  · (intro w hSw; (try dsimp only at hSw); (try go_split_ands); go_simp; try with_reducible rfl)
  simp only [List.setIfInBounds_toArray, List.set_cons_zero, List.set_cons_succ]
  refine wpAnyH_done (by kernel_rfl) ?_ _
  clear hS
  obtain ⟨Wf, hW⟩ : ∃ Wf, Wf = (((((w4.setCell ⟨w.heap.size, 0, none⟩ (.slice u.pA u.L.length u.pc)).setCell ⟨w.heap.size, 1, none⟩ (.slice u.zA u.z.length u.zc)).setCell ⟨w.heap.size, 2, none⟩ (.slice u.kA u.k.length u.kc)).setCell ⟨w.heap.size, 3, none⟩ (.int .i64 u.e)).setCell ⟨w.heap.size, 4, none⟩ (.int .i64 u.t)) := ⟨_, rfl⟩
  have hRf := Hrz24.out
  have htf := Htl24.out
  have hbf := HB24.out
  rw [← hW] at hRf htf hbf
  go_wp2
  rw [← hW]
  have zz0 : Wf.cell? ⟨w.heap.size, 0, none⟩ = some (.slice u.pA u.L.length u.pc) := hRf.cell 0
  have zz1 : Wf.cell? ⟨w.heap.size, 1, none⟩ = some (.slice u.zA u.z.length u.zc) := hRf.cell 1
  have zz2 : Wf.cell? ⟨w.heap.size, 2, none⟩ = some (.slice u.kA u.k.length u.kc) := hRf.cell 2
  have zz3 : Wf.cell? ⟨w.heap.size, 3, none⟩ = some (.int .i64 u.e) := hRf.cell 3
  have zz4 : Wf.cell? ⟨w.heap.size, 4, none⟩ = some (.int .i64 u.t) := hRf.cell 4
  clear hW
  have huv : tariffV u = .agg #[.slice u.pA u.L.length u.pc, .slice u.zA u.z.length u.zc, .slice u.kA u.k.length u.kc, .int .i64 u.e, .int .i64 u.t] := rfl
  exact bodyPost_ret (v := .tuple #[tariffV u, .int .i64 f, .int .i64 t]) (by simp [results, Try.results27, go_sem, huv, zz0, zz1, zz2, zz3, zz4]) rfl ⟨u, f, t, 0, rfl, htf.tariffIn, Hsm.out, h3, hbf⟩
end Go.Proofs.Ytgmphbkcblkmbaa
