/-
  The arguments of chapter 13's functions, drawn.
-/
import Derived.Test.YtpdlngekeeaocabDoorDrawSum
set_option linter.unusedSimpArgs false
namespace Go.Proofs.YtpdlngekeeaocabDoor
open Go.RowKit Go.Deep
set_option linter.unusedVariables false

def DrawsSum (w : World) (r : Ending) (w' : World) : Prop := ∃ x : Fares.Sum, r = .returned (.agg #[.int .i64 x.s, .int .i64 x.a, .int .i64 x.t]) ∧ aggSmall x ∧ Below w.heap.size w w'
def DrawsStep (w : World) (r : Ending) (w' : World) : Prop := ∃ (x : Fares.Sum) (e : Fares.Event), r = .returned (.tuple #[.agg #[.int .i64 x.s, .int .i64 x.a, .int .i64 x.t], .agg #[.int .i64 e.k, .int .i64 e.a]]) ∧ aggSmall x ∧ evtSmall e ∧ Below w.heap.size w w'
theorem Bytes.alloc' {w : World} {A : Option Addr} {n c : Nat} (h : Bytes w w.heap.size A n c) (o : Obj) : Bytes (w.alloc o) (w.alloc o).heap.size A n c := by
  obtain ⟨h1, h2, xs, h3, h4, h5⟩ := h
  exact ⟨h1, h2, xs, h3, h4, (h5.alloc (Nat.le_refl _) o).more (by simp)⟩
set_option maxRecDepth 100000 in
set_option maxHeartbeats 1500000 in
theorem drawIsFinal_any (A : Option Addr) (n c : Nat) (w : World) (h : Bytes w w.heap.size A n c) : Calls Tryd.prog 17 #[.slice A n c] w (DrawsSum w) := by
  go_enter Tryd.func17, Tryd.ntmps17
  go_wp2_with fail
  generalize hW : World.alloc _ _ = W0
  have h0 : Bytes W0 W0.heap.size A n c := by rw [← hW]; exact (Bytes.alloc' h _)
  have hRR0 : Blk W0 (w.heap.size) 24 (AggR.cells (⟨0, 0, 0⟩ : Fares.Sum)) := by rw [← hW]; exact Blk.new' (by simp)
  have hc0 : Below w.heap.size w W0 := by rw [← hW]; exact bA (Below.refl _ _) _
  have hs0 : W0.heap.size = w.heap.size + 1 := by rw [← hW]; simp
  clear hW
  refine (newReader_any A n c W0 h0).mono ?_
  rintro e w1 ⟨rfl, hr1, hb1, hz1'⟩
  have hRR1 := Lib.hid (hRR0.belowAll hb1)
  have HB1 := Lib.hid (bT hc0 hb1)
  have hz1 : w.heap.size + 1 ≤ w1.heap.size := by have := hb1.size; omega
  clear hRR0 hb1 h0 hc0
  rw [hs0] at hr1
  rw [hs0]
  clear hs0 hz1'
  have Hr1 := Lib.hid hr1; clear hr1
  have hgl1 : w.heap.size + 1 < w1.heap.size := Hr1.out.lt
  go_wp2_with fail
  refine (anySum_any (w.heap.size + 1) (0) _ Hr1.out (by omega)).mono ?_
  rintro e w2 ⟨x, q, rfl, hsm, hq, hr2, hg2⟩
  have hz2 : w1.heap.size ≤ w2.heap.size := by have := hg2.size; (try simp at this); omega
  have HR2 := Lib.hid (Blk.grown hRR1.out hg2 (by intro e; injection e with e; omega))
  clear hRR1
  have HB2 := Lib.hid (Touch.below HB1.out (Touch.of_grown hg2) (fun i hi => by injection hi with hi; omega))
  clear HB1
  clear hg2
  clear Hr1
  have Hrd2 := Lib.hid hr2; clear hr2
  have hgl2 : (w.heap.size + 1) < w2.heap.size := (Hrd2.out).lt
  have Hsm := Lib.hid hsm; clear hsm
  obtain ⟨cR2_0, cR2_1, cR2_2⟩ := aggCells (t := 24) (v := (⟨0, 0, 0⟩ : Fares.Sum)) HR2.out
  have frR2_0 := (HR2.out).free 0
  have frR2_1 := (HR2.out).free 1
  have frR2_2 := (HR2.out).free 2
  go_wp2
  generalize hW : World.setCell _ _ _ = w3
  have ht3 : Touch (fun i => i = w.heap.size) w2 w3 := by rw [← hW]; exact (Touch.far (K := fun i => i = w.heap.size) (Touch.far (K := fun i => i = w.heap.size) (Touch.far (K := fun i => i = w.heap.size) (Touch.refl _ _) (p := ⟨w.heap.size, 0, none⟩) rfl _) (p := ⟨w.heap.size, 1, none⟩) rfl _) (p := ⟨w.heap.size, 2, none⟩) rfl _)
  have hbx3 : Blk w3 (w.heap.size) 24 (AggR.cells x) := by rw [← hW]; exact (Blk.put (Blk.put (Blk.put HR2.out 0 (.int .i64 x.s)) 1 (.int .i64 x.a)) 2 (.int .i64 x.t))
  clear hW
  clear cR2_0 cR2_1 cR2_2 frR2_0 frR2_1 frR2_2
  have hz3 : w2.heap.size ≤ w3.heap.size := by have := ht3.size; (try simp at this); omega
  have HB3 := Lib.hid (Touch.below HB2.out ht3 (fun i hi => by omega))
  clear HB2
  clear ht3 HR2
  have Hbx3 := Lib.hid hbx3; clear hbx3
  obtain ⟨z0, z1, z2⟩ := aggCells Hbx3.out
  exact bodyPost_ret (v := .agg #[.int .i64 x.s, .int .i64 x.a, .int .i64 x.t]) (by simp [results, Tryd.results17, go_sem, z0, z1, z2]) rfl ⟨x, rfl, Hsm.out, HB3.out⟩
set_option maxRecDepth 100000 in
set_option maxHeartbeats 1500000 in
theorem drawOwedOf_any (A : Option Addr) (n c : Nat) (w : World) (h : Bytes w w.heap.size A n c) : Calls Tryd.prog 20 #[.slice A n c] w (DrawsSum w) := by
  go_enter Tryd.func20, Tryd.ntmps20
  go_wp2_with fail
  generalize hW : World.alloc _ _ = W0
  have h0 : Bytes W0 W0.heap.size A n c := by rw [← hW]; exact (Bytes.alloc' h _)
  have hRR0 : Blk W0 (w.heap.size) 24 (AggR.cells (⟨0, 0, 0⟩ : Fares.Sum)) := by rw [← hW]; exact Blk.new' (by simp)
  have hc0 : Below w.heap.size w W0 := by rw [← hW]; exact bA (Below.refl _ _) _
  have hs0 : W0.heap.size = w.heap.size + 1 := by rw [← hW]; simp
  clear hW
  refine (newReader_any A n c W0 h0).mono ?_
  rintro e w1 ⟨rfl, hr1, hb1, hz1'⟩
  have hRR1 := Lib.hid (hRR0.belowAll hb1)
  have HB1 := Lib.hid (bT hc0 hb1)
  have hz1 : w.heap.size + 1 ≤ w1.heap.size := by have := hb1.size; omega
  clear hRR0 hb1 h0 hc0
  rw [hs0] at hr1
  rw [hs0]
  clear hs0 hz1'
  have Hr1 := Lib.hid hr1; clear hr1
  have hgl1 : w.heap.size + 1 < w1.heap.size := Hr1.out.lt
  go_wp2_with fail
  refine (anySum_any (w.heap.size + 1) (0) _ Hr1.out (by omega)).mono ?_
  rintro e w2 ⟨x, q, rfl, hsm, hq, hr2, hg2⟩
  have hz2 : w1.heap.size ≤ w2.heap.size := by have := hg2.size; (try simp at this); omega
  have HR2 := Lib.hid (Blk.grown hRR1.out hg2 (by intro e; injection e with e; omega))
  clear hRR1
  have HB2 := Lib.hid (Touch.below HB1.out (Touch.of_grown hg2) (fun i hi => by injection hi with hi; omega))
  clear HB1
  clear hg2
  clear Hr1
  have Hrd2 := Lib.hid hr2; clear hr2
  have hgl2 : (w.heap.size + 1) < w2.heap.size := (Hrd2.out).lt
  have Hsm := Lib.hid hsm; clear hsm
  obtain ⟨cR2_0, cR2_1, cR2_2⟩ := aggCells (t := 24) (v := (⟨0, 0, 0⟩ : Fares.Sum)) HR2.out
  have frR2_0 := (HR2.out).free 0
  have frR2_1 := (HR2.out).free 1
  have frR2_2 := (HR2.out).free 2
  go_wp2
  generalize hW : World.setCell _ _ _ = w3
  have ht3 : Touch (fun i => i = w.heap.size) w2 w3 := by rw [← hW]; exact (Touch.far (K := fun i => i = w.heap.size) (Touch.far (K := fun i => i = w.heap.size) (Touch.far (K := fun i => i = w.heap.size) (Touch.refl _ _) (p := ⟨w.heap.size, 0, none⟩) rfl _) (p := ⟨w.heap.size, 1, none⟩) rfl _) (p := ⟨w.heap.size, 2, none⟩) rfl _)
  have hbx3 : Blk w3 (w.heap.size) 24 (AggR.cells x) := by rw [← hW]; exact (Blk.put (Blk.put (Blk.put HR2.out 0 (.int .i64 x.s)) 1 (.int .i64 x.a)) 2 (.int .i64 x.t))
  clear hW
  clear cR2_0 cR2_1 cR2_2 frR2_0 frR2_1 frR2_2
  have hz3 : w2.heap.size ≤ w3.heap.size := by have := ht3.size; (try simp at this); omega
  have HB3 := Lib.hid (Touch.below HB2.out ht3 (fun i hi => by omega))
  clear HB2
  clear ht3 HR2
  have Hbx3 := Lib.hid hbx3; clear hbx3
  obtain ⟨z0, z1, z2⟩ := aggCells Hbx3.out
  exact bodyPost_ret (v := .agg #[.int .i64 x.s, .int .i64 x.a, .int .i64 x.t]) (by simp [results, Tryd.results20, go_sem, z0, z1, z2]) rfl ⟨x, rfl, Hsm.out, HB3.out⟩
set_option maxRecDepth 100000 in
set_option maxHeartbeats 2000000 in
theorem drawStepSum_any (A : Option Addr) (n c : Nat) (w : World) (h : Bytes w w.heap.size A n c) : Calls Tryd.prog 10 #[.slice A n c] w (DrawsStep w) := by
  go_enter Tryd.func10, Tryd.ntmps10
  go_wp2_with fail
  generalize hW : World.alloc _ _ = W0
  have h0 : Bytes W0 W0.heap.size A n c := by rw [← hW]; exact (Bytes.alloc' (Bytes.alloc' h _) _)
  have hRR0 : Blk W0 (w.heap.size) 24 (AggR.cells (⟨0, 0, 0⟩ : Fares.Sum)) := by rw [← hW]; exact (Blk.new' (by simp)).alloc _
  have hRQ0 : Blk W0 (w.heap.size + 1) 26 (EvtR.cells (⟨0, 0⟩ : Fares.Event)) := by rw [← hW]; exact Blk.new' (by simp)
  have hc0 : Below w.heap.size w W0 := by rw [← hW]; exact bA (bA (Below.refl _ _) _) _
  have hs0 : W0.heap.size = w.heap.size + 1 + 1 := by rw [← hW]; simp
  clear hW
  refine (newReader_any A n c W0 h0).mono ?_
  rintro e w1 ⟨rfl, hr1, hb1, hz1'⟩
  have hRR1 := Lib.hid (hRR0.belowAll hb1)
  have hRQ1 := Lib.hid (hRQ0.belowAll hb1)
  have HB1 := Lib.hid (bT hc0 hb1)
  have hz1 : w.heap.size + 1 + 1 ≤ w1.heap.size := by have := hb1.size; omega
  clear hRR0 hRQ0 hb1 h0 hc0
  rw [hs0] at hr1
  rw [hs0]
  clear hs0 hz1'
  have Hr1 := Lib.hid hr1; clear hr1
  have hgl1 : w.heap.size + 1 + 1 < w1.heap.size := Hr1.out.lt
  go_wp2_with fail
  refine (anySum_any (w.heap.size + 1 + 1) (0) _ Hr1.out (by omega)).mono ?_
  rintro e w2 ⟨x, q, rfl, hsm, hq, hr2, hg2⟩
  have hz2 : w1.heap.size ≤ w2.heap.size := by have := hg2.size; (try simp at this); omega
  have HR2 := Lib.hid (Blk.grown hRR1.out hg2 (by intro e; injection e with e; omega))
  clear hRR1
  have HQ2 := Lib.hid (Blk.grown hRQ1.out hg2 (by intro e; injection e with e; omega))
  clear hRQ1
  have HB2 := Lib.hid (Touch.below HB1.out (Touch.of_grown hg2) (fun i hi => by injection hi with hi; omega))
  clear HB1
  clear hg2
  clear Hr1
  have Hrd2 := Lib.hid hr2; clear hr2
  have hgl2 : (w.heap.size + 1 + 1) < w2.heap.size := (Hrd2.out).lt
  have Hsm := Lib.hid hsm; clear hsm
  go_wp2_with fail
  generalize hW : World.alloc _ _ = w3
  have hbx3 : Blk w3 w2.heap.size 24 (AggR.cells x) := by rw [← hW]; exact Blk.new' (by simp)
  have hb3 : Below w2.heap.size w2 w3 := by rw [← hW]; exact bA (Below.refl _ _) _
  have hy3 : w2.heap.size < w3.heap.size := by rw [← hW]; simp
  clear hW
  have hz3 : w2.heap.size ≤ w3.heap.size := by have := hb3.size; (try simp at this); omega
  have Hrd3 := Lib.hid (Rd.belowAll Hrd2.out hb3)
  clear Hrd2
  have HR3 := Lib.hid (Blk.belowAll HR2.out hb3)
  clear HR2
  have HQ3 := Lib.hid (Blk.belowAll HQ2.out hb3)
  clear HQ2
  have HB3 := Lib.hid (bT HB2.out hb3)
  clear HB2
  clear hb3
  have Hbx3 := Lib.hid hbx3; clear hbx3
  obtain ⟨cX3_0, cX3_1, cX3_2⟩ := aggCells (t := 24) (v := x) Hbx3.out
  go_wp2
  clear cX3_0 cX3_1 cX3_2
  refine wp_region_held_drew (S := fun w' => w'.cell? ⟨w2.heap.size, 0, none⟩ = some (.int .i64 x.s) ∧ w'.cell? ⟨w2.heap.size, 1, none⟩ = some (.int .i64 x.a) ∧ w'.cell? ⟨w2.heap.size, 2, none⟩ = some (.int .i64 x.t)) (by kernel_rfl) (by exact aggCells (t := 24) (v := x) Hbx3.out) (fun hS => ?_)
  refine take_at 0 10 (v := ?_) rfl rfl (by kernel_rfl) (by kernel_rfl) (by kernel_rfl) (fun _ _ _ h => h) (by rfl) ?_ hS ?_
  rotate_left 1
  · (intro w hSw; (try dsimp only at hSw); (try go_split_ands); go_simp; try with_reducible rfl)
  simp only [List.setIfInBounds_toArray, List.set_cons_zero, List.set_cons_succ]
  refine take_at 1 11 (v := ?_) rfl rfl (by kernel_rfl) (by kernel_rfl) (by kernel_rfl) (fun _ _ _ h => h) (by rfl) ?_ hS ?_
  rotate_left 1
  · (intro w hSw; (try dsimp only at hSw); (try go_split_ands); go_simp; try with_reducible rfl)
  simp only [List.setIfInBounds_toArray, List.set_cons_zero, List.set_cons_succ]
  refine wpAnyH_ready (rs := [2]) (by kernel_rfl) (by simp) ?_
  refine AllReadyH.cons rfl (fun K hK => ?_) (AllReadyH.nil)
  go_simp
  go_wp2_with fail
  refine (anyEvent_any (w.heap.size + 1 + 1) (q) _ (Rd.drew Hrd3.out) (by omega)).mono ?_
  rintro e w4 ⟨ev, q1, rfl, hev, hq1, hr4, hg4⟩
  have hz4 : w3.heap.size ≤ w4.heap.size := by have := hg4.size; (try simp at this); omega
  have HR4 := Lib.hid (Blk.grown (blkDrew HR3.out) hg4 (by intro e; injection e with e; omega))
  clear HR3
  have HQ4 := Lib.hid (Blk.grown (blkDrew HQ3.out) hg4 (by intro e; injection e with e; omega))
  clear HQ3
  have HB4 := Lib.hid (Touch.below (bD1 HB3.out) (Touch.of_grown hg4) (fun i hi => by injection hi with hi; omega))
  clear HB3
  have HX4 := Lib.hid (Blk.grown (blkDrew Hbx3.out) hg4 (by intro e; injection e with e; omega))
  clear Hbx3
  clear hg4
  clear Hrd3
  have Hrd4 := Lib.hid hr4; clear hr4
  have hgl4 : (w.heap.size + 1 + 1) < w4.heap.size := (Hrd4.out).lt
  have Hev := Lib.hid hev; clear hev
  obtain ⟨cR4_0, cR4_1, cR4_2⟩ := aggCells (t := 24) (v := (⟨0, 0, 0⟩ : Fares.Sum)) HR4.out
  obtain ⟨cQ4_0, cQ4_1⟩ := evtCells (t := 26) (v := (⟨0, 0⟩ : Fares.Event)) HQ4.out
  have frR4_0 := (HR4.out).free 0
  have frR4_1 := (HR4.out).free 1
  have frR4_2 := (HR4.out).free 2
  have frQ4_0 := (HQ4.out).free 0
  have frQ4_1 := (HQ4.out).free 1
  go_simp
  refine hK.out _ _ (by exact aggCells (t := 24) (v := x) HX4.out) (fun hS => ?_)
  clear hK K
  refine wpAnyH_ready (rs := [3]) (by kernel_rfl) (by simp) ?_
  refine AllReadyH.cons rfl (fun K hK => ?_) (AllReadyH.nil)
  go_simp
  generalize hW : World.setCell _ _ _ = w5
  have ht5 : Touch (fun i => i = w.heap.size) w4 w5 := by rw [← hW]; exact (Touch.far (K := fun i => i = w.heap.size) (Touch.far (K := fun i => i = w.heap.size) (Touch.far (K := fun i => i = w.heap.size) (Touch.refl _ _) (p := ⟨w.heap.size, 0, none⟩) rfl _) (p := ⟨w.heap.size, 1, none⟩) rfl _) (p := ⟨w.heap.size, 2, none⟩) rfl _)
  have hbx5 : Blk w5 (w.heap.size) 24 (AggR.cells x) := by rw [← hW]; exact (Blk.put (Blk.put (Blk.put HR4.out 0 (.int .i64 x.s)) 1 (.int .i64 x.a)) 2 (.int .i64 x.t))
  clear hW
  clear cR4_0 cR4_1 cR4_2 cQ4_0 cQ4_1 frR4_0 frR4_1 frR4_2 frQ4_0 frQ4_1
  have hz5 : w4.heap.size ≤ w5.heap.size := by have := ht5.size; (try simp at this); omega
  have HQ5 := Lib.hid (Blk.touch HQ4.out ht5 (show ¬ (w.heap.size + 1 = w.heap.size) by omega))
  clear HQ4
  have HB5 := Lib.hid (Touch.below HB4.out ht5 (fun i hi => by omega))
  clear HB4
  have HX5 := Lib.hid (Blk.touch HX4.out ht5 (show ¬ (w2.heap.size = w.heap.size) by omega))
  clear HX4
  clear ht5 HR4
  have Hbx5 := Lib.hid hbx5; clear hbx5
  obtain ⟨cR5_0, cR5_1, cR5_2⟩ := aggCells (t := 24) (v := x) Hbx5.out
  obtain ⟨cQ5_0, cQ5_1⟩ := evtCells (t := 26) (v := (⟨0, 0⟩ : Fares.Event)) HQ5.out
  have frR5_0 := (Hbx5.out).free 0
  have frR5_1 := (Hbx5.out).free 1
  have frR5_2 := (Hbx5.out).free 2
  have frQ5_0 := (HQ5.out).free 0
  have frQ5_1 := (HQ5.out).free 1
  refine hK.out _ _ (by exact aggCells (t := 24) (v := x) HX5.out) (fun hS => ?_)
  clear hK K
  refine wpAnyH_ready (rs := [4]) (by kernel_rfl) (by simp) ?_
  refine AllReadyH.cons rfl (fun K hK => ?_) (AllReadyH.nil)
  go_simp
  generalize hW : World.setCell _ _ _ = w6
  have ht6 : Touch (fun i => i = w.heap.size + 1) w5 w6 := by rw [← hW]; exact (Touch.far (K := fun i => i = w.heap.size + 1) (Touch.far (K := fun i => i = w.heap.size + 1) (Touch.refl _ _) (p := ⟨w.heap.size + 1, 0, none⟩) rfl _) (p := ⟨w.heap.size + 1, 1, none⟩) rfl _)
  have hbx6 : Blk w6 (w.heap.size + 1) 26 (EvtR.cells ev) := by rw [← hW]; exact (Blk.put (Blk.put HQ5.out 0 (.int .i64 ev.k)) 1 (.int .i64 ev.a))
  clear hW
  clear cR5_0 cR5_1 cR5_2 cQ5_0 cQ5_1 frR5_0 frR5_1 frR5_2 frQ5_0 frQ5_1
  have hz6 : w5.heap.size ≤ w6.heap.size := by have := ht6.size; (try simp at this); omega
  have HB6 := Lib.hid (Touch.below HB5.out ht6 (fun i hi => by omega))
  clear HB5
  have HX6 := Lib.hid (Blk.touch HX5.out ht6 (show ¬ (w2.heap.size = w.heap.size + 1) by omega))
  clear HX5
  have HR6 := Lib.hid (Blk.touch Hbx5.out ht6 (show ¬ (w.heap.size = w.heap.size + 1) by omega))
  clear Hbx5
  clear ht6 HQ5
  have Hbx6 := Lib.hid hbx6; clear hbx6
  refine hK.out _ _ (by exact aggCells (t := 24) (v := x) HX6.out) (fun hS => ?_)
  clear hK K
  refine wpAnyH_done (by kernel_rfl) ?_ _
  clear hS
  go_wp2
  obtain ⟨z0, z1, z2⟩ := aggCells HR6.out
  obtain ⟨y0, y1⟩ := evtCells Hbx6.out
  exact bodyPost_ret (v := .tuple #[.agg #[.int .i64 x.s, .int .i64 x.a, .int .i64 x.t], .agg #[.int .i64 ev.k, .int .i64 ev.a]]) (by simp [results, Tryd.results10, go_sem, z0, z1, z2, y0, y1]) rfl ⟨x, ev, rfl, Hsm.out, Hev.out, HB6.out⟩
end Go.Proofs.YtpdlngekeeaocabDoor
