/-
  Drawn taps and a tap.
-/
import Derived.Test.YtmbgaohnnkmidaaDrawTaps
import Derived.Test.YtmbgaohnnkmidaaLiftBytes
set_option linter.unusedSimpArgs false
namespace Go.Proofs.Ytmbgaohnnkmidaa
open Go.RowKit Go.Deep
set_option linter.unusedVariables false
theorem bytes_alloc {w : World} {A : Option Addr} {n c : Nat} (h : Bytes w w.heap.size A n c) (o : Obj) : Bytes (w.alloc o) (w.alloc o).heap.size A n c := by
  obtain ⟨h1, h2, xs, h3, h4, h5⟩ := h
  exact ⟨h1, h2, xs, h3, h4, (h5.alloc (Nat.le_refl _) o).more (by simp)⟩

def DrawsAddTap (w : World) (e : Ending) (w' : World) : Prop :=
  ∃ (v : Value) (ys : List Fares.Tap) (t : Fares.Tap), e = .returned (.tuple #[v, tapV t]) ∧ OwnTaps w' w.heap.size v ys ∧ ys.length ≤ 25 ∧ (∀ t ∈ ys, tapSmall t) ∧ tapSmall t ∧ Below w.heap.size w w'
set_option maxRecDepth 100000 in
set_option maxHeartbeats 2000000 in
theorem drawAddTap_any (A : Option Addr) (n c : Nat) (w : World) (h : Bytes w w.heap.size A n c) : Calls Try.prog 27 #[.slice A n c] w (DrawsAddTap w) := by
  go_enter Try.func27, Try.ntmps27
  go_wp2_with fail
  refine (newReader_any A n c _ (bytes_alloc h _)).mono ?_
  rintro e w1 ⟨rfl, hr1, hb1, hz1⟩
  simp only [World.size_alloc] at hr1 hz1
  have HZ := Lib.hid hz1; clear hz1
  have HB1 := Lib.hid (show Below w.heap.size w w1 from bT (bA (Below.refl _ _) _) hb1)
  have Hbr1 := Lib.hid ((Blk.new w 30 #[.int .i64 0, .int .i64 0, .int .i64 0, .int .i64 0, .int .i64 0, .bool false]).below hb1 (by simp))
  clear hb1
  have hs1 := hr1.lt
  have Hr1 := Lib.hid hr1; clear hr1
  go_wp2_with fail
  refine (anyTaps_any (w.heap.size + 1) (0) _ Hr1.out (by omega)).mono ?_
  rintro e w2 ⟨v, ys, q, rfl, hown, hlen, hsm, hq, hr2, hg2⟩
  have Hsm := Lib.hid hsm; clear hsm
  have Hown2 := Lib.hid (ownBase (base' := w.heap.size + 1 + 1) hown (by omega)); clear hown
  obtain ⟨Av, cv, rfl, hcv1, hcv2, hrs⟩ := OwnTaps.form Hown2.out
  clear hrs
  unfold maxLen at hcv2
  have HB2 := Lib.hid (Below.trans HB1.out (below_of_grown hg2 (Below.size HB1.out) (by omega)))
  clear HB1
  have HR2 := Lib.hid (Blk.grown Hbr1.out hg2 (by intro e; injection e with e; omega))
  clear Hbr1
  clear hg2
  clear Hr1
  have Hrd2 := Lib.hid hr2; clear hr2
  have hgl2 : (w.heap.size + 1) < w2.heap.size := (Hrd2.out).lt
  by_cases hl0 : 0 < ys.length
  · have hl1 : (0 : Int) < (ys.length : Int) := by omega
    go_wp2_with fail
    refine (pick_any (w.heap.size + 1) (q) (6) _ Hrd2.out (by omega)).mono ?_
    rintro e w3 ⟨u, rfl, u0, u1, hr3, hg3⟩
    have u2 := u1 (by omega)
    clear u1
    have HB3 := Lib.hid (Below.trans HB2.out (below_of_grown hg3 (Below.size HB2.out) (by omega)))
    clear HB2
    have HR3 := Lib.hid (Blk.grown HR2.out hg3 (by intro e; injection e with e; omega))
    clear HR2
    have Hown3 := Lib.hid (World.ownsRow.kept Hown2.out hg3 (apart_of (fun j hj e => by have := (World.ownsRow.lt Hown2.out j hj).1; injection e with e; omega)))
    clear Hown2
    clear hg3
    clear Hrd2
    have Hrd3 := Lib.hid hr3; clear hr3
    have hgl3 : (w.heap.size + 1) < w3.heap.size := (Hrd3.out).lt
    by_cases hu : u = 0
    · subst hu
      go_wp2
      refine wp_region_held_drew (S := fun w' => True) (by kernel_rfl) (by trivial) (fun hS => ?_)
      refine take_at 0 18 (v := ?_) rfl rfl (by kernel_rfl) (by kernel_rfl) (by kernel_rfl) (fun _ _ _ h => h) (by rfl) ?_ hS ?_
      rotate_left 1
      · (intro w hSw; (try dsimp only at hSw); (try go_split_ands); go_simp; try with_reducible rfl)
      simp only [List.setIfInBounds_toArray, List.set_cons_zero, List.set_cons_succ]
      refine take_at 1 19 (v := ?_) rfl rfl (by kernel_rfl) (by kernel_rfl) (by kernel_rfl) (fun _ _ _ h => h) (by rfl) ?_ hS ?_
      rotate_left 1
      · (intro w hSw; (try dsimp only at hSw); (try go_split_ands); go_simp; try with_reducible rfl)
      simp only [List.setIfInBounds_toArray, List.set_cons_zero, List.set_cons_succ]
      refine take_at 2 20 (v := ?_) rfl rfl (by kernel_rfl) (by kernel_rfl) (by kernel_rfl) (fun _ _ _ h => h) (by rfl) ?_ hS ?_
      rotate_left 1
      · (intro w hSw; (try dsimp only at hSw); (try go_split_ands); go_simp; try with_reducible rfl)
      simp only [List.setIfInBounds_toArray, List.set_cons_zero, List.set_cons_succ]
      refine take_at 3 21 (v := ?_) rfl rfl (by kernel_rfl) (by kernel_rfl) (by kernel_rfl) (fun _ _ _ h => h) (by rfl) ?_ hS ?_
      rotate_left 1
      · (intro w hSw; (try dsimp only at hSw); (try go_split_ands); go_simp; try with_reducible rfl)
      simp only [List.setIfInBounds_toArray, List.set_cons_zero, List.set_cons_succ]
      refine take_at 4 22 (v := ?_) rfl rfl (by kernel_rfl) (by kernel_rfl) (by kernel_rfl) (fun _ _ _ h => h) (by rfl) ?_ hS ?_
      rotate_left 1
      · (intro w hSw; (try dsimp only at hSw); (try go_split_ands); go_simp; try with_reducible rfl)
      simp only [List.setIfInBounds_toArray, List.set_cons_zero, List.set_cons_succ]
      refine wpAnyH_ready (rs := [5]) (by kernel_rfl) (by simp) ?_
      refine AllReadyH.cons rfl (fun K hK => ?_) AllReadyH.nil
      go_simp
      go_wp2_with fail
      refine (pick_any (w.heap.size + 1) (q + 1) ((ys.length : Int)) _ (Rd.drew Hrd3.out) (by omega)).mono ?_
      rintro e w4 ⟨i, rfl, i0, i1, hr4, hg4⟩
      have i2 := i1 (by omega)
      clear i1
      have HB4 := Lib.hid (Below.trans (bD1 HB3.out) (below_of_grown hg4 (Below.size (bD1 HB3.out)) (by omega)))
      clear HB3
      have HR4 := Lib.hid (Blk.grown (blkDrew HR3.out) hg4 (by intro e; injection e with e; omega))
      clear HR3
      have Hown4 := Lib.hid (World.ownsRow.kept (ownDrew Hown3.out) hg4 (apart_of (fun j hj e => by have := (World.ownsRow.lt Hown3.out j hj).1; injection e with e; omega)))
      clear Hown3
      clear hg4
      clear Hrd3
      have Hrd4 := Lib.hid hr4; clear hr4
      have hgl4 : (w.heap.size + 1) < w4.heap.size := (Hrd4.out).lt
      go_simp
      refine hK.out _ _ (by trivial) (fun hS => ?_)
      clear hK K
      obtain ⟨i, rfl⟩ := Int.eq_ofNat_of_zero_le i0
      have hi : i < ys.length := by omega
      obtain ⟨gb, cgb, evgb, hbgb, hltgb, hlegb, hmxgb, hcellgb, hfreegb, htheregb⟩ := own_at tapCells 6 (fun _ => rfl) Hown4.out (show 0 < ys.length by omega)
      have Hcellgb := Lib.hid hcellgb; clear hcellgb
      have Hfreegb := Lib.hid hfreegb; clear hfreegb
      have Htheregb := Lib.hid htheregb; clear htheregb
      injection evgb with e1 e2 e3
      subst e1 e3
      clear e2 hmxgb
      obtain ⟨x, hx⟩ : ∃ x, ys[i]? = some x := ⟨_, List.getElem?_eq_getElem hi⟩
      have p0 : w4.cell? ⟨gb, i * 6, none⟩ = some (.int .i64 x.v) := Hcellgb.out i x 0 _ hx rfl
      have p1 : w4.cell? ⟨gb, i * 6 + 1, none⟩ = some (.int .i64 x.n) := Hcellgb.out i x 1 _ hx rfl
      have p2 : w4.cell? ⟨gb, i * 6 + 2, none⟩ = some (.int .i64 x.c) := Hcellgb.out i x 2 _ hx rfl
      have p3 : w4.cell? ⟨gb, i * 6 + 3, none⟩ = some (.int .i64 x.m) := Hcellgb.out i x 3 _ hx rfl
      have p4 : w4.cell? ⟨gb, i * 6 + 4, none⟩ = some (.int .i64 x.s) := Hcellgb.out i x 4 _ hx rfl
      have p5 : w4.cell? ⟨gb, i * 6 + 5, none⟩ = some (.bool x.o) := Hcellgb.out i x 5 _ hx rfl
      have Hxi := Lib.hid hx; clear hx
      have r0 := (HR4.out).cell 0
      have r1 := (HR4.out).cell 1
      have r2 := (HR4.out).cell 2
      have r3 := (HR4.out).cell 3
      have r4 := (HR4.out).cell 4
      have r5 := (HR4.out).cell 5
      have s0 := (HR4.out).free 0
      have s1 := (HR4.out).free 1
      have s2 := (HR4.out).free 2
      have s3 := (HR4.out).free 3
      have s4 := (HR4.out).free 4
      have s5 := (HR4.out).free 5
      simp at r0 r1 r2 r3 r4 r5
      refine take_at 8 2 (v := ?_) rfl rfl (by kernel_rfl) (by kernel_rfl) (by kernel_rfl) (fun _ _ _ h => h) (by rfl) ?_ hS ?_
      rotate_left 1
      · (intro w hSw; (try dsimp only at hSw); (try go_split_ands); go_simp; try with_reducible rfl)
      simp only [List.setIfInBounds_toArray, List.set_cons_zero, List.set_cons_succ]
      refine take_at 6 24 (v := ?_) rfl rfl (by kernel_rfl) (by kernel_rfl) (by kernel_rfl) (fun _ _ _ h => h) (by rfl) ?_ hS ?_
      rotate_left 1
      · (intro w hSw; (try dsimp only at hSw); (try go_split_ands); go_simp; try with_reducible rfl)
      simp only [List.setIfInBounds_toArray, List.set_cons_zero, List.set_cons_succ]
      refine wpAnyH_ready (rs := [7]) (by kernel_rfl) (by simp) ?_
      refine AllReadyH.cons rfl (fun K hK => ?_) AllReadyH.nil
      go_simp
      refine hK.out _ _ (by trivial) (fun hS => ?_)
      clear hK K
      refine wpAnyH_ready (rs := [9]) (by kernel_rfl) (by simp) ?_
      refine AllReadyH.cons rfl (fun K hK => ?_) AllReadyH.nil
      go_simp
      refine hK.out _ _ (by trivial) (fun hS => ?_)
      clear hK K
      refine wpAnyH_done (by kernel_rfl) ?_ _
      have hG9 := grown_setCells (tapCells x) w4 0 (grown_refl w4 (some w.heap.size))
      have hO9 : OwnTaps (w4.setCells w.heap.size 0 (tapCells x)) (w.heap.size + 1 + 1) (.slice (some ⟨gb, 0, none⟩) ys.length cv) ys := World.ownsRow.kept Hown4.out hG9 (apart_of (fun j hj e => by have := (World.ownsRow.lt Hown4.out j hj).1; injection e with e; omega))
      have HO9 := Lib.hid hO9; clear hO9 hG9
      have HB9 := Lib.hid (below_setCells (Nat.le_refl _) (tapCells x) w4 0 HB4.out)
      go_wp2
      exact bodyPost_ret (v := .tuple #[.slice (some ⟨gb, 0, none⟩) ys.length cv, tapV x]) (by simp [results, Try.results27, go_sem, tapV, r0, r1, r2, r3, r4, r5]) rfl ⟨_, ys, x, rfl, ownBase HO9.out (by omega), hlen, Hsm.out, Hsm.out _ (List.mem_of_getElem? Hxi.out), HB9.out⟩
    · have hu0 : (u == 0) = false := by simpa using hu
      go_wp2_with fail
      refine (anyTap_any (w.heap.size + 1) (q + 1) _ Hrd3.out (by omega)).mono ?_
      rintro e w4 ⟨t, q1, rfl, ht, hq1, hr4, hg4⟩
      have Ht := Lib.hid ht; clear ht
      have HB4 := Lib.hid (Below.trans HB3.out (below_of_grown hg4 (Below.size HB3.out) (by omega)))
      clear HB3
      have HR4 := Lib.hid (Blk.grown HR3.out hg4 (by intro e; injection e with e; omega))
      clear HR3
      have Hown4 := Lib.hid (World.ownsRow.kept Hown3.out hg4 (apart_of (fun j hj e => by have := (World.ownsRow.lt Hown3.out j hj).1; injection e with e; omega)))
      clear Hown3
      clear hg4
      clear Hrd3
      have Hrd4 := Lib.hid hr4; clear hr4
      have hgl4 : (w.heap.size + 1) < w4.heap.size := (Hrd4.out).lt
      have r0 := (HR4.out).cell 0
      have r1 := (HR4.out).cell 1
      have r2 := (HR4.out).cell 2
      have r3 := (HR4.out).cell 3
      have r4 := (HR4.out).cell 4
      have r5 := (HR4.out).cell 5
      have s0 := (HR4.out).free 0
      have s1 := (HR4.out).free 1
      have s2 := (HR4.out).free 2
      have s3 := (HR4.out).free 3
      have s4 := (HR4.out).free 4
      have s5 := (HR4.out).free 5
      simp at r0 r1 r2 r3 r4 r5
      have hG9 := grown_setCells (tapCells t) w4 0 (grown_refl w4 (some w.heap.size))
      have hO9 : OwnTaps (w4.setCells w.heap.size 0 (tapCells t)) (w.heap.size + 1 + 1) (.slice Av ys.length cv) ys := World.ownsRow.kept Hown4.out hG9 (apart_of (fun j hj e => by have := (World.ownsRow.lt Hown4.out j hj).1; injection e with e; omega))
      have HO9 := Lib.hid hO9; clear hO9 hG9
      have HB9 := Lib.hid (below_setCells (Nat.le_refl _) (tapCells t) w4 0 HB4.out)
      unfold tapV
      go_wp2
      exact bodyPost_ret (v := .tuple #[.slice Av ys.length cv, tapV t]) (by simp [results, Try.results27, go_sem, tapV, r0, r1, r2, r3, r4, r5]) rfl ⟨_, ys, t, rfl, ownBase HO9.out (by omega), hlen, Hsm.out, Ht.out, HB9.out⟩
  · have hl1 : decide ((0 : Int) < (ys.length : Int)) = false := by rw [decide_eq_false_iff_not]; omega
    go_wp2_with fail
    refine (anyTap_any (w.heap.size + 1) (q) _ Hrd2.out (by omega)).mono ?_
    rintro e w3 ⟨t, q1, rfl, ht, hq1, hr3, hg3⟩
    have Ht := Lib.hid ht; clear ht
    have HB3 := Lib.hid (Below.trans HB2.out (below_of_grown hg3 (Below.size HB2.out) (by omega)))
    clear HB2
    have HR3 := Lib.hid (Blk.grown HR2.out hg3 (by intro e; injection e with e; omega))
    clear HR2
    have Hown3 := Lib.hid (World.ownsRow.kept Hown2.out hg3 (apart_of (fun j hj e => by have := (World.ownsRow.lt Hown2.out j hj).1; injection e with e; omega)))
    clear Hown2
    clear hg3
    clear Hrd2
    have Hrd3 := Lib.hid hr3; clear hr3
    have hgl3 : (w.heap.size + 1) < w3.heap.size := (Hrd3.out).lt
    have r0 := (HR3.out).cell 0
    have r1 := (HR3.out).cell 1
    have r2 := (HR3.out).cell 2
    have r3 := (HR3.out).cell 3
    have r4 := (HR3.out).cell 4
    have r5 := (HR3.out).cell 5
    have s0 := (HR3.out).free 0
    have s1 := (HR3.out).free 1
    have s2 := (HR3.out).free 2
    have s3 := (HR3.out).free 3
    have s4 := (HR3.out).free 4
    have s5 := (HR3.out).free 5
    simp at r0 r1 r2 r3 r4 r5
    have hG9 := grown_setCells (tapCells t) w3 0 (grown_refl w3 (some w.heap.size))
    have hO9 : OwnTaps (w3.setCells w.heap.size 0 (tapCells t)) (w.heap.size + 1 + 1) (.slice Av ys.length cv) ys := World.ownsRow.kept Hown3.out hG9 (apart_of (fun j hj e => by have := (World.ownsRow.lt Hown3.out j hj).1; injection e with e; omega))
    have HO9 := Lib.hid hO9; clear hO9 hG9
    have HB9 := Lib.hid (below_setCells (Nat.le_refl _) (tapCells t) w3 0 HB3.out)
    unfold tapV
    go_wp2
    exact bodyPost_ret (v := .tuple #[.slice Av ys.length cv, tapV t]) (by simp [results, Try.results27, go_sem, tapV, r0, r1, r2, r3, r4, r5]) rfl ⟨_, ys, t, rfl, ownBase HO9.out (by omega), hlen, Hsm.out, Ht.out, HB9.out⟩
end Go.Proofs.Ytmbgaohnnkmidaa
