/-
  The arguments of IsPeak, drawn.
-/
import Derived.Test.YtfjdicjfcdnolaaDrawBand
import Derived.Test.YtfjdicjfcdnolaaLiftBytes
import Derived.IntWalk
namespace Go.Proofs.Ytfjdicjfcdnolaa
open Go.RowKit Go.Deep
set_option linter.unusedVariables false

theorem Rd.drew {w : World} {g p : Nat} (h : Rd w g p) : Rd w.drew g p := h
theorem OwnBands.base {w : World} {b b' : Nat} {v : Value} {ys : List Fares.Band} (h : OwnBands w b v ys) (hb : b' ≤ b) : OwnBands w b' v ys := by
  refine ⟨h.1, ?_⟩
  rcases h.2 with h0 | ⟨g, cap, cur, h1, h2, h3⟩
  · exact .inl h0
  · exact .inr ⟨g, cap, cur, h1, Nat.le_trans hb h2, h3⟩
theorem wrap_two {a x : Int} (h0 : 0 ≤ a) (h1 : a < 8) (h2 : -2 ≤ x) (h3 : x ≤ 20000) : -2 ≤ IntKind.i64.wrap (IntKind.i64.wrap (1440 * a) + x) ∧ IntKind.i64.wrap (IntKind.i64.wrap (1440 * a) + x) ≤ 60000 := by
  rw [IntWalk.i64_in (1440 * a) (by omega), IntWalk.i64_in (1440 * a + x) (by omega)]
  omega
def DrawsPeak (w : World) (e : Ending) (w' : World) : Prop :=
  ∃ (v : Value) (ys : List Fares.Band) (m : Int), e = .returned (.tuple #[v, .int .i64 m]) ∧ OwnBands w' w.heap.size v ys ∧ ys.length ≤ 4 ∧ (∀ b ∈ ys, bandSmall b) ∧ -2 ≤ m ∧ m ≤ 60000 ∧ Below w.heap.size w w'

set_option maxRecDepth 100000 in
set_option maxHeartbeats 4000000 in
theorem drawIsPeak_any (A : Option Addr) (n c : Nat) (w : World) (h : Bytes w w.heap.size A n c) : Calls Try.prog 19 #[.slice A n c] w (DrawsPeak w) := by
  go_enter Try.func19, Try.ntmps19
  go_wp2_with fail
  refine (newReader_any A n c w h).mono ?_
  rintro e w1 ⟨rfl, hr1, hb1, hz1⟩
  have HZ := Lib.hid hz1; clear hz1
  have hs1 : w.heap.size < w1.heap.size := hr1.lt
  go_wp2_with fail
  refine (anyBands_any w.heap.size 0 w1 hr1 (by omega)).mono ?_
  rintro e w2 ⟨v, ys, q1, rfl, hown2, hlen, hsm, hq1, hr2, hg2⟩
  have Hgt : Hid (∀ j, v.ownBlock = some j → w.heap.size < j) := fun j hj => Nat.lt_of_lt_of_le hs1 (World.ownsRow.lt hown2 j hj).1
  have hap : v.ownBlock = none ∨ v.ownBlock ≠ some w.heap.size := apart_of (fun j hj e => by have := Hgt.out j hj; injection e with e; omega)
  have Hap := Lib.hid hap; clear hap
  have Hsm := Lib.hid hsm; clear hsm
  have Hown2 := Lib.hid (OwnBands.base hown2 (Nat.le_of_lt hs1)); clear hown2
  have Hb2 := Lib.hid (hb1.trans (below_of_grown hg2 hb1.size (Nat.le_refl _))); clear hg2 hb1 hr1
  go_wp2_with fail
  refine (anyMinute_any w.heap.size q1 w2 hr2 (by omega)).mono ?_
  rintro e w3 ⟨m, q2, rfl, m0, m1, hq2, hr3, hg3⟩
  have Hown3 := Lib.hid (OwnBands.kept Hown2.out hg3 Hap.out)
  have Hb3 := Lib.hid (Hb2.out.trans (below_of_grown hg3 Hb2.out.size (Nat.le_refl _))); clear hg3 hr2
  obtain ⟨Av, cv, rfl, hc1, hc2, hrs⟩ := Hown3.out.form
  clear hrs
  by_cases hl0 : 0 < ys.length
  · have hl1 : (0 : Int) < (ys.length : Int) := by omega
    go_wp2_with fail
    refine (pick_any w.heap.size q2 3 _ hr3 (by omega)).mono ?_
    rintro e w4a ⟨a1, rfl, a10, a11, hr4a, hg4a⟩
    have a12 := a11 (by omega)
    clear a11 hr3
    have Hown4a := Lib.hid (OwnBands.kept Hown3.out hg4a Hap.out)
    have Hb4a := Lib.hid (Hb3.out.trans (below_of_grown hg4a Hb3.out.size (Nat.le_refl _))); clear hg4a
    by_cases ha : a1 = 0
    · subst ha
      go_wp2_with fail
      refine (pick_any w.heap.size (q2 + 1) (ys.length : Int) _ hr4a (by omega)).mono ?_
      rintro e w4 ⟨j1, rfl, j10, j11, hr4, hg4⟩
      have j12 := j11 (by omega)
      clear j11 hr4a
      obtain ⟨j, rfl⟩ := Int.eq_ofNat_of_zero_le j10
      have Hown4 := Lib.hid (OwnBands.kept Hown4a.out hg4 Hap.out)
      have Hb4 := Lib.hid (Hb4a.out.trans (below_of_grown hg4 Hb4a.out.size (Nat.le_refl _))); clear hg4
      have hs4 := hr4.lt
      obtain ⟨x, hxj⟩ : ∃ x, ys[j]? = some x := ⟨ys[j]'(by omega), List.getElem?_eq_getElem (by omega)⟩
      obtain ⟨_, _, es4, _, _, hrs4⟩ := Hown4.out.form
      injection es4 with es41 es42 es43
      subst es41 es43
      clear es42
      obtain ⟨b1, o1, rfl, hb1, hrow⟩ := hrs4.row hl0
      obtain ⟨p0, p1⟩ := hrow j x hxj
      have hxs := Hsm.out x (List.mem_of_getElem? hxj)
      obtain ⟨s0, s1, s2, s3⟩ := hxs
      clear hrs4 hrow hxj
      have jj : (0 : Int) ≤ (j : Int) := by omega
      have HQ := Lib.hid (BandBox.new w4 x 67)
      go_wp2
      have wl1 : IntKind.i64.wrap (x.hi - 1) = x.hi - 1 := IntWalk.i64_in _ (by omega)
      have wl2 : IntKind.i64.wrap (x.lo - 1) = x.lo - 1 := IntWalk.i64_in _ (by omega)
      refine wp_region_held_drew (S := fun w' => w'.cell? ⟨w4.heap.size, 0, none⟩ = some (.int .i64 x.lo) ∧ w'.cell? ⟨w4.heap.size, 1, none⟩ = some (.int .i64 x.hi)) (by kernel_rfl) (by exact ⟨HQ.out.2.1, HQ.out.2.2⟩) (fun hS => ?_)
      refine take_at 0 29 (v := ?_) rfl rfl (by kernel_rfl) (by kernel_rfl) (by kernel_rfl) (fun _ _ _ h => h) (by rfl) ?_ hS ?_
      rotate_left 1
      · (intro w hSw; (try dsimp only at hSw); (try go_split_ands); go_simp; try with_reducible rfl)
      simp only [List.setIfInBounds_toArray, List.set_cons_zero, List.set_cons_succ]
      refine take_at 3 32 (v := ?_) rfl rfl (by kernel_rfl) (by kernel_rfl) (by kernel_rfl) (fun _ _ _ h => h) (by rfl) ?_ hS ?_
      rotate_left 1
      · (intro w hSw; (try dsimp only at hSw); (try go_split_ands); go_simp; try with_reducible rfl)
      simp only [List.setIfInBounds_toArray, List.set_cons_zero, List.set_cons_succ]
      refine take_at 4 33 (v := ?_) rfl rfl (by kernel_rfl) (by kernel_rfl) (by kernel_rfl) (fun _ _ _ h => h) (by rfl) ?_ hS ?_
      rotate_left 1
      · (intro w hSw; (try dsimp only at hSw); (try go_split_ands); go_simp; try with_reducible rfl)
      simp only [List.setIfInBounds_toArray, List.set_cons_zero, List.set_cons_succ]
      refine take_at 5 34 (v := ?_) rfl rfl (by kernel_rfl) (by kernel_rfl) (by kernel_rfl) (fun _ _ _ h => h) (by rfl) ?_ hS ?_
      rotate_left 1
      · (intro w hSw; (try dsimp only at hSw); (try go_split_ands); go_simp; try with_reducible rfl)
      simp only [List.setIfInBounds_toArray, List.set_cons_zero, List.set_cons_succ]
      refine take_at 6 35 (v := ?_) rfl rfl (by kernel_rfl) (by kernel_rfl) (by kernel_rfl) (fun _ _ _ h => h) (by rfl) ?_ hS ?_
      rotate_left 1
      · (intro w hSw; (try dsimp only at hSw); (try go_split_ands); go_simp; try with_reducible rfl)
      simp only [List.setIfInBounds_toArray, List.set_cons_zero, List.set_cons_succ]
      refine take_at 7 36 (v := ?_) rfl rfl (by kernel_rfl) (by kernel_rfl) (by kernel_rfl) (fun _ _ _ h => h) (by rfl) ?_ hS ?_
      rotate_left 1
      · (intro w hSw; (try dsimp only at hSw); (try go_split_ands); go_simp; try with_reducible rfl)
      simp only [List.setIfInBounds_toArray, List.set_cons_zero, List.set_cons_succ]
      refine take_at 8 37 (v := ?_) rfl rfl (by kernel_rfl) (by kernel_rfl) (by kernel_rfl) (fun _ _ _ h => h) (by rfl) ?_ hS ?_
      rotate_left 1
      · (intro w hSw; (try dsimp only at hSw); (try go_split_ands); go_simp; try with_reducible rfl)
      simp only [List.setIfInBounds_toArray, List.set_cons_zero, List.set_cons_succ]
      refine take_at 9 38 (v := ?_) rfl rfl (by kernel_rfl) (by kernel_rfl) (by kernel_rfl) (fun _ _ _ h => h) (by rfl) ?_ hS ?_
      rotate_left 1
      · (intro w hSw; (try dsimp only at hSw); (try go_split_ands); go_simp; try with_reducible rfl)
      simp only [List.setIfInBounds_toArray, List.set_cons_zero, List.set_cons_succ]
      refine take_at 10 39 (v := ?_) rfl rfl (by kernel_rfl) (by kernel_rfl) (by kernel_rfl) (fun _ _ _ h => h) (by rfl) ?_ hS ?_
      rotate_left 1
      · (intro w hSw; (try dsimp only at hSw); (try go_split_ands); go_simp; try with_reducible rfl)
      simp only [List.setIfInBounds_toArray, List.set_cons_zero, List.set_cons_succ]
      refine take_at 11 40 (v := ?_) rfl rfl (by kernel_rfl) (by kernel_rfl) (by kernel_rfl) (fun _ _ _ h => h) (by rfl) ?_ hS ?_
      rotate_left 1
      · (intro w hSw; (try dsimp only at hSw); (try go_split_ands); go_simp; try with_reducible rfl)
      simp only [List.setIfInBounds_toArray, List.set_cons_zero, List.set_cons_succ]
      refine take_at 12 41 (v := ?_) rfl rfl (by kernel_rfl) (by kernel_rfl) (by kernel_rfl) (fun _ _ _ h => h) (by rfl) ?_ hS ?_
      rotate_left 1
      · (intro w hSw; (try dsimp only at hSw); (try go_split_ands); go_simp; try with_reducible rfl)
      simp only [List.setIfInBounds_toArray, List.set_cons_zero, List.set_cons_succ]
      refine take_at 13 42 (v := ?_) rfl rfl (by kernel_rfl) (by kernel_rfl) (by kernel_rfl) (fun _ _ _ h => h) (by rfl) ?_ hS ?_
      rotate_left 1
      · (intro w hSw; (try dsimp only at hSw); (try go_split_ands); go_simp; try with_reducible rfl)
      simp only [List.setIfInBounds_toArray, List.set_cons_zero, List.set_cons_succ]
      refine wpAnyH_ready (rs := [1, 14]) (by kernel_rfl) (by simp) ?_
      refine AllReadyH.cons rfl (fun K hK => ?_) (AllReadyH.cons rfl (fun K hK => ?_) AllReadyH.nil)
      · go_simp
        go_wp2_with fail
        refine (pick_any w.heap.size (q2 + 1 + 1) 8 _ (Rd.drew (hr4.alloc _)) (by omega)).mono ?_
        rintro e w5 ⟨a3, rfl, a30, a31, hr5, hg5⟩
        have a32 := a31 (by omega)
        clear a31
        have hz5 : w4.heap.size < w5.heap.size := (by have := hg5.size; simp at this; omega)
        go_simp
        refine hK.out _ _ (by exact ⟨(hg5.cell_far ⟨w4.heap.size, 0, none⟩ (by simp) (by simp; omega)).trans hS.1, (hg5.cell_far ⟨w4.heap.size, 1, none⟩ (by simp) (by simp; omega)).trans hS.2⟩) (fun hS => ?_)
        clear hK K
        refine take_at 2 31 (v := ?_) rfl rfl (by kernel_rfl) (by kernel_rfl) (by kernel_rfl) (fun _ _ _ h => h) (by rfl) ?_ hS ?_
        rotate_left 1
        · (intro w hSw; (try dsimp only at hSw); (try go_split_ands); go_simp; try with_reducible rfl)
        simp only [List.setIfInBounds_toArray, List.set_cons_zero, List.set_cons_succ]
        refine wpAnyH_ready (rs := [14]) (by kernel_rfl) (by simp) ?_
        refine AllReadyH.cons rfl (fun K hK => ?_) AllReadyH.nil
        go_simp
        refine hK.out _ _ (by exact ⟨(World.cell?_alloc_lt _ _ ⟨w4.heap.size, 0, none⟩ hz5).trans hS.1, (World.cell?_alloc_lt _ _ ⟨w4.heap.size, 1, none⟩ hz5).trans hS.2⟩) (fun hS => ?_)
        clear hK K
        refine wpAnyH_ready (rs := [15]) (by kernel_rfl) (by simp) ?_
        refine AllReadyH.cons rfl (fun K hK => ?_) AllReadyH.nil
        go_simp
        go_wp2_with fail
        refine (one_in w.heap.size (q2 + 1 + 1 + 1) w5.heap.size [x.lo, x.hi, x.hi - 1, x.lo - 1] (-2) 20000 4 4 _ _ (hr5.alloc _) (by omega) (Blk.new w5 _ _) (by have := hr5.lt; omega) rfl rfl (by omega) (by omega) (by intro y hy; simp at hy; omega)).mono ?_
        rintro e w6 ⟨x3, rfl, x30, x31, hr6, hg6⟩
        go_simp
        refine hK.out _ _ (by exact ⟨(hg6.cell_far ⟨w4.heap.size, 0, none⟩ (by simp; omega) (by simp; omega)).trans hS.1, (hg6.cell_far ⟨w4.heap.size, 1, none⟩ (by simp; omega) (by simp; omega)).trans hS.2⟩) (fun hS => ?_)
        clear hK K
        refine take_at 16 45 (v := ?_) rfl rfl (by kernel_rfl) (by kernel_rfl) (by kernel_rfl) (fun _ _ _ h => h) (by rfl) ?_ hS ?_
        rotate_left 1
        · (intro w hSw; (try dsimp only at hSw); (try go_split_ands); go_simp; try with_reducible rfl)
        simp only [List.setIfInBounds_toArray, List.set_cons_zero, List.set_cons_succ]
        refine take_at 17 6 (v := ?_) rfl rfl (by kernel_rfl) (by kernel_rfl) (by kernel_rfl) (fun _ _ _ h => h) (by rfl) ?_ hS ?_
        rotate_left 1
        · (intro w hSw; (try dsimp only at hSw); (try go_split_ands); go_simp; try with_reducible rfl)
        simp only [List.setIfInBounds_toArray, List.set_cons_zero, List.set_cons_succ]
        refine wpAnyH_done (by kernel_rfl) ?_ _
        go_wp2
        go_ret2
        have hb5 : Below w.heap.size w w5 := (bD1 (bA Hb4.out _)).trans (below_of_grown hg5 (by simp; exact Nat.le_trans Hb4.out.size (Nat.le_succ _)) (Nat.le_refl _))
        have hb6 : Below w.heap.size w w6 := (bA hb5 _).trans (below_of_grown hg6 (by simp; exact Nat.le_trans hb5.size (Nat.le_succ _)) (Nat.le_refl _))
        have h5 := OwnBands.kept (w := World.drew (w4.alloc _)) (World.ownsRow.alloc Hown4.out _) hg5 Hap.out
        have h6 := OwnBands.kept (World.ownsRow.alloc h5 _) hg6 Hap.out
        exact ⟨_, ys, IntKind.i64.wrap (IntKind.i64.wrap (1440 * a3) + x3), rfl, h6, by omega, Hsm.out, (wrap_two a30 a32 x30 x31).1, (wrap_two a30 a32 x30 x31).2, hb6⟩
      · go_simp
        refine hK.out _ _ (by exact ⟨(World.cell?_alloc_lt _ _ ⟨w4.heap.size, 0, none⟩ (by simp)).trans hS.1, (World.cell?_alloc_lt _ _ ⟨w4.heap.size, 1, none⟩ (by simp)).trans hS.2⟩) (fun hS => ?_)
        clear hK K
        refine wpAnyH_ready (rs := [1]) (by kernel_rfl) (by simp) ?_
        refine AllReadyH.cons rfl (fun K hK => ?_) AllReadyH.nil
        go_simp
        go_wp2_with fail
        refine (pick_any w.heap.size (q2 + 1 + 1) 8 _ (Rd.drew (Rd.alloc (hr4.alloc _) _)) (by omega)).mono ?_
        rintro e w5 ⟨a3, rfl, a30, a31, hr5, hg5⟩
        have a32 := a31 (by omega)
        clear a31
        have hz5 : w4.heap.size + 1 < w5.heap.size := (by have := hg5.size; simp at this; omega)
        have Hbk : Hid (Blk w5 (w4.heap.size + 1) 3 #[.int .i64 x.lo, .int .i64 x.hi, .int .i64 (x.hi - 1), .int .i64 (x.lo - 1)]) := (by have hk := Blk.new (w4.alloc (.cells #[.int .i64 x.lo, .int .i64 x.hi] 67)) 3 #[.int .i64 x.lo, .int .i64 x.hi, .int .i64 (x.hi - 1), .int .i64 (x.lo - 1)]; rw [World.size_alloc] at hk; exact Blk.grown (w := World.drew (World.alloc (w4.alloc _) _)) hk hg5 (by intro e; injection e with e; omega))
        go_simp
        refine hK.out _ _ (by exact ⟨(hg5.cell_far ⟨w4.heap.size, 0, none⟩ (by simp; try omega) (by simp; omega)).trans hS.1, (hg5.cell_far ⟨w4.heap.size, 1, none⟩ (by simp; try omega) (by simp; omega)).trans hS.2⟩) (fun hS => ?_)
        clear hK K
        refine take_at 2 31 (v := ?_) rfl rfl (by kernel_rfl) (by kernel_rfl) (by kernel_rfl) (fun _ _ _ h => h) (by rfl) ?_ hS ?_
        rotate_left 1
        · (intro w hSw; (try dsimp only at hSw); (try go_split_ands); go_simp; try with_reducible rfl)
        simp only [List.setIfInBounds_toArray, List.set_cons_zero, List.set_cons_succ]
        refine wpAnyH_ready (rs := [15]) (by kernel_rfl) (by simp) ?_
        refine AllReadyH.cons rfl (fun K hK => ?_) AllReadyH.nil
        go_simp
        go_wp2_with fail
        refine (one_in w.heap.size (q2 + 1 + 1 + 1) (w4.heap.size + 1) [x.lo, x.hi, x.hi - 1, x.lo - 1] (-2) 20000 4 4 _ _ hr5 (by omega) Hbk.out (by omega) rfl rfl (by omega) (by omega) (by intro y hy; simp at hy; omega)).mono ?_
        rintro e w6 ⟨x3, rfl, x30, x31, hr6, hg6⟩
        go_simp
        refine hK.out _ _ (by exact ⟨(hg6.cell_far ⟨w4.heap.size, 0, none⟩ (by show w4.heap.size < w5.heap.size; omega) (by simp; omega)).trans hS.1, (hg6.cell_far ⟨w4.heap.size, 1, none⟩ (by show w4.heap.size < w5.heap.size; omega) (by simp; omega)).trans hS.2⟩) (fun hS => ?_)
        clear hK K
        refine take_at 16 45 (v := ?_) rfl rfl (by kernel_rfl) (by kernel_rfl) (by kernel_rfl) (fun _ _ _ h => h) (by rfl) ?_ hS ?_
        rotate_left 1
        · (intro w hSw; (try dsimp only at hSw); (try go_split_ands); go_simp; try with_reducible rfl)
        simp only [List.setIfInBounds_toArray, List.set_cons_zero, List.set_cons_succ]
        refine take_at 17 6 (v := ?_) rfl rfl (by kernel_rfl) (by kernel_rfl) (by kernel_rfl) (fun _ _ _ h => h) (by rfl) ?_ hS ?_
        rotate_left 1
        · (intro w hSw; (try dsimp only at hSw); (try go_split_ands); go_simp; try with_reducible rfl)
        simp only [List.setIfInBounds_toArray, List.set_cons_zero, List.set_cons_succ]
        refine wpAnyH_done (by kernel_rfl) ?_ _
        go_wp2
        go_ret2
        have hb5 : Below w.heap.size w w5 := (bD1 (bA (bA Hb4.out _) _)).trans (below_of_grown hg5 (by simp; have := Hb4.out.size; omega) (Nat.le_refl _))
        have hb6 : Below w.heap.size w w6 := hb5.trans (below_of_grown hg6 hb5.size (Nat.le_refl _))
        have h5 := OwnBands.kept (w := World.drew (World.alloc (w4.alloc _) _)) (World.ownsRow.alloc (World.ownsRow.alloc Hown4.out _) _) hg5 Hap.out
        have h6 := OwnBands.kept h5 hg6 Hap.out
        exact ⟨_, ys, IntKind.i64.wrap (IntKind.i64.wrap (1440 * a3) + x3), rfl, h6, by omega, Hsm.out, (wrap_two a30 a32 x30 x31).1, (wrap_two a30 a32 x30 x31).2, hb6⟩
    · have ha' : (a1 == 0) = false := by simpa using ha
      go_wp2
      go_ret2
      exact ⟨_, ys, m, rfl, Hown4a.out, hlen, Hsm.out, by omega, by omega, Hb4a.out⟩
  · have hl1 : decide ((0 : Int) < (ys.length : Int)) = false := by rw [decide_eq_false_iff_not]; omega
    have Hlen := Lib.hid hlen
    have Hm := Lib.hid (show -2 ≤ m ∧ m ≤ 60000 by omega)
    go_wp2
    go_ret2
    exact ⟨_, ys, m, rfl, Hown3.out, Hlen.out, Hsm.out, Hm.out.1, Hm.out.2, Hb3.out⟩
end Go.Proofs.Ytfjdicjfcdnolaa
