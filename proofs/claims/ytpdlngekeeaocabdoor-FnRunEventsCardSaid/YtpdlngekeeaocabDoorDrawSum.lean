/-
  Drawn events and aggregates.
-/
import Derived.Test.YtpdlngekeeaocabDoorAggBox
import Derived.Test.YtpdlngekeeaocabDoorReg
import Derived.Deep.RegionHeld3
import Derived.Test.YtpdlngekeeaocabDoorDrawKit
import Derived.Test.YtpdlngekeeaocabDoorLiftBytes
set_option linter.unusedSimpArgs false
namespace Go.Proofs.YtpdlngekeeaocabDoor
open Go.RowKit Go.Deep
set_option linter.unusedVariables false

def evtSmall (e : Fares.Event) : Prop := 0 ≤ e.k ∧ e.k ≤ 7 ∧ -1 ≤ e.a ∧ e.a ≤ 100000
def aggSmall (x : Fares.Sum) : Prop := -1 ≤ x.s ∧ x.s ≤ 6 ∧ -1 ≤ x.a ∧ x.a ≤ 100001 ∧ -1 ≤ x.t ∧ x.t ≤ 5
def SomeEvent (g p : Nat) (w : World) (r : Ending) (w' : World) : Prop :=
  ∃ (e : Fares.Event) (q : Nat), r = .returned (.agg #[.int .i64 e.k, .int .i64 e.a]) ∧ evtSmall e ∧ q ≤ p + 2 ∧ Rd w' g q ∧ w.grownBy w' (some g)
def SomeSum (g p : Nat) (w : World) (r : Ending) (w' : World) : Prop :=
  ∃ (x : Fares.Sum) (q : Nat), r = .returned (.agg #[.int .i64 x.s, .int .i64 x.a, .int .i64 x.t]) ∧ aggSmall x ∧ q ≤ p + 40 ∧ Rd w' g q ∧ w.grownBy w' (some g)
theorem aggSmall_of {x : Fares.Sum} (h : Fares.validSum x = true) : aggSmall x := by
  have := Fares.valid_iff.1 h
  unfold aggSmall
  omega
set_option maxRecDepth 100000 in
set_option maxHeartbeats 2000000 in
theorem anyEvent_any (g p : Nat) (w : World) (hr : Rd w g p) (hp : p ≤ 60000) :
    Calls Tryd.prog 25 #[.pointer (some ⟨g, 0, none⟩)] w (SomeEvent g p w) := by
  have hgw := hr.lt
  have Hr0 := Lib.hid hr; clear hr
  go_enter Tryd.func25, Tryd.ntmps25
  go_wp2_with fail
  generalize hW : World.alloc _ _ = w1
  have hr1 : Blk w1 w.heap.size 26 (EvtR.cells ⟨0, 0⟩) := by rw [← hW]; exact (Blk.new w _ _).alloc _
  have hN : Blk w1 (w.heap.size + 1) 3 #[.int .i64 1, .int .i64 2, .int .i64 3, .int .i64 4, .int .i64 5, .int .i64 6, .int .i64 3, .int .i64 5, .int .i64 0, .int .i64 7] := by rw [← hW]; exact Blk.new' (by simp)
  have HG1 : Hid (w.grownBy w1 (some g)) := Lib.hid (by rw [← hW]; exact grown_alloc (grown_alloc (grown_refl _ _) _) _)
  have Hrd1 : Hid (Rd w1 g p) := Lib.hid (by rw [← hW]; exact Rd.alloc (Rd.alloc Hr0.out _) _)
  have hz1 : w.heap.size + 1 < w1.heap.size := by rw [← hW]; simp
  clear hW Hr0
  have Hbr1 := Lib.hid hr1; clear hr1
  refine (one_in g (p) _ [1, 2, 3, 4, 5, 6, 3, 5, 0, 7] 0 7 10 10 _ _ Hrd1.out (by omega) hN (by omega) rfl rfl (by omega) (by omega) (by decide)).mono ?_
  rintro e w2 ⟨k, rfl, k0, k1, hr2, hg2⟩
  have hz2 : w1.heap.size ≤ w2.heap.size := by have := hg2.size; (try simp at this); omega
  have HG2 := Lib.hid (grown_trans HG1.out hg2)
  clear HG1
  have HR2 := Lib.hid (Blk.grown Hbr1.out hg2 (by intro e; injection e with e; omega))
  clear Hbr1
  clear hg2
  clear Hrd1
  have Hrd2 := Lib.hid hr2; clear hr2
  have hgl2 : g < w2.heap.size := (Hrd2.out).lt
  clear hN
  go_wp2_with fail
  generalize hW : World.alloc _ _ = w3
  have hN : Blk w3 w2.heap.size 3 #[.int .i64 200, .int .i64 300, .int .i64 0, .int .i64 100000, .int .i64 (-1)] := by rw [← hW]; exact Blk.new' (by simp)
  have hb3 : Below w2.heap.size w2 w3 := by rw [← hW]; exact bA (Below.refl _ _) _
  have hy3 : w2.heap.size < w3.heap.size := by rw [← hW]; simp
  clear hW
  have hz3 : w2.heap.size ≤ w3.heap.size := by have := hb3.size; (try simp at this); omega
  have HG3 := Lib.hid (grown_trans HG2.out (grown_of_below hb3 _))
  clear HG2
  have Hrd3 := Lib.hid (Rd.belowAll Hrd2.out hb3)
  clear Hrd2
  have HR3 := Lib.hid (Blk.belowAll HR2.out hb3)
  clear HR2
  clear hb3
  refine (one_in g (p + 1) _ [200, 300, 0, 100000, -1] (-1) 100000 5 5 _ _ Hrd3.out (by omega) hN (by omega) rfl rfl (by omega) (by omega) (by decide)).mono ?_
  rintro e w4 ⟨a, rfl, a0, a1, hr4, hg4⟩
  have hz4 : w3.heap.size ≤ w4.heap.size := by have := hg4.size; (try simp at this); omega
  have HG4 := Lib.hid (grown_trans HG3.out hg4)
  clear HG3
  have HR4 := Lib.hid (Blk.grown HR3.out hg4 (by intro e; injection e with e; omega))
  clear HR3
  clear hg4
  clear Hrd3
  have Hrd4 := Lib.hid hr4; clear hr4
  have hgl4 : g < w4.heap.size := (Hrd4.out).lt
  clear hN
  obtain ⟨cR4_0, cR4_1⟩ := evtCells (t := 26) (v := (⟨0, 0⟩ : Fares.Event)) HR4.out
  have frR4_0 := (HR4.out).free 0
  have frR4_1 := (HR4.out).free 1
  go_wp2
  generalize hW : World.setCell _ _ _ = w5
  have ht5 : Touch (fun i => i = w.heap.size) w4 w5 := by rw [← hW]; exact (Touch.far (K := fun i => i = w.heap.size) (Touch.far (K := fun i => i = w.heap.size) (Touch.refl _ _) (p := ⟨w.heap.size, 0, none⟩) rfl _) (p := ⟨w.heap.size, 1, none⟩) rfl _)
  have hbx5 : Blk w5 (w.heap.size) 26 (EvtR.cells (⟨k, a⟩ : Fares.Event)) := by rw [← hW]; exact (Blk.put (Blk.put HR4.out 0 (.int .i64 k)) 1 (.int .i64 a))
  clear hW
  clear cR4_0 cR4_1 frR4_0 frR4_1
  have hz5 : w4.heap.size ≤ w5.heap.size := by have := ht5.size; (try simp at this); omega
  have HG5 := Lib.hid (grown_touch HG4.out ht5 (fun i hi => by omega))
  clear HG4
  have Hrd5 := Lib.hid (Rd.touch Hrd4.out ht5 (fun i hi => by omega))
  clear Hrd4
  clear ht5 HR4
  have Hbx5 := Lib.hid hbx5; clear hbx5
  obtain ⟨z0, z1⟩ := evtCells Hbx5.out
  dsimp only at z0 z1
  exact bodyPost_ret (v := .agg #[.int .i64 k, .int .i64 a]) (by simp [results, Tryd.results25, go_sem, z0, z1]) rfl ⟨⟨k, a⟩, p + 1 + 1, rfl, ⟨k0, k1, a0, a1⟩, by omega, Hrd5.out, HG5.out⟩
set_option maxRecDepth 100000 in
set_option maxHeartbeats 4000000 in
theorem anySum_any (g p : Nat) (w : World) (hr : Rd w g p) (hp : p ≤ 50000) :
    Calls Tryd.prog 24 #[.pointer (some ⟨g, 0, none⟩)] w (SomeSum g p w) := by
  have hgw := hr.lt
  have Hr0 := Lib.hid hr; clear hr
  go_enter Tryd.func24, Tryd.ntmps24
  go_wp2_with fail
  generalize hW : World.alloc _ _ = w1
  have hr1 : Blk w1 w.heap.size 24 (AggR.cells (⟨0, 0, 0⟩ : Fares.Sum)) := by rw [← hW]; exact ((Blk.new w _ _).alloc _).alloc _
  have hx1 : Blk w1 (w.heap.size + 1) 24 (AggR.cells (⟨0, 0, 0⟩ : Fares.Sum)) := by rw [← hW]; exact (Blk.new' (by simp)).alloc _
  have hN : Blk w1 (w.heap.size + 1 + 1) 3 #[.int .i64 3, .int .i64 5, .int .i64 2, .int .i64 8, .int .i64 0, .int .i64 12] := by rw [← hW]; exact Blk.new' (by simp)
  have HG1 : Hid (w.grownBy w1 (some g)) := Lib.hid (by rw [← hW]; exact grown_alloc (grown_alloc (grown_alloc (grown_refl _ _) _) _) _)
  have Hrd1 : Hid (Rd w1 g p) := Lib.hid (by rw [← hW]; exact Rd.alloc (Rd.alloc (Rd.alloc Hr0.out _) _) _)
  have hz1 : w.heap.size + 1 + 1 < w1.heap.size := by rw [← hW]; simp
  clear hW Hr0
  have Hbr1 := Lib.hid hr1; clear hr1
  have Hbx1 := Lib.hid hx1; clear hx1
  refine (one_in g (p) _ [3, 5, 2, 8, 0, 12] 0 12 6 6 _ _ Hrd1.out (by omega) hN (by omega) rfl rfl (by omega) (by omega) (by decide)).mono ?_
  rintro e w2 ⟨nn, rfl, nn0, nn1, hr2, hg2⟩
  have hz2 : w1.heap.size ≤ w2.heap.size := by have := hg2.size; (try simp at this); omega
  have HG2 := Lib.hid (grown_trans HG1.out hg2)
  clear HG1
  have HR2 := Lib.hid (Blk.grown Hbr1.out hg2 (by intro e; injection e with e; omega))
  clear Hbr1
  have HX2 := Lib.hid (Blk.grown Hbx1.out hg2 (by intro e; injection e with e; omega))
  clear Hbx1
  clear hg2
  clear Hrd1
  have Hrd2 := Lib.hid hr2; clear hr2
  have hgl2 : g < w2.heap.size := (Hrd2.out).lt
  clear hN
  obtain ⟨nk, rfl⟩ := Int.eq_ofNat_of_zero_le nn0
  go_wp2
  go_loopw [4] (fun i wr => ∃ (k : Nat) (x : Fares.Sum) (q : Nat), i = .int .i64 k ∧ q + 2 * k ≤ p + 25 ∧ Blk wr (w.heap.size + 1) 24 (AggR.cells x) ∧ Blk wr w.heap.size 24 (AggR.cells (⟨0, 0, 0⟩ : Fares.Sum)) ∧ Hid (Fares.validSum x = true) ∧ Rd wr g q ∧ w.grownBy wr (some g) ∧ w.heap.size + 1 < wr.heap.size) (fun i _ => (intOf i).toNat)
  case atStart => exact ⟨nk, (⟨0, 0, 0⟩ : Fares.Sum), p + 1, rfl, by omega, HX2.out, HR2.out, Lib.hid rfl, Hrd2.out, HG2.out, by omega⟩
  case round =>
    obtain ⟨k, x, q, rfl, hqk, hX, hR, Hv, hrd, hG, hzr⟩ := hrel
    have HX := Lib.hid hX; clear hX
    have HR := Lib.hid hR; clear hR
    have Hrd := Lib.hid hrd; clear hrd
    have HG := Lib.hid hG; clear hG
    have hz20 := hzr
    by_cases hk0 : 0 < k
    · have hk1 : (0 : Int) < (k : Int) := by omega
      obtain ⟨k', rfl⟩ : ∃ k', k = k' + 1 := ⟨k - 1, by omega⟩
      go_wp2
      refine wp_region_held_drew (S := fun w' => w'.cell? ⟨w.heap.size + 1, 0, none⟩ = some (.int .i64 x.s) ∧ w'.cell? ⟨w.heap.size + 1, 1, none⟩ = some (.int .i64 x.a) ∧ w'.cell? ⟨w.heap.size + 1, 2, none⟩ = some (.int .i64 x.t)) (by kernel_rfl) (by exact aggCells (t := 24) (v := x) HX.out) (fun hS => ?_)
      refine take_at 0 16 (v := ?_) rfl rfl (by kernel_rfl) (by kernel_rfl) (by kernel_rfl) (fun _ _ _ h => h) (by rfl) ?_ hS ?_
      rotate_left 1
      · (intro w hSw; (try dsimp only at hSw); (try go_split_ands); go_simp; try with_reducible rfl)
      simp only [List.setIfInBounds_toArray, List.set_cons_zero, List.set_cons_succ]
      refine take_at 1 17 (v := ?_) rfl rfl (by kernel_rfl) (by kernel_rfl) (by kernel_rfl) (fun _ _ _ h => h) (by rfl) ?_ hS ?_
      rotate_left 1
      · (intro w hSw; (try dsimp only at hSw); (try go_split_ands); go_simp; try with_reducible rfl)
      simp only [List.setIfInBounds_toArray, List.set_cons_zero, List.set_cons_succ]
      refine wpAnyH_ready (rs := [2, 7]) (by kernel_rfl) (by simp) ?_
      refine AllReadyH.cons rfl (fun K hK => ?_) (AllReadyH.cons rfl (fun K hK => ?_) (AllReadyH.nil))
      · go_simp
        go_wp2_with fail
        refine (anyEvent_any g (q) _ (Rd.drew Hrd.out) (by omega)).mono ?_
        rintro e w21 ⟨ev, q1, rfl, hev, hq1, hr21, hg21⟩
        have hz21 : wr.heap.size ≤ w21.heap.size := by have := hg21.size; (try simp at this); omega
        have HG21 := Lib.hid (grown_trans (grownDrew HG.out) hg21)
        clear HG
        have HR21 := Lib.hid (Blk.grown (blkDrew HR.out) hg21 (by intro e; injection e with e; omega))
        clear HR
        have HX21 := Lib.hid (Blk.grown (blkDrew HX.out) hg21 (by intro e; injection e with e; omega))
        clear HX
        clear hg21
        clear Hrd
        have Hrd21 := Lib.hid hr21; clear hr21
        have hgl21 : g < w21.heap.size := (Hrd21.out).lt
        obtain ⟨P, hP⟩ : ∃ P, P = Fares.step x ev := ⟨_, rfl⟩
        have HP := Lib.hid hP; clear hP
        go_simp
        refine hK.out _ _ (by exact aggCells (t := 24) (v := x) HX21.out) (fun hS => ?_)
        clear hK K
        refine wpAnyH_ready (rs := [3, 7]) (by kernel_rfl) (by simp) ?_
        refine AllReadyH.cons rfl (fun K hK => ?_) (AllReadyH.cons rfl (fun K hK => ?_) (AllReadyH.nil))
        · go_simp
          go_wp2_with fail
          refine (step_cells x ev P HP.out Hv.out _).mono ?_
          rintro e w22 ⟨rfl, hb22⟩
          have hz22 : w21.heap.size ≤ w22.heap.size := by have := hb22.size; (try simp at this); omega
          have HG22 := Lib.hid (grown_trans HG21.out (grown_of_below hb22 _))
          clear HG21
          have Hrd22 := Lib.hid (Rd.belowAll Hrd21.out hb22)
          clear Hrd21
          have HR22 := Lib.hid (Blk.belowAll HR21.out hb22)
          clear HR21
          have HX22 := Lib.hid (Blk.belowAll HX21.out hb22)
          clear HX21
          clear hb22
          go_simp
          refine hK.out _ _ (by exact aggCells (t := 24) (v := x) HX22.out) (fun hS => ?_)
          clear hK K
          refine take_at 4 15 (v := ?_) rfl rfl (by kernel_rfl) (by kernel_rfl) (by kernel_rfl) (fun _ _ _ h => h) (by rfl) ?_ hS ?_
          rotate_left 1
          · (intro w hSw; (try dsimp only at hSw); (try go_split_ands); go_simp; try with_reducible rfl)
          simp only [List.setIfInBounds_toArray, List.set_cons_zero, List.set_cons_succ]
          refine take_at 5 20 (v := ?_) rfl rfl (by kernel_rfl) (by kernel_rfl) (by kernel_rfl) (fun _ _ _ h => h) (by rfl) ?_ hS ?_
          rotate_left 1
          · (intro w hSw; (try dsimp only at hSw); (try go_split_ands); go_simp; try with_reducible rfl)
          simp only [List.setIfInBounds_toArray, List.set_cons_zero, List.set_cons_succ]
          refine take_at 6 21 (v := ?_) rfl rfl (by kernel_rfl) (by kernel_rfl) (by kernel_rfl) (fun _ _ _ h => h) (by rfl) ?_ hS ?_
          rotate_left 1
          · (intro w hSw; (try dsimp only at hSw); (try go_split_ands); go_simp; try with_reducible rfl)
          simp only [List.setIfInBounds_toArray, List.set_cons_zero, List.set_cons_succ]
          refine wpAnyH_ready (rs := [7]) (by kernel_rfl) (by simp) ?_
          refine AllReadyH.cons rfl (fun K hK => ?_) (AllReadyH.nil)
          go_simp
          generalize hW : World.alloc _ _ = w23
          have hbx23 : Blk w23 w22.heap.size 24 (AggR.cells (⟨0, 0, 0⟩ : Fares.Sum)) := by rw [← hW]; exact Blk.new' (by simp)
          have hb23 : Below w22.heap.size w22 w23 := by rw [← hW]; exact bA (Below.refl _ _) _
          have hy23 : w22.heap.size < w23.heap.size := by rw [← hW]; simp
          clear hW
          have hz23 : w22.heap.size ≤ w23.heap.size := by have := hb23.size; (try simp at this); omega
          have HG23 := Lib.hid (grown_trans HG22.out (grown_of_below hb23 _))
          clear HG22
          have Hrd23 := Lib.hid (Rd.belowAll Hrd22.out hb23)
          clear Hrd22
          have HR23 := Lib.hid (Blk.belowAll HR22.out hb23)
          clear HR22
          have HX23 := Lib.hid (Blk.belowAll HX22.out hb23)
          clear HX22
          clear hb23
          have Hbx23 := Lib.hid hbx23; clear hbx23
          obtain ⟨cN23_0, cN23_1, cN23_2⟩ := aggCells (t := 24) (v := (⟨0, 0, 0⟩ : Fares.Sum)) Hbx23.out
          have frN23_0 := (Hbx23.out).free 0
          have frN23_1 := (Hbx23.out).free 1
          have frN23_2 := (Hbx23.out).free 2
          refine hK.out _ _ (by exact aggCells (t := 24) (v := x) HX23.out) (fun hS => ?_)
          clear hK K
          refine wpAnyH_ready (rs := [8]) (by kernel_rfl) (by simp) ?_
          refine AllReadyH.cons rfl (fun K hK => ?_) (AllReadyH.nil)
          go_simp
          generalize hW : World.setCell _ _ _ = w24
          have ht24 : Touch (fun i => i = w22.heap.size) w23 w24 := by rw [← hW]; exact (Touch.far (K := fun i => i = w22.heap.size) (Touch.far (K := fun i => i = w22.heap.size) (Touch.far (K := fun i => i = w22.heap.size) (Touch.refl _ _) (p := ⟨w22.heap.size, 0, none⟩) rfl _) (p := ⟨w22.heap.size, 1, none⟩) rfl _) (p := ⟨w22.heap.size, 2, none⟩) rfl _)
          have hbx24 : Blk w24 (w22.heap.size) 24 (AggR.cells P.1) := by rw [← hW]; exact (Blk.put (Blk.put (Blk.put Hbx23.out 0 (.int .i64 P.1.s)) 1 (.int .i64 P.1.a)) 2 (.int .i64 P.1.t))
          clear hW
          clear cN23_0 cN23_1 cN23_2 frN23_0 frN23_1 frN23_2
          have hz24 : w23.heap.size ≤ w24.heap.size := by have := ht24.size; (try simp at this); omega
          have HG24 := Lib.hid (grown_touch HG23.out ht24 (fun i hi => by omega))
          clear HG23
          have Hrd24 := Lib.hid (Rd.touch Hrd23.out ht24 (fun i hi => by omega))
          clear Hrd23
          have HR24 := Lib.hid (Blk.touch HR23.out ht24 (show ¬ (w.heap.size = w22.heap.size) by omega))
          clear HR23
          have HX24 := Lib.hid (Blk.touch HX23.out ht24 (show ¬ (w.heap.size + 1 = w22.heap.size) by omega))
          clear HX23
          clear ht24 Hbx23
          have Hbx24 := Lib.hid hbx24; clear hbx24
          refine hK.out _ _ (by exact aggCells (t := 24) (v := x) HX24.out) (fun hS => ?_)
          clear hK K
          refine take_at 9 6 (v := ?_) rfl rfl (by kernel_rfl) (by kernel_rfl) (by kernel_rfl) (fun _ _ _ h => h) (by rfl) ?_ hS ?_
          rotate_left 1
          · (intro w hSw; (try dsimp only at hSw); (try go_split_ands); go_simp; try with_reducible rfl)
          simp only [List.setIfInBounds_toArray, List.set_cons_zero, List.set_cons_succ]
          refine wpAnyH_done (by kernel_rfl) ?_ _
          clear hS
          obtain ⟨cN24_0, cN24_1, cN24_2⟩ := aggCells (t := 24) (v := P.1) Hbx24.out
          obtain ⟨cX24_0, cX24_1, cX24_2⟩ := aggCells (t := 24) (v := x) HX24.out
          have frX24_0 := (HX24.out).free 0
          have frX24_1 := (HX24.out).free 1
          have frX24_2 := (HX24.out).free 2
          cases hq : P.2
          · go_wp2
            go_roundw
            case rel => exact ⟨k', x, q1, by go_num, by omega, HX24.out, HR24.out, Hv, Hrd24.out, HG24.out, by omega⟩
            case measure => simp [intOf]
          · have Hw := Lib.hid (show Fares.validSum P.1 = true by rw [HP.out] at hq ⊢; exact Fares.step_valid Hv.out hq)
            go_wp2
            generalize hW : World.setCell _ _ _ = w25
            have ht25 : Touch (fun i => i = w.heap.size + 1) w24 w25 := by rw [← hW]; exact (Touch.far (K := fun i => i = w.heap.size + 1) (Touch.far (K := fun i => i = w.heap.size + 1) (Touch.far (K := fun i => i = w.heap.size + 1) (Touch.refl _ _) (p := ⟨w.heap.size + 1, 0, none⟩) rfl _) (p := ⟨w.heap.size + 1, 1, none⟩) rfl _) (p := ⟨w.heap.size + 1, 2, none⟩) rfl _)
            have hbx25 : Blk w25 (w.heap.size + 1) 24 (AggR.cells P.1) := by rw [← hW]; exact (Blk.put (Blk.put (Blk.put HX24.out 0 (.int .i64 P.1.s)) 1 (.int .i64 P.1.a)) 2 (.int .i64 P.1.t))
            clear hW
            clear cN24_0 cN24_1 cN24_2 cX24_0 cX24_1 cX24_2 frX24_0 frX24_1 frX24_2
            have hz25 : w24.heap.size ≤ w25.heap.size := by have := ht25.size; (try simp at this); omega
            have HG25 := Lib.hid (grown_touch HG24.out ht25 (fun i hi => by omega))
            clear HG24
            have Hrd25 := Lib.hid (Rd.touch Hrd24.out ht25 (fun i hi => by omega))
            clear Hrd24
            have HR25 := Lib.hid (Blk.touch HR24.out ht25 (show ¬ (w.heap.size = w.heap.size + 1) by omega))
            clear HR24
            have HN25 := Lib.hid (Blk.touch Hbx24.out ht25 (show ¬ (w22.heap.size = w.heap.size + 1) by omega))
            clear Hbx24
            clear ht25 HX24
            have Hbx25 := Lib.hid hbx25; clear hbx25
            go_roundw
            case rel => exact ⟨k', P.1, q1, by go_num, by omega, Hbx25.out, HR25.out, Hw, Hrd25.out, HG25.out, by omega⟩
            case measure => simp [intOf]
        · go_simp
          generalize hW : World.alloc _ _ = w22
          have hbx22 : Blk w22 w21.heap.size 24 (AggR.cells (⟨0, 0, 0⟩ : Fares.Sum)) := by rw [← hW]; exact Blk.new' (by simp)
          have hb22 : Below w21.heap.size w21 w22 := by rw [← hW]; exact bA (Below.refl _ _) _
          have hy22 : w21.heap.size < w22.heap.size := by rw [← hW]; simp
          clear hW
          have hz22 : w21.heap.size ≤ w22.heap.size := by have := hb22.size; (try simp at this); omega
          have HG22 := Lib.hid (grown_trans HG21.out (grown_of_below hb22 _))
          clear HG21
          have Hrd22 := Lib.hid (Rd.belowAll Hrd21.out hb22)
          clear Hrd21
          have HR22 := Lib.hid (Blk.belowAll HR21.out hb22)
          clear HR21
          have HX22 := Lib.hid (Blk.belowAll HX21.out hb22)
          clear HX21
          clear hb22
          have Hbx22 := Lib.hid hbx22; clear hbx22
          obtain ⟨cN22_0, cN22_1, cN22_2⟩ := aggCells (t := 24) (v := (⟨0, 0, 0⟩ : Fares.Sum)) Hbx22.out
          have frN22_0 := (Hbx22.out).free 0
          have frN22_1 := (Hbx22.out).free 1
          have frN22_2 := (Hbx22.out).free 2
          refine hK.out _ _ (by exact aggCells (t := 24) (v := x) HX22.out) (fun hS => ?_)
          clear hK K
          refine wpAnyH_ready (rs := [3]) (by kernel_rfl) (by simp) ?_
          refine AllReadyH.cons rfl (fun K hK => ?_) (AllReadyH.nil)
          go_simp
          go_wp2_with fail
          refine (step_cells x ev P HP.out Hv.out _).mono ?_
          rintro e w23 ⟨rfl, hb23⟩
          clear cN22_0 cN22_1 cN22_2 frN22_0 frN22_1 frN22_2
          have hz23 : w22.heap.size ≤ w23.heap.size := by have := hb23.size; (try simp at this); omega
          have HG23 := Lib.hid (grown_trans HG22.out (grown_of_below hb23 _))
          clear HG22
          have Hrd23 := Lib.hid (Rd.belowAll Hrd22.out hb23)
          clear Hrd22
          have HR23 := Lib.hid (Blk.belowAll HR22.out hb23)
          clear HR22
          have HX23 := Lib.hid (Blk.belowAll HX22.out hb23)
          clear HX22
          have HN23 := Lib.hid (Blk.belowAll Hbx22.out hb23)
          clear Hbx22
          clear hb23
          obtain ⟨cN23_0, cN23_1, cN23_2⟩ := aggCells (t := 24) (v := (⟨0, 0, 0⟩ : Fares.Sum)) HN23.out
          have frN23_0 := (HN23.out).free 0
          have frN23_1 := (HN23.out).free 1
          have frN23_2 := (HN23.out).free 2
          go_simp
          refine hK.out _ _ (by exact aggCells (t := 24) (v := x) HX23.out) (fun hS => ?_)
          clear hK K
          refine take_at 4 15 (v := ?_) rfl rfl (by kernel_rfl) (by kernel_rfl) (by kernel_rfl) (fun _ _ _ h => h) (by rfl) ?_ hS ?_
          rotate_left 1
          · (intro w hSw; (try dsimp only at hSw); (try go_split_ands); go_simp; try with_reducible rfl)
          simp only [List.setIfInBounds_toArray, List.set_cons_zero, List.set_cons_succ]
          refine take_at 5 20 (v := ?_) rfl rfl (by kernel_rfl) (by kernel_rfl) (by kernel_rfl) (fun _ _ _ h => h) (by rfl) ?_ hS ?_
          rotate_left 1
          · (intro w hSw; (try dsimp only at hSw); (try go_split_ands); go_simp; try with_reducible rfl)
          simp only [List.setIfInBounds_toArray, List.set_cons_zero, List.set_cons_succ]
          refine take_at 6 21 (v := ?_) rfl rfl (by kernel_rfl) (by kernel_rfl) (by kernel_rfl) (fun _ _ _ h => h) (by rfl) ?_ hS ?_
          rotate_left 1
          · (intro w hSw; (try dsimp only at hSw); (try go_split_ands); go_simp; try with_reducible rfl)
          simp only [List.setIfInBounds_toArray, List.set_cons_zero, List.set_cons_succ]
          refine wpAnyH_ready (rs := [8]) (by kernel_rfl) (by simp) ?_
          refine AllReadyH.cons rfl (fun K hK => ?_) (AllReadyH.nil)
          go_simp
          generalize hW : World.setCell _ _ _ = w24
          have ht24 : Touch (fun i => i = w21.heap.size) w23 w24 := by rw [← hW]; exact (Touch.far (K := fun i => i = w21.heap.size) (Touch.far (K := fun i => i = w21.heap.size) (Touch.far (K := fun i => i = w21.heap.size) (Touch.refl _ _) (p := ⟨w21.heap.size, 0, none⟩) rfl _) (p := ⟨w21.heap.size, 1, none⟩) rfl _) (p := ⟨w21.heap.size, 2, none⟩) rfl _)
          have hbx24 : Blk w24 (w21.heap.size) 24 (AggR.cells P.1) := by rw [← hW]; exact (Blk.put (Blk.put (Blk.put HN23.out 0 (.int .i64 P.1.s)) 1 (.int .i64 P.1.a)) 2 (.int .i64 P.1.t))
          clear hW
          clear cN23_0 cN23_1 cN23_2 frN23_0 frN23_1 frN23_2
          have hz24 : w23.heap.size ≤ w24.heap.size := by have := ht24.size; (try simp at this); omega
          have HG24 := Lib.hid (grown_touch HG23.out ht24 (fun i hi => by omega))
          clear HG23
          have Hrd24 := Lib.hid (Rd.touch Hrd23.out ht24 (fun i hi => by omega))
          clear Hrd23
          have HR24 := Lib.hid (Blk.touch HR23.out ht24 (show ¬ (w.heap.size = w21.heap.size) by omega))
          clear HR23
          have HX24 := Lib.hid (Blk.touch HX23.out ht24 (show ¬ (w.heap.size + 1 = w21.heap.size) by omega))
          clear HX23
          clear ht24 HN23
          have Hbx24 := Lib.hid hbx24; clear hbx24
          refine hK.out _ _ (by exact aggCells (t := 24) (v := x) HX24.out) (fun hS => ?_)
          clear hK K
          refine take_at 9 6 (v := ?_) rfl rfl (by kernel_rfl) (by kernel_rfl) (by kernel_rfl) (fun _ _ _ h => h) (by rfl) ?_ hS ?_
          rotate_left 1
          · (intro w hSw; (try dsimp only at hSw); (try go_split_ands); go_simp; try with_reducible rfl)
          simp only [List.setIfInBounds_toArray, List.set_cons_zero, List.set_cons_succ]
          refine wpAnyH_done (by kernel_rfl) ?_ _
          clear hS
          obtain ⟨cN24_0, cN24_1, cN24_2⟩ := aggCells (t := 24) (v := P.1) Hbx24.out
          obtain ⟨cX24_0, cX24_1, cX24_2⟩ := aggCells (t := 24) (v := x) HX24.out
          have frX24_0 := (HX24.out).free 0
          have frX24_1 := (HX24.out).free 1
          have frX24_2 := (HX24.out).free 2
          cases hq : P.2
          · go_wp2
            go_roundw
            case rel => exact ⟨k', x, q1, by go_num, by omega, HX24.out, HR24.out, Hv, Hrd24.out, HG24.out, by omega⟩
            case measure => simp [intOf]
          · have Hw := Lib.hid (show Fares.validSum P.1 = true by rw [HP.out] at hq ⊢; exact Fares.step_valid Hv.out hq)
            go_wp2
            generalize hW : World.setCell _ _ _ = w25
            have ht25 : Touch (fun i => i = w.heap.size + 1) w24 w25 := by rw [← hW]; exact (Touch.far (K := fun i => i = w.heap.size + 1) (Touch.far (K := fun i => i = w.heap.size + 1) (Touch.far (K := fun i => i = w.heap.size + 1) (Touch.refl _ _) (p := ⟨w.heap.size + 1, 0, none⟩) rfl _) (p := ⟨w.heap.size + 1, 1, none⟩) rfl _) (p := ⟨w.heap.size + 1, 2, none⟩) rfl _)
            have hbx25 : Blk w25 (w.heap.size + 1) 24 (AggR.cells P.1) := by rw [← hW]; exact (Blk.put (Blk.put (Blk.put HX24.out 0 (.int .i64 P.1.s)) 1 (.int .i64 P.1.a)) 2 (.int .i64 P.1.t))
            clear hW
            clear cN24_0 cN24_1 cN24_2 cX24_0 cX24_1 cX24_2 frX24_0 frX24_1 frX24_2
            have hz25 : w24.heap.size ≤ w25.heap.size := by have := ht25.size; (try simp at this); omega
            have HG25 := Lib.hid (grown_touch HG24.out ht25 (fun i hi => by omega))
            clear HG24
            have Hrd25 := Lib.hid (Rd.touch Hrd24.out ht25 (fun i hi => by omega))
            clear Hrd24
            have HR25 := Lib.hid (Blk.touch HR24.out ht25 (show ¬ (w.heap.size = w.heap.size + 1) by omega))
            clear HR24
            have HN25 := Lib.hid (Blk.touch Hbx24.out ht25 (show ¬ (w21.heap.size = w.heap.size + 1) by omega))
            clear Hbx24
            clear ht25 HX24
            have Hbx25 := Lib.hid hbx25; clear hbx25
            go_roundw
            case rel => exact ⟨k', P.1, q1, by go_num, by omega, Hbx25.out, HR25.out, Hw, Hrd25.out, HG25.out, by omega⟩
            case measure => simp [intOf]
      · go_simp
        generalize hW : World.alloc _ _ = w21
        have hbx21 : Blk w21 wr.heap.size 24 (AggR.cells (⟨0, 0, 0⟩ : Fares.Sum)) := by rw [← hW]; exact Blk.new' (by simp)
        have hb21 : Below wr.heap.size wr w21 := by rw [← hW]; exact bA (Below.refl _ _) _
        have hy21 : wr.heap.size < w21.heap.size := by rw [← hW]; simp
        clear hW
        have hz21 : wr.heap.size ≤ w21.heap.size := by have := hb21.size; (try simp at this); omega
        have HG21 := Lib.hid (grown_trans HG.out (grown_of_below hb21 _))
        clear HG
        have Hrd21 := Lib.hid (Rd.belowAll Hrd.out hb21)
        clear Hrd
        have HR21 := Lib.hid (Blk.belowAll HR.out hb21)
        clear HR
        have HX21 := Lib.hid (Blk.belowAll HX.out hb21)
        clear HX
        clear hb21
        have Hbx21 := Lib.hid hbx21; clear hbx21
        obtain ⟨cN21_0, cN21_1, cN21_2⟩ := aggCells (t := 24) (v := (⟨0, 0, 0⟩ : Fares.Sum)) (blkDrew Hbx21.out)
        have frN21_0 := ((blkDrew Hbx21.out)).free 0
        have frN21_1 := ((blkDrew Hbx21.out)).free 1
        have frN21_2 := ((blkDrew Hbx21.out)).free 2
        refine hK.out _ _ (by exact aggCells (t := 24) (v := x) (blkDrew HX21.out)) (fun hS => ?_)
        clear hK K
        refine wpAnyH_ready (rs := [2]) (by kernel_rfl) (by simp) ?_
        refine AllReadyH.cons rfl (fun K hK => ?_) (AllReadyH.nil)
        go_simp
        go_wp2_with fail
        refine (anyEvent_any g (q) _ (Rd.drew Hrd21.out) (by omega)).mono ?_
        rintro e w22 ⟨ev, q1, rfl, hev, hq1, hr22, hg22⟩
        clear cN21_0 cN21_1 cN21_2 frN21_0 frN21_1 frN21_2
        have hz22 : w21.heap.size ≤ w22.heap.size := by have := hg22.size; (try simp at this); omega
        have HG22 := Lib.hid (grown_trans (grownDrew HG21.out) hg22)
        clear HG21
        have HR22 := Lib.hid (Blk.grown (blkDrew HR21.out) hg22 (by intro e; injection e with e; omega))
        clear HR21
        have HX22 := Lib.hid (Blk.grown (blkDrew HX21.out) hg22 (by intro e; injection e with e; omega))
        clear HX21
        have HN22 := Lib.hid (Blk.grown (blkDrew Hbx21.out) hg22 (by intro e; injection e with e; omega))
        clear Hbx21
        clear hg22
        clear Hrd21
        have Hrd22 := Lib.hid hr22; clear hr22
        have hgl22 : g < w22.heap.size := (Hrd22.out).lt
        obtain ⟨P, hP⟩ : ∃ P, P = Fares.step x ev := ⟨_, rfl⟩
        have HP := Lib.hid hP; clear hP
        obtain ⟨cN22_0, cN22_1, cN22_2⟩ := aggCells (t := 24) (v := (⟨0, 0, 0⟩ : Fares.Sum)) HN22.out
        have frN22_0 := (HN22.out).free 0
        have frN22_1 := (HN22.out).free 1
        have frN22_2 := (HN22.out).free 2
        go_simp
        refine hK.out _ _ (by exact aggCells (t := 24) (v := x) HX22.out) (fun hS => ?_)
        clear hK K
        refine wpAnyH_ready (rs := [3]) (by kernel_rfl) (by simp) ?_
        refine AllReadyH.cons rfl (fun K hK => ?_) (AllReadyH.nil)
        go_simp
        go_wp2_with fail
        refine (step_cells x ev P HP.out Hv.out _).mono ?_
        rintro e w23 ⟨rfl, hb23⟩
        clear cN22_0 cN22_1 cN22_2 frN22_0 frN22_1 frN22_2
        have hz23 : w22.heap.size ≤ w23.heap.size := by have := hb23.size; (try simp at this); omega
        have HG23 := Lib.hid (grown_trans HG22.out (grown_of_below hb23 _))
        clear HG22
        have Hrd23 := Lib.hid (Rd.belowAll Hrd22.out hb23)
        clear Hrd22
        have HR23 := Lib.hid (Blk.belowAll HR22.out hb23)
        clear HR22
        have HX23 := Lib.hid (Blk.belowAll HX22.out hb23)
        clear HX22
        have HN23 := Lib.hid (Blk.belowAll HN22.out hb23)
        clear HN22
        clear hb23
        obtain ⟨cN23_0, cN23_1, cN23_2⟩ := aggCells (t := 24) (v := (⟨0, 0, 0⟩ : Fares.Sum)) HN23.out
        have frN23_0 := (HN23.out).free 0
        have frN23_1 := (HN23.out).free 1
        have frN23_2 := (HN23.out).free 2
        go_simp
        refine hK.out _ _ (by exact aggCells (t := 24) (v := x) HX23.out) (fun hS => ?_)
        clear hK K
        refine take_at 4 15 (v := ?_) rfl rfl (by kernel_rfl) (by kernel_rfl) (by kernel_rfl) (fun _ _ _ h => h) (by rfl) ?_ hS ?_
        rotate_left 1
        · (intro w hSw; (try dsimp only at hSw); (try go_split_ands); go_simp; try with_reducible rfl)
        simp only [List.setIfInBounds_toArray, List.set_cons_zero, List.set_cons_succ]
        refine take_at 5 20 (v := ?_) rfl rfl (by kernel_rfl) (by kernel_rfl) (by kernel_rfl) (fun _ _ _ h => h) (by rfl) ?_ hS ?_
        rotate_left 1
        · (intro w hSw; (try dsimp only at hSw); (try go_split_ands); go_simp; try with_reducible rfl)
        simp only [List.setIfInBounds_toArray, List.set_cons_zero, List.set_cons_succ]
        refine take_at 6 21 (v := ?_) rfl rfl (by kernel_rfl) (by kernel_rfl) (by kernel_rfl) (fun _ _ _ h => h) (by rfl) ?_ hS ?_
        rotate_left 1
        · (intro w hSw; (try dsimp only at hSw); (try go_split_ands); go_simp; try with_reducible rfl)
        simp only [List.setIfInBounds_toArray, List.set_cons_zero, List.set_cons_succ]
        refine wpAnyH_ready (rs := [8]) (by kernel_rfl) (by simp) ?_
        refine AllReadyH.cons rfl (fun K hK => ?_) (AllReadyH.nil)
        go_simp
        generalize hW : World.setCell _ _ _ = w24
        have ht24 : Touch (fun i => i = wr.heap.size) w23 w24 := by rw [← hW]; exact (Touch.far (K := fun i => i = wr.heap.size) (Touch.far (K := fun i => i = wr.heap.size) (Touch.far (K := fun i => i = wr.heap.size) (Touch.refl _ _) (p := ⟨wr.heap.size, 0, none⟩) rfl _) (p := ⟨wr.heap.size, 1, none⟩) rfl _) (p := ⟨wr.heap.size, 2, none⟩) rfl _)
        have hbx24 : Blk w24 (wr.heap.size) 24 (AggR.cells P.1) := by rw [← hW]; exact (Blk.put (Blk.put (Blk.put HN23.out 0 (.int .i64 P.1.s)) 1 (.int .i64 P.1.a)) 2 (.int .i64 P.1.t))
        clear hW
        clear cN23_0 cN23_1 cN23_2 frN23_0 frN23_1 frN23_2
        have hz24 : w23.heap.size ≤ w24.heap.size := by have := ht24.size; (try simp at this); omega
        have HG24 := Lib.hid (grown_touch HG23.out ht24 (fun i hi => by omega))
        clear HG23
        have Hrd24 := Lib.hid (Rd.touch Hrd23.out ht24 (fun i hi => by omega))
        clear Hrd23
        have HR24 := Lib.hid (Blk.touch HR23.out ht24 (show ¬ (w.heap.size = wr.heap.size) by omega))
        clear HR23
        have HX24 := Lib.hid (Blk.touch HX23.out ht24 (show ¬ (w.heap.size + 1 = wr.heap.size) by omega))
        clear HX23
        clear ht24 HN23
        have Hbx24 := Lib.hid hbx24; clear hbx24
        refine hK.out _ _ (by exact aggCells (t := 24) (v := x) HX24.out) (fun hS => ?_)
        clear hK K
        refine take_at 9 6 (v := ?_) rfl rfl (by kernel_rfl) (by kernel_rfl) (by kernel_rfl) (fun _ _ _ h => h) (by rfl) ?_ hS ?_
        rotate_left 1
        · (intro w hSw; (try dsimp only at hSw); (try go_split_ands); go_simp; try with_reducible rfl)
        simp only [List.setIfInBounds_toArray, List.set_cons_zero, List.set_cons_succ]
        refine wpAnyH_done (by kernel_rfl) ?_ _
        clear hS
        obtain ⟨cN24_0, cN24_1, cN24_2⟩ := aggCells (t := 24) (v := P.1) Hbx24.out
        obtain ⟨cX24_0, cX24_1, cX24_2⟩ := aggCells (t := 24) (v := x) HX24.out
        have frX24_0 := (HX24.out).free 0
        have frX24_1 := (HX24.out).free 1
        have frX24_2 := (HX24.out).free 2
        cases hq : P.2
        · go_wp2
          go_roundw
          case rel => exact ⟨k', x, q1, by go_num, by omega, HX24.out, HR24.out, Hv, Hrd24.out, HG24.out, by omega⟩
          case measure => simp [intOf]
        · have Hw := Lib.hid (show Fares.validSum P.1 = true by rw [HP.out] at hq ⊢; exact Fares.step_valid Hv.out hq)
          go_wp2
          generalize hW : World.setCell _ _ _ = w25
          have ht25 : Touch (fun i => i = w.heap.size + 1) w24 w25 := by rw [← hW]; exact (Touch.far (K := fun i => i = w.heap.size + 1) (Touch.far (K := fun i => i = w.heap.size + 1) (Touch.far (K := fun i => i = w.heap.size + 1) (Touch.refl _ _) (p := ⟨w.heap.size + 1, 0, none⟩) rfl _) (p := ⟨w.heap.size + 1, 1, none⟩) rfl _) (p := ⟨w.heap.size + 1, 2, none⟩) rfl _)
          have hbx25 : Blk w25 (w.heap.size + 1) 24 (AggR.cells P.1) := by rw [← hW]; exact (Blk.put (Blk.put (Blk.put HX24.out 0 (.int .i64 P.1.s)) 1 (.int .i64 P.1.a)) 2 (.int .i64 P.1.t))
          clear hW
          clear cN24_0 cN24_1 cN24_2 cX24_0 cX24_1 cX24_2 frX24_0 frX24_1 frX24_2
          have hz25 : w24.heap.size ≤ w25.heap.size := by have := ht25.size; (try simp at this); omega
          have HG25 := Lib.hid (grown_touch HG24.out ht25 (fun i hi => by omega))
          clear HG24
          have Hrd25 := Lib.hid (Rd.touch Hrd24.out ht25 (fun i hi => by omega))
          clear Hrd24
          have HR25 := Lib.hid (Blk.touch HR24.out ht25 (show ¬ (w.heap.size = w.heap.size + 1) by omega))
          clear HR24
          have HN25 := Lib.hid (Blk.touch Hbx24.out ht25 (show ¬ (wr.heap.size = w.heap.size + 1) by omega))
          clear Hbx24
          clear ht25 HX24
          have Hbx25 := Lib.hid hbx25; clear hbx25
          go_roundw
          case rel => exact ⟨k', P.1, q1, by go_num, by omega, Hbx25.out, HR25.out, Hw, Hrd25.out, HG25.out, by omega⟩
          case measure => simp [intOf]
    · have hk1 : decide ((0 : Int) < (k : Int)) = false := decide_eq_false (by omega)
      have hsm := aggSmall_of Hv.out
      unfold aggSmall at hsm
      clear Hv
      go_wp2_with fail
      refine (pick_any g (q) 20 _ Hrd.out (by omega)).mono ?_
      rintro e w21 ⟨m, rfl, m0, m1, hr21, hg21⟩
      have hz21 : wr.heap.size ≤ w21.heap.size := by have := hg21.size; (try simp at this); omega
      have HG21 := Lib.hid (grown_trans HG.out hg21)
      clear HG
      have HR21 := Lib.hid (Blk.grown HR.out hg21 (by intro e; injection e with e; omega))
      clear HR
      have HX21 := Lib.hid (Blk.grown HX.out hg21 (by intro e; injection e with e; omega))
      clear HX
      clear hg21
      clear Hrd
      have Hrd21 := Lib.hid hr21; clear hr21
      have hgl21 : g < w21.heap.size := (Hrd21.out).lt
      have m2 := m1 (by omega)
      clear m1
      by_cases hm0 : m = 0
      · subst hm0
        go_wp2_with fail
        generalize hW : World.alloc _ _ = w22
        have hN : Blk w22 w21.heap.size 3 #[.int .i64 (-1), .int .i64 6, .int .i64 1, .int .i64 3] := by rw [← hW]; exact Blk.new' (by simp)
        have hb22 : Below w21.heap.size w21 w22 := by rw [← hW]; exact bA (Below.refl _ _) _
        have hy22 : w21.heap.size < w22.heap.size := by rw [← hW]; simp
        clear hW
        have hz22 : w21.heap.size ≤ w22.heap.size := by have := hb22.size; (try simp at this); omega
        have HG22 := Lib.hid (grown_trans HG21.out (grown_of_below hb22 _))
        clear HG21
        have Hrd22 := Lib.hid (Rd.belowAll Hrd21.out hb22)
        clear Hrd21
        have HR22 := Lib.hid (Blk.belowAll HR21.out hb22)
        clear HR21
        have HX22 := Lib.hid (Blk.belowAll HX21.out hb22)
        clear HX21
        clear hb22
        refine (one_in g (q + 1) _ [-1, 6, 1, 3] (-1) 6 4 4 _ _ Hrd22.out (by omega) hN (by omega) rfl rfl (by omega) (by omega) (by decide)).mono ?_
        rintro e w23 ⟨y, rfl, y0, y1, hr23, hg23⟩
        have hz23 : w22.heap.size ≤ w23.heap.size := by have := hg23.size; (try simp at this); omega
        have HG23 := Lib.hid (grown_trans HG22.out hg23)
        clear HG22
        have HR23 := Lib.hid (Blk.grown HR22.out hg23 (by intro e; injection e with e; omega))
        clear HR22
        have HX23 := Lib.hid (Blk.grown HX22.out hg23 (by intro e; injection e with e; omega))
        clear HX22
        clear hg23
        clear Hrd22
        have Hrd23 := Lib.hid hr23; clear hr23
        have hgl23 : g < w23.heap.size := (Hrd23.out).lt
        clear hN
        obtain ⟨cX23_0, cX23_1, cX23_2⟩ := aggCells (t := 24) (v := x) HX23.out
        have frX23_0 := (HX23.out).free 0
        have frX23_1 := (HX23.out).free 1
        have frX23_2 := (HX23.out).free 2
        obtain ⟨cR23_0, cR23_1, cR23_2⟩ := aggCells (t := 24) (v := (⟨0, 0, 0⟩ : Fares.Sum)) HR23.out
        have frR23_0 := (HR23.out).free 0
        have frR23_1 := (HR23.out).free 1
        have frR23_2 := (HR23.out).free 2
        go_wp2
        generalize hW : World.setCell _ _ _ = w24
        have ht24 : Touch (fun i => i = w.heap.size ∨ i = w.heap.size + 1) w23 w24 := by rw [← hW]; exact (Touch.far (K := fun i => i = w.heap.size ∨ i = w.heap.size + 1) (Touch.far (K := fun i => i = w.heap.size ∨ i = w.heap.size + 1) (Touch.far (K := fun i => i = w.heap.size ∨ i = w.heap.size + 1) (Touch.far (K := fun i => i = w.heap.size ∨ i = w.heap.size + 1) (Touch.refl _ _) (p := ⟨w.heap.size + 1, 0, none⟩) (.inr rfl) _) (p := ⟨w.heap.size, 0, none⟩) (.inl rfl) _) (p := ⟨w.heap.size, 1, none⟩) (.inl rfl) _) (p := ⟨w.heap.size, 2, none⟩) (.inl rfl) _)
        have hbx24 : Blk w24 w.heap.size 24 (AggR.cells (⟨y, x.a, x.t⟩ : Fares.Sum)) := by rw [← hW]; exact (Blk.put (Blk.put (Blk.put (Blk.far HR23.out (p := ⟨w.heap.size + 1, 0, none⟩) (by show w.heap.size ≠ w.heap.size + 1; omega) _) 0 (.int .i64 y)) 1 (.int .i64 x.a)) 2 (.int .i64 x.t))
        clear hW
        clear cX23_0 cX23_1 cX23_2 frX23_0 frX23_1 frX23_2 cR23_0 cR23_1 cR23_2 frR23_0 frR23_1 frR23_2
        have hG24 := grown_touch HG23.out ht24 (fun i hi => by rcases hi with hi | hi <;> omega)
        have hrd24 := Rd.touch Hrd23.out ht24 (fun i hi => by rcases hi with hi | hi <;> omega)
        obtain ⟨z0, z1, z2⟩ := aggCells hbx24
        dsimp only at z0 z1 z2
        exact bodyPost_ret (v := .agg #[.int .i64 y, .int .i64 x.a, .int .i64 x.t]) (by simp [results, Tryd.results24, go_sem, z0, z1, z2]) rfl ⟨(⟨y, x.a, x.t⟩ : Fares.Sum), q + 1 + 1, rfl, by unfold aggSmall; (try dsimp only); omega, by omega, hrd24, hG24⟩
      · have hm0' : (m == 0) = false := by rw [beq_eq_false_iff_ne]; exact hm0
        by_cases hm1 : m = 1
        · subst hm1
          go_wp2_with fail
          generalize hW : World.alloc _ _ = w22
          have hN : Blk w22 w21.heap.size 3 #[.int .i64 (-1), .int .i64 0, .int .i64 100001] := by rw [← hW]; exact Blk.new' (by simp)
          have hb22 : Below w21.heap.size w21 w22 := by rw [← hW]; exact bA (Below.refl _ _) _
          have hy22 : w21.heap.size < w22.heap.size := by rw [← hW]; simp
          clear hW
          have hz22 : w21.heap.size ≤ w22.heap.size := by have := hb22.size; (try simp at this); omega
          have HG22 := Lib.hid (grown_trans HG21.out (grown_of_below hb22 _))
          clear HG21
          have Hrd22 := Lib.hid (Rd.belowAll Hrd21.out hb22)
          clear Hrd21
          have HR22 := Lib.hid (Blk.belowAll HR21.out hb22)
          clear HR21
          have HX22 := Lib.hid (Blk.belowAll HX21.out hb22)
          clear HX21
          clear hb22
          refine (one_in g (q + 1) _ [-1, 0, 100001] (-1) 100001 3 3 _ _ Hrd22.out (by omega) hN (by omega) rfl rfl (by omega) (by omega) (by decide)).mono ?_
          rintro e w23 ⟨y, rfl, y0, y1, hr23, hg23⟩
          have hz23 : w22.heap.size ≤ w23.heap.size := by have := hg23.size; (try simp at this); omega
          have HG23 := Lib.hid (grown_trans HG22.out hg23)
          clear HG22
          have HR23 := Lib.hid (Blk.grown HR22.out hg23 (by intro e; injection e with e; omega))
          clear HR22
          have HX23 := Lib.hid (Blk.grown HX22.out hg23 (by intro e; injection e with e; omega))
          clear HX22
          clear hg23
          clear Hrd22
          have Hrd23 := Lib.hid hr23; clear hr23
          have hgl23 : g < w23.heap.size := (Hrd23.out).lt
          clear hN
          obtain ⟨cX23_0, cX23_1, cX23_2⟩ := aggCells (t := 24) (v := x) HX23.out
          have frX23_0 := (HX23.out).free 0
          have frX23_1 := (HX23.out).free 1
          have frX23_2 := (HX23.out).free 2
          obtain ⟨cR23_0, cR23_1, cR23_2⟩ := aggCells (t := 24) (v := (⟨0, 0, 0⟩ : Fares.Sum)) HR23.out
          have frR23_0 := (HR23.out).free 0
          have frR23_1 := (HR23.out).free 1
          have frR23_2 := (HR23.out).free 2
          go_wp2
          generalize hW : World.setCell _ _ _ = w24
          have ht24 : Touch (fun i => i = w.heap.size ∨ i = w.heap.size + 1) w23 w24 := by rw [← hW]; exact (Touch.far (K := fun i => i = w.heap.size ∨ i = w.heap.size + 1) (Touch.far (K := fun i => i = w.heap.size ∨ i = w.heap.size + 1) (Touch.far (K := fun i => i = w.heap.size ∨ i = w.heap.size + 1) (Touch.far (K := fun i => i = w.heap.size ∨ i = w.heap.size + 1) (Touch.refl _ _) (p := ⟨w.heap.size + 1, 1, none⟩) (.inr rfl) _) (p := ⟨w.heap.size, 0, none⟩) (.inl rfl) _) (p := ⟨w.heap.size, 1, none⟩) (.inl rfl) _) (p := ⟨w.heap.size, 2, none⟩) (.inl rfl) _)
          have hbx24 : Blk w24 w.heap.size 24 (AggR.cells (⟨x.s, y, x.t⟩ : Fares.Sum)) := by rw [← hW]; exact (Blk.put (Blk.put (Blk.put (Blk.far HR23.out (p := ⟨w.heap.size + 1, 1, none⟩) (by show w.heap.size ≠ w.heap.size + 1; omega) _) 0 (.int .i64 x.s)) 1 (.int .i64 y)) 2 (.int .i64 x.t))
          clear hW
          clear cX23_0 cX23_1 cX23_2 frX23_0 frX23_1 frX23_2 cR23_0 cR23_1 cR23_2 frR23_0 frR23_1 frR23_2
          have hG24 := grown_touch HG23.out ht24 (fun i hi => by rcases hi with hi | hi <;> omega)
          have hrd24 := Rd.touch Hrd23.out ht24 (fun i hi => by rcases hi with hi | hi <;> omega)
          obtain ⟨z0, z1, z2⟩ := aggCells hbx24
          dsimp only at z0 z1 z2
          exact bodyPost_ret (v := .agg #[.int .i64 x.s, .int .i64 y, .int .i64 x.t]) (by simp [results, Tryd.results24, go_sem, z0, z1, z2]) rfl ⟨(⟨x.s, y, x.t⟩ : Fares.Sum), q + 1 + 1, rfl, by unfold aggSmall; (try dsimp only); omega, by omega, hrd24, hG24⟩
        · have hm1' : (m == 1) = false := by rw [beq_eq_false_iff_ne]; exact hm1
          by_cases hm2 : m = 2
          · subst hm2
            go_wp2_with fail
            generalize hW : World.alloc _ _ = w22
            have hN : Blk w22 w21.heap.size 3 #[.int .i64 (-1), .int .i64 0, .int .i64 4, .int .i64 5] := by rw [← hW]; exact Blk.new' (by simp)
            have hb22 : Below w21.heap.size w21 w22 := by rw [← hW]; exact bA (Below.refl _ _) _
            have hy22 : w21.heap.size < w22.heap.size := by rw [← hW]; simp
            clear hW
            have hz22 : w21.heap.size ≤ w22.heap.size := by have := hb22.size; (try simp at this); omega
            have HG22 := Lib.hid (grown_trans HG21.out (grown_of_below hb22 _))
            clear HG21
            have Hrd22 := Lib.hid (Rd.belowAll Hrd21.out hb22)
            clear Hrd21
            have HR22 := Lib.hid (Blk.belowAll HR21.out hb22)
            clear HR21
            have HX22 := Lib.hid (Blk.belowAll HX21.out hb22)
            clear HX21
            clear hb22
            refine (one_in g (q + 1) _ [-1, 0, 4, 5] (-1) 5 4 4 _ _ Hrd22.out (by omega) hN (by omega) rfl rfl (by omega) (by omega) (by decide)).mono ?_
            rintro e w23 ⟨y, rfl, y0, y1, hr23, hg23⟩
            have hz23 : w22.heap.size ≤ w23.heap.size := by have := hg23.size; (try simp at this); omega
            have HG23 := Lib.hid (grown_trans HG22.out hg23)
            clear HG22
            have HR23 := Lib.hid (Blk.grown HR22.out hg23 (by intro e; injection e with e; omega))
            clear HR22
            have HX23 := Lib.hid (Blk.grown HX22.out hg23 (by intro e; injection e with e; omega))
            clear HX22
            clear hg23
            clear Hrd22
            have Hrd23 := Lib.hid hr23; clear hr23
            have hgl23 : g < w23.heap.size := (Hrd23.out).lt
            clear hN
            obtain ⟨cX23_0, cX23_1, cX23_2⟩ := aggCells (t := 24) (v := x) HX23.out
            have frX23_0 := (HX23.out).free 0
            have frX23_1 := (HX23.out).free 1
            have frX23_2 := (HX23.out).free 2
            obtain ⟨cR23_0, cR23_1, cR23_2⟩ := aggCells (t := 24) (v := (⟨0, 0, 0⟩ : Fares.Sum)) HR23.out
            have frR23_0 := (HR23.out).free 0
            have frR23_1 := (HR23.out).free 1
            have frR23_2 := (HR23.out).free 2
            go_wp2
            generalize hW : World.setCell _ _ _ = w24
            have ht24 : Touch (fun i => i = w.heap.size ∨ i = w.heap.size + 1) w23 w24 := by rw [← hW]; exact (Touch.far (K := fun i => i = w.heap.size ∨ i = w.heap.size + 1) (Touch.far (K := fun i => i = w.heap.size ∨ i = w.heap.size + 1) (Touch.far (K := fun i => i = w.heap.size ∨ i = w.heap.size + 1) (Touch.far (K := fun i => i = w.heap.size ∨ i = w.heap.size + 1) (Touch.refl _ _) (p := ⟨w.heap.size + 1, 2, none⟩) (.inr rfl) _) (p := ⟨w.heap.size, 0, none⟩) (.inl rfl) _) (p := ⟨w.heap.size, 1, none⟩) (.inl rfl) _) (p := ⟨w.heap.size, 2, none⟩) (.inl rfl) _)
            have hbx24 : Blk w24 w.heap.size 24 (AggR.cells (⟨x.s, x.a, y⟩ : Fares.Sum)) := by rw [← hW]; exact (Blk.put (Blk.put (Blk.put (Blk.far HR23.out (p := ⟨w.heap.size + 1, 2, none⟩) (by show w.heap.size ≠ w.heap.size + 1; omega) _) 0 (.int .i64 x.s)) 1 (.int .i64 x.a)) 2 (.int .i64 y))
            clear hW
            clear cX23_0 cX23_1 cX23_2 frX23_0 frX23_1 frX23_2 cR23_0 cR23_1 cR23_2 frR23_0 frR23_1 frR23_2
            have hG24 := grown_touch HG23.out ht24 (fun i hi => by rcases hi with hi | hi <;> omega)
            have hrd24 := Rd.touch Hrd23.out ht24 (fun i hi => by rcases hi with hi | hi <;> omega)
            obtain ⟨z0, z1, z2⟩ := aggCells hbx24
            dsimp only at z0 z1 z2
            exact bodyPost_ret (v := .agg #[.int .i64 x.s, .int .i64 x.a, .int .i64 y]) (by simp [results, Tryd.results24, go_sem, z0, z1, z2]) rfl ⟨(⟨x.s, x.a, y⟩ : Fares.Sum), q + 1 + 1, rfl, by unfold aggSmall; (try dsimp only); omega, by omega, hrd24, hG24⟩
          · have hm2' : (m == 2) = false := by rw [beq_eq_false_iff_ne]; exact hm2
            obtain ⟨cX21_0, cX21_1, cX21_2⟩ := aggCells (t := 24) (v := x) HX21.out
            obtain ⟨cR21_0, cR21_1, cR21_2⟩ := aggCells (t := 24) (v := (⟨0, 0, 0⟩ : Fares.Sum)) HR21.out
            have frR21_0 := (HR21.out).free 0
            have frR21_1 := (HR21.out).free 1
            have frR21_2 := (HR21.out).free 2
            go_wp2
            generalize hW : World.setCell _ _ _ = w22
            have ht22 : Touch (fun i => i = w.heap.size) w21 w22 := by rw [← hW]; exact (Touch.far (K := fun i => i = w.heap.size) (Touch.far (K := fun i => i = w.heap.size) (Touch.far (K := fun i => i = w.heap.size) (Touch.refl _ _) (p := ⟨w.heap.size, 0, none⟩) rfl _) (p := ⟨w.heap.size, 1, none⟩) rfl _) (p := ⟨w.heap.size, 2, none⟩) rfl _)
            have hbx22 : Blk w22 (w.heap.size) 24 (AggR.cells x) := by rw [← hW]; exact (Blk.put (Blk.put (Blk.put HR21.out 0 (.int .i64 x.s)) 1 (.int .i64 x.a)) 2 (.int .i64 x.t))
            clear hW
            clear cX21_0 cX21_1 cX21_2 cR21_0 cR21_1 cR21_2 frR21_0 frR21_1 frR21_2
            have hz22 : w21.heap.size ≤ w22.heap.size := by have := ht22.size; (try simp at this); omega
            have HG22 := Lib.hid (grown_touch HG21.out ht22 (fun i hi => by omega))
            clear HG21
            have Hrd22 := Lib.hid (Rd.touch Hrd21.out ht22 (fun i hi => by omega))
            clear Hrd21
            have HX22 := Lib.hid (Blk.touch HX21.out ht22 (show ¬ (w.heap.size + 1 = w.heap.size) by omega))
            clear HX21
            clear ht22 HR21
            have Hbx22 := Lib.hid hbx22; clear hbx22
            obtain ⟨z0, z1, z2⟩ := aggCells Hbx22.out
            exact bodyPost_ret (v := .agg #[.int .i64 x.s, .int .i64 x.a, .int .i64 x.t]) (by simp [results, Tryd.results24, go_sem, z0, z1, z2]) rfl ⟨x, q + 1, rfl, by unfold aggSmall; (try dsimp only); omega, by omega, Hrd22.out, HG22.out⟩
end Go.Proofs.YtpdlngekeeaocabDoor
