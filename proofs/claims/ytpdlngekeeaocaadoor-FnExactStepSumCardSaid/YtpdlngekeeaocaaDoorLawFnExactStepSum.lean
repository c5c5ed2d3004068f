/-
  At every aggregate and event, StepSum of the program answers as its model: the law FnExactStepSum returns true and leaves its arguments as they were. The program's tables hold what its text lays in them.
-/
import Derived.Test.YtpdlngekeeaocaaDoorCards
import Derived.Test.YtpdlngekeeaocaaDoorTie
import Derived.Test.YtpdlngekeeaocaaDoorOpen
import Derived.Test.YtpdlngekeeaocaaDoorAggLaid
import Derived.Deep.DeepHandedRow
import Derived.Deep.RegionHeld3
import Derived.Test.YtpdlngekeeaocaaDoorAggBox2
import Derived.Test.YtpdlngekeeaocaaDoorReg
set_option linter.unusedSimpArgs false
namespace Go.Proofs.YtpdlngekeeaocaaDoor.fnExactStepSum
open Go.ChangeShapes Go.WideShapes Go.ChangeAt Go.RowKit
set_option linter.unusedVariables false

set_option maxRecDepth 100000 in
set_option maxHeartbeats 2000000 in
theorem walk (w : World) (a0 : Fares.Sum) (f0 : sumFits a0) (a1 : Fares.Event) (f1 : eventFits a1) (hL : Limits w) (hT : Steps w) : Calls Tryd.prog 4 #[sumV a0, eventV a1] w (TrueBelow w) := by
  have HL := Lib.hid hL; clear hL
  have HT := Lib.hid hT; clear hT
  go_enter Tryd.func4, Tryd.ntmps4
  unfold sumV eventV
  go_wp2
  generalize hW : World.alloc _ _ = w1
  have hbp : Blk w1 w.heap.size 23 (AggR.cells a0) := by rw [← hW]; exact (Blk.new w _ _).alloc _
  have hbe : Blk w1 (w.heap.size + 1) 29 (EvtR.cells a1) := by rw [← hW]; exact Blk.new' (by simp)
  have HB1 : Hid (Below w.heap.size w w1) := Lib.hid (by rw [← hW]; exact bA (bA (Below.refl _ _) _) _)
  have hz1 : w.heap.size + 1 < w1.heap.size := by rw [← hW]; simp
  clear hW
  have Hbp := Lib.hid hbp; clear hbp
  have Hbe := Lib.hid hbe; clear hbe
  obtain ⟨⟨⟨s1, x1, t1⟩, ok⟩, hP⟩ : ∃ P, P = Fares.stepSum a0 a1 := ⟨_, rfl⟩
  have HP := Lib.hid hP; clear hP
  have C0 : Hid (∀ W, Calls Tryd.prog 12 #[.agg #[.int .i64 a0.s, .int .i64 a0.a, .int .i64 a0.t]] W fun r w' => r = .returned (.agg #[.int .i64 a0.s, .int .i64 a0.a, .int .i64 a0.t]) ∧ Below W.heap.size W w') := fun W => toSum_any a0 W
  have CE : Hid (∀ W, Calls Tryd.prog 15 #[.agg #[.int .i64 a1.k, .int .i64 a1.a]] W fun r w' => r = .returned (.agg #[.int .i64 a1.k, .int .i64 a1.a]) ∧ Below W.heap.size W w') := fun W => toEvent_any a1 W
  have C3 : Hid (∀ W, Calls Tryd.prog 17 #[.agg #[.int .i64 s1, .int .i64 x1, .int .i64 t1], .agg #[.int .i64 s1, .int .i64 x1, .int .i64 t1]] W fun r w' => r = .returned (.bool true) ∧ Below W.heap.size W w') := fun W => by
    have := eqSum_any (⟨s1, x1, t1⟩ : Fares.Sum) (⟨s1, x1, t1⟩ : Fares.Sum) W
    rw [decide_eq_true rfl] at this
    exact this
  refine wp_region_held_drew (S := fun w' => (w'.cell? ⟨w.heap.size, 0, none⟩ = some (.int .i64 a0.s) ∧ w'.cell? ⟨w.heap.size, 1, none⟩ = some (.int .i64 a0.a) ∧ w'.cell? ⟨w.heap.size, 2, none⟩ = some (.int .i64 a0.t)) ∧ w'.cell? ⟨w.heap.size + 1, 0, none⟩ = some (.int .i64 a1.k) ∧ w'.cell? ⟨w.heap.size + 1, 1, none⟩ = some (.int .i64 a1.a)) (by kernel_rfl) (by exact ⟨aggCells Hbp.out, evtCells Hbe.out⟩) (fun hS => ?_)
  refine take_at 0 10 (v := ?_) rfl rfl (by kernel_rfl) (by kernel_rfl) (by kernel_rfl) (fun _ _ _ h => h) (by rfl) ?_ hS ?_
  rotate_left 1
  · (intro w hSw; (try dsimp only at hSw); (try go_split_ands); go_simp; try with_reducible rfl)
  simp only [List.setIfInBounds_toArray, List.set_cons_zero, List.set_cons_succ]
  refine take_at 2 12 (v := ?_) rfl rfl (by kernel_rfl) (by kernel_rfl) (by kernel_rfl) (fun _ _ _ h => h) (by rfl) ?_ hS ?_
  rotate_left 1
  · (intro w hSw; (try dsimp only at hSw); (try go_split_ands); go_simp; try with_reducible rfl)
  simp only [List.setIfInBounds_toArray, List.set_cons_zero, List.set_cons_succ]
  refine wpAnyH_ready (rs := [1, 8]) (by kernel_rfl) (by simp) ?_
  refine AllReadyH.cons rfl (fun K hK => ?_) (AllReadyH.cons rfl (fun K hK => ?_) (AllReadyH.nil))
  · go_simp
    go_wp2_with fail
    refine (C0.out _).mono ?_
    rintro e w2 ⟨rfl, hb2⟩
    have hz2 : w1.heap.size ≤ w2.heap.size := by have := hb2.size; (try simp at this); omega
    have HB2 := Lib.hid (bT (bD1 HB1.out) hb2)
    clear HB1
    have HP2 := Lib.hid (Blk.belowAll (blkDrew Hbp.out) hb2)
    clear Hbp
    have HE2 := Lib.hid (Blk.belowAll (blkDrew Hbe.out) hb2)
    clear Hbe
    clear hb2
    go_simp
    refine hK.out _ _ (by exact ⟨aggCells HP2.out, evtCells HE2.out⟩) (fun hS => ?_)
    clear hK K
    refine wpAnyH_ready (rs := [3, 8]) (by kernel_rfl) (by simp) ?_
    refine AllReadyH.cons rfl (fun K hK => ?_) (AllReadyH.cons rfl (fun K hK => ?_) (AllReadyH.nil))
    · go_simp
      go_wp2_with fail
      refine (CE.out _).mono ?_
      rintro e w3 ⟨rfl, hb3⟩
      have hz3 : w2.heap.size ≤ w3.heap.size := by have := hb3.size; (try simp at this); omega
      have HB3 := Lib.hid (bT HB2.out hb3)
      clear HB2
      have HP3 := Lib.hid (Blk.belowAll HP2.out hb3)
      clear HP2
      have HE3 := Lib.hid (Blk.belowAll HE2.out hb3)
      clear HE2
      clear hb3
      go_simp
      refine hK.out _ _ (by exact ⟨aggCells HP3.out, evtCells HE3.out⟩) (fun hS => ?_)
      clear hK K
      refine wpAnyH_ready (rs := [4, 8]) (by kernel_rfl) (by simp) ?_
      refine AllReadyH.cons rfl (fun K hK => ?_) (AllReadyH.cons rfl (fun K hK => ?_) (AllReadyH.nil))
      · go_simp
        go_wp2_with fail
        refine (specStep_cells a0 a1 s1 x1 t1 ok HP.out _).mono ?_
        rintro e w4 ⟨rfl, hb4⟩
        have hz4 : w3.heap.size ≤ w4.heap.size := by have := hb4.size; (try simp at this); omega
        have HB4 := Lib.hid (bT HB3.out hb4)
        clear HB3
        have HP4 := Lib.hid (Blk.belowAll HP3.out hb4)
        clear HP3
        have HE4 := Lib.hid (Blk.belowAll HE3.out hb4)
        clear HE3
        clear hb4
        go_simp
        refine hK.out _ _ (by exact ⟨aggCells HP4.out, evtCells HE4.out⟩) (fun hS => ?_)
        clear hK K
        refine take_at 5 9 (v := ?_) rfl rfl (by kernel_rfl) (by kernel_rfl) (by kernel_rfl) (fun _ _ _ h => h) (by rfl) ?_ hS ?_
        rotate_left 1
        · (intro w hSw; (try dsimp only at hSw); (try go_split_ands); go_simp; try with_reducible rfl)
        simp only [List.setIfInBounds_toArray, List.set_cons_zero, List.set_cons_succ]
        refine take_at 6 15 (v := ?_) rfl rfl (by kernel_rfl) (by kernel_rfl) (by kernel_rfl) (fun _ _ _ h => h) (by rfl) ?_ hS ?_
        rotate_left 1
        · (intro w hSw; (try dsimp only at hSw); (try go_split_ands); go_simp; try with_reducible rfl)
        simp only [List.setIfInBounds_toArray, List.set_cons_zero, List.set_cons_succ]
        refine take_at 7 16 (v := ?_) rfl rfl (by kernel_rfl) (by kernel_rfl) (by kernel_rfl) (fun _ _ _ h => h) (by rfl) ?_ hS ?_
        rotate_left 1
        · (intro w hSw; (try dsimp only at hSw); (try go_split_ands); go_simp; try with_reducible rfl)
        simp only [List.setIfInBounds_toArray, List.set_cons_zero, List.set_cons_succ]
        refine wpAnyH_ready (rs := [8]) (by kernel_rfl) (by simp) ?_
        refine AllReadyH.cons rfl (fun K hK => ?_) (AllReadyH.nil)
        go_simp
        generalize hW : World.alloc _ _ = w5
        have hbx5 : Blk w5 w4.heap.size 25 (AggR.cells (⟨0, 0, 0⟩ : Fares.Sum)) := by rw [← hW]; exact Blk.new' (by simp)
        have hb5 : Below w4.heap.size w4 w5 := by rw [← hW]; exact bA (Below.refl _ _) _
        have hy5 : w4.heap.size < w5.heap.size := by rw [← hW]; simp
        clear hW
        have hz5 : w4.heap.size ≤ w5.heap.size := by have := hb5.size; (try simp at this); omega
        have HB5 := Lib.hid (bT HB4.out hb5)
        clear HB4
        have HP5 := Lib.hid (Blk.belowAll HP4.out hb5)
        clear HP4
        have HE5 := Lib.hid (Blk.belowAll HE4.out hb5)
        clear HE4
        clear hb5
        have Hbx5 := Lib.hid hbx5; clear hbx5
        obtain ⟨cW05_0, cW05_1, cW05_2⟩ := aggCells (t := 25) (v := (⟨0, 0, 0⟩ : Fares.Sum)) Hbx5.out
        have frW05_0 := (Hbx5.out).free 0
        have frW05_1 := (Hbx5.out).free 1
        have frW05_2 := (Hbx5.out).free 2
        refine hK.out _ _ (by exact ⟨aggCells HP5.out, evtCells HE5.out⟩) (fun hS => ?_)
        clear hK K
        refine wpAnyH_ready (rs := [9]) (by kernel_rfl) (by simp) ?_
        refine AllReadyH.cons rfl (fun K hK => ?_) (AllReadyH.nil)
        go_simp
        generalize hW : World.setCell _ _ _ = w6
        have ht6 : Touch (fun i => i = w4.heap.size) w5 w6 := by rw [← hW]; exact (Touch.far (K := fun i => i = w4.heap.size) (Touch.far (K := fun i => i = w4.heap.size) (Touch.far (K := fun i => i = w4.heap.size) (Touch.refl _ _) (p := ⟨w4.heap.size, 0, none⟩) rfl _) (p := ⟨w4.heap.size, 1, none⟩) rfl _) (p := ⟨w4.heap.size, 2, none⟩) rfl _)
        have hbx6 : Blk w6 (w4.heap.size) 25 (AggR.cells (⟨s1, x1, t1⟩ : Fares.Sum)) := by rw [← hW]; exact (Blk.put (Blk.put (Blk.put Hbx5.out 0 (.int .i64 s1)) 1 (.int .i64 x1)) 2 (.int .i64 t1))
        clear hW
        clear cW05_0 cW05_1 cW05_2 frW05_0 frW05_1 frW05_2
        have hz6 : w5.heap.size ≤ w6.heap.size := by have := ht6.size; (try simp at this); omega
        have HB6 := Lib.hid (Touch.below HB5.out ht6 (fun i hi => by omega))
        clear HB5
        have HP6 := Lib.hid (Blk.touch HP5.out ht6 (show ¬ (w.heap.size = w4.heap.size) by omega))
        clear HP5
        have HE6 := Lib.hid (Blk.touch HE5.out ht6 (show ¬ (w.heap.size + 1 = w4.heap.size) by omega))
        clear HE5
        clear ht6 Hbx5
        have Hbx6 := Lib.hid hbx6; clear hbx6
        refine hK.out _ _ (by exact ⟨aggCells HP6.out, evtCells HE6.out⟩) (fun hS => ?_)
        clear hK K
        refine take_at 10 6 (v := ?_) rfl rfl (by kernel_rfl) (by kernel_rfl) (by kernel_rfl) (fun _ _ _ h => h) (by rfl) ?_ hS ?_
        rotate_left 1
        · (intro w hSw; (try dsimp only at hSw); (try go_split_ands); go_simp; try with_reducible rfl)
        simp only [List.setIfInBounds_toArray, List.set_cons_zero, List.set_cons_succ]
        refine wpAnyH_done (by kernel_rfl) ?_ _
        clear hS
        go_wp2
        refine wp_region_held_drew (S := fun w' => (w'.cell? ⟨w.heap.size, 0, none⟩ = some (.int .i64 a0.s) ∧ w'.cell? ⟨w.heap.size, 1, none⟩ = some (.int .i64 a0.a) ∧ w'.cell? ⟨w.heap.size, 2, none⟩ = some (.int .i64 a0.t)) ∧ w'.cell? ⟨w.heap.size + 1, 0, none⟩ = some (.int .i64 a1.k) ∧ w'.cell? ⟨w.heap.size + 1, 1, none⟩ = some (.int .i64 a1.a)) (by kernel_rfl) (by exact ⟨aggCells HP6.out, evtCells HE6.out⟩) (fun hS => ?_)
        refine take_at 0 18 (v := ?_) rfl rfl (by kernel_rfl) (by kernel_rfl) (by kernel_rfl) (fun _ _ _ h => h) (by rfl) ?_ hS ?_
        rotate_left 1
        · (intro w hSw; (try dsimp only at hSw); (try go_split_ands); go_simp; try with_reducible rfl)
        simp only [List.setIfInBounds_toArray, List.set_cons_zero, List.set_cons_succ]
        refine take_at 2 20 (v := ?_) rfl rfl (by kernel_rfl) (by kernel_rfl) (by kernel_rfl) (fun _ _ _ h => h) (by rfl) ?_ hS ?_
        rotate_left 1
        · (intro w hSw; (try dsimp only at hSw); (try go_split_ands); go_simp; try with_reducible rfl)
        simp only [List.setIfInBounds_toArray, List.set_cons_zero, List.set_cons_succ]
        refine wpAnyH_ready (rs := [1, 8]) (by kernel_rfl) (by simp) ?_
        refine AllReadyH.cons rfl (fun K hK => ?_) (AllReadyH.cons rfl (fun K hK => ?_) (AllReadyH.nil))
        · go_simp
          go_wp2_with fail
          refine (C0.out _).mono ?_
          rintro e w7 ⟨rfl, hb7⟩
          have hz7 : w6.heap.size ≤ w7.heap.size := by have := hb7.size; (try simp at this); omega
          have HB7 := Lib.hid (bT (bD1 HB6.out) hb7)
          clear HB6
          have HP7 := Lib.hid (Blk.belowAll (blkDrew HP6.out) hb7)
          clear HP6
          have HE7 := Lib.hid (Blk.belowAll (blkDrew HE6.out) hb7)
          clear HE6
          have HW07 := Lib.hid (Blk.belowAll (blkDrew Hbx6.out) hb7)
          clear Hbx6
          clear hb7
          go_simp
          refine hK.out _ _ (by exact ⟨aggCells HP7.out, evtCells HE7.out⟩) (fun hS => ?_)
          clear hK K
          refine wpAnyH_ready (rs := [3, 8]) (by kernel_rfl) (by simp) ?_
          refine AllReadyH.cons rfl (fun K hK => ?_) (AllReadyH.cons rfl (fun K hK => ?_) (AllReadyH.nil))
          · go_simp
            go_wp2_with fail
            refine (CE.out _).mono ?_
            rintro e w8 ⟨rfl, hb8⟩
            have hz8 : w7.heap.size ≤ w8.heap.size := by have := hb8.size; (try simp at this); omega
            have HB8 := Lib.hid (bT HB7.out hb8)
            clear HB7
            have HP8 := Lib.hid (Blk.belowAll HP7.out hb8)
            clear HP7
            have HE8 := Lib.hid (Blk.belowAll HE7.out hb8)
            clear HE7
            have HW08 := Lib.hid (Blk.belowAll HW07.out hb8)
            clear HW07
            clear hb8
            go_simp
            refine hK.out _ _ (by exact ⟨aggCells HP8.out, evtCells HE8.out⟩) (fun hS => ?_)
            clear hK K
            refine wpAnyH_ready (rs := [4, 8]) (by kernel_rfl) (by simp) ?_
            refine AllReadyH.cons rfl (fun K hK => ?_) (AllReadyH.cons rfl (fun K hK => ?_) (AllReadyH.nil))
            · go_simp
              go_wp2_with fail
              refine (implStep_cells a0 a1 s1 x1 t1 ok HP.out _ (Limits.below HL.out HB8.out) (Steps.below HT.out HB8.out)).mono ?_
              rintro e w9 ⟨rfl, hb9⟩
              have hz9 : w8.heap.size ≤ w9.heap.size := by have := hb9.size; (try simp at this); omega
              have HB9 := Lib.hid (bT HB8.out hb9)
              clear HB8
              have HP9 := Lib.hid (Blk.belowAll HP8.out hb9)
              clear HP8
              have HE9 := Lib.hid (Blk.belowAll HE8.out hb9)
              clear HE8
              have HW09 := Lib.hid (Blk.belowAll HW08.out hb9)
              clear HW08
              clear hb9
              go_simp
              refine hK.out _ _ (by exact ⟨aggCells HP9.out, evtCells HE9.out⟩) (fun hS => ?_)
              clear hK K
              refine take_at 5 17 (v := ?_) rfl rfl (by kernel_rfl) (by kernel_rfl) (by kernel_rfl) (fun _ _ _ h => h) (by rfl) ?_ hS ?_
              rotate_left 1
              · (intro w hSw; (try dsimp only at hSw); (try go_split_ands); go_simp; try with_reducible rfl)
              simp only [List.setIfInBounds_toArray, List.set_cons_zero, List.set_cons_succ]
              refine take_at 6 23 (v := ?_) rfl rfl (by kernel_rfl) (by kernel_rfl) (by kernel_rfl) (fun _ _ _ h => h) (by rfl) ?_ hS ?_
              rotate_left 1
              · (intro w hSw; (try dsimp only at hSw); (try go_split_ands); go_simp; try with_reducible rfl)
              simp only [List.setIfInBounds_toArray, List.set_cons_zero, List.set_cons_succ]
              refine take_at 7 24 (v := ?_) rfl rfl (by kernel_rfl) (by kernel_rfl) (by kernel_rfl) (fun _ _ _ h => h) (by rfl) ?_ hS ?_
              rotate_left 1
              · (intro w hSw; (try dsimp only at hSw); (try go_split_ands); go_simp; try with_reducible rfl)
              simp only [List.setIfInBounds_toArray, List.set_cons_zero, List.set_cons_succ]
              refine wpAnyH_ready (rs := [8]) (by kernel_rfl) (by simp) ?_
              refine AllReadyH.cons rfl (fun K hK => ?_) (AllReadyH.nil)
              go_simp
              generalize hW : World.alloc _ _ = w10
              have hbx10 : Blk w10 w9.heap.size 25 (AggR.cells (⟨0, 0, 0⟩ : Fares.Sum)) := by rw [← hW]; exact Blk.new' (by simp)
              have hb10 : Below w9.heap.size w9 w10 := by rw [← hW]; exact bA (Below.refl _ _) _
              have hy10 : w9.heap.size < w10.heap.size := by rw [← hW]; simp
              clear hW
              have hz10 : w9.heap.size ≤ w10.heap.size := by have := hb10.size; (try simp at this); omega
              have HB10 := Lib.hid (bT HB9.out hb10)
              clear HB9
              have HP10 := Lib.hid (Blk.belowAll HP9.out hb10)
              clear HP9
              have HE10 := Lib.hid (Blk.belowAll HE9.out hb10)
              clear HE9
              have HW010 := Lib.hid (Blk.belowAll HW09.out hb10)
              clear HW09
              clear hb10
              have Hbx10 := Lib.hid hbx10; clear hbx10
              obtain ⟨cG10_0, cG10_1, cG10_2⟩ := aggCells (t := 25) (v := (⟨0, 0, 0⟩ : Fares.Sum)) Hbx10.out
              have frG10_0 := (Hbx10.out).free 0
              have frG10_1 := (Hbx10.out).free 1
              have frG10_2 := (Hbx10.out).free 2
              refine hK.out _ _ (by exact ⟨aggCells HP10.out, evtCells HE10.out⟩) (fun hS => ?_)
              clear hK K
              refine wpAnyH_ready (rs := [9]) (by kernel_rfl) (by simp) ?_
              refine AllReadyH.cons rfl (fun K hK => ?_) (AllReadyH.nil)
              go_simp
              generalize hW : World.setCell _ _ _ = w11
              have ht11 : Touch (fun i => i = w9.heap.size) w10 w11 := by rw [← hW]; exact (Touch.far (K := fun i => i = w9.heap.size) (Touch.far (K := fun i => i = w9.heap.size) (Touch.far (K := fun i => i = w9.heap.size) (Touch.refl _ _) (p := ⟨w9.heap.size, 0, none⟩) rfl _) (p := ⟨w9.heap.size, 1, none⟩) rfl _) (p := ⟨w9.heap.size, 2, none⟩) rfl _)
              have hbx11 : Blk w11 (w9.heap.size) 25 (AggR.cells (⟨s1, x1, t1⟩ : Fares.Sum)) := by rw [← hW]; exact (Blk.put (Blk.put (Blk.put Hbx10.out 0 (.int .i64 s1)) 1 (.int .i64 x1)) 2 (.int .i64 t1))
              clear hW
              clear cG10_0 cG10_1 cG10_2 frG10_0 frG10_1 frG10_2
              have hz11 : w10.heap.size ≤ w11.heap.size := by have := ht11.size; (try simp at this); omega
              have HB11 := Lib.hid (Touch.below HB10.out ht11 (fun i hi => by omega))
              clear HB10
              have HP11 := Lib.hid (Blk.touch HP10.out ht11 (show ¬ (w.heap.size = w9.heap.size) by omega))
              clear HP10
              have HE11 := Lib.hid (Blk.touch HE10.out ht11 (show ¬ (w.heap.size + 1 = w9.heap.size) by omega))
              clear HE10
              have HW011 := Lib.hid (Blk.touch HW010.out ht11 (show ¬ (w4.heap.size = w9.heap.size) by omega))
              clear HW010
              clear ht11 Hbx10
              have Hbx11 := Lib.hid hbx11; clear hbx11
              refine hK.out _ _ (by exact ⟨aggCells HP11.out, evtCells HE11.out⟩) (fun hS => ?_)
              clear hK K
              refine take_at 10 8 (v := ?_) rfl rfl (by kernel_rfl) (by kernel_rfl) (by kernel_rfl) (fun _ _ _ h => h) (by rfl) ?_ hS ?_
              rotate_left 1
              · (intro w hSw; (try dsimp only at hSw); (try go_split_ands); go_simp; try with_reducible rfl)
              simp only [List.setIfInBounds_toArray, List.set_cons_zero, List.set_cons_succ]
              refine wpAnyH_done (by kernel_rfl) ?_ _
              clear hS
              obtain ⟨cG11_0, cG11_1, cG11_2⟩ := aggCells (t := 25) (v := (⟨s1, x1, t1⟩ : Fares.Sum)) Hbx11.out
              obtain ⟨cW011_0, cW011_1, cW011_2⟩ := aggCells (t := 25) (v := (⟨s1, x1, t1⟩ : Fares.Sum)) HW011.out
              dsimp only at cG11_0 cG11_1 cG11_2 cW011_0 cW011_1 cW011_2
              go_wp2_with fail
              refine (C3.out _).mono ?_
              rintro e w12 ⟨rfl, hb12⟩
              clear cG11_0 cG11_1 cG11_2 cW011_0 cW011_1 cW011_2
              have hz12 : w11.heap.size ≤ w12.heap.size := by have := hb12.size; (try simp at this); omega
              have HB12 := Lib.hid (bT HB11.out hb12)
              clear HB11
              have HP12 := Lib.hid (Blk.belowAll HP11.out hb12)
              clear HP11
              have HE12 := Lib.hid (Blk.belowAll HE11.out hb12)
              clear HE11
              have HW012 := Lib.hid (Blk.belowAll HW011.out hb12)
              clear HW011
              have HG12 := Lib.hid (Blk.belowAll Hbx11.out hb12)
              clear Hbx11
              clear hb12
              cases ok <;> (go_wp2; go_ret; exact ⟨rfl, HB12.out⟩)
            · go_simp
              generalize hW : World.alloc _ _ = w9
              have hbx9 : Blk w9 w8.heap.size 25 (AggR.cells (⟨0, 0, 0⟩ : Fares.Sum)) := by rw [← hW]; exact Blk.new' (by simp)
              have hb9 : Below w8.heap.size w8 w9 := by rw [← hW]; exact bA (Below.refl _ _) _
              have hy9 : w8.heap.size < w9.heap.size := by rw [← hW]; simp
              clear hW
              have hz9 : w8.heap.size ≤ w9.heap.size := by have := hb9.size; (try simp at this); omega
              have HB9 := Lib.hid (bT HB8.out hb9)
              clear HB8
              have HP9 := Lib.hid (Blk.belowAll HP8.out hb9)
              clear HP8
              have HE9 := Lib.hid (Blk.belowAll HE8.out hb9)
              clear HE8
              have HW09 := Lib.hid (Blk.belowAll HW08.out hb9)
              clear HW08
              clear hb9
              have Hbx9 := Lib.hid hbx9; clear hbx9
              obtain ⟨cG9_0, cG9_1, cG9_2⟩ := aggCells (t := 25) (v := (⟨0, 0, 0⟩ : Fares.Sum)) Hbx9.out
              have frG9_0 := (Hbx9.out).free 0
              have frG9_1 := (Hbx9.out).free 1
              have frG9_2 := (Hbx9.out).free 2
              refine hK.out _ _ (by exact ⟨aggCells HP9.out, evtCells HE9.out⟩) (fun hS => ?_)
              clear hK K
              refine wpAnyH_ready (rs := [4]) (by kernel_rfl) (by simp) ?_
              refine AllReadyH.cons rfl (fun K hK => ?_) (AllReadyH.nil)
              go_simp
              go_wp2_with fail
              refine (implStep_cells a0 a1 s1 x1 t1 ok HP.out _ (Limits.below HL.out HB9.out) (Steps.below HT.out HB9.out)).mono ?_
              rintro e w10 ⟨rfl, hb10⟩
              clear cG9_0 cG9_1 cG9_2 frG9_0 frG9_1 frG9_2
              have hz10 : w9.heap.size ≤ w10.heap.size := by have := hb10.size; (try simp at this); omega
              have HB10 := Lib.hid (bT HB9.out hb10)
              clear HB9
              have HP10 := Lib.hid (Blk.belowAll HP9.out hb10)
              clear HP9
              have HE10 := Lib.hid (Blk.belowAll HE9.out hb10)
              clear HE9
              have HW010 := Lib.hid (Blk.belowAll HW09.out hb10)
              clear HW09
              have HG10 := Lib.hid (Blk.belowAll Hbx9.out hb10)
              clear Hbx9
              clear hb10
              obtain ⟨cG10_0, cG10_1, cG10_2⟩ := aggCells (t := 25) (v := (⟨0, 0, 0⟩ : Fares.Sum)) HG10.out
              have frG10_0 := (HG10.out).free 0
              have frG10_1 := (HG10.out).free 1
              have frG10_2 := (HG10.out).free 2
              go_simp
              refine hK.out _ _ (by exact ⟨aggCells HP10.out, evtCells HE10.out⟩) (fun hS => ?_)
              clear hK K
              refine take_at 5 17 (v := ?_) rfl rfl (by kernel_rfl) (by kernel_rfl) (by kernel_rfl) (fun _ _ _ h => h) (by rfl) ?_ hS ?_
              rotate_left 1
              · (intro w hSw; (try dsimp only at hSw); (try go_split_ands); go_simp; try with_reducible rfl)
              simp only [List.setIfInBounds_toArray, List.set_cons_zero, List.set_cons_succ]
              refine take_at 6 23 (v := ?_) rfl rfl (by kernel_rfl) (by kernel_rfl) (by kernel_rfl) (fun _ _ _ h => h) (by rfl) ?_ hS ?_
              rotate_left 1
              · (intro w hSw; (try dsimp only at hSw); (try go_split_ands); go_simp; try with_reducible rfl)
              simp only [List.setIfInBounds_toArray, List.set_cons_zero, List.set_cons_succ]
              refine take_at 7 24 (v := ?_) rfl rfl (by kernel_rfl) (by kernel_rfl) (by kernel_rfl) (fun _ _ _ h => h) (by rfl) ?_ hS ?_
              rotate_left 1
              · (intro w hSw; (try dsimp only at hSw); (try go_split_ands); go_simp; try with_reducible rfl)
              simp only [List.setIfInBounds_toArray, List.set_cons_zero, List.set_cons_succ]
              refine wpAnyH_ready (rs := [9]) (by kernel_rfl) (by simp) ?_
              refine AllReadyH.cons rfl (fun K hK => ?_) (AllReadyH.nil)
              go_simp
              generalize hW : World.setCell _ _ _ = w11
              have ht11 : Touch (fun i => i = w8.heap.size) w10 w11 := by rw [← hW]; exact (Touch.far (K := fun i => i = w8.heap.size) (Touch.far (K := fun i => i = w8.heap.size) (Touch.far (K := fun i => i = w8.heap.size) (Touch.refl _ _) (p := ⟨w8.heap.size, 0, none⟩) rfl _) (p := ⟨w8.heap.size, 1, none⟩) rfl _) (p := ⟨w8.heap.size, 2, none⟩) rfl _)
              have hbx11 : Blk w11 (w8.heap.size) 25 (AggR.cells (⟨s1, x1, t1⟩ : Fares.Sum)) := by rw [← hW]; exact (Blk.put (Blk.put (Blk.put HG10.out 0 (.int .i64 s1)) 1 (.int .i64 x1)) 2 (.int .i64 t1))
              clear hW
              clear cG10_0 cG10_1 cG10_2 frG10_0 frG10_1 frG10_2
              have hz11 : w10.heap.size ≤ w11.heap.size := by have := ht11.size; (try simp at this); omega
              have HB11 := Lib.hid (Touch.below HB10.out ht11 (fun i hi => by omega))
              clear HB10
              have HP11 := Lib.hid (Blk.touch HP10.out ht11 (show ¬ (w.heap.size = w8.heap.size) by omega))
              clear HP10
              have HE11 := Lib.hid (Blk.touch HE10.out ht11 (show ¬ (w.heap.size + 1 = w8.heap.size) by omega))
              clear HE10
              have HW011 := Lib.hid (Blk.touch HW010.out ht11 (show ¬ (w4.heap.size = w8.heap.size) by omega))
              clear HW010
              clear ht11 HG10
              have Hbx11 := Lib.hid hbx11; clear hbx11
              refine hK.out _ _ (by exact ⟨aggCells HP11.out, evtCells HE11.out⟩) (fun hS => ?_)
              clear hK K
              refine take_at 10 8 (v := ?_) rfl rfl (by kernel_rfl) (by kernel_rfl) (by kernel_rfl) (fun _ _ _ h => h) (by rfl) ?_ hS ?_
              rotate_left 1
              · (intro w hSw; (try dsimp only at hSw); (try go_split_ands); go_simp; try with_reducible rfl)
              simp only [List.setIfInBounds_toArray, List.set_cons_zero, List.set_cons_succ]
              refine wpAnyH_done (by kernel_rfl) ?_ _
              clear hS
              obtain ⟨cG11_0, cG11_1, cG11_2⟩ := aggCells (t := 25) (v := (⟨s1, x1, t1⟩ : Fares.Sum)) Hbx11.out
              obtain ⟨cW011_0, cW011_1, cW011_2⟩ := aggCells (t := 25) (v := (⟨s1, x1, t1⟩ : Fares.Sum)) HW011.out
              dsimp only at cG11_0 cG11_1 cG11_2 cW011_0 cW011_1 cW011_2
              go_wp2_with fail
              refine (C3.out _).mono ?_
              rintro e w12 ⟨rfl, hb12⟩
              clear cG11_0 cG11_1 cG11_2 cW011_0 cW011_1 cW011_2
              have hz12 : w11.heap.size ≤ w12.heap.size := by have := hb12.size; (try simp at this); omega
              have HB12 := Lib.hid (bT HB11.out hb12)
              clear HB11
              have HP12 := Lib.hid (Blk.belowAll HP11.out hb12)
              clear HP11
              have HE12 := Lib.hid (Blk.belowAll HE11.out hb12)
              clear HE11
              have HW012 := Lib.hid (Blk.belowAll HW011.out hb12)
              clear HW011
              have HG12 := Lib.hid (Blk.belowAll Hbx11.out hb12)
              clear Hbx11
              clear hb12
              cases ok <;> (go_wp2; go_ret; exact ⟨rfl, HB12.out⟩)
          · go_simp
            generalize hW : World.alloc _ _ = w8
            have hbx8 : Blk w8 w7.heap.size 25 (AggR.cells (⟨0, 0, 0⟩ : Fares.Sum)) := by rw [← hW]; exact Blk.new' (by simp)
            have hb8 : Below w7.heap.size w7 w8 := by rw [← hW]; exact bA (Below.refl _ _) _
            have hy8 : w7.heap.size < w8.heap.size := by rw [← hW]; simp
            clear hW
            have hz8 : w7.heap.size ≤ w8.heap.size := by have := hb8.size; (try simp at this); omega
            have HB8 := Lib.hid (bT HB7.out hb8)
            clear HB7
            have HP8 := Lib.hid (Blk.belowAll HP7.out hb8)
            clear HP7
            have HE8 := Lib.hid (Blk.belowAll HE7.out hb8)
            clear HE7
            have HW08 := Lib.hid (Blk.belowAll HW07.out hb8)
            clear HW07
            clear hb8
            have Hbx8 := Lib.hid hbx8; clear hbx8
            obtain ⟨cG8_0, cG8_1, cG8_2⟩ := aggCells (t := 25) (v := (⟨0, 0, 0⟩ : Fares.Sum)) Hbx8.out
            have frG8_0 := (Hbx8.out).free 0
            have frG8_1 := (Hbx8.out).free 1
            have frG8_2 := (Hbx8.out).free 2
            refine hK.out _ _ (by exact ⟨aggCells HP8.out, evtCells HE8.out⟩) (fun hS => ?_)
            clear hK K
            refine wpAnyH_ready (rs := [3]) (by kernel_rfl) (by simp) ?_
            refine AllReadyH.cons rfl (fun K hK => ?_) (AllReadyH.nil)
            go_simp
            go_wp2_with fail
            refine (CE.out _).mono ?_
            rintro e w9 ⟨rfl, hb9⟩
            clear cG8_0 cG8_1 cG8_2 frG8_0 frG8_1 frG8_2
            have hz9 : w8.heap.size ≤ w9.heap.size := by have := hb9.size; (try simp at this); omega
            have HB9 := Lib.hid (bT HB8.out hb9)
            clear HB8
            have HP9 := Lib.hid (Blk.belowAll HP8.out hb9)
            clear HP8
            have HE9 := Lib.hid (Blk.belowAll HE8.out hb9)
            clear HE8
            have HW09 := Lib.hid (Blk.belowAll HW08.out hb9)
            clear HW08
            have HG9 := Lib.hid (Blk.belowAll Hbx8.out hb9)
            clear Hbx8
            clear hb9
            obtain ⟨cG9_0, cG9_1, cG9_2⟩ := aggCells (t := 25) (v := (⟨0, 0, 0⟩ : Fares.Sum)) HG9.out
            have frG9_0 := (HG9.out).free 0
            have frG9_1 := (HG9.out).free 1
            have frG9_2 := (HG9.out).free 2
            go_simp
            refine hK.out _ _ (by exact ⟨aggCells HP9.out, evtCells HE9.out⟩) (fun hS => ?_)
            clear hK K
            refine wpAnyH_ready (rs := [4]) (by kernel_rfl) (by simp) ?_
            refine AllReadyH.cons rfl (fun K hK => ?_) (AllReadyH.nil)
            go_simp
            go_wp2_with fail
            refine (implStep_cells a0 a1 s1 x1 t1 ok HP.out _ (Limits.below HL.out HB9.out) (Steps.below HT.out HB9.out)).mono ?_
            rintro e w10 ⟨rfl, hb10⟩
            clear cG9_0 cG9_1 cG9_2 frG9_0 frG9_1 frG9_2
            have hz10 : w9.heap.size ≤ w10.heap.size := by have := hb10.size; (try simp at this); omega
            have HB10 := Lib.hid (bT HB9.out hb10)
            clear HB9
            have HP10 := Lib.hid (Blk.belowAll HP9.out hb10)
            clear HP9
            have HE10 := Lib.hid (Blk.belowAll HE9.out hb10)
            clear HE9
            have HW010 := Lib.hid (Blk.belowAll HW09.out hb10)
            clear HW09
            have HG10 := Lib.hid (Blk.belowAll HG9.out hb10)
            clear HG9
            clear hb10
            obtain ⟨cG10_0, cG10_1, cG10_2⟩ := aggCells (t := 25) (v := (⟨0, 0, 0⟩ : Fares.Sum)) HG10.out
            have frG10_0 := (HG10.out).free 0
            have frG10_1 := (HG10.out).free 1
            have frG10_2 := (HG10.out).free 2
            go_simp
            refine hK.out _ _ (by exact ⟨aggCells HP10.out, evtCells HE10.out⟩) (fun hS => ?_)
            clear hK K
            refine take_at 5 17 (v := ?_) rfl rfl (by kernel_rfl) (by kernel_rfl) (by kernel_rfl) (fun _ _ _ h => h) (by rfl) ?_ hS ?_
            rotate_left 1
            · (intro w hSw; (try dsimp only at hSw); (try go_split_ands); go_simp; try with_reducible rfl)
            simp only [List.setIfInBounds_toArray, List.set_cons_zero, List.set_cons_succ]
            refine take_at 6 23 (v := ?_) rfl rfl (by kernel_rfl) (by kernel_rfl) (by kernel_rfl) (fun _ _ _ h => h) (by rfl) ?_ hS ?_
            rotate_left 1
            · (intro w hSw; (try dsimp only at hSw); (try go_split_ands); go_simp; try with_reducible rfl)
            simp only [List.setIfInBounds_toArray, List.set_cons_zero, List.set_cons_succ]
            refine take_at 7 24 (v := ?_) rfl rfl (by kernel_rfl) (by kernel_rfl) (by kernel_rfl) (fun _ _ _ h => h) (by rfl) ?_ hS ?_
            rotate_left 1
            · (intro w hSw; (try dsimp only at hSw); (try go_split_ands); go_simp; try with_reducible rfl)
            simp only [List.setIfInBounds_toArray, List.set_cons_zero, List.set_cons_succ]
            refine wpAnyH_ready (rs := [9]) (by kernel_rfl) (by simp) ?_
            refine AllReadyH.cons rfl (fun K hK => ?_) (AllReadyH.nil)
            go_simp
            generalize hW : World.setCell _ _ _ = w11
            have ht11 : Touch (fun i => i = w7.heap.size) w10 w11 := by rw [← hW]; exact (Touch.far (K := fun i => i = w7.heap.size) (Touch.far (K := fun i => i = w7.heap.size) (Touch.far (K := fun i => i = w7.heap.size) (Touch.refl _ _) (p := ⟨w7.heap.size, 0, none⟩) rfl _) (p := ⟨w7.heap.size, 1, none⟩) rfl _) (p := ⟨w7.heap.size, 2, none⟩) rfl _)
            have hbx11 : Blk w11 (w7.heap.size) 25 (AggR.cells (⟨s1, x1, t1⟩ : Fares.Sum)) := by rw [← hW]; exact (Blk.put (Blk.put (Blk.put HG10.out 0 (.int .i64 s1)) 1 (.int .i64 x1)) 2 (.int .i64 t1))
            clear hW
            clear cG10_0 cG10_1 cG10_2 frG10_0 frG10_1 frG10_2
            have hz11 : w10.heap.size ≤ w11.heap.size := by have := ht11.size; (try simp at this); omega
            have HB11 := Lib.hid (Touch.below HB10.out ht11 (fun i hi => by omega))
            clear HB10
            have HP11 := Lib.hid (Blk.touch HP10.out ht11 (show ¬ (w.heap.size = w7.heap.size) by omega))
            clear HP10
            have HE11 := Lib.hid (Blk.touch HE10.out ht11 (show ¬ (w.heap.size + 1 = w7.heap.size) by omega))
            clear HE10
            have HW011 := Lib.hid (Blk.touch HW010.out ht11 (show ¬ (w4.heap.size = w7.heap.size) by omega))
            clear HW010
            clear ht11 HG10
            have Hbx11 := Lib.hid hbx11; clear hbx11
            refine hK.out _ _ (by exact ⟨aggCells HP11.out, evtCells HE11.out⟩) (fun hS => ?_)
            clear hK K
            refine take_at 10 8 (v := ?_) rfl rfl (by kernel_rfl) (by kernel_rfl) (by kernel_rfl) (fun _ _ _ h => h) (by rfl) ?_ hS ?_
            rotate_left 1
            · (intro w hSw; (try dsimp only at hSw); (try go_split_ands); go_simp; try with_reducible rfl)
            simp only [List.setIfInBounds_toArray, List.set_cons_zero, List.set_cons_succ]
            refine wpAnyH_done (by kernel_rfl) ?_ _
            clear hS
            obtain ⟨cG11_0, cG11_1, cG11_2⟩ := aggCells (t := 25) (v := (⟨s1, x1, t1⟩ : Fares.Sum)) Hbx11.out
            obtain ⟨cW011_0, cW011_1, cW011_2⟩ := aggCells (t := 25) (v := (⟨s1, x1, t1⟩ : Fares.Sum)) HW011.out
            dsimp only at cG11_0 cG11_1 cG11_2 cW011_0 cW011_1 cW011_2
            go_wp2_with fail
            refine (C3.out _).mono ?_
            rintro e w12 ⟨rfl, hb12⟩
            clear cG11_0 cG11_1 cG11_2 cW011_0 cW011_1 cW011_2
            have hz12 : w11.heap.size ≤ w12.heap.size := by have := hb12.size; (try simp at this); omega
            have HB12 := Lib.hid (bT HB11.out hb12)
            clear HB11
            have HP12 := Lib.hid (Blk.belowAll HP11.out hb12)
            clear HP11
            have HE12 := Lib.hid (Blk.belowAll HE11.out hb12)
            clear HE11
            have HW012 := Lib.hid (Blk.belowAll HW011.out hb12)
            clear HW011
            have HG12 := Lib.hid (Blk.belowAll Hbx11.out hb12)
            clear Hbx11
            clear hb12
            cases ok <;> (go_wp2; go_ret; exact ⟨rfl, HB12.out⟩)
        · go_simp
          generalize hW : World.alloc _ _ = w7
          have hbx7 : Blk w7 w6.heap.size 25 (AggR.cells (⟨0, 0, 0⟩ : Fares.Sum)) := by rw [← hW]; exact Blk.new' (by simp)
          have hb7 : Below w6.heap.size w6 w7 := by rw [← hW]; exact bA (Below.refl _ _) _
          have hy7 : w6.heap.size < w7.heap.size := by rw [← hW]; simp
          clear hW
          have hz7 : w6.heap.size ≤ w7.heap.size := by have := hb7.size; (try simp at this); omega
          have HB7 := Lib.hid (bT HB6.out hb7)
          clear HB6
          have HP7 := Lib.hid (Blk.belowAll HP6.out hb7)
          clear HP6
          have HE7 := Lib.hid (Blk.belowAll HE6.out hb7)
          clear HE6
          have HW07 := Lib.hid (Blk.belowAll Hbx6.out hb7)
          clear Hbx6
          clear hb7
          have Hbx7 := Lib.hid hbx7; clear hbx7
          obtain ⟨cG7_0, cG7_1, cG7_2⟩ := aggCells (t := 25) (v := (⟨0, 0, 0⟩ : Fares.Sum)) (blkDrew Hbx7.out)
          have frG7_0 := ((blkDrew Hbx7.out)).free 0
          have frG7_1 := ((blkDrew Hbx7.out)).free 1
          have frG7_2 := ((blkDrew Hbx7.out)).free 2
          refine hK.out _ _ (by exact ⟨aggCells (blkDrew HP7.out), evtCells (blkDrew HE7.out)⟩) (fun hS => ?_)
          clear hK K
          refine wpAnyH_ready (rs := [1]) (by kernel_rfl) (by simp) ?_
          refine AllReadyH.cons rfl (fun K hK => ?_) (AllReadyH.nil)
          go_simp
          go_wp2_with fail
          refine (C0.out _).mono ?_
          rintro e w8 ⟨rfl, hb8⟩
          clear cG7_0 cG7_1 cG7_2 frG7_0 frG7_1 frG7_2
          have hz8 : w7.heap.size ≤ w8.heap.size := by have := hb8.size; (try simp at this); omega
          have HB8 := Lib.hid (bT (bD1 HB7.out) hb8)
          clear HB7
          have HP8 := Lib.hid (Blk.belowAll (blkDrew HP7.out) hb8)
          clear HP7
          have HE8 := Lib.hid (Blk.belowAll (blkDrew HE7.out) hb8)
          clear HE7
          have HW08 := Lib.hid (Blk.belowAll (blkDrew HW07.out) hb8)
          clear HW07
          have HG8 := Lib.hid (Blk.belowAll (blkDrew Hbx7.out) hb8)
          clear Hbx7
          clear hb8
          obtain ⟨cG8_0, cG8_1, cG8_2⟩ := aggCells (t := 25) (v := (⟨0, 0, 0⟩ : Fares.Sum)) HG8.out
          have frG8_0 := (HG8.out).free 0
          have frG8_1 := (HG8.out).free 1
          have frG8_2 := (HG8.out).free 2
          go_simp
          refine hK.out _ _ (by exact ⟨aggCells HP8.out, evtCells HE8.out⟩) (fun hS => ?_)
          clear hK K
          refine wpAnyH_ready (rs := [3]) (by kernel_rfl) (by simp) ?_
          refine AllReadyH.cons rfl (fun K hK => ?_) (AllReadyH.nil)
          go_simp
          go_wp2_with fail
          refine (CE.out _).mono ?_
          rintro e w9 ⟨rfl, hb9⟩
          clear cG8_0 cG8_1 cG8_2 frG8_0 frG8_1 frG8_2
          have hz9 : w8.heap.size ≤ w9.heap.size := by have := hb9.size; (try simp at this); omega
          have HB9 := Lib.hid (bT HB8.out hb9)
          clear HB8
          have HP9 := Lib.hid (Blk.belowAll HP8.out hb9)
          clear HP8
          have HE9 := Lib.hid (Blk.belowAll HE8.out hb9)
          clear HE8
          have HW09 := Lib.hid (Blk.belowAll HW08.out hb9)
          clear HW08
          have HG9 := Lib.hid (Blk.belowAll HG8.out hb9)
          clear HG8
          clear hb9
          obtain ⟨cG9_0, cG9_1, cG9_2⟩ := aggCells (t := 25) (v := (⟨0, 0, 0⟩ : Fares.Sum)) HG9.out
          have frG9_0 := (HG9.out).free 0
          have frG9_1 := (HG9.out).free 1
          have frG9_2 := (HG9.out).free 2
          go_simp
          refine hK.out _ _ (by exact ⟨aggCells HP9.out, evtCells HE9.out⟩) (fun hS => ?_)
          clear hK K
          refine wpAnyH_ready (rs := [4]) (by kernel_rfl) (by simp) ?_
          refine AllReadyH.cons rfl (fun K hK => ?_) (AllReadyH.nil)
          go_simp
          go_wp2_with fail
          refine (implStep_cells a0 a1 s1 x1 t1 ok HP.out _ (Limits.below HL.out HB9.out) (Steps.below HT.out HB9.out)).mono ?_
          rintro e w10 ⟨rfl, hb10⟩
          clear cG9_0 cG9_1 cG9_2 frG9_0 frG9_1 frG9_2
          have hz10 : w9.heap.size ≤ w10.heap.size := by have := hb10.size; (try simp at this); omega
          have HB10 := Lib.hid (bT HB9.out hb10)
          clear HB9
          have HP10 := Lib.hid (Blk.belowAll HP9.out hb10)
          clear HP9
          have HE10 := Lib.hid (Blk.belowAll HE9.out hb10)
          clear HE9
          have HW010 := Lib.hid (Blk.belowAll HW09.out hb10)
          clear HW09
          have HG10 := Lib.hid (Blk.belowAll HG9.out hb10)
          clear HG9
          clear hb10
          obtain ⟨cG10_0, cG10_1, cG10_2⟩ := aggCells (t := 25) (v := (⟨0, 0, 0⟩ : Fares.Sum)) HG10.out
          have frG10_0 := (HG10.out).free 0
          have frG10_1 := (HG10.out).free 1
          have frG10_2 := (HG10.out).free 2
          go_simp
          refine hK.out _ _ (by exact ⟨aggCells HP10.out, evtCells HE10.out⟩) (fun hS => ?_)
          clear hK K
          refine take_at 5 17 (v := ?_) rfl rfl (by kernel_rfl) (by kernel_rfl) (by kernel_rfl) (fun _ _ _ h => h) (by rfl) ?_ hS ?_
          rotate_left 1
          · (intro w hSw; (try dsimp only at hSw); (try go_split_ands); go_simp; try with_reducible rfl)
          simp only [List.setIfInBounds_toArray, List.set_cons_zero, List.set_cons_succ]
          refine take_at 6 23 (v := ?_) rfl rfl (by kernel_rfl) (by kernel_rfl) (by kernel_rfl) (fun _ _ _ h => h) (by rfl) ?_ hS ?_
          rotate_left 1
          · (intro w hSw; (try dsimp only at hSw); (try go_split_ands); go_simp; try with_reducible rfl)
          simp only [List.setIfInBounds_toArray, List.set_cons_zero, List.set_cons_succ]
          refine take_at 7 24 (v := ?_) rfl rfl (by kernel_rfl) (by kernel_rfl) (by kernel_rfl) (fun _ _ _ h => h) (by rfl) ?_ hS ?_
          rotate_left 1
          · (intro w hSw; (try dsimp only at hSw); (try go_split_ands); go_simp; try with_reducible rfl)
          simp only [List.setIfInBounds_toArray, List.set_cons_zero, List.set_cons_succ]
          refine wpAnyH_ready (rs := [9]) (by kernel_rfl) (by simp) ?_
          refine AllReadyH.cons rfl (fun K hK => ?_) (AllReadyH.nil)
          go_simp
          generalize hW : World.setCell _ _ _ = w11
          have ht11 : Touch (fun i => i = w6.heap.size) w10 w11 := by rw [← hW]; exact (Touch.far (K := fun i => i = w6.heap.size) (Touch.far (K := fun i => i = w6.heap.size) (Touch.far (K := fun i => i = w6.heap.size) (Touch.refl _ _) (p := ⟨w6.heap.size, 0, none⟩) rfl _) (p := ⟨w6.heap.size, 1, none⟩) rfl _) (p := ⟨w6.heap.size, 2, none⟩) rfl _)
          have hbx11 : Blk w11 (w6.heap.size) 25 (AggR.cells (⟨s1, x1, t1⟩ : Fares.Sum)) := by rw [← hW]; exact (Blk.put (Blk.put (Blk.put HG10.out 0 (.int .i64 s1)) 1 (.int .i64 x1)) 2 (.int .i64 t1))
          clear hW
          clear cG10_0 cG10_1 cG10_2 frG10_0 frG10_1 frG10_2
          have hz11 : w10.heap.size ≤ w11.heap.size := by have := ht11.size; (try simp at this); omega
          have HB11 := Lib.hid (Touch.below HB10.out ht11 (fun i hi => by omega))
          clear HB10
          have HP11 := Lib.hid (Blk.touch HP10.out ht11 (show ¬ (w.heap.size = w6.heap.size) by omega))
          clear HP10
          have HE11 := Lib.hid (Blk.touch HE10.out ht11 (show ¬ (w.heap.size + 1 = w6.heap.size) by omega))
          clear HE10
          have HW011 := Lib.hid (Blk.touch HW010.out ht11 (show ¬ (w4.heap.size = w6.heap.size) by omega))
          clear HW010
          clear ht11 HG10
          have Hbx11 := Lib.hid hbx11; clear hbx11
          refine hK.out _ _ (by exact ⟨aggCells HP11.out, evtCells HE11.out⟩) (fun hS => ?_)
          clear hK K
          refine take_at 10 8 (v := ?_) rfl rfl (by kernel_rfl) (by kernel_rfl) (by kernel_rfl) (fun _ _ _ h => h) (by rfl) ?_ hS ?_
          rotate_left 1
          · (intro w hSw; (try dsimp only at hSw); (try go_split_ands); go_simp; try with_reducible rfl)
          simp only [List.setIfInBounds_toArray, List.set_cons_zero, List.set_cons_succ]
          refine wpAnyH_done (by kernel_rfl) ?_ _
          clear hS
          obtain ⟨cG11_0, cG11_1, cG11_2⟩ := aggCells (t := 25) (v := (⟨s1, x1, t1⟩ : Fares.Sum)) Hbx11.out
          obtain ⟨cW011_0, cW011_1, cW011_2⟩ := aggCells (t := 25) (v := (⟨s1, x1, t1⟩ : Fares.Sum)) HW011.out
          dsimp only at cG11_0 cG11_1 cG11_2 cW011_0 cW011_1 cW011_2
          go_wp2_with fail
          refine (C3.out _).mono ?_
          rintro e w12 ⟨rfl, hb12⟩
          clear cG11_0 cG11_1 cG11_2 cW011_0 cW011_1 cW011_2
          have hz12 : w11.heap.size ≤ w12.heap.size := by have := hb12.size; (try simp at this); omega
          have HB12 := Lib.hid (bT HB11.out hb12)
          clear HB11
          have HP12 := Lib.hid (Blk.belowAll HP11.out hb12)
          clear HP11
          have HE12 := Lib.hid (Blk.belowAll HE11.out hb12)
          clear HE11
          have HW012 := Lib.hid (Blk.belowAll HW011.out hb12)
          clear HW011
          have HG12 := Lib.hid (Blk.belowAll Hbx11.out hb12)
          clear Hbx11
          clear hb12
          cases ok <;> (go_wp2; go_ret; exact ⟨rfl, HB12.out⟩)
      · go_simp
        generalize hW : World.alloc _ _ = w4
        have hbx4 : Blk w4 w3.heap.size 25 (AggR.cells (⟨0, 0, 0⟩ : Fares.Sum)) := by rw [← hW]; exact Blk.new' (by simp)
        have hb4 : Below w3.heap.size w3 w4 := by rw [← hW]; exact bA (Below.refl _ _) _
        have hy4 : w3.heap.size < w4.heap.size := by rw [← hW]; simp
        clear hW
        have hz4 : w3.heap.size ≤ w4.heap.size := by have := hb4.size; (try simp at this); omega
        have HB4 := Lib.hid (bT HB3.out hb4)
        clear HB3
        have HP4 := Lib.hid (Blk.belowAll HP3.out hb4)
        clear HP3
        have HE4 := Lib.hid (Blk.belowAll HE3.out hb4)
        clear HE3
        clear hb4
        have Hbx4 := Lib.hid hbx4; clear hbx4
        obtain ⟨cW04_0, cW04_1, cW04_2⟩ := aggCells (t := 25) (v := (⟨0, 0, 0⟩ : Fares.Sum)) Hbx4.out
        have frW04_0 := (Hbx4.out).free 0
        have frW04_1 := (Hbx4.out).free 1
        have frW04_2 := (Hbx4.out).free 2
        refine hK.out _ _ (by exact ⟨aggCells HP4.out, evtCells HE4.out⟩) (fun hS => ?_)
        clear hK K
        refine wpAnyH_ready (rs := [4]) (by kernel_rfl) (by simp) ?_
        refine AllReadyH.cons rfl (fun K hK => ?_) (AllReadyH.nil)
        go_simp
        go_wp2_with fail
        refine (specStep_cells a0 a1 s1 x1 t1 ok HP.out _).mono ?_
        rintro e w5 ⟨rfl, hb5⟩
        clear cW04_0 cW04_1 cW04_2 frW04_0 frW04_1 frW04_2
        have hz5 : w4.heap.size ≤ w5.heap.size := by have := hb5.size; (try simp at this); omega
        have HB5 := Lib.hid (bT HB4.out hb5)
        clear HB4
        have HP5 := Lib.hid (Blk.belowAll HP4.out hb5)
        clear HP4
        have HE5 := Lib.hid (Blk.belowAll HE4.out hb5)
        clear HE4
        have HW05 := Lib.hid (Blk.belowAll Hbx4.out hb5)
        clear Hbx4
        clear hb5
        obtain ⟨cW05_0, cW05_1, cW05_2⟩ := aggCells (t := 25) (v := (⟨0, 0, 0⟩ : Fares.Sum)) HW05.out
        have frW05_0 := (HW05.out).free 0
        have frW05_1 := (HW05.out).free 1
        have frW05_2 := (HW05.out).free 2
        go_simp
        refine hK.out _ _ (by exact ⟨aggCells HP5.out, evtCells HE5.out⟩) (fun hS => ?_)
        clear hK K
        refine take_at 5 9 (v := ?_) rfl rfl (by kernel_rfl) (by kernel_rfl) (by kernel_rfl) (fun _ _ _ h => h) (by rfl) ?_ hS ?_
        rotate_left 1
        · (intro w hSw; (try dsimp only at hSw); (try go_split_ands); go_simp; try with_reducible rfl)
        simp only [List.setIfInBounds_toArray, List.set_cons_zero, List.set_cons_succ]
        refine take_at 6 15 (v := ?_) rfl rfl (by kernel_rfl) (by kernel_rfl) (by kernel_rfl) (fun _ _ _ h => h) (by rfl) ?_ hS ?_
        rotate_left 1
        · (intro w hSw; (try dsimp only at hSw); (try go_split_ands); go_simp; try with_reducible rfl)
        simp only [List.setIfInBounds_toArray, List.set_cons_zero, List.set_cons_succ]
        refine take_at 7 16 (v := ?_) rfl rfl (by kernel_rfl) (by kernel_rfl) (by kernel_rfl) (fun _ _ _ h => h) (by rfl) ?_ hS ?_
        rotate_left 1
        · (intro w hSw; (try dsimp only at hSw); (try go_split_ands); go_simp; try with_reducible rfl)
        simp only [List.setIfInBounds_toArray, List.set_cons_zero, List.set_cons_succ]
        refine wpAnyH_ready (rs := [9]) (by kernel_rfl) (by simp) ?_
        refine AllReadyH.cons rfl (fun K hK => ?_) (AllReadyH.nil)
        go_simp
        generalize hW : World.setCell _ _ _ = w6
        have ht6 : Touch (fun i => i = w3.heap.size) w5 w6 := by rw [← hW]; exact (Touch.far (K := fun i => i = w3.heap.size) (Touch.far (K := fun i => i = w3.heap.size) (Touch.far (K := fun i => i = w3.heap.size) (Touch.refl _ _) (p := ⟨w3.heap.size, 0, none⟩) rfl _) (p := ⟨w3.heap.size, 1, none⟩) rfl _) (p := ⟨w3.heap.size, 2, none⟩) rfl _)
        have hbx6 : Blk w6 (w3.heap.size) 25 (AggR.cells (⟨s1, x1, t1⟩ : Fares.Sum)) := by rw [← hW]; exact (Blk.put (Blk.put (Blk.put HW05.out 0 (.int .i64 s1)) 1 (.int .i64 x1)) 2 (.int .i64 t1))
        clear hW
        clear cW05_0 cW05_1 cW05_2 frW05_0 frW05_1 frW05_2
        have hz6 : w5.heap.size ≤ w6.heap.size := by have := ht6.size; (try simp at this); omega
        have HB6 := Lib.hid (Touch.below HB5.out ht6 (fun i hi => by omega))
        clear HB5
        have HP6 := Lib.hid (Blk.touch HP5.out ht6 (show ¬ (w.heap.size = w3.heap.size) by omega))
        clear HP5
        have HE6 := Lib.hid (Blk.touch HE5.out ht6 (show ¬ (w.heap.size + 1 = w3.heap.size) by omega))
        clear HE5
        clear ht6 HW05
        have Hbx6 := Lib.hid hbx6; clear hbx6
        refine hK.out _ _ (by exact ⟨aggCells HP6.out, evtCells HE6.out⟩) (fun hS => ?_)
        clear hK K
        refine take_at 10 6 (v := ?_) rfl rfl (by kernel_rfl) (by kernel_rfl) (by kernel_rfl) (fun _ _ _ h => h) (by rfl) ?_ hS ?_
        rotate_left 1
        · (intro w hSw; (try dsimp only at hSw); (try go_split_ands); go_simp; try with_reducible rfl)
        simp only [List.setIfInBounds_toArray, List.set_cons_zero, List.set_cons_succ]
        refine wpAnyH_done (by kernel_rfl) ?_ _
        clear hS
        go_wp2
        refine wp_region_held_drew (S := fun w' => (w'.cell? ⟨w.heap.size, 0, none⟩ = some (.int .i64 a0.s) ∧ w'.cell? ⟨w.heap.size, 1, none⟩ = some (.int .i64 a0.a) ∧ w'.cell? ⟨w.heap.size, 2, none⟩ = some (.int .i64 a0.t)) ∧ w'.cell? ⟨w.heap.size + 1, 0, none⟩ = some (.int .i64 a1.k) ∧ w'.cell? ⟨w.heap.size + 1, 1, none⟩ = some (.int .i64 a1.a)) (by kernel_rfl) (by exact ⟨aggCells HP6.out, evtCells HE6.out⟩) (fun hS => ?_)
        refine take_at 0 18 (v := ?_) rfl rfl (by kernel_rfl) (by kernel_rfl) (by kernel_rfl) (fun _ _ _ h => h) (by rfl) ?_ hS ?_
        rotate_left 1
        · (intro w hSw; (try dsimp only at hSw); (try go_split_ands); go_simp; try with_reducible rfl)
        simp only [List.setIfInBounds_toArray, List.set_cons_zero, List.set_cons_succ]
        refine take_at 2 20 (v := ?_) rfl rfl (by kernel_rfl) (by kernel_rfl) (by kernel_rfl) (fun _ _ _ h => h) (by rfl) ?_ hS ?_
        rotate_left 1
        · (intro w hSw; (try dsimp only at hSw); (try go_split_ands); go_simp; try with_reducible rfl)
        simp only [List.setIfInBounds_toArray, List.set_cons_zero, List.set_cons_succ]
        refine wpAnyH_ready (rs := [1, 8]) (by kernel_rfl) (by simp) ?_
        refine AllReadyH.cons rfl (fun K hK => ?_) (AllReadyH.cons rfl (fun K hK => ?_) (AllReadyH.nil))
        · go_simp
          go_wp2_with fail
          refine (C0.out _).mono ?_
          rintro e w7 ⟨rfl, hb7⟩
          have hz7 : w6.heap.size ≤ w7.heap.size := by have := hb7.size; (try simp at this); omega
          have HB7 := Lib.hid (bT (bD1 HB6.out) hb7)
          clear HB6
          have HP7 := Lib.hid (Blk.belowAll (blkDrew HP6.out) hb7)
          clear HP6
          have HE7 := Lib.hid (Blk.belowAll (blkDrew HE6.out) hb7)
          clear HE6
          have HW07 := Lib.hid (Blk.belowAll (blkDrew Hbx6.out) hb7)
          clear Hbx6
          clear hb7
          go_simp
          refine hK.out _ _ (by exact ⟨aggCells HP7.out, evtCells HE7.out⟩) (fun hS => ?_)
          clear hK K
          refine wpAnyH_ready (rs := [3, 8]) (by kernel_rfl) (by simp) ?_
          refine AllReadyH.cons rfl (fun K hK => ?_) (AllReadyH.cons rfl (fun K hK => ?_) (AllReadyH.nil))
          · go_simp
            go_wp2_with fail
            refine (CE.out _).mono ?_
            rintro e w8 ⟨rfl, hb8⟩
            have hz8 : w7.heap.size ≤ w8.heap.size := by have := hb8.size; (try simp at this); omega
            have HB8 := Lib.hid (bT HB7.out hb8)
            clear HB7
            have HP8 := Lib.hid (Blk.belowAll HP7.out hb8)
            clear HP7
            have HE8 := Lib.hid (Blk.belowAll HE7.out hb8)
            clear HE7
            have HW08 := Lib.hid (Blk.belowAll HW07.out hb8)
            clear HW07
            clear hb8
            go_simp
            refine hK.out _ _ (by exact ⟨aggCells HP8.out, evtCells HE8.out⟩) (fun hS => ?_)
            clear hK K
            refine wpAnyH_ready (rs := [4, 8]) (by kernel_rfl) (by simp) ?_
            refine AllReadyH.cons rfl (fun K hK => ?_) (AllReadyH.cons rfl (fun K hK => ?_) (AllReadyH.nil))
            · go_simp
              go_wp2_with fail
              refine (implStep_cells a0 a1 s1 x1 t1 ok HP.out _ (Limits.below HL.out HB8.out) (Steps.below HT.out HB8.out)).mono ?_
              rintro e w9 ⟨rfl, hb9⟩
              have hz9 : w8.heap.size ≤ w9.heap.size := by have := hb9.size; (try simp at this); omega
              have HB9 := Lib.hid (bT HB8.out hb9)
              clear HB8
              have HP9 := Lib.hid (Blk.belowAll HP8.out hb9)
              clear HP8
              have HE9 := Lib.hid (Blk.belowAll HE8.out hb9)
              clear HE8
              have HW09 := Lib.hid (Blk.belowAll HW08.out hb9)
              clear HW08
              clear hb9
              go_simp
              refine hK.out _ _ (by exact ⟨aggCells HP9.out, evtCells HE9.out⟩) (fun hS => ?_)
              clear hK K
              refine take_at 5 17 (v := ?_) rfl rfl (by kernel_rfl) (by kernel_rfl) (by kernel_rfl) (fun _ _ _ h => h) (by rfl) ?_ hS ?_
              rotate_left 1
              · (intro w hSw; (try dsimp only at hSw); (try go_split_ands); go_simp; try with_reducible rfl)
              simp only [List.setIfInBounds_toArray, List.set_cons_zero, List.set_cons_succ]
              refine take_at 6 23 (v := ?_) rfl rfl (by kernel_rfl) (by kernel_rfl) (by kernel_rfl) (fun _ _ _ h => h) (by rfl) ?_ hS ?_
              rotate_left 1
              · (intro w hSw; (try dsimp only at hSw); (try go_split_ands); go_simp; try with_reducible rfl)
              simp only [List.setIfInBounds_toArray, List.set_cons_zero, List.set_cons_succ]
              refine take_at 7 24 (v := ?_) rfl rfl (by kernel_rfl) (by kernel_rfl) (by kernel_rfl) (fun _ _ _ h => h) (by rfl) ?_ hS ?_
              rotate_left 1
              · (intro w hSw; (try dsimp only at hSw); (try go_split_ands); go_simp; try with_reducible rfl)
              simp only [List.setIfInBounds_toArray, List.set_cons_zero, List.set_cons_succ]
              refine wpAnyH_ready (rs := [8]) (by kernel_rfl) (by simp) ?_
              refine AllReadyH.cons rfl (fun K hK => ?_) (AllReadyH.nil)
              go_simp
              generalize hW : World.alloc _ _ = w10
              have hbx10 : Blk w10 w9.heap.size 25 (AggR.cells (⟨0, 0, 0⟩ : Fares.Sum)) := by rw [← hW]; exact Blk.new' (by simp)
              have hb10 : Below w9.heap.size w9 w10 := by rw [← hW]; exact bA (Below.refl _ _) _
              have hy10 : w9.heap.size < w10.heap.size := by rw [← hW]; simp
              clear hW
              have hz10 : w9.heap.size ≤ w10.heap.size := by have := hb10.size; (try simp at this); omega
              have HB10 := Lib.hid (bT HB9.out hb10)
              clear HB9
              have HP10 := Lib.hid (Blk.belowAll HP9.out hb10)
              clear HP9
              have HE10 := Lib.hid (Blk.belowAll HE9.out hb10)
              clear HE9
              have HW010 := Lib.hid (Blk.belowAll HW09.out hb10)
              clear HW09
              clear hb10
              have Hbx10 := Lib.hid hbx10; clear hbx10
              obtain ⟨cG10_0, cG10_1, cG10_2⟩ := aggCells (t := 25) (v := (⟨0, 0, 0⟩ : Fares.Sum)) Hbx10.out
              have frG10_0 := (Hbx10.out).free 0
              have frG10_1 := (Hbx10.out).free 1
              have frG10_2 := (Hbx10.out).free 2
              refine hK.out _ _ (by exact ⟨aggCells HP10.out, evtCells HE10.out⟩) (fun hS => ?_)
              clear hK K
              refine wpAnyH_ready (rs := [9]) (by kernel_rfl) (by simp) ?_
              refine AllReadyH.cons rfl (fun K hK => ?_) (AllReadyH.nil)
              go_simp
              generalize hW : World.setCell _ _ _ = w11
              have ht11 : Touch (fun i => i = w9.heap.size) w10 w11 := by rw [← hW]; exact (Touch.far (K := fun i => i = w9.heap.size) (Touch.far (K := fun i => i = w9.heap.size) (Touch.far (K := fun i => i = w9.heap.size) (Touch.refl _ _) (p := ⟨w9.heap.size, 0, none⟩) rfl _) (p := ⟨w9.heap.size, 1, none⟩) rfl _) (p := ⟨w9.heap.size, 2, none⟩) rfl _)
              have hbx11 : Blk w11 (w9.heap.size) 25 (AggR.cells (⟨s1, x1, t1⟩ : Fares.Sum)) := by rw [← hW]; exact (Blk.put (Blk.put (Blk.put Hbx10.out 0 (.int .i64 s1)) 1 (.int .i64 x1)) 2 (.int .i64 t1))
              clear hW
              clear cG10_0 cG10_1 cG10_2 frG10_0 frG10_1 frG10_2
              have hz11 : w10.heap.size ≤ w11.heap.size := by have := ht11.size; (try simp at this); omega
              have HB11 := Lib.hid (Touch.below HB10.out ht11 (fun i hi => by omega))
              clear HB10
              have HP11 := Lib.hid (Blk.touch HP10.out ht11 (show ¬ (w.heap.size = w9.heap.size) by omega))
              clear HP10
              have HE11 := Lib.hid (Blk.touch HE10.out ht11 (show ¬ (w.heap.size + 1 = w9.heap.size) by omega))
              clear HE10
              have HW011 := Lib.hid (Blk.touch HW010.out ht11 (show ¬ (w3.heap.size = w9.heap.size) by omega))
              clear HW010
              clear ht11 Hbx10
              have Hbx11 := Lib.hid hbx11; clear hbx11
              refine hK.out _ _ (by exact ⟨aggCells HP11.out, evtCells HE11.out⟩) (fun hS => ?_)
              clear hK K
              refine take_at 10 8 (v := ?_) rfl rfl (by kernel_rfl) (by kernel_rfl) (by kernel_rfl) (fun _ _ _ h => h) (by rfl) ?_ hS ?_
              rotate_left 1
              · (intro w hSw; (try dsimp only at hSw); (try go_split_ands); go_simp; try with_reducible rfl)
              simp only [List.setIfInBounds_toArray, List.set_cons_zero, List.set_cons_succ]
              refine wpAnyH_done (by kernel_rfl) ?_ _
              clear hS
              obtain ⟨cG11_0, cG11_1, cG11_2⟩ := aggCells (t := 25) (v := (⟨s1, x1, t1⟩ : Fares.Sum)) Hbx11.out
              obtain ⟨cW011_0, cW011_1, cW011_2⟩ := aggCells (t := 25) (v := (⟨s1, x1, t1⟩ : Fares.Sum)) HW011.out
              dsimp only at cG11_0 cG11_1 cG11_2 cW011_0 cW011_1 cW011_2
              go_wp2_with fail
              refine (C3.out _).mono ?_
              rintro e w12 ⟨rfl, hb12⟩
              clear cG11_0 cG11_1 cG11_2 cW011_0 cW011_1 cW011_2
              have hz12 : w11.heap.size ≤ w12.heap.size := by have := hb12.size; (try simp at this); omega
              have HB12 := Lib.hid (bT HB11.out hb12)
              clear HB11
              have HP12 := Lib.hid (Blk.belowAll HP11.out hb12)
              clear HP11
              have HE12 := Lib.hid (Blk.belowAll HE11.out hb12)
              clear HE11
              have HW012 := Lib.hid (Blk.belowAll HW011.out hb12)
              clear HW011
              have HG12 := Lib.hid (Blk.belowAll Hbx11.out hb12)
              clear Hbx11
              clear hb12
              cases ok <;> (go_wp2; go_ret; exact ⟨rfl, HB12.out⟩)
            · go_simp
              generalize hW : World.alloc _ _ = w9
              have hbx9 : Blk w9 w8.heap.size 25 (AggR.cells (⟨0, 0, 0⟩ : Fares.Sum)) := by rw [← hW]; exact Blk.new' (by simp)
              have hb9 : Below w8.heap.size w8 w9 := by rw [← hW]; exact bA (Below.refl _ _) _
              have hy9 : w8.heap.size < w9.heap.size := by rw [← hW]; simp
              clear hW
              have hz9 : w8.heap.size ≤ w9.heap.size := by have := hb9.size; (try simp at this); omega
              have HB9 := Lib.hid (bT HB8.out hb9)
              clear HB8
              have HP9 := Lib.hid (Blk.belowAll HP8.out hb9)
              clear HP8
              have HE9 := Lib.hid (Blk.belowAll HE8.out hb9)
              clear HE8
              have HW09 := Lib.hid (Blk.belowAll HW08.out hb9)
              clear HW08
              clear hb9
              have Hbx9 := Lib.hid hbx9; clear hbx9
              obtain ⟨cG9_0, cG9_1, cG9_2⟩ := aggCells (t := 25) (v := (⟨0, 0, 0⟩ : Fares.Sum)) Hbx9.out
              have frG9_0 := (Hbx9.out).free 0
              have frG9_1 := (Hbx9.out).free 1
              have frG9_2 := (Hbx9.out).free 2
              refine hK.out _ _ (by exact ⟨aggCells HP9.out, evtCells HE9.out⟩) (fun hS => ?_)
              clear hK K
              refine wpAnyH_ready (rs := [4]) (by kernel_rfl) (by simp) ?_
              refine AllReadyH.cons rfl (fun K hK => ?_) (AllReadyH.nil)
              go_simp
              go_wp2_with fail
              refine (implStep_cells a0 a1 s1 x1 t1 ok HP.out _ (Limits.below HL.out HB9.out) (Steps.below HT.out HB9.out)).mono ?_
              rintro e w10 ⟨rfl, hb10⟩
              clear cG9_0 cG9_1 cG9_2 frG9_0 frG9_1 frG9_2
              have hz10 : w9.heap.size ≤ w10.heap.size := by have := hb10.size; (try simp at this); omega
              have HB10 := Lib.hid (bT HB9.out hb10)
              clear HB9
              have HP10 := Lib.hid (Blk.belowAll HP9.out hb10)
              clear HP9
              have HE10 := Lib.hid (Blk.belowAll HE9.out hb10)
              clear HE9
              have HW010 := Lib.hid (Blk.belowAll HW09.out hb10)
              clear HW09
              have HG10 := Lib.hid (Blk.belowAll Hbx9.out hb10)
              clear Hbx9
              clear hb10
              obtain ⟨cG10_0, cG10_1, cG10_2⟩ := aggCells (t := 25) (v := (⟨0, 0, 0⟩ : Fares.Sum)) HG10.out
              have frG10_0 := (HG10.out).free 0
              have frG10_1 := (HG10.out).free 1
              have frG10_2 := (HG10.out).free 2
              go_simp
              refine hK.out _ _ (by exact ⟨aggCells HP10.out, evtCells HE10.out⟩) (fun hS => ?_)
              clear hK K
              refine take_at 5 17 (v := ?_) rfl rfl (by kernel_rfl) (by kernel_rfl) (by kernel_rfl) (fun _ _ _ h => h) (by rfl) ?_ hS ?_
              rotate_left 1
              · (intro w hSw; (try dsimp only at hSw); (try go_split_ands); go_simp; try with_reducible rfl)
              simp only [List.setIfInBounds_toArray, List.set_cons_zero, List.set_cons_succ]
              refine take_at 6 23 (v := ?_) rfl rfl (by kernel_rfl) (by kernel_rfl) (by kernel_rfl) (fun _ _ _ h => h) (by rfl) ?_ hS ?_
              rotate_left 1
              · (intro w hSw; (try dsimp only at hSw); (try go_split_ands); go_simp; try with_reducible rfl)
              simp only [List.setIfInBounds_toArray, List.set_cons_zero, List.set_cons_succ]
              refine take_at 7 24 (v := ?_) rfl rfl (by kernel_rfl) (by kernel_rfl) (by kernel_rfl) (fun _ _ _ h => h) (by rfl) ?_ hS ?_
              rotate_left 1
              · (intro w hSw; (try dsimp only at hSw); (try go_split_ands); go_simp; try with_reducible rfl)
              simp only [List.setIfInBounds_toArray, List.set_cons_zero, List.set_cons_succ]
              refine wpAnyH_ready (rs := [9]) (by kernel_rfl) (by simp) ?_
              refine AllReadyH.cons rfl (fun K hK => ?_) (AllReadyH.nil)
              go_simp
              generalize hW : World.setCell _ _ _ = w11
              have ht11 : Touch (fun i => i = w8.heap.size) w10 w11 := by rw [← hW]; exact (Touch.far (K := fun i => i = w8.heap.size) (Touch.far (K := fun i => i = w8.heap.size) (Touch.far (K := fun i => i = w8.heap.size) (Touch.refl _ _) (p := ⟨w8.heap.size, 0, none⟩) rfl _) (p := ⟨w8.heap.size, 1, none⟩) rfl _) (p := ⟨w8.heap.size, 2, none⟩) rfl _)
              have hbx11 : Blk w11 (w8.heap.size) 25 (AggR.cells (⟨s1, x1, t1⟩ : Fares.Sum)) := by rw [← hW]; exact (Blk.put (Blk.put (Blk.put HG10.out 0 (.int .i64 s1)) 1 (.int .i64 x1)) 2 (.int .i64 t1))
              clear hW
              clear cG10_0 cG10_1 cG10_2 frG10_0 frG10_1 frG10_2
              have hz11 : w10.heap.size ≤ w11.heap.size := by have := ht11.size; (try simp at this); omega
              have HB11 := Lib.hid (Touch.below HB10.out ht11 (fun i hi => by omega))
              clear HB10
              have HP11 := Lib.hid (Blk.touch HP10.out ht11 (show ¬ (w.heap.size = w8.heap.size) by omega))
              clear HP10
              have HE11 := Lib.hid (Blk.touch HE10.out ht11 (show ¬ (w.heap.size + 1 = w8.heap.size) by omega))
              clear HE10
              have HW011 := Lib.hid (Blk.touch HW010.out ht11 (show ¬ (w3.heap.size = w8.heap.size) by omega))
              clear HW010
              clear ht11 HG10
              have Hbx11 := Lib.hid hbx11; clear hbx11
              refine hK.out _ _ (by exact ⟨aggCells HP11.out, evtCells HE11.out⟩) (fun hS => ?_)
              clear hK K
              refine take_at 10 8 (v := ?_) rfl rfl (by kernel_rfl) (by kernel_rfl) (by kernel_rfl) (fun _ _ _ h => h) (by rfl) ?_ hS ?_
              rotate_left 1
              · (intro w hSw; (try dsimp only at hSw); (try go_split_ands); go_simp; try with_reducible rfl)
              simp only [List.setIfInBounds_toArray, List.set_cons_zero, List.set_cons_succ]
              refine wpAnyH_done (by kernel_rfl) ?_ _
              clear hS
              obtain ⟨cG11_0, cG11_1, cG11_2⟩ := aggCells (t := 25) (v := (⟨s1, x1, t1⟩ : Fares.Sum)) Hbx11.out
              obtain ⟨cW011_0, cW011_1, cW011_2⟩ := aggCells (t := 25) (v := (⟨s1, x1, t1⟩ : Fares.Sum)) HW011.out
              dsimp only at cG11_0 cG11_1 cG11_2 cW011_0 cW011_1 cW011_2
              go_wp2_with fail
              refine (C3.out _).mono ?_
              rintro e w12 ⟨rfl, hb12⟩
              clear cG11_0 cG11_1 cG11_2 cW011_0 cW011_1 cW011_2
              have hz12 : w11.heap.size ≤ w12.heap.size := by have := hb12.size; (try simp at this); omega
              have HB12 := Lib.hid (bT HB11.out hb12)
              clear HB11
              have HP12 := Lib.hid (Blk.belowAll HP11.out hb12)
              clear HP11
              have HE12 := Lib.hid (Blk.belowAll HE11.out hb12)
              clear HE11
              have HW012 := Lib.hid (Blk.belowAll HW011.out hb12)
              clear HW011
              have HG12 := Lib.hid (Blk.belowAll Hbx11.out hb12)
              clear Hbx11
              clear hb12
              cases ok <;> (go_wp2; go_ret; exact ⟨rfl, HB12.out⟩)
          · go_simp
            generalize hW : World.alloc _ _ = w8
            have hbx8 : Blk w8 w7.heap.size 25 (AggR.cells (⟨0, 0, 0⟩ : Fares.Sum)) := by rw [← hW]; exact Blk.new' (by simp)
            have hb8 : Below w7.heap.size w7 w8 := by rw [← hW]; exact bA (Below.refl _ _) _
            have hy8 : w7.heap.size < w8.heap.size := by rw [← hW]; simp
            clear hW
            have hz8 : w7.heap.size ≤ w8.heap.size := by have := hb8.size; (try simp at this); omega
            have HB8 := Lib.hid (bT HB7.out hb8)
            clear HB7
            have HP8 := Lib.hid (Blk.belowAll HP7.out hb8)
            clear HP7
            have HE8 := Lib.hid (Blk.belowAll HE7.out hb8)
            clear HE7
            have HW08 := Lib.hid (Blk.belowAll HW07.out hb8)
            clear HW07
            clear hb8
            have Hbx8 := Lib.hid hbx8; clear hbx8
            obtain ⟨cG8_0, cG8_1, cG8_2⟩ := aggCells (t := 25) (v := (⟨0, 0, 0⟩ : Fares.Sum)) Hbx8.out
            have frG8_0 := (Hbx8.out).free 0
            have frG8_1 := (Hbx8.out).free 1
            have frG8_2 := (Hbx8.out).free 2
            refine hK.out _ _ (by exact ⟨aggCells HP8.out, evtCells HE8.out⟩) (fun hS => ?_)
            clear hK K
            refine wpAnyH_ready (rs := [3]) (by kernel_rfl) (by simp) ?_
            refine AllReadyH.cons rfl (fun K hK => ?_) (AllReadyH.nil)
            go_simp
            go_wp2_with fail
            refine (CE.out _).mono ?_
            rintro e w9 ⟨rfl, hb9⟩
            clear cG8_0 cG8_1 cG8_2 frG8_0 frG8_1 frG8_2
            have hz9 : w8.heap.size ≤ w9.heap.size := by have := hb9.size; (try simp at this); omega
            have HB9 := Lib.hid (bT HB8.out hb9)
            clear HB8
            have HP9 := Lib.hid (Blk.belowAll HP8.out hb9)
            clear HP8
            have HE9 := Lib.hid (Blk.belowAll HE8.out hb9)
            clear HE8
            have HW09 := Lib.hid (Blk.belowAll HW08.out hb9)
            clear HW08
            have HG9 := Lib.hid (Blk.belowAll Hbx8.out hb9)
            clear Hbx8
            clear hb9
            obtain ⟨cG9_0, cG9_1, cG9_2⟩ := aggCells (t := 25) (v := (⟨0, 0, 0⟩ : Fares.Sum)) HG9.out
            have frG9_0 := (HG9.out).free 0
            have frG9_1 := (HG9.out).free 1
            have frG9_2 := (HG9.out).free 2
            go_simp
            refine hK.out _ _ (by exact ⟨aggCells HP9.out, evtCells HE9.out⟩) (fun hS => ?_)
            clear hK K
            refine wpAnyH_ready (rs := [4]) (by kernel_rfl) (by simp) ?_
            refine AllReadyH.cons rfl (fun K hK => ?_) (AllReadyH.nil)
            go_simp
            go_wp2_with fail
            refine (implStep_cells a0 a1 s1 x1 t1 ok HP.out _ (Limits.below HL.out HB9.out) (Steps.below HT.out HB9.out)).mono ?_
            rintro e w10 ⟨rfl, hb10⟩
            clear cG9_0 cG9_1 cG9_2 frG9_0 frG9_1 frG9_2
            have hz10 : w9.heap.size ≤ w10.heap.size := by have := hb10.size; (try simp at this); omega
            have HB10 := Lib.hid (bT HB9.out hb10)
            clear HB9
            have HP10 := Lib.hid (Blk.belowAll HP9.out hb10)
            clear HP9
            have HE10 := Lib.hid (Blk.belowAll HE9.out hb10)
            clear HE9
            have HW010 := Lib.hid (Blk.belowAll HW09.out hb10)
            clear HW09
            have HG10 := Lib.hid (Blk.belowAll HG9.out hb10)
            clear HG9
            clear hb10
            obtain ⟨cG10_0, cG10_1, cG10_2⟩ := aggCells (t := 25) (v := (⟨0, 0, 0⟩ : Fares.Sum)) HG10.out
            have frG10_0 := (HG10.out).free 0
            have frG10_1 := (HG10.out).free 1
            have frG10_2 := (HG10.out).free 2
            go_simp
            refine hK.out _ _ (by exact ⟨aggCells HP10.out, evtCells HE10.out⟩) (fun hS => ?_)
            clear hK K
            refine take_at 5 17 (v := ?_) rfl rfl (by kernel_rfl) (by kernel_rfl) (by kernel_rfl) (fun _ _ _ h => h) (by rfl) ?_ hS ?_
            rotate_left 1
            · (intro w hSw; (try dsimp only at hSw); (try go_split_ands); go_simp; try with_reducible rfl)
            simp only [List.setIfInBounds_toArray, List.set_cons_zero, List.set_cons_succ]
            refine take_at 6 23 (v := ?_) rfl rfl (by kernel_rfl) (by kernel_rfl) (by kernel_rfl) (fun _ _ _ h => h) (by rfl) ?_ hS ?_
            rotate_left 1
            · (intro w hSw; (try dsimp only at hSw); (try go_split_ands); go_simp; try with_reducible rfl)
            simp only [List.setIfInBounds_toArray, List.set_cons_zero, List.set_cons_succ]
            refine take_at 7 24 (v := ?_) rfl rfl (by kernel_rfl) (by kernel_rfl) (by kernel_rfl) (fun _ _ _ h => h) (by rfl) ?_ hS ?_
            rotate_left 1
            · (intro w hSw; (try dsimp only at hSw); (try go_split_ands); go_simp; try with_reducible rfl)
            simp only [List.setIfInBounds_toArray, List.set_cons_zero, List.set_cons_succ]
            refine wpAnyH_ready (rs := [9]) (by kernel_rfl) (by simp) ?_
            refine AllReadyH.cons rfl (fun K hK => ?_) (AllReadyH.nil)
            go_simp
            generalize hW : World.setCell _ _ _ = w11
            have ht11 : Touch (fun i => i = w7.heap.size) w10 w11 := by rw [← hW]; exact (Touch.far (K := fun i => i = w7.heap.size) (Touch.far (K := fun i => i = w7.heap.size) (Touch.far (K := fun i => i = w7.heap.size) (Touch.refl _ _) (p := ⟨w7.heap.size, 0, none⟩) rfl _) (p := ⟨w7.heap.size, 1, none⟩) rfl _) (p := ⟨w7.heap.size, 2, none⟩) rfl _)
            have hbx11 : Blk w11 (w7.heap.size) 25 (AggR.cells (⟨s1, x1, t1⟩ : Fares.Sum)) := by rw [← hW]; exact (Blk.put (Blk.put (Blk.put HG10.out 0 (.int .i64 s1)) 1 (.int .i64 x1)) 2 (.int .i64 t1))
            clear hW
            clear cG10_0 cG10_1 cG10_2 frG10_0 frG10_1 frG10_2
            have hz11 : w10.heap.size ≤ w11.heap.size := by have := ht11.size; (try simp at this); omega
            have HB11 := Lib.hid (Touch.below HB10.out ht11 (fun i hi => by omega))
            clear HB10
            have HP11 := Lib.hid (Blk.touch HP10.out ht11 (show ¬ (w.heap.size = w7.heap.size) by omega))
            clear HP10
            have HE11 := Lib.hid (Blk.touch HE10.out ht11 (show ¬ (w.heap.size + 1 = w7.heap.size) by omega))
            clear HE10
            have HW011 := Lib.hid (Blk.touch HW010.out ht11 (show ¬ (w3.heap.size = w7.heap.size) by omega))
            clear HW010
            clear ht11 HG10
            have Hbx11 := Lib.hid hbx11; clear hbx11
            refine hK.out _ _ (by exact ⟨aggCells HP11.out, evtCells HE11.out⟩) (fun hS => ?_)
            clear hK K
            refine take_at 10 8 (v := ?_) rfl rfl (by kernel_rfl) (by kernel_rfl) (by kernel_rfl) (fun _ _ _ h => h) (by rfl) ?_ hS ?_
            rotate_left 1
            · (intro w hSw; (try dsimp only at hSw); (try go_split_ands); go_simp; try with_reducible rfl)
            simp only [List.setIfInBounds_toArray, List.set_cons_zero, List.set_cons_succ]
            refine wpAnyH_done (by kernel_rfl) ?_ _
            clear hS
            obtain ⟨cG11_0, cG11_1, cG11_2⟩ := aggCells (t := 25) (v := (⟨s1, x1, t1⟩ : Fares.Sum)) Hbx11.out
            obtain ⟨cW011_0, cW011_1, cW011_2⟩ := aggCells (t := 25) (v := (⟨s1, x1, t1⟩ : Fares.Sum)) HW011.out
            dsimp only at cG11_0 cG11_1 cG11_2 cW011_0 cW011_1 cW011_2
            go_wp2_with fail
            refine (C3.out _).mono ?_
            rintro e w12 ⟨rfl, hb12⟩
            clear cG11_0 cG11_1 cG11_2 cW011_0 cW011_1 cW011_2
            have hz12 : w11.heap.size ≤ w12.heap.size := by have := hb12.size; (try simp at this); omega
            have HB12 := Lib.hid (bT HB11.out hb12)
            clear HB11
            have HP12 := Lib.hid (Blk.belowAll HP11.out hb12)
            clear HP11
            have HE12 := Lib.hid (Blk.belowAll HE11.out hb12)
            clear HE11
            have HW012 := Lib.hid (Blk.belowAll HW011.out hb12)
            clear HW011
            have HG12 := Lib.hid (Blk.belowAll Hbx11.out hb12)
            clear Hbx11
            clear hb12
            cases ok <;> (go_wp2; go_ret; exact ⟨rfl, HB12.out⟩)
        · go_simp
          generalize hW : World.alloc _ _ = w7
          have hbx7 : Blk w7 w6.heap.size 25 (AggR.cells (⟨0, 0, 0⟩ : Fares.Sum)) := by rw [← hW]; exact Blk.new' (by simp)
          have hb7 : Below w6.heap.size w6 w7 := by rw [← hW]; exact bA (Below.refl _ _) _
          have hy7 : w6.heap.size < w7.heap.size := by rw [← hW]; simp
          clear hW
          have hz7 : w6.heap.size ≤ w7.heap.size := by have := hb7.size; (try simp at this); omega
          have HB7 := Lib.hid (bT HB6.out hb7)
          clear HB6
          have HP7 := Lib.hid (Blk.belowAll HP6.out hb7)
          clear HP6
          have HE7 := Lib.hid (Blk.belowAll HE6.out hb7)
          clear HE6
          have HW07 := Lib.hid (Blk.belowAll Hbx6.out hb7)
          clear Hbx6
          clear hb7
          have Hbx7 := Lib.hid hbx7; clear hbx7
          obtain ⟨cG7_0, cG7_1, cG7_2⟩ := aggCells (t := 25) (v := (⟨0, 0, 0⟩ : Fares.Sum)) (blkDrew Hbx7.out)
          have frG7_0 := ((blkDrew Hbx7.out)).free 0
          have frG7_1 := ((blkDrew Hbx7.out)).free 1
          have frG7_2 := ((blkDrew Hbx7.out)).free 2
          refine hK.out _ _ (by exact ⟨aggCells (blkDrew HP7.out), evtCells (blkDrew HE7.out)⟩) (fun hS => ?_)
          clear hK K
          refine wpAnyH_ready (rs := [1]) (by kernel_rfl) (by simp) ?_
          refine AllReadyH.cons rfl (fun K hK => ?_) (AllReadyH.nil)
          go_simp
          go_wp2_with fail
          refine (C0.out _).mono ?_
          rintro e w8 ⟨rfl, hb8⟩
          clear cG7_0 cG7_1 cG7_2 frG7_0 frG7_1 frG7_2
          have hz8 : w7.heap.size ≤ w8.heap.size := by have := hb8.size; (try simp at this); omega
          have HB8 := Lib.hid (bT (bD1 HB7.out) hb8)
          clear HB7
          have HP8 := Lib.hid (Blk.belowAll (blkDrew HP7.out) hb8)
          clear HP7
          have HE8 := Lib.hid (Blk.belowAll (blkDrew HE7.out) hb8)
          clear HE7
          have HW08 := Lib.hid (Blk.belowAll (blkDrew HW07.out) hb8)
          clear HW07
          have HG8 := Lib.hid (Blk.belowAll (blkDrew Hbx7.out) hb8)
          clear Hbx7
          clear hb8
          obtain ⟨cG8_0, cG8_1, cG8_2⟩ := aggCells (t := 25) (v := (⟨0, 0, 0⟩ : Fares.Sum)) HG8.out
          have frG8_0 := (HG8.out).free 0
          have frG8_1 := (HG8.out).free 1
          have frG8_2 := (HG8.out).free 2
          go_simp
          refine hK.out _ _ (by exact ⟨aggCells HP8.out, evtCells HE8.out⟩) (fun hS => ?_)
          clear hK K
          refine wpAnyH_ready (rs := [3]) (by kernel_rfl) (by simp) ?_
          refine AllReadyH.cons rfl (fun K hK => ?_) (AllReadyH.nil)
          go_simp
          go_wp2_with fail
          refine (CE.out _).mono ?_
          rintro e w9 ⟨rfl, hb9⟩
          clear cG8_0 cG8_1 cG8_2 frG8_0 frG8_1 frG8_2
          have hz9 : w8.heap.size ≤ w9.heap.size := by have := hb9.size; (try simp at this); omega
          have HB9 := Lib.hid (bT HB8.out hb9)
          clear HB8
          have HP9 := Lib.hid (Blk.belowAll HP8.out hb9)
          clear HP8
          have HE9 := Lib.hid (Blk.belowAll HE8.out hb9)
          clear HE8
          have HW09 := Lib.hid (Blk.belowAll HW08.out hb9)
          clear HW08
          have HG9 := Lib.hid (Blk.belowAll HG8.out hb9)
          clear HG8
          clear hb9
          obtain ⟨cG9_0, cG9_1, cG9_2⟩ := aggCells (t := 25) (v := (⟨0, 0, 0⟩ : Fares.Sum)) HG9.out
          have frG9_0 := (HG9.out).free 0
          have frG9_1 := (HG9.out).free 1
          have frG9_2 := (HG9.out).free 2
          go_simp
          refine hK.out _ _ (by exact ⟨aggCells HP9.out, evtCells HE9.out⟩) (fun hS => ?_)
          clear hK K
          refine wpAnyH_ready (rs := [4]) (by kernel_rfl) (by simp) ?_
          refine AllReadyH.cons rfl (fun K hK => ?_) (AllReadyH.nil)
          go_simp
          go_wp2_with fail
          refine (implStep_cells a0 a1 s1 x1 t1 ok HP.out _ (Limits.below HL.out HB9.out) (Steps.below HT.out HB9.out)).mono ?_
          rintro e w10 ⟨rfl, hb10⟩
          clear cG9_0 cG9_1 cG9_2 frG9_0 frG9_1 frG9_2
          have hz10 : w9.heap.size ≤ w10.heap.size := by have := hb10.size; (try simp at this); omega
          have HB10 := Lib.hid (bT HB9.out hb10)
          clear HB9
          have HP10 := Lib.hid (Blk.belowAll HP9.out hb10)
          clear HP9
          have HE10 := Lib.hid (Blk.belowAll HE9.out hb10)
          clear HE9
          have HW010 := Lib.hid (Blk.belowAll HW09.out hb10)
          clear HW09
          have HG10 := Lib.hid (Blk.belowAll HG9.out hb10)
          clear HG9
          clear hb10
          obtain ⟨cG10_0, cG10_1, cG10_2⟩ := aggCells (t := 25) (v := (⟨0, 0, 0⟩ : Fares.Sum)) HG10.out
          have frG10_0 := (HG10.out).free 0
          have frG10_1 := (HG10.out).free 1
          have frG10_2 := (HG10.out).free 2
          go_simp
          refine hK.out _ _ (by exact ⟨aggCells HP10.out, evtCells HE10.out⟩) (fun hS => ?_)
          clear hK K
          refine take_at 5 17 (v := ?_) rfl rfl (by kernel_rfl) (by kernel_rfl) (by kernel_rfl) (fun _ _ _ h => h) (by rfl) ?_ hS ?_
          rotate_left 1
          · (intro w hSw; (try dsimp only at hSw); (try go_split_ands); go_simp; try with_reducible rfl)
          simp only [List.setIfInBounds_toArray, List.set_cons_zero, List.set_cons_succ]
          refine take_at 6 23 (v := ?_) rfl rfl (by kernel_rfl) (by kernel_rfl) (by kernel_rfl) (fun _ _ _ h => h) (by rfl) ?_ hS ?_
          rotate_left 1
          · (intro w hSw; (try dsimp only at hSw); (try go_split_ands); go_simp; try with_reducible rfl)
          simp only [List.setIfInBounds_toArray, List.set_cons_zero, List.set_cons_succ]
          refine take_at 7 24 (v := ?_) rfl rfl (by kernel_rfl) (by kernel_rfl) (by kernel_rfl) (fun _ _ _ h => h) (by rfl) ?_ hS ?_
          rotate_left 1
          · (intro w hSw; (try dsimp only at hSw); (try go_split_ands); go_simp; try with_reducible rfl)
          simp only [List.setIfInBounds_toArray, List.set_cons_zero, List.set_cons_succ]
          refine wpAnyH_ready (rs := [9]) (by kernel_rfl) (by simp) ?_
          refine AllReadyH.cons rfl (fun K hK => ?_) (AllReadyH.nil)
          go_simp
          generalize hW : World.setCell _ _ _ = w11
          have ht11 : Touch (fun i => i = w6.heap.size) w10 w11 := by rw [← hW]; exact (Touch.far (K := fun i => i = w6.heap.size) (Touch.far (K := fun i => i = w6.heap.size) (Touch.far (K := fun i => i = w6.heap.size) (Touch.refl _ _) (p := ⟨w6.heap.size, 0, none⟩) rfl _) (p := ⟨w6.heap.size, 1, none⟩) rfl _) (p := ⟨w6.heap.size, 2, none⟩) rfl _)
          have hbx11 : Blk w11 (w6.heap.size) 25 (AggR.cells (⟨s1, x1, t1⟩ : Fares.Sum)) := by rw [← hW]; exact (Blk.put (Blk.put (Blk.put HG10.out 0 (.int .i64 s1)) 1 (.int .i64 x1)) 2 (.int .i64 t1))
          clear hW
          clear cG10_0 cG10_1 cG10_2 frG10_0 frG10_1 frG10_2
          have hz11 : w10.heap.size ≤ w11.heap.size := by have := ht11.size; (try simp at this); omega
          have HB11 := Lib.hid (Touch.below HB10.out ht11 (fun i hi => by omega))
          clear HB10
          have HP11 := Lib.hid (Blk.touch HP10.out ht11 (show ¬ (w.heap.size = w6.heap.size) by omega))
          clear HP10
          have HE11 := Lib.hid (Blk.touch HE10.out ht11 (show ¬ (w.heap.size + 1 = w6.heap.size) by omega))
          clear HE10
          have HW011 := Lib.hid (Blk.touch HW010.out ht11 (show ¬ (w3.heap.size = w6.heap.size) by omega))
          clear HW010
          clear ht11 HG10
          have Hbx11 := Lib.hid hbx11; clear hbx11
          refine hK.out _ _ (by exact ⟨aggCells HP11.out, evtCells HE11.out⟩) (fun hS => ?_)
          clear hK K
          refine take_at 10 8 (v := ?_) rfl rfl (by kernel_rfl) (by kernel_rfl) (by kernel_rfl) (fun _ _ _ h => h) (by rfl) ?_ hS ?_
          rotate_left 1
          · (intro w hSw; (try dsimp only at hSw); (try go_split_ands); go_simp; try with_reducible rfl)
          simp only [List.setIfInBounds_toArray, List.set_cons_zero, List.set_cons_succ]
          refine wpAnyH_done (by kernel_rfl) ?_ _
          clear hS
          obtain ⟨cG11_0, cG11_1, cG11_2⟩ := aggCells (t := 25) (v := (⟨s1, x1, t1⟩ : Fares.Sum)) Hbx11.out
          obtain ⟨cW011_0, cW011_1, cW011_2⟩ := aggCells (t := 25) (v := (⟨s1, x1, t1⟩ : Fares.Sum)) HW011.out
          dsimp only at cG11_0 cG11_1 cG11_2 cW011_0 cW011_1 cW011_2
          go_wp2_with fail
          refine (C3.out _).mono ?_
          rintro e w12 ⟨rfl, hb12⟩
          clear cG11_0 cG11_1 cG11_2 cW011_0 cW011_1 cW011_2
          have hz12 : w11.heap.size ≤ w12.heap.size := by have := hb12.size; (try simp at this); omega
          have HB12 := Lib.hid (bT HB11.out hb12)
          clear HB11
          have HP12 := Lib.hid (Blk.belowAll HP11.out hb12)
          clear HP11
          have HE12 := Lib.hid (Blk.belowAll HE11.out hb12)
          clear HE11
          have HW012 := Lib.hid (Blk.belowAll HW011.out hb12)
          clear HW011
          have HG12 := Lib.hid (Blk.belowAll Hbx11.out hb12)
          clear Hbx11
          clear hb12
          cases ok <;> (go_wp2; go_ret; exact ⟨rfl, HB12.out⟩)
    · go_simp
      generalize hW : World.alloc _ _ = w3
      have hbx3 : Blk w3 w2.heap.size 25 (AggR.cells (⟨0, 0, 0⟩ : Fares.Sum)) := by rw [← hW]; exact Blk.new' (by simp)
      have hb3 : Below w2.heap.size w2 w3 := by rw [← hW]; exact bA (Below.refl _ _) _
      have hy3 : w2.heap.size < w3.heap.size := by rw [← hW]; simp
      clear hW
      have hz3 : w2.heap.size ≤ w3.heap.size := by have := hb3.size; (try simp at this); omega
      have HB3 := Lib.hid (bT HB2.out hb3)
      clear HB2
      have HP3 := Lib.hid (Blk.belowAll HP2.out hb3)
      clear HP2
      have HE3 := Lib.hid (Blk.belowAll HE2.out hb3)
      clear HE2
      clear hb3
      have Hbx3 := Lib.hid hbx3; clear hbx3
      obtain ⟨cW03_0, cW03_1, cW03_2⟩ := aggCells (t := 25) (v := (⟨0, 0, 0⟩ : Fares.Sum)) Hbx3.out
      have frW03_0 := (Hbx3.out).free 0
      have frW03_1 := (Hbx3.out).free 1
      have frW03_2 := (Hbx3.out).free 2
      refine hK.out _ _ (by exact ⟨aggCells HP3.out, evtCells HE3.out⟩) (fun hS => ?_)
      clear hK K
      refine wpAnyH_ready (rs := [3]) (by kernel_rfl) (by simp) ?_
      refine AllReadyH.cons rfl (fun K hK => ?_) (AllReadyH.nil)
      go_simp
      go_wp2_with fail
      refine (CE.out _).mono ?_
      rintro e w4 ⟨rfl, hb4⟩
      clear cW03_0 cW03_1 cW03_2 frW03_0 frW03_1 frW03_2
      have hz4 : w3.heap.size ≤ w4.heap.size := by have := hb4.size; (try simp at this); omega
      have HB4 := Lib.hid (bT HB3.out hb4)
      clear HB3
      have HP4 := Lib.hid (Blk.belowAll HP3.out hb4)
      clear HP3
      have HE4 := Lib.hid (Blk.belowAll HE3.out hb4)
      clear HE3
      have HW04 := Lib.hid (Blk.belowAll Hbx3.out hb4)
      clear Hbx3
      clear hb4
      obtain ⟨cW04_0, cW04_1, cW04_2⟩ := aggCells (t := 25) (v := (⟨0, 0, 0⟩ : Fares.Sum)) HW04.out
      have frW04_0 := (HW04.out).free 0
      have frW04_1 := (HW04.out).free 1
      have frW04_2 := (HW04.out).free 2
      go_simp
      refine hK.out _ _ (by exact ⟨aggCells HP4.out, evtCells HE4.out⟩) (fun hS => ?_)
      clear hK K
      refine wpAnyH_ready (rs := [4]) (by kernel_rfl) (by simp) ?_
      refine AllReadyH.cons rfl (fun K hK => ?_) (AllReadyH.nil)
      go_simp
      go_wp2_with fail
      refine (specStep_cells a0 a1 s1 x1 t1 ok HP.out _).mono ?_
      rintro e w5 ⟨rfl, hb5⟩
      clear cW04_0 cW04_1 cW04_2 frW04_0 frW04_1 frW04_2
      have hz5 : w4.heap.size ≤ w5.heap.size := by have := hb5.size; (try simp at this); omega
      have HB5 := Lib.hid (bT HB4.out hb5)
      clear HB4
      have HP5 := Lib.hid (Blk.belowAll HP4.out hb5)
      clear HP4
      have HE5 := Lib.hid (Blk.belowAll HE4.out hb5)
      clear HE4
      have HW05 := Lib.hid (Blk.belowAll HW04.out hb5)
      clear HW04
      clear hb5
      obtain ⟨cW05_0, cW05_1, cW05_2⟩ := aggCells (t := 25) (v := (⟨0, 0, 0⟩ : Fares.Sum)) HW05.out
      have frW05_0 := (HW05.out).free 0
      have frW05_1 := (HW05.out).free 1
      have frW05_2 := (HW05.out).free 2
      go_simp
      refine hK.out _ _ (by exact ⟨aggCells HP5.out, evtCells HE5.out⟩) (fun hS => ?_)
      clear hK K
      refine take_at 5 9 (v := ?_) rfl rfl (by kernel_rfl) (by kernel_rfl) (by kernel_rfl) (fun _ _ _ h => h) (by rfl) ?_ hS ?_
      rotate_left 1
      · (intro w hSw; (try dsimp only at hSw); (try go_split_ands); go_simp; try with_reducible rfl)
      simp only [List.setIfInBounds_toArray, List.set_cons_zero, List.set_cons_succ]
      refine take_at 6 15 (v := ?_) rfl rfl (by kernel_rfl) (by kernel_rfl) (by kernel_rfl) (fun _ _ _ h => h) (by rfl) ?_ hS ?_
      rotate_left 1
      · (intro w hSw; (try dsimp only at hSw); (try go_split_ands); go_simp; try with_reducible rfl)
      simp only [List.setIfInBounds_toArray, List.set_cons_zero, List.set_cons_succ]
      refine take_at 7 16 (v := ?_) rfl rfl (by kernel_rfl) (by kernel_rfl) (by kernel_rfl) (fun _ _ _ h => h) (by rfl) ?_ hS ?_
      rotate_left 1
      · (intro w hSw; (try dsimp only at hSw); (try go_split_ands); go_simp; try with_reducible rfl)
      simp only [List.setIfInBounds_toArray, List.set_cons_zero, List.set_cons_succ]
      refine wpAnyH_ready (rs := [9]) (by kernel_rfl) (by simp) ?_
      refine AllReadyH.cons rfl (fun K hK => ?_) (AllReadyH.nil)
      go_simp
      generalize hW : World.setCell _ _ _ = w6
      have ht6 : Touch (fun i => i = w2.heap.size) w5 w6 := by rw [← hW]; exact (Touch.far (K := fun i => i = w2.heap.size) (Touch.far (K := fun i => i = w2.heap.size) (Touch.far (K := fun i => i = w2.heap.size) (Touch.refl _ _) (p := ⟨w2.heap.size, 0, none⟩) rfl _) (p := ⟨w2.heap.size, 1, none⟩) rfl _) (p := ⟨w2.heap.size, 2, none⟩) rfl _)
      have hbx6 : Blk w6 (w2.heap.size) 25 (AggR.cells (⟨s1, x1, t1⟩ : Fares.Sum)) := by rw [← hW]; exact (Blk.put (Blk.put (Blk.put HW05.out 0 (.int .i64 s1)) 1 (.int .i64 x1)) 2 (.int .i64 t1))
      clear hW
      clear cW05_0 cW05_1 cW05_2 frW05_0 frW05_1 frW05_2
      have hz6 : w5.heap.size ≤ w6.heap.size := by have := ht6.size; (try simp at this); omega
      have HB6 := Lib.hid (Touch.below HB5.out ht6 (fun i hi => by omega))
      clear HB5
      have HP6 := Lib.hid (Blk.touch HP5.out ht6 (show ¬ (w.heap.size = w2.heap.size) by omega))
      clear HP5
      have HE6 := Lib.hid (Blk.touch HE5.out ht6 (show ¬ (w.heap.size + 1 = w2.heap.size) by omega))
      clear HE5
      clear ht6 HW05
      have Hbx6 := Lib.hid hbx6; clear hbx6
      refine hK.out _ _ (by exact ⟨aggCells HP6.out, evtCells HE6.out⟩) (fun hS => ?_)
      clear hK K
      refine take_at 10 6 (v := ?_) rfl rfl (by kernel_rfl) (by kernel_rfl) (by kernel_rfl) (fun _ _ _ h => h) (by rfl) ?_ hS ?_
      rotate_left 1
      · (intro w hSw; (try dsimp only at hSw); (try go_split_ands); go_simp; try with_reducible rfl)
      simp only [List.setIfInBounds_toArray, List.set_cons_zero, List.set_cons_succ]
      refine wpAnyH_done (by kernel_rfl) ?_ _
      clear hS
      go_wp2
      refine wp_region_held_drew (S := fun w' => (w'.cell? ⟨w.heap.size, 0, none⟩ = some (.int .i64 a0.s) ∧ w'.cell? ⟨w.heap.size, 1, none⟩ = some (.int .i64 a0.a) ∧ w'.cell? ⟨w.heap.size, 2, none⟩ = some (.int .i64 a0.t)) ∧ w'.cell? ⟨w.heap.size + 1, 0, none⟩ = some (.int .i64 a1.k) ∧ w'.cell? ⟨w.heap.size + 1, 1, none⟩ = some (.int .i64 a1.a)) (by kernel_rfl) (by exact ⟨aggCells HP6.out, evtCells HE6.out⟩) (fun hS => ?_)
      refine take_at 0 18 (v := ?_) rfl rfl (by kernel_rfl) (by kernel_rfl) (by kernel_rfl) (fun _ _ _ h => h) (by rfl) ?_ hS ?_
      rotate_left 1
      · (intro w hSw; (try dsimp only at hSw); (try go_split_ands); go_simp; try with_reducible rfl)
      simp only [List.setIfInBounds_toArray, List.set_cons_zero, List.set_cons_succ]
      refine take_at 2 20 (v := ?_) rfl rfl (by kernel_rfl) (by kernel_rfl) (by kernel_rfl) (fun _ _ _ h => h) (by rfl) ?_ hS ?_
      rotate_left 1
      · (intro w hSw; (try dsimp only at hSw); (try go_split_ands); go_simp; try with_reducible rfl)
      simp only [List.setIfInBounds_toArray, List.set_cons_zero, List.set_cons_succ]
      refine wpAnyH_ready (rs := [1, 8]) (by kernel_rfl) (by simp) ?_
      refine AllReadyH.cons rfl (fun K hK => ?_) (AllReadyH.cons rfl (fun K hK => ?_) (AllReadyH.nil))
      · go_simp
        go_wp2_with fail
        refine (C0.out _).mono ?_
        rintro e w7 ⟨rfl, hb7⟩
        have hz7 : w6.heap.size ≤ w7.heap.size := by have := hb7.size; (try simp at this); omega
        have HB7 := Lib.hid (bT (bD1 HB6.out) hb7)
        clear HB6
        have HP7 := Lib.hid (Blk.belowAll (blkDrew HP6.out) hb7)
        clear HP6
        have HE7 := Lib.hid (Blk.belowAll (blkDrew HE6.out) hb7)
        clear HE6
        have HW07 := Lib.hid (Blk.belowAll (blkDrew Hbx6.out) hb7)
        clear Hbx6
        clear hb7
        go_simp
        refine hK.out _ _ (by exact ⟨aggCells HP7.out, evtCells HE7.out⟩) (fun hS => ?_)
        clear hK K
        refine wpAnyH_ready (rs := [3, 8]) (by kernel_rfl) (by simp) ?_
        refine AllReadyH.cons rfl (fun K hK => ?_) (AllReadyH.cons rfl (fun K hK => ?_) (AllReadyH.nil))
        · go_simp
          go_wp2_with fail
          refine (CE.out _).mono ?_
          rintro e w8 ⟨rfl, hb8⟩
          have hz8 : w7.heap.size ≤ w8.heap.size := by have := hb8.size; (try simp at this); omega
          have HB8 := Lib.hid (bT HB7.out hb8)
          clear HB7
          have HP8 := Lib.hid (Blk.belowAll HP7.out hb8)
          clear HP7
          have HE8 := Lib.hid (Blk.belowAll HE7.out hb8)
          clear HE7
          have HW08 := Lib.hid (Blk.belowAll HW07.out hb8)
          clear HW07
          clear hb8
          go_simp
          refine hK.out _ _ (by exact ⟨aggCells HP8.out, evtCells HE8.out⟩) (fun hS => ?_)
          clear hK K
          refine wpAnyH_ready (rs := [4, 8]) (by kernel_rfl) (by simp) ?_
          refine AllReadyH.cons rfl (fun K hK => ?_) (AllReadyH.cons rfl (fun K hK => ?_) (AllReadyH.nil))
          · go_simp
            go_wp2_with fail
            refine (implStep_cells a0 a1 s1 x1 t1 ok HP.out _ (Limits.below HL.out HB8.out) (Steps.below HT.out HB8.out)).mono ?_
            rintro e w9 ⟨rfl, hb9⟩
            have hz9 : w8.heap.size ≤ w9.heap.size := by have := hb9.size; (try simp at this); omega
            have HB9 := Lib.hid (bT HB8.out hb9)
            clear HB8
            have HP9 := Lib.hid (Blk.belowAll HP8.out hb9)
            clear HP8
            have HE9 := Lib.hid (Blk.belowAll HE8.out hb9)
            clear HE8
            have HW09 := Lib.hid (Blk.belowAll HW08.out hb9)
            clear HW08
            clear hb9
            go_simp
            refine hK.out _ _ (by exact ⟨aggCells HP9.out, evtCells HE9.out⟩) (fun hS => ?_)
            clear hK K
            refine take_at 5 17 (v := ?_) rfl rfl (by kernel_rfl) (by kernel_rfl) (by kernel_rfl) (fun _ _ _ h => h) (by rfl) ?_ hS ?_
            rotate_left 1
            · (intro w hSw; (try dsimp only at hSw); (try go_split_ands); go_simp; try with_reducible rfl)
            simp only [List.setIfInBounds_toArray, List.set_cons_zero, List.set_cons_succ]
            refine take_at 6 23 (v := ?_) rfl rfl (by kernel_rfl) (by kernel_rfl) (by kernel_rfl) (fun _ _ _ h => h) (by rfl) ?_ hS ?_
            rotate_left 1
            · (intro w hSw; (try dsimp only at hSw); (try go_split_ands); go_simp; try with_reducible rfl)
            simp only [List.setIfInBounds_toArray, List.set_cons_zero, List.set_cons_succ]
            refine take_at 7 24 (v := ?_) rfl rfl (by kernel_rfl) (by kernel_rfl) (by kernel_rfl) (fun _ _ _ h => h) (by rfl) ?_ hS ?_
            rotate_left 1
            · (intro w hSw; (try dsimp only at hSw); (try go_split_ands); go_simp; try with_reducible rfl)
            simp only [List.setIfInBounds_toArray, List.set_cons_zero, List.set_cons_succ]
            refine wpAnyH_ready (rs := [8]) (by kernel_rfl) (by simp) ?_
            refine AllReadyH.cons rfl (fun K hK => ?_) (AllReadyH.nil)
            go_simp
            generalize hW : World.alloc _ _ = w10
            have hbx10 : Blk w10 w9.heap.size 25 (AggR.cells (⟨0, 0, 0⟩ : Fares.Sum)) := by rw [← hW]; exact Blk.new' (by simp)
            have hb10 : Below w9.heap.size w9 w10 := by rw [← hW]; exact bA (Below.refl _ _) _
            have hy10 : w9.heap.size < w10.heap.size := by rw [← hW]; simp
            clear hW
            have hz10 : w9.heap.size ≤ w10.heap.size := by have := hb10.size; (try simp at this); omega
            have HB10 := Lib.hid (bT HB9.out hb10)
            clear HB9
            have HP10 := Lib.hid (Blk.belowAll HP9.out hb10)
            clear HP9
            have HE10 := Lib.hid (Blk.belowAll HE9.out hb10)
            clear HE9
            have HW010 := Lib.hid (Blk.belowAll HW09.out hb10)
            clear HW09
            clear hb10
            have Hbx10 := Lib.hid hbx10; clear hbx10
            obtain ⟨cG10_0, cG10_1, cG10_2⟩ := aggCells (t := 25) (v := (⟨0, 0, 0⟩ : Fares.Sum)) Hbx10.out
            have frG10_0 := (Hbx10.out).free 0
            have frG10_1 := (Hbx10.out).free 1
            have frG10_2 := (Hbx10.out).free 2
            refine hK.out _ _ (by exact ⟨aggCells HP10.out, evtCells HE10.out⟩) (fun hS => ?_)
            clear hK K
            refine wpAnyH_ready (rs := [9]) (by kernel_rfl) (by simp) ?_
            refine AllReadyH.cons rfl (fun K hK => ?_) (AllReadyH.nil)
            go_simp
            generalize hW : World.setCell _ _ _ = w11
            have ht11 : Touch (fun i => i = w9.heap.size) w10 w11 := by rw [← hW]; exact (Touch.far (K := fun i => i = w9.heap.size) (Touch.far (K := fun i => i = w9.heap.size) (Touch.far (K := fun i => i = w9.heap.size) (Touch.refl _ _) (p := ⟨w9.heap.size, 0, none⟩) rfl _) (p := ⟨w9.heap.size, 1, none⟩) rfl _) (p := ⟨w9.heap.size, 2, none⟩) rfl _)
            have hbx11 : Blk w11 (w9.heap.size) 25 (AggR.cells (⟨s1, x1, t1⟩ : Fares.Sum)) := by rw [← hW]; exact (Blk.put (Blk.put (Blk.put Hbx10.out 0 (.int .i64 s1)) 1 (.int .i64 x1)) 2 (.int .i64 t1))
            clear hW
            clear cG10_0 cG10_1 cG10_2 frG10_0 frG10_1 frG10_2
            have hz11 : w10.heap.size ≤ w11.heap.size := by have := ht11.size; (try simp at this); omega
            have HB11 := Lib.hid (Touch.below HB10.out ht11 (fun i hi => by omega))
            clear HB10
            have HP11 := Lib.hid (Blk.touch HP10.out ht11 (show ¬ (w.heap.size = w9.heap.size) by omega))
            clear HP10
            have HE11 := Lib.hid (Blk.touch HE10.out ht11 (show ¬ (w.heap.size + 1 = w9.heap.size) by omega))
            clear HE10
            have HW011 := Lib.hid (Blk.touch HW010.out ht11 (show ¬ (w2.heap.size = w9.heap.size) by omega))
            clear HW010
            clear ht11 Hbx10
            have Hbx11 := Lib.hid hbx11; clear hbx11
            refine hK.out _ _ (by exact ⟨aggCells HP11.out, evtCells HE11.out⟩) (fun hS => ?_)
            clear hK K
            refine take_at 10 8 (v := ?_) rfl rfl (by kernel_rfl) (by kernel_rfl) (by kernel_rfl) (fun _ _ _ h => h) (by rfl) ?_ hS ?_
            rotate_left 1
            · (intro w hSw; (try dsimp only at hSw); (try go_split_ands); go_simp; try with_reducible rfl)
            simp only [List.setIfInBounds_toArray, List.set_cons_zero, List.set_cons_succ]
            refine wpAnyH_done (by kernel_rfl) ?_ _
            clear hS
            obtain ⟨cG11_0, cG11_1, cG11_2⟩ := aggCells (t := 25) (v := (⟨s1, x1, t1⟩ : Fares.Sum)) Hbx11.out
            obtain ⟨cW011_0, cW011_1, cW011_2⟩ := aggCells (t := 25) (v := (⟨s1, x1, t1⟩ : Fares.Sum)) HW011.out
            dsimp only at cG11_0 cG11_1 cG11_2 cW011_0 cW011_1 cW011_2
            go_wp2_with fail
            refine (C3.out _).mono ?_
            rintro e w12 ⟨rfl, hb12⟩
            clear cG11_0 cG11_1 cG11_2 cW011_0 cW011_1 cW011_2
            have hz12 : w11.heap.size ≤ w12.heap.size := by have := hb12.size; (try simp at this); omega
            have HB12 := Lib.hid (bT HB11.out hb12)
            clear HB11
            have HP12 := Lib.hid (Blk.belowAll HP11.out hb12)
            clear HP11
            have HE12 := Lib.hid (Blk.belowAll HE11.out hb12)
            clear HE11
            have HW012 := Lib.hid (Blk.belowAll HW011.out hb12)
            clear HW011
            have HG12 := Lib.hid (Blk.belowAll Hbx11.out hb12)
            clear Hbx11
            clear hb12
            cases ok <;> (go_wp2; go_ret; exact ⟨rfl, HB12.out⟩)
          · go_simp
            generalize hW : World.alloc _ _ = w9
            have hbx9 : Blk w9 w8.heap.size 25 (AggR.cells (⟨0, 0, 0⟩ : Fares.Sum)) := by rw [← hW]; exact Blk.new' (by simp)
            have hb9 : Below w8.heap.size w8 w9 := by rw [← hW]; exact bA (Below.refl _ _) _
            have hy9 : w8.heap.size < w9.heap.size := by rw [← hW]; simp
            clear hW
            have hz9 : w8.heap.size ≤ w9.heap.size := by have := hb9.size; (try simp at this); omega
            have HB9 := Lib.hid (bT HB8.out hb9)
            clear HB8
            have HP9 := Lib.hid (Blk.belowAll HP8.out hb9)
            clear HP8
            have HE9 := Lib.hid (Blk.belowAll HE8.out hb9)
            clear HE8
            have HW09 := Lib.hid (Blk.belowAll HW08.out hb9)
            clear HW08
            clear hb9
            have Hbx9 := Lib.hid hbx9; clear hbx9
            obtain ⟨cG9_0, cG9_1, cG9_2⟩ := aggCells (t := 25) (v := (⟨0, 0, 0⟩ : Fares.Sum)) Hbx9.out
            have frG9_0 := (Hbx9.out).free 0
            have frG9_1 := (Hbx9.out).free 1
            have frG9_2 := (Hbx9.out).free 2
            refine hK.out _ _ (by exact ⟨aggCells HP9.out, evtCells HE9.out⟩) (fun hS => ?_)
            clear hK K
            refine wpAnyH_ready (rs := [4]) (by kernel_rfl) (by simp) ?_
            refine AllReadyH.cons rfl (fun K hK => ?_) (AllReadyH.nil)
            go_simp
            go_wp2_with fail
            refine (implStep_cells a0 a1 s1 x1 t1 ok HP.out _ (Limits.below HL.out HB9.out) (Steps.below HT.out HB9.out)).mono ?_
            rintro e w10 ⟨rfl, hb10⟩
            clear cG9_0 cG9_1 cG9_2 frG9_0 frG9_1 frG9_2
            have hz10 : w9.heap.size ≤ w10.heap.size := by have := hb10.size; (try simp at this); omega
            have HB10 := Lib.hid (bT HB9.out hb10)
            clear HB9
            have HP10 := Lib.hid (Blk.belowAll HP9.out hb10)
            clear HP9
            have HE10 := Lib.hid (Blk.belowAll HE9.out hb10)
            clear HE9
            have HW010 := Lib.hid (Blk.belowAll HW09.out hb10)
            clear HW09
            have HG10 := Lib.hid (Blk.belowAll Hbx9.out hb10)
            clear Hbx9
            clear hb10
            obtain ⟨cG10_0, cG10_1, cG10_2⟩ := aggCells (t := 25) (v := (⟨0, 0, 0⟩ : Fares.Sum)) HG10.out
            have frG10_0 := (HG10.out).free 0
            have frG10_1 := (HG10.out).free 1
            have frG10_2 := (HG10.out).free 2
            go_simp
            refine hK.out _ _ (by exact ⟨aggCells HP10.out, evtCells HE10.out⟩) (fun hS => ?_)
            clear hK K
            refine take_at 5 17 (v := ?_) rfl rfl (by kernel_rfl) (by kernel_rfl) (by kernel_rfl) (fun _ _ _ h => h) (by rfl) ?_ hS ?_
            rotate_left 1
            · (intro w hSw; (try dsimp only at hSw); (try go_split_ands); go_simp; try with_reducible rfl)
            simp only [List.setIfInBounds_toArray, List.set_cons_zero, List.set_cons_succ]
            refine take_at 6 23 (v := ?_) rfl rfl (by kernel_rfl) (by kernel_rfl) (by kernel_rfl) (fun _ _ _ h => h) (by rfl) ?_ hS ?_
            rotate_left 1
            · (intro w hSw; (try dsimp only at hSw); (try go_split_ands); go_simp; try with_reducible rfl)
            simp only [List.setIfInBounds_toArray, List.set_cons_zero, List.set_cons_succ]
            refine take_at 7 24 (v := ?_) rfl rfl (by kernel_rfl) (by kernel_rfl) (by kernel_rfl) (fun _ _ _ h => h) (by rfl) ?_ hS ?_
            rotate_left 1
            · (intro w hSw; (try dsimp only at hSw); (try go_split_ands); go_simp; try with_reducible rfl)
            simp only [List.setIfInBounds_toArray, List.set_cons_zero, List.set_cons_succ]
            refine wpAnyH_ready (rs := [9]) (by kernel_rfl) (by simp) ?_
            refine AllReadyH.cons rfl (fun K hK => ?_) (AllReadyH.nil)
            go_simp
            generalize hW : World.setCell _ _ _ = w11
            have ht11 : Touch (fun i => i = w8.heap.size) w10 w11 := by rw [← hW]; exact (Touch.far (K := fun i => i = w8.heap.size) (Touch.far (K := fun i => i = w8.heap.size) (Touch.far (K := fun i => i = w8.heap.size) (Touch.refl _ _) (p := ⟨w8.heap.size, 0, none⟩) rfl _) (p := ⟨w8.heap.size, 1, none⟩) rfl _) (p := ⟨w8.heap.size, 2, none⟩) rfl _)
            have hbx11 : Blk w11 (w8.heap.size) 25 (AggR.cells (⟨s1, x1, t1⟩ : Fares.Sum)) := by rw [← hW]; exact (Blk.put (Blk.put (Blk.put HG10.out 0 (.int .i64 s1)) 1 (.int .i64 x1)) 2 (.int .i64 t1))
            clear hW
            clear cG10_0 cG10_1 cG10_2 frG10_0 frG10_1 frG10_2
            have hz11 : w10.heap.size ≤ w11.heap.size := by have := ht11.size; (try simp at this); omega
            have HB11 := Lib.hid (Touch.below HB10.out ht11 (fun i hi => by omega))
            clear HB10
            have HP11 := Lib.hid (Blk.touch HP10.out ht11 (show ¬ (w.heap.size = w8.heap.size) by omega))
            clear HP10
            have HE11 := Lib.hid (Blk.touch HE10.out ht11 (show ¬ (w.heap.size + 1 = w8.heap.size) by omega))
            clear HE10
            have HW011 := Lib.hid (Blk.touch HW010.out ht11 (show ¬ (w2.heap.size = w8.heap.size) by omega))
            clear HW010
            clear ht11 HG10
            have Hbx11 := Lib.hid hbx11; clear hbx11
            refine hK.out _ _ (by exact ⟨aggCells HP11.out, evtCells HE11.out⟩) (fun hS => ?_)
            clear hK K
            refine take_at 10 8 (v := ?_) rfl rfl (by kernel_rfl) (by kernel_rfl) (by kernel_rfl) (fun _ _ _ h => h) (by rfl) ?_ hS ?_
            rotate_left 1
            · (intro w hSw; (try dsimp only at hSw); (try go_split_ands); go_simp; try with_reducible rfl)
            simp only [List.setIfInBounds_toArray, List.set_cons_zero, List.set_cons_succ]
            refine wpAnyH_done (by kernel_rfl) ?_ _
            clear hS
            obtain ⟨cG11_0, cG11_1, cG11_2⟩ := aggCells (t := 25) (v := (⟨s1, x1, t1⟩ : Fares.Sum)) Hbx11.out
            obtain ⟨cW011_0, cW011_1, cW011_2⟩ := aggCells (t := 25) (v := (⟨s1, x1, t1⟩ : Fares.Sum)) HW011.out
            dsimp only at cG11_0 cG11_1 cG11_2 cW011_0 cW011_1 cW011_2
            go_wp2_with fail
            refine (C3.out _).mono ?_
            rintro e w12 ⟨rfl, hb12⟩
            clear cG11_0 cG11_1 cG11_2 cW011_0 cW011_1 cW011_2
            have hz12 : w11.heap.size ≤ w12.heap.size := by have := hb12.size; (try simp at this); omega
            have HB12 := Lib.hid (bT HB11.out hb12)
            clear HB11
            have HP12 := Lib.hid (Blk.belowAll HP11.out hb12)
            clear HP11
            have HE12 := Lib.hid (Blk.belowAll HE11.out hb12)
            clear HE11
            have HW012 := Lib.hid (Blk.belowAll HW011.out hb12)
            clear HW011
            have HG12 := Lib.hid (Blk.belowAll Hbx11.out hb12)
            clear Hbx11
            clear hb12
            cases ok <;> (go_wp2; go_ret; exact ⟨rfl, HB12.out⟩)
        · go_simp
          generalize hW : World.alloc _ _ = w8
          have hbx8 : Blk w8 w7.heap.size 25 (AggR.cells (⟨0, 0, 0⟩ : Fares.Sum)) := by rw [← hW]; exact Blk.new' (by simp)
          have hb8 : Below w7.heap.size w7 w8 := by rw [← hW]; exact bA (Below.refl _ _) _
          have hy8 : w7.heap.size < w8.heap.size := by rw [← hW]; simp
          clear hW
          have hz8 : w7.heap.size ≤ w8.heap.size := by have := hb8.size; (try simp at this); omega
          have HB8 := Lib.hid (bT HB7.out hb8)
          clear HB7
          have HP8 := Lib.hid (Blk.belowAll HP7.out hb8)
          clear HP7
          have HE8 := Lib.hid (Blk.belowAll HE7.out hb8)
          clear HE7
          have HW08 := Lib.hid (Blk.belowAll HW07.out hb8)
          clear HW07
          clear hb8
          have Hbx8 := Lib.hid hbx8; clear hbx8
          obtain ⟨cG8_0, cG8_1, cG8_2⟩ := aggCells (t := 25) (v := (⟨0, 0, 0⟩ : Fares.Sum)) Hbx8.out
          have frG8_0 := (Hbx8.out).free 0
          have frG8_1 := (Hbx8.out).free 1
          have frG8_2 := (Hbx8.out).free 2
          refine hK.out _ _ (by exact ⟨aggCells HP8.out, evtCells HE8.out⟩) (fun hS => ?_)
          clear hK K
          refine wpAnyH_ready (rs := [3]) (by kernel_rfl) (by simp) ?_
          refine AllReadyH.cons rfl (fun K hK => ?_) (AllReadyH.nil)
          go_simp
          go_wp2_with fail
          refine (CE.out _).mono ?_
          rintro e w9 ⟨rfl, hb9⟩
          clear cG8_0 cG8_1 cG8_2 frG8_0 frG8_1 frG8_2
          have hz9 : w8.heap.size ≤ w9.heap.size := by have := hb9.size; (try simp at this); omega
          have HB9 := Lib.hid (bT HB8.out hb9)
          clear HB8
          have HP9 := Lib.hid (Blk.belowAll HP8.out hb9)
          clear HP8
          have HE9 := Lib.hid (Blk.belowAll HE8.out hb9)
          clear HE8
          have HW09 := Lib.hid (Blk.belowAll HW08.out hb9)
          clear HW08
          have HG9 := Lib.hid (Blk.belowAll Hbx8.out hb9)
          clear Hbx8
          clear hb9
          obtain ⟨cG9_0, cG9_1, cG9_2⟩ := aggCells (t := 25) (v := (⟨0, 0, 0⟩ : Fares.Sum)) HG9.out
          have frG9_0 := (HG9.out).free 0
          have frG9_1 := (HG9.out).free 1
          have frG9_2 := (HG9.out).free 2
          go_simp
          refine hK.out _ _ (by exact ⟨aggCells HP9.out, evtCells HE9.out⟩) (fun hS => ?_)
          clear hK K
          refine wpAnyH_ready (rs := [4]) (by kernel_rfl) (by simp) ?_
          refine AllReadyH.cons rfl (fun K hK => ?_) (AllReadyH.nil)
          go_simp
          go_wp2_with fail
          refine (implStep_cells a0 a1 s1 x1 t1 ok HP.out _ (Limits.below HL.out HB9.out) (Steps.below HT.out HB9.out)).mono ?_
          rintro e w10 ⟨rfl, hb10⟩
          clear cG9_0 cG9_1 cG9_2 frG9_0 frG9_1 frG9_2
          have hz10 : w9.heap.size ≤ w10.heap.size := by have := hb10.size; (try simp at this); omega
          have HB10 := Lib.hid (bT HB9.out hb10)
          clear HB9
          have HP10 := Lib.hid (Blk.belowAll HP9.out hb10)
          clear HP9
          have HE10 := Lib.hid (Blk.belowAll HE9.out hb10)
          clear HE9
          have HW010 := Lib.hid (Blk.belowAll HW09.out hb10)
          clear HW09
          have HG10 := Lib.hid (Blk.belowAll HG9.out hb10)
          clear HG9
          clear hb10
          obtain ⟨cG10_0, cG10_1, cG10_2⟩ := aggCells (t := 25) (v := (⟨0, 0, 0⟩ : Fares.Sum)) HG10.out
          have frG10_0 := (HG10.out).free 0
          have frG10_1 := (HG10.out).free 1
          have frG10_2 := (HG10.out).free 2
          go_simp
          refine hK.out _ _ (by exact ⟨aggCells HP10.out, evtCells HE10.out⟩) (fun hS => ?_)
          clear hK K
          refine take_at 5 17 (v := ?_) rfl rfl (by kernel_rfl) (by kernel_rfl) (by kernel_rfl) (fun _ _ _ h => h) (by rfl) ?_ hS ?_
          rotate_left 1
          · (intro w hSw; (try dsimp only at hSw); (try go_split_ands); go_simp; try with_reducible rfl)
          simp only [List.setIfInBounds_toArray, List.set_cons_zero, List.set_cons_succ]
          refine take_at 6 23 (v := ?_) rfl rfl (by kernel_rfl) (by kernel_rfl) (by kernel_rfl) (fun _ _ _ h => h) (by rfl) ?_ hS ?_
          rotate_left 1
          · (intro w hSw; (try dsimp only at hSw); (try go_split_ands); go_simp; try with_reducible rfl)
          simp only [List.setIfInBounds_toArray, List.set_cons_zero, List.set_cons_succ]
          refine take_at 7 24 (v := ?_) rfl rfl (by kernel_rfl) (by kernel_rfl) (by kernel_rfl) (fun _ _ _ h => h) (by rfl) ?_ hS ?_
          rotate_left 1
          · (intro w hSw; (try dsimp only at hSw); (try go_split_ands); go_simp; try with_reducible rfl)
          simp only [List.setIfInBounds_toArray, List.set_cons_zero, List.set_cons_succ]
          refine wpAnyH_ready (rs := [9]) (by kernel_rfl) (by simp) ?_
          refine AllReadyH.cons rfl (fun K hK => ?_) (AllReadyH.nil)
          go_simp
          generalize hW : World.setCell _ _ _ = w11
          have ht11 : Touch (fun i => i = w7.heap.size) w10 w11 := by rw [← hW]; exact (Touch.far (K := fun i => i = w7.heap.size) (Touch.far (K := fun i => i = w7.heap.size) (Touch.far (K := fun i => i = w7.heap.size) (Touch.refl _ _) (p := ⟨w7.heap.size, 0, none⟩) rfl _) (p := ⟨w7.heap.size, 1, none⟩) rfl _) (p := ⟨w7.heap.size, 2, none⟩) rfl _)
          have hbx11 : Blk w11 (w7.heap.size) 25 (AggR.cells (⟨s1, x1, t1⟩ : Fares.Sum)) := by rw [← hW]; exact (Blk.put (Blk.put (Blk.put HG10.out 0 (.int .i64 s1)) 1 (.int .i64 x1)) 2 (.int .i64 t1))
          clear hW
          clear cG10_0 cG10_1 cG10_2 frG10_0 frG10_1 frG10_2
          have hz11 : w10.heap.size ≤ w11.heap.size := by have := ht11.size; (try simp at this); omega
          have HB11 := Lib.hid (Touch.below HB10.out ht11 (fun i hi => by omega))
          clear HB10
          have HP11 := Lib.hid (Blk.touch HP10.out ht11 (show ¬ (w.heap.size = w7.heap.size) by omega))
          clear HP10
          have HE11 := Lib.hid (Blk.touch HE10.out ht11 (show ¬ (w.heap.size + 1 = w7.heap.size) by omega))
          clear HE10
          have HW011 := Lib.hid (Blk.touch HW010.out ht11 (show ¬ (w2.heap.size = w7.heap.size) by omega))
          clear HW010
          clear ht11 HG10
          have Hbx11 := Lib.hid hbx11; clear hbx11
          refine hK.out _ _ (by exact ⟨aggCells HP11.out, evtCells HE11.out⟩) (fun hS => ?_)
          clear hK K
          refine take_at 10 8 (v := ?_) rfl rfl (by kernel_rfl) (by kernel_rfl) (by kernel_rfl) (fun _ _ _ h => h) (by rfl) ?_ hS ?_
          rotate_left 1
          · (intro w hSw; (try dsimp only at hSw); (try go_split_ands); go_simp; try with_reducible rfl)
          simp only [List.setIfInBounds_toArray, List.set_cons_zero, List.set_cons_succ]
          refine wpAnyH_done (by kernel_rfl) ?_ _
          clear hS
          obtain ⟨cG11_0, cG11_1, cG11_2⟩ := aggCells (t := 25) (v := (⟨s1, x1, t1⟩ : Fares.Sum)) Hbx11.out
          obtain ⟨cW011_0, cW011_1, cW011_2⟩ := aggCells (t := 25) (v := (⟨s1, x1, t1⟩ : Fares.Sum)) HW011.out
          dsimp only at cG11_0 cG11_1 cG11_2 cW011_0 cW011_1 cW011_2
          go_wp2_with fail
          refine (C3.out _).mono ?_
          rintro e w12 ⟨rfl, hb12⟩
          clear cG11_0 cG11_1 cG11_2 cW011_0 cW011_1 cW011_2
          have hz12 : w11.heap.size ≤ w12.heap.size := by have := hb12.size; (try simp at this); omega
          have HB12 := Lib.hid (bT HB11.out hb12)
          clear HB11
          have HP12 := Lib.hid (Blk.belowAll HP11.out hb12)
          clear HP11
          have HE12 := Lib.hid (Blk.belowAll HE11.out hb12)
          clear HE11
          have HW012 := Lib.hid (Blk.belowAll HW011.out hb12)
          clear HW011
          have HG12 := Lib.hid (Blk.belowAll Hbx11.out hb12)
          clear Hbx11
          clear hb12
          cases ok <;> (go_wp2; go_ret; exact ⟨rfl, HB12.out⟩)
      · go_simp
        generalize hW : World.alloc _ _ = w7
        have hbx7 : Blk w7 w6.heap.size 25 (AggR.cells (⟨0, 0, 0⟩ : Fares.Sum)) := by rw [← hW]; exact Blk.new' (by simp)
        have hb7 : Below w6.heap.size w6 w7 := by rw [← hW]; exact bA (Below.refl _ _) _
        have hy7 : w6.heap.size < w7.heap.size := by rw [← hW]; simp
        clear hW
        have hz7 : w6.heap.size ≤ w7.heap.size := by have := hb7.size; (try simp at this); omega
        have HB7 := Lib.hid (bT HB6.out hb7)
        clear HB6
        have HP7 := Lib.hid (Blk.belowAll HP6.out hb7)
        clear HP6
        have HE7 := Lib.hid (Blk.belowAll HE6.out hb7)
        clear HE6
        have HW07 := Lib.hid (Blk.belowAll Hbx6.out hb7)
        clear Hbx6
        clear hb7
        have Hbx7 := Lib.hid hbx7; clear hbx7
        obtain ⟨cG7_0, cG7_1, cG7_2⟩ := aggCells (t := 25) (v := (⟨0, 0, 0⟩ : Fares.Sum)) (blkDrew Hbx7.out)
        have frG7_0 := ((blkDrew Hbx7.out)).free 0
        have frG7_1 := ((blkDrew Hbx7.out)).free 1
        have frG7_2 := ((blkDrew Hbx7.out)).free 2
        refine hK.out _ _ (by exact ⟨aggCells (blkDrew HP7.out), evtCells (blkDrew HE7.out)⟩) (fun hS => ?_)
        clear hK K
        refine wpAnyH_ready (rs := [1]) (by kernel_rfl) (by simp) ?_
        refine AllReadyH.cons rfl (fun K hK => ?_) (AllReadyH.nil)
        go_simp
        go_wp2_with fail
        refine (C0.out _).mono ?_
        rintro e w8 ⟨rfl, hb8⟩
        clear cG7_0 cG7_1 cG7_2 frG7_0 frG7_1 frG7_2
        have hz8 : w7.heap.size ≤ w8.heap.size := by have := hb8.size; (try simp at this); omega
        have HB8 := Lib.hid (bT (bD1 HB7.out) hb8)
        clear HB7
        have HP8 := Lib.hid (Blk.belowAll (blkDrew HP7.out) hb8)
        clear HP7
        have HE8 := Lib.hid (Blk.belowAll (blkDrew HE7.out) hb8)
        clear HE7
        have HW08 := Lib.hid (Blk.belowAll (blkDrew HW07.out) hb8)
        clear HW07
        have HG8 := Lib.hid (Blk.belowAll (blkDrew Hbx7.out) hb8)
        clear Hbx7
        clear hb8
        obtain ⟨cG8_0, cG8_1, cG8_2⟩ := aggCells (t := 25) (v := (⟨0, 0, 0⟩ : Fares.Sum)) HG8.out
        have frG8_0 := (HG8.out).free 0
        have frG8_1 := (HG8.out).free 1
        have frG8_2 := (HG8.out).free 2
        go_simp
        refine hK.out _ _ (by exact ⟨aggCells HP8.out, evtCells HE8.out⟩) (fun hS => ?_)
        clear hK K
        refine wpAnyH_ready (rs := [3]) (by kernel_rfl) (by simp) ?_
        refine AllReadyH.cons rfl (fun K hK => ?_) (AllReadyH.nil)
        go_simp
        go_wp2_with fail
        refine (CE.out _).mono ?_
        rintro e w9 ⟨rfl, hb9⟩
        clear cG8_0 cG8_1 cG8_2 frG8_0 frG8_1 frG8_2
        have hz9 : w8.heap.size ≤ w9.heap.size := by have := hb9.size; (try simp at this); omega
        have HB9 := Lib.hid (bT HB8.out hb9)
        clear HB8
        have HP9 := Lib.hid (Blk.belowAll HP8.out hb9)
        clear HP8
        have HE9 := Lib.hid (Blk.belowAll HE8.out hb9)
        clear HE8
        have HW09 := Lib.hid (Blk.belowAll HW08.out hb9)
        clear HW08
        have HG9 := Lib.hid (Blk.belowAll HG8.out hb9)
        clear HG8
        clear hb9
        obtain ⟨cG9_0, cG9_1, cG9_2⟩ := aggCells (t := 25) (v := (⟨0, 0, 0⟩ : Fares.Sum)) HG9.out
        have frG9_0 := (HG9.out).free 0
        have frG9_1 := (HG9.out).free 1
        have frG9_2 := (HG9.out).free 2
        go_simp
        refine hK.out _ _ (by exact ⟨aggCells HP9.out, evtCells HE9.out⟩) (fun hS => ?_)
        clear hK K
        refine wpAnyH_ready (rs := [4]) (by kernel_rfl) (by simp) ?_
        refine AllReadyH.cons rfl (fun K hK => ?_) (AllReadyH.nil)
        go_simp
        go_wp2_with fail
        refine (implStep_cells a0 a1 s1 x1 t1 ok HP.out _ (Limits.below HL.out HB9.out) (Steps.below HT.out HB9.out)).mono ?_
        rintro e w10 ⟨rfl, hb10⟩
        clear cG9_0 cG9_1 cG9_2 frG9_0 frG9_1 frG9_2
        have hz10 : w9.heap.size ≤ w10.heap.size := by have := hb10.size; (try simp at this); omega
        have HB10 := Lib.hid (bT HB9.out hb10)
        clear HB9
        have HP10 := Lib.hid (Blk.belowAll HP9.out hb10)
        clear HP9
        have HE10 := Lib.hid (Blk.belowAll HE9.out hb10)
        clear HE9
        have HW010 := Lib.hid (Blk.belowAll HW09.out hb10)
        clear HW09
        have HG10 := Lib.hid (Blk.belowAll HG9.out hb10)
        clear HG9
        clear hb10
        obtain ⟨cG10_0, cG10_1, cG10_2⟩ := aggCells (t := 25) (v := (⟨0, 0, 0⟩ : Fares.Sum)) HG10.out
        have frG10_0 := (HG10.out).free 0
        have frG10_1 := (HG10.out).free 1
        have frG10_2 := (HG10.out).free 2
        go_simp
        refine hK.out _ _ (by exact ⟨aggCells HP10.out, evtCells HE10.out⟩) (fun hS => ?_)
        clear hK K
        refine take_at 5 17 (v := ?_) rfl rfl (by kernel_rfl) (by kernel_rfl) (by kernel_rfl) (fun _ _ _ h => h) (by rfl) ?_ hS ?_
        rotate_left 1
        · (intro w hSw; (try dsimp only at hSw); (try go_split_ands); go_simp; try with_reducible rfl)
        simp only [List.setIfInBounds_toArray, List.set_cons_zero, List.set_cons_succ]
        refine take_at 6 23 (v := ?_) rfl rfl (by kernel_rfl) (by kernel_rfl) (by kernel_rfl) (fun _ _ _ h => h) (by rfl) ?_ hS ?_
        rotate_left 1
        · (intro w hSw; (try dsimp only at hSw); (try go_split_ands); go_simp; try with_reducible rfl)
        simp only [List.setIfInBounds_toArray, List.set_cons_zero, List.set_cons_succ]
        refine take_at 7 24 (v := ?_) rfl rfl (by kernel_rfl) (by kernel_rfl) (by kernel_rfl) (fun _ _ _ h => h) (by rfl) ?_ hS ?_
        rotate_left 1
        · (intro w hSw; (try dsimp only at hSw); (try go_split_ands); go_simp; try with_reducible rfl)
        simp only [List.setIfInBounds_toArray, List.set_cons_zero, List.set_cons_succ]
        refine wpAnyH_ready (rs := [9]) (by kernel_rfl) (by simp) ?_
        refine AllReadyH.cons rfl (fun K hK => ?_) (AllReadyH.nil)
        go_simp
        generalize hW : World.setCell _ _ _ = w11
        have ht11 : Touch (fun i => i = w6.heap.size) w10 w11 := by rw [← hW]; exact (Touch.far (K := fun i => i = w6.heap.size) (Touch.far (K := fun i => i = w6.heap.size) (Touch.far (K := fun i => i = w6.heap.size) (Touch.refl _ _) (p := ⟨w6.heap.size, 0, none⟩) rfl _) (p := ⟨w6.heap.size, 1, none⟩) rfl _) (p := ⟨w6.heap.size, 2, none⟩) rfl _)
        have hbx11 : Blk w11 (w6.heap.size) 25 (AggR.cells (⟨s1, x1, t1⟩ : Fares.Sum)) := by rw [← hW]; exact (Blk.put (Blk.put (Blk.put HG10.out 0 (.int .i64 s1)) 1 (.int .i64 x1)) 2 (.int .i64 t1))
        clear hW
        clear cG10_0 cG10_1 cG10_2 frG10_0 frG10_1 frG10_2
        have hz11 : w10.heap.size ≤ w11.heap.size := by have := ht11.size; (try simp at this); omega
        have HB11 := Lib.hid (Touch.below HB10.out ht11 (fun i hi => by omega))
        clear HB10
        have HP11 := Lib.hid (Blk.touch HP10.out ht11 (show ¬ (w.heap.size = w6.heap.size) by omega))
        clear HP10
        have HE11 := Lib.hid (Blk.touch HE10.out ht11 (show ¬ (w.heap.size + 1 = w6.heap.size) by omega))
        clear HE10
        have HW011 := Lib.hid (Blk.touch HW010.out ht11 (show ¬ (w2.heap.size = w6.heap.size) by omega))
        clear HW010
        clear ht11 HG10
        have Hbx11 := Lib.hid hbx11; clear hbx11
        refine hK.out _ _ (by exact ⟨aggCells HP11.out, evtCells HE11.out⟩) (fun hS => ?_)
        clear hK K
        refine take_at 10 8 (v := ?_) rfl rfl (by kernel_rfl) (by kernel_rfl) (by kernel_rfl) (fun _ _ _ h => h) (by rfl) ?_ hS ?_
        rotate_left 1
        · (intro w hSw; (try dsimp only at hSw); (try go_split_ands); go_simp; try with_reducible rfl)
        simp only [List.setIfInBounds_toArray, List.set_cons_zero, List.set_cons_succ]
        refine wpAnyH_done (by kernel_rfl) ?_ _
        clear hS
        obtain ⟨cG11_0, cG11_1, cG11_2⟩ := aggCells (t := 25) (v := (⟨s1, x1, t1⟩ : Fares.Sum)) Hbx11.out
        obtain ⟨cW011_0, cW011_1, cW011_2⟩ := aggCells (t := 25) (v := (⟨s1, x1, t1⟩ : Fares.Sum)) HW011.out
        dsimp only at cG11_0 cG11_1 cG11_2 cW011_0 cW011_1 cW011_2
        go_wp2_with fail
        refine (C3.out _).mono ?_
        rintro e w12 ⟨rfl, hb12⟩
        clear cG11_0 cG11_1 cG11_2 cW011_0 cW011_1 cW011_2
        have hz12 : w11.heap.size ≤ w12.heap.size := by have := hb12.size; (try simp at this); omega
        have HB12 := Lib.hid (bT HB11.out hb12)
        clear HB11
        have HP12 := Lib.hid (Blk.belowAll HP11.out hb12)
        clear HP11
        have HE12 := Lib.hid (Blk.belowAll HE11.out hb12)
        clear HE11
        have HW012 := Lib.hid (Blk.belowAll HW011.out hb12)
        clear HW011
        have HG12 := Lib.hid (Blk.belowAll Hbx11.out hb12)
        clear Hbx11
        clear hb12
        cases ok <;> (go_wp2; go_ret; exact ⟨rfl, HB12.out⟩)
  · go_simp
    generalize hW : World.alloc _ _ = w2
    have hbx2 : Blk w2 w1.heap.size 25 (AggR.cells (⟨0, 0, 0⟩ : Fares.Sum)) := by rw [← hW]; exact Blk.new' (by simp)
    have hb2 : Below w1.heap.size w1 w2 := by rw [← hW]; exact bA (Below.refl _ _) _
    have hy2 : w1.heap.size < w2.heap.size := by rw [← hW]; simp
    clear hW
    have hz2 : w1.heap.size ≤ w2.heap.size := by have := hb2.size; (try simp at this); omega
    have HB2 := Lib.hid (bT HB1.out hb2)
    clear HB1
    have HP2 := Lib.hid (Blk.belowAll Hbp.out hb2)
    clear Hbp
    have HE2 := Lib.hid (Blk.belowAll Hbe.out hb2)
    clear Hbe
    clear hb2
    have Hbx2 := Lib.hid hbx2; clear hbx2
    obtain ⟨cW02_0, cW02_1, cW02_2⟩ := aggCells (t := 25) (v := (⟨0, 0, 0⟩ : Fares.Sum)) (blkDrew Hbx2.out)
    have frW02_0 := ((blkDrew Hbx2.out)).free 0
    have frW02_1 := ((blkDrew Hbx2.out)).free 1
    have frW02_2 := ((blkDrew Hbx2.out)).free 2
    refine hK.out _ _ (by exact ⟨aggCells (blkDrew HP2.out), evtCells (blkDrew HE2.out)⟩) (fun hS => ?_)
    clear hK K
    refine wpAnyH_ready (rs := [1]) (by kernel_rfl) (by simp) ?_
    refine AllReadyH.cons rfl (fun K hK => ?_) (AllReadyH.nil)
    go_simp
    go_wp2_with fail
    refine (C0.out _).mono ?_
    rintro e w3 ⟨rfl, hb3⟩
    clear cW02_0 cW02_1 cW02_2 frW02_0 frW02_1 frW02_2
    have hz3 : w2.heap.size ≤ w3.heap.size := by have := hb3.size; (try simp at this); omega
    have HB3 := Lib.hid (bT (bD1 HB2.out) hb3)
    clear HB2
    have HP3 := Lib.hid (Blk.belowAll (blkDrew HP2.out) hb3)
    clear HP2
    have HE3 := Lib.hid (Blk.belowAll (blkDrew HE2.out) hb3)
    clear HE2
    have HW03 := Lib.hid (Blk.belowAll (blkDrew Hbx2.out) hb3)
    clear Hbx2
    clear hb3
    obtain ⟨cW03_0, cW03_1, cW03_2⟩ := aggCells (t := 25) (v := (⟨0, 0, 0⟩ : Fares.Sum)) HW03.out
    have frW03_0 := (HW03.out).free 0
    have frW03_1 := (HW03.out).free 1
    have frW03_2 := (HW03.out).free 2
    go_simp
    refine hK.out _ _ (by exact ⟨aggCells HP3.out, evtCells HE3.out⟩) (fun hS => ?_)
    clear hK K
    refine wpAnyH_ready (rs := [3]) (by kernel_rfl) (by simp) ?_
    refine AllReadyH.cons rfl (fun K hK => ?_) (AllReadyH.nil)
    go_simp
    go_wp2_with fail
    refine (CE.out _).mono ?_
    rintro e w4 ⟨rfl, hb4⟩
    clear cW03_0 cW03_1 cW03_2 frW03_0 frW03_1 frW03_2
    have hz4 : w3.heap.size ≤ w4.heap.size := by have := hb4.size; (try simp at this); omega
    have HB4 := Lib.hid (bT HB3.out hb4)
    clear HB3
    have HP4 := Lib.hid (Blk.belowAll HP3.out hb4)
    clear HP3
    have HE4 := Lib.hid (Blk.belowAll HE3.out hb4)
    clear HE3
    have HW04 := Lib.hid (Blk.belowAll HW03.out hb4)
    clear HW03
    clear hb4
    obtain ⟨cW04_0, cW04_1, cW04_2⟩ := aggCells (t := 25) (v := (⟨0, 0, 0⟩ : Fares.Sum)) HW04.out
    have frW04_0 := (HW04.out).free 0
    have frW04_1 := (HW04.out).free 1
    have frW04_2 := (HW04.out).free 2
    go_simp
    refine hK.out _ _ (by exact ⟨aggCells HP4.out, evtCells HE4.out⟩) (fun hS => ?_)
    clear hK K
    refine wpAnyH_ready (rs := [4]) (by kernel_rfl) (by simp) ?_
    refine AllReadyH.cons rfl (fun K hK => ?_) (AllReadyH.nil)
    go_simp
    go_wp2_with fail
    refine (specStep_cells a0 a1 s1 x1 t1 ok HP.out _).mono ?_
    rintro e w5 ⟨rfl, hb5⟩
    clear cW04_0 cW04_1 cW04_2 frW04_0 frW04_1 frW04_2
    have hz5 : w4.heap.size ≤ w5.heap.size := by have := hb5.size; (try simp at this); omega
    have HB5 := Lib.hid (bT HB4.out hb5)
    clear HB4
    have HP5 := Lib.hid (Blk.belowAll HP4.out hb5)
    clear HP4
    have HE5 := Lib.hid (Blk.belowAll HE4.out hb5)
    clear HE4
    have HW05 := Lib.hid (Blk.belowAll HW04.out hb5)
    clear HW04
    clear hb5
    obtain ⟨cW05_0, cW05_1, cW05_2⟩ := aggCells (t := 25) (v := (⟨0, 0, 0⟩ : Fares.Sum)) HW05.out
    have frW05_0 := (HW05.out).free 0
    have frW05_1 := (HW05.out).free 1
    have frW05_2 := (HW05.out).free 2
    go_simp
    refine hK.out _ _ (by exact ⟨aggCells HP5.out, evtCells HE5.out⟩) (fun hS => ?_)
    clear hK K
    refine take_at 5 9 (v := ?_) rfl rfl (by kernel_rfl) (by kernel_rfl) (by kernel_rfl) (fun _ _ _ h => h) (by rfl) ?_ hS ?_
    rotate_left 1
    · (intro w hSw; (try dsimp only at hSw); (try go_split_ands); go_simp; try with_reducible rfl)
    simp only [List.setIfInBounds_toArray, List.set_cons_zero, List.set_cons_succ]
    refine take_at 6 15 (v := ?_) rfl rfl (by kernel_rfl) (by kernel_rfl) (by kernel_rfl) (fun _ _ _ h => h) (by rfl) ?_ hS ?_
    rotate_left 1
    · (intro w hSw; (try dsimp only at hSw); (try go_split_ands); go_simp; try with_reducible rfl)
    simp only [List.setIfInBounds_toArray, List.set_cons_zero, List.set_cons_succ]
    refine take_at 7 16 (v := ?_) rfl rfl (by kernel_rfl) (by kernel_rfl) (by kernel_rfl) (fun _ _ _ h => h) (by rfl) ?_ hS ?_
    rotate_left 1
    · (intro w hSw; (try dsimp only at hSw); (try go_split_ands); go_simp; try with_reducible rfl)
    simp only [List.setIfInBounds_toArray, List.set_cons_zero, List.set_cons_succ]
    refine wpAnyH_ready (rs := [9]) (by kernel_rfl) (by simp) ?_
    refine AllReadyH.cons rfl (fun K hK => ?_) (AllReadyH.nil)
    go_simp
    generalize hW : World.setCell _ _ _ = w6
    have ht6 : Touch (fun i => i = w1.heap.size) w5 w6 := by rw [← hW]; exact (Touch.far (K := fun i => i = w1.heap.size) (Touch.far (K := fun i => i = w1.heap.size) (Touch.far (K := fun i => i = w1.heap.size) (Touch.refl _ _) (p := ⟨w1.heap.size, 0, none⟩) rfl _) (p := ⟨w1.heap.size, 1, none⟩) rfl _) (p := ⟨w1.heap.size, 2, none⟩) rfl _)
    have hbx6 : Blk w6 (w1.heap.size) 25 (AggR.cells (⟨s1, x1, t1⟩ : Fares.Sum)) := by rw [← hW]; exact (Blk.put (Blk.put (Blk.put HW05.out 0 (.int .i64 s1)) 1 (.int .i64 x1)) 2 (.int .i64 t1))
    clear hW
    clear cW05_0 cW05_1 cW05_2 frW05_0 frW05_1 frW05_2
    have hz6 : w5.heap.size ≤ w6.heap.size := by have := ht6.size; (try simp at this); omega
    have HB6 := Lib.hid (Touch.below HB5.out ht6 (fun i hi => by omega))
    clear HB5
    have HP6 := Lib.hid (Blk.touch HP5.out ht6 (show ¬ (w.heap.size = w1.heap.size) by omega))
    clear HP5
    have HE6 := Lib.hid (Blk.touch HE5.out ht6 (show ¬ (w.heap.size + 1 = w1.heap.size) by omega))
    clear HE5
    clear ht6 HW05
    have Hbx6 := Lib.hid hbx6; clear hbx6
    refine hK.out _ _ (by exact ⟨aggCells HP6.out, evtCells HE6.out⟩) (fun hS => ?_)
    clear hK K
    refine take_at 10 6 (v := ?_) rfl rfl (by kernel_rfl) (by kernel_rfl) (by kernel_rfl) (fun _ _ _ h => h) (by rfl) ?_ hS ?_
    rotate_left 1
    · (intro w hSw; (try dsimp only at hSw); (try go_split_ands); go_simp; try with_reducible rfl)
    simp only [List.setIfInBounds_toArray, List.set_cons_zero, List.set_cons_succ]
    refine wpAnyH_done (by kernel_rfl) ?_ _
    clear hS
    go_wp2
    refine wp_region_held_drew (S := fun w' => (w'.cell? ⟨w.heap.size, 0, none⟩ = some (.int .i64 a0.s) ∧ w'.cell? ⟨w.heap.size, 1, none⟩ = some (.int .i64 a0.a) ∧ w'.cell? ⟨w.heap.size, 2, none⟩ = some (.int .i64 a0.t)) ∧ w'.cell? ⟨w.heap.size + 1, 0, none⟩ = some (.int .i64 a1.k) ∧ w'.cell? ⟨w.heap.size + 1, 1, none⟩ = some (.int .i64 a1.a)) (by kernel_rfl) (by exact ⟨aggCells HP6.out, evtCells HE6.out⟩) (fun hS => ?_)
    refine take_at 0 18 (v := ?_) rfl rfl (by kernel_rfl) (by kernel_rfl) (by kernel_rfl) (fun _ _ _ h => h) (by rfl) ?_ hS ?_
    rotate_left 1
    · (intro w hSw; (try dsimp only at hSw); (try go_split_ands); go_simp; try with_reducible rfl)
    simp only [List.setIfInBounds_toArray, List.set_cons_zero, List.set_cons_succ]
    refine take_at 2 20 (v := ?_) rfl rfl (by kernel_rfl) (by kernel_rfl) (by kernel_rfl) (fun _ _ _ h => h) (by rfl) ?_ hS ?_
    rotate_left 1
    · (intro w hSw; (try dsimp only at hSw); (try go_split_ands); go_simp; try with_reducible rfl)
    simp only [List.setIfInBounds_toArray, List.set_cons_zero, List.set_cons_succ]
    refine wpAnyH_ready (rs := [1, 8]) (by kernel_rfl) (by simp) ?_
    refine AllReadyH.cons rfl (fun K hK => ?_) (AllReadyH.cons rfl (fun K hK => ?_) (AllReadyH.nil))
    · go_simp
      go_wp2_with fail
      refine (C0.out _).mono ?_
      rintro e w7 ⟨rfl, hb7⟩
      have hz7 : w6.heap.size ≤ w7.heap.size := by have := hb7.size; (try simp at this); omega
      have HB7 := Lib.hid (bT (bD1 HB6.out) hb7)
      clear HB6
      have HP7 := Lib.hid (Blk.belowAll (blkDrew HP6.out) hb7)
      clear HP6
      have HE7 := Lib.hid (Blk.belowAll (blkDrew HE6.out) hb7)
      clear HE6
      have HW07 := Lib.hid (Blk.belowAll (blkDrew Hbx6.out) hb7)
      clear Hbx6
      clear hb7
      go_simp
      refine hK.out _ _ (by exact ⟨aggCells HP7.out, evtCells HE7.out⟩) (fun hS => ?_)
      clear hK K
      refine wpAnyH_ready (rs := [3, 8]) (by kernel_rfl) (by simp) ?_
      refine AllReadyH.cons rfl (fun K hK => ?_) (AllReadyH.cons rfl (fun K hK => ?_) (AllReadyH.nil))
      · go_simp
        go_wp2_with fail
        refine (CE.out _).mono ?_
        rintro e w8 ⟨rfl, hb8⟩
        have hz8 : w7.heap.size ≤ w8.heap.size := by have := hb8.size; (try simp at this); omega
        have HB8 := Lib.hid (bT HB7.out hb8)
        clear HB7
        have HP8 := Lib.hid (Blk.belowAll HP7.out hb8)
        clear HP7
        have HE8 := Lib.hid (Blk.belowAll HE7.out hb8)
        clear HE7
        have HW08 := Lib.hid (Blk.belowAll HW07.out hb8)
        clear HW07
        clear hb8
        go_simp
        refine hK.out _ _ (by exact ⟨aggCells HP8.out, evtCells HE8.out⟩) (fun hS => ?_)
        clear hK K
        refine wpAnyH_ready (rs := [4, 8]) (by kernel_rfl) (by simp) ?_
        refine AllReadyH.cons rfl (fun K hK => ?_) (AllReadyH.cons rfl (fun K hK => ?_) (AllReadyH.nil))
        · go_simp
          go_wp2_with fail
          refine (implStep_cells a0 a1 s1 x1 t1 ok HP.out _ (Limits.below HL.out HB8.out) (Steps.below HT.out HB8.out)).mono ?_
          rintro e w9 ⟨rfl, hb9⟩
          have hz9 : w8.heap.size ≤ w9.heap.size := by have := hb9.size; (try simp at this); omega
          have HB9 := Lib.hid (bT HB8.out hb9)
          clear HB8
          have HP9 := Lib.hid (Blk.belowAll HP8.out hb9)
          clear HP8
          have HE9 := Lib.hid (Blk.belowAll HE8.out hb9)
          clear HE8
          have HW09 := Lib.hid (Blk.belowAll HW08.out hb9)
          clear HW08
          clear hb9
          go_simp
          refine hK.out _ _ (by exact ⟨aggCells HP9.out, evtCells HE9.out⟩) (fun hS => ?_)
          clear hK K
          refine take_at 5 17 (v := ?_) rfl rfl (by kernel_rfl) (by kernel_rfl) (by kernel_rfl) (fun _ _ _ h => h) (by rfl) ?_ hS ?_
          rotate_left 1
          · (intro w hSw; (try dsimp only at hSw); (try go_split_ands); go_simp; try with_reducible rfl)
          simp only [List.setIfInBounds_toArray, List.set_cons_zero, List.set_cons_succ]
          refine take_at 6 23 (v := ?_) rfl rfl (by kernel_rfl) (by kernel_rfl) (by kernel_rfl) (fun _ _ _ h => h) (by rfl) ?_ hS ?_
          rotate_left 1
          · (intro w hSw; (try dsimp only at hSw); (try go_split_ands); go_simp; try with_reducible rfl)
          simp only [List.setIfInBounds_toArray, List.set_cons_zero, List.set_cons_succ]
          refine take_at 7 24 (v := ?_) rfl rfl (by kernel_rfl) (by kernel_rfl) (by kernel_rfl) (fun _ _ _ h => h) (by rfl) ?_ hS ?_
          rotate_left 1
          · (intro w hSw; (try dsimp only at hSw); (try go_split_ands); go_simp; try with_reducible rfl)
          simp only [List.setIfInBounds_toArray, List.set_cons_zero, List.set_cons_succ]
          refine wpAnyH_ready (rs := [8]) (by kernel_rfl) (by simp) ?_
          refine AllReadyH.cons rfl (fun K hK => ?_) (AllReadyH.nil)
          go_simp
          generalize hW : World.alloc _ _ = w10
          have hbx10 : Blk w10 w9.heap.size 25 (AggR.cells (⟨0, 0, 0⟩ : Fares.Sum)) := by rw [← hW]; exact Blk.new' (by simp)
          have hb10 : Below w9.heap.size w9 w10 := by rw [← hW]; exact bA (Below.refl _ _) _
          have hy10 : w9.heap.size < w10.heap.size := by rw [← hW]; simp
          clear hW
          have hz10 : w9.heap.size ≤ w10.heap.size := by have := hb10.size; (try simp at this); omega
          have HB10 := Lib.hid (bT HB9.out hb10)
          clear HB9
          have HP10 := Lib.hid (Blk.belowAll HP9.out hb10)
          clear HP9
          have HE10 := Lib.hid (Blk.belowAll HE9.out hb10)
          clear HE9
          have HW010 := Lib.hid (Blk.belowAll HW09.out hb10)
          clear HW09
          clear hb10
          have Hbx10 := Lib.hid hbx10; clear hbx10
          obtain ⟨cG10_0, cG10_1, cG10_2⟩ := aggCells (t := 25) (v := (⟨0, 0, 0⟩ : Fares.Sum)) Hbx10.out
          have frG10_0 := (Hbx10.out).free 0
          have frG10_1 := (Hbx10.out).free 1
          have frG10_2 := (Hbx10.out).free 2
          refine hK.out _ _ (by exact ⟨aggCells HP10.out, evtCells HE10.out⟩) (fun hS => ?_)
          clear hK K
          refine wpAnyH_ready (rs := [9]) (by kernel_rfl) (by simp) ?_
          refine AllReadyH.cons rfl (fun K hK => ?_) (AllReadyH.nil)
          go_simp
          generalize hW : World.setCell _ _ _ = w11
          have ht11 : Touch (fun i => i = w9.heap.size) w10 w11 := by rw [← hW]; exact (Touch.far (K := fun i => i = w9.heap.size) (Touch.far (K := fun i => i = w9.heap.size) (Touch.far (K := fun i => i = w9.heap.size) (Touch.refl _ _) (p := ⟨w9.heap.size, 0, none⟩) rfl _) (p := ⟨w9.heap.size, 1, none⟩) rfl _) (p := ⟨w9.heap.size, 2, none⟩) rfl _)
          have hbx11 : Blk w11 (w9.heap.size) 25 (AggR.cells (⟨s1, x1, t1⟩ : Fares.Sum)) := by rw [← hW]; exact (Blk.put (Blk.put (Blk.put Hbx10.out 0 (.int .i64 s1)) 1 (.int .i64 x1)) 2 (.int .i64 t1))
          clear hW
          clear cG10_0 cG10_1 cG10_2 frG10_0 frG10_1 frG10_2
          have hz11 : w10.heap.size ≤ w11.heap.size := by have := ht11.size; (try simp at this); omega
          have HB11 := Lib.hid (Touch.below HB10.out ht11 (fun i hi => by omega))
          clear HB10
          have HP11 := Lib.hid (Blk.touch HP10.out ht11 (show ¬ (w.heap.size = w9.heap.size) by omega))
          clear HP10
          have HE11 := Lib.hid (Blk.touch HE10.out ht11 (show ¬ (w.heap.size + 1 = w9.heap.size) by omega))
          clear HE10
          have HW011 := Lib.hid (Blk.touch HW010.out ht11 (show ¬ (w1.heap.size = w9.heap.size) by omega))
          clear HW010
          clear ht11 Hbx10
          have Hbx11 := Lib.hid hbx11; clear hbx11
          refine hK.out _ _ (by exact ⟨aggCells HP11.out, evtCells HE11.out⟩) (fun hS => ?_)
          clear hK K
          refine take_at 10 8 (v := ?_) rfl rfl (by kernel_rfl) (by kernel_rfl) (by kernel_rfl) (fun _ _ _ h => h) (by rfl) ?_ hS ?_
          rotate_left 1
          · (intro w hSw; (try dsimp only at hSw); (try go_split_ands); go_simp; try with_reducible rfl)
          simp only [List.setIfInBounds_toArray, List.set_cons_zero, List.set_cons_succ]
          refine wpAnyH_done (by kernel_rfl) ?_ _
          clear hS
          obtain ⟨cG11_0, cG11_1, cG11_2⟩ := aggCells (t := 25) (v := (⟨s1, x1, t1⟩ : Fares.Sum)) Hbx11.out
          obtain ⟨cW011_0, cW011_1, cW011_2⟩ := aggCells (t := 25) (v := (⟨s1, x1, t1⟩ : Fares.Sum)) HW011.out
          dsimp only at cG11_0 cG11_1 cG11_2 cW011_0 cW011_1 cW011_2
          go_wp2_with fail
          refine (C3.out _).mono ?_
          rintro e w12 ⟨rfl, hb12⟩
          clear cG11_0 cG11_1 cG11_2 cW011_0 cW011_1 cW011_2
          have hz12 : w11.heap.size ≤ w12.heap.size := by have := hb12.size; (try simp at this); omega
          have HB12 := Lib.hid (bT HB11.out hb12)
          clear HB11
          have HP12 := Lib.hid (Blk.belowAll HP11.out hb12)
          clear HP11
          have HE12 := Lib.hid (Blk.belowAll HE11.out hb12)
          clear HE11
          have HW012 := Lib.hid (Blk.belowAll HW011.out hb12)
          clear HW011
          have HG12 := Lib.hid (Blk.belowAll Hbx11.out hb12)
          clear Hbx11
          clear hb12
          cases ok <;> (go_wp2; go_ret; exact ⟨rfl, HB12.out⟩)
        · go_simp
          generalize hW : World.alloc _ _ = w9
          have hbx9 : Blk w9 w8.heap.size 25 (AggR.cells (⟨0, 0, 0⟩ : Fares.Sum)) := by rw [← hW]; exact Blk.new' (by simp)
          have hb9 : Below w8.heap.size w8 w9 := by rw [← hW]; exact bA (Below.refl _ _) _
          have hy9 : w8.heap.size < w9.heap.size := by rw [← hW]; simp
          clear hW
          have hz9 : w8.heap.size ≤ w9.heap.size := by have := hb9.size; (try simp at this); omega
          have HB9 := Lib.hid (bT HB8.out hb9)
          clear HB8
          have HP9 := Lib.hid (Blk.belowAll HP8.out hb9)
          clear HP8
          have HE9 := Lib.hid (Blk.belowAll HE8.out hb9)
          clear HE8
          have HW09 := Lib.hid (Blk.belowAll HW08.out hb9)
          clear HW08
          clear hb9
          have Hbx9 := Lib.hid hbx9; clear hbx9
          obtain ⟨cG9_0, cG9_1, cG9_2⟩ := aggCells (t := 25) (v := (⟨0, 0, 0⟩ : Fares.Sum)) Hbx9.out
          have frG9_0 := (Hbx9.out).free 0
          have frG9_1 := (Hbx9.out).free 1
          have frG9_2 := (Hbx9.out).free 2
          refine hK.out _ _ (by exact ⟨aggCells HP9.out, evtCells HE9.out⟩) (fun hS => ?_)
          clear hK K
          refine wpAnyH_ready (rs := [4]) (by kernel_rfl) (by simp) ?_
          refine AllReadyH.cons rfl (fun K hK => ?_) (AllReadyH.nil)
          go_simp
          go_wp2_with fail
          refine (implStep_cells a0 a1 s1 x1 t1 ok HP.out _ (Limits.below HL.out HB9.out) (Steps.below HT.out HB9.out)).mono ?_
          rintro e w10 ⟨rfl, hb10⟩
          clear cG9_0 cG9_1 cG9_2 frG9_0 frG9_1 frG9_2
          have hz10 : w9.heap.size ≤ w10.heap.size := by have := hb10.size; (try simp at this); omega
          have HB10 := Lib.hid (bT HB9.out hb10)
          clear HB9
          have HP10 := Lib.hid (Blk.belowAll HP9.out hb10)
          clear HP9
          have HE10 := Lib.hid (Blk.belowAll HE9.out hb10)
          clear HE9
          have HW010 := Lib.hid (Blk.belowAll HW09.out hb10)
          clear HW09
          have HG10 := Lib.hid (Blk.belowAll Hbx9.out hb10)
          clear Hbx9
          clear hb10
          obtain ⟨cG10_0, cG10_1, cG10_2⟩ := aggCells (t := 25) (v := (⟨0, 0, 0⟩ : Fares.Sum)) HG10.out
          have frG10_0 := (HG10.out).free 0
          have frG10_1 := (HG10.out).free 1
          have frG10_2 := (HG10.out).free 2
          go_simp
          refine hK.out _ _ (by exact ⟨aggCells HP10.out, evtCells HE10.out⟩) (fun hS => ?_)
          clear hK K
          refine take_at 5 17 (v := ?_) rfl rfl (by kernel_rfl) (by kernel_rfl) (by kernel_rfl) (fun _ _ _ h => h) (by rfl) ?_ hS ?_
          rotate_left 1
          · (intro w hSw; (try dsimp only at hSw); (try go_split_ands); go_simp; try with_reducible rfl)
          simp only [List.setIfInBounds_toArray, List.set_cons_zero, List.set_cons_succ]
          refine take_at 6 23 (v := ?_) rfl rfl (by kernel_rfl) (by kernel_rfl) (by kernel_rfl) (fun _ _ _ h => h) (by rfl) ?_ hS ?_
          rotate_left 1
          · (intro w hSw; (try dsimp only at hSw); (try go_split_ands); go_simp; try with_reducible rfl)
          simp only [List.setIfInBounds_toArray, List.set_cons_zero, List.set_cons_succ]
          refine take_at 7 24 (v := ?_) rfl rfl (by kernel_rfl) (by kernel_rfl) (by kernel_rfl) (fun _ _ _ h => h) (by rfl) ?_ hS ?_
          rotate_left 1
          · (intro w hSw; (try dsimp only at hSw); (try go_split_ands); go_simp; try with_reducible rfl)
          simp only [List.setIfInBounds_toArray, List.set_cons_zero, List.set_cons_succ]
          refine wpAnyH_ready (rs := [9]) (by kernel_rfl) (by simp) ?_
          refine AllReadyH.cons rfl (fun K hK => ?_) (AllReadyH.nil)
          go_simp
          generalize hW : World.setCell _ _ _ = w11
          have ht11 : Touch (fun i => i = w8.heap.size) w10 w11 := by rw [← hW]; exact (Touch.far (K := fun i => i = w8.heap.size) (Touch.far (K := fun i => i = w8.heap.size) (Touch.far (K := fun i => i = w8.heap.size) (Touch.refl _ _) (p := ⟨w8.heap.size, 0, none⟩) rfl _) (p := ⟨w8.heap.size, 1, none⟩) rfl _) (p := ⟨w8.heap.size, 2, none⟩) rfl _)
          have hbx11 : Blk w11 (w8.heap.size) 25 (AggR.cells (⟨s1, x1, t1⟩ : Fares.Sum)) := by rw [← hW]; exact (Blk.put (Blk.put (Blk.put HG10.out 0 (.int .i64 s1)) 1 (.int .i64 x1)) 2 (.int .i64 t1))
          clear hW
          clear cG10_0 cG10_1 cG10_2 frG10_0 frG10_1 frG10_2
          have hz11 : w10.heap.size ≤ w11.heap.size := by have := ht11.size; (try simp at this); omega
          have HB11 := Lib.hid (Touch.below HB10.out ht11 (fun i hi => by omega))
          clear HB10
          have HP11 := Lib.hid (Blk.touch HP10.out ht11 (show ¬ (w.heap.size = w8.heap.size) by omega))
          clear HP10
          have HE11 := Lib.hid (Blk.touch HE10.out ht11 (show ¬ (w.heap.size + 1 = w8.heap.size) by omega))
          clear HE10
          have HW011 := Lib.hid (Blk.touch HW010.out ht11 (show ¬ (w1.heap.size = w8.heap.size) by omega))
          clear HW010
          clear ht11 HG10
          have Hbx11 := Lib.hid hbx11; clear hbx11
          refine hK.out _ _ (by exact ⟨aggCells HP11.out, evtCells HE11.out⟩) (fun hS => ?_)
          clear hK K
          refine take_at 10 8 (v := ?_) rfl rfl (by kernel_rfl) (by kernel_rfl) (by kernel_rfl) (fun _ _ _ h => h) (by rfl) ?_ hS ?_
          rotate_left 1
          · (intro w hSw; (try dsimp only at hSw); (try go_split_ands); go_simp; try with_reducible rfl)
          simp only [List.setIfInBounds_toArray, List.set_cons_zero, List.set_cons_succ]
          refine wpAnyH_done (by kernel_rfl) ?_ _
          clear hS
          obtain ⟨cG11_0, cG11_1, cG11_2⟩ := aggCells (t := 25) (v := (⟨s1, x1, t1⟩ : Fares.Sum)) Hbx11.out
          obtain ⟨cW011_0, cW011_1, cW011_2⟩ := aggCells (t := 25) (v := (⟨s1, x1, t1⟩ : Fares.Sum)) HW011.out
          dsimp only at cG11_0 cG11_1 cG11_2 cW011_0 cW011_1 cW011_2
          go_wp2_with fail
          refine (C3.out _).mono ?_
          rintro e w12 ⟨rfl, hb12⟩
          clear cG11_0 cG11_1 cG11_2 cW011_0 cW011_1 cW011_2
          have hz12 : w11.heap.size ≤ w12.heap.size := by have := hb12.size; (try simp at this); omega
          have HB12 := Lib.hid (bT HB11.out hb12)
          clear HB11
          have HP12 := Lib.hid (Blk.belowAll HP11.out hb12)
          clear HP11
          have HE12 := Lib.hid (Blk.belowAll HE11.out hb12)
          clear HE11
          have HW012 := Lib.hid (Blk.belowAll HW011.out hb12)
          clear HW011
          have HG12 := Lib.hid (Blk.belowAll Hbx11.out hb12)
          clear Hbx11
          clear hb12
          cases ok <;> (go_wp2; go_ret; exact ⟨rfl, HB12.out⟩)
      · go_simp
        generalize hW : World.alloc _ _ = w8
        have hbx8 : Blk w8 w7.heap.size 25 (AggR.cells (⟨0, 0, 0⟩ : Fares.Sum)) := by rw [← hW]; exact Blk.new' (by simp)
        have hb8 : Below w7.heap.size w7 w8 := by rw [← hW]; exact bA (Below.refl _ _) _
        have hy8 : w7.heap.size < w8.heap.size := by rw [← hW]; simp
        clear hW
        have hz8 : w7.heap.size ≤ w8.heap.size := by have := hb8.size; (try simp at this); omega
        have HB8 := Lib.hid (bT HB7.out hb8)
        clear HB7
        have HP8 := Lib.hid (Blk.belowAll HP7.out hb8)
        clear HP7
        have HE8 := Lib.hid (Blk.belowAll HE7.out hb8)
        clear HE7
        have HW08 := Lib.hid (Blk.belowAll HW07.out hb8)
        clear HW07
        clear hb8
        have Hbx8 := Lib.hid hbx8; clear hbx8
        obtain ⟨cG8_0, cG8_1, cG8_2⟩ := aggCells (t := 25) (v := (⟨0, 0, 0⟩ : Fares.Sum)) Hbx8.out
        have frG8_0 := (Hbx8.out).free 0
        have frG8_1 := (Hbx8.out).free 1
        have frG8_2 := (Hbx8.out).free 2
        refine hK.out _ _ (by exact ⟨aggCells HP8.out, evtCells HE8.out⟩) (fun hS => ?_)
        clear hK K
        refine wpAnyH_ready (rs := [3]) (by kernel_rfl) (by simp) ?_
        refine AllReadyH.cons rfl (fun K hK => ?_) (AllReadyH.nil)
        go_simp
        go_wp2_with fail
        refine (CE.out _).mono ?_
        rintro e w9 ⟨rfl, hb9⟩
        clear cG8_0 cG8_1 cG8_2 frG8_0 frG8_1 frG8_2
        have hz9 : w8.heap.size ≤ w9.heap.size := by have := hb9.size; (try simp at this); omega
        have HB9 := Lib.hid (bT HB8.out hb9)
        clear HB8
        have HP9 := Lib.hid (Blk.belowAll HP8.out hb9)
        clear HP8
        have HE9 := Lib.hid (Blk.belowAll HE8.out hb9)
        clear HE8
        have HW09 := Lib.hid (Blk.belowAll HW08.out hb9)
        clear HW08
        have HG9 := Lib.hid (Blk.belowAll Hbx8.out hb9)
        clear Hbx8
        clear hb9
        obtain ⟨cG9_0, cG9_1, cG9_2⟩ := aggCells (t := 25) (v := (⟨0, 0, 0⟩ : Fares.Sum)) HG9.out
        have frG9_0 := (HG9.out).free 0
        have frG9_1 := (HG9.out).free 1
        have frG9_2 := (HG9.out).free 2
        go_simp
        refine hK.out _ _ (by exact ⟨aggCells HP9.out, evtCells HE9.out⟩) (fun hS => ?_)
        clear hK K
        refine wpAnyH_ready (rs := [4]) (by kernel_rfl) (by simp) ?_
        refine AllReadyH.cons rfl (fun K hK => ?_) (AllReadyH.nil)
        go_simp
        go_wp2_with fail
        refine (implStep_cells a0 a1 s1 x1 t1 ok HP.out _ (Limits.below HL.out HB9.out) (Steps.below HT.out HB9.out)).mono ?_
        rintro e w10 ⟨rfl, hb10⟩
        clear cG9_0 cG9_1 cG9_2 frG9_0 frG9_1 frG9_2
        have hz10 : w9.heap.size ≤ w10.heap.size := by have := hb10.size; (try simp at this); omega
        have HB10 := Lib.hid (bT HB9.out hb10)
        clear HB9
        have HP10 := Lib.hid (Blk.belowAll HP9.out hb10)
        clear HP9
        have HE10 := Lib.hid (Blk.belowAll HE9.out hb10)
        clear HE9
        have HW010 := Lib.hid (Blk.belowAll HW09.out hb10)
        clear HW09
        have HG10 := Lib.hid (Blk.belowAll HG9.out hb10)
        clear HG9
        clear hb10
        obtain ⟨cG10_0, cG10_1, cG10_2⟩ := aggCells (t := 25) (v := (⟨0, 0, 0⟩ : Fares.Sum)) HG10.out
        have frG10_0 := (HG10.out).free 0
        have frG10_1 := (HG10.out).free 1
        have frG10_2 := (HG10.out).free 2
        go_simp
        refine hK.out _ _ (by exact ⟨aggCells HP10.out, evtCells HE10.out⟩) (fun hS => ?_)
        clear hK K
        refine take_at 5 17 (v := ?_) rfl rfl (by kernel_rfl) (by kernel_rfl) (by kernel_rfl) (fun _ _ _ h => h) (by rfl) ?_ hS ?_
        rotate_left 1
        · (intro w hSw; (try dsimp only at hSw); (try go_split_ands); go_simp; try with_reducible rfl)
        simp only [List.setIfInBounds_toArray, List.set_cons_zero, List.set_cons_succ]
        refine take_at 6 23 (v := ?_) rfl rfl (by kernel_rfl) (by kernel_rfl) (by kernel_rfl) (fun _ _ _ h => h) (by rfl) ?_ hS ?_
        rotate_left 1
        · (intro w hSw; (try dsimp only at hSw); (try go_split_ands); go_simp; try with_reducible rfl)
        simp only [List.setIfInBounds_toArray, List.set_cons_zero, List.set_cons_succ]
        refine take_at 7 24 (v := ?_) rfl rfl (by kernel_rfl) (by kernel_rfl) (by kernel_rfl) (fun _ _ _ h => h) (by rfl) ?_ hS ?_
        rotate_left 1
        · (intro w hSw; (try dsimp only at hSw); (try go_split_ands); go_simp; try with_reducible rfl)
        simp only [List.setIfInBounds_toArray, List.set_cons_zero, List.set_cons_succ]
        refine wpAnyH_ready (rs := [9]) (by kernel_rfl) (by simp) ?_
        refine AllReadyH.cons rfl (fun K hK => ?_) (AllReadyH.nil)
        go_simp
        generalize hW : World.setCell _ _ _ = w11
        have ht11 : Touch (fun i => i = w7.heap.size) w10 w11 := by rw [← hW]; exact (Touch.far (K := fun i => i = w7.heap.size) (Touch.far (K := fun i => i = w7.heap.size) (Touch.far (K := fun i => i = w7.heap.size) (Touch.refl _ _) (p := ⟨w7.heap.size, 0, none⟩) rfl _) (p := ⟨w7.heap.size, 1, none⟩) rfl _) (p := ⟨w7.heap.size, 2, none⟩) rfl _)
        have hbx11 : Blk w11 (w7.heap.size) 25 (AggR.cells (⟨s1, x1, t1⟩ : Fares.Sum)) := by rw [← hW]; exact (Blk.put (Blk.put (Blk.put HG10.out 0 (.int .i64 s1)) 1 (.int .i64 x1)) 2 (.int .i64 t1))
        clear hW
        clear cG10_0 cG10_1 cG10_2 frG10_0 frG10_1 frG10_2
        have hz11 : w10.heap.size ≤ w11.heap.size := by have := ht11.size; (try simp at this); omega
        have HB11 := Lib.hid (Touch.below HB10.out ht11 (fun i hi => by omega))
        clear HB10
        have HP11 := Lib.hid (Blk.touch HP10.out ht11 (show ¬ (w.heap.size = w7.heap.size) by omega))
        clear HP10
        have HE11 := Lib.hid (Blk.touch HE10.out ht11 (show ¬ (w.heap.size + 1 = w7.heap.size) by omega))
        clear HE10
        have HW011 := Lib.hid (Blk.touch HW010.out ht11 (show ¬ (w1.heap.size = w7.heap.size) by omega))
        clear HW010
        clear ht11 HG10
        have Hbx11 := Lib.hid hbx11; clear hbx11
        refine hK.out _ _ (by exact ⟨aggCells HP11.out, evtCells HE11.out⟩) (fun hS => ?_)
        clear hK K
        refine take_at 10 8 (v := ?_) rfl rfl (by kernel_rfl) (by kernel_rfl) (by kernel_rfl) (fun _ _ _ h => h) (by rfl) ?_ hS ?_
        rotate_left 1
        · (intro w hSw; (try dsimp only at hSw); (try go_split_ands); go_simp; try with_reducible rfl)
        simp only [List.setIfInBounds_toArray, List.set_cons_zero, List.set_cons_succ]
        refine wpAnyH_done (by kernel_rfl) ?_ _
        clear hS
        obtain ⟨cG11_0, cG11_1, cG11_2⟩ := aggCells (t := 25) (v := (⟨s1, x1, t1⟩ : Fares.Sum)) Hbx11.out
        obtain ⟨cW011_0, cW011_1, cW011_2⟩ := aggCells (t := 25) (v := (⟨s1, x1, t1⟩ : Fares.Sum)) HW011.out
        dsimp only at cG11_0 cG11_1 cG11_2 cW011_0 cW011_1 cW011_2
        go_wp2_with fail
        refine (C3.out _).mono ?_
        rintro e w12 ⟨rfl, hb12⟩
        clear cG11_0 cG11_1 cG11_2 cW011_0 cW011_1 cW011_2
        have hz12 : w11.heap.size ≤ w12.heap.size := by have := hb12.size; (try simp at this); omega
        have HB12 := Lib.hid (bT HB11.out hb12)
        clear HB11
        have HP12 := Lib.hid (Blk.belowAll HP11.out hb12)
        clear HP11
        have HE12 := Lib.hid (Blk.belowAll HE11.out hb12)
        clear HE11
        have HW012 := Lib.hid (Blk.belowAll HW011.out hb12)
        clear HW011
        have HG12 := Lib.hid (Blk.belowAll Hbx11.out hb12)
        clear Hbx11
        clear hb12
        cases ok <;> (go_wp2; go_ret; exact ⟨rfl, HB12.out⟩)
    · go_simp
      generalize hW : World.alloc _ _ = w7
      have hbx7 : Blk w7 w6.heap.size 25 (AggR.cells (⟨0, 0, 0⟩ : Fares.Sum)) := by rw [← hW]; exact Blk.new' (by simp)
      have hb7 : Below w6.heap.size w6 w7 := by rw [← hW]; exact bA (Below.refl _ _) _
      have hy7 : w6.heap.size < w7.heap.size := by rw [← hW]; simp
      clear hW
      have hz7 : w6.heap.size ≤ w7.heap.size := by have := hb7.size; (try simp at this); omega
      have HB7 := Lib.hid (bT HB6.out hb7)
      clear HB6
      have HP7 := Lib.hid (Blk.belowAll HP6.out hb7)
      clear HP6
      have HE7 := Lib.hid (Blk.belowAll HE6.out hb7)
      clear HE6
      have HW07 := Lib.hid (Blk.belowAll Hbx6.out hb7)
      clear Hbx6
      clear hb7
      have Hbx7 := Lib.hid hbx7; clear hbx7
      obtain ⟨cG7_0, cG7_1, cG7_2⟩ := aggCells (t := 25) (v := (⟨0, 0, 0⟩ : Fares.Sum)) (blkDrew Hbx7.out)
      have frG7_0 := ((blkDrew Hbx7.out)).free 0
      have frG7_1 := ((blkDrew Hbx7.out)).free 1
      have frG7_2 := ((blkDrew Hbx7.out)).free 2
      refine hK.out _ _ (by exact ⟨aggCells (blkDrew HP7.out), evtCells (blkDrew HE7.out)⟩) (fun hS => ?_)
      clear hK K
      refine wpAnyH_ready (rs := [1]) (by kernel_rfl) (by simp) ?_
      refine AllReadyH.cons rfl (fun K hK => ?_) (AllReadyH.nil)
      go_simp
      go_wp2_with fail
      refine (C0.out _).mono ?_
      rintro e w8 ⟨rfl, hb8⟩
      clear cG7_0 cG7_1 cG7_2 frG7_0 frG7_1 frG7_2
      have hz8 : w7.heap.size ≤ w8.heap.size := by have := hb8.size; (try simp at this); omega
      have HB8 := Lib.hid (bT (bD1 HB7.out) hb8)
      clear HB7
      have HP8 := Lib.hid (Blk.belowAll (blkDrew HP7.out) hb8)
      clear HP7
      have HE8 := Lib.hid (Blk.belowAll (blkDrew HE7.out) hb8)
      clear HE7
      have HW08 := Lib.hid (Blk.belowAll (blkDrew HW07.out) hb8)
      clear HW07
      have HG8 := Lib.hid (Blk.belowAll (blkDrew Hbx7.out) hb8)
      clear Hbx7
      clear hb8
      obtain ⟨cG8_0, cG8_1, cG8_2⟩ := aggCells (t := 25) (v := (⟨0, 0, 0⟩ : Fares.Sum)) HG8.out
      have frG8_0 := (HG8.out).free 0
      have frG8_1 := (HG8.out).free 1
      have frG8_2 := (HG8.out).free 2
      go_simp
      refine hK.out _ _ (by exact ⟨aggCells HP8.out, evtCells HE8.out⟩) (fun hS => ?_)
      clear hK K
      refine wpAnyH_ready (rs := [3]) (by kernel_rfl) (by simp) ?_
      refine AllReadyH.cons rfl (fun K hK => ?_) (AllReadyH.nil)
      go_simp
      go_wp2_with fail
      refine (CE.out _).mono ?_
      rintro e w9 ⟨rfl, hb9⟩
      clear cG8_0 cG8_1 cG8_2 frG8_0 frG8_1 frG8_2
      have hz9 : w8.heap.size ≤ w9.heap.size := by have := hb9.size; (try simp at this); omega
      have HB9 := Lib.hid (bT HB8.out hb9)
      clear HB8
      have HP9 := Lib.hid (Blk.belowAll HP8.out hb9)
      clear HP8
      have HE9 := Lib.hid (Blk.belowAll HE8.out hb9)
      clear HE8
      have HW09 := Lib.hid (Blk.belowAll HW08.out hb9)
      clear HW08
      have HG9 := Lib.hid (Blk.belowAll HG8.out hb9)
      clear HG8
      clear hb9
      obtain ⟨cG9_0, cG9_1, cG9_2⟩ := aggCells (t := 25) (v := (⟨0, 0, 0⟩ : Fares.Sum)) HG9.out
      have frG9_0 := (HG9.out).free 0
      have frG9_1 := (HG9.out).free 1
      have frG9_2 := (HG9.out).free 2
      go_simp
      refine hK.out _ _ (by exact ⟨aggCells HP9.out, evtCells HE9.out⟩) (fun hS => ?_)
      clear hK K
      refine wpAnyH_ready (rs := [4]) (by kernel_rfl) (by simp) ?_
      refine AllReadyH.cons rfl (fun K hK => ?_) (AllReadyH.nil)
      go_simp
      go_wp2_with fail
      refine (implStep_cells a0 a1 s1 x1 t1 ok HP.out _ (Limits.below HL.out HB9.out) (Steps.below HT.out HB9.out)).mono ?_
      rintro e w10 ⟨rfl, hb10⟩
      clear cG9_0 cG9_1 cG9_2 frG9_0 frG9_1 frG9_2
      have hz10 : w9.heap.size ≤ w10.heap.size := by have := hb10.size; (try simp at this); omega
      have HB10 := Lib.hid (bT HB9.out hb10)
      clear HB9
      have HP10 := Lib.hid (Blk.belowAll HP9.out hb10)
      clear HP9
      have HE10 := Lib.hid (Blk.belowAll HE9.out hb10)
      clear HE9
      have HW010 := Lib.hid (Blk.belowAll HW09.out hb10)
      clear HW09
      have HG10 := Lib.hid (Blk.belowAll HG9.out hb10)
      clear HG9
      clear hb10
      obtain ⟨cG10_0, cG10_1, cG10_2⟩ := aggCells (t := 25) (v := (⟨0, 0, 0⟩ : Fares.Sum)) HG10.out
      have frG10_0 := (HG10.out).free 0
      have frG10_1 := (HG10.out).free 1
      have frG10_2 := (HG10.out).free 2
      go_simp
      refine hK.out _ _ (by exact ⟨aggCells HP10.out, evtCells HE10.out⟩) (fun hS => ?_)
      clear hK K
      refine take_at 5 17 (v := ?_) rfl rfl (by kernel_rfl) (by kernel_rfl) (by kernel_rfl) (fun _ _ _ h => h) (by rfl) ?_ hS ?_
      rotate_left 1
      · (intro w hSw; (try dsimp only at hSw); (try go_split_ands); go_simp; try with_reducible rfl)
      simp only [List.setIfInBounds_toArray, List.set_cons_zero, List.set_cons_succ]
      refine take_at 6 23 (v := ?_) rfl rfl (by kernel_rfl) (by kernel_rfl) (by kernel_rfl) (fun _ _ _ h => h) (by rfl) ?_ hS ?_
      rotate_left 1
      · (intro w hSw; (try dsimp only at hSw); (try go_split_ands); go_simp; try with_reducible rfl)
      simp only [List.setIfInBounds_toArray, List.set_cons_zero, List.set_cons_succ]
      refine take_at 7 24 (v := ?_) rfl rfl (by kernel_rfl) (by kernel_rfl) (by kernel_rfl) (fun _ _ _ h => h) (by rfl) ?_ hS ?_
      rotate_left 1
      · (intro w hSw; (try dsimp only at hSw); (try go_split_ands); go_simp; try with_reducible rfl)
      simp only [List.setIfInBounds_toArray, List.set_cons_zero, List.set_cons_succ]
      refine wpAnyH_ready (rs := [9]) (by kernel_rfl) (by simp) ?_
      refine AllReadyH.cons rfl (fun K hK => ?_) (AllReadyH.nil)
      go_simp
      generalize hW : World.setCell _ _ _ = w11
      have ht11 : Touch (fun i => i = w6.heap.size) w10 w11 := by rw [← hW]; exact (Touch.far (K := fun i => i = w6.heap.size) (Touch.far (K := fun i => i = w6.heap.size) (Touch.far (K := fun i => i = w6.heap.size) (Touch.refl _ _) (p := ⟨w6.heap.size, 0, none⟩) rfl _) (p := ⟨w6.heap.size, 1, none⟩) rfl _) (p := ⟨w6.heap.size, 2, none⟩) rfl _)
      have hbx11 : Blk w11 (w6.heap.size) 25 (AggR.cells (⟨s1, x1, t1⟩ : Fares.Sum)) := by rw [← hW]; exact (Blk.put (Blk.put (Blk.put HG10.out 0 (.int .i64 s1)) 1 (.int .i64 x1)) 2 (.int .i64 t1))
      clear hW
      clear cG10_0 cG10_1 cG10_2 frG10_0 frG10_1 frG10_2
      have hz11 : w10.heap.size ≤ w11.heap.size := by have := ht11.size; (try simp at this); omega
      have HB11 := Lib.hid (Touch.below HB10.out ht11 (fun i hi => by omega))
      clear HB10
      have HP11 := Lib.hid (Blk.touch HP10.out ht11 (show ¬ (w.heap.size = w6.heap.size) by omega))
      clear HP10
      have HE11 := Lib.hid (Blk.touch HE10.out ht11 (show ¬ (w.heap.size + 1 = w6.heap.size) by omega))
      clear HE10
      have HW011 := Lib.hid (Blk.touch HW010.out ht11 (show ¬ (w1.heap.size = w6.heap.size) by omega))
      clear HW010
      clear ht11 HG10
      have Hbx11 := Lib.hid hbx11; clear hbx11
      refine hK.out _ _ (by exact ⟨aggCells HP11.out, evtCells HE11.out⟩) (fun hS => ?_)
      clear hK K
      refine take_at 10 8 (v := ?_) rfl rfl (by kernel_rfl) (by kernel_rfl) (by kernel_rfl) (fun _ _ _ h => h) (by rfl) ?_ hS ?_
      rotate_left 1
      · (intro w hSw; (try dsimp only at hSw); (try go_split_ands); go_simp; try with_reducible rfl)
      simp only [List.setIfInBounds_toArray, List.set_cons_zero, List.set_cons_succ]
      refine wpAnyH_done (by kernel_rfl) ?_ _
      clear hS
      obtain ⟨cG11_0, cG11_1, cG11_2⟩ := aggCells (t := 25) (v := (⟨s1, x1, t1⟩ : Fares.Sum)) Hbx11.out
      obtain ⟨cW011_0, cW011_1, cW011_2⟩ := aggCells (t := 25) (v := (⟨s1, x1, t1⟩ : Fares.Sum)) HW011.out
      dsimp only at cG11_0 cG11_1 cG11_2 cW011_0 cW011_1 cW011_2
      go_wp2_with fail
      refine (C3.out _).mono ?_
      rintro e w12 ⟨rfl, hb12⟩
      clear cG11_0 cG11_1 cG11_2 cW011_0 cW011_1 cW011_2
      have hz12 : w11.heap.size ≤ w12.heap.size := by have := hb12.size; (try simp at this); omega
      have HB12 := Lib.hid (bT HB11.out hb12)
      clear HB11
      have HP12 := Lib.hid (Blk.belowAll HP11.out hb12)
      clear HP11
      have HE12 := Lib.hid (Blk.belowAll HE11.out hb12)
      clear HE11
      have HW012 := Lib.hid (Blk.belowAll HW011.out hb12)
      clear HW011
      have HG12 := Lib.hid (Blk.belowAll Hbx11.out hb12)
      clear Hbx11
      clear hb12
      cases ok <;> (go_wp2; go_ret; exact ⟨rfl, HB12.out⟩)

theorem contract (H : Type) (enc : TypeId × Value → H) (W : World) (base : Nat) (args : Array Value) (ds gs : List (DataW H)) (before : List MemPlace)
    (hval : ∀ (j : Nat) t v, Tryd.f4.params[j]? = some t → args[j]? = some v → Value.okWide Tryd.prog W .any base t v)
    (hW : DataW.Whole enc Tryd.prog Tryd.f4.params.toList Rows.fnExactStepSumSpec.vars false W args.toList ds gs before) (hL : laidMetH Tryd.prog Rows.fnExactStepSumRow.laid W) :
    Calls Tryd.prog 4 args W fun e W' => ∃ v, e = .returned v ∧ Rows.fnExactStepSumSpec.post enc Tryd.prog Tryd.f4 false true false false W args v W' := by
  have hL0 : laidMet Tryd.prog [("loop.example/transitfares/impl.stateLimits", Rows.laid_loop_example_transitfares_impl_stateLimits), ("loop.example/transitfares/impl.sumSteps", Rows.laid_loop_example_transitfares_impl_sumSteps)] W := by
    have h : laidMetH Tryd.prog [("loop.example/transitfares/impl.stateLimits", Rows.laid_loop_example_transitfares_impl_stateLimits), ("loop.example/transitfares/impl.sumSteps", Rows.laid_loop_example_transitfares_impl_sumSteps)] W := hL
    unfold laidMetH at h
    exact h
  have hv0 : Limits W := limits_of_head rfl hL0
  have hv1 : Steps W := steps_of_head rfl hL0.tail
  have hW' := hW
  obtain ⟨p, q, hA0, hV, rfl, _, _⟩ := hW
  have hA : DataW.TrodAll enc Tryd.prog W 0 (fun _ => true) true Tryd.f4.params.toList args.toList ds p := hA0
  rw [Tryd.params4] at hA hval
  obtain ⟨v0, vs0, d0, ds0, p0, q0, hargs, rfl, rfl, h0, r0⟩ := trodAll_cons hA
  obtain ⟨v1, vs1, d1, ds1, p1, q1, rfl, rfl, rfl, h1, r1⟩ := trodAll_cons r0
  obtain ⟨rfl, rfl, rfl⟩ := trodAll_nil r1
  obtain rfl : args = #[v0, v1] := by cases args; simp_all
  obtain ⟨g1, g2, rfl⟩ := vars2 hV
  clear hA0
  have hlt : ∀ x ∈ (p0 ++ (p1 ++ [])), x.block < W.heap.size := fun x hx => hW'.lt x (List.mem_append_left _ hx)
  have k0 := fun (W' : World) (hn : Below W.heap.size W W') => Below.trod Cells.laidOut (by kernel_rfl) (of_decide_eq_true (by kernel_rfl)) h0 hn (fun x hx => hlt x (by simp [hx]))
  have k1 := fun (W' : World) (hn : Below W.heap.size W W') => Below.trod Cells.laidOut (by kernel_rfl) (of_decide_eq_true (by kernel_rfl)) h1 hn (fun x hx => hlt x (by simp [hx]))
  obtain ⟨a0, rfl, f0⟩ := sum_open (hval 0 23 v0 rfl rfl) h0
  obtain ⟨a1, rfl, f1⟩ := event_open (hval 1 29 v1 rfl rfl) h1
  refine (walk W a0 f0 a1 f1 hv0 hv1).mono fun e W' ⟨he, hnx⟩ => ?_
  subst he
  exact ⟨_, rfl, _, _, _, [], (p0 ++ (p1 ++ [])), q, hW', trodAll_mk1 (shut_bool Tryd.underlying4 _), (trodAll_cons_mk (k0 _ hnx) (trodAll_cons_mk (k1 _ hnx) trodAll_mk0)), Below.trodVars Cells.laidOut hnx (by kernel_rfl) hV, hnx.frame _, fun h => by cases h⟩

/-- A world in which the tables lie. -/
noncomputable def laidWorld (os : Os) : World :=
  { World.holding Tryd.prog os ⟨#[], #[], []⟩ with heap := (((World.holding Tryd.prog os ⟨#[], #[], []⟩).heap).modify 1 (fun x => match x with | .cells _ t frozen => .cells stepCells t frozen | o => o)).modify 0 (fun x => match x with | .cells _ t frozen => .cells limitCells t frozen | o => o) }
theorem laid_met (os : Os) : laidMet Tryd.prog Rows.fnExactStepSumRow.laid ((laidWorld os).forCall (fun _ _ => 0) ⟨#[], #[.agg #[.int .i64 0, .int .i64 0, .int .i64 0], .agg #[.int .i64 0, .int .i64 0]], []⟩).memory :=
  laidMet_of_run' 8 (by kernel_rfl) (by kernel_rfl)
theorem reads (os : Os) {H : Type} (enc : TypeId × Value → H) : ∃ places, DataW.whole enc Tryd.prog ((laidWorld os).forCall (fun _ _ => 0) ⟨#[], #[.agg #[.int .i64 0, .int .i64 0, .int .i64 0], .agg #[.int .i64 0, .int .i64 0]], []⟩).memory Tryd.f4.params.toList Rows.fnExactStepSumSpec.vars false (#[.agg #[.int .i64 0, .int .i64 0, .int .i64 0], .agg #[.int .i64 0, .int .i64 0]] : Array Value).toList 8 = some ([.agg [.lit (.int .i64 0), .lit (.int .i64 0), .lit (.int .i64 0)], .agg [.lit (.int .i64 0), .lit (.int .i64 0)]], [Rows.laid_loop_example_transitfares_impl_sumSteps, Rows.laid_loop_example_transitfares_impl_stateLimits], places) :=
  ⟨MemPlace.row ⟨1, 0, none⟩ 24 ++ MemPlace.row ⟨0, 0, none⟩ 24, by kernel_rfl⟩
set_option maxRecDepth 100000 in
theorem lifted (os : Os) (started : os.Started) (H : Type) (enc : TypeId × Value → H) (F : Stop.Interp) :
    ReturnsInHanded {} Tryd.checked os 4 .any ((OpenSpec.ofChange Rows.fnExactStepSumSpec).preRow enc Tryd.prog Tryd.f4 Rows.fnExactStepSumRow.domain false Rows.fnExactStepSumRow.laid) (((OpenSpec.ofChange Rows.fnExactStepSumSpec).at F).post enc Tryd.prog Tryd.f4 false true false false) := by
  obtain ⟨places, hx⟩ := reads os enc
  refine returnsInHanded_of_row (C := Tryd.checked) (s := OpenSpec.ofChange Rows.fnExactStepSumSpec) Cells.own started (by kernel_rfl) Tryd.func4
    (witness_row_at (enc := enc) (C := Tryd.checked) false (laidWorld os) #[.agg #[.int .i64 0, .int .i64 0, .int .i64 0], .agg #[.int .i64 0, .int .i64 0]] rfl (by kernel_rfl) (by kernel_rfl) (by kernel_rfl)
      (OpenSpec.preRow_of_cond 8 hx (by kernel_rfl) (fun k hk => by cases hk) (by kernel_rfl) (laid_met os))) ?_
  intro W base args ds gs before hval hW _ _ _ hL _ _
  exact contract H enc W base args ds gs before hval hW hL
theorem said : Rows.FnExactStepSumSaid :=
  OpenClaim.holds_of_cond 4 Tryd.f4 rfl rfl rfl rfl rfl rfl rfl ⟨rfl, rfl, rfl, rfl, rfl⟩ rfl rfl rfl rfl rfl (by kernel_rfl) Tryd.func4 (by kernel_rfl)
    (of_decide_eq_true (by kernel_rfl)) (by unfold Func.isWrapper; first | (rw [if_pos (by decide +kernel)]; kernel_rfl) | (rw [if_neg (by decide +kernel)]; exact ⟨rfl, rfl⟩))
    (fun os started H enc _ F => by rw [OpenClaim.pre_eq_preRow]; exact lifted os started H enc F)
theorem plain (f : FuncId) (fn : Func) (hf : Tryd.pinned.checked.prog.funcNamed "loop.example/transitfares/laws.FnExactStepSum" = some f) (hfn : Tryd.pinned.checked.prog.funcs[f]? = some fn) :
    false = Tryd.pinned.checked.prog.looks [] ∧ ∀ (j : Nat) t, fn.params[j]? = some t → Tryd.pinned.checked.prog.wantsStandIn t = false := by
  obtain rfl : f = 4 := Option.some.inj ((show Tryd.prog.funcNamed "loop.example/transitfares/laws.FnExactStepSum" = some 4 by kernel_rfl).symm.trans hf) |>.symm
  obtain rfl : fn = Tryd.f4 := (Option.some.inj (Tryd.func4.symm.trans hfn)).symm
  refine ⟨by kernel_rfl, fun j t ht => ?_⟩
  rw [Tryd.params4] at ht
  have hm : t ∈ [23, 29] := by simpa using Array.mem_of_getElem? ht
  have hall : ([23, 29].all fun u => !Tryd.prog.wantsStandIn u) = true := by kernel_rfl
  exact (show Tryd.prog.wantsStandIn t = false by simpa using List.all_eq_true.1 hall t hm)
/-- THE STATEMENT: the tied card -/
theorem proved : Rows.FnExactStepSumCardSaid :=
  Claim7.holds_tied_plain_at .later [] _ _ _ _ said (fun _ h => by cases h) (by kernel_rfl) (fun _ h => by cases h) fnExactStepSum_row_tie rfl ⟨rfl, rfl⟩ (by kernel_rfl) rfl plain (by kernel_rfl)
#print axioms proved
end Go.Proofs.YtpdlngekeeaocaaDoor.fnExactStepSum
