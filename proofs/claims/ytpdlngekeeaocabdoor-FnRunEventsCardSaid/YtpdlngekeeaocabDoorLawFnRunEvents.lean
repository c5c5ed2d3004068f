/-
  Events run one by one: for every code, with the aggregate and the events drawn from it, the law FnRunEvents returns true and leaves the code as it was. The program's tables hold what its text lays in them.
-/
import Derived.Test.YtpdlngekeeaocabDoorCards
import Derived.Test.YtpdlngekeeaocabDoorTie
import Derived.Test.YtpdlngekeeaocabDoorOpen
import Derived.Test.YtpdlngekeeaocabDoorAggLaid
import Derived.Deep.DeepHandedRow
import Derived.Deep.RegionHeld3
import Derived.Test.YtpdlngekeeaocabDoorAggRunLaw
import Derived.Test.YtpdlngekeeaocabDoorDrawsRun
import Derived.Test.YtpdlngekeeaocabDoorLiftBytes
import Derived.Test.YtpdlngekeeaocabDoorReg
import Derived.Test.YtpdlngekeeaocabDoorAggRunHalf
set_option linter.unusedSimpArgs false
namespace Go.Proofs.YtpdlngekeeaocabDoor.fnRunEvents
open Go.ChangeShapes Go.WideShapes Go.ChangeAt Go.RowKit
set_option linter.unusedVariables false

set_option maxRecDepth 100000 in
set_option maxHeartbeats 9000000 in
theorem walk (w : World) (A : Option Addr) (n c : Nat) (h : Bytes w w.heap.size A n c) (hL : Limits w) (hT : Steps w) : Calls Tryd.prog 4 #[.slice A n c] w (TrueBelow w) := by
  by_cases hn : 1048576 < n
  · go_enter Tryd.func4, Tryd.ntmps4
    go_wp2
    go_ret
    exact ⟨rfl, Below.refl _ _⟩
  · skip
    go_enter Tryd.func4, Tryd.ntmps4
    have HL := Lib.hid hL; clear hL
    have HT := Lib.hid hT; clear hT
    go_wp2_with fail
    refine (drawRunEvents_any A n c w h).mono ?_
    rintro e w0 ⟨x, AE, cE, l, rfl, hsm, hl21, hlc, hcm, hev, hEv, hAE, hc0⟩
    go_wp2_with fail
    generalize hW : World.alloc _ _ = w1
    have hba1 : Blk w1 (w0.heap.size) 24 (AggR.cells x) := by rw [← hW]; exact Blk.new' (by simp)
    have HB1 : Hid (Below w.heap.size w w1) := Lib.hid (by rw [← hW]; exact bA (hc0) _)
    have hz1 : w0.heap.size < w1.heap.size := by rw [← hW]; simp
    have hz0 : w.heap.size ≤ w0.heap.size := hc0.size
    have HB0 : Hid (Below w0.heap.size w0 w1) := Lib.hid (by rw [← hW]; exact bA (Below.refl _ _) _)
    clear hW hc0
    have Hba1 := Lib.hid hba1; clear hba1
    have HAE := Lib.hid hAE; clear hAE
    have HEv := Lib.hid hEv; clear hEv
    have Hcm := Lib.hid hcm; clear hcm
    have Hevs := Lib.hid hev; clear hev
    unfold aggSmall at hsm
    obtain ⟨x1, x2, x3, x4, x5, x6⟩ := hsm
    obtain ⟨⟨⟨s1, a1, t1⟩, m⟩, hP⟩ : ∃ P, P = Fares.runEvents x l := ⟨_, rfl⟩
    have hmr := run_range hP
    obtain ⟨m0, m1⟩ := hmr
    have HP := Lib.hid hP; clear hP
    refine (implRun_cells x AE l.length cE l s1 a1 t1 m HP.out _ ((HEv.out.below HB0.out (Nat.le_refl _)).more (Below.size HB0.out)) rfl (by omega) (Limits.below HL.out HB1.out) (Steps.below HT.out HB1.out)).mono ?_
    rintro e w2 ⟨rfl, hb2⟩
    have hz2 : w1.heap.size ≤ w2.heap.size := by have := hb2.size; (try simp at this); omega
    have Ha2 := Lib.hid (Blk.belowAll Hba1.out hb2)
    clear Hba1
    have HB2 := Lib.hid (bT HB1.out hb2)
    clear HB1
    have HB02 := Lib.hid (bT HB0.out hb2)
    clear HB0
    clear hb2
    obtain ⟨ca2_0, ca2_1, ca2_2⟩ := aggCells (t := 24) (v := x) Ha2.out
    have lta2 : w0.heap.size < w2.heap.size := by omega
    go_wp2_with fail
    generalize hW : World.alloc _ _ = w3
    have hbx3 : Blk w3 w2.heap.size 24 (AggR.cells (⟨s1, a1, t1⟩ : Fares.Sum)) := by rw [← hW]; exact Blk.new' (by simp)
    have hb3 : Below w2.heap.size w2 w3 := by rw [← hW]; exact bA (Below.refl _ _) _
    have hy3 : w2.heap.size < w3.heap.size := by rw [← hW]; simp
    clear hW
    clear ca2_0 ca2_1 ca2_2 lta2
    have hz3 : w2.heap.size ≤ w3.heap.size := by have := hb3.size; (try simp at this); omega
    have Ha3 := Lib.hid (Blk.belowAll Ha2.out hb3)
    clear Ha2
    have HB3 := Lib.hid (bT HB2.out hb3)
    clear HB2
    have HB03 := Lib.hid (bT HB02.out hb3)
    clear HB02
    clear hb3
    have Hbx3 := Lib.hid hbx3; clear hbx3
    refine (specRun_cells x AE l.length cE l s1 a1 t1 m HP.out _ ((HEv.out.below HB03.out (Nat.le_refl _)).more (Below.size HB03.out)) rfl (by omega)).mono ?_
    rintro e w4 ⟨rfl, hb4⟩
    have hz4 : w3.heap.size ≤ w4.heap.size := by have := hb4.size; (try simp at this); omega
    have Ha4 := Lib.hid (Blk.belowAll Ha3.out hb4)
    clear Ha3
    have HB4 := Lib.hid (bT HB3.out hb4)
    clear HB3
    have HB04 := Lib.hid (bT HB03.out hb4)
    clear HB03
    have Hb4 := Lib.hid (Blk.belowAll Hbx3.out hb4)
    clear Hbx3
    clear hb4
    by_cases hm : m < 0
    · have dm : decide (m < 0) = true := decide_eq_true hm
      obtain ⟨ca4_0, ca4_1, ca4_2⟩ := aggCells (t := 24) (v := x) Ha4.out
      obtain ⟨cb4_0, cb4_1, cb4_2⟩ := aggCells (t := 24) (v := (⟨s1, a1, t1⟩ : Fares.Sum)) Hb4.out
      have lta4 : w0.heap.size < w4.heap.size := by omega
      have ltb4 : w2.heap.size < w4.heap.size := by omega
      dsimp only at cb4_0 cb4_1 cb4_2
      go_wp2
      all_goals (go_ret; refine ⟨ret_bool ?_, bA HB4.out _⟩; first | rfl | (simp; done))
    · have dm : decide (m < 0) = false := decide_eq_false hm
      have hyes := run_yes HP.out (by omega)
      have hml := run_len HP.out (by omega)
      have HV := Lib.hid hyes.1
      have h20 := hyes.2.1
      have HA := Lib.hid hyes.2.2
      clear hyes
      obtain ⟨ca4_0, ca4_1, ca4_2⟩ := aggCells (t := 24) (v := x) Ha4.out
      obtain ⟨cb4_0, cb4_1, cb4_2⟩ := aggCells (t := 24) (v := (⟨s1, a1, t1⟩ : Fares.Sum)) Hb4.out
      have lta4 : w0.heap.size < w4.heap.size := by omega
      have ltb4 : w2.heap.size < w4.heap.size := by omega
      dsimp only at cb4_0 cb4_1 cb4_2
      obtain ⟨hf, hhf⟩ : ∃ hf, hf = l.length / 2 := ⟨_, rfl⟩
      obtain ⟨sc, ac, tc, mc, md, hC, hD, hmm, c0, c1, d0, d1, hvb⟩ := run_halves HP.out (by omega) hf
      have HC := Lib.hid hC; clear hC
      have HD := Lib.hid hD; clear hD
      have HVB := Lib.hid hvb; clear hvb
      have e1 : (l.length : Int) / 2 = (hf : Int) := by omega
      have e2 : Int.tdiv (l.length : Int) 2 = (hf : Int) := by rw [Int.tdiv_eq_ediv_of_nonneg (by omega)]; exact e1
      have f1 : hf ≤ l.length := by omega
      have HH := Lib.hid hhf; clear hhf
      have hcz := Nat.eq_zero_or_pos cE
      rcases HAE.out with ⟨rfl, rfl⟩ | ⟨g, rfl⟩
      · have hnil := Events.none_nil HEv.out
        subst hnil
        obtain rfl : hf = 0 := HH.out
        go_wp2
        generalize hW : World.alloc _ _ = w5
        have hb5 : Below w4.heap.size w4 w5 := by rw [← hW]; exact bA (Below.refl _ _) _
        have hy5 : w4.heap.size < w5.heap.size := by rw [← hW]; simp
        clear hW
        clear ca4_0 ca4_1 ca4_2 cb4_0 cb4_1 cb4_2 lta4 ltb4
        have hz5 : w4.heap.size ≤ w5.heap.size := by have := hb5.size; (try simp at this); omega
        have Ha5 := Lib.hid (Blk.belowAll Ha4.out hb5)
        clear Ha4
        have HB5 := Lib.hid (bT HB4.out hb5)
        clear HB4
        have HB05 := Lib.hid (bT HB04.out hb5)
        clear HB04
        have Hb5 := Lib.hid (Blk.belowAll Hb4.out hb5)
        clear Hb4
        clear hb5
        refine wp_region_held_drew (S := fun w' => w'.cell? ⟨w0.heap.size, 0, none⟩ = some (.int .i64 x.s) ∧ w'.cell? ⟨w0.heap.size, 1, none⟩ = some (.int .i64 x.a) ∧ w'.cell? ⟨w0.heap.size, 2, none⟩ = some (.int .i64 x.t)) (by kernel_rfl) (by exact aggCells Ha5.out) (fun hS => ?_)
        refine take_at 0 58 (v := ?_) rfl rfl (by kernel_rfl) (by kernel_rfl) (by kernel_rfl) (fun _ _ _ h => h) (by rfl) ?_ hS ?_
        rotate_left 1
        · (intro w hSw; (try dsimp only at hSw); (try go_split_ands); go_simp; try with_reducible rfl)
        simp only [List.setIfInBounds_toArray, List.set_cons_zero, List.set_cons_succ]
        refine take_at 1 59 (v := ?_) rfl rfl (by kernel_rfl) (by kernel_rfl) (by kernel_rfl) (fun _ _ _ h => h) (by rfl) ?_ hS ?_
        rotate_left 1
        · (intro w hSw; (try dsimp only at hSw); (try go_split_ands); go_simp; try with_reducible rfl)
        simp only [List.setIfInBounds_toArray, List.set_cons_zero, List.set_cons_succ]
        refine take_at 2 60 (v := ?_) rfl rfl (by kernel_rfl) (by kernel_rfl) (by kernel_rfl) (fun _ _ _ h => h) (by rfl) ?_ hS ?_
        rotate_left 1
        · (intro w hSw; (try dsimp only at hSw); (try go_split_ands); go_simp; try with_reducible rfl)
        simp only [List.setIfInBounds_toArray, List.set_cons_zero, List.set_cons_succ]
        refine take_at 3 61 (v := ?_) rfl rfl (by kernel_rfl) (by kernel_rfl) (by kernel_rfl) (fun _ _ _ h => h) (by rfl) ?_ hS ?_
        rotate_left 1
        · (intro w hSw; (try dsimp only at hSw); (try go_split_ands); go_simp; try with_reducible rfl)
        simp only [List.setIfInBounds_toArray, List.set_cons_zero, List.set_cons_succ]
        refine wpAnyH_ready (rs := [4, 8]) (by kernel_rfl) (by simp) ?_
        refine AllReadyH.cons rfl (fun K hK => ?_) (AllReadyH.cons rfl (fun K hK => ?_) (AllReadyH.nil))
        · go_simp
          go_wp2_with fail
          refine (implRun_cells x none 0 0 (List.take 0 []) sc ac tc mc HC.out _ (Reads.nil _ _ _) (by rw [List.length_take]; rfl) (by omega) (Limits.below HL.out (bD1 HB5.out)) (Steps.below HT.out (bD1 HB5.out))).mono ?_
          rintro e w6 ⟨rfl, hb6⟩
          have hz6 : w5.heap.size ≤ w6.heap.size := by have := hb6.size; (try simp at this); omega
          have Ha6 := Lib.hid (Blk.belowAll (blkDrew Ha5.out) hb6)
          clear Ha5
          have HB6 := Lib.hid (bT (bD1 HB5.out) hb6)
          clear HB5
          have HB06 := Lib.hid (bT (bD1 HB05.out) hb6)
          clear HB05
          have Hb6 := Lib.hid (Blk.belowAll (blkDrew Hb5.out) hb6)
          clear Hb5
          clear hb6
          go_simp
          refine hK.out _ _ (by exact aggCells Ha6.out) (fun hS => ?_)
          clear hK K
          refine take_at 5 57 (v := ?_) rfl rfl (by kernel_rfl) (by kernel_rfl) (by kernel_rfl) (fun _ _ _ h => h) (by rfl) ?_ hS ?_
          rotate_left 1
          · (intro w hSw; (try dsimp only at hSw); (try go_split_ands); go_simp; try with_reducible rfl)
          simp only [List.setIfInBounds_toArray, List.set_cons_zero, List.set_cons_succ]
          refine take_at 6 63 (v := ?_) rfl rfl (by kernel_rfl) (by kernel_rfl) (by kernel_rfl) (fun _ _ _ h => h) (by rfl) ?_ hS ?_
          rotate_left 1
          · (intro w hSw; (try dsimp only at hSw); (try go_split_ands); go_simp; try with_reducible rfl)
          simp only [List.setIfInBounds_toArray, List.set_cons_zero, List.set_cons_succ]
          refine take_at 7 64 (v := ?_) rfl rfl (by kernel_rfl) (by kernel_rfl) (by kernel_rfl) (fun _ _ _ h => h) (by rfl) ?_ hS ?_
          rotate_left 1
          · (intro w hSw; (try dsimp only at hSw); (try go_split_ands); go_simp; try with_reducible rfl)
          simp only [List.setIfInBounds_toArray, List.set_cons_zero, List.set_cons_succ]
          refine wpAnyH_ready (rs := [8]) (by kernel_rfl) (by simp) ?_
          refine AllReadyH.cons rfl (fun K hK => ?_) (AllReadyH.nil)
          go_simp
          generalize hW : World.alloc _ _ = w7
          have hbx7 : Blk w7 w6.heap.size 24 (AggR.cells (⟨0, 0, 0⟩ : Fares.Sum)) := by rw [← hW]; exact Blk.new' (by simp)
          have hb7 : Below w6.heap.size w6 w7 := by rw [← hW]; exact bA (Below.refl _ _) _
          have hy7 : w6.heap.size < w7.heap.size := by rw [← hW]; simp
          clear hW
          have hz7 : w6.heap.size ≤ w7.heap.size := by have := hb7.size; (try simp at this); omega
          have Ha7 := Lib.hid (Blk.belowAll Ha6.out hb7)
          clear Ha6
          have HB7 := Lib.hid (bT HB6.out hb7)
          clear HB6
          have HB07 := Lib.hid (bT HB06.out hb7)
          clear HB06
          have Hb7 := Lib.hid (Blk.belowAll Hb6.out hb7)
          clear Hb6
          clear hb7
          have Hbx7 := Lib.hid hbx7; clear hbx7
          obtain ⟨cC7_0, cC7_1, cC7_2⟩ := aggCells (t := 24) (v := (⟨0, 0, 0⟩ : Fares.Sum)) Hbx7.out
          have frC7_0 := (Hbx7.out).free 0
          have frC7_1 := (Hbx7.out).free 1
          have frC7_2 := (Hbx7.out).free 2
          refine hK.out _ _ (by exact aggCells Ha7.out) (fun hS => ?_)
          clear hK K
          refine wpAnyH_ready (rs := [9]) (by kernel_rfl) (by simp) ?_
          refine AllReadyH.cons rfl (fun K hK => ?_) (AllReadyH.nil)
          go_simp
          generalize hW : World.setCell _ _ _ = w8
          have ht8 : Touch (fun i => i = w6.heap.size) w7 w8 := by rw [← hW]; exact (Touch.far (K := fun i => i = w6.heap.size) (Touch.far (K := fun i => i = w6.heap.size) (Touch.far (K := fun i => i = w6.heap.size) (Touch.refl _ _) (p := ⟨w6.heap.size, 0, none⟩) rfl _) (p := ⟨w6.heap.size, 1, none⟩) rfl _) (p := ⟨w6.heap.size, 2, none⟩) rfl _)
          have hbx8 : Blk w8 (w6.heap.size) 24 (AggR.cells (⟨sc, ac, tc⟩ : Fares.Sum)) := by rw [← hW]; exact (Blk.put (Blk.put (Blk.put Hbx7.out 0 (.int .i64 sc)) 1 (.int .i64 ac)) 2 (.int .i64 tc))
          clear hW
          clear cC7_0 cC7_1 cC7_2 frC7_0 frC7_1 frC7_2
          have hz8 : w7.heap.size ≤ w8.heap.size := by have := ht8.size; (try simp at this); omega
          have Ha8 := Lib.hid (Blk.touch Ha7.out ht8 (show ¬ (w0.heap.size = w6.heap.size) by omega))
          clear Ha7
          have HB8 := Lib.hid (Touch.below HB7.out ht8 (fun i hi => by omega))
          clear HB7
          have HB08 := Lib.hid (Touch.below HB07.out ht8 (fun i hi => by omega))
          clear HB07
          have Hb8 := Lib.hid (Blk.touch Hb7.out ht8 (show ¬ (w2.heap.size = w6.heap.size) by omega))
          clear Hb7
          clear ht8 Hbx7
          have Hbx8 := Lib.hid hbx8; clear hbx8
          refine hK.out _ _ (by exact aggCells Ha8.out) (fun hS => ?_)
          clear hK K
          refine take_at 10 11 (v := ?_) rfl rfl (by kernel_rfl) (by kernel_rfl) (by kernel_rfl) (fun _ _ _ h => h) (by rfl) ?_ hS ?_
          rotate_left 1
          · (intro w hSw; (try dsimp only at hSw); (try go_split_ands); go_simp; try with_reducible rfl)
          simp only [List.setIfInBounds_toArray, List.set_cons_zero, List.set_cons_succ]
          refine wpAnyH_done (by kernel_rfl) ?_ _
          clear hS
          go_wp2
          refine wp_region_held_drew (S := fun w' => w'.cell? ⟨w6.heap.size, 0, none⟩ = some (.int .i64 sc) ∧ w'.cell? ⟨w6.heap.size, 1, none⟩ = some (.int .i64 ac) ∧ w'.cell? ⟨w6.heap.size, 2, none⟩ = some (.int .i64 tc)) (by kernel_rfl) (by exact aggCells Hbx8.out) (fun hS => ?_)
          refine take_at 0 66 (v := ?_) rfl rfl (by kernel_rfl) (by kernel_rfl) (by kernel_rfl) (fun _ _ _ h => h) (by rfl) ?_ hS ?_
          rotate_left 1
          · (intro w hSw; (try dsimp only at hSw); (try go_split_ands); go_simp; try with_reducible rfl)
          simp only [List.setIfInBounds_toArray, List.set_cons_zero, List.set_cons_succ]
          refine take_at 1 67 (v := ?_) rfl rfl (by kernel_rfl) (by kernel_rfl) (by kernel_rfl) (fun _ _ _ h => h) (by rfl) ?_ hS ?_
          rotate_left 1
          · (intro w hSw; (try dsimp only at hSw); (try go_split_ands); go_simp; try with_reducible rfl)
          simp only [List.setIfInBounds_toArray, List.set_cons_zero, List.set_cons_succ]
          refine take_at 2 68 (v := ?_) rfl rfl (by kernel_rfl) (by kernel_rfl) (by kernel_rfl) (fun _ _ _ h => h) (by rfl) ?_ hS ?_
          rotate_left 1
          · (intro w hSw; (try dsimp only at hSw); (try go_split_ands); go_simp; try with_reducible rfl)
          simp only [List.setIfInBounds_toArray, List.set_cons_zero, List.set_cons_succ]
          refine take_at 3 69 (v := ?_) rfl rfl (by kernel_rfl) (by kernel_rfl) (by kernel_rfl) (fun _ _ _ h => h) (by rfl) ?_ hS ?_
          rotate_left 1
          · (intro w hSw; (try dsimp only at hSw); (try go_split_ands); go_simp; try with_reducible rfl)
          simp only [List.setIfInBounds_toArray, List.set_cons_zero, List.set_cons_succ]
          refine wpAnyH_ready (rs := [4, 8]) (by kernel_rfl) (by simp) ?_
          refine AllReadyH.cons rfl (fun K hK => ?_) (AllReadyH.cons rfl (fun K hK => ?_) (AllReadyH.nil))
          · go_simp
            go_wp2_with fail
            refine (implRun_cells (⟨sc, ac, tc⟩ : Fares.Sum) none 0 0 (List.drop 0 []) s1 a1 t1 md HD.out _ (Reads.nil _ _ _) (by simp) (by omega) (Limits.below HL.out (bD1 HB8.out)) (Steps.below HT.out (bD1 HB8.out))).mono ?_
            rintro e w9 ⟨rfl, hb9⟩
            have hz9 : w8.heap.size ≤ w9.heap.size := by have := hb9.size; (try simp at this); omega
            have Ha9 := Lib.hid (Blk.belowAll (blkDrew Ha8.out) hb9)
            clear Ha8
            have HB9 := Lib.hid (bT (bD1 HB8.out) hb9)
            clear HB8
            have HB09 := Lib.hid (bT (bD1 HB08.out) hb9)
            clear HB08
            have Hb9 := Lib.hid (Blk.belowAll (blkDrew Hb8.out) hb9)
            clear Hb8
            have HC9 := Lib.hid (Blk.belowAll (blkDrew Hbx8.out) hb9)
            clear Hbx8
            clear hb9
            go_simp
            refine hK.out _ _ (by exact aggCells HC9.out) (fun hS => ?_)
            clear hK K
            refine take_at 5 65 (v := ?_) rfl rfl (by kernel_rfl) (by kernel_rfl) (by kernel_rfl) (fun _ _ _ h => h) (by rfl) ?_ hS ?_
            rotate_left 1
            · (intro w hSw; (try dsimp only at hSw); (try go_split_ands); go_simp; try with_reducible rfl)
            simp only [List.setIfInBounds_toArray, List.set_cons_zero, List.set_cons_succ]
            refine take_at 6 71 (v := ?_) rfl rfl (by kernel_rfl) (by kernel_rfl) (by kernel_rfl) (fun _ _ _ h => h) (by rfl) ?_ hS ?_
            rotate_left 1
            · (intro w hSw; (try dsimp only at hSw); (try go_split_ands); go_simp; try with_reducible rfl)
            simp only [List.setIfInBounds_toArray, List.set_cons_zero, List.set_cons_succ]
            refine take_at 7 72 (v := ?_) rfl rfl (by kernel_rfl) (by kernel_rfl) (by kernel_rfl) (fun _ _ _ h => h) (by rfl) ?_ hS ?_
            rotate_left 1
            · (intro w hSw; (try dsimp only at hSw); (try go_split_ands); go_simp; try with_reducible rfl)
            simp only [List.setIfInBounds_toArray, List.set_cons_zero, List.set_cons_succ]
            refine wpAnyH_ready (rs := [8]) (by kernel_rfl) (by simp) ?_
            refine AllReadyH.cons rfl (fun K hK => ?_) (AllReadyH.nil)
            go_simp
            generalize hW : World.alloc _ _ = w10
            have hbx10 : Blk w10 w9.heap.size 24 (AggR.cells (⟨0, 0, 0⟩ : Fares.Sum)) := by rw [← hW]; exact Blk.new' (by simp)
            have hb10 : Below w9.heap.size w9 w10 := by rw [← hW]; exact bA (Below.refl _ _) _
            have hy10 : w9.heap.size < w10.heap.size := by rw [← hW]; simp
            clear hW
            have hz10 : w9.heap.size ≤ w10.heap.size := by have := hb10.size; (try simp at this); omega
            have Ha10 := Lib.hid (Blk.belowAll Ha9.out hb10)
            clear Ha9
            have HB10 := Lib.hid (bT HB9.out hb10)
            clear HB9
            have HB010 := Lib.hid (bT HB09.out hb10)
            clear HB09
            have Hb10 := Lib.hid (Blk.belowAll Hb9.out hb10)
            clear Hb9
            have HC10 := Lib.hid (Blk.belowAll HC9.out hb10)
            clear HC9
            clear hb10
            have Hbx10 := Lib.hid hbx10; clear hbx10
            obtain ⟨cD10_0, cD10_1, cD10_2⟩ := aggCells (t := 24) (v := (⟨0, 0, 0⟩ : Fares.Sum)) Hbx10.out
            have frD10_0 := (Hbx10.out).free 0
            have frD10_1 := (Hbx10.out).free 1
            have frD10_2 := (Hbx10.out).free 2
            refine hK.out _ _ (by exact aggCells HC10.out) (fun hS => ?_)
            clear hK K
            refine wpAnyH_ready (rs := [9]) (by kernel_rfl) (by simp) ?_
            refine AllReadyH.cons rfl (fun K hK => ?_) (AllReadyH.nil)
            go_simp
            generalize hW : World.setCell _ _ _ = w11
            have ht11 : Touch (fun i => i = w9.heap.size) w10 w11 := by rw [← hW]; exact (Touch.far (K := fun i => i = w9.heap.size) (Touch.far (K := fun i => i = w9.heap.size) (Touch.far (K := fun i => i = w9.heap.size) (Touch.refl _ _) (p := ⟨w9.heap.size, 0, none⟩) rfl _) (p := ⟨w9.heap.size, 1, none⟩) rfl _) (p := ⟨w9.heap.size, 2, none⟩) rfl _)
            have hbx11 : Blk w11 (w9.heap.size) 24 (AggR.cells (⟨s1, a1, t1⟩ : Fares.Sum)) := by rw [← hW]; exact (Blk.put (Blk.put (Blk.put Hbx10.out 0 (.int .i64 s1)) 1 (.int .i64 a1)) 2 (.int .i64 t1))
            clear hW
            clear cD10_0 cD10_1 cD10_2 frD10_0 frD10_1 frD10_2
            have hz11 : w10.heap.size ≤ w11.heap.size := by have := ht11.size; (try simp at this); omega
            have Ha11 := Lib.hid (Blk.touch Ha10.out ht11 (show ¬ (w0.heap.size = w9.heap.size) by omega))
            clear Ha10
            have HB11 := Lib.hid (Touch.below HB10.out ht11 (fun i hi => by omega))
            clear HB10
            have HB011 := Lib.hid (Touch.below HB010.out ht11 (fun i hi => by omega))
            clear HB010
            have Hb11 := Lib.hid (Blk.touch Hb10.out ht11 (show ¬ (w2.heap.size = w9.heap.size) by omega))
            clear Hb10
            have HC11 := Lib.hid (Blk.touch HC10.out ht11 (show ¬ (w6.heap.size = w9.heap.size) by omega))
            clear HC10
            clear ht11 Hbx10
            have Hbx11 := Lib.hid hbx11; clear hbx11
            refine hK.out _ _ (by exact aggCells HC11.out) (fun hS => ?_)
            clear hK K
            refine take_at 10 13 (v := ?_) rfl rfl (by kernel_rfl) (by kernel_rfl) (by kernel_rfl) (fun _ _ _ h => h) (by rfl) ?_ hS ?_
            rotate_left 1
            · (intro w hSw; (try dsimp only at hSw); (try go_split_ands); go_simp; try with_reducible rfl)
            simp only [List.setIfInBounds_toArray, List.set_cons_zero, List.set_cons_succ]
            refine wpAnyH_done (by kernel_rfl) ?_ _
            clear hS
            obtain ⟨cb11_0, cb11_1, cb11_2⟩ := aggCells (t := 24) (v := (⟨s1, a1, t1⟩ : Fares.Sum)) Hb11.out
            obtain ⟨cD11_0, cD11_1, cD11_2⟩ := aggCells (t := 24) (v := (⟨s1, a1, t1⟩ : Fares.Sum)) Hbx11.out
            have ltb11 : w2.heap.size < w11.heap.size := by omega
            have ltD11 : w9.heap.size < w11.heap.size := by omega
            dsimp only at cb11_0 cb11_1 cb11_2 cD11_0 cD11_1 cD11_2
            have W1 : IntKind.i64.wrap (mc + md) = m := by rw [hmm]; exact IntWalk.i64_in _ (by omega)
            have dm2 : (mc + md == m) = true := by rw [beq_iff_eq]; exact hmm
            have CV : Hid (∀ W, Limits W → Calls Tryd.prog 13 #[.agg #[.int .i64 s1, .int .i64 a1, .int .i64 t1]] W fun r w' => r = .returned (.bool true) ∧ Below W.heap.size W w') := fun W h => by
              have h2 := implValid_cells (⟨s1, a1, t1⟩ : Fares.Sum) W h
              rw [HVB.out] at h2
              exact h2
            go_wp2_with fail
            refine (CV.out _ (Limits.below HL.out HB11.out)).mono ?_
            rintro e w12 ⟨rfl, hb12⟩
            clear cb11_0 cb11_1 cb11_2 cD11_0 cD11_1 cD11_2 ltb11 ltD11
            have hz12 : w11.heap.size ≤ w12.heap.size := by have := hb12.size; (try simp at this); omega
            have Ha12 := Lib.hid (Blk.belowAll Ha11.out hb12)
            clear Ha11
            have HB12 := Lib.hid (bT HB11.out hb12)
            clear HB11
            have HB012 := Lib.hid (bT HB011.out hb12)
            clear HB011
            have Hb12 := Lib.hid (Blk.belowAll Hb11.out hb12)
            clear Hb11
            have HC12 := Lib.hid (Blk.belowAll HC11.out hb12)
            clear HC11
            have HD12 := Lib.hid (Blk.belowAll Hbx11.out hb12)
            clear Hbx11
            clear hb12
            go_wp2
            all_goals (go_ret; refine ⟨ret_bool ?_, HB12.out⟩; first | rfl | (simp; done))
          · go_simp
            generalize hW : World.alloc _ _ = w9
            have hbx9 : Blk w9 w8.heap.size 24 (AggR.cells (⟨0, 0, 0⟩ : Fares.Sum)) := by rw [← hW]; exact Blk.new' (by simp)
            have hb9 : Below w8.heap.size w8 w9 := by rw [← hW]; exact bA (Below.refl _ _) _
            have hy9 : w8.heap.size < w9.heap.size := by rw [← hW]; simp
            clear hW
            have hz9 : w8.heap.size ≤ w9.heap.size := by have := hb9.size; (try simp at this); omega
            have Ha9 := Lib.hid (Blk.belowAll Ha8.out hb9)
            clear Ha8
            have HB9 := Lib.hid (bT HB8.out hb9)
            clear HB8
            have HB09 := Lib.hid (bT HB08.out hb9)
            clear HB08
            have Hb9 := Lib.hid (Blk.belowAll Hb8.out hb9)
            clear Hb8
            have HC9 := Lib.hid (Blk.belowAll Hbx8.out hb9)
            clear Hbx8
            clear hb9
            have Hbx9 := Lib.hid hbx9; clear hbx9
            obtain ⟨cD9_0, cD9_1, cD9_2⟩ := aggCells (t := 24) (v := (⟨0, 0, 0⟩ : Fares.Sum)) (blkDrew Hbx9.out)
            have frD9_0 := ((blkDrew Hbx9.out)).free 0
            have frD9_1 := ((blkDrew Hbx9.out)).free 1
            have frD9_2 := ((blkDrew Hbx9.out)).free 2
            refine hK.out _ _ (by exact aggCells (blkDrew HC9.out)) (fun hS => ?_)
            clear hK K
            refine wpAnyH_ready (rs := [4]) (by kernel_rfl) (by simp) ?_
            refine AllReadyH.cons rfl (fun K hK => ?_) (AllReadyH.nil)
            go_simp
            go_wp2_with fail
            refine (implRun_cells (⟨sc, ac, tc⟩ : Fares.Sum) none 0 0 (List.drop 0 []) s1 a1 t1 md HD.out _ (Reads.nil _ _ _) (by simp) (by omega) (Limits.below HL.out (bD1 HB9.out)) (Steps.below HT.out (bD1 HB9.out))).mono ?_
            rintro e w10 ⟨rfl, hb10⟩
            clear cD9_0 cD9_1 cD9_2 frD9_0 frD9_1 frD9_2
            have hz10 : w9.heap.size ≤ w10.heap.size := by have := hb10.size; (try simp at this); omega
            have Ha10 := Lib.hid (Blk.belowAll (blkDrew Ha9.out) hb10)
            clear Ha9
            have HB10 := Lib.hid (bT (bD1 HB9.out) hb10)
            clear HB9
            have HB010 := Lib.hid (bT (bD1 HB09.out) hb10)
            clear HB09
            have Hb10 := Lib.hid (Blk.belowAll (blkDrew Hb9.out) hb10)
            clear Hb9
            have HC10 := Lib.hid (Blk.belowAll (blkDrew HC9.out) hb10)
            clear HC9
            have HD10 := Lib.hid (Blk.belowAll (blkDrew Hbx9.out) hb10)
            clear Hbx9
            clear hb10
            obtain ⟨cD10_0, cD10_1, cD10_2⟩ := aggCells (t := 24) (v := (⟨0, 0, 0⟩ : Fares.Sum)) HD10.out
            have frD10_0 := (HD10.out).free 0
            have frD10_1 := (HD10.out).free 1
            have frD10_2 := (HD10.out).free 2
            go_simp
            refine hK.out _ _ (by exact aggCells HC10.out) (fun hS => ?_)
            clear hK K
            refine take_at 5 65 (v := ?_) rfl rfl (by kernel_rfl) (by kernel_rfl) (by kernel_rfl) (fun _ _ _ h => h) (by rfl) ?_ hS ?_
            rotate_left 1
            · (intro w hSw; (try dsimp only at hSw); (try go_split_ands); go_simp; try with_reducible rfl)
            simp only [List.setIfInBounds_toArray, List.set_cons_zero, List.set_cons_succ]
            refine take_at 6 71 (v := ?_) rfl rfl (by kernel_rfl) (by kernel_rfl) (by kernel_rfl) (fun _ _ _ h => h) (by rfl) ?_ hS ?_
            rotate_left 1
            · (intro w hSw; (try dsimp only at hSw); (try go_split_ands); go_simp; try with_reducible rfl)
            simp only [List.setIfInBounds_toArray, List.set_cons_zero, List.set_cons_succ]
            refine take_at 7 72 (v := ?_) rfl rfl (by kernel_rfl) (by kernel_rfl) (by kernel_rfl) (fun _ _ _ h => h) (by rfl) ?_ hS ?_
            rotate_left 1
            · (intro w hSw; (try dsimp only at hSw); (try go_split_ands); go_simp; try with_reducible rfl)
            simp only [List.setIfInBounds_toArray, List.set_cons_zero, List.set_cons_succ]
            refine wpAnyH_ready (rs := [9]) (by kernel_rfl) (by simp) ?_
            refine AllReadyH.cons rfl (fun K hK => ?_) (AllReadyH.nil)
            go_simp
            generalize hW : World.setCell _ _ _ = w11
            have ht11 : Touch (fun i => i = w8.heap.size) w10 w11 := by rw [← hW]; exact (Touch.far (K := fun i => i = w8.heap.size) (Touch.far (K := fun i => i = w8.heap.size) (Touch.far (K := fun i => i = w8.heap.size) (Touch.refl _ _) (p := ⟨w8.heap.size, 0, none⟩) rfl _) (p := ⟨w8.heap.size, 1, none⟩) rfl _) (p := ⟨w8.heap.size, 2, none⟩) rfl _)
            have hbx11 : Blk w11 (w8.heap.size) 24 (AggR.cells (⟨s1, a1, t1⟩ : Fares.Sum)) := by rw [← hW]; exact (Blk.put (Blk.put (Blk.put HD10.out 0 (.int .i64 s1)) 1 (.int .i64 a1)) 2 (.int .i64 t1))
            clear hW
            clear cD10_0 cD10_1 cD10_2 frD10_0 frD10_1 frD10_2
            have hz11 : w10.heap.size ≤ w11.heap.size := by have := ht11.size; (try simp at this); omega
            have Ha11 := Lib.hid (Blk.touch Ha10.out ht11 (show ¬ (w0.heap.size = w8.heap.size) by omega))
            clear Ha10
            have HB11 := Lib.hid (Touch.below HB10.out ht11 (fun i hi => by omega))
            clear HB10
            have HB011 := Lib.hid (Touch.below HB010.out ht11 (fun i hi => by omega))
            clear HB010
            have Hb11 := Lib.hid (Blk.touch Hb10.out ht11 (show ¬ (w2.heap.size = w8.heap.size) by omega))
            clear Hb10
            have HC11 := Lib.hid (Blk.touch HC10.out ht11 (show ¬ (w6.heap.size = w8.heap.size) by omega))
            clear HC10
            clear ht11 HD10
            have Hbx11 := Lib.hid hbx11; clear hbx11
            refine hK.out _ _ (by exact aggCells HC11.out) (fun hS => ?_)
            clear hK K
            refine take_at 10 13 (v := ?_) rfl rfl (by kernel_rfl) (by kernel_rfl) (by kernel_rfl) (fun _ _ _ h => h) (by rfl) ?_ hS ?_
            rotate_left 1
            · (intro w hSw; (try dsimp only at hSw); (try go_split_ands); go_simp; try with_reducible rfl)
            simp only [List.setIfInBounds_toArray, List.set_cons_zero, List.set_cons_succ]
            refine wpAnyH_done (by kernel_rfl) ?_ _
            clear hS
            obtain ⟨cb11_0, cb11_1, cb11_2⟩ := aggCells (t := 24) (v := (⟨s1, a1, t1⟩ : Fares.Sum)) Hb11.out
            obtain ⟨cD11_0, cD11_1, cD11_2⟩ := aggCells (t := 24) (v := (⟨s1, a1, t1⟩ : Fares.Sum)) Hbx11.out
            have ltb11 : w2.heap.size < w11.heap.size := by omega
            have ltD11 : w8.heap.size < w11.heap.size := by omega
            dsimp only at cb11_0 cb11_1 cb11_2 cD11_0 cD11_1 cD11_2
            have W1 : IntKind.i64.wrap (mc + md) = m := by rw [hmm]; exact IntWalk.i64_in _ (by omega)
            have dm2 : (mc + md == m) = true := by rw [beq_iff_eq]; exact hmm
            have CV : Hid (∀ W, Limits W → Calls Tryd.prog 13 #[.agg #[.int .i64 s1, .int .i64 a1, .int .i64 t1]] W fun r w' => r = .returned (.bool true) ∧ Below W.heap.size W w') := fun W h => by
              have h2 := implValid_cells (⟨s1, a1, t1⟩ : Fares.Sum) W h
              rw [HVB.out] at h2
              exact h2
            go_wp2_with fail
            refine (CV.out _ (Limits.below HL.out HB11.out)).mono ?_
            rintro e w12 ⟨rfl, hb12⟩
            clear cb11_0 cb11_1 cb11_2 cD11_0 cD11_1 cD11_2 ltb11 ltD11
            have hz12 : w11.heap.size ≤ w12.heap.size := by have := hb12.size; (try simp at this); omega
            have Ha12 := Lib.hid (Blk.belowAll Ha11.out hb12)
            clear Ha11
            have HB12 := Lib.hid (bT HB11.out hb12)
            clear HB11
            have HB012 := Lib.hid (bT HB011.out hb12)
            clear HB011
            have Hb12 := Lib.hid (Blk.belowAll Hb11.out hb12)
            clear Hb11
            have HC12 := Lib.hid (Blk.belowAll HC11.out hb12)
            clear HC11
            have HD12 := Lib.hid (Blk.belowAll Hbx11.out hb12)
            clear Hbx11
            clear hb12
            go_wp2
            all_goals (go_ret; refine ⟨ret_bool ?_, HB12.out⟩; first | rfl | (simp; done))
        · go_simp
          generalize hW : World.alloc _ _ = w6
          have hbx6 : Blk w6 w5.heap.size 24 (AggR.cells (⟨0, 0, 0⟩ : Fares.Sum)) := by rw [← hW]; exact Blk.new' (by simp)
          have hb6 : Below w5.heap.size w5 w6 := by rw [← hW]; exact bA (Below.refl _ _) _
          have hy6 : w5.heap.size < w6.heap.size := by rw [← hW]; simp
          clear hW
          have hz6 : w5.heap.size ≤ w6.heap.size := by have := hb6.size; (try simp at this); omega
          have Ha6 := Lib.hid (Blk.belowAll Ha5.out hb6)
          clear Ha5
          have HB6 := Lib.hid (bT HB5.out hb6)
          clear HB5
          have HB06 := Lib.hid (bT HB05.out hb6)
          clear HB05
          have Hb6 := Lib.hid (Blk.belowAll Hb5.out hb6)
          clear Hb5
          clear hb6
          have Hbx6 := Lib.hid hbx6; clear hbx6
          obtain ⟨cC6_0, cC6_1, cC6_2⟩ := aggCells (t := 24) (v := (⟨0, 0, 0⟩ : Fares.Sum)) (blkDrew Hbx6.out)
          have frC6_0 := ((blkDrew Hbx6.out)).free 0
          have frC6_1 := ((blkDrew Hbx6.out)).free 1
          have frC6_2 := ((blkDrew Hbx6.out)).free 2
          refine hK.out _ _ (by exact aggCells (blkDrew Ha6.out)) (fun hS => ?_)
          clear hK K
          refine wpAnyH_ready (rs := [4]) (by kernel_rfl) (by simp) ?_
          refine AllReadyH.cons rfl (fun K hK => ?_) (AllReadyH.nil)
          go_simp
          go_wp2_with fail
          refine (implRun_cells x none 0 0 (List.take 0 []) sc ac tc mc HC.out _ (Reads.nil _ _ _) (by rw [List.length_take]; rfl) (by omega) (Limits.below HL.out (bD1 HB6.out)) (Steps.below HT.out (bD1 HB6.out))).mono ?_
          rintro e w7 ⟨rfl, hb7⟩
          clear cC6_0 cC6_1 cC6_2 frC6_0 frC6_1 frC6_2
          have hz7 : w6.heap.size ≤ w7.heap.size := by have := hb7.size; (try simp at this); omega
          have Ha7 := Lib.hid (Blk.belowAll (blkDrew Ha6.out) hb7)
          clear Ha6
          have HB7 := Lib.hid (bT (bD1 HB6.out) hb7)
          clear HB6
          have HB07 := Lib.hid (bT (bD1 HB06.out) hb7)
          clear HB06
          have Hb7 := Lib.hid (Blk.belowAll (blkDrew Hb6.out) hb7)
          clear Hb6
          have HC7 := Lib.hid (Blk.belowAll (blkDrew Hbx6.out) hb7)
          clear Hbx6
          clear hb7
          obtain ⟨cC7_0, cC7_1, cC7_2⟩ := aggCells (t := 24) (v := (⟨0, 0, 0⟩ : Fares.Sum)) HC7.out
          have frC7_0 := (HC7.out).free 0
          have frC7_1 := (HC7.out).free 1
          have frC7_2 := (HC7.out).free 2
          go_simp
          refine hK.out _ _ (by exact aggCells Ha7.out) (fun hS => ?_)
          clear hK K
          refine take_at 5 57 (v := ?_) rfl rfl (by kernel_rfl) (by kernel_rfl) (by kernel_rfl) (fun _ _ _ h => h) (by rfl) ?_ hS ?_
          rotate_left 1
          · (intro w hSw; (try dsimp only at hSw); (try go_split_ands); go_simp; try with_reducible rfl)
          simp only [List.setIfInBounds_toArray, List.set_cons_zero, List.set_cons_succ]
          refine take_at 6 63 (v := ?_) rfl rfl (by kernel_rfl) (by kernel_rfl) (by kernel_rfl) (fun _ _ _ h => h) (by rfl) ?_ hS ?_
          rotate_left 1
          · (intro w hSw; (try dsimp only at hSw); (try go_split_ands); go_simp; try with_reducible rfl)
          simp only [List.setIfInBounds_toArray, List.set_cons_zero, List.set_cons_succ]
          refine take_at 7 64 (v := ?_) rfl rfl (by kernel_rfl) (by kernel_rfl) (by kernel_rfl) (fun _ _ _ h => h) (by rfl) ?_ hS ?_
          rotate_left 1
          · (intro w hSw; (try dsimp only at hSw); (try go_split_ands); go_simp; try with_reducible rfl)
          simp only [List.setIfInBounds_toArray, List.set_cons_zero, List.set_cons_succ]
          refine wpAnyH_ready (rs := [9]) (by kernel_rfl) (by simp) ?_
          refine AllReadyH.cons rfl (fun K hK => ?_) (AllReadyH.nil)
          go_simp
          generalize hW : World.setCell _ _ _ = w8
          have ht8 : Touch (fun i => i = w5.heap.size) w7 w8 := by rw [← hW]; exact (Touch.far (K := fun i => i = w5.heap.size) (Touch.far (K := fun i => i = w5.heap.size) (Touch.far (K := fun i => i = w5.heap.size) (Touch.refl _ _) (p := ⟨w5.heap.size, 0, none⟩) rfl _) (p := ⟨w5.heap.size, 1, none⟩) rfl _) (p := ⟨w5.heap.size, 2, none⟩) rfl _)
          have hbx8 : Blk w8 (w5.heap.size) 24 (AggR.cells (⟨sc, ac, tc⟩ : Fares.Sum)) := by rw [← hW]; exact (Blk.put (Blk.put (Blk.put HC7.out 0 (.int .i64 sc)) 1 (.int .i64 ac)) 2 (.int .i64 tc))
          clear hW
          clear cC7_0 cC7_1 cC7_2 frC7_0 frC7_1 frC7_2
          have hz8 : w7.heap.size ≤ w8.heap.size := by have := ht8.size; (try simp at this); omega
          have Ha8 := Lib.hid (Blk.touch Ha7.out ht8 (show ¬ (w0.heap.size = w5.heap.size) by omega))
          clear Ha7
          have HB8 := Lib.hid (Touch.below HB7.out ht8 (fun i hi => by omega))
          clear HB7
          have HB08 := Lib.hid (Touch.below HB07.out ht8 (fun i hi => by omega))
          clear HB07
          have Hb8 := Lib.hid (Blk.touch Hb7.out ht8 (show ¬ (w2.heap.size = w5.heap.size) by omega))
          clear Hb7
          clear ht8 HC7
          have Hbx8 := Lib.hid hbx8; clear hbx8
          refine hK.out _ _ (by exact aggCells Ha8.out) (fun hS => ?_)
          clear hK K
          refine take_at 10 11 (v := ?_) rfl rfl (by kernel_rfl) (by kernel_rfl) (by kernel_rfl) (fun _ _ _ h => h) (by rfl) ?_ hS ?_
          rotate_left 1
          · (intro w hSw; (try dsimp only at hSw); (try go_split_ands); go_simp; try with_reducible rfl)
          simp only [List.setIfInBounds_toArray, List.set_cons_zero, List.set_cons_succ]
          refine wpAnyH_done (by kernel_rfl) ?_ _
          clear hS
          go_wp2
          refine wp_region_held_drew (S := fun w' => w'.cell? ⟨w5.heap.size, 0, none⟩ = some (.int .i64 sc) ∧ w'.cell? ⟨w5.heap.size, 1, none⟩ = some (.int .i64 ac) ∧ w'.cell? ⟨w5.heap.size, 2, none⟩ = some (.int .i64 tc)) (by kernel_rfl) (by exact aggCells Hbx8.out) (fun hS => ?_)
          refine take_at 0 66 (v := ?_) rfl rfl (by kernel_rfl) (by kernel_rfl) (by kernel_rfl) (fun _ _ _ h => h) (by rfl) ?_ hS ?_
          rotate_left 1
          · (intro w hSw; (try dsimp only at hSw); (try go_split_ands); go_simp; try with_reducible rfl)
          simp only [List.setIfInBounds_toArray, List.set_cons_zero, List.set_cons_succ]
          refine take_at 1 67 (v := ?_) rfl rfl (by kernel_rfl) (by kernel_rfl) (by kernel_rfl) (fun _ _ _ h => h) (by rfl) ?_ hS ?_
          rotate_left 1
          · (intro w hSw; (try dsimp only at hSw); (try go_split_ands); go_simp; try with_reducible rfl)
          simp only [List.setIfInBounds_toArray, List.set_cons_zero, List.set_cons_succ]
          refine take_at 2 68 (v := ?_) rfl rfl (by kernel_rfl) (by kernel_rfl) (by kernel_rfl) (fun _ _ _ h => h) (by rfl) ?_ hS ?_
          rotate_left 1
          · (intro w hSw; (try dsimp only at hSw); (try go_split_ands); go_simp; try with_reducible rfl)
          simp only [List.setIfInBounds_toArray, List.set_cons_zero, List.set_cons_succ]
          refine take_at 3 69 (v := ?_) rfl rfl (by kernel_rfl) (by kernel_rfl) (by kernel_rfl) (fun _ _ _ h => h) (by rfl) ?_ hS ?_
          rotate_left 1
          · (intro w hSw; (try dsimp only at hSw); (try go_split_ands); go_simp; try with_reducible rfl)
          simp only [List.setIfInBounds_toArray, List.set_cons_zero, List.set_cons_succ]
          refine wpAnyH_ready (rs := [4, 8]) (by kernel_rfl) (by simp) ?_
          refine AllReadyH.cons rfl (fun K hK => ?_) (AllReadyH.cons rfl (fun K hK => ?_) (AllReadyH.nil))
          · go_simp
            go_wp2_with fail
            refine (implRun_cells (⟨sc, ac, tc⟩ : Fares.Sum) none 0 0 (List.drop 0 []) s1 a1 t1 md HD.out _ (Reads.nil _ _ _) (by simp) (by omega) (Limits.below HL.out (bD1 HB8.out)) (Steps.below HT.out (bD1 HB8.out))).mono ?_
            rintro e w9 ⟨rfl, hb9⟩
            have hz9 : w8.heap.size ≤ w9.heap.size := by have := hb9.size; (try simp at this); omega
            have Ha9 := Lib.hid (Blk.belowAll (blkDrew Ha8.out) hb9)
            clear Ha8
            have HB9 := Lib.hid (bT (bD1 HB8.out) hb9)
            clear HB8
            have HB09 := Lib.hid (bT (bD1 HB08.out) hb9)
            clear HB08
            have Hb9 := Lib.hid (Blk.belowAll (blkDrew Hb8.out) hb9)
            clear Hb8
            have HC9 := Lib.hid (Blk.belowAll (blkDrew Hbx8.out) hb9)
            clear Hbx8
            clear hb9
            go_simp
            refine hK.out _ _ (by exact aggCells HC9.out) (fun hS => ?_)
            clear hK K
            refine take_at 5 65 (v := ?_) rfl rfl (by kernel_rfl) (by kernel_rfl) (by kernel_rfl) (fun _ _ _ h => h) (by rfl) ?_ hS ?_
            rotate_left 1
            · (intro w hSw; (try dsimp only at hSw); (try go_split_ands); go_simp; try with_reducible rfl)
            simp only [List.setIfInBounds_toArray, List.set_cons_zero, List.set_cons_succ]
            refine take_at 6 71 (v := ?_) rfl rfl (by kernel_rfl) (by kernel_rfl) (by kernel_rfl) (fun _ _ _ h => h) (by rfl) ?_ hS ?_
            rotate_left 1
            · (intro w hSw; (try dsimp only at hSw); (try go_split_ands); go_simp; try with_reducible rfl)
            simp only [List.setIfInBounds_toArray, List.set_cons_zero, List.set_cons_succ]
            refine take_at 7 72 (v := ?_) rfl rfl (by kernel_rfl) (by kernel_rfl) (by kernel_rfl) (fun _ _ _ h => h) (by rfl) ?_ hS ?_
            rotate_left 1
            · (intro w hSw; (try dsimp only at hSw); (try go_split_ands); go_simp; try with_reducible rfl)
            simp only [List.setIfInBounds_toArray, List.set_cons_zero, List.set_cons_succ]
            refine wpAnyH_ready (rs := [8]) (by kernel_rfl) (by simp) ?_
            refine AllReadyH.cons rfl (fun K hK => ?_) (AllReadyH.nil)
            go_simp
            generalize hW : World.alloc _ _ = w10
            have hbx10 : Blk w10 w9.heap.size 24 (AggR.cells (⟨0, 0, 0⟩ : Fares.Sum)) := by rw [← hW]; exact Blk.new' (by simp)
            have hb10 : Below w9.heap.size w9 w10 := by rw [← hW]; exact bA (Below.refl _ _) _
            have hy10 : w9.heap.size < w10.heap.size := by rw [← hW]; simp
            clear hW
            have hz10 : w9.heap.size ≤ w10.heap.size := by have := hb10.size; (try simp at this); omega
            have Ha10 := Lib.hid (Blk.belowAll Ha9.out hb10)
            clear Ha9
            have HB10 := Lib.hid (bT HB9.out hb10)
            clear HB9
            have HB010 := Lib.hid (bT HB09.out hb10)
            clear HB09
            have Hb10 := Lib.hid (Blk.belowAll Hb9.out hb10)
            clear Hb9
            have HC10 := Lib.hid (Blk.belowAll HC9.out hb10)
            clear HC9
            clear hb10
            have Hbx10 := Lib.hid hbx10; clear hbx10
            obtain ⟨cD10_0, cD10_1, cD10_2⟩ := aggCells (t := 24) (v := (⟨0, 0, 0⟩ : Fares.Sum)) Hbx10.out
            have frD10_0 := (Hbx10.out).free 0
            have frD10_1 := (Hbx10.out).free 1
            have frD10_2 := (Hbx10.out).free 2
            refine hK.out _ _ (by exact aggCells HC10.out) (fun hS => ?_)
            clear hK K
            refine wpAnyH_ready (rs := [9]) (by kernel_rfl) (by simp) ?_
            refine AllReadyH.cons rfl (fun K hK => ?_) (AllReadyH.nil)
            go_simp
            generalize hW : World.setCell _ _ _ = w11
            have ht11 : Touch (fun i => i = w9.heap.size) w10 w11 := by rw [← hW]; exact (Touch.far (K := fun i => i = w9.heap.size) (Touch.far (K := fun i => i = w9.heap.size) (Touch.far (K := fun i => i = w9.heap.size) (Touch.refl _ _) (p := ⟨w9.heap.size, 0, none⟩) rfl _) (p := ⟨w9.heap.size, 1, none⟩) rfl _) (p := ⟨w9.heap.size, 2, none⟩) rfl _)
            have hbx11 : Blk w11 (w9.heap.size) 24 (AggR.cells (⟨s1, a1, t1⟩ : Fares.Sum)) := by rw [← hW]; exact (Blk.put (Blk.put (Blk.put Hbx10.out 0 (.int .i64 s1)) 1 (.int .i64 a1)) 2 (.int .i64 t1))
            clear hW
            clear cD10_0 cD10_1 cD10_2 frD10_0 frD10_1 frD10_2
            have hz11 : w10.heap.size ≤ w11.heap.size := by have := ht11.size; (try simp at this); omega
            have Ha11 := Lib.hid (Blk.touch Ha10.out ht11 (show ¬ (w0.heap.size = w9.heap.size) by omega))
            clear Ha10
            have HB11 := Lib.hid (Touch.below HB10.out ht11 (fun i hi => by omega))
            clear HB10
            have HB011 := Lib.hid (Touch.below HB010.out ht11 (fun i hi => by omega))
            clear HB010
            have Hb11 := Lib.hid (Blk.touch Hb10.out ht11 (show ¬ (w2.heap.size = w9.heap.size) by omega))
            clear Hb10
            have HC11 := Lib.hid (Blk.touch HC10.out ht11 (show ¬ (w5.heap.size = w9.heap.size) by omega))
            clear HC10
            clear ht11 Hbx10
            have Hbx11 := Lib.hid hbx11; clear hbx11
            refine hK.out _ _ (by exact aggCells HC11.out) (fun hS => ?_)
            clear hK K
            refine take_at 10 13 (v := ?_) rfl rfl (by kernel_rfl) (by kernel_rfl) (by kernel_rfl) (fun _ _ _ h => h) (by rfl) ?_ hS ?_
            rotate_left 1
            · (intro w hSw; (try dsimp only at hSw); (try go_split_ands); go_simp; try with_reducible rfl)
            simp only [List.setIfInBounds_toArray, List.set_cons_zero, List.set_cons_succ]
            refine wpAnyH_done (by kernel_rfl) ?_ _
            clear hS
            obtain ⟨cb11_0, cb11_1, cb11_2⟩ := aggCells (t := 24) (v := (⟨s1, a1, t1⟩ : Fares.Sum)) Hb11.out
            obtain ⟨cD11_0, cD11_1, cD11_2⟩ := aggCells (t := 24) (v := (⟨s1, a1, t1⟩ : Fares.Sum)) Hbx11.out
            have ltb11 : w2.heap.size < w11.heap.size := by omega
            have ltD11 : w9.heap.size < w11.heap.size := by omega
            dsimp only at cb11_0 cb11_1 cb11_2 cD11_0 cD11_1 cD11_2
            have W1 : IntKind.i64.wrap (mc + md) = m := by rw [hmm]; exact IntWalk.i64_in _ (by omega)
            have dm2 : (mc + md == m) = true := by rw [beq_iff_eq]; exact hmm
            have CV : Hid (∀ W, Limits W → Calls Tryd.prog 13 #[.agg #[.int .i64 s1, .int .i64 a1, .int .i64 t1]] W fun r w' => r = .returned (.bool true) ∧ Below W.heap.size W w') := fun W h => by
              have h2 := implValid_cells (⟨s1, a1, t1⟩ : Fares.Sum) W h
              rw [HVB.out] at h2
              exact h2
            go_wp2_with fail
            refine (CV.out _ (Limits.below HL.out HB11.out)).mono ?_
            rintro e w12 ⟨rfl, hb12⟩
            clear cb11_0 cb11_1 cb11_2 cD11_0 cD11_1 cD11_2 ltb11 ltD11
            have hz12 : w11.heap.size ≤ w12.heap.size := by have := hb12.size; (try simp at this); omega
            have Ha12 := Lib.hid (Blk.belowAll Ha11.out hb12)
            clear Ha11
            have HB12 := Lib.hid (bT HB11.out hb12)
            clear HB11
            have HB012 := Lib.hid (bT HB011.out hb12)
            clear HB011
            have Hb12 := Lib.hid (Blk.belowAll Hb11.out hb12)
            clear Hb11
            have HC12 := Lib.hid (Blk.belowAll HC11.out hb12)
            clear HC11
            have HD12 := Lib.hid (Blk.belowAll Hbx11.out hb12)
            clear Hbx11
            clear hb12
            go_wp2
            all_goals (go_ret; refine ⟨ret_bool ?_, HB12.out⟩; first | rfl | (simp; done))
          · go_simp
            generalize hW : World.alloc _ _ = w9
            have hbx9 : Blk w9 w8.heap.size 24 (AggR.cells (⟨0, 0, 0⟩ : Fares.Sum)) := by rw [← hW]; exact Blk.new' (by simp)
            have hb9 : Below w8.heap.size w8 w9 := by rw [← hW]; exact bA (Below.refl _ _) _
            have hy9 : w8.heap.size < w9.heap.size := by rw [← hW]; simp
            clear hW
            have hz9 : w8.heap.size ≤ w9.heap.size := by have := hb9.size; (try simp at this); omega
            have Ha9 := Lib.hid (Blk.belowAll Ha8.out hb9)
            clear Ha8
            have HB9 := Lib.hid (bT HB8.out hb9)
            clear HB8
            have HB09 := Lib.hid (bT HB08.out hb9)
            clear HB08
            have Hb9 := Lib.hid (Blk.belowAll Hb8.out hb9)
            clear Hb8
            have HC9 := Lib.hid (Blk.belowAll Hbx8.out hb9)
            clear Hbx8
            clear hb9
            have Hbx9 := Lib.hid hbx9; clear hbx9
            obtain ⟨cD9_0, cD9_1, cD9_2⟩ := aggCells (t := 24) (v := (⟨0, 0, 0⟩ : Fares.Sum)) (blkDrew Hbx9.out)
            have frD9_0 := ((blkDrew Hbx9.out)).free 0
            have frD9_1 := ((blkDrew Hbx9.out)).free 1
            have frD9_2 := ((blkDrew Hbx9.out)).free 2
            refine hK.out _ _ (by exact aggCells (blkDrew HC9.out)) (fun hS => ?_)
            clear hK K
            refine wpAnyH_ready (rs := [4]) (by kernel_rfl) (by simp) ?_
            refine AllReadyH.cons rfl (fun K hK => ?_) (AllReadyH.nil)
            go_simp
            go_wp2_with fail
            refine (implRun_cells (⟨sc, ac, tc⟩ : Fares.Sum) none 0 0 (List.drop 0 []) s1 a1 t1 md HD.out _ (Reads.nil _ _ _) (by simp) (by omega) (Limits.below HL.out (bD1 HB9.out)) (Steps.below HT.out (bD1 HB9.out))).mono ?_
            rintro e w10 ⟨rfl, hb10⟩
            clear cD9_0 cD9_1 cD9_2 frD9_0 frD9_1 frD9_2
            have hz10 : w9.heap.size ≤ w10.heap.size := by have := hb10.size; (try simp at this); omega
            have Ha10 := Lib.hid (Blk.belowAll (blkDrew Ha9.out) hb10)
            clear Ha9
            have HB10 := Lib.hid (bT (bD1 HB9.out) hb10)
            clear HB9
            have HB010 := Lib.hid (bT (bD1 HB09.out) hb10)
            clear HB09
            have Hb10 := Lib.hid (Blk.belowAll (blkDrew Hb9.out) hb10)
            clear Hb9
            have HC10 := Lib.hid (Blk.belowAll (blkDrew HC9.out) hb10)
            clear HC9
            have HD10 := Lib.hid (Blk.belowAll (blkDrew Hbx9.out) hb10)
            clear Hbx9
            clear hb10
            obtain ⟨cD10_0, cD10_1, cD10_2⟩ := aggCells (t := 24) (v := (⟨0, 0, 0⟩ : Fares.Sum)) HD10.out
            have frD10_0 := (HD10.out).free 0
            have frD10_1 := (HD10.out).free 1
            have frD10_2 := (HD10.out).free 2
            go_simp
            refine hK.out _ _ (by exact aggCells HC10.out) (fun hS => ?_)
            clear hK K
            refine take_at 5 65 (v := ?_) rfl rfl (by kernel_rfl) (by kernel_rfl) (by kernel_rfl) (fun _ _ _ h => h) (by rfl) ?_ hS ?_
            rotate_left 1
            · (intro w hSw; (try dsimp only at hSw); (try go_split_ands); go_simp; try with_reducible rfl)
            simp only [List.setIfInBounds_toArray, List.set_cons_zero, List.set_cons_succ]
            refine take_at 6 71 (v := ?_) rfl rfl (by kernel_rfl) (by kernel_rfl) (by kernel_rfl) (fun _ _ _ h => h) (by rfl) ?_ hS ?_
            rotate_left 1
            · (intro w hSw; (try dsimp only at hSw); (try go_split_ands); go_simp; try with_reducible rfl)
            simp only [List.setIfInBounds_toArray, List.set_cons_zero, List.set_cons_succ]
            refine take_at 7 72 (v := ?_) rfl rfl (by kernel_rfl) (by kernel_rfl) (by kernel_rfl) (fun _ _ _ h => h) (by rfl) ?_ hS ?_
            rotate_left 1
            · (intro w hSw; (try dsimp only at hSw); (try go_split_ands); go_simp; try with_reducible rfl)
            simp only [List.setIfInBounds_toArray, List.set_cons_zero, List.set_cons_succ]
            refine wpAnyH_ready (rs := [9]) (by kernel_rfl) (by simp) ?_
            refine AllReadyH.cons rfl (fun K hK => ?_) (AllReadyH.nil)
            go_simp
            generalize hW : World.setCell _ _ _ = w11
            have ht11 : Touch (fun i => i = w8.heap.size) w10 w11 := by rw [← hW]; exact (Touch.far (K := fun i => i = w8.heap.size) (Touch.far (K := fun i => i = w8.heap.size) (Touch.far (K := fun i => i = w8.heap.size) (Touch.refl _ _) (p := ⟨w8.heap.size, 0, none⟩) rfl _) (p := ⟨w8.heap.size, 1, none⟩) rfl _) (p := ⟨w8.heap.size, 2, none⟩) rfl _)
            have hbx11 : Blk w11 (w8.heap.size) 24 (AggR.cells (⟨s1, a1, t1⟩ : Fares.Sum)) := by rw [← hW]; exact (Blk.put (Blk.put (Blk.put HD10.out 0 (.int .i64 s1)) 1 (.int .i64 a1)) 2 (.int .i64 t1))
            clear hW
            clear cD10_0 cD10_1 cD10_2 frD10_0 frD10_1 frD10_2
            have hz11 : w10.heap.size ≤ w11.heap.size := by have := ht11.size; (try simp at this); omega
            have Ha11 := Lib.hid (Blk.touch Ha10.out ht11 (show ¬ (w0.heap.size = w8.heap.size) by omega))
            clear Ha10
            have HB11 := Lib.hid (Touch.below HB10.out ht11 (fun i hi => by omega))
            clear HB10
            have HB011 := Lib.hid (Touch.below HB010.out ht11 (fun i hi => by omega))
            clear HB010
            have Hb11 := Lib.hid (Blk.touch Hb10.out ht11 (show ¬ (w2.heap.size = w8.heap.size) by omega))
            clear Hb10
            have HC11 := Lib.hid (Blk.touch HC10.out ht11 (show ¬ (w5.heap.size = w8.heap.size) by omega))
            clear HC10
            clear ht11 HD10
            have Hbx11 := Lib.hid hbx11; clear hbx11
            refine hK.out _ _ (by exact aggCells HC11.out) (fun hS => ?_)
            clear hK K
            refine take_at 10 13 (v := ?_) rfl rfl (by kernel_rfl) (by kernel_rfl) (by kernel_rfl) (fun _ _ _ h => h) (by rfl) ?_ hS ?_
            rotate_left 1
            · (intro w hSw; (try dsimp only at hSw); (try go_split_ands); go_simp; try with_reducible rfl)
            simp only [List.setIfInBounds_toArray, List.set_cons_zero, List.set_cons_succ]
            refine wpAnyH_done (by kernel_rfl) ?_ _
            clear hS
            obtain ⟨cb11_0, cb11_1, cb11_2⟩ := aggCells (t := 24) (v := (⟨s1, a1, t1⟩ : Fares.Sum)) Hb11.out
            obtain ⟨cD11_0, cD11_1, cD11_2⟩ := aggCells (t := 24) (v := (⟨s1, a1, t1⟩ : Fares.Sum)) Hbx11.out
            have ltb11 : w2.heap.size < w11.heap.size := by omega
            have ltD11 : w8.heap.size < w11.heap.size := by omega
            dsimp only at cb11_0 cb11_1 cb11_2 cD11_0 cD11_1 cD11_2
            have W1 : IntKind.i64.wrap (mc + md) = m := by rw [hmm]; exact IntWalk.i64_in _ (by omega)
            have dm2 : (mc + md == m) = true := by rw [beq_iff_eq]; exact hmm
            have CV : Hid (∀ W, Limits W → Calls Tryd.prog 13 #[.agg #[.int .i64 s1, .int .i64 a1, .int .i64 t1]] W fun r w' => r = .returned (.bool true) ∧ Below W.heap.size W w') := fun W h => by
              have h2 := implValid_cells (⟨s1, a1, t1⟩ : Fares.Sum) W h
              rw [HVB.out] at h2
              exact h2
            go_wp2_with fail
            refine (CV.out _ (Limits.below HL.out HB11.out)).mono ?_
            rintro e w12 ⟨rfl, hb12⟩
            clear cb11_0 cb11_1 cb11_2 cD11_0 cD11_1 cD11_2 ltb11 ltD11
            have hz12 : w11.heap.size ≤ w12.heap.size := by have := hb12.size; (try simp at this); omega
            have Ha12 := Lib.hid (Blk.belowAll Ha11.out hb12)
            clear Ha11
            have HB12 := Lib.hid (bT HB11.out hb12)
            clear HB11
            have HB012 := Lib.hid (bT HB011.out hb12)
            clear HB011
            have Hb12 := Lib.hid (Blk.belowAll Hb11.out hb12)
            clear Hb11
            have HC12 := Lib.hid (Blk.belowAll HC11.out hb12)
            clear HC11
            have HD12 := Lib.hid (Blk.belowAll Hbx11.out hb12)
            clear Hbx11
            clear hb12
            go_wp2
            all_goals (go_ret; refine ⟨ret_bool ?_, HB12.out⟩; first | rfl | (simp; done))
      · rcases hcz with hcz | hcz
        · have hnil : l = [] := List.length_eq_zero_iff.mp (by omega)
          subst hnil
          subst hcz
          obtain rfl : hf = 0 := HH.out
          go_wp2
          generalize hW : World.alloc _ _ = w5
          have hb5 : Below w4.heap.size w4 w5 := by rw [← hW]; exact bA (Below.refl _ _) _
          have hy5 : w4.heap.size < w5.heap.size := by rw [← hW]; simp
          clear hW
          clear ca4_0 ca4_1 ca4_2 cb4_0 cb4_1 cb4_2 lta4 ltb4
          have hz5 : w4.heap.size ≤ w5.heap.size := by have := hb5.size; (try simp at this); omega
          have Ha5 := Lib.hid (Blk.belowAll Ha4.out hb5)
          clear Ha4
          have HB5 := Lib.hid (bT HB4.out hb5)
          clear HB4
          have HB05 := Lib.hid (bT HB04.out hb5)
          clear HB04
          have Hb5 := Lib.hid (Blk.belowAll Hb4.out hb5)
          clear Hb4
          clear hb5
          refine wp_region_held_drew (S := fun w' => w'.cell? ⟨w0.heap.size, 0, none⟩ = some (.int .i64 x.s) ∧ w'.cell? ⟨w0.heap.size, 1, none⟩ = some (.int .i64 x.a) ∧ w'.cell? ⟨w0.heap.size, 2, none⟩ = some (.int .i64 x.t)) (by kernel_rfl) (by exact aggCells Ha5.out) (fun hS => ?_)
          refine take_at 0 58 (v := ?_) rfl rfl (by kernel_rfl) (by kernel_rfl) (by kernel_rfl) (fun _ _ _ h => h) (by rfl) ?_ hS ?_
          rotate_left 1
          · (intro w hSw; (try dsimp only at hSw); (try go_split_ands); go_simp; try with_reducible rfl)
          simp only [List.setIfInBounds_toArray, List.set_cons_zero, List.set_cons_succ]
          refine take_at 1 59 (v := ?_) rfl rfl (by kernel_rfl) (by kernel_rfl) (by kernel_rfl) (fun _ _ _ h => h) (by rfl) ?_ hS ?_
          rotate_left 1
          · (intro w hSw; (try dsimp only at hSw); (try go_split_ands); go_simp; try with_reducible rfl)
          simp only [List.setIfInBounds_toArray, List.set_cons_zero, List.set_cons_succ]
          refine take_at 2 60 (v := ?_) rfl rfl (by kernel_rfl) (by kernel_rfl) (by kernel_rfl) (fun _ _ _ h => h) (by rfl) ?_ hS ?_
          rotate_left 1
          · (intro w hSw; (try dsimp only at hSw); (try go_split_ands); go_simp; try with_reducible rfl)
          simp only [List.setIfInBounds_toArray, List.set_cons_zero, List.set_cons_succ]
          refine take_at 3 61 (v := ?_) rfl rfl (by kernel_rfl) (by kernel_rfl) (by kernel_rfl) (fun _ _ _ h => h) (by rfl) ?_ hS ?_
          rotate_left 1
          · (intro w hSw; (try dsimp only at hSw); (try go_split_ands); go_simp; try with_reducible rfl)
          simp only [List.setIfInBounds_toArray, List.set_cons_zero, List.set_cons_succ]
          refine wpAnyH_ready (rs := [4, 8]) (by kernel_rfl) (by simp) ?_
          refine AllReadyH.cons rfl (fun K hK => ?_) (AllReadyH.cons rfl (fun K hK => ?_) (AllReadyH.nil))
          · go_simp
            go_wp2_with fail
            refine (implRun_cells x (some ⟨g, 0, none⟩) 0 0 (List.take 0 []) sc ac tc mc HC.out _ (Reads.nil _ _ _) (by rw [List.length_take]; rfl) (by omega) (Limits.below HL.out (bD1 HB5.out)) (Steps.below HT.out (bD1 HB5.out))).mono ?_
            rintro e w6 ⟨rfl, hb6⟩
            have hz6 : w5.heap.size ≤ w6.heap.size := by have := hb6.size; (try simp at this); omega
            have Ha6 := Lib.hid (Blk.belowAll (blkDrew Ha5.out) hb6)
            clear Ha5
            have HB6 := Lib.hid (bT (bD1 HB5.out) hb6)
            clear HB5
            have HB06 := Lib.hid (bT (bD1 HB05.out) hb6)
            clear HB05
            have Hb6 := Lib.hid (Blk.belowAll (blkDrew Hb5.out) hb6)
            clear Hb5
            clear hb6
            go_simp
            refine hK.out _ _ (by exact aggCells Ha6.out) (fun hS => ?_)
            clear hK K
            refine take_at 5 57 (v := ?_) rfl rfl (by kernel_rfl) (by kernel_rfl) (by kernel_rfl) (fun _ _ _ h => h) (by rfl) ?_ hS ?_
            rotate_left 1
            · (intro w hSw; (try dsimp only at hSw); (try go_split_ands); go_simp; try with_reducible rfl)
            simp only [List.setIfInBounds_toArray, List.set_cons_zero, List.set_cons_succ]
            refine take_at 6 63 (v := ?_) rfl rfl (by kernel_rfl) (by kernel_rfl) (by kernel_rfl) (fun _ _ _ h => h) (by rfl) ?_ hS ?_
            rotate_left 1
            · (intro w hSw; (try dsimp only at hSw); (try go_split_ands); go_simp; try with_reducible rfl)
            simp only [List.setIfInBounds_toArray, List.set_cons_zero, List.set_cons_succ]
            refine take_at 7 64 (v := ?_) rfl rfl (by kernel_rfl) (by kernel_rfl) (by kernel_rfl) (fun _ _ _ h => h) (by rfl) ?_ hS ?_
            rotate_left 1
            · (intro w hSw; (try dsimp only at hSw); (try go_split_ands); go_simp; try with_reducible rfl)
            simp only [List.setIfInBounds_toArray, List.set_cons_zero, List.set_cons_succ]
            refine wpAnyH_ready (rs := [8]) (by kernel_rfl) (by simp) ?_
            refine AllReadyH.cons rfl (fun K hK => ?_) (AllReadyH.nil)
            go_simp
            generalize hW : World.alloc _ _ = w7
            have hbx7 : Blk w7 w6.heap.size 24 (AggR.cells (⟨0, 0, 0⟩ : Fares.Sum)) := by rw [← hW]; exact Blk.new' (by simp)
            have hb7 : Below w6.heap.size w6 w7 := by rw [← hW]; exact bA (Below.refl _ _) _
            have hy7 : w6.heap.size < w7.heap.size := by rw [← hW]; simp
            clear hW
            have hz7 : w6.heap.size ≤ w7.heap.size := by have := hb7.size; (try simp at this); omega
            have Ha7 := Lib.hid (Blk.belowAll Ha6.out hb7)
            clear Ha6
            have HB7 := Lib.hid (bT HB6.out hb7)
            clear HB6
            have HB07 := Lib.hid (bT HB06.out hb7)
            clear HB06
            have Hb7 := Lib.hid (Blk.belowAll Hb6.out hb7)
            clear Hb6
            clear hb7
            have Hbx7 := Lib.hid hbx7; clear hbx7
            obtain ⟨cC7_0, cC7_1, cC7_2⟩ := aggCells (t := 24) (v := (⟨0, 0, 0⟩ : Fares.Sum)) Hbx7.out
            have frC7_0 := (Hbx7.out).free 0
            have frC7_1 := (Hbx7.out).free 1
            have frC7_2 := (Hbx7.out).free 2
            refine hK.out _ _ (by exact aggCells Ha7.out) (fun hS => ?_)
            clear hK K
            refine wpAnyH_ready (rs := [9]) (by kernel_rfl) (by simp) ?_
            refine AllReadyH.cons rfl (fun K hK => ?_) (AllReadyH.nil)
            go_simp
            generalize hW : World.setCell _ _ _ = w8
            have ht8 : Touch (fun i => i = w6.heap.size) w7 w8 := by rw [← hW]; exact (Touch.far (K := fun i => i = w6.heap.size) (Touch.far (K := fun i => i = w6.heap.size) (Touch.far (K := fun i => i = w6.heap.size) (Touch.refl _ _) (p := ⟨w6.heap.size, 0, none⟩) rfl _) (p := ⟨w6.heap.size, 1, none⟩) rfl _) (p := ⟨w6.heap.size, 2, none⟩) rfl _)
            have hbx8 : Blk w8 (w6.heap.size) 24 (AggR.cells (⟨sc, ac, tc⟩ : Fares.Sum)) := by rw [← hW]; exact (Blk.put (Blk.put (Blk.put Hbx7.out 0 (.int .i64 sc)) 1 (.int .i64 ac)) 2 (.int .i64 tc))
            clear hW
            clear cC7_0 cC7_1 cC7_2 frC7_0 frC7_1 frC7_2
            have hz8 : w7.heap.size ≤ w8.heap.size := by have := ht8.size; (try simp at this); omega
            have Ha8 := Lib.hid (Blk.touch Ha7.out ht8 (show ¬ (w0.heap.size = w6.heap.size) by omega))
            clear Ha7
            have HB8 := Lib.hid (Touch.below HB7.out ht8 (fun i hi => by omega))
            clear HB7
            have HB08 := Lib.hid (Touch.below HB07.out ht8 (fun i hi => by omega))
            clear HB07
            have Hb8 := Lib.hid (Blk.touch Hb7.out ht8 (show ¬ (w2.heap.size = w6.heap.size) by omega))
            clear Hb7
            clear ht8 Hbx7
            have Hbx8 := Lib.hid hbx8; clear hbx8
            refine hK.out _ _ (by exact aggCells Ha8.out) (fun hS => ?_)
            clear hK K
            refine take_at 10 11 (v := ?_) rfl rfl (by kernel_rfl) (by kernel_rfl) (by kernel_rfl) (fun _ _ _ h => h) (by rfl) ?_ hS ?_
            rotate_left 1
            · (intro w hSw; (try dsimp only at hSw); (try go_split_ands); go_simp; try with_reducible rfl)
            simp only [List.setIfInBounds_toArray, List.set_cons_zero, List.set_cons_succ]
            refine wpAnyH_done (by kernel_rfl) ?_ _
            clear hS
            go_wp2
            refine wp_region_held_drew (S := fun w' => w'.cell? ⟨w6.heap.size, 0, none⟩ = some (.int .i64 sc) ∧ w'.cell? ⟨w6.heap.size, 1, none⟩ = some (.int .i64 ac) ∧ w'.cell? ⟨w6.heap.size, 2, none⟩ = some (.int .i64 tc)) (by kernel_rfl) (by exact aggCells Hbx8.out) (fun hS => ?_)
            refine take_at 0 66 (v := ?_) rfl rfl (by kernel_rfl) (by kernel_rfl) (by kernel_rfl) (fun _ _ _ h => h) (by rfl) ?_ hS ?_
            rotate_left 1
            · (intro w hSw; (try dsimp only at hSw); (try go_split_ands); go_simp; try with_reducible rfl)
            simp only [List.setIfInBounds_toArray, List.set_cons_zero, List.set_cons_succ]
            refine take_at 1 67 (v := ?_) rfl rfl (by kernel_rfl) (by kernel_rfl) (by kernel_rfl) (fun _ _ _ h => h) (by rfl) ?_ hS ?_
            rotate_left 1
            · (intro w hSw; (try dsimp only at hSw); (try go_split_ands); go_simp; try with_reducible rfl)
            simp only [List.setIfInBounds_toArray, List.set_cons_zero, List.set_cons_succ]
            refine take_at 2 68 (v := ?_) rfl rfl (by kernel_rfl) (by kernel_rfl) (by kernel_rfl) (fun _ _ _ h => h) (by rfl) ?_ hS ?_
            rotate_left 1
            · (intro w hSw; (try dsimp only at hSw); (try go_split_ands); go_simp; try with_reducible rfl)
            simp only [List.setIfInBounds_toArray, List.set_cons_zero, List.set_cons_succ]
            refine take_at 3 69 (v := ?_) rfl rfl (by kernel_rfl) (by kernel_rfl) (by kernel_rfl) (fun _ _ _ h => h) (by rfl) ?_ hS ?_
            rotate_left 1
            · (intro w hSw; (try dsimp only at hSw); (try go_split_ands); go_simp; try with_reducible rfl)
            simp only [List.setIfInBounds_toArray, List.set_cons_zero, List.set_cons_succ]
            refine wpAnyH_ready (rs := [4, 8]) (by kernel_rfl) (by simp) ?_
            refine AllReadyH.cons rfl (fun K hK => ?_) (AllReadyH.cons rfl (fun K hK => ?_) (AllReadyH.nil))
            · go_simp
              go_wp2_with fail
              refine (implRun_cells (⟨sc, ac, tc⟩ : Fares.Sum) (some ⟨g, 0, none⟩) 0 0 (List.drop 0 []) s1 a1 t1 md HD.out _ (Reads.nil _ _ _) (by simp) (by omega) (Limits.below HL.out (bD1 HB8.out)) (Steps.below HT.out (bD1 HB8.out))).mono ?_
              rintro e w9 ⟨rfl, hb9⟩
              have hz9 : w8.heap.size ≤ w9.heap.size := by have := hb9.size; (try simp at this); omega
              have Ha9 := Lib.hid (Blk.belowAll (blkDrew Ha8.out) hb9)
              clear Ha8
              have HB9 := Lib.hid (bT (bD1 HB8.out) hb9)
              clear HB8
              have HB09 := Lib.hid (bT (bD1 HB08.out) hb9)
              clear HB08
              have Hb9 := Lib.hid (Blk.belowAll (blkDrew Hb8.out) hb9)
              clear Hb8
              have HC9 := Lib.hid (Blk.belowAll (blkDrew Hbx8.out) hb9)
              clear Hbx8
              clear hb9
              go_simp
              refine hK.out _ _ (by exact aggCells HC9.out) (fun hS => ?_)
              clear hK K
              refine take_at 5 65 (v := ?_) rfl rfl (by kernel_rfl) (by kernel_rfl) (by kernel_rfl) (fun _ _ _ h => h) (by rfl) ?_ hS ?_
              rotate_left 1
              · (intro w hSw; (try dsimp only at hSw); (try go_split_ands); go_simp; try with_reducible rfl)
              simp only [List.setIfInBounds_toArray, List.set_cons_zero, List.set_cons_succ]
              refine take_at 6 71 (v := ?_) rfl rfl (by kernel_rfl) (by kernel_rfl) (by kernel_rfl) (fun _ _ _ h => h) (by rfl) ?_ hS ?_
              rotate_left 1
              · (intro w hSw; (try dsimp only at hSw); (try go_split_ands); go_simp; try with_reducible rfl)
              simp only [List.setIfInBounds_toArray, List.set_cons_zero, List.set_cons_succ]
              refine take_at 7 72 (v := ?_) rfl rfl (by kernel_rfl) (by kernel_rfl) (by kernel_rfl) (fun _ _ _ h => h) (by rfl) ?_ hS ?_
              rotate_left 1
              · (intro w hSw; (try dsimp only at hSw); (try go_split_ands); go_simp; try with_reducible rfl)
              simp only [List.setIfInBounds_toArray, List.set_cons_zero, List.set_cons_succ]
              refine wpAnyH_ready (rs := [8]) (by kernel_rfl) (by simp) ?_
              refine AllReadyH.cons rfl (fun K hK => ?_) (AllReadyH.nil)
              go_simp
              generalize hW : World.alloc _ _ = w10
              have hbx10 : Blk w10 w9.heap.size 24 (AggR.cells (⟨0, 0, 0⟩ : Fares.Sum)) := by rw [← hW]; exact Blk.new' (by simp)
              have hb10 : Below w9.heap.size w9 w10 := by rw [← hW]; exact bA (Below.refl _ _) _
              have hy10 : w9.heap.size < w10.heap.size := by rw [← hW]; simp
              clear hW
              have hz10 : w9.heap.size ≤ w10.heap.size := by have := hb10.size; (try simp at this); omega
              have Ha10 := Lib.hid (Blk.belowAll Ha9.out hb10)
              clear Ha9
              have HB10 := Lib.hid (bT HB9.out hb10)
              clear HB9
              have HB010 := Lib.hid (bT HB09.out hb10)
              clear HB09
              have Hb10 := Lib.hid (Blk.belowAll Hb9.out hb10)
              clear Hb9
              have HC10 := Lib.hid (Blk.belowAll HC9.out hb10)
              clear HC9
              clear hb10
              have Hbx10 := Lib.hid hbx10; clear hbx10
              obtain ⟨cD10_0, cD10_1, cD10_2⟩ := aggCells (t := 24) (v := (⟨0, 0, 0⟩ : Fares.Sum)) Hbx10.out
              have frD10_0 := (Hbx10.out).free 0
              have frD10_1 := (Hbx10.out).free 1
              have frD10_2 := (Hbx10.out).free 2
              refine hK.out _ _ (by exact aggCells HC10.out) (fun hS => ?_)
              clear hK K
              refine wpAnyH_ready (rs := [9]) (by kernel_rfl) (by simp) ?_
              refine AllReadyH.cons rfl (fun K hK => ?_) (AllReadyH.nil)
              go_simp
              generalize hW : World.setCell _ _ _ = w11
              have ht11 : Touch (fun i => i = w9.heap.size) w10 w11 := by rw [← hW]; exact (Touch.far (K := fun i => i = w9.heap.size) (Touch.far (K := fun i => i = w9.heap.size) (Touch.far (K := fun i => i = w9.heap.size) (Touch.refl _ _) (p := ⟨w9.heap.size, 0, none⟩) rfl _) (p := ⟨w9.heap.size, 1, none⟩) rfl _) (p := ⟨w9.heap.size, 2, none⟩) rfl _)
              have hbx11 : Blk w11 (w9.heap.size) 24 (AggR.cells (⟨s1, a1, t1⟩ : Fares.Sum)) := by rw [← hW]; exact (Blk.put (Blk.put (Blk.put Hbx10.out 0 (.int .i64 s1)) 1 (.int .i64 a1)) 2 (.int .i64 t1))
              clear hW
              clear cD10_0 cD10_1 cD10_2 frD10_0 frD10_1 frD10_2
              have hz11 : w10.heap.size ≤ w11.heap.size := by have := ht11.size; (try simp at this); omega
              have Ha11 := Lib.hid (Blk.touch Ha10.out ht11 (show ¬ (w0.heap.size = w9.heap.size) by omega))
              clear Ha10
              have HB11 := Lib.hid (Touch.below HB10.out ht11 (fun i hi => by omega))
              clear HB10
              have HB011 := Lib.hid (Touch.below HB010.out ht11 (fun i hi => by omega))
              clear HB010
              have Hb11 := Lib.hid (Blk.touch Hb10.out ht11 (show ¬ (w2.heap.size = w9.heap.size) by omega))
              clear Hb10
              have HC11 := Lib.hid (Blk.touch HC10.out ht11 (show ¬ (w6.heap.size = w9.heap.size) by omega))
              clear HC10
              clear ht11 Hbx10
              have Hbx11 := Lib.hid hbx11; clear hbx11
              refine hK.out _ _ (by exact aggCells HC11.out) (fun hS => ?_)
              clear hK K
              refine take_at 10 13 (v := ?_) rfl rfl (by kernel_rfl) (by kernel_rfl) (by kernel_rfl) (fun _ _ _ h => h) (by rfl) ?_ hS ?_
              rotate_left 1
              · (intro w hSw; (try dsimp only at hSw); (try go_split_ands); go_simp; try with_reducible rfl)
              simp only [List.setIfInBounds_toArray, List.set_cons_zero, List.set_cons_succ]
              refine wpAnyH_done (by kernel_rfl) ?_ _
              clear hS
              obtain ⟨cb11_0, cb11_1, cb11_2⟩ := aggCells (t := 24) (v := (⟨s1, a1, t1⟩ : Fares.Sum)) Hb11.out
              obtain ⟨cD11_0, cD11_1, cD11_2⟩ := aggCells (t := 24) (v := (⟨s1, a1, t1⟩ : Fares.Sum)) Hbx11.out
              have ltb11 : w2.heap.size < w11.heap.size := by omega
              have ltD11 : w9.heap.size < w11.heap.size := by omega
              dsimp only at cb11_0 cb11_1 cb11_2 cD11_0 cD11_1 cD11_2
              have W1 : IntKind.i64.wrap (mc + md) = m := by rw [hmm]; exact IntWalk.i64_in _ (by omega)
              have dm2 : (mc + md == m) = true := by rw [beq_iff_eq]; exact hmm
              have CV : Hid (∀ W, Limits W → Calls Tryd.prog 13 #[.agg #[.int .i64 s1, .int .i64 a1, .int .i64 t1]] W fun r w' => r = .returned (.bool true) ∧ Below W.heap.size W w') := fun W h => by
                have h2 := implValid_cells (⟨s1, a1, t1⟩ : Fares.Sum) W h
                rw [HVB.out] at h2
                exact h2
              go_wp2_with fail
              refine (CV.out _ (Limits.below HL.out HB11.out)).mono ?_
              rintro e w12 ⟨rfl, hb12⟩
              clear cb11_0 cb11_1 cb11_2 cD11_0 cD11_1 cD11_2 ltb11 ltD11
              have hz12 : w11.heap.size ≤ w12.heap.size := by have := hb12.size; (try simp at this); omega
              have Ha12 := Lib.hid (Blk.belowAll Ha11.out hb12)
              clear Ha11
              have HB12 := Lib.hid (bT HB11.out hb12)
              clear HB11
              have HB012 := Lib.hid (bT HB011.out hb12)
              clear HB011
              have Hb12 := Lib.hid (Blk.belowAll Hb11.out hb12)
              clear Hb11
              have HC12 := Lib.hid (Blk.belowAll HC11.out hb12)
              clear HC11
              have HD12 := Lib.hid (Blk.belowAll Hbx11.out hb12)
              clear Hbx11
              clear hb12
              go_wp2
              all_goals (go_ret; refine ⟨ret_bool ?_, HB12.out⟩; first | rfl | (simp; done))
            · go_simp
              generalize hW : World.alloc _ _ = w9
              have hbx9 : Blk w9 w8.heap.size 24 (AggR.cells (⟨0, 0, 0⟩ : Fares.Sum)) := by rw [← hW]; exact Blk.new' (by simp)
              have hb9 : Below w8.heap.size w8 w9 := by rw [← hW]; exact bA (Below.refl _ _) _
              have hy9 : w8.heap.size < w9.heap.size := by rw [← hW]; simp
              clear hW
              have hz9 : w8.heap.size ≤ w9.heap.size := by have := hb9.size; (try simp at this); omega
              have Ha9 := Lib.hid (Blk.belowAll Ha8.out hb9)
              clear Ha8
              have HB9 := Lib.hid (bT HB8.out hb9)
              clear HB8
              have HB09 := Lib.hid (bT HB08.out hb9)
              clear HB08
              have Hb9 := Lib.hid (Blk.belowAll Hb8.out hb9)
              clear Hb8
              have HC9 := Lib.hid (Blk.belowAll Hbx8.out hb9)
              clear Hbx8
              clear hb9
              have Hbx9 := Lib.hid hbx9; clear hbx9
              obtain ⟨cD9_0, cD9_1, cD9_2⟩ := aggCells (t := 24) (v := (⟨0, 0, 0⟩ : Fares.Sum)) (blkDrew Hbx9.out)
              have frD9_0 := ((blkDrew Hbx9.out)).free 0
              have frD9_1 := ((blkDrew Hbx9.out)).free 1
              have frD9_2 := ((blkDrew Hbx9.out)).free 2
              refine hK.out _ _ (by exact aggCells (blkDrew HC9.out)) (fun hS => ?_)
              clear hK K
              refine wpAnyH_ready (rs := [4]) (by kernel_rfl) (by simp) ?_
              refine AllReadyH.cons rfl (fun K hK => ?_) (AllReadyH.nil)
              go_simp
              go_wp2_with fail
              refine (implRun_cells (⟨sc, ac, tc⟩ : Fares.Sum) (some ⟨g, 0, none⟩) 0 0 (List.drop 0 []) s1 a1 t1 md HD.out _ (Reads.nil _ _ _) (by simp) (by omega) (Limits.below HL.out (bD1 HB9.out)) (Steps.below HT.out (bD1 HB9.out))).mono ?_
              rintro e w10 ⟨rfl, hb10⟩
              clear cD9_0 cD9_1 cD9_2 frD9_0 frD9_1 frD9_2
              have hz10 : w9.heap.size ≤ w10.heap.size := by have := hb10.size; (try simp at this); omega
              have Ha10 := Lib.hid (Blk.belowAll (blkDrew Ha9.out) hb10)
              clear Ha9
              have HB10 := Lib.hid (bT (bD1 HB9.out) hb10)
              clear HB9
              have HB010 := Lib.hid (bT (bD1 HB09.out) hb10)
              clear HB09
              have Hb10 := Lib.hid (Blk.belowAll (blkDrew Hb9.out) hb10)
              clear Hb9
              have HC10 := Lib.hid (Blk.belowAll (blkDrew HC9.out) hb10)
              clear HC9
              have HD10 := Lib.hid (Blk.belowAll (blkDrew Hbx9.out) hb10)
              clear Hbx9
              clear hb10
              obtain ⟨cD10_0, cD10_1, cD10_2⟩ := aggCells (t := 24) (v := (⟨0, 0, 0⟩ : Fares.Sum)) HD10.out
              have frD10_0 := (HD10.out).free 0
              have frD10_1 := (HD10.out).free 1
              have frD10_2 := (HD10.out).free 2
              go_simp
              refine hK.out _ _ (by exact aggCells HC10.out) (fun hS => ?_)
              clear hK K
              refine take_at 5 65 (v := ?_) rfl rfl (by kernel_rfl) (by kernel_rfl) (by kernel_rfl) (fun _ _ _ h => h) (by rfl) ?_ hS ?_
              rotate_left 1
              · (intro w hSw; (try dsimp only at hSw); (try go_split_ands); go_simp; try with_reducible rfl)
              simp only [List.setIfInBounds_toArray, List.set_cons_zero, List.set_cons_succ]
              refine take_at 6 71 (v := ?_) rfl rfl (by kernel_rfl) (by kernel_rfl) (by kernel_rfl) (fun _ _ _ h => h) (by rfl) ?_ hS ?_
              rotate_left 1
              · (intro w hSw; (try dsimp only at hSw); (try go_split_ands); go_simp; try with_reducible rfl)
              simp only [List.setIfInBounds_toArray, List.set_cons_zero, List.set_cons_succ]
              refine take_at 7 72 (v := ?_) rfl rfl (by kernel_rfl) (by kernel_rfl) (by kernel_rfl) (fun _ _ _ h => h) (by rfl) ?_ hS ?_
              rotate_left 1
              · (intro w hSw; (try dsimp only at hSw); (try go_split_ands); go_simp; try with_reducible rfl)
              simp only [List.setIfInBounds_toArray, List.set_cons_zero, List.set_cons_succ]
              refine wpAnyH_ready (rs := [9]) (by kernel_rfl) (by simp) ?_
              refine AllReadyH.cons rfl (fun K hK => ?_) (AllReadyH.nil)
              go_simp
              generalize hW : World.setCell _ _ _ = w11
              have ht11 : Touch (fun i => i = w8.heap.size) w10 w11 := by rw [← hW]; exact (Touch.far (K := fun i => i = w8.heap.size) (Touch.far (K := fun i => i = w8.heap.size) (Touch.far (K := fun i => i = w8.heap.size) (Touch.refl _ _) (p := ⟨w8.heap.size, 0, none⟩) rfl _) (p := ⟨w8.heap.size, 1, none⟩) rfl _) (p := ⟨w8.heap.size, 2, none⟩) rfl _)
              have hbx11 : Blk w11 (w8.heap.size) 24 (AggR.cells (⟨s1, a1, t1⟩ : Fares.Sum)) := by rw [← hW]; exact (Blk.put (Blk.put (Blk.put HD10.out 0 (.int .i64 s1)) 1 (.int .i64 a1)) 2 (.int .i64 t1))
              clear hW
              clear cD10_0 cD10_1 cD10_2 frD10_0 frD10_1 frD10_2
              have hz11 : w10.heap.size ≤ w11.heap.size := by have := ht11.size; (try simp at this); omega
              have Ha11 := Lib.hid (Blk.touch Ha10.out ht11 (show ¬ (w0.heap.size = w8.heap.size) by omega))
              clear Ha10
              have HB11 := Lib.hid (Touch.below HB10.out ht11 (fun i hi => by omega))
              clear HB10
              have HB011 := Lib.hid (Touch.below HB010.out ht11 (fun i hi => by omega))
              clear HB010
              have Hb11 := Lib.hid (Blk.touch Hb10.out ht11 (show ¬ (w2.heap.size = w8.heap.size) by omega))
              clear Hb10
              have HC11 := Lib.hid (Blk.touch HC10.out ht11 (show ¬ (w6.heap.size = w8.heap.size) by omega))
              clear HC10
              clear ht11 HD10
              have Hbx11 := Lib.hid hbx11; clear hbx11
              refine hK.out _ _ (by exact aggCells HC11.out) (fun hS => ?_)
              clear hK K
              refine take_at 10 13 (v := ?_) rfl rfl (by kernel_rfl) (by kernel_rfl) (by kernel_rfl) (fun _ _ _ h => h) (by rfl) ?_ hS ?_
              rotate_left 1
              · (intro w hSw; (try dsimp only at hSw); (try go_split_ands); go_simp; try with_reducible rfl)
              simp only [List.setIfInBounds_toArray, List.set_cons_zero, List.set_cons_succ]
              refine wpAnyH_done (by kernel_rfl) ?_ _
              clear hS
              obtain ⟨cb11_0, cb11_1, cb11_2⟩ := aggCells (t := 24) (v := (⟨s1, a1, t1⟩ : Fares.Sum)) Hb11.out
              obtain ⟨cD11_0, cD11_1, cD11_2⟩ := aggCells (t := 24) (v := (⟨s1, a1, t1⟩ : Fares.Sum)) Hbx11.out
              have ltb11 : w2.heap.size < w11.heap.size := by omega
              have ltD11 : w8.heap.size < w11.heap.size := by omega
              dsimp only at cb11_0 cb11_1 cb11_2 cD11_0 cD11_1 cD11_2
              have W1 : IntKind.i64.wrap (mc + md) = m := by rw [hmm]; exact IntWalk.i64_in _ (by omega)
              have dm2 : (mc + md == m) = true := by rw [beq_iff_eq]; exact hmm
              have CV : Hid (∀ W, Limits W → Calls Tryd.prog 13 #[.agg #[.int .i64 s1, .int .i64 a1, .int .i64 t1]] W fun r w' => r = .returned (.bool true) ∧ Below W.heap.size W w') := fun W h => by
                have h2 := implValid_cells (⟨s1, a1, t1⟩ : Fares.Sum) W h
                rw [HVB.out] at h2
                exact h2
              go_wp2_with fail
              refine (CV.out _ (Limits.below HL.out HB11.out)).mono ?_
              rintro e w12 ⟨rfl, hb12⟩
              clear cb11_0 cb11_1 cb11_2 cD11_0 cD11_1 cD11_2 ltb11 ltD11
              have hz12 : w11.heap.size ≤ w12.heap.size := by have := hb12.size; (try simp at this); omega
              have Ha12 := Lib.hid (Blk.belowAll Ha11.out hb12)
              clear Ha11
              have HB12 := Lib.hid (bT HB11.out hb12)
              clear HB11
              have HB012 := Lib.hid (bT HB011.out hb12)
              clear HB011
              have Hb12 := Lib.hid (Blk.belowAll Hb11.out hb12)
              clear Hb11
              have HC12 := Lib.hid (Blk.belowAll HC11.out hb12)
              clear HC11
              have HD12 := Lib.hid (Blk.belowAll Hbx11.out hb12)
              clear Hbx11
              clear hb12
              go_wp2
              all_goals (go_ret; refine ⟨ret_bool ?_, HB12.out⟩; first | rfl | (simp; done))
          · go_simp
            generalize hW : World.alloc _ _ = w6
            have hbx6 : Blk w6 w5.heap.size 24 (AggR.cells (⟨0, 0, 0⟩ : Fares.Sum)) := by rw [← hW]; exact Blk.new' (by simp)
            have hb6 : Below w5.heap.size w5 w6 := by rw [← hW]; exact bA (Below.refl _ _) _
            have hy6 : w5.heap.size < w6.heap.size := by rw [← hW]; simp
            clear hW
            have hz6 : w5.heap.size ≤ w6.heap.size := by have := hb6.size; (try simp at this); omega
            have Ha6 := Lib.hid (Blk.belowAll Ha5.out hb6)
            clear Ha5
            have HB6 := Lib.hid (bT HB5.out hb6)
            clear HB5
            have HB06 := Lib.hid (bT HB05.out hb6)
            clear HB05
            have Hb6 := Lib.hid (Blk.belowAll Hb5.out hb6)
            clear Hb5
            clear hb6
            have Hbx6 := Lib.hid hbx6; clear hbx6
            obtain ⟨cC6_0, cC6_1, cC6_2⟩ := aggCells (t := 24) (v := (⟨0, 0, 0⟩ : Fares.Sum)) (blkDrew Hbx6.out)
            have frC6_0 := ((blkDrew Hbx6.out)).free 0
            have frC6_1 := ((blkDrew Hbx6.out)).free 1
            have frC6_2 := ((blkDrew Hbx6.out)).free 2
            refine hK.out _ _ (by exact aggCells (blkDrew Ha6.out)) (fun hS => ?_)
            clear hK K
            refine wpAnyH_ready (rs := [4]) (by kernel_rfl) (by simp) ?_
            refine AllReadyH.cons rfl (fun K hK => ?_) (AllReadyH.nil)
            go_simp
            go_wp2_with fail
            refine (implRun_cells x (some ⟨g, 0, none⟩) 0 0 (List.take 0 []) sc ac tc mc HC.out _ (Reads.nil _ _ _) (by rw [List.length_take]; rfl) (by omega) (Limits.below HL.out (bD1 HB6.out)) (Steps.below HT.out (bD1 HB6.out))).mono ?_
            rintro e w7 ⟨rfl, hb7⟩
            clear cC6_0 cC6_1 cC6_2 frC6_0 frC6_1 frC6_2
            have hz7 : w6.heap.size ≤ w7.heap.size := by have := hb7.size; (try simp at this); omega
            have Ha7 := Lib.hid (Blk.belowAll (blkDrew Ha6.out) hb7)
            clear Ha6
            have HB7 := Lib.hid (bT (bD1 HB6.out) hb7)
            clear HB6
            have HB07 := Lib.hid (bT (bD1 HB06.out) hb7)
            clear HB06
            have Hb7 := Lib.hid (Blk.belowAll (blkDrew Hb6.out) hb7)
            clear Hb6
            have HC7 := Lib.hid (Blk.belowAll (blkDrew Hbx6.out) hb7)
            clear Hbx6
            clear hb7
            obtain ⟨cC7_0, cC7_1, cC7_2⟩ := aggCells (t := 24) (v := (⟨0, 0, 0⟩ : Fares.Sum)) HC7.out
            have frC7_0 := (HC7.out).free 0
            have frC7_1 := (HC7.out).free 1
            have frC7_2 := (HC7.out).free 2
            go_simp
            refine hK.out _ _ (by exact aggCells Ha7.out) (fun hS => ?_)
            clear hK K
            refine take_at 5 57 (v := ?_) rfl rfl (by kernel_rfl) (by kernel_rfl) (by kernel_rfl) (fun _ _ _ h => h) (by rfl) ?_ hS ?_
            rotate_left 1
            · (intro w hSw; (try dsimp only at hSw); (try go_split_ands); go_simp; try with_reducible rfl)
            simp only [List.setIfInBounds_toArray, List.set_cons_zero, List.set_cons_succ]
            refine take_at 6 63 (v := ?_) rfl rfl (by kernel_rfl) (by kernel_rfl) (by kernel_rfl) (fun _ _ _ h => h) (by rfl) ?_ hS ?_
            rotate_left 1
            · (intro w hSw; (try dsimp only at hSw); (try go_split_ands); go_simp; try with_reducible rfl)
            simp only [List.setIfInBounds_toArray, List.set_cons_zero, List.set_cons_succ]
            refine take_at 7 64 (v := ?_) rfl rfl (by kernel_rfl) (by kernel_rfl) (by kernel_rfl) (fun _ _ _ h => h) (by rfl) ?_ hS ?_
            rotate_left 1
            · (intro w hSw; (try dsimp only at hSw); (try go_split_ands); go_simp; try with_reducible rfl)
            simp only [List.setIfInBounds_toArray, List.set_cons_zero, List.set_cons_succ]
            refine wpAnyH_ready (rs := [9]) (by kernel_rfl) (by simp) ?_
            refine AllReadyH.cons rfl (fun K hK => ?_) (AllReadyH.nil)
            go_simp
            generalize hW : World.setCell _ _ _ = w8
            have ht8 : Touch (fun i => i = w5.heap.size) w7 w8 := by rw [← hW]; exact (Touch.far (K := fun i => i = w5.heap.size) (Touch.far (K := fun i => i = w5.heap.size) (Touch.far (K := fun i => i = w5.heap.size) (Touch.refl _ _) (p := ⟨w5.heap.size, 0, none⟩) rfl _) (p := ⟨w5.heap.size, 1, none⟩) rfl _) (p := ⟨w5.heap.size, 2, none⟩) rfl _)
            have hbx8 : Blk w8 (w5.heap.size) 24 (AggR.cells (⟨sc, ac, tc⟩ : Fares.Sum)) := by rw [← hW]; exact (Blk.put (Blk.put (Blk.put HC7.out 0 (.int .i64 sc)) 1 (.int .i64 ac)) 2 (.int .i64 tc))
            clear hW
            clear cC7_0 cC7_1 cC7_2 frC7_0 frC7_1 frC7_2
            have hz8 : w7.heap.size ≤ w8.heap.size := by have := ht8.size; (try simp at this); omega
            have Ha8 := Lib.hid (Blk.touch Ha7.out ht8 (show ¬ (w0.heap.size = w5.heap.size) by omega))
            clear Ha7
            have HB8 := Lib.hid (Touch.below HB7.out ht8 (fun i hi => by omega))
            clear HB7
            have HB08 := Lib.hid (Touch.below HB07.out ht8 (fun i hi => by omega))
            clear HB07
            have Hb8 := Lib.hid (Blk.touch Hb7.out ht8 (show ¬ (w2.heap.size = w5.heap.size) by omega))
            clear Hb7
            clear ht8 HC7
            have Hbx8 := Lib.hid hbx8; clear hbx8
            refine hK.out _ _ (by exact aggCells Ha8.out) (fun hS => ?_)
            clear hK K
            refine take_at 10 11 (v := ?_) rfl rfl (by kernel_rfl) (by kernel_rfl) (by kernel_rfl) (fun _ _ _ h => h) (by rfl) ?_ hS ?_
            rotate_left 1
            · (intro w hSw; (try dsimp only at hSw); (try go_split_ands); go_simp; try with_reducible rfl)
            simp only [List.setIfInBounds_toArray, List.set_cons_zero, List.set_cons_succ]
            refine wpAnyH_done (by kernel_rfl) ?_ _
            clear hS
            go_wp2
            refine wp_region_held_drew (S := fun w' => w'.cell? ⟨w5.heap.size, 0, none⟩ = some (.int .i64 sc) ∧ w'.cell? ⟨w5.heap.size, 1, none⟩ = some (.int .i64 ac) ∧ w'.cell? ⟨w5.heap.size, 2, none⟩ = some (.int .i64 tc)) (by kernel_rfl) (by exact aggCells Hbx8.out) (fun hS => ?_)
            refine take_at 0 66 (v := ?_) rfl rfl (by kernel_rfl) (by kernel_rfl) (by kernel_rfl) (fun _ _ _ h => h) (by rfl) ?_ hS ?_
            rotate_left 1
            · (intro w hSw; (try dsimp only at hSw); (try go_split_ands); go_simp; try with_reducible rfl)
            simp only [List.setIfInBounds_toArray, List.set_cons_zero, List.set_cons_succ]
            refine take_at 1 67 (v := ?_) rfl rfl (by kernel_rfl) (by kernel_rfl) (by kernel_rfl) (fun _ _ _ h => h) (by rfl) ?_ hS ?_
            rotate_left 1
            · (intro w hSw; (try dsimp only at hSw); (try go_split_ands); go_simp; try with_reducible rfl)
            simp only [List.setIfInBounds_toArray, List.set_cons_zero, List.set_cons_succ]
            refine take_at 2 68 (v := ?_) rfl rfl (by kernel_rfl) (by kernel_rfl) (by kernel_rfl) (fun _ _ _ h => h) (by rfl) ?_ hS ?_
            rotate_left 1
            · (intro w hSw; (try dsimp only at hSw); (try go_split_ands); go_simp; try with_reducible rfl)
            simp only [List.setIfInBounds_toArray, List.set_cons_zero, List.set_cons_succ]
            refine take_at 3 69 (v := ?_) rfl rfl (by kernel_rfl) (by kernel_rfl) (by kernel_rfl) (fun _ _ _ h => h) (by rfl) ?_ hS ?_
            rotate_left 1
            · (intro w hSw; (try dsimp only at hSw); (try go_split_ands); go_simp; try with_reducible rfl)
            simp only [List.setIfInBounds_toArray, List.set_cons_zero, List.set_cons_succ]
            refine wpAnyH_ready (rs := [4, 8]) (by kernel_rfl) (by simp) ?_
            refine AllReadyH.cons rfl (fun K hK => ?_) (AllReadyH.cons rfl (fun K hK => ?_) (AllReadyH.nil))
            · go_simp
              go_wp2_with fail
              refine (implRun_cells (⟨sc, ac, tc⟩ : Fares.Sum) (some ⟨g, 0, none⟩) 0 0 (List.drop 0 []) s1 a1 t1 md HD.out _ (Reads.nil _ _ _) (by simp) (by omega) (Limits.below HL.out (bD1 HB8.out)) (Steps.below HT.out (bD1 HB8.out))).mono ?_
              rintro e w9 ⟨rfl, hb9⟩
              have hz9 : w8.heap.size ≤ w9.heap.size := by have := hb9.size; (try simp at this); omega
              have Ha9 := Lib.hid (Blk.belowAll (blkDrew Ha8.out) hb9)
              clear Ha8
              have HB9 := Lib.hid (bT (bD1 HB8.out) hb9)
              clear HB8
              have HB09 := Lib.hid (bT (bD1 HB08.out) hb9)
              clear HB08
              have Hb9 := Lib.hid (Blk.belowAll (blkDrew Hb8.out) hb9)
              clear Hb8
              have HC9 := Lib.hid (Blk.belowAll (blkDrew Hbx8.out) hb9)
              clear Hbx8
              clear hb9
              go_simp
              refine hK.out _ _ (by exact aggCells HC9.out) (fun hS => ?_)
              clear hK K
              refine take_at 5 65 (v := ?_) rfl rfl (by kernel_rfl) (by kernel_rfl) (by kernel_rfl) (fun _ _ _ h => h) (by rfl) ?_ hS ?_
              rotate_left 1
              · (intro w hSw; (try dsimp only at hSw); (try go_split_ands); go_simp; try with_reducible rfl)
              simp only [List.setIfInBounds_toArray, List.set_cons_zero, List.set_cons_succ]
              refine take_at 6 71 (v := ?_) rfl rfl (by kernel_rfl) (by kernel_rfl) (by kernel_rfl) (fun _ _ _ h => h) (by rfl) ?_ hS ?_
              rotate_left 1
              · (intro w hSw; (try dsimp only at hSw); (try go_split_ands); go_simp; try with_reducible rfl)
              simp only [List.setIfInBounds_toArray, List.set_cons_zero, List.set_cons_succ]
              refine take_at 7 72 (v := ?_) rfl rfl (by kernel_rfl) (by kernel_rfl) (by kernel_rfl) (fun _ _ _ h => h) (by rfl) ?_ hS ?_
              rotate_left 1
              · (intro w hSw; (try dsimp only at hSw); (try go_split_ands); go_simp; try with_reducible rfl)
              simp only [List.setIfInBounds_toArray, List.set_cons_zero, List.set_cons_succ]
              refine wpAnyH_ready (rs := [8]) (by kernel_rfl) (by simp) ?_
              refine AllReadyH.cons rfl (fun K hK => ?_) (AllReadyH.nil)
              go_simp
              generalize hW : World.alloc _ _ = w10
              have hbx10 : Blk w10 w9.heap.size 24 (AggR.cells (⟨0, 0, 0⟩ : Fares.Sum)) := by rw [← hW]; exact Blk.new' (by simp)
              have hb10 : Below w9.heap.size w9 w10 := by rw [← hW]; exact bA (Below.refl _ _) _
              have hy10 : w9.heap.size < w10.heap.size := by rw [← hW]; simp
              clear hW
              have hz10 : w9.heap.size ≤ w10.heap.size := by have := hb10.size; (try simp at this); omega
              have Ha10 := Lib.hid (Blk.belowAll Ha9.out hb10)
              clear Ha9
              have HB10 := Lib.hid (bT HB9.out hb10)
              clear HB9
              have HB010 := Lib.hid (bT HB09.out hb10)
              clear HB09
              have Hb10 := Lib.hid (Blk.belowAll Hb9.out hb10)
              clear Hb9
              have HC10 := Lib.hid (Blk.belowAll HC9.out hb10)
              clear HC9
              clear hb10
              have Hbx10 := Lib.hid hbx10; clear hbx10
              obtain ⟨cD10_0, cD10_1, cD10_2⟩ := aggCells (t := 24) (v := (⟨0, 0, 0⟩ : Fares.Sum)) Hbx10.out
              have frD10_0 := (Hbx10.out).free 0
              have frD10_1 := (Hbx10.out).free 1
              have frD10_2 := (Hbx10.out).free 2
              refine hK.out _ _ (by exact aggCells HC10.out) (fun hS => ?_)
              clear hK K
              refine wpAnyH_ready (rs := [9]) (by kernel_rfl) (by simp) ?_
              refine AllReadyH.cons rfl (fun K hK => ?_) (AllReadyH.nil)
              go_simp
              generalize hW : World.setCell _ _ _ = w11
              have ht11 : Touch (fun i => i = w9.heap.size) w10 w11 := by rw [← hW]; exact (Touch.far (K := fun i => i = w9.heap.size) (Touch.far (K := fun i => i = w9.heap.size) (Touch.far (K := fun i => i = w9.heap.size) (Touch.refl _ _) (p := ⟨w9.heap.size, 0, none⟩) rfl _) (p := ⟨w9.heap.size, 1, none⟩) rfl _) (p := ⟨w9.heap.size, 2, none⟩) rfl _)
              have hbx11 : Blk w11 (w9.heap.size) 24 (AggR.cells (⟨s1, a1, t1⟩ : Fares.Sum)) := by rw [← hW]; exact (Blk.put (Blk.put (Blk.put Hbx10.out 0 (.int .i64 s1)) 1 (.int .i64 a1)) 2 (.int .i64 t1))
              clear hW
              clear cD10_0 cD10_1 cD10_2 frD10_0 frD10_1 frD10_2
              have hz11 : w10.heap.size ≤ w11.heap.size := by have := ht11.size; (try simp at this); omega
              have Ha11 := Lib.hid (Blk.touch Ha10.out ht11 (show ¬ (w0.heap.size = w9.heap.size) by omega))
              clear Ha10
              have HB11 := Lib.hid (Touch.below HB10.out ht11 (fun i hi => by omega))
              clear HB10
              have HB011 := Lib.hid (Touch.below HB010.out ht11 (fun i hi => by omega))
              clear HB010
              have Hb11 := Lib.hid (Blk.touch Hb10.out ht11 (show ¬ (w2.heap.size = w9.heap.size) by omega))
              clear Hb10
              have HC11 := Lib.hid (Blk.touch HC10.out ht11 (show ¬ (w5.heap.size = w9.heap.size) by omega))
              clear HC10
              clear ht11 Hbx10
              have Hbx11 := Lib.hid hbx11; clear hbx11
              refine hK.out _ _ (by exact aggCells HC11.out) (fun hS => ?_)
              clear hK K
              refine take_at 10 13 (v := ?_) rfl rfl (by kernel_rfl) (by kernel_rfl) (by kernel_rfl) (fun _ _ _ h => h) (by rfl) ?_ hS ?_
              rotate_left 1
              · (intro w hSw; (try dsimp only at hSw); (try go_split_ands); go_simp; try with_reducible rfl)
              simp only [List.setIfInBounds_toArray, List.set_cons_zero, List.set_cons_succ]
              refine wpAnyH_done (by kernel_rfl) ?_ _
              clear hS
              obtain ⟨cb11_0, cb11_1, cb11_2⟩ := aggCells (t := 24) (v := (⟨s1, a1, t1⟩ : Fares.Sum)) Hb11.out
              obtain ⟨cD11_0, cD11_1, cD11_2⟩ := aggCells (t := 24) (v := (⟨s1, a1, t1⟩ : Fares.Sum)) Hbx11.out
              have ltb11 : w2.heap.size < w11.heap.size := by omega
              have ltD11 : w9.heap.size < w11.heap.size := by omega
              dsimp only at cb11_0 cb11_1 cb11_2 cD11_0 cD11_1 cD11_2
              have W1 : IntKind.i64.wrap (mc + md) = m := by rw [hmm]; exact IntWalk.i64_in _ (by omega)
              have dm2 : (mc + md == m) = true := by rw [beq_iff_eq]; exact hmm
              have CV : Hid (∀ W, Limits W → Calls Tryd.prog 13 #[.agg #[.int .i64 s1, .int .i64 a1, .int .i64 t1]] W fun r w' => r = .returned (.bool true) ∧ Below W.heap.size W w') := fun W h => by
                have h2 := implValid_cells (⟨s1, a1, t1⟩ : Fares.Sum) W h
                rw [HVB.out] at h2
                exact h2
              go_wp2_with fail
              refine (CV.out _ (Limits.below HL.out HB11.out)).mono ?_
              rintro e w12 ⟨rfl, hb12⟩
              clear cb11_0 cb11_1 cb11_2 cD11_0 cD11_1 cD11_2 ltb11 ltD11
              have hz12 : w11.heap.size ≤ w12.heap.size := by have := hb12.size; (try simp at this); omega
              have Ha12 := Lib.hid (Blk.belowAll Ha11.out hb12)
              clear Ha11
              have HB12 := Lib.hid (bT HB11.out hb12)
              clear HB11
              have HB012 := Lib.hid (bT HB011.out hb12)
              clear HB011
              have Hb12 := Lib.hid (Blk.belowAll Hb11.out hb12)
              clear Hb11
              have HC12 := Lib.hid (Blk.belowAll HC11.out hb12)
              clear HC11
              have HD12 := Lib.hid (Blk.belowAll Hbx11.out hb12)
              clear Hbx11
              clear hb12
              go_wp2
              all_goals (go_ret; refine ⟨ret_bool ?_, HB12.out⟩; first | rfl | (simp; done))
            · go_simp
              generalize hW : World.alloc _ _ = w9
              have hbx9 : Blk w9 w8.heap.size 24 (AggR.cells (⟨0, 0, 0⟩ : Fares.Sum)) := by rw [← hW]; exact Blk.new' (by simp)
              have hb9 : Below w8.heap.size w8 w9 := by rw [← hW]; exact bA (Below.refl _ _) _
              have hy9 : w8.heap.size < w9.heap.size := by rw [← hW]; simp
              clear hW
              have hz9 : w8.heap.size ≤ w9.heap.size := by have := hb9.size; (try simp at this); omega
              have Ha9 := Lib.hid (Blk.belowAll Ha8.out hb9)
              clear Ha8
              have HB9 := Lib.hid (bT HB8.out hb9)
              clear HB8
              have HB09 := Lib.hid (bT HB08.out hb9)
              clear HB08
              have Hb9 := Lib.hid (Blk.belowAll Hb8.out hb9)
              clear Hb8
              have HC9 := Lib.hid (Blk.belowAll Hbx8.out hb9)
              clear Hbx8
              clear hb9
              have Hbx9 := Lib.hid hbx9; clear hbx9
              obtain ⟨cD9_0, cD9_1, cD9_2⟩ := aggCells (t := 24) (v := (⟨0, 0, 0⟩ : Fares.Sum)) (blkDrew Hbx9.out)
              have frD9_0 := ((blkDrew Hbx9.out)).free 0
              have frD9_1 := ((blkDrew Hbx9.out)).free 1
              have frD9_2 := ((blkDrew Hbx9.out)).free 2
              refine hK.out _ _ (by exact aggCells (blkDrew HC9.out)) (fun hS => ?_)
              clear hK K
              refine wpAnyH_ready (rs := [4]) (by kernel_rfl) (by simp) ?_
              refine AllReadyH.cons rfl (fun K hK => ?_) (AllReadyH.nil)
              go_simp
              go_wp2_with fail
              refine (implRun_cells (⟨sc, ac, tc⟩ : Fares.Sum) (some ⟨g, 0, none⟩) 0 0 (List.drop 0 []) s1 a1 t1 md HD.out _ (Reads.nil _ _ _) (by simp) (by omega) (Limits.below HL.out (bD1 HB9.out)) (Steps.below HT.out (bD1 HB9.out))).mono ?_
              rintro e w10 ⟨rfl, hb10⟩
              clear cD9_0 cD9_1 cD9_2 frD9_0 frD9_1 frD9_2
              have hz10 : w9.heap.size ≤ w10.heap.size := by have := hb10.size; (try simp at this); omega
              have Ha10 := Lib.hid (Blk.belowAll (blkDrew Ha9.out) hb10)
              clear Ha9
              have HB10 := Lib.hid (bT (bD1 HB9.out) hb10)
              clear HB9
              have HB010 := Lib.hid (bT (bD1 HB09.out) hb10)
              clear HB09
              have Hb10 := Lib.hid (Blk.belowAll (blkDrew Hb9.out) hb10)
              clear Hb9
              have HC10 := Lib.hid (Blk.belowAll (blkDrew HC9.out) hb10)
              clear HC9
              have HD10 := Lib.hid (Blk.belowAll (blkDrew Hbx9.out) hb10)
              clear Hbx9
              clear hb10
              obtain ⟨cD10_0, cD10_1, cD10_2⟩ := aggCells (t := 24) (v := (⟨0, 0, 0⟩ : Fares.Sum)) HD10.out
              have frD10_0 := (HD10.out).free 0
              have frD10_1 := (HD10.out).free 1
              have frD10_2 := (HD10.out).free 2
              go_simp
              refine hK.out _ _ (by exact aggCells HC10.out) (fun hS => ?_)
              clear hK K
              refine take_at 5 65 (v := ?_) rfl rfl (by kernel_rfl) (by kernel_rfl) (by kernel_rfl) (fun _ _ _ h => h) (by rfl) ?_ hS ?_
              rotate_left 1
              · (intro w hSw; (try dsimp only at hSw); (try go_split_ands); go_simp; try with_reducible rfl)
              simp only [List.setIfInBounds_toArray, List.set_cons_zero, List.set_cons_succ]
              refine take_at 6 71 (v := ?_) rfl rfl (by kernel_rfl) (by kernel_rfl) (by kernel_rfl) (fun _ _ _ h => h) (by rfl) ?_ hS ?_
              rotate_left 1
              · (intro w hSw; (try dsimp only at hSw); (try go_split_ands); go_simp; try with_reducible rfl)
              simp only [List.setIfInBounds_toArray, List.set_cons_zero, List.set_cons_succ]
              refine take_at 7 72 (v := ?_) rfl rfl (by kernel_rfl) (by kernel_rfl) (by kernel_rfl) (fun _ _ _ h => h) (by rfl) ?_ hS ?_
              rotate_left 1
              · (intro w hSw; (try dsimp only at hSw); (try go_split_ands); go_simp; try with_reducible rfl)
              simp only [List.setIfInBounds_toArray, List.set_cons_zero, List.set_cons_succ]
              refine wpAnyH_ready (rs := [9]) (by kernel_rfl) (by simp) ?_
              refine AllReadyH.cons rfl (fun K hK => ?_) (AllReadyH.nil)
              go_simp
              generalize hW : World.setCell _ _ _ = w11
              have ht11 : Touch (fun i => i = w8.heap.size) w10 w11 := by rw [← hW]; exact (Touch.far (K := fun i => i = w8.heap.size) (Touch.far (K := fun i => i = w8.heap.size) (Touch.far (K := fun i => i = w8.heap.size) (Touch.refl _ _) (p := ⟨w8.heap.size, 0, none⟩) rfl _) (p := ⟨w8.heap.size, 1, none⟩) rfl _) (p := ⟨w8.heap.size, 2, none⟩) rfl _)
              have hbx11 : Blk w11 (w8.heap.size) 24 (AggR.cells (⟨s1, a1, t1⟩ : Fares.Sum)) := by rw [← hW]; exact (Blk.put (Blk.put (Blk.put HD10.out 0 (.int .i64 s1)) 1 (.int .i64 a1)) 2 (.int .i64 t1))
              clear hW
              clear cD10_0 cD10_1 cD10_2 frD10_0 frD10_1 frD10_2
              have hz11 : w10.heap.size ≤ w11.heap.size := by have := ht11.size; (try simp at this); omega
              have Ha11 := Lib.hid (Blk.touch Ha10.out ht11 (show ¬ (w0.heap.size = w8.heap.size) by omega))
              clear Ha10
              have HB11 := Lib.hid (Touch.below HB10.out ht11 (fun i hi => by omega))
              clear HB10
              have HB011 := Lib.hid (Touch.below HB010.out ht11 (fun i hi => by omega))
              clear HB010
              have Hb11 := Lib.hid (Blk.touch Hb10.out ht11 (show ¬ (w2.heap.size = w8.heap.size) by omega))
              clear Hb10
              have HC11 := Lib.hid (Blk.touch HC10.out ht11 (show ¬ (w5.heap.size = w8.heap.size) by omega))
              clear HC10
              clear ht11 HD10
              have Hbx11 := Lib.hid hbx11; clear hbx11
              refine hK.out _ _ (by exact aggCells HC11.out) (fun hS => ?_)
              clear hK K
              refine take_at 10 13 (v := ?_) rfl rfl (by kernel_rfl) (by kernel_rfl) (by kernel_rfl) (fun _ _ _ h => h) (by rfl) ?_ hS ?_
              rotate_left 1
              · (intro w hSw; (try dsimp only at hSw); (try go_split_ands); go_simp; try with_reducible rfl)
              simp only [List.setIfInBounds_toArray, List.set_cons_zero, List.set_cons_succ]
              refine wpAnyH_done (by kernel_rfl) ?_ _
              clear hS
              obtain ⟨cb11_0, cb11_1, cb11_2⟩ := aggCells (t := 24) (v := (⟨s1, a1, t1⟩ : Fares.Sum)) Hb11.out
              obtain ⟨cD11_0, cD11_1, cD11_2⟩ := aggCells (t := 24) (v := (⟨s1, a1, t1⟩ : Fares.Sum)) Hbx11.out
              have ltb11 : w2.heap.size < w11.heap.size := by omega
              have ltD11 : w8.heap.size < w11.heap.size := by omega
              dsimp only at cb11_0 cb11_1 cb11_2 cD11_0 cD11_1 cD11_2
              have W1 : IntKind.i64.wrap (mc + md) = m := by rw [hmm]; exact IntWalk.i64_in _ (by omega)
              have dm2 : (mc + md == m) = true := by rw [beq_iff_eq]; exact hmm
              have CV : Hid (∀ W, Limits W → Calls Tryd.prog 13 #[.agg #[.int .i64 s1, .int .i64 a1, .int .i64 t1]] W fun r w' => r = .returned (.bool true) ∧ Below W.heap.size W w') := fun W h => by
                have h2 := implValid_cells (⟨s1, a1, t1⟩ : Fares.Sum) W h
                rw [HVB.out] at h2
                exact h2
              go_wp2_with fail
              refine (CV.out _ (Limits.below HL.out HB11.out)).mono ?_
              rintro e w12 ⟨rfl, hb12⟩
              clear cb11_0 cb11_1 cb11_2 cD11_0 cD11_1 cD11_2 ltb11 ltD11
              have hz12 : w11.heap.size ≤ w12.heap.size := by have := hb12.size; (try simp at this); omega
              have Ha12 := Lib.hid (Blk.belowAll Ha11.out hb12)
              clear Ha11
              have HB12 := Lib.hid (bT HB11.out hb12)
              clear HB11
              have HB012 := Lib.hid (bT HB011.out hb12)
              clear HB011
              have Hb12 := Lib.hid (Blk.belowAll Hb11.out hb12)
              clear Hb11
              have HC12 := Lib.hid (Blk.belowAll HC11.out hb12)
              clear HC11
              have HD12 := Lib.hid (Blk.belowAll Hbx11.out hb12)
              clear Hbx11
              clear hb12
              go_wp2
              all_goals (go_ret; refine ⟨ret_bool ?_, HB12.out⟩; first | rfl | (simp; done))
        · have f2 : (hf : Int) ≤ (l.length : Int) := by omega
          have f3 : hf ≤ cE := by omega
          have f7 : hf < cE := by have := HH.out; omega
          have f4 : (hf : Int) ≤ (cE : Int) := by omega
          have f5 : (0 : Int) ≤ (hf : Int) := by omega
          have f6 : (l.length : Int) ≤ (cE : Int) := by omega
          go_wp2
          generalize hW : World.alloc _ _ = w5
          have hb5 : Below w4.heap.size w4 w5 := by rw [← hW]; exact bA (Below.refl _ _) _
          have hy5 : w4.heap.size < w5.heap.size := by rw [← hW]; simp
          clear hW
          clear ca4_0 ca4_1 ca4_2 cb4_0 cb4_1 cb4_2 lta4 ltb4
          have hz5 : w4.heap.size ≤ w5.heap.size := by have := hb5.size; (try simp at this); omega
          have Ha5 := Lib.hid (Blk.belowAll Ha4.out hb5)
          clear Ha4
          have HB5 := Lib.hid (bT HB4.out hb5)
          clear HB4
          have HB05 := Lib.hid (bT HB04.out hb5)
          clear HB04
          have Hb5 := Lib.hid (Blk.belowAll Hb4.out hb5)
          clear Hb4
          clear hb5
          refine wp_region_held_drew (S := fun w' => w'.cell? ⟨w0.heap.size, 0, none⟩ = some (.int .i64 x.s) ∧ w'.cell? ⟨w0.heap.size, 1, none⟩ = some (.int .i64 x.a) ∧ w'.cell? ⟨w0.heap.size, 2, none⟩ = some (.int .i64 x.t)) (by kernel_rfl) (by exact aggCells Ha5.out) (fun hS => ?_)
          refine take_at 0 58 (v := ?_) rfl rfl (by kernel_rfl) (by kernel_rfl) (by kernel_rfl) (fun _ _ _ h => h) (by rfl) ?_ hS ?_
          rotate_left 1
          · (intro w hSw; (try dsimp only at hSw); (try go_split_ands); go_simp; try with_reducible rfl)
          simp only [List.setIfInBounds_toArray, List.set_cons_zero, List.set_cons_succ]
          refine take_at 1 59 (v := ?_) rfl rfl (by kernel_rfl) (by kernel_rfl) (by kernel_rfl) (fun _ _ _ h => h) (by rfl) ?_ hS ?_
          rotate_left 1
          · (intro w hSw; (try dsimp only at hSw); (try go_split_ands); go_simp; try with_reducible rfl)
          simp only [List.setIfInBounds_toArray, List.set_cons_zero, List.set_cons_succ]
          refine take_at 2 60 (v := ?_) rfl rfl (by kernel_rfl) (by kernel_rfl) (by kernel_rfl) (fun _ _ _ h => h) (by rfl) ?_ hS ?_
          rotate_left 1
          · (intro w hSw; (try dsimp only at hSw); (try go_split_ands); go_simp; try with_reducible rfl)
          simp only [List.setIfInBounds_toArray, List.set_cons_zero, List.set_cons_succ]
          refine take_at 3 61 (v := ?_) rfl rfl (by kernel_rfl) (by kernel_rfl) (by kernel_rfl) (fun _ _ _ h => h) (by rfl) ?_ hS ?_
          rotate_left 1
          · (intro w hSw; (try dsimp only at hSw); (try go_split_ands); go_simp; try with_reducible rfl)
          simp only [List.setIfInBounds_toArray, List.set_cons_zero, List.set_cons_succ]
          refine wpAnyH_ready (rs := [4, 8]) (by kernel_rfl) (by simp) ?_
          refine AllReadyH.cons rfl (fun K hK => ?_) (AllReadyH.cons rfl (fun K hK => ?_) (AllReadyH.nil))
          · go_simp
            go_wp2_with fail
            refine (implRun_cells x (some ⟨g, 0, none⟩) hf cE (l.take hf) sc ac tc mc HC.out _ (Events.take ((HEv.out.below (bD1 HB05.out) (Nat.le_refl _)).more (Below.size (bD1 HB05.out))) hf) (by rw [List.length_take]; omega) (by omega) (Limits.below HL.out (bD1 HB5.out)) (Steps.below HT.out (bD1 HB5.out))).mono ?_
            rintro e w6 ⟨rfl, hb6⟩
            have hz6 : w5.heap.size ≤ w6.heap.size := by have := hb6.size; (try simp at this); omega
            have Ha6 := Lib.hid (Blk.belowAll (blkDrew Ha5.out) hb6)
            clear Ha5
            have HB6 := Lib.hid (bT (bD1 HB5.out) hb6)
            clear HB5
            have HB06 := Lib.hid (bT (bD1 HB05.out) hb6)
            clear HB05
            have Hb6 := Lib.hid (Blk.belowAll (blkDrew Hb5.out) hb6)
            clear Hb5
            clear hb6
            go_simp
            refine hK.out _ _ (by exact aggCells Ha6.out) (fun hS => ?_)
            clear hK K
            refine take_at 5 57 (v := ?_) rfl rfl (by kernel_rfl) (by kernel_rfl) (by kernel_rfl) (fun _ _ _ h => h) (by rfl) ?_ hS ?_
            rotate_left 1
            · (intro w hSw; (try dsimp only at hSw); (try go_split_ands); go_simp; try with_reducible rfl)
            simp only [List.setIfInBounds_toArray, List.set_cons_zero, List.set_cons_succ]
            refine take_at 6 63 (v := ?_) rfl rfl (by kernel_rfl) (by kernel_rfl) (by kernel_rfl) (fun _ _ _ h => h) (by rfl) ?_ hS ?_
            rotate_left 1
            · (intro w hSw; (try dsimp only at hSw); (try go_split_ands); go_simp; try with_reducible rfl)
            simp only [List.setIfInBounds_toArray, List.set_cons_zero, List.set_cons_succ]
            refine take_at 7 64 (v := ?_) rfl rfl (by kernel_rfl) (by kernel_rfl) (by kernel_rfl) (fun _ _ _ h => h) (by rfl) ?_ hS ?_
            rotate_left 1
            · (intro w hSw; (try dsimp only at hSw); (try go_split_ands); go_simp; try with_reducible rfl)
            simp only [List.setIfInBounds_toArray, List.set_cons_zero, List.set_cons_succ]
            refine wpAnyH_ready (rs := [8]) (by kernel_rfl) (by simp) ?_
            refine AllReadyH.cons rfl (fun K hK => ?_) (AllReadyH.nil)
            go_simp
            generalize hW : World.alloc _ _ = w7
            have hbx7 : Blk w7 w6.heap.size 24 (AggR.cells (⟨0, 0, 0⟩ : Fares.Sum)) := by rw [← hW]; exact Blk.new' (by simp)
            have hb7 : Below w6.heap.size w6 w7 := by rw [← hW]; exact bA (Below.refl _ _) _
            have hy7 : w6.heap.size < w7.heap.size := by rw [← hW]; simp
            clear hW
            have hz7 : w6.heap.size ≤ w7.heap.size := by have := hb7.size; (try simp at this); omega
            have Ha7 := Lib.hid (Blk.belowAll Ha6.out hb7)
            clear Ha6
            have HB7 := Lib.hid (bT HB6.out hb7)
            clear HB6
            have HB07 := Lib.hid (bT HB06.out hb7)
            clear HB06
            have Hb7 := Lib.hid (Blk.belowAll Hb6.out hb7)
            clear Hb6
            clear hb7
            have Hbx7 := Lib.hid hbx7; clear hbx7
            obtain ⟨cC7_0, cC7_1, cC7_2⟩ := aggCells (t := 24) (v := (⟨0, 0, 0⟩ : Fares.Sum)) Hbx7.out
            have frC7_0 := (Hbx7.out).free 0
            have frC7_1 := (Hbx7.out).free 1
            have frC7_2 := (Hbx7.out).free 2
            refine hK.out _ _ (by exact aggCells Ha7.out) (fun hS => ?_)
            clear hK K
            refine wpAnyH_ready (rs := [9]) (by kernel_rfl) (by simp) ?_
            refine AllReadyH.cons rfl (fun K hK => ?_) (AllReadyH.nil)
            go_simp
            generalize hW : World.setCell _ _ _ = w8
            have ht8 : Touch (fun i => i = w6.heap.size) w7 w8 := by rw [← hW]; exact (Touch.far (K := fun i => i = w6.heap.size) (Touch.far (K := fun i => i = w6.heap.size) (Touch.far (K := fun i => i = w6.heap.size) (Touch.refl _ _) (p := ⟨w6.heap.size, 0, none⟩) rfl _) (p := ⟨w6.heap.size, 1, none⟩) rfl _) (p := ⟨w6.heap.size, 2, none⟩) rfl _)
            have hbx8 : Blk w8 (w6.heap.size) 24 (AggR.cells (⟨sc, ac, tc⟩ : Fares.Sum)) := by rw [← hW]; exact (Blk.put (Blk.put (Blk.put Hbx7.out 0 (.int .i64 sc)) 1 (.int .i64 ac)) 2 (.int .i64 tc))
            clear hW
            clear cC7_0 cC7_1 cC7_2 frC7_0 frC7_1 frC7_2
            have hz8 : w7.heap.size ≤ w8.heap.size := by have := ht8.size; (try simp at this); omega
            have Ha8 := Lib.hid (Blk.touch Ha7.out ht8 (show ¬ (w0.heap.size = w6.heap.size) by omega))
            clear Ha7
            have HB8 := Lib.hid (Touch.below HB7.out ht8 (fun i hi => by omega))
            clear HB7
            have HB08 := Lib.hid (Touch.below HB07.out ht8 (fun i hi => by omega))
            clear HB07
            have Hb8 := Lib.hid (Blk.touch Hb7.out ht8 (show ¬ (w2.heap.size = w6.heap.size) by omega))
            clear Hb7
            clear ht8 Hbx7
            have Hbx8 := Lib.hid hbx8; clear hbx8
            refine hK.out _ _ (by exact aggCells Ha8.out) (fun hS => ?_)
            clear hK K
            refine take_at 10 11 (v := ?_) rfl rfl (by kernel_rfl) (by kernel_rfl) (by kernel_rfl) (fun _ _ _ h => h) (by rfl) ?_ hS ?_
            rotate_left 1
            · (intro w hSw; (try dsimp only at hSw); (try go_split_ands); go_simp; try with_reducible rfl)
            simp only [List.setIfInBounds_toArray, List.set_cons_zero, List.set_cons_succ]
            refine wpAnyH_done (by kernel_rfl) ?_ _
            clear hS
            go_wp2
            refine wp_region_held_drew (S := fun w' => w'.cell? ⟨w6.heap.size, 0, none⟩ = some (.int .i64 sc) ∧ w'.cell? ⟨w6.heap.size, 1, none⟩ = some (.int .i64 ac) ∧ w'.cell? ⟨w6.heap.size, 2, none⟩ = some (.int .i64 tc)) (by kernel_rfl) (by exact aggCells Hbx8.out) (fun hS => ?_)
            refine take_at 0 66 (v := ?_) rfl rfl (by kernel_rfl) (by kernel_rfl) (by kernel_rfl) (fun _ _ _ h => h) (by rfl) ?_ hS ?_
            rotate_left 1
            · (intro w hSw; (try dsimp only at hSw); (try go_split_ands); go_simp; try with_reducible rfl)
            simp only [List.setIfInBounds_toArray, List.set_cons_zero, List.set_cons_succ]
            refine take_at 1 67 (v := ?_) rfl rfl (by kernel_rfl) (by kernel_rfl) (by kernel_rfl) (fun _ _ _ h => h) (by rfl) ?_ hS ?_
            rotate_left 1
            · (intro w hSw; (try dsimp only at hSw); (try go_split_ands); go_simp; try with_reducible rfl)
            simp only [List.setIfInBounds_toArray, List.set_cons_zero, List.set_cons_succ]
            refine take_at 2 68 (v := ?_) rfl rfl (by kernel_rfl) (by kernel_rfl) (by kernel_rfl) (fun _ _ _ h => h) (by rfl) ?_ hS ?_
            rotate_left 1
            · (intro w hSw; (try dsimp only at hSw); (try go_split_ands); go_simp; try with_reducible rfl)
            simp only [List.setIfInBounds_toArray, List.set_cons_zero, List.set_cons_succ]
            refine take_at 3 69 (v := ?_) rfl rfl (by kernel_rfl) (by kernel_rfl) (by kernel_rfl) (fun _ _ _ h => h) (by rfl) ?_ hS ?_
            rotate_left 1
            · (intro w hSw; (try dsimp only at hSw); (try go_split_ands); go_simp; try with_reducible rfl)
            simp only [List.setIfInBounds_toArray, List.set_cons_zero, List.set_cons_succ]
            refine wpAnyH_ready (rs := [4, 8]) (by kernel_rfl) (by simp) ?_
            refine AllReadyH.cons rfl (fun K hK => ?_) (AllReadyH.cons rfl (fun K hK => ?_) (AllReadyH.nil))
            · go_simp
              (try (exfalso; omega))
              go_wp2_with fail
              refine (implRun_cells (⟨sc, ac, tc⟩ : Fares.Sum) (some ⟨g, hf * 2, none⟩) (l.length - hf) (cE - hf) (l.drop hf) s1 a1 t1 md HD.out _ (by have h := Events.drop ((HEv.out.below (bD1 HB08.out) (Nat.le_refl _)).more (Below.size (bD1 HB08.out))) hf f1; rw [Nat.zero_add] at h; exact h) (by simp) (by omega) (Limits.below HL.out (bD1 HB8.out)) (Steps.below HT.out (bD1 HB8.out))).mono ?_
              rintro e w9 ⟨rfl, hb9⟩
              have hz9 : w8.heap.size ≤ w9.heap.size := by have := hb9.size; (try simp at this); omega
              have Ha9 := Lib.hid (Blk.belowAll (blkDrew Ha8.out) hb9)
              clear Ha8
              have HB9 := Lib.hid (bT (bD1 HB8.out) hb9)
              clear HB8
              have HB09 := Lib.hid (bT (bD1 HB08.out) hb9)
              clear HB08
              have Hb9 := Lib.hid (Blk.belowAll (blkDrew Hb8.out) hb9)
              clear Hb8
              have HC9 := Lib.hid (Blk.belowAll (blkDrew Hbx8.out) hb9)
              clear Hbx8
              clear hb9
              go_simp
              refine hK.out _ _ (by exact aggCells HC9.out) (fun hS => ?_)
              clear hK K
              refine take_at 5 65 (v := ?_) rfl rfl (by kernel_rfl) (by kernel_rfl) (by kernel_rfl) (fun _ _ _ h => h) (by rfl) ?_ hS ?_
              rotate_left 1
              · (intro w hSw; (try dsimp only at hSw); (try go_split_ands); go_simp; try with_reducible rfl)
              simp only [List.setIfInBounds_toArray, List.set_cons_zero, List.set_cons_succ]
              refine take_at 6 71 (v := ?_) rfl rfl (by kernel_rfl) (by kernel_rfl) (by kernel_rfl) (fun _ _ _ h => h) (by rfl) ?_ hS ?_
              rotate_left 1
              · (intro w hSw; (try dsimp only at hSw); (try go_split_ands); go_simp; try with_reducible rfl)
              simp only [List.setIfInBounds_toArray, List.set_cons_zero, List.set_cons_succ]
              refine take_at 7 72 (v := ?_) rfl rfl (by kernel_rfl) (by kernel_rfl) (by kernel_rfl) (fun _ _ _ h => h) (by rfl) ?_ hS ?_
              rotate_left 1
              · (intro w hSw; (try dsimp only at hSw); (try go_split_ands); go_simp; try with_reducible rfl)
              simp only [List.setIfInBounds_toArray, List.set_cons_zero, List.set_cons_succ]
              refine wpAnyH_ready (rs := [8]) (by kernel_rfl) (by simp) ?_
              refine AllReadyH.cons rfl (fun K hK => ?_) (AllReadyH.nil)
              go_simp
              generalize hW : World.alloc _ _ = w10
              have hbx10 : Blk w10 w9.heap.size 24 (AggR.cells (⟨0, 0, 0⟩ : Fares.Sum)) := by rw [← hW]; exact Blk.new' (by simp)
              have hb10 : Below w9.heap.size w9 w10 := by rw [← hW]; exact bA (Below.refl _ _) _
              have hy10 : w9.heap.size < w10.heap.size := by rw [← hW]; simp
              clear hW
              have hz10 : w9.heap.size ≤ w10.heap.size := by have := hb10.size; (try simp at this); omega
              have Ha10 := Lib.hid (Blk.belowAll Ha9.out hb10)
              clear Ha9
              have HB10 := Lib.hid (bT HB9.out hb10)
              clear HB9
              have HB010 := Lib.hid (bT HB09.out hb10)
              clear HB09
              have Hb10 := Lib.hid (Blk.belowAll Hb9.out hb10)
              clear Hb9
              have HC10 := Lib.hid (Blk.belowAll HC9.out hb10)
              clear HC9
              clear hb10
              have Hbx10 := Lib.hid hbx10; clear hbx10
              obtain ⟨cD10_0, cD10_1, cD10_2⟩ := aggCells (t := 24) (v := (⟨0, 0, 0⟩ : Fares.Sum)) Hbx10.out
              have frD10_0 := (Hbx10.out).free 0
              have frD10_1 := (Hbx10.out).free 1
              have frD10_2 := (Hbx10.out).free 2
              refine hK.out _ _ (by exact aggCells HC10.out) (fun hS => ?_)
              clear hK K
              refine wpAnyH_ready (rs := [9]) (by kernel_rfl) (by simp) ?_
              refine AllReadyH.cons rfl (fun K hK => ?_) (AllReadyH.nil)
              go_simp
              generalize hW : World.setCell _ _ _ = w11
              have ht11 : Touch (fun i => i = w9.heap.size) w10 w11 := by rw [← hW]; exact (Touch.far (K := fun i => i = w9.heap.size) (Touch.far (K := fun i => i = w9.heap.size) (Touch.far (K := fun i => i = w9.heap.size) (Touch.refl _ _) (p := ⟨w9.heap.size, 0, none⟩) rfl _) (p := ⟨w9.heap.size, 1, none⟩) rfl _) (p := ⟨w9.heap.size, 2, none⟩) rfl _)
              have hbx11 : Blk w11 (w9.heap.size) 24 (AggR.cells (⟨s1, a1, t1⟩ : Fares.Sum)) := by rw [← hW]; exact (Blk.put (Blk.put (Blk.put Hbx10.out 0 (.int .i64 s1)) 1 (.int .i64 a1)) 2 (.int .i64 t1))
              clear hW
              clear cD10_0 cD10_1 cD10_2 frD10_0 frD10_1 frD10_2
              have hz11 : w10.heap.size ≤ w11.heap.size := by have := ht11.size; (try simp at this); omega
              have Ha11 := Lib.hid (Blk.touch Ha10.out ht11 (show ¬ (w0.heap.size = w9.heap.size) by omega))
              clear Ha10
              have HB11 := Lib.hid (Touch.below HB10.out ht11 (fun i hi => by omega))
              clear HB10
              have HB011 := Lib.hid (Touch.below HB010.out ht11 (fun i hi => by omega))
              clear HB010
              have Hb11 := Lib.hid (Blk.touch Hb10.out ht11 (show ¬ (w2.heap.size = w9.heap.size) by omega))
              clear Hb10
              have HC11 := Lib.hid (Blk.touch HC10.out ht11 (show ¬ (w6.heap.size = w9.heap.size) by omega))
              clear HC10
              clear ht11 Hbx10
              have Hbx11 := Lib.hid hbx11; clear hbx11
              refine hK.out _ _ (by exact aggCells HC11.out) (fun hS => ?_)
              clear hK K
              refine take_at 10 13 (v := ?_) rfl rfl (by kernel_rfl) (by kernel_rfl) (by kernel_rfl) (fun _ _ _ h => h) (by rfl) ?_ hS ?_
              rotate_left 1
              · (intro w hSw; (try dsimp only at hSw); (try go_split_ands); go_simp; try with_reducible rfl)
              simp only [List.setIfInBounds_toArray, List.set_cons_zero, List.set_cons_succ]
              refine wpAnyH_done (by kernel_rfl) ?_ _
              clear hS
              obtain ⟨cb11_0, cb11_1, cb11_2⟩ := aggCells (t := 24) (v := (⟨s1, a1, t1⟩ : Fares.Sum)) Hb11.out
              obtain ⟨cD11_0, cD11_1, cD11_2⟩ := aggCells (t := 24) (v := (⟨s1, a1, t1⟩ : Fares.Sum)) Hbx11.out
              have ltb11 : w2.heap.size < w11.heap.size := by omega
              have ltD11 : w9.heap.size < w11.heap.size := by omega
              dsimp only at cb11_0 cb11_1 cb11_2 cD11_0 cD11_1 cD11_2
              have W1 : IntKind.i64.wrap (mc + md) = m := by rw [hmm]; exact IntWalk.i64_in _ (by omega)
              have dm2 : (mc + md == m) = true := by rw [beq_iff_eq]; exact hmm
              have CV : Hid (∀ W, Limits W → Calls Tryd.prog 13 #[.agg #[.int .i64 s1, .int .i64 a1, .int .i64 t1]] W fun r w' => r = .returned (.bool true) ∧ Below W.heap.size W w') := fun W h => by
                have h2 := implValid_cells (⟨s1, a1, t1⟩ : Fares.Sum) W h
                rw [HVB.out] at h2
                exact h2
              go_wp2_with fail
              refine (CV.out _ (Limits.below HL.out HB11.out)).mono ?_
              rintro e w12 ⟨rfl, hb12⟩
              clear cb11_0 cb11_1 cb11_2 cD11_0 cD11_1 cD11_2 ltb11 ltD11
              have hz12 : w11.heap.size ≤ w12.heap.size := by have := hb12.size; (try simp at this); omega
              have Ha12 := Lib.hid (Blk.belowAll Ha11.out hb12)
              clear Ha11
              have HB12 := Lib.hid (bT HB11.out hb12)
              clear HB11
              have HB012 := Lib.hid (bT HB011.out hb12)
              clear HB011
              have Hb12 := Lib.hid (Blk.belowAll Hb11.out hb12)
              clear Hb11
              have HC12 := Lib.hid (Blk.belowAll HC11.out hb12)
              clear HC11
              have HD12 := Lib.hid (Blk.belowAll Hbx11.out hb12)
              clear Hbx11
              clear hb12
              go_wp2
              all_goals (go_ret; refine ⟨ret_bool ?_, HB12.out⟩; first | rfl | (simp; done))
            · go_simp
              generalize hW : World.alloc _ _ = w9
              have hbx9 : Blk w9 w8.heap.size 24 (AggR.cells (⟨0, 0, 0⟩ : Fares.Sum)) := by rw [← hW]; exact Blk.new' (by simp)
              have hb9 : Below w8.heap.size w8 w9 := by rw [← hW]; exact bA (Below.refl _ _) _
              have hy9 : w8.heap.size < w9.heap.size := by rw [← hW]; simp
              clear hW
              have hz9 : w8.heap.size ≤ w9.heap.size := by have := hb9.size; (try simp at this); omega
              have Ha9 := Lib.hid (Blk.belowAll Ha8.out hb9)
              clear Ha8
              have HB9 := Lib.hid (bT HB8.out hb9)
              clear HB8
              have HB09 := Lib.hid (bT HB08.out hb9)
              clear HB08
              have Hb9 := Lib.hid (Blk.belowAll Hb8.out hb9)
              clear Hb8
              have HC9 := Lib.hid (Blk.belowAll Hbx8.out hb9)
              clear Hbx8
              clear hb9
              have Hbx9 := Lib.hid hbx9; clear hbx9
              obtain ⟨cD9_0, cD9_1, cD9_2⟩ := aggCells (t := 24) (v := (⟨0, 0, 0⟩ : Fares.Sum)) (blkDrew Hbx9.out)
              have frD9_0 := ((blkDrew Hbx9.out)).free 0
              have frD9_1 := ((blkDrew Hbx9.out)).free 1
              have frD9_2 := ((blkDrew Hbx9.out)).free 2
              refine hK.out _ _ (by exact aggCells (blkDrew HC9.out)) (fun hS => ?_)
              clear hK K
              refine wpAnyH_ready (rs := [4]) (by kernel_rfl) (by simp) ?_
              refine AllReadyH.cons rfl (fun K hK => ?_) (AllReadyH.nil)
              go_simp
              (try (exfalso; omega))
              go_wp2_with fail
              refine (implRun_cells (⟨sc, ac, tc⟩ : Fares.Sum) (some ⟨g, hf * 2, none⟩) (l.length - hf) (cE - hf) (l.drop hf) s1 a1 t1 md HD.out _ (by have h := Events.drop ((HEv.out.below (bD1 HB09.out) (Nat.le_refl _)).more (Below.size (bD1 HB09.out))) hf f1; rw [Nat.zero_add] at h; exact h) (by simp) (by omega) (Limits.below HL.out (bD1 HB9.out)) (Steps.below HT.out (bD1 HB9.out))).mono ?_
              rintro e w10 ⟨rfl, hb10⟩
              clear cD9_0 cD9_1 cD9_2 frD9_0 frD9_1 frD9_2
              have hz10 : w9.heap.size ≤ w10.heap.size := by have := hb10.size; (try simp at this); omega
              have Ha10 := Lib.hid (Blk.belowAll (blkDrew Ha9.out) hb10)
              clear Ha9
              have HB10 := Lib.hid (bT (bD1 HB9.out) hb10)
              clear HB9
              have HB010 := Lib.hid (bT (bD1 HB09.out) hb10)
              clear HB09
              have Hb10 := Lib.hid (Blk.belowAll (blkDrew Hb9.out) hb10)
              clear Hb9
              have HC10 := Lib.hid (Blk.belowAll (blkDrew HC9.out) hb10)
              clear HC9
              have HD10 := Lib.hid (Blk.belowAll (blkDrew Hbx9.out) hb10)
              clear Hbx9
              clear hb10
              obtain ⟨cD10_0, cD10_1, cD10_2⟩ := aggCells (t := 24) (v := (⟨0, 0, 0⟩ : Fares.Sum)) HD10.out
              have frD10_0 := (HD10.out).free 0
              have frD10_1 := (HD10.out).free 1
              have frD10_2 := (HD10.out).free 2
              go_simp
              refine hK.out _ _ (by exact aggCells HC10.out) (fun hS => ?_)
              clear hK K
              refine take_at 5 65 (v := ?_) rfl rfl (by kernel_rfl) (by kernel_rfl) (by kernel_rfl) (fun _ _ _ h => h) (by rfl) ?_ hS ?_
              rotate_left 1
              · (intro w hSw; (try dsimp only at hSw); (try go_split_ands); go_simp; try with_reducible rfl)
              simp only [List.setIfInBounds_toArray, List.set_cons_zero, List.set_cons_succ]
              refine take_at 6 71 (v := ?_) rfl rfl (by kernel_rfl) (by kernel_rfl) (by kernel_rfl) (fun _ _ _ h => h) (by rfl) ?_ hS ?_
              rotate_left 1
              · (intro w hSw; (try dsimp only at hSw); (try go_split_ands); go_simp; try with_reducible rfl)
              simp only [List.setIfInBounds_toArray, List.set_cons_zero, List.set_cons_succ]
              refine take_at 7 72 (v := ?_) rfl rfl (by kernel_rfl) (by kernel_rfl) (by kernel_rfl) (fun _ _ _ h => h) (by rfl) ?_ hS ?_
              rotate_left 1
              · (intro w hSw; (try dsimp only at hSw); (try go_split_ands); go_simp; try with_reducible rfl)
              simp only [List.setIfInBounds_toArray, List.set_cons_zero, List.set_cons_succ]
              refine wpAnyH_ready (rs := [9]) (by kernel_rfl) (by simp) ?_
              refine AllReadyH.cons rfl (fun K hK => ?_) (AllReadyH.nil)
              go_simp
              generalize hW : World.setCell _ _ _ = w11
              have ht11 : Touch (fun i => i = w8.heap.size) w10 w11 := by rw [← hW]; exact (Touch.far (K := fun i => i = w8.heap.size) (Touch.far (K := fun i => i = w8.heap.size) (Touch.far (K := fun i => i = w8.heap.size) (Touch.refl _ _) (p := ⟨w8.heap.size, 0, none⟩) rfl _) (p := ⟨w8.heap.size, 1, none⟩) rfl _) (p := ⟨w8.heap.size, 2, none⟩) rfl _)
              have hbx11 : Blk w11 (w8.heap.size) 24 (AggR.cells (⟨s1, a1, t1⟩ : Fares.Sum)) := by rw [← hW]; exact (Blk.put (Blk.put (Blk.put HD10.out 0 (.int .i64 s1)) 1 (.int .i64 a1)) 2 (.int .i64 t1))
              clear hW
              clear cD10_0 cD10_1 cD10_2 frD10_0 frD10_1 frD10_2
              have hz11 : w10.heap.size ≤ w11.heap.size := by have := ht11.size; (try simp at this); omega
              have Ha11 := Lib.hid (Blk.touch Ha10.out ht11 (show ¬ (w0.heap.size = w8.heap.size) by omega))
              clear Ha10
              have HB11 := Lib.hid (Touch.below HB10.out ht11 (fun i hi => by omega))
              clear HB10
              have HB011 := Lib.hid (Touch.below HB010.out ht11 (fun i hi => by omega))
              clear HB010
              have Hb11 := Lib.hid (Blk.touch Hb10.out ht11 (show ¬ (w2.heap.size = w8.heap.size) by omega))
              clear Hb10
              have HC11 := Lib.hid (Blk.touch HC10.out ht11 (show ¬ (w6.heap.size = w8.heap.size) by omega))
              clear HC10
              clear ht11 HD10
              have Hbx11 := Lib.hid hbx11; clear hbx11
              refine hK.out _ _ (by exact aggCells HC11.out) (fun hS => ?_)
              clear hK K
              refine take_at 10 13 (v := ?_) rfl rfl (by kernel_rfl) (by kernel_rfl) (by kernel_rfl) (fun _ _ _ h => h) (by rfl) ?_ hS ?_
              rotate_left 1
              · (intro w hSw; (try dsimp only at hSw); (try go_split_ands); go_simp; try with_reducible rfl)
              simp only [List.setIfInBounds_toArray, List.set_cons_zero, List.set_cons_succ]
              refine wpAnyH_done (by kernel_rfl) ?_ _
              clear hS
              obtain ⟨cb11_0, cb11_1, cb11_2⟩ := aggCells (t := 24) (v := (⟨s1, a1, t1⟩ : Fares.Sum)) Hb11.out
              obtain ⟨cD11_0, cD11_1, cD11_2⟩ := aggCells (t := 24) (v := (⟨s1, a1, t1⟩ : Fares.Sum)) Hbx11.out
              have ltb11 : w2.heap.size < w11.heap.size := by omega
              have ltD11 : w8.heap.size < w11.heap.size := by omega
              dsimp only at cb11_0 cb11_1 cb11_2 cD11_0 cD11_1 cD11_2
              have W1 : IntKind.i64.wrap (mc + md) = m := by rw [hmm]; exact IntWalk.i64_in _ (by omega)
              have dm2 : (mc + md == m) = true := by rw [beq_iff_eq]; exact hmm
              have CV : Hid (∀ W, Limits W → Calls Tryd.prog 13 #[.agg #[.int .i64 s1, .int .i64 a1, .int .i64 t1]] W fun r w' => r = .returned (.bool true) ∧ Below W.heap.size W w') := fun W h => by
                have h2 := implValid_cells (⟨s1, a1, t1⟩ : Fares.Sum) W h
                rw [HVB.out] at h2
                exact h2
              go_wp2_with fail
              refine (CV.out _ (Limits.below HL.out HB11.out)).mono ?_
              rintro e w12 ⟨rfl, hb12⟩
              clear cb11_0 cb11_1 cb11_2 cD11_0 cD11_1 cD11_2 ltb11 ltD11
              have hz12 : w11.heap.size ≤ w12.heap.size := by have := hb12.size; (try simp at this); omega
              have Ha12 := Lib.hid (Blk.belowAll Ha11.out hb12)
              clear Ha11
              have HB12 := Lib.hid (bT HB11.out hb12)
              clear HB11
              have HB012 := Lib.hid (bT HB011.out hb12)
              clear HB011
              have Hb12 := Lib.hid (Blk.belowAll Hb11.out hb12)
              clear Hb11
              have HC12 := Lib.hid (Blk.belowAll HC11.out hb12)
              clear HC11
              have HD12 := Lib.hid (Blk.belowAll Hbx11.out hb12)
              clear Hbx11
              clear hb12
              go_wp2
              all_goals (go_ret; refine ⟨ret_bool ?_, HB12.out⟩; first | rfl | (simp; done))
          · go_simp
            generalize hW : World.alloc _ _ = w6
            have hbx6 : Blk w6 w5.heap.size 24 (AggR.cells (⟨0, 0, 0⟩ : Fares.Sum)) := by rw [← hW]; exact Blk.new' (by simp)
            have hb6 : Below w5.heap.size w5 w6 := by rw [← hW]; exact bA (Below.refl _ _) _
            have hy6 : w5.heap.size < w6.heap.size := by rw [← hW]; simp
            clear hW
            have hz6 : w5.heap.size ≤ w6.heap.size := by have := hb6.size; (try simp at this); omega
            have Ha6 := Lib.hid (Blk.belowAll Ha5.out hb6)
            clear Ha5
            have HB6 := Lib.hid (bT HB5.out hb6)
            clear HB5
            have HB06 := Lib.hid (bT HB05.out hb6)
            clear HB05
            have Hb6 := Lib.hid (Blk.belowAll Hb5.out hb6)
            clear Hb5
            clear hb6
            have Hbx6 := Lib.hid hbx6; clear hbx6
            obtain ⟨cC6_0, cC6_1, cC6_2⟩ := aggCells (t := 24) (v := (⟨0, 0, 0⟩ : Fares.Sum)) (blkDrew Hbx6.out)
            have frC6_0 := ((blkDrew Hbx6.out)).free 0
            have frC6_1 := ((blkDrew Hbx6.out)).free 1
            have frC6_2 := ((blkDrew Hbx6.out)).free 2
            refine hK.out _ _ (by exact aggCells (blkDrew Ha6.out)) (fun hS => ?_)
            clear hK K
            refine wpAnyH_ready (rs := [4]) (by kernel_rfl) (by simp) ?_
            refine AllReadyH.cons rfl (fun K hK => ?_) (AllReadyH.nil)
            go_simp
            go_wp2_with fail
            refine (implRun_cells x (some ⟨g, 0, none⟩) hf cE (l.take hf) sc ac tc mc HC.out _ (Events.take ((HEv.out.below (bD1 HB06.out) (Nat.le_refl _)).more (Below.size (bD1 HB06.out))) hf) (by rw [List.length_take]; omega) (by omega) (Limits.below HL.out (bD1 HB6.out)) (Steps.below HT.out (bD1 HB6.out))).mono ?_
            rintro e w7 ⟨rfl, hb7⟩
            clear cC6_0 cC6_1 cC6_2 frC6_0 frC6_1 frC6_2
            have hz7 : w6.heap.size ≤ w7.heap.size := by have := hb7.size; (try simp at this); omega
            have Ha7 := Lib.hid (Blk.belowAll (blkDrew Ha6.out) hb7)
            clear Ha6
            have HB7 := Lib.hid (bT (bD1 HB6.out) hb7)
            clear HB6
            have HB07 := Lib.hid (bT (bD1 HB06.out) hb7)
            clear HB06
            have Hb7 := Lib.hid (Blk.belowAll (blkDrew Hb6.out) hb7)
            clear Hb6
            have HC7 := Lib.hid (Blk.belowAll (blkDrew Hbx6.out) hb7)
            clear Hbx6
            clear hb7
            obtain ⟨cC7_0, cC7_1, cC7_2⟩ := aggCells (t := 24) (v := (⟨0, 0, 0⟩ : Fares.Sum)) HC7.out
            have frC7_0 := (HC7.out).free 0
            have frC7_1 := (HC7.out).free 1
            have frC7_2 := (HC7.out).free 2
            go_simp
            refine hK.out _ _ (by exact aggCells Ha7.out) (fun hS => ?_)
            clear hK K
            refine take_at 5 57 (v := ?_) rfl rfl (by kernel_rfl) (by kernel_rfl) (by kernel_rfl) (fun _ _ _ h => h) (by rfl) ?_ hS ?_
            rotate_left 1
            · (intro w hSw; (try dsimp only at hSw); (try go_split_ands); go_simp; try with_reducible rfl)
            simp only [List.setIfInBounds_toArray, List.set_cons_zero, List.set_cons_succ]
            refine take_at 6 63 (v := ?_) rfl rfl (by kernel_rfl) (by kernel_rfl) (by kernel_rfl) (fun _ _ _ h => h) (by rfl) ?_ hS ?_
            rotate_left 1
            · (intro w hSw; (try dsimp only at hSw); (try go_split_ands); go_simp; try with_reducible rfl)
            simp only [List.setIfInBounds_toArray, List.set_cons_zero, List.set_cons_succ]
            refine take_at 7 64 (v := ?_) rfl rfl (by kernel_rfl) (by kernel_rfl) (by kernel_rfl) (fun _ _ _ h => h) (by rfl) ?_ hS ?_
            rotate_left 1
            · (intro w hSw; (try dsimp only at hSw); (try go_split_ands); go_simp; try with_reducible rfl)
            simp only [List.setIfInBounds_toArray, List.set_cons_zero, List.set_cons_succ]
            refine wpAnyH_ready (rs := [9]) (by kernel_rfl) (by simp) ?_
            refine AllReadyH.cons rfl (fun K hK => ?_) (AllReadyH.nil)
            go_simp
            generalize hW : World.setCell _ _ _ = w8
            have ht8 : Touch (fun i => i = w5.heap.size) w7 w8 := by rw [← hW]; exact (Touch.far (K := fun i => i = w5.heap.size) (Touch.far (K := fun i => i = w5.heap.size) (Touch.far (K := fun i => i = w5.heap.size) (Touch.refl _ _) (p := ⟨w5.heap.size, 0, none⟩) rfl _) (p := ⟨w5.heap.size, 1, none⟩) rfl _) (p := ⟨w5.heap.size, 2, none⟩) rfl _)
            have hbx8 : Blk w8 (w5.heap.size) 24 (AggR.cells (⟨sc, ac, tc⟩ : Fares.Sum)) := by rw [← hW]; exact (Blk.put (Blk.put (Blk.put HC7.out 0 (.int .i64 sc)) 1 (.int .i64 ac)) 2 (.int .i64 tc))
            clear hW
            clear cC7_0 cC7_1 cC7_2 frC7_0 frC7_1 frC7_2
            have hz8 : w7.heap.size ≤ w8.heap.size := by have := ht8.size; (try simp at this); omega
            have Ha8 := Lib.hid (Blk.touch Ha7.out ht8 (show ¬ (w0.heap.size = w5.heap.size) by omega))
            clear Ha7
            have HB8 := Lib.hid (Touch.below HB7.out ht8 (fun i hi => by omega))
            clear HB7
            have HB08 := Lib.hid (Touch.below HB07.out ht8 (fun i hi => by omega))
            clear HB07
            have Hb8 := Lib.hid (Blk.touch Hb7.out ht8 (show ¬ (w2.heap.size = w5.heap.size) by omega))
            clear Hb7
            clear ht8 HC7
            have Hbx8 := Lib.hid hbx8; clear hbx8
            refine hK.out _ _ (by exact aggCells Ha8.out) (fun hS => ?_)
            clear hK K
            refine take_at 10 11 (v := ?_) rfl rfl (by kernel_rfl) (by kernel_rfl) (by kernel_rfl) (fun _ _ _ h => h) (by rfl) ?_ hS ?_
            rotate_left 1
            · (intro w hSw; (try dsimp only at hSw); (try go_split_ands); go_simp; try with_reducible rfl)
            simp only [List.setIfInBounds_toArray, List.set_cons_zero, List.set_cons_succ]
            refine wpAnyH_done (by kernel_rfl) ?_ _
            clear hS
            go_wp2
            refine wp_region_held_drew (S := fun w' => w'.cell? ⟨w5.heap.size, 0, none⟩ = some (.int .i64 sc) ∧ w'.cell? ⟨w5.heap.size, 1, none⟩ = some (.int .i64 ac) ∧ w'.cell? ⟨w5.heap.size, 2, none⟩ = some (.int .i64 tc)) (by kernel_rfl) (by exact aggCells Hbx8.out) (fun hS => ?_)
            refine take_at 0 66 (v := ?_) rfl rfl (by kernel_rfl) (by kernel_rfl) (by kernel_rfl) (fun _ _ _ h => h) (by rfl) ?_ hS ?_
            rotate_left 1
            · (intro w hSw; (try dsimp only at hSw); (try go_split_ands); go_simp; try with_reducible rfl)
            simp only [List.setIfInBounds_toArray, List.set_cons_zero, List.set_cons_succ]
            refine take_at 1 67 (v := ?_) rfl rfl (by kernel_rfl) (by kernel_rfl) (by kernel_rfl) (fun _ _ _ h => h) (by rfl) ?_ hS ?_
            rotate_left 1
            · (intro w hSw; (try dsimp only at hSw); (try go_split_ands); go_simp; try with_reducible rfl)
            simp only [List.setIfInBounds_toArray, List.set_cons_zero, List.set_cons_succ]
            refine take_at 2 68 (v := ?_) rfl rfl (by kernel_rfl) (by kernel_rfl) (by kernel_rfl) (fun _ _ _ h => h) (by rfl) ?_ hS ?_
            rotate_left 1
            · (intro w hSw; (try dsimp only at hSw); (try go_split_ands); go_simp; try with_reducible rfl)
            simp only [List.setIfInBounds_toArray, List.set_cons_zero, List.set_cons_succ]
            refine take_at 3 69 (v := ?_) rfl rfl (by kernel_rfl) (by kernel_rfl) (by kernel_rfl) (fun _ _ _ h => h) (by rfl) ?_ hS ?_
            rotate_left 1
            · (intro w hSw; (try dsimp only at hSw); (try go_split_ands); go_simp; try with_reducible rfl)
            simp only [List.setIfInBounds_toArray, List.set_cons_zero, List.set_cons_succ]
            refine wpAnyH_ready (rs := [4, 8]) (by kernel_rfl) (by simp) ?_
            refine AllReadyH.cons rfl (fun K hK => ?_) (AllReadyH.cons rfl (fun K hK => ?_) (AllReadyH.nil))
            · go_simp
              (try (exfalso; omega))
              go_wp2_with fail
              refine (implRun_cells (⟨sc, ac, tc⟩ : Fares.Sum) (some ⟨g, hf * 2, none⟩) (l.length - hf) (cE - hf) (l.drop hf) s1 a1 t1 md HD.out _ (by have h := Events.drop ((HEv.out.below (bD1 HB08.out) (Nat.le_refl _)).more (Below.size (bD1 HB08.out))) hf f1; rw [Nat.zero_add] at h; exact h) (by simp) (by omega) (Limits.below HL.out (bD1 HB8.out)) (Steps.below HT.out (bD1 HB8.out))).mono ?_
              rintro e w9 ⟨rfl, hb9⟩
              have hz9 : w8.heap.size ≤ w9.heap.size := by have := hb9.size; (try simp at this); omega
              have Ha9 := Lib.hid (Blk.belowAll (blkDrew Ha8.out) hb9)
              clear Ha8
              have HB9 := Lib.hid (bT (bD1 HB8.out) hb9)
              clear HB8
              have HB09 := Lib.hid (bT (bD1 HB08.out) hb9)
              clear HB08
              have Hb9 := Lib.hid (Blk.belowAll (blkDrew Hb8.out) hb9)
              clear Hb8
              have HC9 := Lib.hid (Blk.belowAll (blkDrew Hbx8.out) hb9)
              clear Hbx8
              clear hb9
              go_simp
              refine hK.out _ _ (by exact aggCells HC9.out) (fun hS => ?_)
              clear hK K
              refine take_at 5 65 (v := ?_) rfl rfl (by kernel_rfl) (by kernel_rfl) (by kernel_rfl) (fun _ _ _ h => h) (by rfl) ?_ hS ?_
              rotate_left 1
              · (intro w hSw; (try dsimp only at hSw); (try go_split_ands); go_simp; try with_reducible rfl)
              simp only [List.setIfInBounds_toArray, List.set_cons_zero, List.set_cons_succ]
              refine take_at 6 71 (v := ?_) rfl rfl (by kernel_rfl) (by kernel_rfl) (by kernel_rfl) (fun _ _ _ h => h) (by rfl) ?_ hS ?_
              rotate_left 1
              · (intro w hSw; (try dsimp only at hSw); (try go_split_ands); go_simp; try with_reducible rfl)
              simp only [List.setIfInBounds_toArray, List.set_cons_zero, List.set_cons_succ]
              refine take_at 7 72 (v := ?_) rfl rfl (by kernel_rfl) (by kernel_rfl) (by kernel_rfl) (fun _ _ _ h => h) (by rfl) ?_ hS ?_
              rotate_left 1
              · (intro w hSw; (try dsimp only at hSw); (try go_split_ands); go_simp; try with_reducible rfl)
              simp only [List.setIfInBounds_toArray, List.set_cons_zero, List.set_cons_succ]
              refine wpAnyH_ready (rs := [8]) (by kernel_rfl) (by simp) ?_
              refine AllReadyH.cons rfl (fun K hK => ?_) (AllReadyH.nil)
              go_simp
              generalize hW : World.alloc _ _ = w10
              have hbx10 : Blk w10 w9.heap.size 24 (AggR.cells (⟨0, 0, 0⟩ : Fares.Sum)) := by rw [← hW]; exact Blk.new' (by simp)
              have hb10 : Below w9.heap.size w9 w10 := by rw [← hW]; exact bA (Below.refl _ _) _
              have hy10 : w9.heap.size < w10.heap.size := by rw [← hW]; simp
              clear hW
              have hz10 : w9.heap.size ≤ w10.heap.size := by have := hb10.size; (try simp at this); omega
              have Ha10 := Lib.hid (Blk.belowAll Ha9.out hb10)
              clear Ha9
              have HB10 := Lib.hid (bT HB9.out hb10)
              clear HB9
              have HB010 := Lib.hid (bT HB09.out hb10)
              clear HB09
              have Hb10 := Lib.hid (Blk.belowAll Hb9.out hb10)
              clear Hb9
              have HC10 := Lib.hid (Blk.belowAll HC9.out hb10)
              clear HC9
              clear hb10
              have Hbx10 := Lib.hid hbx10; clear hbx10
              obtain ⟨cD10_0, cD10_1, cD10_2⟩ := aggCells (t := 24) (v := (⟨0, 0, 0⟩ : Fares.Sum)) Hbx10.out
              have frD10_0 := (Hbx10.out).free 0
              have frD10_1 := (Hbx10.out).free 1
              have frD10_2 := (Hbx10.out).free 2
              refine hK.out _ _ (by exact aggCells HC10.out) (fun hS => ?_)
              clear hK K
              refine wpAnyH_ready (rs := [9]) (by kernel_rfl) (by simp) ?_
              refine AllReadyH.cons rfl (fun K hK => ?_) (AllReadyH.nil)
              go_simp
              generalize hW : World.setCell _ _ _ = w11
              have ht11 : Touch (fun i => i = w9.heap.size) w10 w11 := by rw [← hW]; exact (Touch.far (K := fun i => i = w9.heap.size) (Touch.far (K := fun i => i = w9.heap.size) (Touch.far (K := fun i => i = w9.heap.size) (Touch.refl _ _) (p := ⟨w9.heap.size, 0, none⟩) rfl _) (p := ⟨w9.heap.size, 1, none⟩) rfl _) (p := ⟨w9.heap.size, 2, none⟩) rfl _)
              have hbx11 : Blk w11 (w9.heap.size) 24 (AggR.cells (⟨s1, a1, t1⟩ : Fares.Sum)) := by rw [← hW]; exact (Blk.put (Blk.put (Blk.put Hbx10.out 0 (.int .i64 s1)) 1 (.int .i64 a1)) 2 (.int .i64 t1))
              clear hW
              clear cD10_0 cD10_1 cD10_2 frD10_0 frD10_1 frD10_2
              have hz11 : w10.heap.size ≤ w11.heap.size := by have := ht11.size; (try simp at this); omega
              have Ha11 := Lib.hid (Blk.touch Ha10.out ht11 (show ¬ (w0.heap.size = w9.heap.size) by omega))
              clear Ha10
              have HB11 := Lib.hid (Touch.below HB10.out ht11 (fun i hi => by omega))
              clear HB10
              have HB011 := Lib.hid (Touch.below HB010.out ht11 (fun i hi => by omega))
              clear HB010
              have Hb11 := Lib.hid (Blk.touch Hb10.out ht11 (show ¬ (w2.heap.size = w9.heap.size) by omega))
              clear Hb10
              have HC11 := Lib.hid (Blk.touch HC10.out ht11 (show ¬ (w5.heap.size = w9.heap.size) by omega))
              clear HC10
              clear ht11 Hbx10
              have Hbx11 := Lib.hid hbx11; clear hbx11
              refine hK.out _ _ (by exact aggCells HC11.out) (fun hS => ?_)
              clear hK K
              refine take_at 10 13 (v := ?_) rfl rfl (by kernel_rfl) (by kernel_rfl) (by kernel_rfl) (fun _ _ _ h => h) (by rfl) ?_ hS ?_
              rotate_left 1
              · (intro w hSw; (try dsimp only at hSw); (try go_split_ands); go_simp; try with_reducible rfl)
              simp only [List.setIfInBounds_toArray, List.set_cons_zero, List.set_cons_succ]
              refine wpAnyH_done (by kernel_rfl) ?_ _
              clear hS
              obtain ⟨cb11_0, cb11_1, cb11_2⟩ := aggCells (t := 24) (v := (⟨s1, a1, t1⟩ : Fares.Sum)) Hb11.out
              obtain ⟨cD11_0, cD11_1, cD11_2⟩ := aggCells (t := 24) (v := (⟨s1, a1, t1⟩ : Fares.Sum)) Hbx11.out
              have ltb11 : w2.heap.size < w11.heap.size := by omega
              have ltD11 : w9.heap.size < w11.heap.size := by omega
              dsimp only at cb11_0 cb11_1 cb11_2 cD11_0 cD11_1 cD11_2
              have W1 : IntKind.i64.wrap (mc + md) = m := by rw [hmm]; exact IntWalk.i64_in _ (by omega)
              have dm2 : (mc + md == m) = true := by rw [beq_iff_eq]; exact hmm
              have CV : Hid (∀ W, Limits W → Calls Tryd.prog 13 #[.agg #[.int .i64 s1, .int .i64 a1, .int .i64 t1]] W fun r w' => r = .returned (.bool true) ∧ Below W.heap.size W w') := fun W h => by
                have h2 := implValid_cells (⟨s1, a1, t1⟩ : Fares.Sum) W h
                rw [HVB.out] at h2
                exact h2
              go_wp2_with fail
              refine (CV.out _ (Limits.below HL.out HB11.out)).mono ?_
              rintro e w12 ⟨rfl, hb12⟩
              clear cb11_0 cb11_1 cb11_2 cD11_0 cD11_1 cD11_2 ltb11 ltD11
              have hz12 : w11.heap.size ≤ w12.heap.size := by have := hb12.size; (try simp at this); omega
              have Ha12 := Lib.hid (Blk.belowAll Ha11.out hb12)
              clear Ha11
              have HB12 := Lib.hid (bT HB11.out hb12)
              clear HB11
              have HB012 := Lib.hid (bT HB011.out hb12)
              clear HB011
              have Hb12 := Lib.hid (Blk.belowAll Hb11.out hb12)
              clear Hb11
              have HC12 := Lib.hid (Blk.belowAll HC11.out hb12)
              clear HC11
              have HD12 := Lib.hid (Blk.belowAll Hbx11.out hb12)
              clear Hbx11
              clear hb12
              go_wp2
              all_goals (go_ret; refine ⟨ret_bool ?_, HB12.out⟩; first | rfl | (simp; done))
            · go_simp
              generalize hW : World.alloc _ _ = w9
              have hbx9 : Blk w9 w8.heap.size 24 (AggR.cells (⟨0, 0, 0⟩ : Fares.Sum)) := by rw [← hW]; exact Blk.new' (by simp)
              have hb9 : Below w8.heap.size w8 w9 := by rw [← hW]; exact bA (Below.refl _ _) _
              have hy9 : w8.heap.size < w9.heap.size := by rw [← hW]; simp
              clear hW
              have hz9 : w8.heap.size ≤ w9.heap.size := by have := hb9.size; (try simp at this); omega
              have Ha9 := Lib.hid (Blk.belowAll Ha8.out hb9)
              clear Ha8
              have HB9 := Lib.hid (bT HB8.out hb9)
              clear HB8
              have HB09 := Lib.hid (bT HB08.out hb9)
              clear HB08
              have Hb9 := Lib.hid (Blk.belowAll Hb8.out hb9)
              clear Hb8
              have HC9 := Lib.hid (Blk.belowAll Hbx8.out hb9)
              clear Hbx8
              clear hb9
              have Hbx9 := Lib.hid hbx9; clear hbx9
              obtain ⟨cD9_0, cD9_1, cD9_2⟩ := aggCells (t := 24) (v := (⟨0, 0, 0⟩ : Fares.Sum)) (blkDrew Hbx9.out)
              have frD9_0 := ((blkDrew Hbx9.out)).free 0
              have frD9_1 := ((blkDrew Hbx9.out)).free 1
              have frD9_2 := ((blkDrew Hbx9.out)).free 2
              refine hK.out _ _ (by exact aggCells (blkDrew HC9.out)) (fun hS => ?_)
              clear hK K
              refine wpAnyH_ready (rs := [4]) (by kernel_rfl) (by simp) ?_
              refine AllReadyH.cons rfl (fun K hK => ?_) (AllReadyH.nil)
              go_simp
              (try (exfalso; omega))
              go_wp2_with fail
              refine (implRun_cells (⟨sc, ac, tc⟩ : Fares.Sum) (some ⟨g, hf * 2, none⟩) (l.length - hf) (cE - hf) (l.drop hf) s1 a1 t1 md HD.out _ (by have h := Events.drop ((HEv.out.below (bD1 HB09.out) (Nat.le_refl _)).more (Below.size (bD1 HB09.out))) hf f1; rw [Nat.zero_add] at h; exact h) (by simp) (by omega) (Limits.below HL.out (bD1 HB9.out)) (Steps.below HT.out (bD1 HB9.out))).mono ?_
              rintro e w10 ⟨rfl, hb10⟩
              clear cD9_0 cD9_1 cD9_2 frD9_0 frD9_1 frD9_2
              have hz10 : w9.heap.size ≤ w10.heap.size := by have := hb10.size; (try simp at this); omega
              have Ha10 := Lib.hid (Blk.belowAll (blkDrew Ha9.out) hb10)
              clear Ha9
              have HB10 := Lib.hid (bT (bD1 HB9.out) hb10)
              clear HB9
              have HB010 := Lib.hid (bT (bD1 HB09.out) hb10)
              clear HB09
              have Hb10 := Lib.hid (Blk.belowAll (blkDrew Hb9.out) hb10)
              clear Hb9
              have HC10 := Lib.hid (Blk.belowAll (blkDrew HC9.out) hb10)
              clear HC9
              have HD10 := Lib.hid (Blk.belowAll (blkDrew Hbx9.out) hb10)
              clear Hbx9
              clear hb10
              obtain ⟨cD10_0, cD10_1, cD10_2⟩ := aggCells (t := 24) (v := (⟨0, 0, 0⟩ : Fares.Sum)) HD10.out
              have frD10_0 := (HD10.out).free 0
              have frD10_1 := (HD10.out).free 1
              have frD10_2 := (HD10.out).free 2
              go_simp
              refine hK.out _ _ (by exact aggCells HC10.out) (fun hS => ?_)
              clear hK K
              refine take_at 5 65 (v := ?_) rfl rfl (by kernel_rfl) (by kernel_rfl) (by kernel_rfl) (fun _ _ _ h => h) (by rfl) ?_ hS ?_
              rotate_left 1
              · (intro w hSw; (try dsimp only at hSw); (try go_split_ands); go_simp; try with_reducible rfl)
              simp only [List.setIfInBounds_toArray, List.set_cons_zero, List.set_cons_succ]
              refine take_at 6 71 (v := ?_) rfl rfl (by kernel_rfl) (by kernel_rfl) (by kernel_rfl) (fun _ _ _ h => h) (by rfl) ?_ hS ?_
              rotate_left 1
              · (intro w hSw; (try dsimp only at hSw); (try go_split_ands); go_simp; try with_reducible rfl)
              simp only [List.setIfInBounds_toArray, List.set_cons_zero, List.set_cons_succ]
              refine take_at 7 72 (v := ?_) rfl rfl (by kernel_rfl) (by kernel_rfl) (by kernel_rfl) (fun _ _ _ h => h) (by rfl) ?_ hS ?_
              rotate_left 1
              · (intro w hSw; (try dsimp only at hSw); (try go_split_ands); go_simp; try with_reducible rfl)
              simp only [List.setIfInBounds_toArray, List.set_cons_zero, List.set_cons_succ]
              refine wpAnyH_ready (rs := [9]) (by kernel_rfl) (by simp) ?_
              refine AllReadyH.cons rfl (fun K hK => ?_) (AllReadyH.nil)
              go_simp
              generalize hW : World.setCell _ _ _ = w11
              have ht11 : Touch (fun i => i = w8.heap.size) w10 w11 := by rw [← hW]; exact (Touch.far (K := fun i => i = w8.heap.size) (Touch.far (K := fun i => i = w8.heap.size) (Touch.far (K := fun i => i = w8.heap.size) (Touch.refl _ _) (p := ⟨w8.heap.size, 0, none⟩) rfl _) (p := ⟨w8.heap.size, 1, none⟩) rfl _) (p := ⟨w8.heap.size, 2, none⟩) rfl _)
              have hbx11 : Blk w11 (w8.heap.size) 24 (AggR.cells (⟨s1, a1, t1⟩ : Fares.Sum)) := by rw [← hW]; exact (Blk.put (Blk.put (Blk.put HD10.out 0 (.int .i64 s1)) 1 (.int .i64 a1)) 2 (.int .i64 t1))
              clear hW
              clear cD10_0 cD10_1 cD10_2 frD10_0 frD10_1 frD10_2
              have hz11 : w10.heap.size ≤ w11.heap.size := by have := ht11.size; (try simp at this); omega
              have Ha11 := Lib.hid (Blk.touch Ha10.out ht11 (show ¬ (w0.heap.size = w8.heap.size) by omega))
              clear Ha10
              have HB11 := Lib.hid (Touch.below HB10.out ht11 (fun i hi => by omega))
              clear HB10
              have HB011 := Lib.hid (Touch.below HB010.out ht11 (fun i hi => by omega))
              clear HB010
              have Hb11 := Lib.hid (Blk.touch Hb10.out ht11 (show ¬ (w2.heap.size = w8.heap.size) by omega))
              clear Hb10
              have HC11 := Lib.hid (Blk.touch HC10.out ht11 (show ¬ (w5.heap.size = w8.heap.size) by omega))
              clear HC10
              clear ht11 HD10
              have Hbx11 := Lib.hid hbx11; clear hbx11
              refine hK.out _ _ (by exact aggCells HC11.out) (fun hS => ?_)
              clear hK K
              refine take_at 10 13 (v := ?_) rfl rfl (by kernel_rfl) (by kernel_rfl) (by kernel_rfl) (fun _ _ _ h => h) (by rfl) ?_ hS ?_
              rotate_left 1
              · (intro w hSw; (try dsimp only at hSw); (try go_split_ands); go_simp; try with_reducible rfl)
              simp only [List.setIfInBounds_toArray, List.set_cons_zero, List.set_cons_succ]
              refine wpAnyH_done (by kernel_rfl) ?_ _
              clear hS
              obtain ⟨cb11_0, cb11_1, cb11_2⟩ := aggCells (t := 24) (v := (⟨s1, a1, t1⟩ : Fares.Sum)) Hb11.out
              obtain ⟨cD11_0, cD11_1, cD11_2⟩ := aggCells (t := 24) (v := (⟨s1, a1, t1⟩ : Fares.Sum)) Hbx11.out
              have ltb11 : w2.heap.size < w11.heap.size := by omega
              have ltD11 : w8.heap.size < w11.heap.size := by omega
              dsimp only at cb11_0 cb11_1 cb11_2 cD11_0 cD11_1 cD11_2
              have W1 : IntKind.i64.wrap (mc + md) = m := by rw [hmm]; exact IntWalk.i64_in _ (by omega)
              have dm2 : (mc + md == m) = true := by rw [beq_iff_eq]; exact hmm
              have CV : Hid (∀ W, Limits W → Calls Tryd.prog 13 #[.agg #[.int .i64 s1, .int .i64 a1, .int .i64 t1]] W fun r w' => r = .returned (.bool true) ∧ Below W.heap.size W w') := fun W h => by
                have h2 := implValid_cells (⟨s1, a1, t1⟩ : Fares.Sum) W h
                rw [HVB.out] at h2
                exact h2
              go_wp2_with fail
              refine (CV.out _ (Limits.below HL.out HB11.out)).mono ?_
              rintro e w12 ⟨rfl, hb12⟩
              clear cb11_0 cb11_1 cb11_2 cD11_0 cD11_1 cD11_2 ltb11 ltD11
              have hz12 : w11.heap.size ≤ w12.heap.size := by have := hb12.size; (try simp at this); omega
              have Ha12 := Lib.hid (Blk.belowAll Ha11.out hb12)
              clear Ha11
              have HB12 := Lib.hid (bT HB11.out hb12)
              clear HB11
              have HB012 := Lib.hid (bT HB011.out hb12)
              clear HB011
              have Hb12 := Lib.hid (Blk.belowAll Hb11.out hb12)
              clear Hb11
              have HC12 := Lib.hid (Blk.belowAll HC11.out hb12)
              clear HC11
              have HD12 := Lib.hid (Blk.belowAll Hbx11.out hb12)
              clear Hbx11
              clear hb12
              go_wp2
              all_goals (go_ret; refine ⟨ret_bool ?_, HB12.out⟩; first | rfl | (simp; done))

theorem contract (H : Type) (enc : TypeId × Value → H) (W : World) (base : Nat) (args : Array Value) (ds gs : List (DataW H)) (before : List MemPlace)
    (hval : ∀ (j : Nat) t v, Tryd.f4.params[j]? = some t → args[j]? = some v → Value.okWide Tryd.prog W .any base t v)
    (hW : DataW.Whole enc Tryd.prog Tryd.f4.params.toList Rows.fnRunEventsSpec.vars false W args.toList ds gs before) (hL : laidMetH Tryd.prog Rows.fnRunEventsRow.laid W) :
    Calls Tryd.prog 4 args W fun e W' => ∃ v, e = .returned v ∧ Rows.fnRunEventsSpec.post enc Tryd.prog Tryd.f4 false true false false W args v W' := by
  have hL0 : laidMet Tryd.prog [("loop.example/transitfares/impl.stateLimits", Rows.laid_loop_example_transitfares_impl_stateLimits), ("loop.example/transitfares/impl.sumSteps", Rows.laid_loop_example_transitfares_impl_sumSteps)] W := by
    have h : laidMetH Tryd.prog [("loop.example/transitfares/impl.stateLimits", Rows.laid_loop_example_transitfares_impl_stateLimits), ("loop.example/transitfares/impl.sumSteps", Rows.laid_loop_example_transitfares_impl_sumSteps)] W := hL
    unfold laidMetH at h
    exact h
  have hv0 : Limits W := limits_of_head rfl hL0
  have hv1 : Steps W := steps_of_head rfl hL0.tail
  have hW' := hW
  obtain ⟨p, q, hA0, hV, rfl, _, _⟩ := hW
  have hA : DataW.TrodAll enc Tryd.prog W 0 (fun _ => true) true Tryd.f4.params.toList args.toList ds p := hA0
  rw [Tryd.params4] at hA hval
  obtain ⟨v0, vs0, d0, ds0, p0, q0, hargs, rfl, rfl, h0, r0⟩ := trodAll_cons hA
  obtain ⟨rfl, rfl, rfl⟩ := trodAll_nil r0
  obtain rfl : args = #[v0] := by cases args; simp_all
  obtain ⟨g1, g2, rfl⟩ := vars2 hV
  clear hA0
  have hlt : ∀ x ∈ (p0 ++ []), x.block < W.heap.size := fun x hx => hW'.lt x (List.mem_append_left _ hx)
  have k0 := fun (W' : World) (hn : Below W.heap.size W W') => Below.trod Cells.laidOut (by kernel_rfl) (of_decide_eq_true (by kernel_rfl)) h0 hn (fun x hx => hlt x (by simp [hx]))
  obtain ⟨a0, len, cap, rfl⟩ := okWide_slice Tryd.underlying22 (hval 0 22 v0 rfl rfl)
  have hb := (opened h0 (fun x hx => hlt x (by simp [hx]))).1
  refine (walk W a0 len cap hb hv0 hv1).mono fun e W' ⟨he, hnx⟩ => ?_
  subst he
  exact ⟨_, rfl, _, _, _, [], (p0 ++ []), q, hW', trodAll_mk1 (shut_bool Tryd.underlying4 _), (trodAll_cons_mk (k0 _ hnx) trodAll_mk0), Below.trodVars Cells.laidOut hnx (by kernel_rfl) hV, hnx.frame _, fun h => by cases h⟩

/-- A world in which the tables lie. -/
noncomputable def laidWorld (os : Os) : World :=
  { World.holding Tryd.prog os ⟨#[], #[], []⟩ with heap := (((World.holding Tryd.prog os ⟨#[], #[], []⟩).heap).modify 0 (fun x => match x with | .cells _ t frozen => .cells limitCells t frozen | o => o)).modify 1 (fun x => match x with | .cells _ t frozen => .cells stepCells t frozen | o => o) }
theorem laid_met (os : Os) : laidMet Tryd.prog Rows.fnRunEventsRow.laid ((laidWorld os).forCall (fun _ _ => 0) ⟨#[], #[.slice none 0 0], []⟩).memory :=
  laidMet_of_run' 8 (by kernel_rfl) (by kernel_rfl)
theorem reads (os : Os) {H : Type} (enc : TypeId × Value → H) : ∃ places, DataW.whole enc Tryd.prog ((laidWorld os).forCall (fun _ _ => 0) ⟨#[], #[.slice none 0 0], []⟩).memory Tryd.f4.params.toList Rows.fnRunEventsSpec.vars false (#[.slice none 0 0] : Array Value).toList 8 = some ([.nil], [Rows.laid_loop_example_transitfares_impl_stateLimits, Rows.laid_loop_example_transitfares_impl_sumSteps], places) :=
  ⟨MemPlace.row ⟨0, 0, none⟩ 24 ++ MemPlace.row ⟨1, 0, none⟩ 24, by kernel_rfl⟩
set_option maxRecDepth 100000 in
theorem lifted (os : Os) (started : os.Started) (H : Type) (enc : TypeId × Value → H) (F : Stop.Interp) :
    ReturnsInHanded {} Tryd.checked os 4 .any ((OpenSpec.ofChange Rows.fnRunEventsSpec).preRow enc Tryd.prog Tryd.f4 Rows.fnRunEventsRow.domain false Rows.fnRunEventsRow.laid) (((OpenSpec.ofChange Rows.fnRunEventsSpec).at F).post enc Tryd.prog Tryd.f4 false true false false) := by
  obtain ⟨places, hx⟩ := reads os enc
  refine returnsInHanded_of_row (C := Tryd.checked) (s := OpenSpec.ofChange Rows.fnRunEventsSpec) Cells.own started (by kernel_rfl) Tryd.func4
    (witness_row_at (enc := enc) (C := Tryd.checked) false (laidWorld os) #[.slice none 0 0] rfl (by kernel_rfl) (by kernel_rfl) (by kernel_rfl)
      (OpenSpec.preRow_of_cond 8 hx (by kernel_rfl) (fun k hk => by cases hk) (by kernel_rfl) (laid_met os))) ?_
  intro W base args ds gs before hval hW _ _ _ hL _ _
  exact contract H enc W base args ds gs before hval hW hL
theorem said : Rows.FnRunEventsSaid :=
  OpenClaim.holds_of_cond 4 Tryd.f4 rfl rfl rfl rfl rfl rfl rfl ⟨rfl, rfl, rfl, rfl, rfl⟩ rfl rfl rfl rfl rfl (by kernel_rfl) Tryd.func4 (by kernel_rfl)
    (of_decide_eq_true (by kernel_rfl)) (by unfold Func.isWrapper; first | (rw [if_pos (by decide +kernel)]; kernel_rfl) | (rw [if_neg (by decide +kernel)]; exact ⟨rfl, rfl⟩))
    (fun os started H enc _ F => by rw [OpenClaim.pre_eq_preRow]; exact lifted os started H enc F)
theorem plain (f : FuncId) (fn : Func) (hf : Tryd.pinned.checked.prog.funcNamed "loop.example/transitfares/laws.FnRunEvents" = some f) (hfn : Tryd.pinned.checked.prog.funcs[f]? = some fn) :
    false = Tryd.pinned.checked.prog.looks [] ∧ ∀ (j : Nat) t, fn.params[j]? = some t → Tryd.pinned.checked.prog.wantsStandIn t = false := by
  obtain rfl : f = 4 := Option.some.inj ((show Tryd.prog.funcNamed "loop.example/transitfares/laws.FnRunEvents" = some 4 by kernel_rfl).symm.trans hf) |>.symm
  obtain rfl : fn = Tryd.f4 := (Option.some.inj (Tryd.func4.symm.trans hfn)).symm
  refine ⟨by kernel_rfl, fun j t ht => ?_⟩
  rw [Tryd.params4] at ht
  have hm : t ∈ [22] := by simpa using Array.mem_of_getElem? ht
  have hall : ([22].all fun u => !Tryd.prog.wantsStandIn u) = true := by kernel_rfl
  exact (show Tryd.prog.wantsStandIn t = false by simpa using List.all_eq_true.1 hall t hm)
/-- THE STATEMENT: the tied card -/
theorem proved : Rows.FnRunEventsCardSaid :=
  Claim7.holds_tied_plain_at .later [] _ _ _ _ said (fun _ h => by cases h) (by kernel_rfl) (fun _ h => by cases h) fnRunEvents_row_tie rfl ⟨rfl, rfl⟩ (by kernel_rfl) rfl plain (by kernel_rfl)
#print axioms proved
end Go.Proofs.YtpdlngekeeaocabDoor.fnRunEvents
