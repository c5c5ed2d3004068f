/-
  Money is asked for a few times: for every code, with the aggregate and the events drawn from it, the law FnRunEventsTries returns true and leaves the code as it was. The program's tables hold what its text lays in them.
-/
import Derived.Test.YtpdlngekeeaocabDoorCards
import Derived.Test.YtpdlngekeeaocabDoorTie
import Derived.Test.YtpdlngekeeaocabDoorOpen
import Derived.Test.YtpdlngekeeaocabDoorAggLaid
import Derived.Deep.DeepHandedRow
import Derived.Deep.RegionHeld3
import Derived.Test.YtpdlngekeeaocabDoorAggRunLaw
import Derived.Test.YtpdlngekeeaocabDoorDrawsRun
import Derived.Test.YtpdlngekeeaocabDoorLiftBytes
import Derived.Test.YtpdlngekeeaocabDoorReg
set_option linter.unusedSimpArgs false
namespace Go.Proofs.YtpdlngekeeaocabDoor.fnRunEventsTries
open Go.ChangeShapes Go.WideShapes Go.ChangeAt Go.RowKit
set_option linter.unusedVariables false

set_option maxRecDepth 100000 in
set_option maxHeartbeats 2000000 in
theorem walk (w : World) (A : Option Addr) (n c : Nat) (h : Bytes w w.heap.size A n c) (hL : Limits w) (hT : Steps w) : Calls Tryd.prog 5 #[.slice A n c] w (TrueBelow w) := by
  by_cases hn : 1048576 < n
  · go_enter Tryd.func5, Tryd.ntmps5
    go_wp2
    go_ret
    exact ⟨rfl, Below.refl _ _⟩
  · skip
    go_enter Tryd.func5, Tryd.ntmps5
    have HL := Lib.hid hL; clear hL
    have HT := Lib.hid hT; clear hT
    go_wp2_with fail
    refine (drawRunEvents_any A n c w h).mono ?_
    rintro e w0 ⟨x, AE, cE, l, rfl, hsm, hl21, hlc, hcm, hev, hEv, hAE, hc0⟩
    go_wp2_with fail
    generalize hW : World.alloc _ _ = w1
    have hba1 : Blk w1 (w0.heap.size) 24 (AggR.cells x) := by rw [← hW]; exact Blk.new' (by simp)
    have HB1 : Hid (Below w.heap.size w w1) := Lib.hid (by rw [← hW]; exact bA (hc0) _)
    have hz1 : w0.heap.size < w1.heap.size := by rw [← hW]; simp
    have hz0 : w.heap.size ≤ w0.heap.size := hc0.size
    have HB0 : Hid (Below w0.heap.size w0 w1) := Lib.hid (by rw [← hW]; exact bA (Below.refl _ _) _)
    clear hW hc0
    have Hba1 := Lib.hid hba1; clear hba1
    have HAE := Lib.hid hAE; clear hAE
    have HEv := Lib.hid hEv; clear hEv
    have Hcm := Lib.hid hcm; clear hcm
    have Hevs := Lib.hid hev; clear hev
    unfold aggSmall at hsm
    obtain ⟨x1, x2, x3, x4, x5, x6⟩ := hsm
    obtain ⟨⟨⟨s1, a1, t1⟩, m⟩, hP⟩ : ∃ P, P = Fares.runEvents x l := ⟨_, rfl⟩
    have hmr := run_range hP
    obtain ⟨m0, m1⟩ := hmr
    have HP := Lib.hid hP; clear hP
    refine (implRun_cells x AE l.length cE l s1 a1 t1 m HP.out _ ((HEv.out.below HB0.out (Nat.le_refl _)).more (Below.size HB0.out)) rfl (by omega) (Limits.below HL.out HB1.out) (Steps.below HT.out HB1.out)).mono ?_
    rintro e w2 ⟨rfl, hb2⟩
    have hz2 : w1.heap.size ≤ w2.heap.size := by have := hb2.size; (try simp at this); omega
    have Ha2 := Lib.hid (Blk.belowAll Hba1.out hb2)
    clear Hba1
    have HB2 := Lib.hid (bT HB1.out hb2)
    clear HB1
    have HB02 := Lib.hid (bT HB0.out hb2)
    clear HB0
    clear hb2
    obtain ⟨ca2_0, ca2_1, ca2_2⟩ := aggCells (t := 24) (v := x) Ha2.out
    have lta2 : w0.heap.size < w2.heap.size := by omega
    go_wp2_with fail
    generalize hW : World.alloc _ _ = w3
    have hbx3 : Blk w3 w2.heap.size 24 (AggR.cells (⟨s1, a1, t1⟩ : Fares.Sum)) := by rw [← hW]; exact Blk.new' (by simp)
    have hb3 : Below w2.heap.size w2 w3 := by rw [← hW]; exact bA (Below.refl _ _) _
    have hy3 : w2.heap.size < w3.heap.size := by rw [← hW]; simp
    clear hW
    clear ca2_0 ca2_1 ca2_2 lta2
    have hz3 : w2.heap.size ≤ w3.heap.size := by have := hb3.size; (try simp at this); omega
    have Ha3 := Lib.hid (Blk.belowAll Ha2.out hb3)
    clear Ha2
    have HB3 := Lib.hid (bT HB2.out hb3)
    clear HB2
    have HB03 := Lib.hid (bT HB02.out hb3)
    clear HB02
    clear hb3
    have Hbx3 := Lib.hid hbx3; clear hbx3
    refine (specRun_cells x AE l.length cE l s1 a1 t1 m HP.out _ ((HEv.out.below HB03.out (Nat.le_refl _)).more (Below.size HB03.out)) rfl (by omega)).mono ?_
    rintro e w4 ⟨rfl, hb4⟩
    have hz4 : w3.heap.size ≤ w4.heap.size := by have := hb4.size; (try simp at this); omega
    have Ha4 := Lib.hid (Blk.belowAll Ha3.out hb4)
    clear Ha3
    have HB4 := Lib.hid (bT HB3.out hb4)
    clear HB3
    have HB04 := Lib.hid (bT HB03.out hb4)
    clear HB03
    have Hb4 := Lib.hid (Blk.belowAll Hbx3.out hb4)
    clear Hbx3
    clear hb4
    by_cases hm : m < 0
    · have dm : decide (m < 0) = true := decide_eq_true hm
      obtain ⟨ca4_0, ca4_1, ca4_2⟩ := aggCells (t := 24) (v := x) Ha4.out
      obtain ⟨cb4_0, cb4_1, cb4_2⟩ := aggCells (t := 24) (v := (⟨s1, a1, t1⟩ : Fares.Sum)) Hb4.out
      have lta4 : w0.heap.size < w4.heap.size := by omega
      have ltb4 : w2.heap.size < w4.heap.size := by omega
      dsimp only at cb4_0 cb4_1 cb4_2
      go_wp2
      all_goals (go_ret; refine ⟨ret_bool ?_, bA HB4.out _⟩; first | rfl | (simp; done))
    · have dm : decide (m < 0) = false := decide_eq_false hm
      have hyes := run_yes HP.out (by omega)
      have hml := run_len HP.out (by omega)
      have HV := Lib.hid hyes.1
      have h20 := hyes.2.1
      have HA := Lib.hid hyes.2.2
      clear hyes
      obtain ⟨ca4_0, ca4_1, ca4_2⟩ := aggCells (t := 24) (v := x) Ha4.out
      obtain ⟨cb4_0, cb4_1, cb4_2⟩ := aggCells (t := 24) (v := (⟨s1, a1, t1⟩ : Fares.Sum)) Hb4.out
      have lta4 : w0.heap.size < w4.heap.size := by omega
      have ltb4 : w2.heap.size < w4.heap.size := by omega
      dsimp only at cb4_0 cb4_1 cb4_2
      have hbv : okNums s1 a1 t1 := by
        have h := Fares.runAll_valid l HV.out
        rw [← HA.out] at h
        exact okNums_iff.1 h
      unfold okNums at hbv
      have htt : t1 ≤ 4 := by omega
      clear hbv
      go_wp2
      generalize hW : World.alloc _ _ = w5
      have hbX : Blk w5 (w4.heap.size + 1) 24 (AggR.cells x) := by rw [← hW]; exact Blk.new' (by simp)
      have hb5 : Below w4.heap.size w4 w5 := by rw [← hW]; exact bA (bA (Below.refl _ _) _) _
      have hy5 : w4.heap.size + 1 < w5.heap.size := by rw [← hW]; simp
      clear hW
      clear ca4_0 ca4_1 ca4_2 cb4_0 cb4_1 cb4_2 lta4 ltb4
      have hz5 : w4.heap.size ≤ w5.heap.size := by have := hb5.size; (try simp at this); omega
      have Ha5 := Lib.hid (Blk.belowAll Ha4.out hb5)
      clear Ha4
      have HB5 := Lib.hid (bT HB4.out hb5)
      clear HB4
      have HB05 := Lib.hid (bT HB04.out hb5)
      clear HB04
      have Hb5 := Lib.hid (Blk.belowAll Hb4.out hb5)
      clear Hb4
      clear hb5
      have HbX := Lib.hid hbX; clear hbX
      go_loopw [9, 11] (fun p i wr => ∃ (k : Nat) (q : Int), k ≤ l.length ∧ i = .int .i64 k ∧ p = .int .i64 q ∧ 0 ≤ q ∧ q ≤ 1 ∧ (q = 1 → (Fares.runAll x (l.take k)).1.s = 3) ∧ Below w.heap.size w wr ∧ Below w0.heap.size w0 wr ∧ Blk wr w2.heap.size 24 (AggR.cells (⟨s1, a1, t1⟩ : Fares.Sum)) ∧ Blk wr (w4.heap.size + 1) 24 (AggR.cells (Fares.runAll x (l.take k)).1)) (fun _ i _ => l.length - (intOf i).toNat)
      case atStart => exact ⟨0, 0, Nat.zero_le _, rfl, rfl, by omega, by omega, by omega, HB5.out, HB05.out, Hb5.out, HbX.out⟩
      case round =>
        obtain ⟨k, q, hk, rfl, rfl, q0, q1, hqs, hB, hB0, hb, hX⟩ := hrel
        obtain ⟨Y, hY⟩ : ∃ Y, Y = Fares.runAll x (l.take k) := ⟨_, rfl⟩
        rw [← hY] at hX hqs
        have hYv : Hid (Fares.validSum Y.1 = true) := by
          show Fares.validSum Y.1 = true
          rw [hY]; exact Fares.runAll_valid _ HV.out
        have HY := Lib.hid hY; clear hY
        have HBr := Lib.hid hB; clear hB
        have HB0r := Lib.hid hB0; clear hB0
        have Hbr := Lib.hid hb; clear hb
        have HXr := Lib.hid hX; clear hX
        have Hqs := Lib.hid hqs; clear hqs
        have hz20 := HXr.out.lt
        have hz2b := Hbr.out.lt
        by_cases hlt : k < l.length
        · obtain ⟨e, hek⟩ : ∃ e, l[k]? = some e := ⟨_, List.getElem?_eq_getElem hlt⟩
          obtain ⟨bE, oE, rfl, hbE, hrE⟩ := HEv.out.row (by omega)
          have HEr := Lib.hid (hrE k e hek)
          have Hk := Lib.hid hek; clear hek hrE
          have i0 : (0 : Int) ≤ (k : Int) := by omega
          have i1 : (k : Int) < (l.length : Int) := by omega
          obtain ⟨⟨⟨s2, a2, t2⟩, ok2⟩, hQ⟩ : ∃ P, P = Fares.stepSum Y.1 e := ⟨_, rfl⟩
          have HQ := Lib.hid hQ; clear hQ
          have hnx : Hid (Fares.runAll x (l.take (k + 1)) = if ok2 then ((⟨s2, a2, t2⟩ : Fares.Sum), Y.2 + 1) else Y) := by
            show Fares.runAll x (l.take (k + 1)) = _
            rw [Fares.runAll_next Hk.out, ← HY.out]
            have h := HQ.out
            rw [stepSum_of e hYv.out] at h
            unfold Fares.runNext
            rw [← h]
          go_wp2
          refine wp_region_held_drew (S := fun w' => (w'.cell? ⟨w4.heap.size + 1, 0, none⟩ = some (.int .i64 Y.1.s) ∧ w'.cell? ⟨w4.heap.size + 1, 1, none⟩ = some (.int .i64 Y.1.a) ∧ w'.cell? ⟨w4.heap.size + 1, 2, none⟩ = some (.int .i64 Y.1.t)) ∧ w'.cell? ⟨bE, oE + k * 2, none⟩ = some (.int .i64 e.k) ∧ w'.cell? ⟨bE, oE + k * 2 + 1, none⟩ = some (.int .i64 e.a)) (by kernel_rfl) (by exact ⟨aggCells HXr.out, HEr.out.below (bD1 HB0r.out) hbE⟩) (fun hS => ?_)
          refine take_at 0 62 (v := ?_) rfl rfl (by kernel_rfl) (by kernel_rfl) (by kernel_rfl) (fun _ _ _ h => h) (by rfl) ?_ hS ?_
          rotate_left 1
          · (intro w hSw; (try dsimp only at hSw); (try go_split_ands); go_simp; try with_reducible rfl)
          simp only [List.setIfInBounds_toArray, List.set_cons_zero, List.set_cons_succ]
          refine take_at 1 63 (v := ?_) rfl rfl (by kernel_rfl) (by kernel_rfl) (by kernel_rfl) (fun _ _ _ h => h) (by rfl) ?_ hS ?_
          rotate_left 1
          · (intro w hSw; (try dsimp only at hSw); (try go_split_ands); go_simp; try with_reducible rfl)
          simp only [List.setIfInBounds_toArray, List.set_cons_zero, List.set_cons_succ]
          refine take_at 2 64 (v := ?_) rfl rfl (by kernel_rfl) (by kernel_rfl) (by kernel_rfl) (fun _ _ _ h => h) (by rfl) ?_ hS ?_
          rotate_left 1
          · (intro w hSw; (try dsimp only at hSw); (try go_split_ands); go_simp; try with_reducible rfl)
          simp only [List.setIfInBounds_toArray, List.set_cons_zero, List.set_cons_succ]
          refine take_at 3 65 (v := ?_) rfl rfl (by kernel_rfl) (by kernel_rfl) (by kernel_rfl) (fun _ _ _ h => h) (by rfl) ?_ hS ?_
          rotate_left 1
          · (intro w hSw; (try dsimp only at hSw); (try go_split_ands); go_simp; try with_reducible rfl)
          simp only [List.setIfInBounds_toArray, List.set_cons_zero, List.set_cons_succ]
          refine take_at 4 66 (v := ?_) rfl rfl (by kernel_rfl) (by kernel_rfl) (by kernel_rfl) (fun _ _ _ h => h) (by rfl) ?_ hS ?_
          rotate_left 1
          · (intro w hSw; (try dsimp only at hSw); (try go_split_ands); go_simp; try with_reducible rfl)
          simp only [List.setIfInBounds_toArray, List.set_cons_zero, List.set_cons_succ]
          refine wpAnyH_ready (rs := [5, 9]) (by kernel_rfl) (by simp) ?_
          refine AllReadyH.cons rfl (fun K hK => ?_) (AllReadyH.cons rfl (fun K hK => ?_) (AllReadyH.nil))
          · go_simp
            go_wp2_with fail
            refine (implStep_cells Y.1 e s2 a2 t2 ok2 HQ.out _ (Limits.below HL.out (bD1 HBr.out)) (Steps.below HT.out (bD1 HBr.out))).mono ?_
            rintro e w21 ⟨rfl, hb21⟩
            have hz21 : wr.heap.size ≤ w21.heap.size := by have := hb21.size; (try simp at this); omega
            have HB21 := Lib.hid (bT (bD1 HBr.out) hb21)
            clear HBr
            have HB021 := Lib.hid (bT (bD1 HB0r.out) hb21)
            clear HB0r
            have Hb21 := Lib.hid (Blk.belowAll (blkDrew Hbr.out) hb21)
            clear Hbr
            have HX21 := Lib.hid (Blk.belowAll (blkDrew HXr.out) hb21)
            clear HXr
            clear hb21
            go_simp
            refine hK.out _ _ (by exact ⟨aggCells HX21.out, HEr.out.below HB021.out hbE⟩) (fun hS => ?_)
            clear hK K
            refine take_at 6 61 (v := ?_) rfl rfl (by kernel_rfl) (by kernel_rfl) (by kernel_rfl) (fun _ _ _ h => h) (by rfl) ?_ hS ?_
            rotate_left 1
            · (intro w hSw; (try dsimp only at hSw); (try go_split_ands); go_simp; try with_reducible rfl)
            simp only [List.setIfInBounds_toArray, List.set_cons_zero, List.set_cons_succ]
            refine take_at 7 68 (v := ?_) rfl rfl (by kernel_rfl) (by kernel_rfl) (by kernel_rfl) (fun _ _ _ h => h) (by rfl) ?_ hS ?_
            rotate_left 1
            · (intro w hSw; (try dsimp only at hSw); (try go_split_ands); go_simp; try with_reducible rfl)
            simp only [List.setIfInBounds_toArray, List.set_cons_zero, List.set_cons_succ]
            refine take_at 8 69 (v := ?_) rfl rfl (by kernel_rfl) (by kernel_rfl) (by kernel_rfl) (fun _ _ _ h => h) (by rfl) ?_ hS ?_
            rotate_left 1
            · (intro w hSw; (try dsimp only at hSw); (try go_split_ands); go_simp; try with_reducible rfl)
            simp only [List.setIfInBounds_toArray, List.set_cons_zero, List.set_cons_succ]
            refine wpAnyH_ready (rs := [9]) (by kernel_rfl) (by simp) ?_
            refine AllReadyH.cons rfl (fun K hK => ?_) (AllReadyH.nil)
            go_simp
            generalize hW : World.alloc _ _ = w22
            have hbx22 : Blk w22 w21.heap.size 24 (AggR.cells (⟨0, 0, 0⟩ : Fares.Sum)) := by rw [← hW]; exact Blk.new' (by simp)
            have hb22 : Below w21.heap.size w21 w22 := by rw [← hW]; exact bA (Below.refl _ _) _
            have hy22 : w21.heap.size < w22.heap.size := by rw [← hW]; simp
            clear hW
            have hz22 : w21.heap.size ≤ w22.heap.size := by have := hb22.size; (try simp at this); omega
            have HB22 := Lib.hid (bT HB21.out hb22)
            clear HB21
            have HB022 := Lib.hid (bT HB021.out hb22)
            clear HB021
            have Hb22 := Lib.hid (Blk.belowAll Hb21.out hb22)
            clear Hb21
            have HX22 := Lib.hid (Blk.belowAll HX21.out hb22)
            clear HX21
            clear hb22
            have Hbx22 := Lib.hid hbx22; clear hbx22
            obtain ⟨cN22_0, cN22_1, cN22_2⟩ := aggCells (t := 24) (v := (⟨0, 0, 0⟩ : Fares.Sum)) Hbx22.out
            have frN22_0 := (Hbx22.out).free 0
            have frN22_1 := (Hbx22.out).free 1
            have frN22_2 := (Hbx22.out).free 2
            refine hK.out _ _ (by exact ⟨aggCells HX22.out, HEr.out.below HB022.out hbE⟩) (fun hS => ?_)
            clear hK K
            refine wpAnyH_ready (rs := [10]) (by kernel_rfl) (by simp) ?_
            refine AllReadyH.cons rfl (fun K hK => ?_) (AllReadyH.nil)
            go_simp
            generalize hW : World.setCell _ _ _ = w23
            have ht23 : Touch (fun i => i = w21.heap.size) w22 w23 := by rw [← hW]; exact (Touch.far (K := fun i => i = w21.heap.size) (Touch.far (K := fun i => i = w21.heap.size) (Touch.far (K := fun i => i = w21.heap.size) (Touch.refl _ _) (p := ⟨w21.heap.size, 0, none⟩) rfl _) (p := ⟨w21.heap.size, 1, none⟩) rfl _) (p := ⟨w21.heap.size, 2, none⟩) rfl _)
            have hbx23 : Blk w23 (w21.heap.size) 24 (AggR.cells (⟨s2, a2, t2⟩ : Fares.Sum)) := by rw [← hW]; exact (Blk.put (Blk.put (Blk.put Hbx22.out 0 (.int .i64 s2)) 1 (.int .i64 a2)) 2 (.int .i64 t2))
            clear hW
            clear cN22_0 cN22_1 cN22_2 frN22_0 frN22_1 frN22_2
            have hz23 : w22.heap.size ≤ w23.heap.size := by have := ht23.size; (try simp at this); omega
            have HB23 := Lib.hid (Touch.below HB22.out ht23 (fun i hi => by omega))
            clear HB22
            have HB023 := Lib.hid (Touch.below HB022.out ht23 (fun i hi => by omega))
            clear HB022
            have Hb23 := Lib.hid (Blk.touch Hb22.out ht23 (show ¬ (w2.heap.size = w21.heap.size) by omega))
            clear Hb22
            have HX23 := Lib.hid (Blk.touch HX22.out ht23 (show ¬ (w4.heap.size + 1 = w21.heap.size) by omega))
            clear HX22
            clear ht23 Hbx22
            have Hbx23 := Lib.hid hbx23; clear hbx23
            refine hK.out _ _ (by exact ⟨aggCells HX23.out, HEr.out.below HB023.out hbE⟩) (fun hS => ?_)
            clear hK K
            refine take_at 11 13 (v := ?_) rfl rfl (by kernel_rfl) (by kernel_rfl) (by kernel_rfl) (fun _ _ _ h => h) (by rfl) ?_ hS ?_
            rotate_left 1
            · (intro w hSw; (try dsimp only at hSw); (try go_split_ands); go_simp; try with_reducible rfl)
            simp only [List.setIfInBounds_toArray, List.set_cons_zero, List.set_cons_succ]
            refine wpAnyH_done (by kernel_rfl) ?_ _
            clear hS
            obtain ⟨cN23_0, cN23_1, cN23_2⟩ := aggCells (t := 24) (v := (⟨s2, a2, t2⟩ : Fares.Sum)) Hbx23.out
            obtain ⟨cX23_0, cX23_1, cX23_2⟩ := aggCells (t := 24) (v := Y.1) HX23.out
            have frX23_0 := (HX23.out).free 0
            have frX23_1 := (HX23.out).free 1
            have frX23_2 := (HX23.out).free 2
            dsimp only at cN23_0 cN23_1 cN23_2
            cases ok2 with
            | false =>
              have hny := hnx.out
              rw [if_neg (by simp)] at hny
              have Hny := Lib.hid hny; clear hny
              go_wp2
              go_roundw
              case rel => exact ⟨k + 1, q, by omega, by go_num, by go_num, q0, q1, by rw [Hny.out]; exact Hqs.out, HB23.out, HB023.out, Hb23.out, by rw [Hny.out]; exact HX23.out⟩
              case measure => simp [intOf]; omega
            | true =>
              have hny := hnx.out
              rw [if_pos rfl] at hny
              have Hny := Lib.hid hny; clear hny
              have hsn := step_nums HQ.out
              have hq0 : q = 0 := by
                have h1 := hsn.2.2
                unfold stepNums at h1
                rcases (by omega : q = 0 ∨ q = 1) with h | h
                · exact h
                · have := Hqs.out h; omega
              subst hq0
              clear hsn
              by_cases h3 : s2 = 3
              · have d3 : (s2 == 3) = true := by rw [beq_iff_eq]; exact h3
                have H3 := Lib.hid h3; clear h3
                go_wp2
                generalize hW : World.setCell _ _ _ = w24
                have ht24 : Touch (fun i => i = w4.heap.size + 1) w23 w24 := by rw [← hW]; exact (Touch.far (K := fun i => i = w4.heap.size + 1) (Touch.far (K := fun i => i = w4.heap.size + 1) (Touch.far (K := fun i => i = w4.heap.size + 1) (Touch.refl _ _) (p := ⟨w4.heap.size + 1, 0, none⟩) rfl _) (p := ⟨w4.heap.size + 1, 1, none⟩) rfl _) (p := ⟨w4.heap.size + 1, 2, none⟩) rfl _)
                have hbx24 : Blk w24 (w4.heap.size + 1) 24 (AggR.cells (⟨s2, a2, t2⟩ : Fares.Sum)) := by rw [← hW]; exact (Blk.put (Blk.put (Blk.put HX23.out 0 (.int .i64 s2)) 1 (.int .i64 a2)) 2 (.int .i64 t2))
                clear hW
                clear cN23_0 cN23_1 cN23_2 cX23_0 cX23_1 cX23_2 frX23_0 frX23_1 frX23_2
                have hz24 : w23.heap.size ≤ w24.heap.size := by have := ht24.size; (try simp at this); omega
                have HB24 := Lib.hid (Touch.below HB23.out ht24 (fun i hi => by omega))
                clear HB23
                have HB024 := Lib.hid (Touch.below HB023.out ht24 (fun i hi => by omega))
                clear HB023
                have Hb24 := Lib.hid (Blk.touch Hb23.out ht24 (show ¬ (w2.heap.size = w4.heap.size + 1) by omega))
                clear Hb23
                have HN24 := Lib.hid (Blk.touch Hbx23.out ht24 (show ¬ (w21.heap.size = w4.heap.size + 1) by omega))
                clear Hbx23
                clear ht24 HX23
                have Hbx24 := Lib.hid hbx24; clear hbx24
                go_roundw
                case rel => exact ⟨k + 1, 1, by omega, by go_num, by go_num, by omega, by omega, fun _ => by rw [Hny.out]; exact H3.out, HB24.out, HB024.out, Hb24.out, by rw [Hny.out]; exact Hbx24.out⟩
                case measure => simp [intOf]; omega
              · have d3 : (s2 == 3) = false := by rw [beq_eq_false_iff_ne]; exact h3
                clear h3
                go_wp2
                generalize hW : World.setCell _ _ _ = w24
                have ht24 : Touch (fun i => i = w4.heap.size + 1) w23 w24 := by rw [← hW]; exact (Touch.far (K := fun i => i = w4.heap.size + 1) (Touch.far (K := fun i => i = w4.heap.size + 1) (Touch.far (K := fun i => i = w4.heap.size + 1) (Touch.refl _ _) (p := ⟨w4.heap.size + 1, 0, none⟩) rfl _) (p := ⟨w4.heap.size + 1, 1, none⟩) rfl _) (p := ⟨w4.heap.size + 1, 2, none⟩) rfl _)
                have hbx24 : Blk w24 (w4.heap.size + 1) 24 (AggR.cells (⟨s2, a2, t2⟩ : Fares.Sum)) := by rw [← hW]; exact (Blk.put (Blk.put (Blk.put HX23.out 0 (.int .i64 s2)) 1 (.int .i64 a2)) 2 (.int .i64 t2))
                clear hW
                clear cN23_0 cN23_1 cN23_2 cX23_0 cX23_1 cX23_2 frX23_0 frX23_1 frX23_2
                have hz24 : w23.heap.size ≤ w24.heap.size := by have := ht24.size; (try simp at this); omega
                have HB24 := Lib.hid (Touch.below HB23.out ht24 (fun i hi => by omega))
                clear HB23
                have HB024 := Lib.hid (Touch.below HB023.out ht24 (fun i hi => by omega))
                clear HB023
                have Hb24 := Lib.hid (Blk.touch Hb23.out ht24 (show ¬ (w2.heap.size = w4.heap.size + 1) by omega))
                clear Hb23
                have HN24 := Lib.hid (Blk.touch Hbx23.out ht24 (show ¬ (w21.heap.size = w4.heap.size + 1) by omega))
                clear Hbx23
                clear ht24 HX23
                have Hbx24 := Lib.hid hbx24; clear hbx24
                go_roundw
                case rel => exact ⟨k + 1, 0, by omega, by go_num, by go_num, by omega, by omega, fun h => by omega, HB24.out, HB024.out, Hb24.out, by rw [Hny.out]; exact Hbx24.out⟩
                case measure => simp [intOf]; omega
          · go_simp
            generalize hW : World.alloc _ _ = w21
            have hbx21 : Blk w21 wr.heap.size 24 (AggR.cells (⟨0, 0, 0⟩ : Fares.Sum)) := by rw [← hW]; exact Blk.new' (by simp)
            have hb21 : Below wr.heap.size wr w21 := by rw [← hW]; exact bA (Below.refl _ _) _
            have hy21 : wr.heap.size < w21.heap.size := by rw [← hW]; simp
            clear hW
            have hz21 : wr.heap.size ≤ w21.heap.size := by have := hb21.size; (try simp at this); omega
            have HB21 := Lib.hid (bT HBr.out hb21)
            clear HBr
            have HB021 := Lib.hid (bT HB0r.out hb21)
            clear HB0r
            have Hb21 := Lib.hid (Blk.belowAll Hbr.out hb21)
            clear Hbr
            have HX21 := Lib.hid (Blk.belowAll HXr.out hb21)
            clear HXr
            clear hb21
            have Hbx21 := Lib.hid hbx21; clear hbx21
            obtain ⟨cN21_0, cN21_1, cN21_2⟩ := aggCells (t := 24) (v := (⟨0, 0, 0⟩ : Fares.Sum)) (blkDrew Hbx21.out)
            have frN21_0 := ((blkDrew Hbx21.out)).free 0
            have frN21_1 := ((blkDrew Hbx21.out)).free 1
            have frN21_2 := ((blkDrew Hbx21.out)).free 2
            refine hK.out _ _ (by exact ⟨aggCells (blkDrew HX21.out), HEr.out.below (bD1 HB021.out) hbE⟩) (fun hS => ?_)
            clear hK K
            refine wpAnyH_ready (rs := [5]) (by kernel_rfl) (by simp) ?_
            refine AllReadyH.cons rfl (fun K hK => ?_) (AllReadyH.nil)
            go_simp
            go_wp2_with fail
            refine (implStep_cells Y.1 e s2 a2 t2 ok2 HQ.out _ (Limits.below HL.out (bD1 HB21.out)) (Steps.below HT.out (bD1 HB21.out))).mono ?_
            rintro e w22 ⟨rfl, hb22⟩
            clear cN21_0 cN21_1 cN21_2 frN21_0 frN21_1 frN21_2
            have hz22 : w21.heap.size ≤ w22.heap.size := by have := hb22.size; (try simp at this); omega
            have HB22 := Lib.hid (bT (bD1 HB21.out) hb22)
            clear HB21
            have HB022 := Lib.hid (bT (bD1 HB021.out) hb22)
            clear HB021
            have Hb22 := Lib.hid (Blk.belowAll (blkDrew Hb21.out) hb22)
            clear Hb21
            have HX22 := Lib.hid (Blk.belowAll (blkDrew HX21.out) hb22)
            clear HX21
            have HN22 := Lib.hid (Blk.belowAll (blkDrew Hbx21.out) hb22)
            clear Hbx21
            clear hb22
            obtain ⟨cN22_0, cN22_1, cN22_2⟩ := aggCells (t := 24) (v := (⟨0, 0, 0⟩ : Fares.Sum)) HN22.out
            have frN22_0 := (HN22.out).free 0
            have frN22_1 := (HN22.out).free 1
            have frN22_2 := (HN22.out).free 2
            go_simp
            refine hK.out _ _ (by exact ⟨aggCells HX22.out, HEr.out.below HB022.out hbE⟩) (fun hS => ?_)
            clear hK K
            refine take_at 6 61 (v := ?_) rfl rfl (by kernel_rfl) (by kernel_rfl) (by kernel_rfl) (fun _ _ _ h => h) (by rfl) ?_ hS ?_
            rotate_left 1
            · (intro w hSw; (try dsimp only at hSw); (try go_split_ands); go_simp; try with_reducible rfl)
            simp only [List.setIfInBounds_toArray, List.set_cons_zero, List.set_cons_succ]
            refine take_at 7 68 (v := ?_) rfl rfl (by kernel_rfl) (by kernel_rfl) (by kernel_rfl) (fun _ _ _ h => h) (by rfl) ?_ hS ?_
            rotate_left 1
            · (intro w hSw; (try dsimp only at hSw); (try go_split_ands); go_simp; try with_reducible rfl)
            simp only [List.setIfInBounds_toArray, List.set_cons_zero, List.set_cons_succ]
            refine take_at 8 69 (v := ?_) rfl rfl (by kernel_rfl) (by kernel_rfl) (by kernel_rfl) (fun _ _ _ h => h) (by rfl) ?_ hS ?_
            rotate_left 1
            · (intro w hSw; (try dsimp only at hSw); (try go_split_ands); go_simp; try with_reducible rfl)
            simp only [List.setIfInBounds_toArray, List.set_cons_zero, List.set_cons_succ]
            refine wpAnyH_ready (rs := [10]) (by kernel_rfl) (by simp) ?_
            refine AllReadyH.cons rfl (fun K hK => ?_) (AllReadyH.nil)
            go_simp
            generalize hW : World.setCell _ _ _ = w23
            have ht23 : Touch (fun i => i = wr.heap.size) w22 w23 := by rw [← hW]; exact (Touch.far (K := fun i => i = wr.heap.size) (Touch.far (K := fun i => i = wr.heap.size) (Touch.far (K := fun i => i = wr.heap.size) (Touch.refl _ _) (p := ⟨wr.heap.size, 0, none⟩) rfl _) (p := ⟨wr.heap.size, 1, none⟩) rfl _) (p := ⟨wr.heap.size, 2, none⟩) rfl _)
            have hbx23 : Blk w23 (wr.heap.size) 24 (AggR.cells (⟨s2, a2, t2⟩ : Fares.Sum)) := by rw [← hW]; exact (Blk.put (Blk.put (Blk.put HN22.out 0 (.int .i64 s2)) 1 (.int .i64 a2)) 2 (.int .i64 t2))
            clear hW
            clear cN22_0 cN22_1 cN22_2 frN22_0 frN22_1 frN22_2
            have hz23 : w22.heap.size ≤ w23.heap.size := by have := ht23.size; (try simp at this); omega
            have HB23 := Lib.hid (Touch.below HB22.out ht23 (fun i hi => by omega))
            clear HB22
            have HB023 := Lib.hid (Touch.below HB022.out ht23 (fun i hi => by omega))
            clear HB022
            have Hb23 := Lib.hid (Blk.touch Hb22.out ht23 (show ¬ (w2.heap.size = wr.heap.size) by omega))
            clear Hb22
            have HX23 := Lib.hid (Blk.touch HX22.out ht23 (show ¬ (w4.heap.size + 1 = wr.heap.size) by omega))
            clear HX22
            clear ht23 HN22
            have Hbx23 := Lib.hid hbx23; clear hbx23
            refine hK.out _ _ (by exact ⟨aggCells HX23.out, HEr.out.below HB023.out hbE⟩) (fun hS => ?_)
            clear hK K
            refine take_at 11 13 (v := ?_) rfl rfl (by kernel_rfl) (by kernel_rfl) (by kernel_rfl) (fun _ _ _ h => h) (by rfl) ?_ hS ?_
            rotate_left 1
            · (intro w hSw; (try dsimp only at hSw); (try go_split_ands); go_simp; try with_reducible rfl)
            simp only [List.setIfInBounds_toArray, List.set_cons_zero, List.set_cons_succ]
            refine wpAnyH_done (by kernel_rfl) ?_ _
            clear hS
            obtain ⟨cN23_0, cN23_1, cN23_2⟩ := aggCells (t := 24) (v := (⟨s2, a2, t2⟩ : Fares.Sum)) Hbx23.out
            obtain ⟨cX23_0, cX23_1, cX23_2⟩ := aggCells (t := 24) (v := Y.1) HX23.out
            have frX23_0 := (HX23.out).free 0
            have frX23_1 := (HX23.out).free 1
            have frX23_2 := (HX23.out).free 2
            dsimp only at cN23_0 cN23_1 cN23_2
            cases ok2 with
            | false =>
              have hny := hnx.out
              rw [if_neg (by simp)] at hny
              have Hny := Lib.hid hny; clear hny
              go_wp2
              go_roundw
              case rel => exact ⟨k + 1, q, by omega, by go_num, by go_num, q0, q1, by rw [Hny.out]; exact Hqs.out, HB23.out, HB023.out, Hb23.out, by rw [Hny.out]; exact HX23.out⟩
              case measure => simp [intOf]; omega
            | true =>
              have hny := hnx.out
              rw [if_pos rfl] at hny
              have Hny := Lib.hid hny; clear hny
              have hsn := step_nums HQ.out
              have hq0 : q = 0 := by
                have h1 := hsn.2.2
                unfold stepNums at h1
                rcases (by omega : q = 0 ∨ q = 1) with h | h
                · exact h
                · have := Hqs.out h; omega
              subst hq0
              clear hsn
              by_cases h3 : s2 = 3
              · have d3 : (s2 == 3) = true := by rw [beq_iff_eq]; exact h3
                have H3 := Lib.hid h3; clear h3
                go_wp2
                generalize hW : World.setCell _ _ _ = w24
                have ht24 : Touch (fun i => i = w4.heap.size + 1) w23 w24 := by rw [← hW]; exact (Touch.far (K := fun i => i = w4.heap.size + 1) (Touch.far (K := fun i => i = w4.heap.size + 1) (Touch.far (K := fun i => i = w4.heap.size + 1) (Touch.refl _ _) (p := ⟨w4.heap.size + 1, 0, none⟩) rfl _) (p := ⟨w4.heap.size + 1, 1, none⟩) rfl _) (p := ⟨w4.heap.size + 1, 2, none⟩) rfl _)
                have hbx24 : Blk w24 (w4.heap.size + 1) 24 (AggR.cells (⟨s2, a2, t2⟩ : Fares.Sum)) := by rw [← hW]; exact (Blk.put (Blk.put (Blk.put HX23.out 0 (.int .i64 s2)) 1 (.int .i64 a2)) 2 (.int .i64 t2))
                clear hW
                clear cN23_0 cN23_1 cN23_2 cX23_0 cX23_1 cX23_2 frX23_0 frX23_1 frX23_2
                have hz24 : w23.heap.size ≤ w24.heap.size := by have := ht24.size; (try simp at this); omega
                have HB24 := Lib.hid (Touch.below HB23.out ht24 (fun i hi => by omega))
                clear HB23
                have HB024 := Lib.hid (Touch.below HB023.out ht24 (fun i hi => by omega))
                clear HB023
                have Hb24 := Lib.hid (Blk.touch Hb23.out ht24 (show ¬ (w2.heap.size = w4.heap.size + 1) by omega))
                clear Hb23
                have HN24 := Lib.hid (Blk.touch Hbx23.out ht24 (show ¬ (wr.heap.size = w4.heap.size + 1) by omega))
                clear Hbx23
                clear ht24 HX23
                have Hbx24 := Lib.hid hbx24; clear hbx24
                go_roundw
                case rel => exact ⟨k + 1, 1, by omega, by go_num, by go_num, by omega, by omega, fun _ => by rw [Hny.out]; exact H3.out, HB24.out, HB024.out, Hb24.out, by rw [Hny.out]; exact Hbx24.out⟩
                case measure => simp [intOf]; omega
              · have d3 : (s2 == 3) = false := by rw [beq_eq_false_iff_ne]; exact h3
                clear h3
                go_wp2
                generalize hW : World.setCell _ _ _ = w24
                have ht24 : Touch (fun i => i = w4.heap.size + 1) w23 w24 := by rw [← hW]; exact (Touch.far (K := fun i => i = w4.heap.size + 1) (Touch.far (K := fun i => i = w4.heap.size + 1) (Touch.far (K := fun i => i = w4.heap.size + 1) (Touch.refl _ _) (p := ⟨w4.heap.size + 1, 0, none⟩) rfl _) (p := ⟨w4.heap.size + 1, 1, none⟩) rfl _) (p := ⟨w4.heap.size + 1, 2, none⟩) rfl _)
                have hbx24 : Blk w24 (w4.heap.size + 1) 24 (AggR.cells (⟨s2, a2, t2⟩ : Fares.Sum)) := by rw [← hW]; exact (Blk.put (Blk.put (Blk.put HX23.out 0 (.int .i64 s2)) 1 (.int .i64 a2)) 2 (.int .i64 t2))
                clear hW
                clear cN23_0 cN23_1 cN23_2 cX23_0 cX23_1 cX23_2 frX23_0 frX23_1 frX23_2
                have hz24 : w23.heap.size ≤ w24.heap.size := by have := ht24.size; (try simp at this); omega
                have HB24 := Lib.hid (Touch.below HB23.out ht24 (fun i hi => by omega))
                clear HB23
                have HB024 := Lib.hid (Touch.below HB023.out ht24 (fun i hi => by omega))
                clear HB023
                have Hb24 := Lib.hid (Blk.touch Hb23.out ht24 (show ¬ (w2.heap.size = w4.heap.size + 1) by omega))
                clear Hb23
                have HN24 := Lib.hid (Blk.touch Hbx23.out ht24 (show ¬ (wr.heap.size = w4.heap.size + 1) by omega))
                clear Hbx23
                clear ht24 HX23
                have Hbx24 := Lib.hid hbx24; clear hbx24
                go_roundw
                case rel => exact ⟨k + 1, 0, by omega, by go_num, by go_num, by omega, by omega, fun h => by omega, HB24.out, HB024.out, Hb24.out, by rw [Hny.out]; exact Hbx24.out⟩
                case measure => simp [intOf]; omega
        · have hYe : Y = ((⟨s1, a1, t1⟩ : Fares.Sum), m) := by rw [HY.out, List.take_of_length_le (by omega), ← HA.out]
          have dl : decide ((k : Int) < (l.length : Int)) = false := decide_eq_false (by omega)
          have dq : decide (q ≤ 1) = true := decide_eq_true q1
          have dt : decide (t1 ≤ 4) = true := decide_eq_true htt
          obtain ⟨u0, u1, u2⟩ := aggCells HXr.out
          obtain ⟨v0, v1, v2⟩ := aggCells Hbr.out
          rw [hYe] at u0 u1 u2
          dsimp only at u0 u1 u2 v0 v1 v2
          clear hYe
          go_wp2
          all_goals (go_ret; refine ⟨ret_bool ?_, HBr.out⟩; first | rfl | (simp; done))

theorem contract (H : Type) (enc : TypeId × Value → H) (W : World) (base : Nat) (args : Array Value) (ds gs : List (DataW H)) (before : List MemPlace)
    (hval : ∀ (j : Nat) t v, Tryd.f5.params[j]? = some t → args[j]? = some v → Value.okWide Tryd.prog W .any base t v)
    (hW : DataW.Whole enc Tryd.prog Tryd.f5.params.toList Rows.fnRunEventsTriesSpec.vars false W args.toList ds gs before) (hL : laidMetH Tryd.prog Rows.fnRunEventsTriesRow.laid W) :
    Calls Tryd.prog 5 args W fun e W' => ∃ v, e = .returned v ∧ Rows.fnRunEventsTriesSpec.post enc Tryd.prog Tryd.f5 false true false false W args v W' := by
  have hL0 : laidMet Tryd.prog [("loop.example/transitfares/impl.stateLimits", Rows.laid_loop_example_transitfares_impl_stateLimits), ("loop.example/transitfares/impl.sumSteps", Rows.laid_loop_example_transitfares_impl_sumSteps)] W := by
    have h : laidMetH Tryd.prog [("loop.example/transitfares/impl.stateLimits", Rows.laid_loop_example_transitfares_impl_stateLimits), ("loop.example/transitfares/impl.sumSteps", Rows.laid_loop_example_transitfares_impl_sumSteps)] W := hL
    unfold laidMetH at h
    exact h
  have hv0 : Limits W := limits_of_head rfl hL0
  have hv1 : Steps W := steps_of_head rfl hL0.tail
  have hW' := hW
  obtain ⟨p, q, hA0, hV, rfl, _, _⟩ := hW
  have hA : DataW.TrodAll enc Tryd.prog W 0 (fun _ => true) true Tryd.f5.params.toList args.toList ds p := hA0
  rw [Tryd.params5] at hA hval
  obtain ⟨v0, vs0, d0, ds0, p0, q0, hargs, rfl, rfl, h0, r0⟩ := trodAll_cons hA
  obtain ⟨rfl, rfl, rfl⟩ := trodAll_nil r0
  obtain rfl : args = #[v0] := by cases args; simp_all
  obtain ⟨g1, g2, rfl⟩ := vars2 hV
  clear hA0
  have hlt : ∀ x ∈ (p0 ++ []), x.block < W.heap.size := fun x hx => hW'.lt x (List.mem_append_left _ hx)
  have k0 := fun (W' : World) (hn : Below W.heap.size W W') => Below.trod Cells.laidOut (by kernel_rfl) (of_decide_eq_true (by kernel_rfl)) h0 hn (fun x hx => hlt x (by simp [hx]))
  obtain ⟨a0, len, cap, rfl⟩ := okWide_slice Tryd.underlying22 (hval 0 22 v0 rfl rfl)
  have hb := (opened h0 (fun x hx => hlt x (by simp [hx]))).1
  refine (walk W a0 len cap hb hv0 hv1).mono fun e W' ⟨he, hnx⟩ => ?_
  subst he
  exact ⟨_, rfl, _, _, _, [], (p0 ++ []), q, hW', trodAll_mk1 (shut_bool Tryd.underlying4 _), (trodAll_cons_mk (k0 _ hnx) trodAll_mk0), Below.trodVars Cells.laidOut hnx (by kernel_rfl) hV, hnx.frame _, fun h => by cases h⟩

/-- A world in which the tables lie. -/
noncomputable def laidWorld (os : Os) : World :=
  { World.holding Tryd.prog os ⟨#[], #[], []⟩ with heap := (((World.holding Tryd.prog os ⟨#[], #[], []⟩).heap).modify 0 (fun x => match x with | .cells _ t frozen => .cells limitCells t frozen | o => o)).modify 1 (fun x => match x with | .cells _ t frozen => .cells stepCells t frozen | o => o) }
theorem laid_met (os : Os) : laidMet Tryd.prog Rows.fnRunEventsTriesRow.laid ((laidWorld os).forCall (fun _ _ => 0) ⟨#[], #[.slice none 0 0], []⟩).memory :=
  laidMet_of_run' 8 (by kernel_rfl) (by kernel_rfl)
theorem reads (os : Os) {H : Type} (enc : TypeId × Value → H) : ∃ places, DataW.whole enc Tryd.prog ((laidWorld os).forCall (fun _ _ => 0) ⟨#[], #[.slice none 0 0], []⟩).memory Tryd.f5.params.toList Rows.fnRunEventsTriesSpec.vars false (#[.slice none 0 0] : Array Value).toList 8 = some ([.nil], [Rows.laid_loop_example_transitfares_impl_stateLimits, Rows.laid_loop_example_transitfares_impl_sumSteps], places) :=
  ⟨MemPlace.row ⟨0, 0, none⟩ 24 ++ MemPlace.row ⟨1, 0, none⟩ 24, by kernel_rfl⟩
set_option maxRecDepth 100000 in
theorem lifted (os : Os) (started : os.Started) (H : Type) (enc : TypeId × Value → H) (F : Stop.Interp) :
    ReturnsInHanded {} Tryd.checked os 5 .any ((OpenSpec.ofChange Rows.fnRunEventsTriesSpec).preRow enc Tryd.prog Tryd.f5 Rows.fnRunEventsTriesRow.domain false Rows.fnRunEventsTriesRow.laid) (((OpenSpec.ofChange Rows.fnRunEventsTriesSpec).at F).post enc Tryd.prog Tryd.f5 false true false false) := by
  obtain ⟨places, hx⟩ := reads os enc
  refine returnsInHanded_of_row (C := Tryd.checked) (s := OpenSpec.ofChange Rows.fnRunEventsTriesSpec) Cells.own started (by kernel_rfl) Tryd.func5
    (witness_row_at (enc := enc) (C := Tryd.checked) false (laidWorld os) #[.slice none 0 0] rfl (by kernel_rfl) (by kernel_rfl) (by kernel_rfl)
      (OpenSpec.preRow_of_cond 8 hx (by kernel_rfl) (fun k hk => by cases hk) (by kernel_rfl) (laid_met os))) ?_
  intro W base args ds gs before hval hW _ _ _ hL _ _
  exact contract H enc W base args ds gs before hval hW hL
theorem said : Rows.FnRunEventsTriesSaid :=
  OpenClaim.holds_of_cond 5 Tryd.f5 rfl rfl rfl rfl rfl rfl rfl ⟨rfl, rfl, rfl, rfl, rfl⟩ rfl rfl rfl rfl rfl (by kernel_rfl) Tryd.func5 (by kernel_rfl)
    (of_decide_eq_true (by kernel_rfl)) (by unfold Func.isWrapper; first | (rw [if_pos (by decide +kernel)]; kernel_rfl) | (rw [if_neg (by decide +kernel)]; exact ⟨rfl, rfl⟩))
    (fun os started H enc _ F => by rw [OpenClaim.pre_eq_preRow]; exact lifted os started H enc F)
theorem plain (f : FuncId) (fn : Func) (hf : Tryd.pinned.checked.prog.funcNamed "loop.example/transitfares/laws.FnRunEventsTries" = some f) (hfn : Tryd.pinned.checked.prog.funcs[f]? = some fn) :
    false = Tryd.pinned.checked.prog.looks [] ∧ ∀ (j : Nat) t, fn.params[j]? = some t → Tryd.pinned.checked.prog.wantsStandIn t = false := by
  obtain rfl : f = 5 := Option.some.inj ((show Tryd.prog.funcNamed "loop.example/transitfares/laws.FnRunEventsTries" = some 5 by kernel_rfl).symm.trans hf) |>.symm
  obtain rfl : fn = Tryd.f5 := (Option.some.inj (Tryd.func5.symm.trans hfn)).symm
  refine ⟨by kernel_rfl, fun j t ht => ?_⟩
  rw [Tryd.params5] at ht
  have hm : t ∈ [22] := by simpa using Array.mem_of_getElem? ht
  have hall : ([22].all fun u => !Tryd.prog.wantsStandIn u) = true := by kernel_rfl
  exact (show Tryd.prog.wantsStandIn t = false by simpa using List.all_eq_true.1 hall t hm)
/-- THE STATEMENT: the tied card -/
theorem proved : Rows.FnRunEventsTriesCardSaid :=
  Claim7.holds_tied_plain_at .later [] _ _ _ _ said (fun _ h => by cases h) (by kernel_rfl) (fun _ h => by cases h) fnRunEventsTries_row_tie rfl ⟨rfl, rfl⟩ (by kernel_rfl) rfl plain (by kernel_rfl)
#print axioms proved
end Go.Proofs.YtpdlngekeeaocabDoor.fnRunEventsTries
