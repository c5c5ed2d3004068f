/-
  The model's RunEvents.
-/
import Derived.Test.YtpdlngekeeaocabDoorAggRun
import Derived.Test.YtpdlngekeeaocabDoorAggBox
import Derived.Test.YtpdlngekeeaocabDoorReg
import Derived.Deep.RegionHeld3
set_option linter.unusedSimpArgs false
namespace Go.Proofs.YtpdlngekeeaocabDoor
open Go.RowKit
set_option linter.unusedVariables false

set_option maxRecDepth 100000 in
set_option maxHeartbeats 4000000 in
theorem specRunEvents_any (x : Fares.Sum) (A : Option Addr) (n c : Nat) (l : List Fares.Event) (w : World) (hx : Events w w.heap.size A l) (hn : l.length = n) (hl : n ≤ 1000000000) :
    Calls Tryd.prog 16 #[sumV x, .slice A n c] w (RunOut w (Fares.runEvents x l)) := by
  subst hn
  obtain ⟨P, hP⟩ : ∃ P, P = Fares.runEvents x l := ⟨_, rfl⟩
  rw [← hP]
  have HP := Lib.hid hP; clear hP
  have HX := Lib.hid hx; clear hx
  have C1 : Hid (∀ W, Calls Tryd.prog 29 #[.agg #[.int .i64 x.s, .int .i64 x.a, .int .i64 x.t]] W fun e w' => e = .returned (.bool (Fares.validSum x)) ∧ Below W.heap.size W w') := fun W => specvalidSum_any x W
  have Hnew : Hid (∀ W : World, Blk ((W.alloc (.cells #[.int .i64 x.s, .int .i64 x.a, .int .i64 x.t] 24)).alloc (.cells #[.int .i64 0, .int .i64 0, .int .i64 0] 24)) W.heap.size 24 #[.int .i64 x.s, .int .i64 x.a, .int .i64 x.t]
      ∧ Blk ((W.alloc (.cells #[.int .i64 x.s, .int .i64 x.a, .int .i64 x.t] 24)).alloc (.cells #[.int .i64 0, .int .i64 0, .int .i64 0] 24)) (W.heap.size + 1) 24 #[.int .i64 0, .int .i64 0, .int .i64 0]) := fun W =>
    ⟨(Blk.new W _ _).alloc _, by have := Blk.new (W.alloc (.cells #[.int .i64 x.s, .int .i64 x.a, .int .i64 x.t] 24)) 24 #[.int .i64 0, .int .i64 0, .int .i64 0]; simpa using this⟩
  have Hbel : Hid (∀ W : World, Below W.heap.size W ((W.alloc (.cells #[.int .i64 x.s, .int .i64 x.a, .int .i64 x.t] 24)).alloc (.cells #[.int .i64 0, .int .i64 0, .int .i64 0] 24))) := fun W => bA (bA (Below.refl _ _) _) _
  unfold sumV
  go_enter Tryd.func16, Tryd.ntmps16
  go_wp2_with fail
  refine (C1.out _).mono ?_
  rintro r w1 ⟨rfl, hb1⟩
  obtain ⟨B0, B1⟩ := Hnew.out w
  have HB0 := Lib.hid (B0.below hb1 (by simp; omega))
  have HB1 := Lib.hid (B1.below hb1 (by simp))
  have Hbb := Lib.hid (bT (Hbel.out w) hb1)
  clear B0 B1 hb1 Hnew Hbel C1
  have hz1 := HB1.out.lt
  have hz10 : w.heap.size < w1.heap.size := by omega
  have Hset : Hid (∀ g i u W, w.heap.size ≤ g → Below w.heap.size w W → Below w.heap.size w (W.setCell ⟨g, i, none⟩ u)) := fun g i u W hg h => bS h hg _
  have a0 := HB0.out.cell 0
  have a1 := HB0.out.cell 1
  have a2 := HB0.out.cell 2
  simp at a0 a1 a2
  have b0 := HB1.out.cell 0
  have b1 := HB1.out.cell 1
  have b2 := HB1.out.cell 2
  simp at b0 b1 b2
  have fb0 := HB1.out.free 0
  have fb1 := HB1.out.free 1
  have fb2 := HB1.out.free 2
  cases hv : Fares.validSum x with
  | false =>
    have E : Hid (P = (⟨0, 0, 0⟩, -1)) := HP.out.trans (runEvents_bad (.inl hv))
    clear hv
    go_wp2
    exact bodyPost_ret (v := .tuple #[sumV ⟨0, 0, 0⟩, .int .i64 (-1)]) (by simp [results, Tryd.results16, go_sem, sumV, b0, b1, b2]) rfl ⟨by rw [E.out], Hset.out _ _ _ _ (by omega) (Hset.out _ _ _ _ (by omega) (Hset.out _ _ _ _ (by omega) Hbb.out))⟩
  | true =>
    have HV := Lib.hid hv; clear hv
    by_cases h20 : 20 < l.length
    · have d20 : decide ((20 : Int) < (l.length : Int)) = true := decide_eq_true (by omega)
      have E : Hid (P = (⟨0, 0, 0⟩, -1)) := HP.out.trans (runEvents_bad (.inr h20))
      go_wp2
      exact bodyPost_ret (v := .tuple #[sumV ⟨0, 0, 0⟩, .int .i64 (-1)]) (by simp [results, Tryd.results16, go_sem, sumV, b0, b1, b2]) rfl ⟨by rw [E.out], Hset.out _ _ _ _ (by omega) (Hset.out _ _ _ _ (by omega) (Hset.out _ _ _ _ (by omega) Hbb.out))⟩
    · have d20 : decide ((20 : Int) < (l.length : Int)) = false := decide_eq_false (by omega)
      have E : Hid (P = Fares.runAll x l) := HP.out.trans (runEvents_ok HV.out (by omega))
      go_wp2
      clear a0 a1 a2 b0 b1 b2 fb0 fb1 fb2
      go_loopw [7, 6] (fun i m wr => ∃ k : Nat, k ≤ l.length ∧ i = .int .i64 k ∧ m = .int .i64 (Fares.runAll x (l.take k)).2 ∧ Below w.heap.size w wr ∧ Blk wr w.heap.size 24 #[.int .i64 (Fares.runAll x (l.take k)).1.s, .int .i64 (Fares.runAll x (l.take k)).1.a, .int .i64 (Fares.runAll x (l.take k)).1.t] ∧ Blk wr (w.heap.size + 1) 24 #[.int .i64 0, .int .i64 0, .int .i64 0]) (fun i _ _ => l.length - (intOf i).toNat)
      case atStart => exact ⟨0, Nat.zero_le _, rfl, rfl, Hbb.out, HB0.out, HB1.out⟩
      case round =>
        obtain ⟨k, hk, rfl, rfl, hb, hblk, hres⟩ := hrel
        have Hblk := Lib.hid hblk; clear hblk
        have Hres := Lib.hid hres; clear hres
        obtain ⟨Y, hY⟩ : ∃ Y, Y = Fares.runAll x (l.take k) := ⟨_, rfl⟩
        rw [← hY] at Hblk ⊢
        have hrange := Fares.runAll_range x (l.take k)
        rw [← hY] at hrange
        have hr0 : 0 ≤ Y.2 := hrange.1
        have hr1 : Y.2 ≤ 20 := by
          have := List.length_take_le k l
          omega
        have hYv : Hid (Fares.validSum Y.1 = true) := by
          show Fares.validSum Y.1 = true
          rw [hY]; exact Fares.runAll_valid _ HV.out
        have HY := Lib.hid hY; clear hY hrange
        have hzr := Hres.out.lt
        have hzr0 : w.heap.size < wr.heap.size := by omega
        have a0 := Hblk.out.cell 0
        have a1 := Hblk.out.cell 1
        have a2 := Hblk.out.cell 2
        simp at a0 a1 a2
        have fa0 := Hblk.out.free 0
        have fa1 := Hblk.out.free 1
        have fa2 := Hblk.out.free 2
        have b0 := Hres.out.cell 0
        have b1 := Hres.out.cell 1
        have b2 := Hres.out.cell 2
        simp at b0 b1 b2
        have fb0 := Hres.out.free 0
        have fb1 := Hres.out.free 1
        have fb2 := Hres.out.free 2
        by_cases hlt : k < l.length
        · obtain ⟨e, hek⟩ : ∃ e, l[k]? = some e := ⟨_, List.getElem?_eq_getElem hlt⟩
          obtain ⟨bE, oE, rfl, hbE, hrE⟩ := HX.out.row (by omega)
          have HEv := Lib.hid (hrE k e hek)
          have Hk := Lib.hid hek; clear hek hrE
          have i0 : (0 : Int) ≤ (k : Int) := by omega
          have i1 : (k : Int) < (l.length : Int) := by omega
          obtain ⟨Q, hQ⟩ : ∃ Q, Q = Fares.step Y.1 e := ⟨_, rfl⟩
          have HQ := Lib.hid hQ; clear hQ
          have hnx : Hid (Fares.runAll x (l.take (k + 1)) = if Q.2 then (Q.1, Y.2 + 1) else Y) := by
            show Fares.runAll x (l.take (k + 1)) = _
            rw [Fares.runAll_next Hk.out, ← HY.out, HQ.out]
            rfl
          have HBr := Lib.hid hb; clear hb
          have HXr : Hid (Blk wr w.heap.size 24 (AggR.cells Y.1)) := Hblk
          have HRr : Hid (Blk wr (w.heap.size + 1) 24 (AggR.cells (⟨0, 0, 0⟩ : Fares.Sum))) := Hres
          clear Hblk Hres a0 a1 a2 fa0 fa1 fa2 b0 b1 b2 fb0 fb1 fb2
          have hz20 := hzr
          go_wp2
          refine wp_region_held_drew (S := fun w' => (w'.cell? ⟨w.heap.size, 0, none⟩ = some (.int .i64 Y.1.s) ∧ w'.cell? ⟨w.heap.size, 1, none⟩ = some (.int .i64 Y.1.a) ∧ w'.cell? ⟨w.heap.size, 2, none⟩ = some (.int .i64 Y.1.t)) ∧ w'.cell? ⟨bE, oE + k * 2, none⟩ = some (.int .i64 e.k) ∧ w'.cell? ⟨bE, oE + k * 2 + 1, none⟩ = some (.int .i64 e.a)) (by kernel_rfl) (by exact ⟨aggCells HXr.out, HEv.out.below (bD1 HBr.out) hbE⟩) (fun hS => ?_)
          refine take_at 0 26 (v := ?_) rfl rfl (by kernel_rfl) (by kernel_rfl) (by kernel_rfl) (fun _ _ _ h => h) (by rfl) ?_ hS ?_
          rotate_left 1
          · (intro w hSw; (try dsimp only at hSw); (try go_split_ands); go_simp; try with_reducible rfl)
          simp only [List.setIfInBounds_toArray, List.set_cons_zero, List.set_cons_succ]
          refine take_at 1 27 (v := ?_) rfl rfl (by kernel_rfl) (by kernel_rfl) (by kernel_rfl) (fun _ _ _ h => h) (by rfl) ?_ hS ?_
          rotate_left 1
          · (intro w hSw; (try dsimp only at hSw); (try go_split_ands); go_simp; try with_reducible rfl)
          simp only [List.setIfInBounds_toArray, List.set_cons_zero, List.set_cons_succ]
          refine take_at 2 28 (v := ?_) rfl rfl (by kernel_rfl) (by kernel_rfl) (by kernel_rfl) (fun _ _ _ h => h) (by rfl) ?_ hS ?_
          rotate_left 1
          · (intro w hSw; (try dsimp only at hSw); (try go_split_ands); go_simp; try with_reducible rfl)
          simp only [List.setIfInBounds_toArray, List.set_cons_zero, List.set_cons_succ]
          refine take_at 3 29 (v := ?_) rfl rfl (by kernel_rfl) (by kernel_rfl) (by kernel_rfl) (fun _ _ _ h => h) (by rfl) ?_ hS ?_
          rotate_left 1
          · (intro w hSw; (try dsimp only at hSw); (try go_split_ands); go_simp; try with_reducible rfl)
          simp only [List.setIfInBounds_toArray, List.set_cons_zero, List.set_cons_succ]
          refine take_at 4 30 (v := ?_) rfl rfl (by kernel_rfl) (by kernel_rfl) (by kernel_rfl) (fun _ _ _ h => h) (by rfl) ?_ hS ?_
          rotate_left 1
          · (intro w hSw; (try dsimp only at hSw); (try go_split_ands); go_simp; try with_reducible rfl)
          simp only [List.setIfInBounds_toArray, List.set_cons_zero, List.set_cons_succ]
          refine wpAnyH_ready (rs := [5, 9]) (by kernel_rfl) (by simp) ?_
          refine AllReadyH.cons rfl (fun K hK => ?_) (AllReadyH.cons rfl (fun K hK => ?_) (AllReadyH.nil))
          · go_simp
            go_wp2_with fail
            refine (step_cells Y.1 e Q HQ.out hYv.out _).mono ?_
            rintro e w21 ⟨rfl, hb21⟩
            have hz21 : wr.heap.size ≤ w21.heap.size := by have := hb21.size; (try simp at this); omega
            have HB21 := Lib.hid (bT (bD1 HBr.out) hb21)
            clear HBr
            have HX21 := Lib.hid (Blk.belowAll (blkDrew HXr.out) hb21)
            clear HXr
            have HR21 := Lib.hid (Blk.belowAll (blkDrew HRr.out) hb21)
            clear HRr
            clear hb21
            go_simp
            refine hK.out _ _ (by exact ⟨aggCells HX21.out, HEv.out.below HB21.out hbE⟩) (fun hS => ?_)
            clear hK K
            refine take_at 6 25 (v := ?_) rfl rfl (by kernel_rfl) (by kernel_rfl) (by kernel_rfl) (fun _ _ _ h => h) (by rfl) ?_ hS ?_
            rotate_left 1
            · (intro w hSw; (try dsimp only at hSw); (try go_split_ands); go_simp; try with_reducible rfl)
            simp only [List.setIfInBounds_toArray, List.set_cons_zero, List.set_cons_succ]
            refine take_at 7 32 (v := ?_) rfl rfl (by kernel_rfl) (by kernel_rfl) (by kernel_rfl) (fun _ _ _ h => h) (by rfl) ?_ hS ?_
            rotate_left 1
            · (intro w hSw; (try dsimp only at hSw); (try go_split_ands); go_simp; try with_reducible rfl)
            simp only [List.setIfInBounds_toArray, List.set_cons_zero, List.set_cons_succ]
            refine take_at 8 33 (v := ?_) rfl rfl (by kernel_rfl) (by kernel_rfl) (by kernel_rfl) (fun _ _ _ h => h) (by rfl) ?_ hS ?_
            rotate_left 1
            · (intro w hSw; (try dsimp only at hSw); (try go_split_ands); go_simp; try with_reducible rfl)
            simp only [List.setIfInBounds_toArray, List.set_cons_zero, List.set_cons_succ]
            refine wpAnyH_ready (rs := [9]) (by kernel_rfl) (by simp) ?_
            refine AllReadyH.cons rfl (fun K hK => ?_) (AllReadyH.nil)
            go_simp
            generalize hW : World.alloc _ _ = w22
            have hbx22 : Blk w22 w21.heap.size 24 (AggR.cells (⟨0, 0, 0⟩ : Fares.Sum)) := by rw [← hW]; exact Blk.new' (by simp)
            have hb22 : Below w21.heap.size w21 w22 := by rw [← hW]; exact bA (Below.refl _ _) _
            have hy22 : w21.heap.size < w22.heap.size := by rw [← hW]; simp
            clear hW
            have hz22 : w21.heap.size ≤ w22.heap.size := by have := hb22.size; (try simp at this); omega
            have HB22 := Lib.hid (bT HB21.out hb22)
            clear HB21
            have HX22 := Lib.hid (Blk.belowAll HX21.out hb22)
            clear HX21
            have HR22 := Lib.hid (Blk.belowAll HR21.out hb22)
            clear HR21
            clear hb22
            have Hbx22 := Lib.hid hbx22; clear hbx22
            obtain ⟨cN22_0, cN22_1, cN22_2⟩ := aggCells (t := 24) (v := (⟨0, 0, 0⟩ : Fares.Sum)) Hbx22.out
            have frN22_0 := (Hbx22.out).free 0
            have frN22_1 := (Hbx22.out).free 1
            have frN22_2 := (Hbx22.out).free 2
            refine hK.out _ _ (by exact ⟨aggCells HX22.out, HEv.out.below HB22.out hbE⟩) (fun hS => ?_)
            clear hK K
            refine wpAnyH_ready (rs := [10]) (by kernel_rfl) (by simp) ?_
            refine AllReadyH.cons rfl (fun K hK => ?_) (AllReadyH.nil)
            go_simp
            generalize hW : World.setCell _ _ _ = w23
            have ht23 : Touch (fun i => i = w21.heap.size) w22 w23 := by rw [← hW]; exact (Touch.far (K := fun i => i = w21.heap.size) (Touch.far (K := fun i => i = w21.heap.size) (Touch.far (K := fun i => i = w21.heap.size) (Touch.refl _ _) (p := ⟨w21.heap.size, 0, none⟩) rfl _) (p := ⟨w21.heap.size, 1, none⟩) rfl _) (p := ⟨w21.heap.size, 2, none⟩) rfl _)
            have hbx23 : Blk w23 (w21.heap.size) 24 (AggR.cells Q.1) := by rw [← hW]; exact (Blk.put (Blk.put (Blk.put Hbx22.out 0 (.int .i64 Q.1.s)) 1 (.int .i64 Q.1.a)) 2 (.int .i64 Q.1.t))
            clear hW
            clear cN22_0 cN22_1 cN22_2 frN22_0 frN22_1 frN22_2
            have hz23 : w22.heap.size ≤ w23.heap.size := by have := ht23.size; (try simp at this); omega
            have HB23 := Lib.hid (Touch.below HB22.out ht23 (fun i hi => by omega))
            clear HB22
            have HX23 := Lib.hid (Blk.touch HX22.out ht23 (show ¬ (w.heap.size = w21.heap.size) by omega))
            clear HX22
            have HR23 := Lib.hid (Blk.touch HR22.out ht23 (show ¬ (w.heap.size + 1 = w21.heap.size) by omega))
            clear HR22
            clear ht23 Hbx22
            have Hbx23 := Lib.hid hbx23; clear hbx23
            refine hK.out _ _ (by exact ⟨aggCells HX23.out, HEv.out.below HB23.out hbE⟩) (fun hS => ?_)
            clear hK K
            refine take_at 11 9 (v := ?_) rfl rfl (by kernel_rfl) (by kernel_rfl) (by kernel_rfl) (fun _ _ _ h => h) (by rfl) ?_ hS ?_
            rotate_left 1
            · (intro w hSw; (try dsimp only at hSw); (try go_split_ands); go_simp; try with_reducible rfl)
            simp only [List.setIfInBounds_toArray, List.set_cons_zero, List.set_cons_succ]
            refine wpAnyH_done (by kernel_rfl) ?_ _
            clear hS
            obtain ⟨cN23_0, cN23_1, cN23_2⟩ := aggCells (t := 24) (v := Q.1) Hbx23.out
            obtain ⟨cX23_0, cX23_1, cX23_2⟩ := aggCells (t := 24) (v := Y.1) HX23.out
            have frX23_0 := (HX23.out).free 0
            have frX23_1 := (HX23.out).free 1
            have frX23_2 := (HX23.out).free 2
            cases hq : Q.2
            · have hny := hnx.out
              rw [hq, if_neg (by simp)] at hny
              have Hny := Lib.hid hny; clear hny
              go_wp2
              go_roundw
              case rel => exact ⟨k + 1, by omega, by go_num, by rw [Hny.out], HB23.out, by rw [Hny.out]; exact HX23.out, HR23.out⟩
              case measure => simp [intOf]; omega
            · have hny := hnx.out
              rw [hq, if_pos rfl] at hny
              have Hny := Lib.hid hny; clear hny
              have W1 : IntKind.i64.wrap (Y.2 + 1) = Y.2 + 1 := IntWalk.i64_in _ (by omega)
              go_wp2
              generalize hW : World.setCell _ _ _ = w24
              have ht24 : Touch (fun i => i = w.heap.size) w23 w24 := by rw [← hW]; exact (Touch.far (K := fun i => i = w.heap.size) (Touch.far (K := fun i => i = w.heap.size) (Touch.far (K := fun i => i = w.heap.size) (Touch.refl _ _) (p := ⟨w.heap.size, 0, none⟩) rfl _) (p := ⟨w.heap.size, 1, none⟩) rfl _) (p := ⟨w.heap.size, 2, none⟩) rfl _)
              have hbx24 : Blk w24 (w.heap.size) 24 (AggR.cells Q.1) := by rw [← hW]; exact (Blk.put (Blk.put (Blk.put HX23.out 0 (.int .i64 Q.1.s)) 1 (.int .i64 Q.1.a)) 2 (.int .i64 Q.1.t))
              clear hW
              clear cN23_0 cN23_1 cN23_2 cX23_0 cX23_1 cX23_2 frX23_0 frX23_1 frX23_2
              have hz24 : w23.heap.size ≤ w24.heap.size := by have := ht24.size; (try simp at this); omega
              have HB24 := Lib.hid (Touch.below HB23.out ht24 (fun i hi => by omega))
              clear HB23
              have HR24 := Lib.hid (Blk.touch HR23.out ht24 (show ¬ (w.heap.size + 1 = w.heap.size) by omega))
              clear HR23
              have HN24 := Lib.hid (Blk.touch Hbx23.out ht24 (show ¬ (w21.heap.size = w.heap.size) by omega))
              clear Hbx23
              clear ht24 HX23
              have Hbx24 := Lib.hid hbx24; clear hbx24
              go_roundw
              case rel => exact ⟨k + 1, by omega, by go_num, by rw [Hny.out], HB24.out, by rw [Hny.out]; exact Hbx24.out, HR24.out⟩
              case measure => simp [intOf]; omega
          · go_simp
            generalize hW : World.alloc _ _ = w21
            have hbx21 : Blk w21 wr.heap.size 24 (AggR.cells (⟨0, 0, 0⟩ : Fares.Sum)) := by rw [← hW]; exact Blk.new' (by simp)
            have hb21 : Below wr.heap.size wr w21 := by rw [← hW]; exact bA (Below.refl _ _) _
            have hy21 : wr.heap.size < w21.heap.size := by rw [← hW]; simp
            clear hW
            have hz21 : wr.heap.size ≤ w21.heap.size := by have := hb21.size; (try simp at this); omega
            have HB21 := Lib.hid (bT HBr.out hb21)
            clear HBr
            have HX21 := Lib.hid (Blk.belowAll HXr.out hb21)
            clear HXr
            have HR21 := Lib.hid (Blk.belowAll HRr.out hb21)
            clear HRr
            clear hb21
            have Hbx21 := Lib.hid hbx21; clear hbx21
            obtain ⟨cN21_0, cN21_1, cN21_2⟩ := aggCells (t := 24) (v := (⟨0, 0, 0⟩ : Fares.Sum)) (blkDrew Hbx21.out)
            have frN21_0 := ((blkDrew Hbx21.out)).free 0
            have frN21_1 := ((blkDrew Hbx21.out)).free 1
            have frN21_2 := ((blkDrew Hbx21.out)).free 2
            refine hK.out _ _ (by exact ⟨aggCells (blkDrew HX21.out), HEv.out.below (bD1 HB21.out) hbE⟩) (fun hS => ?_)
            clear hK K
            refine wpAnyH_ready (rs := [5]) (by kernel_rfl) (by simp) ?_
            refine AllReadyH.cons rfl (fun K hK => ?_) (AllReadyH.nil)
            go_simp
            go_wp2_with fail
            refine (step_cells Y.1 e Q HQ.out hYv.out _).mono ?_
            rintro e w22 ⟨rfl, hb22⟩
            clear cN21_0 cN21_1 cN21_2 frN21_0 frN21_1 frN21_2
            have hz22 : w21.heap.size ≤ w22.heap.size := by have := hb22.size; (try simp at this); omega
            have HB22 := Lib.hid (bT (bD1 HB21.out) hb22)
            clear HB21
            have HX22 := Lib.hid (Blk.belowAll (blkDrew HX21.out) hb22)
            clear HX21
            have HR22 := Lib.hid (Blk.belowAll (blkDrew HR21.out) hb22)
            clear HR21
            have HN22 := Lib.hid (Blk.belowAll (blkDrew Hbx21.out) hb22)
            clear Hbx21
            clear hb22
            obtain ⟨cN22_0, cN22_1, cN22_2⟩ := aggCells (t := 24) (v := (⟨0, 0, 0⟩ : Fares.Sum)) HN22.out
            have frN22_0 := (HN22.out).free 0
            have frN22_1 := (HN22.out).free 1
            have frN22_2 := (HN22.out).free 2
            go_simp
            refine hK.out _ _ (by exact ⟨aggCells HX22.out, HEv.out.below HB22.out hbE⟩) (fun hS => ?_)
            clear hK K
            refine take_at 6 25 (v := ?_) rfl rfl (by kernel_rfl) (by kernel_rfl) (by kernel_rfl) (fun _ _ _ h => h) (by rfl) ?_ hS ?_
            rotate_left 1
            · (intro w hSw; (try dsimp only at hSw); (try go_split_ands); go_simp; try with_reducible rfl)
            simp only [List.setIfInBounds_toArray, List.set_cons_zero, List.set_cons_succ]
            refine take_at 7 32 (v := ?_) rfl rfl (by kernel_rfl) (by kernel_rfl) (by kernel_rfl) (fun _ _ _ h => h) (by rfl) ?_ hS ?_
            rotate_left 1
            · (intro w hSw; (try dsimp only at hSw); (try go_split_ands); go_simp; try with_reducible rfl)
            simp only [List.setIfInBounds_toArray, List.set_cons_zero, List.set_cons_succ]
            refine take_at 8 33 (v := ?_) rfl rfl (by kernel_rfl) (by kernel_rfl) (by kernel_rfl) (fun _ _ _ h => h) (by rfl) ?_ hS ?_
            rotate_left 1
            · (intro w hSw; (try dsimp only at hSw); (try go_split_ands); go_simp; try with_reducible rfl)
            simp only [List.setIfInBounds_toArray, List.set_cons_zero, List.set_cons_succ]
            refine wpAnyH_ready (rs := [10]) (by kernel_rfl) (by simp) ?_
            refine AllReadyH.cons rfl (fun K hK => ?_) (AllReadyH.nil)
            go_simp
            generalize hW : World.setCell _ _ _ = w23
            have ht23 : Touch (fun i => i = wr.heap.size) w22 w23 := by rw [← hW]; exact (Touch.far (K := fun i => i = wr.heap.size) (Touch.far (K := fun i => i = wr.heap.size) (Touch.far (K := fun i => i = wr.heap.size) (Touch.refl _ _) (p := ⟨wr.heap.size, 0, none⟩) rfl _) (p := ⟨wr.heap.size, 1, none⟩) rfl _) (p := ⟨wr.heap.size, 2, none⟩) rfl _)
            have hbx23 : Blk w23 (wr.heap.size) 24 (AggR.cells Q.1) := by rw [← hW]; exact (Blk.put (Blk.put (Blk.put HN22.out 0 (.int .i64 Q.1.s)) 1 (.int .i64 Q.1.a)) 2 (.int .i64 Q.1.t))
            clear hW
            clear cN22_0 cN22_1 cN22_2 frN22_0 frN22_1 frN22_2
            have hz23 : w22.heap.size ≤ w23.heap.size := by have := ht23.size; (try simp at this); omega
            have HB23 := Lib.hid (Touch.below HB22.out ht23 (fun i hi => by omega))
            clear HB22
            have HX23 := Lib.hid (Blk.touch HX22.out ht23 (show ¬ (w.heap.size = wr.heap.size) by omega))
            clear HX22
            have HR23 := Lib.hid (Blk.touch HR22.out ht23 (show ¬ (w.heap.size + 1 = wr.heap.size) by omega))
            clear HR22
            clear ht23 HN22
            have Hbx23 := Lib.hid hbx23; clear hbx23
            refine hK.out _ _ (by exact ⟨aggCells HX23.out, HEv.out.below HB23.out hbE⟩) (fun hS => ?_)
            clear hK K
            refine take_at 11 9 (v := ?_) rfl rfl (by kernel_rfl) (by kernel_rfl) (by kernel_rfl) (fun _ _ _ h => h) (by rfl) ?_ hS ?_
            rotate_left 1
            · (intro w hSw; (try dsimp only at hSw); (try go_split_ands); go_simp; try with_reducible rfl)
            simp only [List.setIfInBounds_toArray, List.set_cons_zero, List.set_cons_succ]
            refine wpAnyH_done (by kernel_rfl) ?_ _
            clear hS
            obtain ⟨cN23_0, cN23_1, cN23_2⟩ := aggCells (t := 24) (v := Q.1) Hbx23.out
            obtain ⟨cX23_0, cX23_1, cX23_2⟩ := aggCells (t := 24) (v := Y.1) HX23.out
            have frX23_0 := (HX23.out).free 0
            have frX23_1 := (HX23.out).free 1
            have frX23_2 := (HX23.out).free 2
            cases hq : Q.2
            · have hny := hnx.out
              rw [hq, if_neg (by simp)] at hny
              have Hny := Lib.hid hny; clear hny
              go_wp2
              go_roundw
              case rel => exact ⟨k + 1, by omega, by go_num, by rw [Hny.out], HB23.out, by rw [Hny.out]; exact HX23.out, HR23.out⟩
              case measure => simp [intOf]; omega
            · have hny := hnx.out
              rw [hq, if_pos rfl] at hny
              have Hny := Lib.hid hny; clear hny
              have W1 : IntKind.i64.wrap (Y.2 + 1) = Y.2 + 1 := IntWalk.i64_in _ (by omega)
              go_wp2
              generalize hW : World.setCell _ _ _ = w24
              have ht24 : Touch (fun i => i = w.heap.size) w23 w24 := by rw [← hW]; exact (Touch.far (K := fun i => i = w.heap.size) (Touch.far (K := fun i => i = w.heap.size) (Touch.far (K := fun i => i = w.heap.size) (Touch.refl _ _) (p := ⟨w.heap.size, 0, none⟩) rfl _) (p := ⟨w.heap.size, 1, none⟩) rfl _) (p := ⟨w.heap.size, 2, none⟩) rfl _)
              have hbx24 : Blk w24 (w.heap.size) 24 (AggR.cells Q.1) := by rw [← hW]; exact (Blk.put (Blk.put (Blk.put HX23.out 0 (.int .i64 Q.1.s)) 1 (.int .i64 Q.1.a)) 2 (.int .i64 Q.1.t))
              clear hW
              clear cN23_0 cN23_1 cN23_2 cX23_0 cX23_1 cX23_2 frX23_0 frX23_1 frX23_2
              have hz24 : w23.heap.size ≤ w24.heap.size := by have := ht24.size; (try simp at this); omega
              have HB24 := Lib.hid (Touch.below HB23.out ht24 (fun i hi => by omega))
              clear HB23
              have HR24 := Lib.hid (Blk.touch HR23.out ht24 (show ¬ (w.heap.size + 1 = w.heap.size) by omega))
              clear HR23
              have HN24 := Lib.hid (Blk.touch Hbx23.out ht24 (show ¬ (wr.heap.size = w.heap.size) by omega))
              clear Hbx23
              clear ht24 HX23
              have Hbx24 := Lib.hid hbx24; clear hbx24
              go_roundw
              case rel => exact ⟨k + 1, by omega, by go_num, by rw [Hny.out], HB24.out, by rw [Hny.out]; exact Hbx24.out, HR24.out⟩
              case measure => simp [intOf]; omega
        · have hE : Hid (P = Y) := by
            show P = Y
            rw [E.out, HY.out, List.take_of_length_le (by omega)]
          go_wp2
          exact bodyPost_ret (v := .tuple #[sumV Y.1, .int .i64 Y.2]) (by simp [results, Tryd.results16, go_sem, sumV, b0, b1, b2]) rfl ⟨by rw [hE.out], Hset.out _ _ _ _ (by omega) (Hset.out _ _ _ _ (by omega) (Hset.out _ _ _ _ (by omega) hb))⟩
end Go.Proofs.YtpdlngekeeaocabDoor
