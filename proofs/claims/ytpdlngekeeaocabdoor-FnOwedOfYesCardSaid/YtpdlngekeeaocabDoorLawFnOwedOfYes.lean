/-
  Paying settles what is owed: for every code, with the aggregate and the event drawn from it, the law FnOwedOfYes returns true and leaves the code as it was. The program's tables hold what its text lays in them.
-/
import Derived.Test.YtpdlngekeeaocabDoorCards
import Derived.Test.YtpdlngekeeaocabDoorTie
import Derived.Test.YtpdlngekeeaocabDoorOpen
import Derived.Test.YtpdlngekeeaocabDoorAggLaid
import Derived.Deep.DeepHandedRow
import Derived.Test.YtpdlngekeeaocabDoorAggBox2
import Derived.Test.YtpdlngekeeaocabDoorDrawsSum
import Derived.Test.YtpdlngekeeaocabDoorLiftBytes
import Derived.Test.YtpdlngekeeaocabDoorAggOwed
set_option linter.unusedSimpArgs false
namespace Go.Proofs.YtpdlngekeeaocabDoor.fnOwedOfYes
open Go.ChangeShapes Go.WideShapes Go.ChangeAt Go.RowKit
set_option linter.unusedVariables false

set_option maxRecDepth 100000 in
set_option maxHeartbeats 2000000 in
theorem walk (w : World) (A : Option Addr) (n c : Nat) (h : Bytes w w.heap.size A n c) (hL : Limits w) (hT : Steps w) : Calls Tryd.prog 9 #[.slice A n c] w (TrueBelow w) := by
  by_cases hn : 1048576 < n
  · go_enter Tryd.func9, Tryd.ntmps9
    go_wp2
    go_ret
    exact ⟨rfl, Below.refl _ _⟩
  · skip
    go_enter Tryd.func9, Tryd.ntmps9
    have HL := Lib.hid hL; clear hL
    have HT := Lib.hid hT; clear hT
    go_wp2_with fail
    refine (drawStepSum_any A n c w h).mono ?_
    rintro e w0 ⟨x, ev, rfl, hsm, hev, hc0⟩
    go_wp2_with fail
    generalize hW : World.alloc _ _ = w1
    have hba1 : Blk w1 (w0.heap.size) 24 (AggR.cells x) := by rw [← hW]; exact (Blk.new' (by simp)).alloc _
    have hbe1 : Blk w1 (w0.heap.size + 1) 26 (EvtR.cells ev) := by rw [← hW]; exact Blk.new' (by simp)
    have HB1 : Hid (Below w.heap.size w w1) := Lib.hid (by rw [← hW]; exact bA (bA (hc0) _) _)
    have hz1 : w0.heap.size + 1 < w1.heap.size := by rw [← hW]; simp
    have hz0 : w.heap.size ≤ w0.heap.size := hc0.size
    clear hW hc0
    have Hba1 := Lib.hid hba1; clear hba1
    have Hbe1 := Lib.hid hbe1; clear hbe1
    unfold aggSmall at hsm
    unfold evtSmall at hev
    obtain ⟨x1, x2, x3, x4, x5, x6⟩ := hsm
    obtain ⟨y1, y2, y3, y4⟩ := hev
    obtain ⟨⟨⟨s1, a1, t1⟩, ok⟩, hP⟩ : ∃ P, P = Fares.stepSum x ev := ⟨_, rfl⟩
    have HP := Lib.hid hP; clear hP
    refine (implStep_cells x ev s1 a1 t1 ok HP.out _ (Limits.below HL.out HB1.out) (Steps.below HT.out HB1.out)).mono ?_
    rintro e w2 ⟨rfl, hb2⟩
    have hz2 : w1.heap.size ≤ w2.heap.size := by have := hb2.size; (try simp at this); omega
    have Ha2 := Lib.hid (Blk.belowAll Hba1.out hb2)
    clear Hba1
    have He2 := Lib.hid (Blk.belowAll Hbe1.out hb2)
    clear Hbe1
    have HB2 := Lib.hid (bT HB1.out hb2)
    clear HB1
    clear hb2
    obtain ⟨ca2_0, ca2_1, ca2_2⟩ := aggCells (t := 24) (v := x) Ha2.out
    obtain ⟨ce2_0, ce2_1⟩ := evtCells (t := 26) (v := ev) He2.out
    have lta2 : w0.heap.size < w2.heap.size := by omega
    have lte2 : w0.heap.size + 1 < w2.heap.size := by omega
    go_wp2_with fail
    generalize hW : World.alloc _ _ = w3
    have hbx3 : Blk w3 w2.heap.size 24 (AggR.cells (⟨s1, a1, t1⟩ : Fares.Sum)) := by rw [← hW]; exact Blk.new' (by simp)
    have hb3 : Below w2.heap.size w2 w3 := by rw [← hW]; exact bA (Below.refl _ _) _
    have hy3 : w2.heap.size < w3.heap.size := by rw [← hW]; simp
    clear hW
    clear ca2_0 ca2_1 ca2_2 ce2_0 ce2_1 lta2 lte2
    have hz3 : w2.heap.size ≤ w3.heap.size := by have := hb3.size; (try simp at this); omega
    have Ha3 := Lib.hid (Blk.belowAll Ha2.out hb3)
    clear Ha2
    have He3 := Lib.hid (Blk.belowAll He2.out hb3)
    clear He2
    have HB3 := Lib.hid (bT HB2.out hb3)
    clear HB2
    clear hb3
    have Hbx3 := Lib.hid hbx3; clear hbx3
    refine (specStep_cells x ev s1 a1 t1 ok HP.out _).mono ?_
    rintro e w4 ⟨rfl, hb4⟩
    have hz4 : w3.heap.size ≤ w4.heap.size := by have := hb4.size; (try simp at this); omega
    have Ha4 := Lib.hid (Blk.belowAll Ha3.out hb4)
    clear Ha3
    have He4 := Lib.hid (Blk.belowAll He3.out hb4)
    clear He3
    have HB4 := Lib.hid (bT HB3.out hb4)
    clear HB3
    have Hb4 := Lib.hid (Blk.belowAll Hbx3.out hb4)
    clear Hbx3
    clear hb4
    obtain ⟨ca4_0, ca4_1, ca4_2⟩ := aggCells (t := 24) (v := x) Ha4.out
    obtain ⟨ce4_0, ce4_1⟩ := evtCells (t := 26) (v := ev) He4.out
    obtain ⟨cb4_0, cb4_1, cb4_2⟩ := aggCells (t := 24) (v := (⟨s1, a1, t1⟩ : Fares.Sum)) Hb4.out
    have lta4 : w0.heap.size < w4.heap.size := by omega
    have lte4 : w0.heap.size + 1 < w4.heap.size := by omega
    have ltb4 : w2.heap.size < w4.heap.size := by omega
    dsimp only at cb4_0 cb4_1 cb4_2
    obtain ⟨Na, hNa⟩ : ∃ N, N = Fares.owedOf x := ⟨_, rfl⟩
    obtain ⟨Nb, hNb⟩ : ∃ N, N = Fares.owedOf (⟨s1, a1, t1⟩ : Fares.Sum) := ⟨_, rfl⟩
    have CA : Hid (∀ W, Limits W → Calls Tryd.prog 21 #[.agg #[.int .i64 x.s, .int .i64 x.a, .int .i64 x.t]] W fun r w' => r = .returned (.int .i64 Na) ∧ Below W.heap.size W w') := fun W h => by rw [hNa]; exact implOwedOf_any x W h
    have CB : Hid (∀ W, Limits W → Calls Tryd.prog 21 #[.agg #[.int .i64 s1, .int .i64 a1, .int .i64 t1]] W fun r w' => r = .returned (.int .i64 Nb) ∧ Below W.heap.size W w') := fun W h => by rw [hNb]; exact implOwedOf_any (⟨s1, a1, t1⟩ : Fares.Sum) W h
    have ra := owed_range x
    rw [← hNa] at ra
    have rb := owed_range (⟨s1, a1, t1⟩ : Fares.Sum)
    rw [← hNb] at rb
    obtain ⟨ra0, ra1⟩ := ra
    obtain ⟨rb0, rb1⟩ := rb
    cases ok with
    | false =>
      have HF : Hid (okNums 0 0 0) := by show okNums 0 0 0; unfold okNums; omega
      go_wp2
      all_goals (go_ret; refine ⟨ret_bool ?_, bA HB4.out _⟩; have hf := HF.out; unfold okNums at hf; (try unfold stepNums at hf); clear HF; go_light; first | rfl | (exact (by rw [Bool.eq_iff_iff]; simp only [ge_iff_le, beq_iff_eq, beq_eq_false_iff_ne, ne_eq, Bool.not_eq_false', Bool.not_eq_eq_eq_not, Bool.not_true, Bool.not_false, decide_eq_true_eq, decide_eq_false_iff_not, Bool.and_eq_true, Bool.or_eq_true, Bool.false_eq_true, Bool.true_eq_false, Bool.not_eq_true', true_iff, iff_true, false_iff, iff_false, Bool.not_eq_true, Bool.not_eq_false, Bool.and_eq_false_imp] at *; omega)))
    | true =>
      have hw := owed_nums HP.out
      rw [← hNa, ← hNb] at hw
      have HW := Lib.hid hw; clear hw hNa hNb
      by_cases hk : ev.k = 4
      · have d4 : (ev.k == 4) = true := by simpa using hk
        obtain ⟨w1', w2'⟩ := HW.out.1 hk
        have dB : (Nb == 0) = true := by rw [beq_iff_eq]; exact w1'
        have dA : decide (0 < Na) = true := decide_eq_true w2'
        clear hk w1' w2'
        go_wp2_with fail
        generalize hW : World.alloc _ _ = w5
        have hbx5 : Blk w5 w4.heap.size 24 (AggR.cells (⟨s1, a1, t1⟩ : Fares.Sum)) := by rw [← hW]; exact Blk.new' (by simp)
        have hb5 : Below w4.heap.size w4 w5 := by rw [← hW]; exact bA (Below.refl _ _) _
        have hy5 : w4.heap.size < w5.heap.size := by rw [← hW]; simp
        clear hW
        clear ca4_0 ca4_1 ca4_2 ce4_0 ce4_1 cb4_0 cb4_1 cb4_2 lta4 lte4 ltb4
        have hz5 : w4.heap.size ≤ w5.heap.size := by have := hb5.size; (try simp at this); omega
        have Ha5 := Lib.hid (Blk.belowAll Ha4.out hb5)
        clear Ha4
        have He5 := Lib.hid (Blk.belowAll He4.out hb5)
        clear He4
        have HB5 := Lib.hid (bT HB4.out hb5)
        clear HB4
        have Hb5 := Lib.hid (Blk.belowAll Hb4.out hb5)
        clear Hb4
        clear hb5
        have Hbx5 := Lib.hid hbx5; clear hbx5
        refine (CB.out _ (Limits.below HL.out HB5.out)).mono ?_
        rintro e w6 ⟨rfl, hb6⟩
        have hz6 : w5.heap.size ≤ w6.heap.size := by have := hb6.size; (try simp at this); omega
        have Ha6 := Lib.hid (Blk.belowAll Ha5.out hb6)
        clear Ha5
        have He6 := Lib.hid (Blk.belowAll He5.out hb6)
        clear He5
        have HB6 := Lib.hid (bT HB5.out hb6)
        clear HB5
        have Hb6 := Lib.hid (Blk.belowAll Hb5.out hb6)
        clear Hb5
        have Hc6 := Lib.hid (Blk.belowAll Hbx5.out hb6)
        clear Hbx5
        clear hb6
        obtain ⟨ca6_0, ca6_1, ca6_2⟩ := aggCells (t := 24) (v := x) Ha6.out
        obtain ⟨cb6_0, cb6_1, cb6_2⟩ := aggCells (t := 24) (v := (⟨s1, a1, t1⟩ : Fares.Sum)) Hb6.out
        have lta6 : w0.heap.size < w6.heap.size := by omega
        have ltb6 : w2.heap.size < w6.heap.size := by omega
        go_wp2_with fail
        refine (CA.out _ (Limits.below HL.out HB6.out)).mono ?_
        rintro e w7 ⟨rfl, hb7⟩
        clear ca6_0 ca6_1 ca6_2 cb6_0 cb6_1 cb6_2 lta6 ltb6
        have hz7 : w6.heap.size ≤ w7.heap.size := by have := hb7.size; (try simp at this); omega
        have Ha7 := Lib.hid (Blk.belowAll Ha6.out hb7)
        clear Ha6
        have He7 := Lib.hid (Blk.belowAll He6.out hb7)
        clear He6
        have HB7 := Lib.hid (bT HB6.out hb7)
        clear HB6
        have Hb7 := Lib.hid (Blk.belowAll Hb6.out hb7)
        clear Hb6
        have Hc7 := Lib.hid (Blk.belowAll Hc6.out hb7)
        clear Hc6
        clear hb7
        go_wp2
        all_goals (go_ret; refine ⟨ret_bool ?_, HB7.out⟩; first | rfl | (simp; done))
      · have d4 : (ev.k == 4) = false := by rw [beq_eq_false_iff_ne]; exact hk
        go_wp2
        generalize hW : World.alloc _ _ = w5
        have hb5 : Below w4.heap.size w4 w5 := by rw [← hW]; exact bA (Below.refl _ _) _
        have hy5 : w4.heap.size < w5.heap.size := by rw [← hW]; simp
        clear hW
        clear ca4_0 ca4_1 ca4_2 ce4_0 ce4_1 cb4_0 cb4_1 cb4_2 lta4 lte4 ltb4
        have hz5 : w4.heap.size ≤ w5.heap.size := by have := hb5.size; (try simp at this); omega
        have Ha5 := Lib.hid (Blk.belowAll Ha4.out hb5)
        clear Ha4
        have He5 := Lib.hid (Blk.belowAll He4.out hb5)
        clear He4
        have HB5 := Lib.hid (bT HB4.out hb5)
        clear HB4
        have Hb5 := Lib.hid (Blk.belowAll Hb4.out hb5)
        clear Hb4
        clear hb5
        by_cases h1 : ev.k = 1
        · have d1 : (ev.k == 1) = true := by rw [beq_iff_eq]; exact h1
          clear h1
          refine wp_region_held_drew (S := fun w' => w'.cell? ⟨w2.heap.size, 0, none⟩ = some (.int .i64 s1) ∧ w'.cell? ⟨w2.heap.size, 1, none⟩ = some (.int .i64 a1) ∧ w'.cell? ⟨w2.heap.size, 2, none⟩ = some (.int .i64 t1) ∧ w'.cell? ⟨w0.heap.size, 0, none⟩ = some (.int .i64 x.s) ∧ w'.cell? ⟨w0.heap.size, 1, none⟩ = some (.int .i64 x.a) ∧ w'.cell? ⟨w0.heap.size, 2, none⟩ = some (.int .i64 x.t) ∧ w'.cell? ⟨w0.heap.size + 1, 0, none⟩ = some (.int .i64 ev.k) ∧ w'.cell? ⟨w0.heap.size + 1, 1, none⟩ = some (.int .i64 ev.a)) (by kernel_rfl) (by exact ⟨(aggCells Hb5.out).1, (aggCells Hb5.out).2.1, (aggCells Hb5.out).2.2, (aggCells Ha5.out).1, (aggCells Ha5.out).2.1, (aggCells Ha5.out).2.2, evtCells He5.out⟩) (fun hS => ?_)
          refine take_at 0 60 (v := ?_) rfl rfl (by kernel_rfl) (by kernel_rfl) (by kernel_rfl) (fun _ _ _ h => h) (by rfl) ?_ hS ?_
          rotate_left 1
          · (intro w hSw; (try dsimp only at hSw); (try go_split_ands); go_simp; try with_reducible rfl)
          simp only [List.setIfInBounds_toArray, List.set_cons_zero, List.set_cons_succ]
          refine take_at 1 61 (v := ?_) rfl rfl (by kernel_rfl) (by kernel_rfl) (by kernel_rfl) (fun _ _ _ h => h) (by rfl) ?_ hS ?_
          rotate_left 1
          · (intro w hSw; (try dsimp only at hSw); (try go_split_ands); go_simp; try with_reducible rfl)
          simp only [List.setIfInBounds_toArray, List.set_cons_zero, List.set_cons_succ]
          refine take_at 2 62 (v := ?_) rfl rfl (by kernel_rfl) (by kernel_rfl) (by kernel_rfl) (fun _ _ _ h => h) (by rfl) ?_ hS ?_
          rotate_left 1
          · (intro w hSw; (try dsimp only at hSw); (try go_split_ands); go_simp; try with_reducible rfl)
          simp only [List.setIfInBounds_toArray, List.set_cons_zero, List.set_cons_succ]
          refine take_at 3 63 (v := ?_) rfl rfl (by kernel_rfl) (by kernel_rfl) (by kernel_rfl) (fun _ _ _ h => h) (by rfl) ?_ hS ?_
          rotate_left 1
          · (intro w hSw; (try dsimp only at hSw); (try go_split_ands); go_simp; try with_reducible rfl)
          simp only [List.setIfInBounds_toArray, List.set_cons_zero, List.set_cons_succ]
          refine skip_at 4 64 rfl rfl (by kernel_rfl) (by kernel_rfl) (by kernel_rfl) (fun _ _ _ h => h) (by rfl) hS ?_
          simp only [List.setIfInBounds_toArray, List.set_cons_zero, List.set_cons_succ]
          refine skip_at 5 65 rfl rfl (by kernel_rfl) (by kernel_rfl) (by kernel_rfl) (fun _ _ _ h => h) (by rfl) hS ?_
          simp only [List.setIfInBounds_toArray, List.set_cons_zero, List.set_cons_succ]
          refine skip_at 6 66 rfl rfl (by kernel_rfl) (by kernel_rfl) (by kernel_rfl) (fun _ _ _ h => h) (by rfl) hS ?_
          simp only [List.setIfInBounds_toArray, List.set_cons_zero, List.set_cons_succ]
          refine skip_at 7 67 rfl rfl (by kernel_rfl) (by kernel_rfl) (by kernel_rfl) (fun _ _ _ h => h) (by rfl) hS ?_
          simp only [List.setIfInBounds_toArray, List.set_cons_zero, List.set_cons_succ]
          refine skip_at 8 68 rfl rfl (by kernel_rfl) (by kernel_rfl) (by kernel_rfl) (fun _ _ _ h => h) (by rfl) hS ?_
          simp only [List.setIfInBounds_toArray, List.set_cons_zero, List.set_cons_succ]
          refine take_at 9 69 (v := ?_) rfl rfl (by kernel_rfl) (by kernel_rfl) (by kernel_rfl) (fun _ _ _ h => h) (by rfl) ?_ hS ?_
          rotate_left 1
          · (intro w hSw; (try dsimp only at hSw); (try go_split_ands); go_simp; try with_reducible rfl)
          simp only [List.setIfInBounds_toArray, List.set_cons_zero, List.set_cons_succ]
          refine take_at 10 2 (v := ?_) rfl rfl (by kernel_rfl) (by kernel_rfl) (by kernel_rfl) (fun _ _ _ h => h) (by rfl) ?_ hS ?_
          rotate_left 1
          · (intro w hSw; (try dsimp only at hSw); (try go_split_ands); go_simp; try with_reducible rfl)
          simp only [List.setIfInBounds_toArray, List.set_cons_zero, List.set_cons_succ]
          refine wpAnyH_done (by kernel_rfl) ?_ _
          clear hS
          go_wp2
          all_goals (go_ret; refine ⟨ret_bool ?_, (bD1 HB5.out)⟩; first | rfl | (simp; done))
        · have d1 : (ev.k == 1) = false := by rw [beq_eq_false_iff_ne]; exact h1
          have hNN := HW.out.2 hk h1
          subst hNN
          clear h1
          refine wp_region_held_drew (S := fun w' => w'.cell? ⟨w2.heap.size, 0, none⟩ = some (.int .i64 s1) ∧ w'.cell? ⟨w2.heap.size, 1, none⟩ = some (.int .i64 a1) ∧ w'.cell? ⟨w2.heap.size, 2, none⟩ = some (.int .i64 t1) ∧ w'.cell? ⟨w0.heap.size, 0, none⟩ = some (.int .i64 x.s) ∧ w'.cell? ⟨w0.heap.size, 1, none⟩ = some (.int .i64 x.a) ∧ w'.cell? ⟨w0.heap.size, 2, none⟩ = some (.int .i64 x.t) ∧ w'.cell? ⟨w0.heap.size + 1, 0, none⟩ = some (.int .i64 ev.k) ∧ w'.cell? ⟨w0.heap.size + 1, 1, none⟩ = some (.int .i64 ev.a)) (by kernel_rfl) (by exact ⟨(aggCells Hb5.out).1, (aggCells Hb5.out).2.1, (aggCells Hb5.out).2.2, (aggCells Ha5.out).1, (aggCells Ha5.out).2.1, (aggCells Ha5.out).2.2, evtCells He5.out⟩) (fun hS => ?_)
          refine take_at 0 60 (v := ?_) rfl rfl (by kernel_rfl) (by kernel_rfl) (by kernel_rfl) (fun _ _ _ h => h) (by rfl) ?_ hS ?_
          rotate_left 1
          · (intro w hSw; (try dsimp only at hSw); (try go_split_ands); go_simp; try with_reducible rfl)
          simp only [List.setIfInBounds_toArray, List.set_cons_zero, List.set_cons_succ]
          refine take_at 1 61 (v := ?_) rfl rfl (by kernel_rfl) (by kernel_rfl) (by kernel_rfl) (fun _ _ _ h => h) (by rfl) ?_ hS ?_
          rotate_left 1
          · (intro w hSw; (try dsimp only at hSw); (try go_split_ands); go_simp; try with_reducible rfl)
          simp only [List.setIfInBounds_toArray, List.set_cons_zero, List.set_cons_succ]
          refine take_at 2 62 (v := ?_) rfl rfl (by kernel_rfl) (by kernel_rfl) (by kernel_rfl) (fun _ _ _ h => h) (by rfl) ?_ hS ?_
          rotate_left 1
          · (intro w hSw; (try dsimp only at hSw); (try go_split_ands); go_simp; try with_reducible rfl)
          simp only [List.setIfInBounds_toArray, List.set_cons_zero, List.set_cons_succ]
          refine take_at 3 63 (v := ?_) rfl rfl (by kernel_rfl) (by kernel_rfl) (by kernel_rfl) (fun _ _ _ h => h) (by rfl) ?_ hS ?_
          rotate_left 1
          · (intro w hSw; (try dsimp only at hSw); (try go_split_ands); go_simp; try with_reducible rfl)
          simp only [List.setIfInBounds_toArray, List.set_cons_zero, List.set_cons_succ]
          refine take_at 4 64 (v := ?_) rfl rfl (by kernel_rfl) (by kernel_rfl) (by kernel_rfl) (fun _ _ _ h => h) (by rfl) ?_ hS ?_
          rotate_left 1
          · (intro w hSw; (try dsimp only at hSw); (try go_split_ands); go_simp; try with_reducible rfl)
          simp only [List.setIfInBounds_toArray, List.set_cons_zero, List.set_cons_succ]
          refine take_at 6 66 (v := ?_) rfl rfl (by kernel_rfl) (by kernel_rfl) (by kernel_rfl) (fun _ _ _ h => h) (by rfl) ?_ hS ?_
          rotate_left 1
          · (intro w hSw; (try dsimp only at hSw); (try go_split_ands); go_simp; try with_reducible rfl)
          simp only [List.setIfInBounds_toArray, List.set_cons_zero, List.set_cons_succ]
          refine wpAnyH_ready (rs := [5]) (by kernel_rfl) (by simp) ?_
          refine AllReadyH.cons rfl (fun K hK => ?_) (AllReadyH.nil)
          go_simp
          go_wp2_with fail
          refine (CB.out _ (Limits.below HL.out (bD1 HB5.out))).mono ?_
          rintro e w6 ⟨rfl, hb6⟩
          have hz6 : w5.heap.size ≤ w6.heap.size := by have := hb6.size; (try simp at this); omega
          have Ha6 := Lib.hid (Blk.belowAll (blkDrew Ha5.out) hb6)
          clear Ha5
          have He6 := Lib.hid (Blk.belowAll (blkDrew He5.out) hb6)
          clear He5
          have HB6 := Lib.hid (bT (bD1 HB5.out) hb6)
          clear HB5
          have Hb6 := Lib.hid (Blk.belowAll (blkDrew Hb5.out) hb6)
          clear Hb5
          clear hb6
          go_simp
          refine hK.out _ _ (by exact ⟨(aggCells Hb6.out).1, (aggCells Hb6.out).2.1, (aggCells Hb6.out).2.2, (aggCells Ha6.out).1, (aggCells Ha6.out).2.1, (aggCells Ha6.out).2.2, evtCells He6.out⟩) (fun hS => ?_)
          clear hK K
          refine wpAnyH_ready (rs := [7]) (by kernel_rfl) (by simp) ?_
          refine AllReadyH.cons rfl (fun K hK => ?_) (AllReadyH.nil)
          go_simp
          go_wp2_with fail
          refine (CA.out _ (Limits.below HL.out HB6.out)).mono ?_
          rintro e w7 ⟨rfl, hb7⟩
          have hz7 : w6.heap.size ≤ w7.heap.size := by have := hb7.size; (try simp at this); omega
          have Ha7 := Lib.hid (Blk.belowAll Ha6.out hb7)
          clear Ha6
          have He7 := Lib.hid (Blk.belowAll He6.out hb7)
          clear He6
          have HB7 := Lib.hid (bT HB6.out hb7)
          clear HB6
          have Hb7 := Lib.hid (Blk.belowAll Hb6.out hb7)
          clear Hb6
          clear hb7
          go_simp
          refine hK.out _ _ (by exact ⟨(aggCells Hb7.out).1, (aggCells Hb7.out).2.1, (aggCells Hb7.out).2.2, (aggCells Ha7.out).1, (aggCells Ha7.out).2.1, (aggCells Ha7.out).2.2, evtCells He7.out⟩) (fun hS => ?_)
          clear hK K
          refine take_at 8 68 (v := ?_) rfl rfl (by kernel_rfl) (by kernel_rfl) (by kernel_rfl) (fun _ _ _ h => h) (by rfl) ?_ hS ?_
          rotate_left 1
          · (intro w hSw; (try dsimp only at hSw); (try go_split_ands); go_simp; try with_reducible rfl)
          simp only [List.setIfInBounds_toArray, List.set_cons_zero, List.set_cons_succ]
          refine take_at 9 69 (v := ?_) rfl rfl (by kernel_rfl) (by kernel_rfl) (by kernel_rfl) (fun _ _ _ h => h) (by rfl) ?_ hS ?_
          rotate_left 1
          · (intro w hSw; (try dsimp only at hSw); (try go_split_ands); go_simp; try with_reducible rfl)
          simp only [List.setIfInBounds_toArray, List.set_cons_zero, List.set_cons_succ]
          refine take_at 10 2 (v := ?_) rfl rfl (by kernel_rfl) (by kernel_rfl) (by kernel_rfl) (fun _ _ _ h => h) (by rfl) ?_ hS ?_
          rotate_left 1
          · (intro w hSw; (try dsimp only at hSw); (try go_split_ands); go_simp; try with_reducible rfl)
          simp only [List.setIfInBounds_toArray, List.set_cons_zero, List.set_cons_succ]
          refine wpAnyH_done (by kernel_rfl) ?_ _
          clear hS
          go_wp2
          all_goals (go_ret; refine ⟨ret_bool ?_, HB7.out⟩; first | rfl | (simp; done))

theorem contract (H : Type) (enc : TypeId × Value → H) (W : World) (base : Nat) (args : Array Value) (ds gs : List (DataW H)) (before : List MemPlace)
    (hval : ∀ (j : Nat) t v, Tryd.f9.params[j]? = some t → args[j]? = some v → Value.okWide Tryd.prog W .any base t v)
    (hW : DataW.Whole enc Tryd.prog Tryd.f9.params.toList Rows.fnOwedOfYesSpec.vars false W args.toList ds gs before) (hL : laidMetH Tryd.prog Rows.fnOwedOfYesRow.laid W) :
    Calls Tryd.prog 9 args W fun e W' => ∃ v, e = .returned v ∧ Rows.fnOwedOfYesSpec.post enc Tryd.prog Tryd.f9 false true false false W args v W' := by
  have hL0 : laidMet Tryd.prog [("loop.example/transitfares/impl.stateLimits", Rows.laid_loop_example_transitfares_impl_stateLimits), ("loop.example/transitfares/impl.sumSteps", Rows.laid_loop_example_transitfares_impl_sumSteps)] W := by
    have h : laidMetH Tryd.prog [("loop.example/transitfares/impl.stateLimits", Rows.laid_loop_example_transitfares_impl_stateLimits), ("loop.example/transitfares/impl.sumSteps", Rows.laid_loop_example_transitfares_impl_sumSteps)] W := hL
    unfold laidMetH at h
    exact h
  have hv0 : Limits W := limits_of_head rfl hL0
  have hv1 : Steps W := steps_of_head rfl hL0.tail
  have hW' := hW
  obtain ⟨p, q, hA0, hV, rfl, _, _⟩ := hW
  have hA : DataW.TrodAll enc Tryd.prog W 0 (fun _ => true) true Tryd.f9.params.toList args.toList ds p := hA0
  rw [Tryd.params9] at hA hval
  obtain ⟨v0, vs0, d0, ds0, p0, q0, hargs, rfl, rfl, h0, r0⟩ := trodAll_cons hA
  obtain ⟨rfl, rfl, rfl⟩ := trodAll_nil r0
  obtain rfl : args = #[v0] := by cases args; simp_all
  obtain ⟨g1, g2, rfl⟩ := vars2 hV
  clear hA0
  have hlt : ∀ x ∈ (p0 ++ []), x.block < W.heap.size := fun x hx => hW'.lt x (List.mem_append_left _ hx)
  have k0 := fun (W' : World) (hn : Below W.heap.size W W') => Below.trod Cells.laidOut (by kernel_rfl) (of_decide_eq_true (by kernel_rfl)) h0 hn (fun x hx => hlt x (by simp [hx]))
  obtain ⟨a0, len, cap, rfl⟩ := okWide_slice Tryd.underlying22 (hval 0 22 v0 rfl rfl)
  have hb := (opened h0 (fun x hx => hlt x (by simp [hx]))).1
  refine (walk W a0 len cap hb hv0 hv1).mono fun e W' ⟨he, hnx⟩ => ?_
  subst he
  exact ⟨_, rfl, _, _, _, [], (p0 ++ []), q, hW', trodAll_mk1 (shut_bool Tryd.underlying4 _), (trodAll_cons_mk (k0 _ hnx) trodAll_mk0), Below.trodVars Cells.laidOut hnx (by kernel_rfl) hV, hnx.frame _, fun h => by cases h⟩

/-- A world in which the tables lie. -/
noncomputable def laidWorld (os : Os) : World :=
  { World.holding Tryd.prog os ⟨#[], #[], []⟩ with heap := (((World.holding Tryd.prog os ⟨#[], #[], []⟩).heap).modify 1 (fun x => match x with | .cells _ t frozen => .cells stepCells t frozen | o => o)).modify 0 (fun x => match x with | .cells _ t frozen => .cells limitCells t frozen | o => o) }
theorem laid_met (os : Os) : laidMet Tryd.prog Rows.fnOwedOfYesRow.laid ((laidWorld os).forCall (fun _ _ => 0) ⟨#[], #[.slice none 0 0], []⟩).memory :=
  laidMet_of_run' 8 (by kernel_rfl) (by kernel_rfl)
theorem reads (os : Os) {H : Type} (enc : TypeId × Value → H) : ∃ places, DataW.whole enc Tryd.prog ((laidWorld os).forCall (fun _ _ => 0) ⟨#[], #[.slice none 0 0], []⟩).memory Tryd.f9.params.toList Rows.fnOwedOfYesSpec.vars false (#[.slice none 0 0] : Array Value).toList 8 = some ([.nil], [Rows.laid_loop_example_transitfares_impl_sumSteps, Rows.laid_loop_example_transitfares_impl_stateLimits], places) :=
  ⟨MemPlace.row ⟨1, 0, none⟩ 24 ++ MemPlace.row ⟨0, 0, none⟩ 24, by kernel_rfl⟩
set_option maxRecDepth 100000 in
theorem lifted (os : Os) (started : os.Started) (H : Type) (enc : TypeId × Value → H) (F : Stop.Interp) :
    ReturnsInHanded {} Tryd.checked os 9 .any ((OpenSpec.ofChange Rows.fnOwedOfYesSpec).preRow enc Tryd.prog Tryd.f9 Rows.fnOwedOfYesRow.domain false Rows.fnOwedOfYesRow.laid) (((OpenSpec.ofChange Rows.fnOwedOfYesSpec).at F).post enc Tryd.prog Tryd.f9 false true false false) := by
  obtain ⟨places, hx⟩ := reads os enc
  refine returnsInHanded_of_row (C := Tryd.checked) (s := OpenSpec.ofChange Rows.fnOwedOfYesSpec) Cells.own started (by kernel_rfl) Tryd.func9
    (witness_row_at (enc := enc) (C := Tryd.checked) false (laidWorld os) #[.slice none 0 0] rfl (by kernel_rfl) (by kernel_rfl) (by kernel_rfl)
      (OpenSpec.preRow_of_cond 8 hx (by kernel_rfl) (fun k hk => by cases hk) (by kernel_rfl) (laid_met os))) ?_
  intro W base args ds gs before hval hW _ _ _ hL _ _
  exact contract H enc W base args ds gs before hval hW hL
theorem said : Rows.FnOwedOfYesSaid :=
  OpenClaim.holds_of_cond 9 Tryd.f9 rfl rfl rfl rfl rfl rfl rfl ⟨rfl, rfl, rfl, rfl, rfl⟩ rfl rfl rfl rfl rfl (by kernel_rfl) Tryd.func9 (by kernel_rfl)
    (of_decide_eq_true (by kernel_rfl)) (by unfold Func.isWrapper; first | (rw [if_pos (by decide +kernel)]; kernel_rfl) | (rw [if_neg (by decide +kernel)]; exact ⟨rfl, rfl⟩))
    (fun os started H enc _ F => by rw [OpenClaim.pre_eq_preRow]; exact lifted os started H enc F)
theorem plain (f : FuncId) (fn : Func) (hf : Tryd.pinned.checked.prog.funcNamed "loop.example/transitfares/laws.FnOwedOfYes" = some f) (hfn : Tryd.pinned.checked.prog.funcs[f]? = some fn) :
    false = Tryd.pinned.checked.prog.looks [] ∧ ∀ (j : Nat) t, fn.params[j]? = some t → Tryd.pinned.checked.prog.wantsStandIn t = false := by
  obtain rfl : f = 9 := Option.some.inj ((show Tryd.prog.funcNamed "loop.example/transitfares/laws.FnOwedOfYes" = some 9 by kernel_rfl).symm.trans hf) |>.symm
  obtain rfl : fn = Tryd.f9 := (Option.some.inj (Tryd.func9.symm.trans hfn)).symm
  refine ⟨by kernel_rfl, fun j t ht => ?_⟩
  rw [Tryd.params9] at ht
  have hm : t ∈ [22] := by simpa using Array.mem_of_getElem? ht
  have hall : ([22].all fun u => !Tryd.prog.wantsStandIn u) = true := by kernel_rfl
  exact (show Tryd.prog.wantsStandIn t = false by simpa using List.all_eq_true.1 hall t hm)
/-- THE STATEMENT: the tied card -/
theorem proved : Rows.FnOwedOfYesCardSaid :=
  Claim7.holds_tied_plain_at .later [] _ _ _ _ said (fun _ h => by cases h) (by kernel_rfl) (fun _ h => by cases h) fnOwedOfYes_row_tie rfl ⟨rfl, rfl⟩ (by kernel_rfl) rfl plain (by kernel_rfl)
#print axioms proved
end Go.Proofs.YtpdlngekeeaocabDoor.fnOwedOfYes
