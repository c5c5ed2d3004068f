/-
  Contracts over aggregates: IsFinal and OwedOf on both sides.
-/
import Derived.Test.YtpdlngekeeaocabDoorAggStep4
set_option linter.unusedSimpArgs false
namespace Go.Proofs.YtpdlngekeeaocabDoor
open Go.RowKit
set_option linter.unusedVariables false

set_option maxRecDepth 100000 in
set_option maxHeartbeats 1000000 in
theorem specOwedOf_any (x : Fares.Sum) (w : World) :
    Calls Tryd.prog 22 #[sumV x] w fun r w' => r = .returned (.int .i64 (Fares.owedOf x)) ∧ Below w.heap.size w w' := by
  obtain ⟨P, hP⟩ : ∃ P, P = Fares.owedOf x := ⟨_, rfl⟩
  rw [← hP]
  have HP := Lib.hid hP; clear hP
  have Hnew := Lib.hid (Blk.new w 24 #[.int .i64 x.s, .int .i64 x.a, .int .i64 x.t])
  have C : Hid (∀ W, Calls Tryd.prog 29 #[.agg #[.int .i64 x.s, .int .i64 x.a, .int .i64 x.t]] W fun e w' => e = .returned (.bool (Fares.validSum x)) ∧ Below W.heap.size W w') := fun W => specvalidSum_any x W
  unfold sumV
  go_enter Tryd.func22, Tryd.ntmps22
  go_wp2_with fail
  refine (C.out _).mono ?_
  rintro r w1 ⟨rfl, hb1⟩
  have hB := Hnew.out.below hb1 (by simp)
  have Hbb := Lib.hid (bT (bA (Below.refl w.heap.size w) _) hb1)
  have a0 := hB.cell 0
  have a1 := hB.cell 1
  have a2 := hB.cell 2
  simp at a0 a1 a2
  clear hB hb1 Hnew
  cases hv : Fares.validSum x with
  | false =>
    have E : Hid (P = -1) := by
      show P = _
      rw [HP.out]; unfold Fares.owedOf; rw [hv]; rfl
    clear hv
    go_wp2
    go_ret
    exact ⟨ret_int E.out.symm, Hbb.out⟩
  | true =>
    have E : Hid (P = if x.s = 3 then 0 else x.a) := by
      show P = _
      rw [HP.out]; unfold Fares.owedOf; rw [hv, if_pos rfl]
    have hq := Fares.valid_iff.1 hv
    obtain ⟨q0, q1⟩ : 0 ≤ x.a ∧ x.a ≤ 100000 := ⟨hq.2.2.1, hq.2.2.2.1⟩
    clear hv hq
    by_cases h3 : x.s = 3
    · have e1 : (x.s != 3) = false := by simpa using h3
      have H3 := Lib.hid h3; clear h3
      go_wp2
      go_quiet ((go_at_call 32; refine quiet_same (toInt_any false _)))
      go_wp2
      go_ret
      exact ⟨ret_int (by rw [E.out, if_pos H3.out]), bD Hbb.out _⟩
    · have e1 : (x.s != 3) = true := by simpa using h3
      have H3 := Lib.hid h3; clear h3
      go_wp2
      go_quiet ((go_at_call 32; refine quiet_same (toInt_any true _)))
      go_wp2
      go_ret
      exact ⟨ret_int (by rw [E.out, if_neg H3.out]), bD Hbb.out _⟩

set_option maxRecDepth 100000 in
set_option maxHeartbeats 1000000 in
theorem implOwedOf_any (x : Fares.Sum) (w : World) (hL : Limits w) :
    Calls Tryd.prog 21 #[sumV x] w fun r w' => r = .returned (.int .i64 (Fares.owedOf x)) ∧ Below w.heap.size w w' := by
  obtain ⟨P, hP⟩ : ∃ P, P = Fares.owedOf x := ⟨_, rfl⟩
  rw [← hP]
  have HP := Lib.hid hP; clear hP
  have Hnew := Lib.hid (Blk.new w 24 #[.int .i64 x.s, .int .i64 x.a, .int .i64 x.t])
  have C : Hid (∀ W, Limits W → Calls Tryd.prog 13 #[.agg #[.int .i64 x.s, .int .i64 x.a, .int .i64 x.t]] W fun e w' => e = .returned (.bool (Fares.validSum x)) ∧ Below W.heap.size W w') := fun W h => implValidSum_any x W h
  have HL := Lib.hid hL; clear hL
  unfold sumV
  go_enter Tryd.func21, Tryd.ntmps21
  go_wp2_with fail
  refine (C.out _ (Limits.below HL.out (bA (Below.refl _ _) _))).mono ?_
  rintro r w1 ⟨rfl, hb1⟩
  have hB := Hnew.out.below hb1 (by simp)
  have Hbb := Lib.hid (bT (bA (Below.refl w.heap.size w) _) hb1)
  have a0 := hB.cell 0
  have a1 := hB.cell 1
  have a2 := hB.cell 2
  simp at a0 a1 a2
  clear hB hb1 Hnew
  cases hv : Fares.validSum x with
  | false =>
    have E : Hid (P = -1) := by
      show P = _
      rw [HP.out]; unfold Fares.owedOf; rw [hv]; rfl
    clear hv
    go_wp2
    go_ret
    exact ⟨ret_int E.out.symm, Hbb.out⟩
  | true =>
    have E : Hid (P = if x.s = 3 then 0 else x.a) := by
      show P = _
      rw [HP.out]; unfold Fares.owedOf; rw [hv, if_pos rfl]
    clear hv
    by_cases h3 : x.s = 3
    · have e1 : (x.s == 3) = true := by simpa using h3
      have H3 := Lib.hid h3; clear h3
      go_wp2
      go_ret
      exact ⟨ret_int (by rw [E.out, if_pos H3.out]), Hbb.out⟩
    · have e1 : (x.s == 3) = false := by simpa using h3
      have H3 := Lib.hid h3; clear h3
      go_wp2
      go_ret
      exact ⟨ret_int (by rw [E.out, if_neg H3.out]), Hbb.out⟩

set_option maxRecDepth 100000 in
set_option maxHeartbeats 1000000 in
theorem specIsFinal_any (x : Fares.Sum) (w : World) :
    Calls Tryd.prog 19 #[sumV x] w fun r w' => r = .returned (.bool (Fares.isFinal x)) ∧ Below w.heap.size w w' := by
  obtain ⟨P, hP⟩ : ∃ P, P = Fares.isFinal x := ⟨_, rfl⟩
  rw [← hP]
  have HP := Lib.hid hP; clear hP
  have Hnew := Lib.hid (Blk.new w 24 #[.int .i64 x.s, .int .i64 x.a, .int .i64 x.t])
  have C : Hid (∀ W, Calls Tryd.prog 29 #[.agg #[.int .i64 x.s, .int .i64 x.a, .int .i64 x.t]] W fun e w' => e = .returned (.bool (Fares.validSum x)) ∧ Below W.heap.size W w') := fun W => specvalidSum_any x W
  unfold sumV
  go_enter Tryd.func19, Tryd.ntmps19
  go_wp2_with fail
  refine (C.out _).mono ?_
  rintro r w1 ⟨rfl, hb1⟩
  have hB := Hnew.out.below hb1 (by simp)
  have Hbb := Lib.hid (bT (bA (Below.refl w.heap.size w) _) hb1)
  have a0 := hB.cell 0
  have a1 := hB.cell 1
  have a2 := hB.cell 2
  simp at a0 a1 a2
  clear hB hb1 Hnew
  cases hv : Fares.validSum x with
  | false =>
    have E : Hid (P = false) := by
      show P = _
      rw [HP.out]; unfold Fares.isFinal; rw [hv]; rfl
    clear hv
    go_wp2
    go_ret
    exact ⟨ret_bool E.out.symm, Hbb.out⟩
  | true =>
    have E : Hid (P = decide (x.s = 3 ∨ x.s = 4 ∨ x.s = 5)) := by
      show P = _
      rw [HP.out]; unfold Fares.isFinal; rw [hv]; rfl
    clear hv
    go_wp2
    all_goals (go_ret; refine ⟨ret_bool ?_, Hbb.out⟩; rw [E.out]; go_light; exact (by rw [Bool.eq_iff_iff]; simp only [ge_iff_le, beq_iff_eq, beq_eq_false_iff_ne, ne_eq, Bool.not_eq_false', Bool.not_eq_eq_eq_not, Bool.not_true, Bool.not_false, decide_eq_true_eq, decide_eq_false_iff_not, Bool.and_eq_true, Bool.or_eq_true, Bool.false_eq_true, Bool.true_eq_false, Bool.not_eq_true', true_iff, iff_true, false_iff, iff_false, Bool.not_eq_true, Bool.not_eq_false, Bool.and_eq_false_imp] at *; omega))

set_option maxRecDepth 100000 in
set_option maxHeartbeats 4000000 in
theorem implIsFinal_any (x : Fares.Sum) (w : World) (hL : Limits w) (hT : Steps w) :
    Calls Tryd.prog 18 #[sumV x] w fun r w' => r = .returned (.bool (Fares.isFinal x)) ∧ Below w.heap.size w w' := by
  obtain ⟨P, hP⟩ : ∃ P, P = Fares.isFinal x := ⟨_, rfl⟩
  rw [← hP]
  have HP := Lib.hid hP; clear hP
  have Hnew := Lib.hid (Blk.new w 24 #[.int .i64 x.s, .int .i64 x.a, .int .i64 x.t])
  have C : Hid (∀ W, Limits W → Calls Tryd.prog 13 #[.agg #[.int .i64 x.s, .int .i64 x.a, .int .i64 x.t]] W fun e w' => e = .returned (.bool (Fares.validSum x)) ∧ Below W.heap.size W w') := fun W h => implValidSum_any x W h
  have HL := Lib.hid hL; clear hL
  have HT := Lib.hid hT; clear hT
  unfold sumV
  go_enter Tryd.func18, Tryd.ntmps18
  go_wp2_with fail
  refine (C.out _ (Limits.below HL.out (bA (Below.refl _ _) _))).mono ?_
  rintro r w1 ⟨rfl, hb1⟩
  have HB := Lib.hid (Hnew.out.below hb1 (by simp))
  have Hbb := Lib.hid (bT (bA (Below.refl w.heap.size w) _) hb1)
  have a0 := HB.out.cell 0
  have a1 := HB.out.cell 1
  have a2 := HB.out.cell 2
  simp at a0 a1 a2
  have hz1 := HB.out.lt
  obtain ⟨tt, hT1⟩ := Steps.below HT.out Hbb.out
  have HT1 := Lib.hid hT1; clear hT1
  clear hb1 Hnew
  cases hv : Fares.validSum x with
  | false =>
    have E : Hid (P = false) := by
      show P = _
      rw [HP.out]; unfold Fares.isFinal; rw [hv]; rfl
    clear hv
    go_wp2
    go_ret
    exact ⟨ret_bool E.out.symm, Hbb.out⟩
  | true =>
    have E : Hid (P = decide (x.s = 3 ∨ x.s = 4 ∨ x.s = 5)) := by
      show P = _
      rw [HP.out]; unfold Fares.isFinal; rw [hv]; rfl
    have hq := Fares.valid_iff.1 hv
    have Hs : Hid (0 ≤ x.s ∧ x.s ≤ 5) := ⟨hq.1, hq.2.1⟩
    clear hv hq
    go_wp2_with (refine wpList_load_row rfl _ _ rfl 1 rfl _ stepCells (0, 0) _ HT1.out Tryd.underlying55 rfl (by kernel_rfl) ?_)
    clear a0 a1 a2
    go_loopw [9] (fun i wr => ∃ n : Nat, n ≤ 6 ∧ i = .int .i64 n ∧ Below w.heap.size w wr ∧ Blk wr w.heap.size 24 #[.int .i64 x.s, .int .i64 x.a, .int .i64 x.t] ∧ (0 < n → x.s ≠ 0) ∧ (2 < n → x.s ≠ 1) ∧ (3 < n → x.s ≠ 2)) (fun i _ => 6 - (intOf i).toNat)
    case atStart => exact ⟨0, by omega, rfl, Hbb.out, HB.out, by omega, by omega, by omega⟩
    case round =>
      obtain ⟨n, hn, rfl, hb, hblk, hno⟩ := hrel
      have Hno := Lib.hid hno; clear hno
      have hz := hblk.lt
      have c0 := hblk.cell 0
      simp at c0
      have Hblk := Lib.hid hblk; clear hblk
      rcases (by omega : n = 6 ∨ n = 0 ∨ n = 1 ∨ n = 2 ∨ n = 3 ∨ n = 4 ∨ n = 5) with h | h | h | h | h | h | h <;> subst h
      · go_wp2
        go_ret
        exact ⟨ret_bool (by
          have h1 := Hno.out
          have h2 := Hs.out
          rw [E.out]
          exact (decide_eq_true (by omega)).symm), hb⟩
      · have hx : ∀ w' : World, Sem.run Tryd.prog (Instr.index 55 (.agg stepCells) (.int .i64 0)) w' = .ok (.agg #[.int .i64 0, .int .i64 1, .int .i64 0, .int .i64 0]) w' := fun w' => by kernel_rfl
        by_cases hs : x.s = 0
        · have d0 : ((0 : Int) == x.s) = true := by rw [beq_iff_eq]; omega
          have Hk := Lib.hid hs; clear hs
          go_wp2
          go_ret
          exact ⟨ret_bool (by rw [E.out, Hk.out]; rfl), (by repeat (first | exact hb | exact Below.refl _ _ | refine bA ?_ _ | refine bD ?_ _ | refine bD1 ?_ | refine bS ?_ (by simp) _))⟩
        · have d0 : ((0 : Int) == x.s) = false := by rw [beq_eq_false_iff_ne]; omega
          have Hk := Lib.hid hs; clear hs
          go_wp2
          go_roundw
          case rel => exact ⟨1, by omega, by go_num, (by repeat (first | exact hb | exact Below.refl _ _ | refine bA ?_ _ | refine bD ?_ _ | refine bD1 ?_ | refine bS ?_ (by simp) _)), Hblk.out.alloc _, by have h1 := Hno.out; have h2 := Hk.out; omega⟩
          case measure => simp [intOf]
      · have hx : ∀ w' : World, Sem.run Tryd.prog (Instr.index 55 (.agg stepCells) (.int .i64 1)) w' = .ok (.agg #[.int .i64 0, .int .i64 2, .int .i64 1, .int .i64 0]) w' := fun w' => by kernel_rfl
        by_cases hs : x.s = 0
        · have d0 : ((0 : Int) == x.s) = true := by rw [beq_iff_eq]; omega
          have Hk := Lib.hid hs; clear hs
          go_wp2
          go_ret
          exact ⟨ret_bool (by rw [E.out, Hk.out]; rfl), (by repeat (first | exact hb | exact Below.refl _ _ | refine bA ?_ _ | refine bD ?_ _ | refine bD1 ?_ | refine bS ?_ (by simp) _))⟩
        · have d0 : ((0 : Int) == x.s) = false := by rw [beq_eq_false_iff_ne]; omega
          have Hk := Lib.hid hs; clear hs
          go_wp2
          go_roundw
          case rel => exact ⟨2, by omega, by go_num, (by repeat (first | exact hb | exact Below.refl _ _ | refine bA ?_ _ | refine bD ?_ _ | refine bD1 ?_ | refine bS ?_ (by simp) _)), Hblk.out.alloc _, by have h1 := Hno.out; have h2 := Hk.out; omega⟩
          case measure => simp [intOf]
      · have hx : ∀ w' : World, Sem.run Tryd.prog (Instr.index 55 (.agg stepCells) (.int .i64 2)) w' = .ok (.agg #[.int .i64 1, .int .i64 3, .int .i64 2, .int .i64 1]) w' := fun w' => by kernel_rfl
        by_cases hs : x.s = 1
        · have d0 : ((1 : Int) == x.s) = true := by rw [beq_iff_eq]; omega
          have Hk := Lib.hid hs; clear hs
          go_wp2
          go_ret
          exact ⟨ret_bool (by rw [E.out, Hk.out]; rfl), (by repeat (first | exact hb | exact Below.refl _ _ | refine bA ?_ _ | refine bD ?_ _ | refine bD1 ?_ | refine bS ?_ (by simp) _))⟩
        · have d0 : ((1 : Int) == x.s) = false := by rw [beq_eq_false_iff_ne]; omega
          have Hk := Lib.hid hs; clear hs
          go_wp2
          go_roundw
          case rel => exact ⟨3, by omega, by go_num, (by repeat (first | exact hb | exact Below.refl _ _ | refine bA ?_ _ | refine bD ?_ _ | refine bD1 ?_ | refine bS ?_ (by simp) _)), Hblk.out.alloc _, by have h1 := Hno.out; have h2 := Hk.out; omega⟩
          case measure => simp [intOf]
      · have hx : ∀ w' : World, Sem.run Tryd.prog (Instr.index 55 (.agg stepCells) (.int .i64 3)) w' = .ok (.agg #[.int .i64 2, .int .i64 4, .int .i64 3, .int .i64 0]) w' := fun w' => by kernel_rfl
        by_cases hs : x.s = 2
        · have d0 : ((2 : Int) == x.s) = true := by rw [beq_iff_eq]; omega
          have Hk := Lib.hid hs; clear hs
          go_wp2
          go_ret
          exact ⟨ret_bool (by rw [E.out, Hk.out]; rfl), (by repeat (first | exact hb | exact Below.refl _ _ | refine bA ?_ _ | refine bD ?_ _ | refine bD1 ?_ | refine bS ?_ (by simp) _))⟩
        · have d0 : ((2 : Int) == x.s) = false := by rw [beq_eq_false_iff_ne]; omega
          have Hk := Lib.hid hs; clear hs
          go_wp2
          go_roundw
          case rel => exact ⟨4, by omega, by go_num, (by repeat (first | exact hb | exact Below.refl _ _ | refine bA ?_ _ | refine bD ?_ _ | refine bD1 ?_ | refine bS ?_ (by simp) _)), Hblk.out.alloc _, by have h1 := Hno.out; have h2 := Hk.out; omega⟩
          case measure => simp [intOf]
      · have hx : ∀ w' : World, Sem.run Tryd.prog (Instr.index 55 (.agg stepCells) (.int .i64 4)) w' = .ok (.agg #[.int .i64 2, .int .i64 5, .int .i64 1, .int .i64 0]) w' := fun w' => by kernel_rfl
        by_cases hs : x.s = 2
        · have d0 : ((2 : Int) == x.s) = true := by rw [beq_iff_eq]; omega
          have Hk := Lib.hid hs; clear hs
          go_wp2
          go_ret
          exact ⟨ret_bool (by rw [E.out, Hk.out]; rfl), (by repeat (first | exact hb | exact Below.refl _ _ | refine bA ?_ _ | refine bD ?_ _ | refine bD1 ?_ | refine bS ?_ (by simp) _))⟩
        · have d0 : ((2 : Int) == x.s) = false := by rw [beq_eq_false_iff_ne]; omega
          have Hk := Lib.hid hs; clear hs
          go_wp2
          go_roundw
          case rel => exact ⟨5, by omega, by go_num, (by repeat (first | exact hb | exact Below.refl _ _ | refine bA ?_ _ | refine bD ?_ _ | refine bD1 ?_ | refine bS ?_ (by simp) _)), Hblk.out.alloc _, by have h1 := Hno.out; have h2 := Hk.out; omega⟩
          case measure => simp [intOf]
      · have hx : ∀ w' : World, Sem.run Tryd.prog (Instr.index 55 (.agg stepCells) (.int .i64 5)) w' = .ok (.agg #[.int .i64 2, .int .i64 6, .int .i64 1, .int .i64 0]) w' := fun w' => by kernel_rfl
        by_cases hs : x.s = 2
        · have d0 : ((2 : Int) == x.s) = true := by rw [beq_iff_eq]; omega
          have Hk := Lib.hid hs; clear hs
          go_wp2
          go_ret
          exact ⟨ret_bool (by rw [E.out, Hk.out]; rfl), (by repeat (first | exact hb | exact Below.refl _ _ | refine bA ?_ _ | refine bD ?_ _ | refine bD1 ?_ | refine bS ?_ (by simp) _))⟩
        · have d0 : ((2 : Int) == x.s) = false := by rw [beq_eq_false_iff_ne]; omega
          have Hk := Lib.hid hs; clear hs
          go_wp2
          go_roundw
          case rel => exact ⟨6, by omega, by go_num, (by repeat (first | exact hb | exact Below.refl _ _ | refine bA ?_ _ | refine bD ?_ _ | refine bD1 ?_ | refine bS ?_ (by simp) _)), Hblk.out.alloc _, by have h1 := Hno.out; have h2 := Hk.out; omega⟩
          case measure => simp [intOf]
end Go.Proofs.YtpdlngekeeaocabDoor
