/-
  Contracts over events of aggregates: StepSum, IsFinal, OwedOf on both sides.
-/
import Derived.Test.YtpdlngekeeaocabDoorAggStep2
set_option linter.unusedSimpArgs false
namespace Go.Proofs.YtpdlngekeeaocabDoor
open Go.RowKit
set_option linter.unusedVariables false

set_option maxRecDepth 100000 in
set_option maxHeartbeats 1000000 in
theorem specStepSum_any (x : Fares.Sum) (e : Fares.Event) (w : World) :
    Calls Tryd.prog 12 #[sumV x, eventV e] w (StepOut w (Fares.stepSum x e)) := by
  obtain ⟨P, hP⟩ : ∃ P, P = Fares.stepSum x e := ⟨_, rfl⟩
  rw [← hP]
  have HP := Lib.hid hP; clear hP
  have Hnew : Hid (∀ W : World, Blk (((W.alloc (.cells #[.int .i64 x.s, .int .i64 x.a, .int .i64 x.t] 24)).alloc (.cells #[.int .i64 e.k, .int .i64 e.a] 26)).alloc (.cells #[.int .i64 0, .int .i64 0, .int .i64 0] 24)) W.heap.size 24 #[.int .i64 x.s, .int .i64 x.a, .int .i64 x.t]
      ∧ Blk (((W.alloc (.cells #[.int .i64 x.s, .int .i64 x.a, .int .i64 x.t] 24)).alloc (.cells #[.int .i64 e.k, .int .i64 e.a] 26)).alloc (.cells #[.int .i64 0, .int .i64 0, .int .i64 0] 24)) (W.heap.size + 1) 26 #[.int .i64 e.k, .int .i64 e.a]
      ∧ Blk (((W.alloc (.cells #[.int .i64 x.s, .int .i64 x.a, .int .i64 x.t] 24)).alloc (.cells #[.int .i64 e.k, .int .i64 e.a] 26)).alloc (.cells #[.int .i64 0, .int .i64 0, .int .i64 0] 24)) (W.heap.size + 1 + 1) 24 #[.int .i64 0, .int .i64 0, .int .i64 0]) := fun W =>
    ⟨((Blk.new W _ _).alloc _).alloc _, by have := (Blk.new (W.alloc (.cells #[.int .i64 x.s, .int .i64 x.a, .int .i64 x.t] 24)) 26 #[.int .i64 e.k, .int .i64 e.a]).alloc (.cells #[.int .i64 0, .int .i64 0, .int .i64 0] 24); simpa using this, by have := Blk.new ((W.alloc (.cells #[.int .i64 x.s, .int .i64 x.a, .int .i64 x.t] 24)).alloc (.cells #[.int .i64 e.k, .int .i64 e.a] 26)) 24 #[.int .i64 0, .int .i64 0, .int .i64 0]; simpa using this⟩
  have Hbel : Hid (∀ W : World, Below W.heap.size W (((W.alloc (.cells #[.int .i64 x.s, .int .i64 x.a, .int .i64 x.t] 24)).alloc (.cells #[.int .i64 e.k, .int .i64 e.a] 26)).alloc (.cells #[.int .i64 0, .int .i64 0, .int .i64 0] 24))) := fun W => bA (bA (bA (Below.refl _ _) _) _) _
  unfold sumV eventV
  go_enter Tryd.func12, Tryd.ntmps12
  go_wp2_with fail
  refine (specvalidSum_any x _).mono ?_
  rintro r w1 ⟨rfl, hb1⟩
  obtain ⟨B0, B1, B2⟩ := Hnew.out w
  have hB0 := B0.below hb1 (by simp; omega)
  have hB1 := B1.below hb1 (by simp)
  have hB2 := B2.below hb1 (by simp)
  have hbb := bT (Hbel.out w) hb1
  have Hbb := Lib.hid hbb; clear hbb
  have hz1 := hB2.lt
  have HB2 := Lib.hid hB2
  clear B0 B1 B2 hb1 Hnew Hbel
  have c00 := hB0.cell 0
  have c01 := hB0.cell 1
  have c02 := hB0.cell 2
  have c10 := hB1.cell 0
  have c11 := hB1.cell 1
  have c20 := hB2.cell 0
  have c21 := hB2.cell 1
  have c22 := hB2.cell 2
  have f20 := hB2.free 0
  have f21 := hB2.free 1
  have f22 := hB2.free 2
  simp at c00 c01 c02 c10 c11 c20 c21 c22
  clear hB0 hB1 hB2
  have Hfin : Hid (∀ i u W, Below w.heap.size w W → Below w.heap.size w (W.setCell ⟨w.heap.size + 1 + 1, i, none⟩ u)) := fun i u W h => bS h (by simp; omega) _
  cases hv : Fares.validSum x with
  | false =>
    have E : Hid (P = (⟨0, 0, 0⟩, false)) := by
      show P = _
      rw [HP.out]; unfold Fares.stepSum; rw [hv]; rfl
    clear hv
    go_wp2
    exact bodyPost_ret (v := .tuple #[sumV ⟨0, 0, 0⟩, .bool false]) (by simp [results, Tryd.results12, go_sem, sumV, c20, c21, c22]) rfl ⟨by rw [E.out], Hfin.out _ _ _ (Hfin.out _ _ _ (Hfin.out _ _ _ Hbb.out))⟩
  | true =>
    have hq := Fares.valid_iff.1 hv
    have q0 : 0 ≤ x.a ∧ x.a ≤ 100000 ∧ 0 ≤ x.t ∧ x.t ≤ 4 := ⟨hq.2.2.1, hq.2.2.2.1, hq.2.2.2.2.1, hq.2.2.2.2.2.1⟩
    have E : Hid (P = Fares.step x e) := by
      show P = _
      rw [HP.out]; unfold Fares.stepSum; rw [hv]; rfl
    clear hv hq
    have C : Hid (∀ W, Calls Tryd.prog 30 #[.agg #[.int .i64 x.s, .int .i64 x.a, .int .i64 x.t], .agg #[.int .i64 e.k, .int .i64 e.a]] W fun r w' => r = .returned (.tuple #[.agg #[.int .i64 P.1.s, .int .i64 P.1.a, .int .i64 P.1.t], .bool P.2]) ∧ Below W.heap.size W w') := fun W => by
      have := specstep_any x e W q0.1 q0.2.1 q0.2.2.1 q0.2.2.2
      rw [← E.out] at this
      exact this
    clear q0
    go_wp2_with fail
    refine (C.out _).mono ?_
    rintro r w2 ⟨rfl, hb2⟩
    have hB2 := HB2.out.below hb2 hz1
    have hbb := bT Hbb.out hb2
    have Hbb2 := Lib.hid hbb; clear hbb
    have d20 := hB2.cell 0
    have d21 := hB2.cell 1
    have d22 := hB2.cell 2
    have g20 := hB2.free 0
    have g21 := hB2.free 1
    have g22 := hB2.free 2
    simp at d20 d21 d22
    clear c20 c21 c22 f20 f21 f22 c00 c01 c02 c10 c11 hB2 hb2
    go_wp2
    exact bodyPost_ret (v := .tuple #[sumV P.1, .bool P.2]) (by simp [results, Tryd.results12, go_sem, sumV, d20, d21, d22]) rfl ⟨rfl, Hfin.out _ _ _ (Hfin.out _ _ _ (Hfin.out _ _ _ Hbb2.out))⟩

theorem stepFound_no {x : Fares.Sum} {e : Fares.Event} (h : stepFound x.s e.k = false) : Fares.stepSum x e = (⟨0, 0, 0⟩, false) := by
  unfold stepFound at h
  rw [decide_eq_false_iff_not] at h
  unfold Fares.stepSum
  split
  · unfold Fares.step
    (repeat' split) <;> first | rfl | (exfalso; omega)
  · rfl
theorem stepFound_bad {x : Fares.Sum} {e : Fares.Event} (h : Fares.validSum x = false) : Fares.stepSum x e = (⟨0, 0, 0⟩, false) := by
  unfold Fares.stepSum
  rw [h]; rfl
theorem step_add_no {x : Fares.Sum} {e : Fares.Event} (hk : e.k = 1) (h : ¬ (0 ≤ e.a ∧ e.a ≤ 100000 - x.a)) : Fares.stepSum x e = (⟨0, 0, 0⟩, false) := by
  unfold Fares.stepSum
  split
  · unfold Fares.step
    (repeat' split) <;> first | rfl | (exfalso; omega)
  · rfl
theorem step_add {x : Fares.Sum} {e : Fares.Event} (hv : Fares.validSum x = true) (hs : x.s = 0) (hk : e.k = 1) (h : 0 ≤ e.a ∧ e.a ≤ 100000 - x.a) : Fares.stepSum x e = (settle ⟨0, x.a + e.a, x.t⟩, true) := by
  have ht := Fares.valid_iff.1 hv
  have ht0 : x.t = 0 := by omega
  unfold Fares.stepSum
  rw [hv, if_pos rfl]
  unfold Fares.step settle
  rw [if_pos ⟨hk, hs, h.1, h.2⟩, if_neg (by dsimp only; omega), if_neg (by dsimp only; omega), ht0]
theorem step_other {x : Fares.Sum} {e : Fares.Event} (hv : Fares.validSum x = true) (hf : stepFound x.s e.k = true) (hk : e.k ≠ 1) : Fares.stepSum x e = (settle ⟨stepTo x.s e.k, x.a, x.t + stepTries x.s e.k⟩, true) := by
  have ht := Fares.valid_iff.1 hv
  unfold stepFound at hf
  rw [decide_eq_true_eq] at hf
  unfold Fares.stepSum
  rw [hv, if_pos rfl]
  obtain ⟨s, a, n⟩ := x
  obtain ⟨k, b⟩ := e
  dsimp only at *
  rcases hf with h | h | h | h | h | h <;> obtain ⟨rfl, rfl⟩ := h
  · omega
  · have hn : n = 0 := by omega
    subst hn
    by_cases ha : a = 0
    · subst ha; simp [Fares.step, settle, stepTo, stepTries]
    · simp [Fares.step, settle, stepTo, stepTries, ha]
  · have hn : n < 4 ∧ 0 < a := by omega
    simp [Fares.step, settle, stepTo, stepTries]
  · simp [Fares.step, settle, stepTo, stepTries]
  · have ha : ¬ a = 0 := by omega
    by_cases hn : n = 4
    · subst hn; simp [Fares.step, settle, stepTo, stepTries, ha]
    · simp [Fares.step, settle, stepTo, stepTries, ha, hn]
  · have ha : ¬ a = 0 := by omega
    by_cases hn : n = 4
    · subst hn; simp [Fares.step, settle, stepTo, stepTries, ha]
    · simp [Fares.step, settle, stepTo, stepTries, ha, hn]
theorem stepTo_in (s k : Int) : 0 ≤ stepTo s k ∧ stepTo s k ≤ 5 ∧ 0 ≤ stepTries s k ∧ stepTries s k ≤ 1 := by
  unfold stepTo stepTries
  (repeat' split) <;> omega
theorem settled_cells (x : Fares.Sum) (w : World) :
    Calls Tryd.prog 28 #[.agg #[.int .i64 x.s, .int .i64 x.a, .int .i64 x.t]] w fun r w' => r = .returned (.agg #[.int .i64 (settle x).s, .int .i64 (settle x).a, .int .i64 (settle x).t]) ∧ Below w.heap.size w w' := settled_any x w
end Go.Proofs.YtpdlngekeeaocabDoor
