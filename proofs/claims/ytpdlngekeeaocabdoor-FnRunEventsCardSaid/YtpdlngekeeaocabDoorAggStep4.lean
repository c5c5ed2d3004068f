/-
  The program's StepSum.
-/
import Derived.Test.YtpdlngekeeaocabDoorAggStep3
set_option linter.unusedSimpArgs false
namespace Go.Proofs.YtpdlngekeeaocabDoor
open Go.RowKit
set_option linter.unusedVariables false

set_option maxRecDepth 100000 in
set_option maxHeartbeats 2000000 in
theorem implStepSum_any (x : Fares.Sum) (e : Fares.Event) (w : World) (hL : Limits w) (hT : Steps w) :
    Calls Tryd.prog 11 #[sumV x, eventV e] w (StepOut w (Fares.stepSum x e)) := by
  obtain ⟨P, hP⟩ : ∃ P, P = Fares.stepSum x e := ⟨_, rfl⟩
  rw [← hP]
  have HP := Lib.hid hP; clear hP
  have Hnew : Hid (∀ W : World, Blk (((W.alloc (.cells #[.int .i64 x.s, .int .i64 x.a, .int .i64 x.t] 24)).alloc (.cells #[.int .i64 e.k, .int .i64 e.a] 26)).alloc (.cells #[.int .i64 0, .int .i64 0, .int .i64 0] 24)) W.heap.size 24 #[.int .i64 x.s, .int .i64 x.a, .int .i64 x.t]
      ∧ Blk (((W.alloc (.cells #[.int .i64 x.s, .int .i64 x.a, .int .i64 x.t] 24)).alloc (.cells #[.int .i64 e.k, .int .i64 e.a] 26)).alloc (.cells #[.int .i64 0, .int .i64 0, .int .i64 0] 24)) (W.heap.size + 1) 26 #[.int .i64 e.k, .int .i64 e.a]
      ∧ Blk (((W.alloc (.cells #[.int .i64 x.s, .int .i64 x.a, .int .i64 x.t] 24)).alloc (.cells #[.int .i64 e.k, .int .i64 e.a] 26)).alloc (.cells #[.int .i64 0, .int .i64 0, .int .i64 0] 24)) (W.heap.size + 1 + 1) 24 #[.int .i64 0, .int .i64 0, .int .i64 0]) := fun W =>
    ⟨((Blk.new W _ _).alloc _).alloc _, by have := (Blk.new (W.alloc (.cells #[.int .i64 x.s, .int .i64 x.a, .int .i64 x.t] 24)) 26 #[.int .i64 e.k, .int .i64 e.a]).alloc (.cells #[.int .i64 0, .int .i64 0, .int .i64 0] 24); simpa using this, by have := Blk.new ((W.alloc (.cells #[.int .i64 x.s, .int .i64 x.a, .int .i64 x.t] 24)).alloc (.cells #[.int .i64 e.k, .int .i64 e.a] 26)) 24 #[.int .i64 0, .int .i64 0, .int .i64 0]; simpa using this⟩
  have Hbel : Hid (∀ W : World, Below W.heap.size W (((W.alloc (.cells #[.int .i64 x.s, .int .i64 x.a, .int .i64 x.t] 24)).alloc (.cells #[.int .i64 e.k, .int .i64 e.a] 26)).alloc (.cells #[.int .i64 0, .int .i64 0, .int .i64 0] 24))) := fun W => bA (bA (bA (Below.refl _ _) _) _) _
  have HL := Lib.hid hL; clear hL
  have HT := Lib.hid hT; clear hT
  unfold sumV eventV
  go_enter Tryd.func11, Tryd.ntmps11
  go_wp2_with fail
  refine (stepBy_any x.s e.k _ (Steps.below HT.out (Hbel.out w))).mono ?_
  rintro r w1 ⟨rfl, hb1⟩
  obtain ⟨B0, B1, B2⟩ := Hnew.out w
  have HB0 := Lib.hid (B0.below hb1 (by simp; omega))
  have HB1 := Lib.hid (B1.below hb1 (by simp))
  have HB2 := Lib.hid (B2.below hb1 (by simp))
  have Hbb := Lib.hid (bT (Hbel.out w) hb1)
  clear B0 B1 B2 hb1 Hnew Hbel
  have hz1 := HB2.out.lt
  obtain ⟨R, hR⟩ : ∃ R : Int × Int × Int × Int, stepRow x.s e.k = .agg #[.int .i64 R.1, .int .i64 R.2.1, .int .i64 R.2.2.1, .int .i64 R.2.2.2] ∧ (stepFound x.s e.k = true → R = (x.s, e.k, stepTo x.s e.k, stepTries x.s e.k)) := by
    unfold stepRow
    cases stepFound x.s e.k with
    | true => exact ⟨(x.s, e.k, stepTo x.s e.k, stepTries x.s e.k), rfl, fun _ => rfl⟩
    | false => exact ⟨(0, 0, 0, 0), rfl, fun h => by cases h⟩
  obtain ⟨r0, r1, r2, r3⟩ := R
  dsimp only at hR
  rw [hR.1]
  have HR := Lib.hid hR.2; clear hR
  have a0 := HB0.out.cell 0
  have a1 := HB0.out.cell 1
  have a2 := HB0.out.cell 2
  simp at a0 a1 a2
  have b0 := HB1.out.cell 0
  have b1 := HB1.out.cell 1
  simp at b0 b1
  have hz0 : w.heap.size < w1.heap.size := by omega
  have hz2 : w.heap.size + 1 < w1.heap.size := by omega
  obtain ⟨fd, hfd⟩ : ∃ b, b = stepFound x.s e.k := ⟨_, rfl⟩
  rw [← hfd]
  rw [← hfd] at HR
  have HF := Lib.hid hfd; clear hfd
  have C1 : Hid (∀ W, Limits W → Calls Tryd.prog 13 #[.agg #[.int .i64 x.s, .int .i64 x.a, .int .i64 x.t]] W fun e w' => e = .returned (.bool (Fares.validSum x)) ∧ Below W.heap.size W w') := fun W h => implValidSum_any x W h
  have HL1 := Lib.hid (Limits.below HL.out Hbb.out)
  have Hrow := Lib.hid (Blk.new w1 45 #[.int .i64 r0, .int .i64 r1, .int .i64 r2, .int .i64 r3])
  go_wp2_with fail
  refine (C1.out _ (Limits.below HL1.out (bA (Below.refl _ _) _))).mono ?_
  rintro r w2 ⟨rfl, hb2⟩
  have hz3 := hb2.size
  simp only [World.size_alloc] at hz3
  have HA := Lib.hid ((HB0.out.alloc _).below hb2 (by simp; omega))
  have HB := Lib.hid ((HB1.out.alloc _).below hb2 (by simp; omega))
  have HC := Lib.hid ((HB2.out.alloc _).below hb2 (by simp; omega))
  have HD := Lib.hid (Hrow.out.below hb2 (by simp))
  have Hbb2 := Lib.hid (bT (bA Hbb.out _) hb2)
  clear HB0 HB1 HB2 Hrow Hbb hb2 HL HT HL1 C1 a0 a1 a2 b0 b1
  have a0 := HA.out.cell 0
  have a1 := HA.out.cell 1
  have a2 := HA.out.cell 2
  simp at a0 a1 a2
  have fa0 := HA.out.free 0
  have fa1 := HA.out.free 1
  have fa2 := HA.out.free 2
  have b0 := HB.out.cell 0
  have b1 := HB.out.cell 1
  simp at b0 b1
  have c0 := HC.out.cell 0
  have c1 := HC.out.cell 1
  have c2 := HC.out.cell 2
  simp at c0 c1 c2
  have fc0 := HC.out.free 0
  have fc1 := HC.out.free 1
  have fc2 := HC.out.free 2
  have d0 := HD.out.cell 0
  have d1 := HD.out.cell 1
  have d2 := HD.out.cell 2
  have d3 := HD.out.cell 3
  simp at d0 d1 d2 d3
  have Hset : Hid (∀ g i u W, w.heap.size ≤ g → Below w.heap.size w W → Below w.heap.size w (W.setCell ⟨g, i, none⟩ u)) := fun g i u W hg h => bS h hg _
  obtain ⟨vd, hvd⟩ : ∃ b, b = Fares.validSum x := ⟨_, rfl⟩
  rw [← hvd]
  have HV := Lib.hid hvd; clear hvd
  cases vd with
  | false =>
    have E : Hid (P = (⟨0, 0, 0⟩, false)) := HP.out.trans (stepFound_bad HV.out.symm)
    go_wp2
    exact bodyPost_ret (v := .tuple #[sumV ⟨0, 0, 0⟩, .bool false]) (by simp [results, Tryd.results11, go_sem, sumV, c0, c1, c2]) rfl ⟨by rw [E.out], Hset.out _ _ _ _ (by omega) (Hset.out _ _ _ _ (by omega) (Hset.out _ _ _ _ (by omega) Hbb2.out))⟩
  | true =>
    cases fd with
    | false =>
      have E : Hid (P = (⟨0, 0, 0⟩, false)) := HP.out.trans (stepFound_no HF.out.symm)
      go_wp2
      exact bodyPost_ret (v := .tuple #[sumV ⟨0, 0, 0⟩, .bool false]) (by simp [results, Tryd.results11, go_sem, sumV, c0, c1, c2]) rfl ⟨by rw [E.out], Hset.out _ _ _ _ (by omega) (Hset.out _ _ _ _ (by omega) (Hset.out _ _ _ _ (by omega) Hbb2.out))⟩
    | true =>
      have hR := HR.out rfl
      injection hR with hR0 hR; injection hR with hR1 hR; injection hR with hR2 hR3
      subst hR0 hR1
      obtain ⟨to0, to1, tr0, tr1⟩ := stepTo_in x.s e.k
      rw [← hR2] at to0 to1
      rw [← hR3] at tr0 tr1
      have HTO := Lib.hid hR2; clear hR2
      have HTR := Lib.hid hR3; clear hR3
      have hq := Fares.valid_iff.1 HV.out.symm
      have q0 : 0 ≤ x.a ∧ x.a ≤ 100000 ∧ 0 ≤ x.t ∧ x.t ≤ 4 := ⟨hq.2.2.1, hq.2.2.2.1, hq.2.2.2.2.1, hq.2.2.2.2.2.1⟩
      obtain ⟨q0, q1, q2, q3⟩ := q0
      clear hq HD HR
      by_cases hk : e.k = 1
      · have hs : x.s = 0 := by
          have := HF.out
          unfold stepFound at this
          have := of_decide_eq_true this.symm
          omega
        have e1 : (e.k == 1) = true := by rw [beq_iff_eq]; exact hk
        have HK := Lib.hid hk; clear hk
        have HS := Lib.hid hs; clear hs
        have C2 : Hid (∀ W, Calls Tryd.prog 27 #[.agg #[.int .i64 x.s, .int .i64 x.a, .int .i64 x.t], .int .i64 e.a] W fun r w' => r = .returned (.bool (decide (0 ≤ e.a ∧ e.a ≤ 100000 - x.a))) ∧ Below W.heap.size W w') := fun W => canAdd_any x e.a W q0 q1
        by_cases hc : 0 ≤ e.a ∧ e.a ≤ 100000 - x.a
        · have dc : decide (0 ≤ e.a ∧ e.a ≤ 100000 - x.a) = true := decide_eq_true hc
          rw [dc] at C2
          have hcc := Lib.hid hc
          obtain ⟨hc0, hc1⟩ := hc
          clear dc
          go_wp2_with fail
          refine (C2.out _).mono ?_
          rintro r w3 ⟨rfl, hb3⟩
          have HA3 := Lib.hid (HA.out.below hb3 (by omega))
          have HB3 := Lib.hid (HB.out.below hb3 (by omega))
          have HC3 := Lib.hid (HC.out.below hb3 (by omega))
          have Hbb3 := Lib.hid (bT Hbb2.out hb3)
          have dd0 := (hb3.cell (p := ⟨w1.heap.size, 0, none⟩) (by show w1.heap.size < _; omega)).trans d0
          have dd1 := (hb3.cell (p := ⟨w1.heap.size, 1, none⟩) (by show w1.heap.size < _; omega)).trans d1
          have dd2 := (hb3.cell (p := ⟨w1.heap.size, 2, none⟩) (by show w1.heap.size < _; omega)).trans d2
          have dd3 := (hb3.cell (p := ⟨w1.heap.size, 3, none⟩) (by show w1.heap.size < _; omega)).trans d3
          have hz4 := hb3.size
          clear hb3 C2 a0 a1 a2 fa0 fa1 fa2 b0 b1 c0 c1 c2 fc0 fc1 fc2 d0 d1 d2 d3
          have a0 := HA3.out.cell 0
          have a1 := HA3.out.cell 1
          have a2 := HA3.out.cell 2
          simp at a0 a1 a2
          have fa0 := HA3.out.free 0
          have fa1 := HA3.out.free 1
          have fa2 := HA3.out.free 2
          have b0 := HB3.out.cell 0
          have b1 := HB3.out.cell 1
          simp at b0 b1
          have nb1 : w1.heap.size ≠ w.heap.size := by omega
          have nb2 : w.heap.size ≠ w1.heap.size := by omega
          go_wp2_with fail
          refine (settled_cells ⟨r2, x.a + e.a, x.t + r3⟩ _).mono ?_
          rintro r w4 ⟨rfl, hb4⟩
          have hC4 : Blk w4 (w.heap.size + 1 + 1) 24 #[.int .i64 0, .int .i64 0, .int .i64 0] := by
            refine Blk.below ?_ hb4 (by simp; omega)
            repeat (first | exact HC3.out | refine Blk.far ?_ (by show _ ≠ w.heap.size; omega) _)
          have hb5 : Below w.heap.size w w4 := by
            refine bT ?_ hb4
            repeat (first | exact Hbb3.out | refine Hset.out _ _ _ _ (Nat.le_refl _) ?_)
          have HB5 := Lib.hid hb5; clear hb5 hb4
          have k0 := hC4.cell 0
          have k1 := hC4.cell 1
          have k2 := hC4.cell 2
          simp at k0 k1 k2
          have fk0 := hC4.free 0
          have fk1 := hC4.free 1
          have fk2 := hC4.free 2
          have E : Hid (P = (settle ⟨r2, x.a + e.a, x.t + r3⟩, true)) := by
                      show P = _
                      rw [HP.out, step_add HV.out.symm HS.out HK.out hcc.out, HTO.out, HTR.out, HS.out, HK.out]
                      simp [stepTo, stepTries]
          obtain ⟨S, hS⟩ : ∃ S, S = settle ⟨r2, x.a + e.a, x.t + r3⟩ := ⟨_, rfl⟩
          rw [← hS] at E
          rw [← hS]
          clear hS hC4
          go_wp2
          exact bodyPost_ret (v := .tuple #[sumV S, .bool true]) (by simp [results, Tryd.results11, go_sem, sumV, k0, k1, k2]) rfl ⟨by rw [E.out], Hset.out _ _ _ _ (by omega) (Hset.out _ _ _ _ (by omega) (Hset.out _ _ _ _ (by omega) HB5.out))⟩
        · have dc : decide (0 ≤ e.a ∧ e.a ≤ 100000 - x.a) = false := decide_eq_false hc
          rw [dc] at C2
          have E : Hid (P = (⟨0, 0, 0⟩, false)) := HP.out.trans (step_add_no HK.out hc)
          clear dc hc
          go_wp2_with fail
          refine (C2.out _).mono ?_
          rintro r w3 ⟨rfl, hb3⟩
          have hC3 := HC.out.below hb3 (by omega)
          have Hbb3 := Lib.hid (bT Hbb2.out hb3)
          clear hb3 C2 c0 c1 c2 fc0 fc1 fc2
          have c0 := hC3.cell 0
          have c1 := hC3.cell 1
          have c2 := hC3.cell 2
          simp at c0 c1 c2
          have fc0 := hC3.free 0
          have fc1 := hC3.free 1
          have fc2 := hC3.free 2
          clear hC3
          go_wp2
          exact bodyPost_ret (v := .tuple #[sumV ⟨0, 0, 0⟩, .bool false]) (by simp [results, Tryd.results11, go_sem, sumV, c0, c1, c2]) rfl ⟨by rw [E.out], Hset.out _ _ _ _ (by omega) (Hset.out _ _ _ _ (by omega) (Hset.out _ _ _ _ (by omega) Hbb3.out))⟩
      · have e1 : (e.k == 1) = false := by rw [beq_eq_false_iff_ne]; exact hk
        have HK := Lib.hid hk; clear hk
        have nb1 : w1.heap.size ≠ w.heap.size := by omega
        have nb2 : w.heap.size ≠ w1.heap.size := by omega
        go_wp2_with fail
        refine (settled_cells ⟨r2, x.a, x.t + r3⟩ _).mono ?_
        rintro r w4 ⟨rfl, hb4⟩
        have hC4 : Blk w4 (w.heap.size + 1 + 1) 24 #[.int .i64 0, .int .i64 0, .int .i64 0] := by
          refine Blk.below ?_ hb4 (by simp; omega)
          repeat (first | exact HC.out | refine Blk.far ?_ (by show _ ≠ w.heap.size; omega) _)
        have hb5 : Below w.heap.size w w4 := by
          refine bT ?_ hb4
          repeat (first | exact Hbb2.out | refine Hset.out _ _ _ _ (Nat.le_refl _) ?_)
        have HB5 := Lib.hid hb5; clear hb5 hb4
        have k0 := hC4.cell 0
        have k1 := hC4.cell 1
        have k2 := hC4.cell 2
        simp at k0 k1 k2
        have fk0 := hC4.free 0
        have fk1 := hC4.free 1
        have fk2 := hC4.free 2
        have E : Hid (P = (settle ⟨r2, x.a, x.t + r3⟩, true)) := by
                  show P = _
                  rw [HP.out, step_other HV.out.symm HF.out.symm HK.out, HTO.out, HTR.out]
        obtain ⟨S, hS⟩ : ∃ S, S = settle ⟨r2, x.a, x.t + r3⟩ := ⟨_, rfl⟩
        rw [← hS] at E
        rw [← hS]
        clear hS hC4
        go_wp2
        exact bodyPost_ret (v := .tuple #[sumV S, .bool true]) (by simp [results, Tryd.results11, go_sem, sumV, k0, k1, k2]) rfl ⟨by rw [E.out], Hset.out _ _ _ _ (by omega) (Hset.out _ _ _ _ (by omega) (Hset.out _ _ _ _ (by omega) HB5.out))⟩
end Go.Proofs.YtpdlngekeeaocabDoor
