/-
  RunEvents on both sides.
-/
import Derived.Test.YtpdlngekeeaocabDoorAggStep4
import Derived.StillTailTactics
set_option linter.unusedSimpArgs false
namespace Go.Proofs.YtpdlngekeeaocabDoor
open Go.RowKit
set_option linter.unusedVariables false

/-- An aggregate, and how many events were possible. -/
def RunOut (w : World) (p : Fares.Sum × Int) (r : Ending) (w' : World) : Prop := r = .returned (.tuple #[sumV p.1, .int .i64 p.2]) ∧ Below w.heap.size w w'
theorem runEvents_bad {x : Fares.Sum} {l : List Fares.Event} (h : Fares.validSum x = false ∨ 20 < l.length) : Fares.runEvents x l = (⟨0, 0, 0⟩, -1) := by
  unfold Fares.runEvents
  rw [if_neg]
  rcases h with h | h
  · rw [h]; simp
  · omega
theorem runEvents_ok {x : Fares.Sum} {l : List Fares.Event} (h : Fares.validSum x = true) (hl : l.length ≤ 20) : Fares.runEvents x l = Fares.runAll x l := by
  unfold Fares.runEvents
  rw [if_pos ⟨h, hl⟩]
theorem stepSum_of {y : Fares.Sum} (e : Fares.Event) (h : Fares.validSum y = true) : Fares.stepSum y e = Fares.step y e := by unfold Fares.stepSum; rw [h]; rfl

set_option maxRecDepth 100000 in
set_option maxHeartbeats 4000000 in
theorem implRunEvents_any (x : Fares.Sum) (A : Option Addr) (n c : Nat) (l : List Fares.Event) (w : World) (hx : Events w w.heap.size A l) (hn : l.length = n) (hl : n ≤ 1000000000) (hL : Limits w) (hT : Steps w) :
    Calls Tryd.prog 15 #[sumV x, .slice A n c] w (RunOut w (Fares.runEvents x l)) := by
  subst hn
  obtain ⟨P, hP⟩ : ∃ P, P = Fares.runEvents x l := ⟨_, rfl⟩
  rw [← hP]
  have HP := Lib.hid hP; clear hP
  have HL := Lib.hid hL; clear hL
  have HT := Lib.hid hT; clear hT
  have HX := Lib.hid hx; clear hx
  have C1 : Hid (∀ W, Limits W → Calls Tryd.prog 13 #[.agg #[.int .i64 x.s, .int .i64 x.a, .int .i64 x.t]] W fun e w' => e = .returned (.bool (Fares.validSum x)) ∧ Below W.heap.size W w') := fun W h => implValidSum_any x W h
  have Hnew : Hid (∀ W : World, Blk ((W.alloc (.cells #[.int .i64 x.s, .int .i64 x.a, .int .i64 x.t] 24)).alloc (.cells #[.int .i64 0, .int .i64 0, .int .i64 0] 24)) W.heap.size 24 #[.int .i64 x.s, .int .i64 x.a, .int .i64 x.t]
      ∧ Blk ((W.alloc (.cells #[.int .i64 x.s, .int .i64 x.a, .int .i64 x.t] 24)).alloc (.cells #[.int .i64 0, .int .i64 0, .int .i64 0] 24)) (W.heap.size + 1) 24 #[.int .i64 0, .int .i64 0, .int .i64 0]) := fun W =>
    ⟨(Blk.new W _ _).alloc _, by have := Blk.new (W.alloc (.cells #[.int .i64 x.s, .int .i64 x.a, .int .i64 x.t] 24)) 24 #[.int .i64 0, .int .i64 0, .int .i64 0]; simpa using this⟩
  have Hbel : Hid (∀ W : World, Below W.heap.size W ((W.alloc (.cells #[.int .i64 x.s, .int .i64 x.a, .int .i64 x.t] 24)).alloc (.cells #[.int .i64 0, .int .i64 0, .int .i64 0] 24))) := fun W => bA (bA (Below.refl _ _) _) _
  unfold sumV
  go_enter Tryd.func15, Tryd.ntmps15
  go_wp2_with fail
  refine (C1.out _ (Limits.below HL.out (Hbel.out w))).mono ?_
  rintro r w1 ⟨rfl, hb1⟩
  obtain ⟨B0, B1⟩ := Hnew.out w
  have HB0 := Lib.hid (B0.below hb1 (by simp; omega))
  have HB1 := Lib.hid (B1.below hb1 (by simp))
  have Hbb := Lib.hid (bT (Hbel.out w) hb1)
  clear B0 B1 hb1 Hnew Hbel C1
  have hz1 := HB1.out.lt
  have hz10 : w.heap.size < w1.heap.size := by omega
  have Hset : Hid (∀ g i u W, w.heap.size ≤ g → Below w.heap.size w W → Below w.heap.size w (W.setCell ⟨g, i, none⟩ u)) := fun g i u W hg h => bS h hg _
  have a0 := HB0.out.cell 0
  have a1 := HB0.out.cell 1
  have a2 := HB0.out.cell 2
  simp at a0 a1 a2
  have b0 := HB1.out.cell 0
  have b1 := HB1.out.cell 1
  have b2 := HB1.out.cell 2
  simp at b0 b1 b2
  have fb0 := HB1.out.free 0
  have fb1 := HB1.out.free 1
  have fb2 := HB1.out.free 2
  cases hv : Fares.validSum x with
  | false =>
    have E : Hid (P = (⟨0, 0, 0⟩, -1)) := HP.out.trans (runEvents_bad (.inl hv))
    clear hv
    go_wp2
    exact bodyPost_ret (v := .tuple #[sumV ⟨0, 0, 0⟩, .int .i64 (-1)]) (by simp [results, Tryd.results15, go_sem, sumV, b0, b1, b2]) rfl ⟨by rw [E.out], Hset.out _ _ _ _ (by omega) (Hset.out _ _ _ _ (by omega) (Hset.out _ _ _ _ (by omega) Hbb.out))⟩
  | true =>
    have HV := Lib.hid hv; clear hv
    by_cases h20 : 20 < l.length
    · have d20 : decide ((20 : Int) < (l.length : Int)) = true := decide_eq_true (by omega)
      have E : Hid (P = (⟨0, 0, 0⟩, -1)) := HP.out.trans (runEvents_bad (.inr h20))
      go_wp2
      exact bodyPost_ret (v := .tuple #[sumV ⟨0, 0, 0⟩, .int .i64 (-1)]) (by simp [results, Tryd.results15, go_sem, sumV, b0, b1, b2]) rfl ⟨by rw [E.out], Hset.out _ _ _ _ (by omega) (Hset.out _ _ _ _ (by omega) (Hset.out _ _ _ _ (by omega) Hbb.out))⟩
    · have d20 : decide ((20 : Int) < (l.length : Int)) = false := decide_eq_false (by omega)
      have E : Hid (P = Fares.runAll x l) := HP.out.trans (runEvents_ok HV.out (by omega))
      go_wp2
      clear a0 a1 a2 b0 b1 b2 fb0 fb1 fb2
      go_loopw [22, 6] (fun i m wr => ∃ k : Nat, k ≤ l.length ∧ i = .int .i64 k ∧ m = .int .i64 (Fares.runAll x (l.take k)).2 ∧ Below w.heap.size w wr ∧ Blk wr w.heap.size 24 #[.int .i64 (Fares.runAll x (l.take k)).1.s, .int .i64 (Fares.runAll x (l.take k)).1.a, .int .i64 (Fares.runAll x (l.take k)).1.t] ∧ Blk wr (w.heap.size + 1) 24 #[.int .i64 0, .int .i64 0, .int .i64 0]) (fun i _ _ => l.length - (intOf i).toNat)
      case atStart => exact ⟨0, Nat.zero_le _, rfl, rfl, Hbb.out, HB0.out, HB1.out⟩
      case round =>
        obtain ⟨k, hk, rfl, rfl, hb, hblk, hres⟩ := hrel
        have Hblk := Lib.hid hblk; clear hblk
        have Hres := Lib.hid hres; clear hres
        obtain ⟨Y, hY⟩ : ∃ Y, Y = Fares.runAll x (l.take k) := ⟨_, rfl⟩
        rw [← hY] at Hblk ⊢
        have hrange := Fares.runAll_range x (l.take k)
        rw [← hY] at hrange
        have hr0 : 0 ≤ Y.2 := hrange.1
        have hr1 : Y.2 ≤ 20 := by
          have := List.length_take_le k l
          omega
        have hYv : Hid (Fares.validSum Y.1 = true) := by
          show Fares.validSum Y.1 = true
          rw [hY]; exact Fares.runAll_valid _ HV.out
        have HY := Lib.hid hY; clear hY hrange
        have hzr := Hres.out.lt
        have hzr0 : w.heap.size < wr.heap.size := by omega
        have a0 := Hblk.out.cell 0
        have a1 := Hblk.out.cell 1
        have a2 := Hblk.out.cell 2
        simp at a0 a1 a2
        have fa0 := Hblk.out.free 0
        have fa1 := Hblk.out.free 1
        have fa2 := Hblk.out.free 2
        have b0 := Hres.out.cell 0
        have b1 := Hres.out.cell 1
        have b2 := Hres.out.cell 2
        simp at b0 b1 b2
        have fb0 := Hres.out.free 0
        have fb1 := Hres.out.free 1
        have fb2 := Hres.out.free 2
        by_cases hlt : k < l.length
        · obtain ⟨e, hek⟩ : ∃ e, l[k]? = some e := ⟨_, List.getElem?_eq_getElem hlt⟩
          obtain ⟨bE, oE, rfl, hbE, hrE⟩ := HX.out.row (by omega)
          obtain ⟨p0, p1⟩ := (hrE k e hek).below hb hbE
          have Hk := Lib.hid hek; clear hek hrE
          have i0 : (0 : Int) ≤ (k : Int) := by omega
          have i1 : (k : Int) < (l.length : Int) := by omega
          obtain ⟨Q, hQ⟩ : ∃ Q, Q = Fares.stepSum Y.1 e := ⟨_, rfl⟩
          have C2 : Hid (∀ W, Limits W → Steps W → Calls Tryd.prog 11 #[.agg #[.int .i64 Y.1.s, .int .i64 Y.1.a, .int .i64 Y.1.t], .agg #[.int .i64 e.k, .int .i64 e.a]] W fun r w' => r = .returned (.tuple #[.agg #[.int .i64 Q.1.s, .int .i64 Q.1.a, .int .i64 Q.1.t], .bool Q.2]) ∧ Below W.heap.size W w') := fun W h1 h2 => by
            rw [hQ]
            exact implStepSum_any Y.1 e W h1 h2
          have HQ := Lib.hid hQ; clear hQ
          have HbE : Hid (∀ o, Below w.heap.size w (wr.alloc o)) := fun o => bA hb o
          have hnE : Blk (wr.alloc (.cells #[.int .i64 e.k, .int .i64 e.a] 26)) wr.heap.size 26 #[.int .i64 e.k, .int .i64 e.a] := Blk.new _ _ _
          have HnE := Lib.hid hnE; clear hnE
          go_wp2_with fail
          refine (C2.out _ (Limits.below HL.out (HbE.out _)) (Steps.below HT.out (HbE.out _))).mono ?_
          rintro r w2 ⟨rfl, hb2⟩
          have hz2 := hb2.size
          simp only [World.size_alloc] at hz2
          have hz20 : w.heap.size < w2.heap.size := by omega
          have HB2 := Lib.hid ((Hblk.out.alloc _).below hb2 (by simp; omega))
          have HR2 := Lib.hid ((Hres.out.alloc _).below hb2 (by simp; omega))
          have Hb2 := Lib.hid (bT (HbE.out _) hb2)
          clear Hblk Hres C2 HbE HnE hb2 a0 a1 a2 fa0 fa1 fa2 b0 b1 b2 fb0 fb1 fb2 p0 p1
          have a0 := HB2.out.cell 0
          have a1 := HB2.out.cell 1
          have a2 := HB2.out.cell 2
          simp at a0 a1 a2
          have fa0 := HB2.out.free 0
          have fa1 := HB2.out.free 1
          have fa2 := HB2.out.free 2
          have hnx : Hid (Fares.runAll x (l.take (k + 1)) = if Q.2 then (Q.1, Y.2 + 1) else Y) := by
            show Fares.runAll x (l.take (k + 1)) = _
            rw [Fares.runAll_next Hk.out, ← HY.out, HQ.out, stepSum_of e hYv.out]
            rfl
          obtain ⟨⟨s1, a1', t1⟩, q2⟩ := Q
          dsimp only at hnx ⊢
          cases q2 with
          | true =>
            have W1 : IntKind.i64.wrap (Y.2 + 1) = Y.2 + 1 := IntWalk.i64_in _ (by omega)
            have hfin := ((((HB2.out.put 0 (.int .i64 s1)).put 1 (.int .i64 a1')).put 2 (.int .i64 t1)).alloc (.cells #[.int .i64 s1, .int .i64 a1', .int .i64 t1] 24))
            have Hfin := Lib.hid hfin; clear hfin
            go_wp2
            go_roundw
            case rel => exact ⟨k + 1, by omega, by go_num, by rw [hnx.out]; first | rfl | go_num, bA (Hset.out w.heap.size _ _ _ (Nat.le_refl _) (Hset.out w.heap.size _ _ _ (Nat.le_refl _) (Hset.out w.heap.size _ _ _ (Nat.le_refl _) Hb2.out))) _, by rw [hnx.out]; simpa using Hfin.out, (((HR2.out.far (by show _ ≠ w.heap.size; omega) _).far (by show _ ≠ w.heap.size; omega) _).far (by show _ ≠ w.heap.size; omega) _).alloc _⟩
            case measure => simp [intOf]; omega
          | false =>
            go_wp2
            go_roundw
            case rel => exact ⟨k + 1, by omega, by go_num, by rw [hnx.out]; rfl, bA Hb2.out _, by rw [hnx.out]; exact HB2.out.alloc _, HR2.out.alloc _⟩
            case measure => simp [intOf]; omega
        · have hE : Hid (P = Y) := by
            show P = Y
            rw [E.out, HY.out, List.take_of_length_le (by omega)]
          go_wp2
          exact bodyPost_ret (v := .tuple #[sumV Y.1, .int .i64 Y.2]) (by simp [results, Tryd.results15, go_sem, sumV, b0, b1, b2]) rfl ⟨by rw [hE.out], Hset.out _ _ _ _ (by omega) (Hset.out _ _ _ _ (by omega) (Hset.out _ _ _ _ (by omega) hb))⟩
end Go.Proofs.YtpdlngekeeaocabDoor
