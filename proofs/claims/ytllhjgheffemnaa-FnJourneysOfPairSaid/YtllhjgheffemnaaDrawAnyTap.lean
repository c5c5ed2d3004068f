/-
  Drawn taps that may be invalid.
-/
import Derived.Test.YtllhjgheffemnaaDrawTap
set_option linter.unusedSimpArgs false
namespace Go.Proofs.Ytllhjgheffemnaa
open Go.RowKit
set_option linter.unusedVariables false
def tapSmall2_ (t : Fares.Tap) : Prop := -1 ≤ t.v ∧ t.v ≤ 1000 ∧ -1 ≤ t.n ∧ t.n ≤ 1000 ∧ -1 ≤ t.c ∧ t.c ≤ 1000 ∧ -1 ≤ t.m ∧ t.m ≤ 50000 ∧ -1 ≤ t.s ∧ t.s ≤ 1000
def SomeTap2 (g p : Nat) (w : World) (e : Ending) (w' : World) : Prop :=
  ∃ (t : Fares.Tap) (q : Nat), e = .returned (tapV t) ∧ tapSmall t ∧ q ≤ p + 14 ∧ Rd w' g q ∧ w.grownBy w' (some g)

set_option maxRecDepth 100000 in
set_option maxHeartbeats 1500000 in
theorem anyTap_any (g p : Nat) (w : World) (hr : Rd w g p) (hp : p ≤ 40000) :
    Calls Try.prog 52 #[.pointer (some ⟨g, 0, none⟩)] w (SomeTap2 g p w) := by
  have hgw := hr.lt
  have hbx0 : ∀ cs, Blk (w.alloc (.cells cs 36)) w.heap.size 36 cs := fun cs => Blk.new w _ cs
  have Hbx0 := Lib.hid hbx0; clear hbx0
  have Hgr0 : Hid (∀ o, w.grownBy (w.alloc o) (some g)) := fun o => grown_alloc (grown_refl w _) o
  go_enter Try.func52, Try.ntmps52
  go_wp2_with fail
  refine (randomTap_any g p 10 _ (hr.alloc _) (by omega) (by omega) (by omega)).mono ?_
  rintro e w1 ⟨t, q, rfl, ht, hq, hr1, hg1⟩
  have Ht := Lib.hid ht; clear ht hr
  have Hbr1 := Lib.hid ((Hbx0.out _).grown hg1 (by intro e; injection e with e; omega))
  have Hg1 := Lib.hid (grown_trans (Hgr0.out _) hg1)
  have hz1 : w.heap.size < w1.heap.size := by have := hg1.size; simp at this; omega
  clear hg1
  unfold tapV
  have hbn : Blk (w1.alloc (.cells #[.int .i64 t.v, .int .i64 t.n, .int .i64 t.c, .int .i64 t.m, .int .i64 t.s, .bool t.o] 36)) w1.heap.size 36 #[.int .i64 t.v, .int .i64 t.n, .int .i64 t.c, .int .i64 t.m, .int .i64 t.s, .bool t.o] := Blk.new w1 _ _
  have Hbn := Lib.hid hbn; clear hbn
  go_wp2_with fail
  refine (pick_any g q 30 _ (hr1.alloc _) (by omega)).mono ?_
  rintro e w2 ⟨a, rfl, a0, a1, hr2, hg2⟩
  have a2 := a1 (by omega)
  clear a1 hr1
  have hz2 : w1.heap.size < w2.heap.size := by have := hg2.size; simp at this; omega
  have Hbx2 := Lib.hid (Hbn.out.grown hg2 (by intro e; injection e with e; omega))
  have Hbr2 := Lib.hid ((Hbr1.out.alloc _).grown hg2 (by intro e; injection e with e; omega))
  have Hg2 := Lib.hid (grown_trans (grown_alloc Hg1.out _) hg2)
  clear hg2
  by_cases h0 : a = 0
  · subst h0
    go_wp2_with fail
    refine (one_in g (q + 1) w2.heap.size [-1, 10] (-1) 10 2 2 _ _ (hr2.alloc _) (by omega) (Blk.new w2 _ _) (by have := hr2.lt; omega) rfl rfl (by omega) (by omega) (by decide)).mono ?_
    rintro e w3 ⟨x, rfl, x0, x1, hr3, hg3⟩
    clear hr2
    have Hbx3 := Lib.hid ((Hbx2.out.alloc _).grown hg3 (by intro e; injection e with e; omega))
    have Hbr3 := Lib.hid ((Hbr2.out.alloc _).grown hg3 (by intro e; injection e with e; omega))
    have Hg3 := Lib.hid (grown_trans (grown_alloc Hg2.out _) hg3)
    clear hg3
    have q0 := Hbx3.out.cell 0
    have r0 := Hbr3.out.cell 0
    have f0 := Hbx3.out.free 0
    have s0 := Hbr3.out.free 0
    have q1 := Hbx3.out.cell 1
    have r1 := Hbr3.out.cell 1
    have f1 := Hbx3.out.free 1
    have s1 := Hbr3.out.free 1
    have q2 := Hbx3.out.cell 2
    have r2 := Hbr3.out.cell 2
    have f2 := Hbx3.out.free 2
    have s2 := Hbr3.out.free 2
    have q3 := Hbx3.out.cell 3
    have r3 := Hbr3.out.cell 3
    have f3 := Hbx3.out.free 3
    have s3 := Hbr3.out.free 3
    have q4 := Hbx3.out.cell 4
    have r4 := Hbr3.out.cell 4
    have f4 := Hbx3.out.free 4
    have s4 := Hbr3.out.free 4
    have q5 := Hbx3.out.cell 5
    have r5 := Hbr3.out.cell 5
    have f5 := Hbx3.out.free 5
    have s5 := Hbr3.out.free 5
    simp at q0 r0 q1 r1 q2 r2 q3 r3 q4 r4 q5 r5
    have hne : ¬ w.heap.size = w1.heap.size := by omega
    have hne' : ¬ w1.heap.size = w.heap.size := by omega
    go_wp2
    exact bodyPost_ret (v := tapV ⟨x, t.n, t.c, t.m, t.s, t.o⟩) (by simp [results, Try.results52, go_sem, tapV, r0, r1, r2, r3, r4, r5]) rfl
      ⟨⟨x, t.n, t.c, t.m, t.s, t.o⟩, q + 1 + 1, rfl, by have h0 := Ht.out; unfold tapSmall at h0 ⊢; dsimp only; omega, by omega, (by
        have hB : ∀ b i u (w0 : World), g < b → Rd w0 g (q + 1 + 1) → Rd (w0.setCell ⟨b, i, none⟩ u) g (q + 1 + 1) := fun b i u w0 hb hq => hq.below ((Below.refl (g + 1) _).setCell (p := ⟨b, i, none⟩) (by show g + 1 ≤ b; omega) _)
        repeat (first | (with_reducible exact hr3) | refine hB _ _ _ _ (by omega) ?_)), (by
        have hG : ∀ b i u (w0 : World), w.heap.size ≤ b → w.grownBy w0 (some g) → w.grownBy (w0.setCell ⟨b, i, none⟩ u) (some g) := fun b i u w0 hb hq => grown_setCell hq (p := ⟨b, i, none⟩) (.inr hb) _
        repeat (first | (with_reducible exact Hg3.out) | refine hG _ _ _ _ (by omega) ?_))⟩
  · have b0 : (a == 0) = false := by simpa using h0
    by_cases h1 : a = 1
    · subst h1
      go_wp2_with fail
      refine (one_in g (q + 1) w2.heap.size [-1, 999, 1000] (-1) 1000 3 3 _ _ (hr2.alloc _) (by omega) (Blk.new w2 _ _) (by have := hr2.lt; omega) rfl rfl (by omega) (by omega) (by decide)).mono ?_
      rintro e w3 ⟨x, rfl, x0, x1, hr3, hg3⟩
      clear hr2
      have Hbx3 := Lib.hid ((Hbx2.out.alloc _).grown hg3 (by intro e; injection e with e; omega))
      have Hbr3 := Lib.hid ((Hbr2.out.alloc _).grown hg3 (by intro e; injection e with e; omega))
      have Hg3 := Lib.hid (grown_trans (grown_alloc Hg2.out _) hg3)
      clear hg3
      have q0 := Hbx3.out.cell 0
      have r0 := Hbr3.out.cell 0
      have f0 := Hbx3.out.free 0
      have s0 := Hbr3.out.free 0
      have q1 := Hbx3.out.cell 1
      have r1 := Hbr3.out.cell 1
      have f1 := Hbx3.out.free 1
      have s1 := Hbr3.out.free 1
      have q2 := Hbx3.out.cell 2
      have r2 := Hbr3.out.cell 2
      have f2 := Hbx3.out.free 2
      have s2 := Hbr3.out.free 2
      have q3 := Hbx3.out.cell 3
      have r3 := Hbr3.out.cell 3
      have f3 := Hbx3.out.free 3
      have s3 := Hbr3.out.free 3
      have q4 := Hbx3.out.cell 4
      have r4 := Hbr3.out.cell 4
      have f4 := Hbx3.out.free 4
      have s4 := Hbr3.out.free 4
      have q5 := Hbx3.out.cell 5
      have r5 := Hbr3.out.cell 5
      have f5 := Hbx3.out.free 5
      have s5 := Hbr3.out.free 5
      simp at q0 r0 q1 r1 q2 r2 q3 r3 q4 r4 q5 r5
      have hne : ¬ w.heap.size = w1.heap.size := by omega
      have hne' : ¬ w1.heap.size = w.heap.size := by omega
      go_wp2
      exact bodyPost_ret (v := tapV ⟨t.v, x, t.c, t.m, t.s, t.o⟩) (by simp [results, Try.results52, go_sem, tapV, r0, r1, r2, r3, r4, r5]) rfl
        ⟨⟨t.v, x, t.c, t.m, t.s, t.o⟩, q + 1 + 1, rfl, by have h0 := Ht.out; unfold tapSmall at h0 ⊢; dsimp only; omega, by omega, (by
          have hB : ∀ b i u (w0 : World), g < b → Rd w0 g (q + 1 + 1) → Rd (w0.setCell ⟨b, i, none⟩ u) g (q + 1 + 1) := fun b i u w0 hb hq => hq.below ((Below.refl (g + 1) _).setCell (p := ⟨b, i, none⟩) (by show g + 1 ≤ b; omega) _)
          repeat (first | (with_reducible exact hr3) | refine hB _ _ _ _ (by omega) ?_)), (by
          have hG : ∀ b i u (w0 : World), w.heap.size ≤ b → w.grownBy w0 (some g) → w.grownBy (w0.setCell ⟨b, i, none⟩ u) (some g) := fun b i u w0 hb hq => grown_setCell hq (p := ⟨b, i, none⟩) (.inr hb) _
          repeat (first | (with_reducible exact Hg3.out) | refine hG _ _ _ _ (by omega) ?_))⟩
    · have b1 : (a == 1) = false := by simpa using h1
      by_cases h2 : a = 2
      · subst h2
        go_wp2_with fail
        refine (one_in g (q + 1) w2.heap.size [-1, 100] (-1) 100 2 2 _ _ (hr2.alloc _) (by omega) (Blk.new w2 _ _) (by have := hr2.lt; omega) rfl rfl (by omega) (by omega) (by decide)).mono ?_
        rintro e w3 ⟨x, rfl, x0, x1, hr3, hg3⟩
        clear hr2
        have Hbx3 := Lib.hid ((Hbx2.out.alloc _).grown hg3 (by intro e; injection e with e; omega))
        have Hbr3 := Lib.hid ((Hbr2.out.alloc _).grown hg3 (by intro e; injection e with e; omega))
        have Hg3 := Lib.hid (grown_trans (grown_alloc Hg2.out _) hg3)
        clear hg3
        have q0 := Hbx3.out.cell 0
        have r0 := Hbr3.out.cell 0
        have f0 := Hbx3.out.free 0
        have s0 := Hbr3.out.free 0
        have q1 := Hbx3.out.cell 1
        have r1 := Hbr3.out.cell 1
        have f1 := Hbx3.out.free 1
        have s1 := Hbr3.out.free 1
        have q2 := Hbx3.out.cell 2
        have r2 := Hbr3.out.cell 2
        have f2 := Hbx3.out.free 2
        have s2 := Hbr3.out.free 2
        have q3 := Hbx3.out.cell 3
        have r3 := Hbr3.out.cell 3
        have f3 := Hbx3.out.free 3
        have s3 := Hbr3.out.free 3
        have q4 := Hbx3.out.cell 4
        have r4 := Hbr3.out.cell 4
        have f4 := Hbx3.out.free 4
        have s4 := Hbr3.out.free 4
        have q5 := Hbx3.out.cell 5
        have r5 := Hbr3.out.cell 5
        have f5 := Hbx3.out.free 5
        have s5 := Hbr3.out.free 5
        simp at q0 r0 q1 r1 q2 r2 q3 r3 q4 r4 q5 r5
        have hne : ¬ w.heap.size = w1.heap.size := by omega
        have hne' : ¬ w1.heap.size = w.heap.size := by omega
        go_wp2
        exact bodyPost_ret (v := tapV ⟨t.v, t.n, x, t.m, t.s, t.o⟩) (by simp [results, Try.results52, go_sem, tapV, r0, r1, r2, r3, r4, r5]) rfl
          ⟨⟨t.v, t.n, x, t.m, t.s, t.o⟩, q + 1 + 1, rfl, by have h0 := Ht.out; unfold tapSmall at h0 ⊢; dsimp only; omega, by omega, (by
            have hB : ∀ b i u (w0 : World), g < b → Rd w0 g (q + 1 + 1) → Rd (w0.setCell ⟨b, i, none⟩ u) g (q + 1 + 1) := fun b i u w0 hb hq => hq.below ((Below.refl (g + 1) _).setCell (p := ⟨b, i, none⟩) (by show g + 1 ≤ b; omega) _)
            repeat (first | (with_reducible exact hr3) | refine hB _ _ _ _ (by omega) ?_)), (by
            have hG : ∀ b i u (w0 : World), w.heap.size ≤ b → w.grownBy w0 (some g) → w.grownBy (w0.setCell ⟨b, i, none⟩ u) (some g) := fun b i u w0 hb hq => grown_setCell hq (p := ⟨b, i, none⟩) (.inr hb) _
            repeat (first | (with_reducible exact Hg3.out) | refine hG _ _ _ _ (by omega) ?_))⟩
      · have b2 : (a == 2) = false := by simpa using h2
        by_cases h3 : a = 3
        · subst h3
          go_wp2_with fail
          refine (one_in g (q + 1) w2.heap.size [-1, 40319, 40320] (-1) 40320 3 3 _ _ (hr2.alloc _) (by omega) (Blk.new w2 _ _) (by have := hr2.lt; omega) rfl rfl (by omega) (by omega) (by decide)).mono ?_
          rintro e w3 ⟨x, rfl, x0, x1, hr3, hg3⟩
          clear hr2
          have Hbx3 := Lib.hid ((Hbx2.out.alloc _).grown hg3 (by intro e; injection e with e; omega))
          have Hbr3 := Lib.hid ((Hbr2.out.alloc _).grown hg3 (by intro e; injection e with e; omega))
          have Hg3 := Lib.hid (grown_trans (grown_alloc Hg2.out _) hg3)
          clear hg3
          have q0 := Hbx3.out.cell 0
          have r0 := Hbr3.out.cell 0
          have f0 := Hbx3.out.free 0
          have s0 := Hbr3.out.free 0
          have q1 := Hbx3.out.cell 1
          have r1 := Hbr3.out.cell 1
          have f1 := Hbx3.out.free 1
          have s1 := Hbr3.out.free 1
          have q2 := Hbx3.out.cell 2
          have r2 := Hbr3.out.cell 2
          have f2 := Hbx3.out.free 2
          have s2 := Hbr3.out.free 2
          have q3 := Hbx3.out.cell 3
          have r3 := Hbr3.out.cell 3
          have f3 := Hbx3.out.free 3
          have s3 := Hbr3.out.free 3
          have q4 := Hbx3.out.cell 4
          have r4 := Hbr3.out.cell 4
          have f4 := Hbx3.out.free 4
          have s4 := Hbr3.out.free 4
          have q5 := Hbx3.out.cell 5
          have r5 := Hbr3.out.cell 5
          have f5 := Hbx3.out.free 5
          have s5 := Hbr3.out.free 5
          simp at q0 r0 q1 r1 q2 r2 q3 r3 q4 r4 q5 r5
          have hne : ¬ w.heap.size = w1.heap.size := by omega
          have hne' : ¬ w1.heap.size = w.heap.size := by omega
          go_wp2
          exact bodyPost_ret (v := tapV ⟨t.v, t.n, t.c, x, t.s, t.o⟩) (by simp [results, Try.results52, go_sem, tapV, r0, r1, r2, r3, r4, r5]) rfl
            ⟨⟨t.v, t.n, t.c, x, t.s, t.o⟩, q + 1 + 1, rfl, by have h0 := Ht.out; unfold tapSmall at h0 ⊢; dsimp only; omega, by omega, (by
              have hB : ∀ b i u (w0 : World), g < b → Rd w0 g (q + 1 + 1) → Rd (w0.setCell ⟨b, i, none⟩ u) g (q + 1 + 1) := fun b i u w0 hb hq => hq.below ((Below.refl (g + 1) _).setCell (p := ⟨b, i, none⟩) (by show g + 1 ≤ b; omega) _)
              repeat (first | (with_reducible exact hr3) | refine hB _ _ _ _ (by omega) ?_)), (by
              have hG : ∀ b i u (w0 : World), w.heap.size ≤ b → w.grownBy w0 (some g) → w.grownBy (w0.setCell ⟨b, i, none⟩ u) (some g) := fun b i u w0 hb hq => grown_setCell hq (p := ⟨b, i, none⟩) (.inr hb) _
              repeat (first | (with_reducible exact Hg3.out) | refine hG _ _ _ _ (by omega) ?_))⟩
        · have b3 : (a == 3) = false := by simpa using h3
          by_cases h4 : a = 4
          · subst h4
            go_wp2_with fail
            refine (one_in g (q + 1) w2.heap.size [-1, 10] (-1) 10 2 2 _ _ (hr2.alloc _) (by omega) (Blk.new w2 _ _) (by have := hr2.lt; omega) rfl rfl (by omega) (by omega) (by decide)).mono ?_
            rintro e w3 ⟨x, rfl, x0, x1, hr3, hg3⟩
            clear hr2
            have Hbx3 := Lib.hid ((Hbx2.out.alloc _).grown hg3 (by intro e; injection e with e; omega))
            have Hbr3 := Lib.hid ((Hbr2.out.alloc _).grown hg3 (by intro e; injection e with e; omega))
            have Hg3 := Lib.hid (grown_trans (grown_alloc Hg2.out _) hg3)
            clear hg3
            have q0 := Hbx3.out.cell 0
            have r0 := Hbr3.out.cell 0
            have f0 := Hbx3.out.free 0
            have s0 := Hbr3.out.free 0
            have q1 := Hbx3.out.cell 1
            have r1 := Hbr3.out.cell 1
            have f1 := Hbx3.out.free 1
            have s1 := Hbr3.out.free 1
            have q2 := Hbx3.out.cell 2
            have r2 := Hbr3.out.cell 2
            have f2 := Hbx3.out.free 2
            have s2 := Hbr3.out.free 2
            have q3 := Hbx3.out.cell 3
            have r3 := Hbr3.out.cell 3
            have f3 := Hbx3.out.free 3
            have s3 := Hbr3.out.free 3
            have q4 := Hbx3.out.cell 4
            have r4 := Hbr3.out.cell 4
            have f4 := Hbx3.out.free 4
            have s4 := Hbr3.out.free 4
            have q5 := Hbx3.out.cell 5
            have r5 := Hbr3.out.cell 5
            have f5 := Hbx3.out.free 5
            have s5 := Hbr3.out.free 5
            simp at q0 r0 q1 r1 q2 r2 q3 r3 q4 r4 q5 r5
            have hne : ¬ w.heap.size = w1.heap.size := by omega
            have hne' : ¬ w1.heap.size = w.heap.size := by omega
            go_wp2
            exact bodyPost_ret (v := tapV ⟨t.v, t.n, t.c, t.m, x, t.o⟩) (by simp [results, Try.results52, go_sem, tapV, r0, r1, r2, r3, r4, r5]) rfl
              ⟨⟨t.v, t.n, t.c, t.m, x, t.o⟩, q + 1 + 1, rfl, by have h0 := Ht.out; unfold tapSmall at h0 ⊢; dsimp only; omega, by omega, (by
                have hB : ∀ b i u (w0 : World), g < b → Rd w0 g (q + 1 + 1) → Rd (w0.setCell ⟨b, i, none⟩ u) g (q + 1 + 1) := fun b i u w0 hb hq => hq.below ((Below.refl (g + 1) _).setCell (p := ⟨b, i, none⟩) (by show g + 1 ≤ b; omega) _)
                repeat (first | (with_reducible exact hr3) | refine hB _ _ _ _ (by omega) ?_)), (by
                have hG : ∀ b i u (w0 : World), w.heap.size ≤ b → w.grownBy w0 (some g) → w.grownBy (w0.setCell ⟨b, i, none⟩ u) (some g) := fun b i u w0 hb hq => grown_setCell hq (p := ⟨b, i, none⟩) (.inr hb) _
                repeat (first | (with_reducible exact Hg3.out) | refine hG _ _ _ _ (by omega) ?_))⟩
          · have b4 : (a == 4) = false := by simpa using h4
            have q0 := Hbx2.out.cell 0
            have r0 := Hbr2.out.cell 0
            have f0 := Hbx2.out.free 0
            have s0 := Hbr2.out.free 0
            have q1 := Hbx2.out.cell 1
            have r1 := Hbr2.out.cell 1
            have f1 := Hbx2.out.free 1
            have s1 := Hbr2.out.free 1
            have q2 := Hbx2.out.cell 2
            have r2 := Hbr2.out.cell 2
            have f2 := Hbx2.out.free 2
            have s2 := Hbr2.out.free 2
            have q3 := Hbx2.out.cell 3
            have r3 := Hbr2.out.cell 3
            have f3 := Hbx2.out.free 3
            have s3 := Hbr2.out.free 3
            have q4 := Hbx2.out.cell 4
            have r4 := Hbr2.out.cell 4
            have f4 := Hbx2.out.free 4
            have s4 := Hbr2.out.free 4
            have q5 := Hbx2.out.cell 5
            have r5 := Hbr2.out.cell 5
            have f5 := Hbx2.out.free 5
            have s5 := Hbr2.out.free 5
            simp at q0 r0 q1 r1 q2 r2 q3 r3 q4 r4 q5 r5
            have hne : ¬ w.heap.size = w1.heap.size := by omega
            have hne' : ¬ w1.heap.size = w.heap.size := by omega
            go_wp2
            exact bodyPost_ret (v := tapV ⟨t.v, t.n, t.c, t.m, t.s, t.o⟩) (by simp [results, Try.results52, go_sem, tapV, r0, r1, r2, r3, r4, r5]) rfl
              ⟨⟨t.v, t.n, t.c, t.m, t.s, t.o⟩, q + 1, rfl, by have h0 := Ht.out; unfold tapSmall at h0 ⊢; dsimp only; omega, by omega, (by
                have hB : ∀ b i u (w0 : World), g < b → Rd w0 g (q + 1) → Rd (w0.setCell ⟨b, i, none⟩ u) g (q + 1) := fun b i u w0 hb hq => hq.below ((Below.refl (g + 1) _).setCell (p := ⟨b, i, none⟩) (by show g + 1 ≤ b; omega) _)
                repeat (first | (with_reducible exact hr2) | refine hB _ _ _ _ (by omega) ?_)), (by
                have hG : ∀ b i u (w0 : World), w.heap.size ≤ b → w.grownBy w0 (some g) → w.grownBy (w0.setCell ⟨b, i, none⟩ u) (some g) := fun b i u w0 hb hq => grown_setCell hq (p := ⟨b, i, none⟩) (.inr hb) _
                repeat (first | (with_reducible exact Hg2.out) | refine hG _ _ _ _ (by omega) ?_))⟩
end Go.Proofs.Ytllhjgheffemnaa
