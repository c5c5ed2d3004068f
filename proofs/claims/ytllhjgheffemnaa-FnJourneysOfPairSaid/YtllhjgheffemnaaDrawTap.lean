/-
  Drawn taps: their numbers in a small range; only new memory is laid.
-/
import Derived.Test.YtllhjgheffemnaaStTap
import Derived.Test.YtllhjgheffemnaaDrawKit
set_option linter.unusedSimpArgs false
namespace Go.Proofs.Ytllhjgheffemnaa
open Go.RowKit
set_option linter.unusedVariables false

def tapSmall (t : Fares.Tap) : Prop := -1 ≤ t.v ∧ t.v ≤ 1000 ∧ -1 ≤ t.n ∧ t.n ≤ 1000 ∧ -1 ≤ t.c ∧ t.c ≤ 1000 ∧ -1 ≤ t.m ∧ t.m ≤ 50000 ∧ -1 ≤ t.s ∧ t.s ≤ 1000
def SomeTap (g p : Nat) (w : World) (e : Ending) (w' : World) : Prop :=
  ∃ (t : Fares.Tap) (q : Nat), e = .returned (tapV t) ∧ tapSmall t ∧ q ≤ p + 10 ∧ Rd w' g q ∧ w.grownBy w' (some g)

set_option maxRecDepth 100000 in
set_option maxHeartbeats 2000000 in
theorem randomTap_any (g p : Nat) (k : Int) (w : World) (hr : Rd w g p) (hp : p ≤ 50000) (hk0 : 1 ≤ k) (hk1 : k ≤ 100) :
    Calls Try.prog 57 #[.pointer (some ⟨g, 0, none⟩), .int .i64 k] w (SomeTap g p w) := by
  have hgw := hr.lt
  have hbx0 : ∀ cs, Blk (w.alloc (.cells cs 36)) w.heap.size 36 cs := fun cs => Blk.new w _ cs
  have Hbx0 := Lib.hid hbx0; clear hbx0
  have Hgr0 : Hid (∀ o, w.grownBy (w.alloc o) (some g)) := fun o => grown_alloc (grown_refl w _) o
  go_enter Try.func57, Try.ntmps57
  go_wp2_with fail
  refine (pick_any g p 10 _ (hr.alloc _) (by omega)).mono ?_
  rintro e w1 ⟨a1, rfl, a10, a11, hr1, hg1⟩
  have a12 := a11 (by omega)
  clear a11 hr
  have Hbx1 := Lib.hid ((Hbx0.out _).grown hg1 (by intro e; injection e with e; omega))
  have Hg1 := Lib.hid (grown_trans (Hgr0.out _) hg1)
  clear hg1
  go_wp2_with fail
  refine (pick_any g (p + 1) 250 _ hr1 (by omega)).mono ?_
  rintro e w2 ⟨a2, rfl, a20, a21, hr2, hg2⟩
  have a22 := a21 (by omega)
  clear a21 hr1
  have Hbx2 := Lib.hid (Hbx1.out.grown hg2 (by intro e; injection e with e; omega))
  have Hg2 := Lib.hid (grown_trans Hg1.out hg2)
  clear hg2
  go_wp2_with fail
  refine (one_in g (p + 1 + 1) w2.heap.size [1, 1, 2, 7, 99] 1 99 5 5 _ _ (hr2.alloc _) (by omega) (Blk.new w2 _ _) (by have := hr2.lt; omega) rfl rfl (by omega) (by omega) (by decide)).mono ?_
  rintro e w3 ⟨a3, rfl, a30, a31, hr3, hg3⟩
  clear hr2
  have Hbx3 := Lib.hid ((Hbx2.out.alloc _).grown hg3 (by intro e; injection e with e; omega))
  have Hg3 := Lib.hid (grown_trans (grown_alloc Hg2.out _) hg3)
  clear hg3
  go_wp2_with fail
  refine (pick_any g (p + 1 + 1 + 1) 3 _ hr3 (by omega)).mono ?_
  rintro e w4 ⟨a4, rfl, a40, a41, hr4, hg4⟩
  have a42 := a41 (by omega)
  clear a41 hr3
  have Hbx4 := Lib.hid (Hbx3.out.grown hg4 (by intro e; injection e with e; omega))
  have Hg4 := Lib.hid (grown_trans Hg3.out hg4)
  clear hg4
  go_wp2_with fail
  refine (pick_any g (p + 1 + 1 + 1 + 1) 250 _ hr4 (by omega)).mono ?_
  rintro e w5 ⟨a5, rfl, a50, a51, hr5, hg5⟩
  have a52 := a51 (by omega)
  clear a51 hr4
  have Hbx5 := Lib.hid (Hbx4.out.grown hg5 (by intro e; injection e with e; omega))
  have Hg5 := Lib.hid (grown_trans Hg4.out hg5)
  clear hg5
  go_wp2_with fail
  refine (pick_any g (p + 1 + 1 + 1 + 1 + 1) k _ hr5 (by omega)).mono ?_
  rintro e w6 ⟨a6, rfl, a60, a61, hr6, hg6⟩
  have a62 := a61 (by omega)
  clear a61 hr5
  have Hbx6 := Lib.hid (Hbx5.out.grown hg6 (by intro e; injection e with e; omega))
  have Hg6 := Lib.hid (grown_trans Hg5.out hg6)
  clear hg6
  go_wp2_with fail
  refine (pick_any g (p + 1 + 1 + 1 + 1 + 1 + 1) 2 _ hr6 (by omega)).mono ?_
  rintro e w7 ⟨a7, rfl, a70, a71, hr7, hg7⟩
  have a72 := a71 (by omega)
  clear a71 hr6
  have hbx7 := Hbx6.out.grown hg7 (by intro e; injection e with e; omega)
  have Hg7 := Lib.hid (grown_trans Hg6.out hg7)
  clear hg7
  have q0 := hbx7.cell 0
  have q1 := hbx7.cell 1
  have q2 := hbx7.cell 2
  have q3 := hbx7.cell 3
  have q4 := hbx7.cell 4
  have q5 := hbx7.cell 5
  have f0 := hbx7.free 0
  have f1 := hbx7.free 1
  have f2 := hbx7.free 2
  have f3 := hbx7.free 3
  have f4 := hbx7.free 4
  have f5 := hbx7.free 5
  simp at q0 q1 q2 q3 q4 q5
  have Hbx7 := Lib.hid hbx7; clear hbx7
  go_wp2
  exact bodyPost_ret (v := tapV ⟨a1, a2, a3, 1440 * a4 + 360 + a5 * 2, a6, a7 == 0⟩) (by simp [results, Try.results57, go_sem, tapV, q0, q1, q2, q3, q4, q5]) rfl
    ⟨⟨a1, a2, a3, 1440 * a4 + 360 + a5 * 2, a6, a7 == 0⟩, p + 7, rfl, by unfold tapSmall; dsimp only; omega, by omega, (by
      have hB : ∀ i u (w0 : World), Rd w0 g (p + 7) → Rd (w0.setCell ⟨w.heap.size, i, none⟩ u) g (p + 7) := fun i u w0 hq => hq.below ((Below.refl (g + 1) _).setCell (p := ⟨w.heap.size, i, none⟩) (by show g + 1 ≤ w.heap.size; omega) _)
      exact hB _ _ _ (hB _ _ _ (hB _ _ _ (hB _ _ _ (hB _ _ _ (hB _ _ _ hr7)))))), (by
      have hG : ∀ i u (w0 : World), w.grownBy w0 (some g) → w.grownBy (w0.setCell ⟨w.heap.size, i, none⟩ u) (some g) := fun i u w0 hq => grown_setCell hq (p := ⟨w.heap.size, i, none⟩) (.inr (Nat.le_refl _)) _
      exact hG _ _ _ (hG _ _ _ (hG _ _ _ (hG _ _ _ (hG _ _ _ (hG _ _ _ Hg7.out))))))⟩
end Go.Proofs.Ytllhjgheffemnaa
