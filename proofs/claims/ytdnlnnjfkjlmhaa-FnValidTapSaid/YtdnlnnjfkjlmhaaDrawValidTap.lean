/-
  The argument of ValidTap, drawn.
-/
import Derived.Test.YtdnlnnjfkjlmhaaDrawAnyTap
import Derived.Test.YtdnlnnjfkjlmhaaLiftBytes
namespace Go.Proofs.Ytdnlnnjfkjlmhaa
open Go.RowKit
set_option linter.unusedVariables false
theorem Bytes.alloc {w : World} {A : Option Addr} {n c : Nat} (h : Bytes w w.heap.size A n c) (o : Obj) : Bytes (w.alloc o) (w.alloc o).heap.size A n c := by
  obtain ⟨h1, h2, xs, h3, h4, h5⟩ := h
  exact ⟨h1, h2, xs, h3, h4, (h5.alloc (Nat.le_refl _) o).more (by simp)⟩
def DrawsTap (w : World) (e : Ending) (w' : World) : Prop := ∃ t : Fares.Tap, e = .returned (tapV t) ∧ tapSmall t ∧ Below w.heap.size w w'
set_option maxRecDepth 100000 in
set_option maxHeartbeats 1500000 in
theorem drawValidTap_any (A : Option Addr) (n c : Nat) (w : World) (h : Bytes w w.heap.size A n c) : Calls Try.prog 29 #[.slice A n c] w (DrawsTap w) := by
  go_enter Try.func29, Try.ntmps29
  go_wp2_with fail
  refine (newReader_any A n c _ (h.alloc _)).mono ?_
  rintro e w1 ⟨rfl, hr1, hb1, hz1⟩
  simp only [World.size_alloc] at hr1 hz1
  have HZ := Lib.hid hz1; clear hz1
  have hc1 : Below w.heap.size w w1 := bT (bA (Below.refl _ _) _) hb1
  have Hbr1 := Lib.hid ((Blk.new w 24 #[.int .i64 0, .int .i64 0, .int .i64 0, .int .i64 0, .int .i64 0, .bool false]).below hb1 (by simp))
  clear hb1
  have hs1 := hr1.lt
  go_wp2_with fail
  refine (anyTap_any (w.heap.size + 1) 0 w1 hr1 (by omega)).mono ?_
  rintro e w2 ⟨t, q, rfl, ht, hq, hr2, hg2⟩
  have Ht := Lib.hid ht; clear ht
  have hc2 : Below w.heap.size w w2 := hc1.trans (below_of_grown hg2 hc1.size (by omega))
  have Hbr2 := Lib.hid (Hbr1.out.grown hg2 (by intro e; injection e with e; omega))
  clear hg2 hr2 hr1
  have r0 := Hbr2.out.cell 0
  have r1 := Hbr2.out.cell 1
  have r2 := Hbr2.out.cell 2
  have r3 := Hbr2.out.cell 3
  have r4 := Hbr2.out.cell 4
  have r5 := Hbr2.out.cell 5
  have s0 := Hbr2.out.free 0
  have s1 := Hbr2.out.free 1
  have s2 := Hbr2.out.free 2
  have s3 := Hbr2.out.free 3
  have s4 := Hbr2.out.free 4
  have s5 := Hbr2.out.free 5
  simp at r0 r1 r2 r3 r4 r5
  unfold tapV
  go_wp2
  exact bodyPost_ret (v := tapV t) (by simp [results, Try.results29, go_sem, tapV, r0, r1, r2, r3, r4, r5]) rfl ⟨t, rfl, Ht.out, below_setCells (Nat.le_refl _) (tapCells t) w2 0 hc2⟩
end Go.Proofs.Ytdnlnnjfkjlmhaa
