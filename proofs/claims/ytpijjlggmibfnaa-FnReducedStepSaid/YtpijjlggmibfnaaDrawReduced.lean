/-
  Drawn arguments of Reduced.
-/
import Derived.Test.YtpijjlggmibfnaaDrawKit
import Derived.Test.YtpijjlggmibfnaaLiftBytes
set_option linter.unusedSimpArgs false
namespace Go.Proofs.Ytpijjlggmibfnaa
open Go.RowKit
set_option linter.unusedVariables false

set_option maxHeartbeats 1000000 in
theorem drawReduced_any (A : Option Addr) (n c : Nat) (w : World) (h : Bytes w w.heap.size A n c) :
    Calls Try.prog 21 #[.slice A n c] w fun e w' => ∃ p d s : Int, e = .returned (.tuple #[.int .i64 p, .int .i64 d, .int .i64 s]) ∧ -1 ≤ p ∧ p ≤ 4001 ∧ -1 ≤ d ∧ d ≤ 101 ∧ 0 ≤ s ∧ s ≤ 51 ∧ Below w.heap.size w w' := by
  go_enter Try.func21, Try.ntmps21
  go_wp2_with fail
  refine (newReader_any A n c w h).mono ?_
  rintro e w1 ⟨rfl, hr1, hb1, hz1⟩
  have HZ := Lib.hid hz1
  clear hz1
  generalize hg : w.heap.size = g at *
  go_wp2_with fail
  refine (pick_any g 0 250 w1 hr1 (by omega)).mono ?_
  rintro e w2 ⟨k, rfl, k0, k1, hr2, hg2⟩
  have k2 := k1 (by omega)
  clear k1
  go_wp2_with fail
  refine (one_any g (0 + 1) w2.heap.size 8 8 #[.int .i64 300, .int .i64 250, .int .i64 333, .int .i64 0, .int .i64 4000, .int .i64 4001, .int .i64 (-1), .int .i64 k] _ (hr2.alloc _) (by omega) (Blk.new w2 _ _) (by have := hr2.lt; omega) rfl (by omega) (by omega) (fun i hi => by
    match i, hi with
    | 0, _ | 1, _ | 2, _ | 3, _ | 4, _ | 5, _ | 6, _ | 7, _ => exact ⟨_, rfl⟩)).mono ?_
  rintro e w3 ⟨i1, x1, hi1, hx1, rfl, hr3, hgA⟩
  have hx1' : -1 ≤ x1 ∧ x1 ≤ 4001 := by
    match i1, hi1 with
    | 0, _ | 1, _ | 2, _ | 3, _ | 4, _ | 5, _ | 6, _ | 7, _ => simp at hx1; omega
  clear hx1
  go_wp2_with fail
  refine (one_any g (0 + 1 + 1) w3.heap.size 7 7 #[.int .i64 50, .int .i64 25, .int .i64 33, .int .i64 0, .int .i64 100, .int .i64 101, .int .i64 (-1)] _ (hr3.alloc _) (by omega) (Blk.new w3 _ _) (by have := hr3.lt; omega) rfl (by omega) (by omega) (fun i hi => by
    match i, hi with
    | 0, _ | 1, _ | 2, _ | 3, _ | 4, _ | 5, _ | 6, _ => exact ⟨_, rfl⟩)).mono ?_
  rintro e w4 ⟨i2, x2, hi2, hx2, rfl, hr4, hgB⟩
  have hx2' : -1 ≤ x2 ∧ x2 ≤ 101 := by
    match i2, hi2 with
    | 0, _ | 1, _ | 2, _ | 3, _ | 4, _ | 5, _ | 6, _ => simp at hx2; omega
  clear hx2
  go_wp2_with fail
  refine (one_any g (0 + 1 + 1 + 1) w4.heap.size 6 6 #[.int .i64 1, .int .i64 5, .int .i64 10, .int .i64 50, .int .i64 51, .int .i64 0] _ (hr4.alloc _) (by omega) (Blk.new w4 _ _) (by have := hr4.lt; omega) rfl (by omega) (by omega) (fun i hi => by
    match i, hi with
    | 0, _ | 1, _ | 2, _ | 3, _ | 4, _ | 5, _ => exact ⟨_, rfl⟩)).mono ?_
  rintro e w5 ⟨i3, x3, hi3, hx3, rfl, hr5, hgC⟩
  have hx3' : 0 ≤ x3 ∧ x3 ≤ 51 := by
    match i3, hi3 with
    | 0, _ | 1, _ | 2, _ | 3, _ | 4, _ | 5, _ => simp at hx3; omega
  clear hx3
  have hf : Below w.heap.size w w5 := by
    rw [hg]
    exact hb1.trans (below_of_grown (grown_trans (grown_alloc (grown_trans (grown_alloc (grown_trans (grown_alloc hg2 _) hgA) _) hgB) _) hgC) (by have := hb1.size; omega) (by omega))
  go_wp2_with fail
  refine bodyPost_ret (v := .tuple #[.int .i64 x1, .int .i64 x2, .int .i64 x3]) (by simp [results, Try.results21, go_sem]) rfl ?_
  exact ⟨x1, x2, x3, rfl, hx1'.1, hx1'.2, hx2'.1, hx2'.2, hx3'.1, hx3'.2, hf⟩
end Go.Proofs.Ytpijjlggmibfnaa
