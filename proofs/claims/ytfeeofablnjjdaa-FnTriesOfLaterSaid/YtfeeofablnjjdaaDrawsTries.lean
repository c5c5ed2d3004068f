/-
  What chapter 15's laws draw: a first number and a try; a begin and a first number; a minute beside them.
-/
import Derived.Test.YtfeeofablnjjdaaDrawTime
import Derived.Test.YtfeeofablnjjdaaDrawKit
set_option linter.unusedSimpArgs false
namespace Go.Proofs.Ytfeeofablnjjdaa
open Go.RowKit
set_option linter.unusedVariables false

theorem Bytes.below' {w w' : World} {A : Option Addr} {n c : Nat} (h : Bytes w w.heap.size A n c) (hb : Below w.heap.size w w') : Bytes w' w'.heap.size A n c := by
  obtain ⟨h1, h2, xs, h3, h4, h5⟩ := h
  exact ⟨h1, h2, xs, h3, h4, (Reads.below h5 hb (Nat.le_refl _)).more hb.size⟩
set_option maxHeartbeats 1000000 in
theorem drawWaitBefore_any (A : Option Addr) (n c : Nat) (w : World) (h : Bytes w w.heap.size A n c) :
    Calls Try.prog 12 #[.slice A n c] w fun e w' => ∃ f t : Int, e = .returned (.tuple #[.int .i64 f, .int .i64 t]) ∧ 0 ≤ f ∧ f ≤ 1441 ∧ 0 ≤ t ∧ t ≤ 5 ∧ Below w.heap.size w w' := by
  go_enter Try.func12, Try.ntmps12
  go_wp2_with fail
  refine (newReader_any A n c w h).mono ?_
  rintro e w1 ⟨rfl, hr1, hb1, hz1⟩
  have HZ := Lib.hid hz1
  clear hz1
  go_wp2_with fail
  refine (one_in _ 0 w1.heap.size [10, 60, 1, 500, 1440, 1441, 0] 0 1441 _ _ _ _ (hr1.alloc _) (by omega) (Blk.new w1 _ _) (by have := hr1.lt; omega) rfl rfl (by decide) (by decide) (by decide)).mono ?_
  rintro e w2 ⟨f, rfl, f0, f1, hr2, hg2⟩
  have hb2 : Below w.heap.size w w2 := (hb1.trans ((Below.refl w.heap.size w1).alloc hb1.size _)).trans (below_of_grown hg2 (by have := hb1.size; simp; omega) (Nat.le_refl _))
  go_wp2_with fail
  refine (one_in _ (0 + 1) w2.heap.size [1, 2, 3, 4, 0, 5] 0 5 _ _ _ _ (hr2.alloc _) (by omega) (Blk.new w2 _ _) (by have := hr2.lt; omega) rfl rfl (by decide) (by decide) (by decide)).mono ?_
  rintro e w3 ⟨t, rfl, t0, t1, hr3, hg3⟩
  have hb3 : Below w.heap.size w w3 := (hb2.trans ((Below.refl w.heap.size w2).alloc hb2.size _)).trans (below_of_grown hg3 (by have := hb2.size; simp; omega) (Nat.le_refl _))
  go_wp2_with fail
  go_ret2
  exact ⟨f, t, rfl, f0, f1, t0, t1, hb3⟩

set_option maxHeartbeats 1000000 in
theorem drawTriesOf_any (A : Option Addr) (n c : Nat) (w : World) (h : Bytes w w.heap.size A n c) :
    Calls Try.prog 15 #[.slice A n c] w fun e w' => ∃ b f : Int, e = .returned (.tuple #[.int .i64 b, .int .i64 f]) ∧ -1 ≤ b ∧ b ≤ 45000 ∧ 0 ≤ f ∧ f ≤ 1441 ∧ Below w.heap.size w w' := by
  go_enter Try.func15, Try.ntmps15
  go_wp2_with fail
  refine (newReader_any A n c w h).mono ?_
  rintro e w1 ⟨rfl, hr1, hb1, hz1⟩
  have HZ := Lib.hid hz1
  clear hz1
  go_wp2_with fail
  refine (anyMinute_any _ 0 w1 hr1 (by omega)).mono ?_
  rintro e w2 ⟨m, q, rfl, m0, m1, hq, hr2, hg2⟩
  have hb2 : Below w.heap.size w w2 := hb1.trans (below_of_grown hg2 hb1.size (Nat.le_refl _))
  go_wp2_with fail
  refine (pick_any _ q 4 w2 hr2 (by omega)).mono ?_
  rintro e w3 ⟨k, rfl, k0, k1, hr3, hg3⟩
  have hb3 : Below w.heap.size w w3 := hb2.trans (below_of_grown hg3 hb2.size (Nat.le_refl _))
  by_cases hk0 : k = 0
  · subst hk0
    go_wp2_with fail
    refine (pick_any _ (q + 1) 250 w3 hr3 (by omega)).mono ?_
    rintro e w4 ⟨k', rfl, k0', k1', hr4, hg4⟩
    have k2' := k1' (by omega)
    clear k1'
    have hb4 : Below w.heap.size w w4 := hb3.trans (below_of_grown hg4 hb3.size (Nat.le_refl _))
    go_wp2_with fail
    refine (one_in _ (q + 1 + 1) w4.heap.size [10, 60, 1, 500, 1440, 1441, 0] 0 1441 _ _ _ _ (hr4.alloc _) (by omega) (Blk.new w4 _ _) (by have := hr4.lt; omega) rfl rfl (by decide) (by decide) (by decide)).mono ?_
    rintro e w5 ⟨f, rfl, f0, f1, hr5, hg5⟩
    have hb5 : Below w.heap.size w w5 := (hb4.trans ((Below.refl w.heap.size w4).alloc hb4.size _)).trans (below_of_grown hg5 (by have := hb4.size; simp; omega) (Nat.le_refl _))
    go_wp2_with fail
    go_ret2
    exact ⟨40000 + k', f, rfl, by omega, by omega, f0, f1, hb5⟩
  · have b0 : (k == 0) = false := by simpa using hk0
    go_wp2_with fail
    refine (one_in _ (q + 1) w3.heap.size [10, 60, 1, 500, 1440, 1441, 0] 0 1441 _ _ _ _ (hr3.alloc _) (by omega) (Blk.new w3 _ _) (by have := hr3.lt; omega) rfl rfl (by decide) (by decide) (by decide)).mono ?_
    rintro e w5 ⟨f, rfl, f0, f1, hr5, hg5⟩
    have hb5 : Below w.heap.size w w5 := (hb3.trans ((Below.refl w.heap.size w3).alloc hb3.size _)).trans (below_of_grown hg5 (by have := hb3.size; simp; omega) (Nat.le_refl _))
    go_wp2_with fail
    go_ret2
    exact ⟨m, f, rfl, m0, m1, f0, f1, hb5⟩

set_option maxHeartbeats 1000000 in
theorem drawNextTry_any (A : Option Addr) (n c : Nat) (w : World) (h : Bytes w w.heap.size A n c) :
    Calls Try.prog 19 #[.slice A n c] w fun e w' => ∃ b f m : Int, e = .returned (.tuple #[.int .i64 b, .int .i64 f, .int .i64 m]) ∧ -1 ≤ b ∧ b ≤ 45000 ∧ 0 ≤ f ∧ f ≤ 1441 ∧ -100 ≤ m ∧ m ≤ 60000 ∧ Below w.heap.size w w' := by
  go_enter Try.func19, Try.ntmps19
  go_wp2_with fail
  refine (newReader_any A n c w h).mono ?_
  rintro e w1 ⟨rfl, hr1, hb1, hz1⟩
  have HZ := Lib.hid hz1
  clear hz1
  go_wp2_with fail
  refine (drawTriesOf_any A n c w1 (Bytes.below' h hb1)).mono ?_
  rintro e w2 ⟨b, f, rfl, b0, b1, f0, f1, hb2⟩
  have hr2 := hr1.below (hb2.mono (by have := hr1.lt; omega))
  have hc2 : Below w.heap.size w w2 := bT hb1 hb2
  clear hb2
  go_wp2_with fail
  refine (one_in _ 0 w2.heap.size [0, 10, 11, 30, 100, 5000, -50] (-50) 5000 _ _ _ _ (hr2.alloc _) (by omega) (Blk.new w2 _ _) (by have := hr2.lt; omega) rfl rfl (by decide) (by decide) (by decide)).mono ?_
  rintro e w3 ⟨d, rfl, d0, d1, hr3, hg3⟩
  have hb3 : Below w.heap.size w w3 := (hc2.trans ((Below.refl w.heap.size w2).alloc hc2.size _)).trans (below_of_grown hg3 (by have := hc2.size; simp; omega) (Nat.le_refl _))
  go_wp2_with fail
  go_ret3
  exact ⟨b, f, b + d, rfl, b0, b1, f0, f1, by omega, by omega, hb3⟩
end Go.Proofs.Ytfeeofablnjjdaa
