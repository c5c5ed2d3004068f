/-
  Drawn minutes and days: some number in a small range; only new memory is laid.
-/
import Derived.Test.YtfeeofablnjjdaaReader
set_option linter.unusedSimpArgs false
namespace Go.Proofs.Ytfeeofablnjjdaa
open Go.RowKit
set_option linter.unusedVariables false

theorem grown_of_alloc {a w : World} {row : Option Nat} (h : a.grownBy w row) (o : Obj) : a.grownBy (w.alloc o) row := grown_alloc h o

set_option maxHeartbeats 1000000 in
theorem someMinute_any (g p : Nat) (w : World) (hr : Rd w g p) (hp : p ≤ 50000) :
    Calls Try.prog 36 #[.pointer (some ⟨g, 0, none⟩)] w fun e w' => ∃ (m : Int) (q : Nat), e = .returned (.int .i64 m) ∧ 0 ≤ m ∧ m ≤ 45000 ∧ q ≤ p + 3 ∧ Rd w' g q ∧ w.grownBy w' (some g) := by
  go_enter Try.func36, Try.ntmps36
  go_wp2_with fail
  refine (pick_any g p 8 w hr (by omega)).mono ?_
  rintro e w1 ⟨k, rfl, k0, k1, hr1, hg1⟩
  have k2 := k1 (by omega)
  clear k1
  by_cases hk0 : k = 0
  · subst hk0
    go_wp2_with fail
    refine (one_any g (p + 1) w1.heap.size 8 8 #[.int .i64 0, .int .i64 239, .int .i64 240, .int .i64 1439, .int .i64 1440, .int .i64 40319, .int .i64 1679, .int .i64 1680] _ (hr1.alloc _) (by omega) (Blk.new w1 _ _) (by have := hr1.lt; omega) rfl (by omega) (by omega) (fun i hi => by
      match i, hi with
      | 0, _ | 1, _ | 2, _ | 3, _ | 4, _ | 5, _ | 6, _ | 7, _ => exact ⟨_, rfl⟩)).mono ?_
    rintro e w2 ⟨i, x, hi, hx, rfl, hr2, hg2⟩
    have hx' : 0 ≤ x ∧ x ≤ 45000 := by
      match i, hi with
      | 0, _ | 1, _ | 2, _ | 3, _ | 4, _ | 5, _ | 6, _ | 7, _ => simp at hx; omega
    clear hx
    go_wp2_with fail
    go_ret
    exact ⟨x, p + 2, rfl, hx'.1, hx'.2, by omega, hr2, grown_trans (grown_alloc hg1 _) hg2⟩
  · by_cases hk1 : k = 1
    · subst hk1
      go_wp2_with fail
      refine (pick_any g (p + 1) 250 w1 hr1 (by omega)).mono ?_
      rintro e w2 ⟨m, rfl, m0, m1, hr2, hg2⟩
      have m2 := m1 (by omega)
      clear m1
      go_wp2_with fail
      go_ret
      exact ⟨m * 161, p + 2, rfl, by omega, by omega, by omega, hr2, grown_trans hg1 hg2⟩
    · have b0 : (k == 0) = false := by simpa using hk0
      have b1 : (k == 1) = false := by simpa using hk1
      go_wp2_with fail
      refine (pick_any g (p + 1) 9 w1 hr1 (by omega)).mono ?_
      rintro e w2 ⟨m, rfl, m0, m1, hr2, hg2⟩
      have m2 := m1 (by omega)
      clear m1
      go_wp2_with fail
      refine (pick_any g (p + 1 + 1) 250 w2 hr2 (by omega)).mono ?_
      rintro e w3 ⟨n, rfl, n0, n1, hr3, hg3⟩
      have n2 := n1 (by omega)
      clear n1
      go_wp2_with fail
      go_ret
      exact ⟨1440 * m + n * 6, p + 3, rfl, by omega, by omega, by omega, hr3, grown_trans (grown_trans hg1 hg2) hg3⟩

set_option maxHeartbeats 1000000 in
theorem anyMinute_any (g p : Nat) (w : World) (hr : Rd w g p) (hp : p ≤ 40000) :
    Calls Try.prog 32 #[.pointer (some ⟨g, 0, none⟩)] w fun e w' => ∃ (m : Int) (q : Nat), e = .returned (.int .i64 m) ∧ -1 ≤ m ∧ m ≤ 45000 ∧ q ≤ p + 4 ∧ Rd w' g q ∧ w.grownBy w' (some g) := by
  go_enter Try.func32, Try.ntmps32
  go_wp2_with fail
  refine (pick_any g p 16 w hr (by omega)).mono ?_
  rintro e w1 ⟨k, rfl, k0, k1, hr1, hg1⟩
  have k2 := k1 (by omega)
  clear k1
  by_cases hk0 : k = 0
  · subst hk0
    go_wp2_with fail
    refine (one_any g (p + 1) w1.heap.size 3 3 #[.int .i64 (-1), .int .i64 40320, .int .i64 40319] _ (hr1.alloc _) (by omega) (Blk.new w1 _ _) (by have := hr1.lt; omega) rfl (by omega) (by omega) (fun i hi => by
      match i, hi with
      | 0, _ | 1, _ | 2, _ => exact ⟨_, rfl⟩)).mono ?_
    rintro e w2 ⟨i, x, hi, hx, rfl, hr2, hg2⟩
    have hx' : -1 ≤ x ∧ x ≤ 45000 := by
      match i, hi with
      | 0, _ | 1, _ | 2, _ => simp at hx; omega
    clear hx
    go_wp2_with fail
    go_ret
    exact ⟨x, p + 2, rfl, hx'.1, hx'.2, by omega, hr2, grown_trans (grown_alloc hg1 _) hg2⟩
  · have b0 : (k == 0) = false := by simpa using hk0
    go_wp2_with fail
    refine (someMinute_any g (p + 1) w1 hr1 (by omega)).mono ?_
    rintro e w2 ⟨m, q, rfl, m0, m1, hq, hr2, hg2⟩
    go_wp2_with fail
    go_ret
    exact ⟨m, q, rfl, by omega, by omega, by omega, hr2, grown_trans hg1 hg2⟩


/-- A draw of one number: the bytes are only read. -/
def DrawsInt (lo hi : Int) (w : World) (e : Ending) (w' : World) : Prop := ∃ m : Int, e = .returned (.int .i64 m) ∧ lo ≤ m ∧ m ≤ hi ∧ Below w.heap.size w w'

end Go.Proofs.Ytfeeofablnjjdaa
