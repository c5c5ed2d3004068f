/-
  Drawn minutes and days: some number in a small range; only new memory is laid.
-/
import Derived.Test.YtpdddadplagcpaaReader
set_option linter.unusedSimpArgs false
namespace Go.Proofs.Ytpdddadplagcpaa
open Go.RowKit
set_option linter.unusedVariables false

theorem grown_of_alloc {a w : World} {row : Option Nat} (h : a.grownBy w row) (o : Obj) : a.grownBy (w.alloc o) row := grown_alloc h o

set_option maxHeartbeats 1000000 in
theorem anyDay_any (g p : Nat) (w : World) (hr : Rd w g p) (hp : p ≤ 40000) :
    Calls Try.prog 43 #[.pointer (some ⟨g, 0, none⟩)] w fun e w' => ∃ (m : Int) (q : Nat), e = .returned (.int .i64 m) ∧ -1 ≤ m ∧ m ≤ 29 ∧ q ≤ p + 2 ∧ Rd w' g q ∧ w.grownBy w' (some g) := by
  go_enter Try.func43, Try.ntmps43
  go_wp2_with fail
  refine (pick_any g p 29 w hr (by omega)).mono ?_
  rintro e w1 ⟨k, rfl, k0, k1, hr1, hg1⟩
  have k2 := k1 (by omega)
  clear k1
  go_wp2_with fail
  refine (one_any g (p + 1) w1.heap.size 8 8 #[.int .i64 0, .int .i64 1, .int .i64 6, .int .i64 7, .int .i64 28, .int .i64 29, .int .i64 (-1), .int .i64 k] _ (hr1.alloc _) (by omega) (Blk.new w1 _ _) (by have := hr1.lt; omega) rfl (by omega) (by omega) (fun i hi => by
      match i, hi with
      | 0, _ | 1, _ | 2, _ | 3, _ | 4, _ | 5, _ | 6, _ | 7, _ => exact ⟨_, rfl⟩)).mono ?_
  rintro e w2 ⟨i, x, hi, hx, rfl, hr2, hg2⟩
  have hx' : -1 ≤ x ∧ x ≤ 29 := by
    match i, hi with
    | 0, _ | 1, _ | 2, _ | 3, _ | 4, _ | 5, _ | 6, _ | 7, _ => simp at hx; omega
  clear hx
  go_wp2_with fail
  go_ret
  exact ⟨x, p + 2, rfl, hx'.1, hx'.2, by omega, hr2, grown_trans (grown_alloc hg1 _) hg2⟩

/-- A draw of one number: the bytes are only read. -/
def DrawsInt (lo hi : Int) (w : World) (e : Ending) (w' : World) : Prop := ∃ m : Int, e = .returned (.int .i64 m) ∧ lo ≤ m ∧ m ≤ hi ∧ Below w.heap.size w w'

end Go.Proofs.Ytpdddadplagcpaa
