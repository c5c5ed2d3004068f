/-
  The reader of drawn numbers: its number 'pick' is in range, whatever the code; only the reader's own cell turns.
-/
import Derived.Test.YtllhjgheffemnaaRows
import Derived.Test.YtllhjgheffemnaaMem
import Derived.WalkKit
import Derived.Deep.QuietTactic
import Derived.BigQuiet
import Derived.IntWalk
import Derived.Laws.BitsAllLaws
import Derived.Laws.BitsLemmas
set_option linter.unusedSimpArgs false
namespace Go.Proofs.Ytllhjgheffemnaa
open Go.RowKit
set_option linter.unusedVariables false

set_option maxHeartbeats 400000 in
theorem pick_low (g : Nat) (A : Option Addr) (n c : Nat) (p : Nat) (m : Int) (w : World) (hm : m < 1) (hp : p ≤ 100000)
    (h0 : w.cell? ⟨g, 0, none⟩ = some (.slice A n c)) (h1 : w.cell? ⟨g, 1, none⟩ = some (.int .i64 p)) (hf : w.frozen? ⟨g, 1, none⟩ = false) :
    Calls Try.prog 51 #[.pointer (some ⟨g, 0, none⟩), .int .i64 m] w fun e w' => e = .returned (.int .i64 0) ∧ w.setCell ⟨g, 1, none⟩ (.int .i64 ((p : Int) + 1)) = w' := by
  go_enter Try.func51, Try.ntmps51
  go_wp2
  go_ret
  exact ⟨rfl, rfl⟩

set_option maxHeartbeats 400000 in
theorem pick_none (g : Nat) (A : Option Addr) (c : Nat) (p : Nat) (m : Int) (w : World) (hm : 1 ≤ m) (hp : p ≤ 100000)
    (h0 : w.cell? ⟨g, 0, none⟩ = some (.slice A 0 c)) (h1 : w.cell? ⟨g, 1, none⟩ = some (.int .i64 p)) (hf : w.frozen? ⟨g, 1, none⟩ = false) :
    Calls Try.prog 51 #[.pointer (some ⟨g, 0, none⟩), .int .i64 m] w fun e w' => e = .returned (.int .i64 0) ∧ w.setCell ⟨g, 1, none⟩ (.int .i64 ((p : Int) + 1)) = w' := by
  have e0 : (w.setCell ⟨g, 1, none⟩ (.int .i64 ((p : Int) + 1))).cell? ⟨g, 0, none⟩ = some (.slice A 0 c) := by
    rw [World.cell?_setCell_other w _ _ _ (by simp)]; exact h0
  have hd : decide (m < 1) = false := by simp; omega
  go_enter Try.func51, Try.ntmps51
  go_wp2
  go_ret
  exact ⟨rfl, rfl⟩

set_option maxHeartbeats 400000 in
theorem pick_near (g : Nat) (a : Addr) (n c : Nat) (p : Nat) (m x : Int) (w : World) (hm : 1 ≤ m) (hp : p ≤ 100000) (hn : p < n) (hn2 : n ≤ 2000) (hx0 : 0 ≤ x) (hx1 : x < 256)
    (h0 : w.cell? ⟨g, 0, none⟩ = some (.slice (some a) n c)) (h1 : w.cell? ⟨g, 1, none⟩ = some (.int .i64 p)) (hf : w.frozen? ⟨g, 1, none⟩ = false)
    (ha : a.block ≠ g) (hx : w.cell? (a.add p) = some (.int .u8 x)) :
    Calls Try.prog 51 #[.pointer (some ⟨g, 0, none⟩), .int .i64 m] w fun e w' => e = .returned (.int .i64 (x % m)) ∧ w.setCell ⟨g, 1, none⟩ (.int .i64 ((p : Int) + 1)) = w' := by
  have e0 : (w.setCell ⟨g, 1, none⟩ (.int .i64 ((p : Int) + 1))).cell? ⟨g, 0, none⟩ = some (.slice (some a) n c) := by
    rw [World.cell?_setCell_other w _ _ _ (by simp)]; exact h0
  have ex : (w.setCell ⟨g, 1, none⟩ (.int .i64 ((p : Int) + 1))).cell? (a.add p) = some (.int .u8 x) := by
    rw [World.cell?_setCell_other w _ _ _ (by intro e; have := congrArg Addr.block e; rw [add_block] at this; exact ha this.symm)]; exact hx
  have hd : decide (m < 1) = false := by simp; omega
  have hz : ((n : Int) == 0) = false := by simp; omega
  go_enter Try.func51, Try.ntmps51
  go_wp2
  go_ret
  exact ⟨rfl, rfl⟩

theorem wrap_i {x : Int} (h0 : 0 ≤ x) (h1 : x ≤ 9000000000000000000) : IntKind.i64.wrap x = x := IntWalk.i64_in _ (by omega)

set_option maxRecDepth 100000 in
set_option maxHeartbeats 2000000 in
theorem pick_far (g : Nat) (a : Addr) (n c : Nat) (p : Nat) (m x y : Int) (w : World) (hm : 1 ≤ m) (hp : p ≤ 100000) (hn : n ≤ p) (hn0 : 1 ≤ n) (hn2 : n ≤ 2000) (hx0 : 0 ≤ x) (hx1 : x < 256) (hy0 : 0 ≤ y) (hy1 : y < 256)
    (h0 : w.cell? ⟨g, 0, none⟩ = some (.slice (some a) n c)) (h1 : w.cell? ⟨g, 1, none⟩ = some (.int .i64 p)) (hf : w.frozen? ⟨g, 1, none⟩ = false)
    (ha : a.block ≠ g) (hx : w.cell? (a.add (p % n)) = some (.int .u8 x)) (hy : w.cell? (a.add ((p * 7 + 3) % n)) = some (.int .u8 y)) :
    Calls Try.prog 51 #[.pointer (some ⟨g, 0, none⟩), .int .i64 m] w fun e w' => ∃ k : Int, e = .returned (.int .i64 k) ∧ 0 ≤ k ∧ k < m ∧ ∃ d, (w.setCell ⟨g, 1, none⟩ (.int .i64 ((p : Int) + 1))).drewN d = w' := by
  have e0 : (w.setCell ⟨g, 1, none⟩ (.int .i64 ((p : Int) + 1))).cell? ⟨g, 0, none⟩ = some (.slice (some a) n c) := by
    rw [World.cell?_setCell_other w _ _ _ (by simp)]; exact h0
  have ex : (w.setCell ⟨g, 1, none⟩ (.int .i64 ((p : Int) + 1))).cell? (a.add (p % n)) = some (.int .u8 x) := by
    rw [World.cell?_setCell_other w _ _ _ (by intro e; have := congrArg Addr.block e; rw [add_block] at this; exact ha this.symm)]; exact hx
  have ey : (w.setCell ⟨g, 1, none⟩ (.int .i64 ((p : Int) + 1))).cell? (a.add ((p * 7 + 3) % n)) = some (.int .u8 y) := by
    rw [World.cell?_setCell_other w _ _ _ (by intro e; have := congrArg Addr.block e; rw [add_block] at this; exact ha this.symm)]; exact hy
  have hd : decide (m < 1) = false := by simp; omega
  have hz : ((n : Int) == 0) = false := by simp; omega
  have hl : decide (p < n) = false := by simp; omega
  go_enter Try.func51, Try.ntmps51
  go_wp2
  have r0 : (0 : Int) ≤ (p : Int) % (n : Int) := Int.emod_nonneg _ (by omega)
  have r1 : (p : Int) % (n : Int) < (n : Int) := Int.emod_lt_of_pos _ (by omega)
  have s0 : (0 : Int) ≤ ((p : Int) * 7 + 3) % (n : Int) := Int.emod_nonneg _ (by omega)
  have s1 : ((p : Int) * 7 + 3) % (n : Int) < (n : Int) := Int.emod_lt_of_pos _ (by omega)
  have q0 : (0 : Int) ≤ (p : Int) / (n : Int) := Int.ediv_nonneg (by omega) (by omega)
  have q1 : (p : Int) / (n : Int) ≤ (p : Int) := Int.ediv_le_self _ (by omega)
  go_quiet (fail)
  have hs := xor_range (x * 131 + y * 1117 + p * 29 + p / n * 53) (by omega) (by omega)
  have hb := hs.1
  have hb1 := Int.emod_nonneg (bits .xor .i64 (x * 131 + y * 1117 + p * 29 + p / n * 53) ((x * 131 + y * 1117 + p * 29 + p / n * 53) / 64)) (show m ≠ 0 by omega)
  have hb2 := Int.emod_lt_of_pos (bits .xor .i64 (x * 131 + y * 1117 + p * 29 + p / n * 53) ((x * 131 + y * 1117 + p * 29 + p / n * 53) / 64)) (show 0 < m by omega)
  go_wp2
  go_ret
  exact ⟨_, rfl, hb1, hb2, _, rfl⟩
end Go.Proofs.Ytllhjgheffemnaa
