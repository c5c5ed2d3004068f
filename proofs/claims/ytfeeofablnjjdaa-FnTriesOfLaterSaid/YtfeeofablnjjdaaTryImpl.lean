/-
  The program's waits (an iterator), WaitBefore and TriesOf (loops over it), NextTry.
-/
import Derived.Test.YtfeeofablnjjdaaTryFn
import Derived.RangeFuncNested
import Derived.RangeFuncBound
import Derived.RangeFuncCalls
import Derived.RangeFuncLeaves
import Derived.RangeFuncBox
import Derived.Shelf.Abstract
import Derived.Shelf.RegionOpen
import Derived.WalkKit
import Derived.OwnWalkIn
import Derived.TacticsInMore
import Derived.LoopNIn
import Derived.LoopIn
import Derived.Maps.AppendAt
set_option linter.unusedSimpArgs false
namespace Go.Proofs.Ytfeeofablnjjdaa
open Go.RowKit Go.Shelf
set_option linter.unusedVariables false
attribute [local go_sem] Oper.semAt_some

abbrev tryEnc (f : Int) (k : Nat) : Array Value := #[.int .i64 ((k : Int) + 1), .int .i64 (Fares.waitN f k)]

set_option maxHeartbeats 1000000 in
theorem waits_in (F : Fence) (n : Nat) (hf : F.fn 29) (hro : F.round = none) (f : Int) (w : World) :
    CallsIn F n Try.prog 29 #[.int .i64 f] w fun e w' => e = .returned (.func (.func 35) #[] #[.pointer (some ⟨w.heap.size, 0, none⟩)]) ∧ w' = w.alloc (.cells #[.int .i64 f] 3) := by
  refine callsIn_of_wp Try.func29 rfl hf ?_ hro
  simp only [Try.ntmps29, List.size_toArray, List.length_cons, List.length_nil, Nat.reduceAdd, Nat.reduceSub, Array.replicate_succ, Array.replicate_zero, List.push_toArray, List.append_toArray, List.nil_append, List.cons_append]
  gi_wp2
  go_ret
  exact ⟨rfl, rfl⟩

set_option maxRecDepth 100000 in
set_option maxHeartbeats 1000000 in
theorem waits1_in (F : Fence) (n : Nat) (h6 : F.fn 35) (hro : F.round = none) (hn : 1 ≤ n) (l Bn n₀ : Nat) (f : Int) (f0 : 1 ≤ f) (f1 : f ≤ 1440) (J Jx : List Nat → World → Prop)
    (hY : ∀ pre x W, J pre W → pre.length < 4 → YieldAt F (n - 1) Try.prog l (tryEnc f x) W fun e W' =>
      (e = .returned (.bool true) ∧ J (pre ++ [x]) W' ∧ Below n₀ W W') ∨ (e = .returned (.bool false) ∧ Jx (pre ++ [x]) W'))
    (W : World) (hBn : W.cell? ⟨Bn, 0, none⟩ = some (.int .i64 f)) (h0 : J [] W) :
    CallsIn F n Try.prog 35 #[.func (.yield l) #[] #[], .pointer (some ⟨Bn, 0, none⟩)] W fun e W' => (∃ v, e = .returned v) ∧
      ((∃ ys, ys = List.range 4 ∧ J ys W') ∨ (∃ pre, (∃ k, k < 4 ∧ pre = List.range k ++ [k]) ∧ Jx pre W')) := by
  refine callsIn_of_wp Try.func35 rfl h6 ?_ hro
  simp only [Try.ntmps35, List.size_toArray, List.length_cons, List.length_nil, Nat.reduceAdd, Nat.reduceSub, Array.replicate_succ, Array.replicate_zero, List.push_toArray, List.append_toArray, List.nil_append, List.cons_append]
  gi_wp2
  gi_loopw [4, 3] (fun i v wr => ∃ k : Nat, k ≤ 4 ∧ i = .int .i64 ((k : Int) + 1) ∧ v = .int .i64 (Fares.waitN f k) ∧ J (List.range k) wr)
    (fun i _ _ => 5 - (intOf i).toNat)
  case atStart =>
    exact ⟨0, Nat.zero_le _, rfl, rfl, h0⟩
  case round =>
    obtain ⟨k, hk, rfl, rfl, hJs⟩ := hrel
    by_cases hlt : k < 4
    · obtain ⟨m0, m1⟩ := Fares.waitN_in f0 f1 k
      have Hn := Lib.hid (Fares.waitN_next f k)
      have q1 : (k : Int) + 1 ≤ 4 := by omega
      obtain ⟨fn, tmps, assign, body, hy, hR⟩ := hY (List.range k) k wr hJs (by simpa using hlt)
      dsimp only [tryEnc] at hy
      generalize Fares.waitN f k = m at m0 m1 Hn hy ⊢
      gi_wp2
      refine hR.mono ?_
      rintro e W3 (⟨rfl, hJ3, hk3⟩ | ⟨rfl, hJx3⟩)
      · gi_wp2
        go_roundw
        case rel => exact ⟨k + 1, by omega, by go_num, by rw [Hn.out], by rw [List.range_succ]; exact hJ3⟩
        case measure => simp [intOf]; omega
      · gi_wp2
        refine bodyPost_end (results_none rfl _ _ _) rfl ?_
        exact ⟨⟨_, rfl⟩, .inr ⟨_, ⟨k, hlt, rfl⟩, hJx3⟩⟩
    · have hk4 : k = 4 := by omega
      have q1 : ¬ ((k : Int) + 1 ≤ 4) := by omega
      gi_wp2
      refine ⟨fun _ h => (by cases h), ?_⟩
      gi_wp2
      refine bodyPost_end (results_none rfl _ _ _) rfl ?_
      exact ⟨⟨_, rfl⟩, .inl ⟨_, rfl, hk4 ▸ hJs⟩⟩

theorem waits_stops (F : Fence) (n : Nat) (h6 : F.fn 35) (hro : F.round = none) (hn : 1 ≤ n) (Bn n₀ : Nat) (f : Int) (f0 : 1 ≤ f) (f1 : f ≤ 1440) (w : World) (hBn : Bn < w.heap.size)
    (hc : w.cell? ⟨Bn, 0, none⟩ = some (.int .i64 f)) :
    SeqStopsK F n Try.prog 35 #[.pointer (some ⟨Bn, 0, none⟩)] (tryEnc f) (Below n₀) (fun ys => ys = List.range 4) (fun pre => ∃ k, k < 4 ∧ pre = List.range k ++ [k]) 4 w := fun l J Jx W hW _ _ hY h0 =>
  waits1_in F n h6 hro hn l Bn n₀ f f0 f1 J Jx hY W ((hW.cell (p := ⟨Bn, 0, none⟩) hBn).trans hc) h0
end Go.Proofs.Ytfeeofablnjjdaa
