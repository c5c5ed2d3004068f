/-
  laws.isIn: a slice of numbers is asked for one.
-/
import Derived.Test.YtfeeofablnjjdaaStInt
set_option linter.unusedSimpArgs false
namespace Go.Proofs.Ytfeeofablnjjdaa
open Go.RowKit
set_option linter.unusedVariables false

theorem mem_take_next {x : Int} {xs : List Int} {k : Nat} {y : Int} (hy : xs[k]? = some y) (h : x ∉ xs.take k) (hne : ¬ y = x) : x ∉ xs.take (k + 1) := by
  rw [take_next hy]
  intro e
  rcases List.mem_append.1 e with e | e
  · exact h e
  · simp at e; exact hne e.symm
set_option maxRecDepth 100000 in
set_option maxHeartbeats 1000000 in
theorem isIn_any (A : Option Addr) (n c : Nat) (xs : List Int) (x : Int) (w : World) (hx : Ints w w.heap.size A xs) (hn : xs.length = n) (hl : n ≤ 1000000000) :
    Calls Try.prog 22 #[.slice A n c, .int .i64 x] w fun e w' => e = .returned (.bool (decide (x ∈ xs))) ∧ w = w' := by
  subst hn
  go_enter Try.func22, Try.ntmps22
  go_wp2
  go_loop [5] (fun i => ∃ k : Nat, k ≤ xs.length ∧ i = .int .i64 k ∧ Hid (x ∉ xs.take k)) (fun i => xs.length - (intOf i).toNat)
  case atStart => exact ⟨0, Nat.zero_le _, rfl, (by simp : x ∉ xs.take 0)⟩
  case round =>
    obtain ⟨k, hk, rfl, Hn⟩ := hrel
    by_cases hlt : k < xs.length
    · obtain ⟨y, hyk⟩ : ∃ y, xs[k]? = some y := ⟨xs[k], List.getElem?_eq_getElem hlt⟩
      obtain ⟨b1, o1, rfl, hb1, hr1⟩ := hx.row (by omega)
      have q0 := hr1 k y hyk
      have Hy := Lib.hid hyk; clear hyk hr1
      have i0 : (0 : Int) ≤ (k : Int) := by omega
      have i1 : (k : Int) < (xs.length : Int) := by omega
      by_cases hxy : y = x
      · have d0 : (y == x) = true := by simpa using hxy
        go_wp2
        go_ret
        exact ⟨ret_bool (decide_eq_true (hxy ▸ List.mem_of_getElem? Hy.out)).symm, rfl⟩
      · have d0 : (y == x) = false := by simpa using hxy
        go_wp2
        go_round
        case rel => exact ⟨k + 1, by omega, by go_num, (mem_take_next Hy.out Hn.out hxy : x ∉ xs.take (k + 1))⟩
        case measure => simp [intOf]; omega
    · have i1 : ¬ (k : Int) < (xs.length : Int) := by omega
      go_wp2
      go_ret
      exact ⟨ret_bool (decide_eq_false (by have := Hn.out; rwa [List.take_of_length_le (by omega)] at this)).symm, rfl⟩
end Go.Proofs.Ytfeeofablnjjdaa
