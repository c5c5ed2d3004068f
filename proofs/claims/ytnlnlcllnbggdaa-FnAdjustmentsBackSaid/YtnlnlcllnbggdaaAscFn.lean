/-
  Numbers that ascend: the program's check and its model's.
-/
import Derived.Test.YtnlnlcllnbggdaaDenyMath
import Derived.Test.YtnlnlcllnbggdaaWithin
set_option linter.unusedSimpArgs false
namespace Go.Proofs.Ytnlnlcllnbggdaa
open Go.RowKit Go.Deep
set_option linter.unusedVariables false

set_option maxRecDepth 100000 in
set_option maxHeartbeats 1000000 in
theorem ascendWithin_any (M : Int) (A : Option Addr) (n c : Nat) (am : List Int) (w : World) (hx : Ints w w.heap.size A am) (hn : am.length = n) (hl : n ≤ 1000000000) :
    Calls Try.prog 43 #[.slice A n c, .int .i64 M] w fun e w' => e = .returned (.bool (Fares.ascends am M)) ∧ w = w' := by
  subst hn
  go_enter Try.func43, Try.ntmps43
  go_wp2
  go_loop [10, 5] (fun i v => ∃ (k : Nat) (l : Int), k ≤ am.length ∧ i = .int .i64 k ∧ v = .int .i64 l ∧ Hid (Fares.LastOf am k l) ∧ Hid (Fares.ascOk (am.take k) M)) (fun i _ => am.length - (intOf i).toNat)
  case atStart => exact ⟨0, -1, Nat.zero_le _, rfl, rfl, Lib.hid (.inl ⟨rfl, rfl⟩), Lib.hid (Fares.ascOk_nil M)⟩
  case round =>
    obtain ⟨k, l, hk, rfl, rfl, Hl, Ho⟩ := hrel
    by_cases hlt : k < am.length
    · obtain ⟨a, hak⟩ : ∃ a, am[k]? = some a := ⟨am[k], List.getElem?_eq_getElem hlt⟩
      obtain ⟨b1, o1, rfl, hb1, hr1⟩ := hx.row (by omega)
      have p0 := hr1 k a hak
      have Hak := Lib.hid hak; clear hak hr1
      have i0 : (0 : Int) ≤ (k : Int) := by omega
      have i1 : (k : Int) < (am.length : Int) := by omega
      by_cases h0 : a ≤ l
      · have d0 : decide (a ≤ l) = true := by simpa using h0
        have Hf := Lib.hid (Fares.ascends_false (Fares.ascOk_not Hl.out Hak.out (M := M) (.inl h0)))
        go_wp2
        go_ret
        exact ⟨ret_bool Hf.out.symm, rfl⟩
      · have d0 : decide (a ≤ l) = false := by simpa using h0
        by_cases h1 : M < a
        · have d1 : decide (M < a) = true := by simpa using h1
          have Hf := Lib.hid (Fares.ascends_false (Fares.ascOk_not Hl.out Hak.out (M := M) (.inr h1)))
          go_wp2
          go_ret
          exact ⟨ret_bool Hf.out.symm, rfl⟩
        · have d1 : decide (M < a) = false := by simpa using h1
          have Hn := Lib.hid (Fares.ascOk_take_succ Ho.out Hl.out Hak.out (by omega) (by omega))
          have Hm := Lib.hid (Fares.LastOf.next Hak.out)
          clear h0 h1
          go_wp2
          go_round
          case rel => exact ⟨k + 1, a, by omega, by go_num, rfl, Hm, Hn⟩
          case measure => simp [intOf]; omega
    · go_wp2
      go_ret
      exact ⟨ret_bool (Fares.ascends_true (Fares.ascOk_all Ho.out (by omega))).symm, rfl⟩
end Go.Proofs.Ytnlnlcllnbggdaa
