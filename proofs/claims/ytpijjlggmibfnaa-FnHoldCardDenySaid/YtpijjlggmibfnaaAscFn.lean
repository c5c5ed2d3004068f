/-
  Numbers that ascend: the program's check and its model's.
-/
import Derived.Test.YtpijjlggmibfnaaDenyMath
import Derived.Test.YtpijjlggmibfnaaWithin
set_option linter.unusedSimpArgs false
namespace Go.Proofs.Ytpijjlggmibfnaa
open Go.RowKit Go.Deep
set_option linter.unusedVariables false

set_option maxRecDepth 100000 in
set_option maxHeartbeats 1000000 in
theorem ascendWithin_any (M : Int) (A : Option Addr) (n c : Nat) (am : List Int) (w : World) (hx : Ints w w.heap.size A am) (hn : am.length = n) (hl : n ≤ 1000000000) :
    Calls Try.prog 88 #[.slice A n c, .int .i64 M] w fun e w' => e = .returned (.bool (Fares.ascends am M)) ∧ w = w' := by
  subst hn
  go_enter Try.func88, Try.ntmps88
  go_wp2
  go_loop [10, 5] (fun i v => ∃ (k : Nat) (l : Int), k ≤ am.length ∧ i = .int .i64 k ∧ v = .int .i64 l ∧ Hid (Fares.LastOf am k l) ∧ Hid (Fares.ascOk (am.take k) M)) (fun i _ => am.length - (intOf i).toNat)
  case atStart => exact ⟨0, -1, Nat.zero_le _, rfl, rfl, Lib.hid (.inl ⟨rfl, rfl⟩), Lib.hid (Fares.ascOk_nil M)⟩
  case round =>
    obtain ⟨k, l, hk, rfl, rfl, Hl, Ho⟩ := hrel
    by_cases hlt : k < am.length
    · obtain ⟨a, hak⟩ : ∃ a, am[k]? = some a := ⟨am[k], List.getElem?_eq_getElem hlt⟩
      obtain ⟨b1, o1, rfl, hb1, hr1⟩ := hx.row (by omega)
      have p0 := hr1 k a hak
      have Hak := Lib.hid hak; clear hak hr1
      have i0 : (0 : Int) ≤ (k : Int) := by omega
      have i1 : (k : Int) < (am.length : Int) := by omega
      by_cases h0 : a ≤ l
      · have d0 : decide (a ≤ l) = true := by simpa using h0
        have Hf := Lib.hid (Fares.ascends_false (Fares.ascOk_not Hl.out Hak.out (M := M) (.inl h0)))
        go_wp2
        go_ret
        exact ⟨ret_bool Hf.out.symm, rfl⟩
      · have d0 : decide (a ≤ l) = false := by simpa using h0
        by_cases h1 : M < a
        · have d1 : decide (M < a) = true := by simpa using h1
          have Hf := Lib.hid (Fares.ascends_false (Fares.ascOk_not Hl.out Hak.out (M := M) (.inr h1)))
          go_wp2
          go_ret
          exact ⟨ret_bool Hf.out.symm, rfl⟩
        · have d1 : decide (M < a) = false := by simpa using h1
          have Hn := Lib.hid (Fares.ascOk_take_succ Ho.out Hl.out Hak.out (by omega) (by omega))
          have Hm := Lib.hid (Fares.LastOf.next Hak.out)
          clear h0 h1
          go_wp2
          go_round
          case rel => exact ⟨k + 1, a, by omega, by go_num, rfl, Hm, Hn⟩
          case measure => simp [intOf]; omega
    · go_wp2
      go_ret
      exact ⟨ret_bool (Fares.ascends_true (Fares.ascOk_all Ho.out (by omega))).symm, rfl⟩
set_option maxRecDepth 100000 in
set_option maxHeartbeats 2000000 in
theorem specascends_any (M : Int) (A : Option Addr) (n c : Nat) (am : List Int) (w : World) (hx : Ints w w.heap.size A am) (hn : am.length = n) (hl : n ≤ 1000000000) :
    Calls Try.prog 89 #[.slice A n c, .int .i64 M] w fun e w' => e = .returned (.bool (Fares.ascends am M)) ∧ ∃ m, w.drewN m = w' := by
  subst hn
  go_enter Try.func89, Try.ntmps89
  go_wp2
  go_loopw [5] (fun i wr => ∃ k : Nat, 1 ≤ k ∧ (k ≤ am.length ∨ k = 1) ∧ i = .int .i64 k ∧ (∃ m, w.drewN m = wr) ∧ Hid (∀ j a b, j + 1 < k → am[j]? = some a → am[j + 1]? = some b → a < b)) (fun i _ => am.length - (intOf i).toNat)
  case atStart => exact ⟨1, by omega, .inr rfl, rfl, ⟨0, rfl⟩, Lib.hid (fun j a b hj => by omega)⟩
  case round =>
    obtain ⟨k, hk1, hk, rfl, ⟨m, rfl⟩, He⟩ := hrel
    have hk' : k ≤ am.length + 1 := by rcases hk with h | h <;> omega
    clear hk
    have Hx : Hid (Ints (w.drewN m) (w.drewN m).heap.size A am) := Lib.hid hx
    by_cases hlt : k < am.length
    · obtain ⟨b, hbk⟩ : ∃ b, am[k]? = some b := ⟨am[k], List.getElem?_eq_getElem hlt⟩
      obtain ⟨a, hak⟩ : ∃ a, am[k - 1]? = some a := ⟨am[k - 1], List.getElem?_eq_getElem (by omega)⟩
      obtain ⟨b1, o1, rfl, hb1, hr1⟩ := Hx.out.row (by omega)
      have p0 : w.cell? ⟨b1, o1 + k, none⟩ = some (.int .i64 b) := hr1 k b hbk
      have p1 : w.cell? ⟨b1, o1 + (k - 1), none⟩ = some (.int .i64 a) := hr1 (k - 1) a hak
      have Hbk := Lib.hid hbk; clear hbk
      have Hak := Lib.hid hak; clear hak hr1
      have i0 : (0 : Int) ≤ (k : Int) := by omega
      have i1 : (k : Int) < (am.length : Int) := by omega
      have i2 : (0 : Int) ≤ (k : Int) - 1 := by omega
      have i3 : (k : Int) - 1 < (am.length : Int) := by omega
      have i4 : ((k : Int) - 1).toNat = k - 1 := by omega
      have hks : k - 1 + 1 = k := by omega
      have Hbk' := Lib.hid (show am[k - 1 + 1]? = some b by rw [hks]; exact Hbk.out)
      clear hks
      have Hxw := Lib.hid hx; clear hx
      by_cases h0 : b ≤ a
      · have d0 : decide (b ≤ a) = true := by simpa using h0
        have Hf := Lib.hid (Fares.ascends_false (M := M) (fun h => by have := h.2 (k - 1) a b Hak.out Hbk'.out; omega))
        go_wp2
        go_quiet (fail)
        go_wp2
        go_ret
        exact ⟨ret_bool Hf.out.symm, _, (World.drewN_drewN _ _ _).symm⟩
      · have d0 : decide (b ≤ a) = false := by simpa using h0
        have hab : a < b := by omega
        clear h0
        go_wp2
        go_quiet (fail)
        go_wp2
        go_roundw
        case rel => exact ⟨k + 1, by omega, .inl (by omega), by go_num, ⟨_, rfl⟩, Lib.hid (fun j x y hj hx hy => by
          rcases Nat.lt_or_ge (j + 1) k with h | h
          · exact He.out j x y h hx hy
          · have e : j = k - 1 := by omega
            subst e
            rw [Hak.out] at hx; rw [Hbk'.out] at hy
            injection hx with hx; injection hy with hy
            omega)⟩
        case measure => simp [intOf]; omega
    · go_wp2_with fail
      refine (specallIn_gen M A am.length c am _ Hx.out rfl hl).mono ?_
      rintro e w' ⟨rfl, rfl⟩
      go_wp2
      go_ret
      refine ⟨ret_bool ?_, m, rfl⟩
      by_cases hw : Fares.ascOk am M
      · rw [Fares.ascends_true hw, Fares.within_true hw.1]
      · rw [Fares.ascends_false hw]
        cases hq : Fares.within am M with
        | false => rfl
        | true => exact absurd ⟨fun k x => Fares.within_of hq, fun j a b ha hb => He.out j a b (by have := (List.getElem?_eq_some_iff.1 hb).1; omega) ha hb⟩ hw
end Go.Proofs.Ytpijjlggmibfnaa
