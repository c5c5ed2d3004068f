/-
  Drawn debts, a day and an amount.
-/
import Derived.Test.YtpdddadplagcpaaDrawDebt
set_option linter.unusedSimpArgs false
namespace Go.Proofs.Ytpdddadplagcpaa
open Go.RowKit Go.Deep
set_option linter.unusedVariables false

def DrawsAdd (w : World) (e : Ending) (w' : World) : Prop :=
  ∃ (v : Value) (ys : List Fares.Debt) (day m : Int), e = .returned (.tuple #[v, .int .i64 day, .int .i64 m]) ∧ OwnDebts w' w.heap.size v ys ∧ ys.length ≤ 8 ∧ (∀ b ∈ ys, debtSmall b) ∧ -1 ≤ day ∧ day ≤ 29 ∧ 0 ≤ m ∧ m ≤ 100001 ∧ Below w.heap.size w w'
set_option maxRecDepth 100000 in
set_option maxHeartbeats 2000000 in
theorem drawAddDebt_any (A : Option Addr) (n c : Nat) (w : World) (h : Bytes w w.heap.size A n c) : Calls Try.prog 24 #[.slice A n c] w (DrawsAdd w) := by
  go_enter Try.func24, Try.ntmps24
  go_wp2_with fail
  refine (newReader_any A n c w h).mono ?_
  rintro e w1 ⟨rfl, hr1, hb1, hz1⟩
  have HZ := Lib.hid hz1; clear hz1
  have hs1 : w.heap.size < w1.heap.size := hr1.lt
  go_wp2_with fail
  refine (anyDebts_any w.heap.size 0 w1 hr1 (by omega)).mono ?_
  rintro e w2 ⟨v, ys, q1, rfl, hown2, hlen, hsm, hq1, hr2, hg2⟩
  have Hgt : Hid (∀ j, v.ownBlock = some j → w.heap.size < j) := fun j hj => Nat.lt_of_lt_of_le hs1 (World.ownsRow.lt hown2 j hj).1
  have hap : v.ownBlock = none ∨ v.ownBlock ≠ some w.heap.size := apart_of (fun j hj e => by have := Hgt.out j hj; injection e with e; omega)
  have Hap := Lib.hid hap; clear hap
  have Hsm := Lib.hid hsm; clear hsm
  have Hown2 := Lib.hid (OwnDebts.base hown2 (Nat.le_of_lt hs1)); clear hown2
  have Hb2 := Lib.hid (hb1.trans (below_of_grown hg2 hb1.size (Nat.le_refl _))); clear hg2 hb1 hr1
  go_wp2_with fail
  refine (anyDay_any w.heap.size q1 w2 hr2 (by omega)).mono ?_
  rintro e w3 ⟨day, q2, rfl, dy0, dy1, hq2, hr3, hg3⟩
  have Hown3 := Lib.hid (OwnDebts.kept Hown2.out hg3 Hap.out)
  have Hb3 := Lib.hid (Hb2.out.trans (below_of_grown hg3 Hb2.out.size (Nat.le_refl _))); clear hg3 hr2
  obtain ⟨Av, cv, rfl, hcv1, hcv2, hrs⟩ := Hown3.out.form
  have Hrs := Lib.hid hrs; clear hrs
  by_cases hl0 : 0 < ys.length
  · have hl1 : (0 : Int) < (ys.length : Int) := by omega
    go_wp2_with fail
    refine (pick_any w.heap.size q2 3 _ hr3 (by omega)).mono ?_
    rintro e w4 ⟨k, rfl, k0, k1, hr4, hg4⟩
    have k2 := k1 (by omega)
    clear k1 hr3
    have Hown4 := Lib.hid (OwnDebts.kept Hown3.out hg4 Hap.out)
    have Hb4 := Lib.hid (Hb3.out.trans (below_of_grown hg4 Hb3.out.size (Nat.le_refl _))); clear hg4
    by_cases hk : k = 0
    · subst hk
      go_wp2_with fail
      refine (pick_any w.heap.size (q2 + 1) (ys.length : Int) _ hr4 (by omega)).mono ?_
      rintro e w5 ⟨j1, rfl, j10, j11, hr5, hg5⟩
      have j12 := j11 (by omega)
      clear j11 hr4
      obtain ⟨j, rfl⟩ := Int.eq_ofNat_of_zero_le j10
      have Hown5 := Lib.hid (OwnDebts.kept Hown4.out hg5 Hap.out)
      have Hb5 := Lib.hid (Hb4.out.trans (below_of_grown hg5 Hb4.out.size (Nat.le_refl _))); clear hg5
      obtain ⟨y, hy⟩ : ∃ y, ys[j]? = some y := ⟨ys[j], List.getElem?_eq_getElem (by omega)⟩
      have hsy := Hsm.out y (List.mem_of_getElem? hy)
      obtain ⟨s0, s1, s2, s3⟩ := hsy
      obtain ⟨_, _, e9, _, _, hr9⟩ := Hown5.out.form
      injection e9 with e91 e92 e93
      subst e91 e93
      obtain ⟨b1, o1, rfl, hb1', hr1'⟩ := Debts.row hr9 (by omega)
      obtain ⟨p0, p1⟩ := hr1' j y hy
      clear hr1' hy e92 hr9
      have jj : (j : Int) < (ys.length : Int) := by omega
      go_wp2_with fail
      refine (one_in _ (q2 + 1 + 1) w5.heap.size [100, 1, 100000, 100001, 0] 0 100001 _ _ _ _ (hr5.alloc _) (by omega) (Blk.new w5 _ _) (by have := hr5.lt; omega) rfl rfl (by decide) (by decide) (by decide)).mono ?_
      rintro e w6 ⟨m, rfl, m0, m1, hr6, hg6⟩
      have Hown6 := Lib.hid (OwnDebts.kept (World.ownsRow.alloc Hown5.out _) hg6 Hap.out)
      have Hb6 := Lib.hid ((Hb5.out.trans ((Below.refl w.heap.size w5).alloc Hb5.out.size _)).trans (below_of_grown hg6 (by have := Hb5.out.size; simp; omega) (Nat.le_refl _))); clear hg6
      go_wp2
      go_ret3
      exact ⟨_, ys, y.d, m, rfl, Hown6.out, hlen, Hsm.out, s0, s1, m0, m1, Hb6.out⟩
    · have hk1 : (k == 0) = false := by simpa using hk
      go_wp2_with fail
      refine (one_in _ (q2 + 1) w4.heap.size [100, 1, 100000, 100001, 0] 0 100001 _ _ _ _ (hr4.alloc _) (by omega) (Blk.new w4 _ _) (by have := hr4.lt; omega) rfl rfl (by decide) (by decide) (by decide)).mono ?_
      rintro e w6 ⟨m, rfl, m0, m1, hr6, hg6⟩
      have Hown6 := Lib.hid (OwnDebts.kept (World.ownsRow.alloc Hown4.out _) hg6 Hap.out)
      have Hb6 := Lib.hid ((Hb4.out.trans ((Below.refl w.heap.size w4).alloc Hb4.out.size _)).trans (below_of_grown hg6 (by have := Hb4.out.size; simp; omega) (Nat.le_refl _))); clear hg6
      go_wp2
      go_ret3
      exact ⟨_, ys, day, m, rfl, Hown6.out, hlen, Hsm.out, dy0, dy1, m0, m1, Hb6.out⟩
  · have hl1 : decide ((0 : Int) < (ys.length : Int)) = false := by rw [decide_eq_false_iff_not]; omega
    go_wp2_with fail
    refine (one_in _ q2 w3.heap.size [100, 1, 100000, 100001, 0] 0 100001 _ _ _ _ (hr3.alloc _) (by omega) (Blk.new w3 _ _) (by have := hr3.lt; omega) rfl rfl (by decide) (by decide) (by decide)).mono ?_
    rintro e w6 ⟨m, rfl, m0, m1, hr6, hg6⟩
    have Hown6 := Lib.hid (OwnDebts.kept (World.ownsRow.alloc Hown3.out _) hg6 Hap.out)
    have Hb6 := Lib.hid ((Hb3.out.trans ((Below.refl w.heap.size w3).alloc Hb3.out.size _)).trans (below_of_grown hg6 (by have := Hb3.out.size; simp; omega) (Nat.le_refl _))); clear hg6
    go_wp2
    go_ret3
    exact ⟨_, ys, day, m, rfl, Hown6.out, hlen, Hsm.out, dy0, dy1, m0, m1, Hb6.out⟩
end Go.Proofs.Ytpdddadplagcpaa
