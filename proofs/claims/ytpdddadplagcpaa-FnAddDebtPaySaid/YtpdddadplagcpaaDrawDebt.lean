/-
  Drawn debts: at most eight, their numbers in a small range; only new memory is laid.
-/
import Derived.Test.YtpdddadplagcpaaDebtFn4
import Derived.Test.YtpdddadplagcpaaStInt
import Derived.Test.YtpdddadplagcpaaDrawKit
import Derived.Test.YtpdddadplagcpaaDrawTime
import Derived.Test.YtpdddadplagcpaaLiftBytes
import Derived.Test.YtpdddadplagcpaaReg
import Derived.Deep.AppendLies
set_option linter.unusedSimpArgs false
namespace Go.Proofs.Ytpdddadplagcpaa
open Go.RowKit Go.Deep
set_option linter.unusedVariables false

def debtSmall (b : Fares.Debt) : Prop := -1 ≤ b.d ∧ b.d ≤ 29 ∧ 0 ≤ b.a ∧ b.a ≤ 100001
def SomeDebts (g p : Nat) (w : World) (e : Ending) (w' : World) : Prop :=
  ∃ (v : Value) (ys : List Fares.Debt) (q : Nat), e = .returned v ∧ OwnDebts w' w.heap.size v ys ∧ ys.length ≤ 8 ∧ (∀ b ∈ ys, debtSmall b) ∧ q ≤ p + 60 ∧ Rd w' g q ∧ w.grownBy w' (some g)

set_option maxRecDepth 100000 in
set_option maxHeartbeats 2000000 in
theorem anyDebts_any (g p : Nat) (w : World) (hr : Rd w g p) (hp : p ≤ 50000) :
    Calls Try.prog 39 #[.pointer (some ⟨g, 0, none⟩)] w (SomeDebts g p w) := by
  have hgw := hr.lt
  obtain ⟨ti, hi0, hz0, hz1, hz2⟩ := info_parts info_debt
  have HI := Lib.hid hi0; clear hi0
  have HZ0 := Lib.hid hz0; clear hz0
  have HZ1 := Lib.hid hz1; clear hz1
  have HZ2 := Lib.hid hz2; clear hz2
  go_enter Try.func39, Try.ntmps39
  go_wp2_with fail
  refine (pick_any g p 4 _ (hr.alloc _) (by omega)).mono ?_
  rintro e w1 ⟨k, rfl, k0, k1, hr1, hg1⟩
  have k2 := k1 (by omega)
  clear k1
  have Hown1 := Lib.hid (World.ownsRow.kept (World.ownsRow_lit (base := w.heap.size) (e := 37) (size := 2) w #[] 0 (Nat.le_refl _) (by unfold maxLen; omega) rfl) hg1 (apart_of (fun j hj e => by simp [Value.ownBlock] at hj; injection e with e; omega)))
  have Hg1 := Lib.hid (grown_trans (grown_alloc (grown_refl w (some g)) _) hg1)
  clear hg1
  go_wp2_with fail
  refine (one_in g (p + 1) w1.heap.size [3, 4, 2, 1, 0, 8] 0 8 6 6 _ _ (hr1.alloc _) (by omega) (Blk.new w1 _ _) (by have := hr1.lt; omega) rfl rfl (by omega) (by omega) (by decide)).mono ?_
  rintro e w2 ⟨n, rfl, n0, n1, hr2, hg2⟩
  have Hown2 := Lib.hid (World.ownsRow.kept (World.ownsRow.alloc Hown1.out _) hg2 (apart_of (fun j hj e => by simp [Value.ownBlock] at hj; injection e with e; omega)))
  have Hg2 := Lib.hid (grown_trans (grown_alloc Hg1.out _) hg2)
  clear hg2
  go_wp2
  obtain ⟨kn, rfl⟩ := Int.eq_ofNat_of_zero_le n0
  go_loopw [3, 4, 5] (fun v a m wr => ∃ (ys : List Fares.Debt) (k : Nat) (t0 : Int) (q : Nat), OwnDebts wr w.heap.size v ys ∧ ys.length + k ≤ 8 ∧ a = .int .i64 t0 ∧ m = .int .i64 k ∧ 0 ≤ t0 ∧ t0 ≤ 4 + 4 * ys.length ∧ (∀ b ∈ ys, debtSmall b) ∧ q ≤ p + 2 + 2 * ys.length ∧ Rd wr g q ∧ w.grownBy wr (some g)) (fun _ _ m _ => (intOf m).toNat)
  case atStart => exact ⟨[], kn, k, p + 2, Hown2.out, by simp; omega, rfl, rfl, by omega, by simp; omega, (fun b hb => by cases hb), by simp, hr2, Hg2.out⟩
  case round =>
    obtain ⟨ys, k, t0, q, hown, hk, rfl, rfl, t1, t2, hsm, hq, hrd, hg⟩ := hrel
    have Hsm := Lib.hid hsm; clear hsm
    have Hown := Lib.hid hown; clear hown
    have Hg := Lib.hid hg; clear hg
    by_cases hk0 : 0 < k
    · have hk1 : (0 : Int) < (k : Int) := by omega
      obtain ⟨md, E1⟩ : ∃ md, (if (28 : Int) < t0 then 28 else t0) = md := ⟨_, rfl⟩
      have hmd0 : 0 ≤ md := by split at E1 <;> omega
      have hmd1 : md ≤ 28 := by split at E1 <;> omega
      go_wp2_with fail
      refine (one_in g q wr.heap.size [200, 300, 1, 900, 100000] 1 100000 5 5 _ _ (hrd.alloc _) (by omega) (Blk.new wr _ _) (by have := hrd.lt; omega) rfl rfl (by omega) (by omega) (by decide)).mono ?_
      rintro e w3 ⟨a1, rfl, a10, a11, hr3, hg3⟩
      clear hrd E1
      have hz3 := hg3.size
      have Hown3 := Lib.hid (World.ownsRow.kept (World.ownsRow.alloc Hown.out _) hg3 (apart_of (fun j hj e => by have := (World.ownsRow.lt Hown.out j hj).1; injection e with e; omega)))
      have Hg3 := Lib.hid (grown_trans (grown_alloc Hg.out _) hg3)
      have hgs := Hg.out.size
      simp only [World.size_alloc] at hz3
      clear hg3
      go_wp2_with (at_builtin; refine wpList_append_lies _ rfl (.tmp 16) (.tmp 23) _ rfl w.heap.size 37 ti _ 2 16 Try.underlying23 HI.out HZ0.out HZ1.out HZ2.out rfl (by omega) _ _ _ rfl (World.ownsRow.alloc Hown3.out _) ⟨w3.heap.size, 0, none⟩ 1 1 (debtCells ⟨md, a1⟩) rfl rfl ?c1 ?c2 (by omega) ?c3 ?c4 ?c5 _ rfl ?_)
      case c1 => exact World.news_of_block (heap_alloc_new w3 (.cells #[.int .i64 md, .int .i64 a1] 37))
      case c2 => simp [debtCells, Value.oneCell']
      case c3 => unfold maxLen; omega
      case c4 => omega
      case c5 => simp; omega
      intro gb cap w4 hown4 hgrow hat hlt4
      have Hown4 := Lib.hid (OwnDebts.snoc hown4)
      have hr4 : Rd w4 g (q + 1) := (hr3.alloc _).grown_new hgrow (fun r hr => by have := (World.ownsRow.lt Hown3.out r hr).1; omega)
      have Hg4 := Lib.hid (grown_new (grown_alloc Hg3.out _) hgrow (fun r hr => (World.ownsRow.lt Hown3.out r hr).1))
      clear hown4 hgrow hat hr3
      go_wp2_with fail
      refine (pick_any g (q + 1) 4 _ hr4 (by omega)).mono ?_
      rintro e w5 ⟨a2, rfl, a20, a21', hr5, hg5⟩
      have a21 := a21' (by omega)
      clear a21'
      clear hr4
      have Hown5 := Lib.hid (OwnDebts.kept Hown4.out hg5 (apart_of (fun j hj e => by have := (World.ownsRow.lt Hown4.out j hj).1; injection e with e; omega)))
      have Hg5 := Lib.hid (grown_trans Hg4.out hg5)
      clear hg5
      obtain ⟨k', rfl⟩ : ∃ k', k = k' + 1 := ⟨k - 1, by omega⟩
      go_wp2
      go_roundw
      case rel => exact ⟨ys ++ [⟨md, a1⟩], k', t0 + 1 + a2, q + 1 + 1, Hown5.out, by simp; omega, by go_num, by go_num, by omega, by simp; omega, (fun b hb => by
        rcases List.mem_append.1 hb with h | h
        · exact Hsm.out b h
        · simp at h; subst h; unfold debtSmall; dsimp only; omega), by simp; omega, hr5, Hg5.out⟩
      case measure => simp [intOf]
    · have hk1 : decide ((0 : Int) < (k : Int)) = false := by simp; omega
      have Hfin := Lib.hid (show ys.length ≤ 8 ∧ q + 4 ≤ p + 60 ∧ q + 1 ≤ p + 60 ∧ q ≤ p + 60 by omega)
      obtain ⟨A, c, rfl, hc1, hc2, hrs⟩ := Hown.out.form
      have Hrs := Lib.hid hrs; clear hrs
      by_cases hl0 : 0 < ys.length
      · have hl1 : (0 : Int) < (ys.length : Int) := by omega
        go_wp2_with fail
        refine (pick_any g q 20 _ hrd (by omega)).mono ?_
        rintro e w3 ⟨a1, rfl, a10, a11, hr3, hg3⟩
        have a12 := a11 (by omega)
        clear a11 hrd
        have Hown3 := Lib.hid (OwnDebts.kept Hown.out hg3 (apart_of (fun j hj e => by have := (World.ownsRow.lt Hown.out j hj).1; injection e with e; omega)))
        have Hg3 := Lib.hid (grown_trans Hg.out hg3)
        clear hg3
        by_cases ha : a1 = 0
        · subst ha
          go_wp2_with fail
          refine (pick_any g (q + 1) (ys.length : Int) _ hr3 (by omega)).mono ?_
          rintro e w4 ⟨j1, rfl, j10, j11, hr4, hg4⟩
          have j12 := j11 (by omega)
          clear j11 hr3
          obtain ⟨j, rfl⟩ := Int.eq_ofNat_of_zero_le j10
          have Hown4 := Lib.hid (OwnDebts.kept Hown3.out hg4 (apart_of (fun j hj e => by have := (World.ownsRow.lt Hown3.out j hj).1; injection e with e; omega)))
          have Hg4 := Lib.hid (grown_trans Hg3.out hg4)
          clear hg4
          go_wp2_with fail
          refine (one_in g (q + 1 + 1) w4.heap.size [-1, 28, 29] (-1) 29 3 3 _ _ (hr4.alloc _) (by omega) (Blk.new w4 _ _) (by have := hr4.lt; omega) rfl rfl (by omega) (by omega) (by decide)).mono ?_
          rintro e w5 ⟨x1, rfl, x10, x11, hr5, hg5⟩
          clear hr4
          have Hown5 := Lib.hid (OwnDebts.kept (World.ownsRow.alloc Hown4.out _) hg5 (apart_of (fun j hj e => by have := (World.ownsRow.lt Hown4.out j hj).1; injection e with e; omega)))
          have Hg5 := Lib.hid (grown_trans (grown_alloc Hg4.out _) hg5)
          clear hg5
          go_wp2_with fail
          refine (one_in g (q + 1 + 1 + 1) w5.heap.size [0, 1, 100001] 0 100001 3 3 _ _ (hr5.alloc _) (by omega) (Blk.new w5 _ _) (by have := hr5.lt; omega) rfl rfl (by omega) (by omega) (by decide)).mono ?_
          rintro e w6 ⟨x2, rfl, x20, x21, hr6, hg6⟩
          clear hr5
          have Hown6 := Lib.hid (OwnDebts.kept (World.ownsRow.alloc Hown5.out _) hg6 (apart_of (fun j hj e => by have := (World.ownsRow.lt Hown5.out j hj).1; injection e with e; omega)))
          have Hg6 := Lib.hid (grown_trans (grown_alloc Hg5.out _) hg6)
          clear hg6
          obtain ⟨gb, cap, cur, hv6, hb6, hh6, hn6, hm6, hz6, ht6⟩ : ∃ (gb cap : Nat) (cur : Array Value), Value.slice A ys.length c = .slice (some ⟨gb, 0, none⟩) ys.length cap ∧ w.heap.size ≤ gb ∧ w6.heap[gb]? = some (.cells cur 37 (0, 0)) ∧ ys.length ≤ cap ∧ cap ≤ maxLen ∧ cur.size = cap * 2 ∧ cur.toList.take (ys.length * 2) = ys.flatMap debtCells := by
            rcases Hown6.out.2 with ⟨_, h0⟩ | ⟨gb, cap, cur, h⟩
            · omega
            · exact ⟨gb, cap, cur, h⟩
          injection hv6 with e1 e2 e3
          subst e1 e3
          have hst : Starts w6 gb 37 (c * 2) [] := ⟨cur, hh6, hz6, by simp⟩
          obtain ⟨u0, q0⟩ := hst.there (i := j * 2) (by omega)
          obtain ⟨u1, q1⟩ := hst.there (i := j * 2 + 1) (by omega)
          have f0 := hst.free (j * 2)
          have f1 := hst.free (j * 2 + 1)
          have Hb6 := Lib.hid hb6
          clear hst hh6 hz6 ht6 e2 hm6
          have jj : (0 : Int) ≤ (j : Int) := by omega
          go_wp2
          go_ret
          refine ⟨_, ys.set j ⟨x1, x2⟩, q + 4, rfl, ?_, by simpa using Hfin.out.1, ?_, Hfin.out.2.1, ?_, ?_⟩
          · have := own_store debtCells 2 (fun _ => rfl) (by omega) (x := ⟨x1, x2⟩) Hown6.out (show j < ys.length by omega)
            unfold OwnDebts
            rw [List.length_set]
            exact this
          · intro b hb
            rcases List.mem_or_eq_of_mem_set hb with h | h
            · exact Hsm.out b h
            · subst h; unfold debtSmall; dsimp only; omega
          · exact (hr6.below ((Below.refl (g + 1) _).setCell (p := ⟨gb, j * 2, none⟩) (by show g + 1 ≤ gb; omega) _)).below ((Below.refl (g + 1) _).setCell (p := ⟨gb, j * 2 + 1, none⟩) (by show g + 1 ≤ gb; omega) _)
          · exact grown_setCell (grown_setCell Hg6.out (p := ⟨gb, j * 2, none⟩) (.inr (by show w.heap.size ≤ gb; omega)) _) (p := ⟨gb, j * 2 + 1, none⟩) (.inr (by show w.heap.size ≤ gb; omega)) _
        · have ha' : (a1 == 0) = false := by simpa using ha
          go_wp2
          go_ret
          exact ⟨_, ys, q + 1, rfl, Hown3.out, Hfin.out.1, Hsm.out, Hfin.out.2.2.1, hr3, Hg3.out⟩
      · have hl1 : decide ((0 : Int) < (ys.length : Int)) = false := by rw [decide_eq_false_iff_not]; omega
        go_wp2
        go_ret
        exact ⟨_, ys, q, rfl, Hown.out, Hfin.out.1, Hsm.out, Hfin.out.2.2.2, hrd, Hg.out⟩


def DrawsDebts (w : World) (e : Ending) (w' : World) : Prop :=
  ∃ (v : Value) (ys : List Fares.Debt), e = .returned v ∧ OwnDebts w' w.heap.size v ys ∧ ys.length ≤ 8 ∧ (∀ b ∈ ys, debtSmall b) ∧ Below w.heap.size w w'
def DrawsDebtsInt (lo hi : Int) (w : World) (e : Ending) (w' : World) : Prop :=
  ∃ (v : Value) (ys : List Fares.Debt) (m : Int), e = .returned (.tuple #[v, .int .i64 m]) ∧ OwnDebts w' w.heap.size v ys ∧ ys.length ≤ 8 ∧ (∀ b ∈ ys, debtSmall b) ∧ lo ≤ m ∧ m ≤ hi ∧ Below w.heap.size w w'
set_option maxRecDepth 100000 in
set_option maxHeartbeats 1000000 in
theorem drawValidDebts_any (A : Option Addr) (n c : Nat) (w : World) (h : Bytes w w.heap.size A n c) : Calls Try.prog 18 #[.slice A n c] w (DrawsDebts w) := by
  go_enter Try.func18, Try.ntmps18
  go_wp2_with fail
  refine (newReader_any A n c w h).mono ?_
  rintro e w1 ⟨rfl, hr1, hb1, hz1⟩
  have HZ := Lib.hid hz1; clear hz1
  have hs1 : w.heap.size < w1.heap.size := hr1.lt
  go_wp2_with fail
  refine (anyDebts_any w.heap.size 0 w1 hr1 (by omega)).mono ?_
  rintro e w2 ⟨v, ys, q1, rfl, hown2, hlen, hsm, hq1, hr2, hg2⟩
  have Hsm := Lib.hid hsm; clear hsm
  have Hown2 := Lib.hid (OwnDebts.base hown2 (Nat.le_of_lt hs1)); clear hown2
  have Hb2 := Lib.hid (hb1.trans (below_of_grown hg2 hb1.size (Nat.le_refl _))); clear hg2 hb1 hr1
  go_wp2
  go_ret
  exact ⟨_, ys, rfl, Hown2.out, hlen, Hsm.out, Hb2.out⟩
set_option maxRecDepth 100000 in
set_option maxHeartbeats 1000000 in
theorem drawDebtOf_any (A : Option Addr) (n c : Nat) (w : World) (h : Bytes w w.heap.size A n c) : Calls Try.prog 21 #[.slice A n c] w (DrawsDebts w) := by
  go_enter Try.func21, Try.ntmps21
  go_wp2_with fail
  refine (newReader_any A n c w h).mono ?_
  rintro e w1 ⟨rfl, hr1, hb1, hz1⟩
  have HZ := Lib.hid hz1; clear hz1
  have hs1 : w.heap.size < w1.heap.size := hr1.lt
  go_wp2_with fail
  refine (anyDebts_any w.heap.size 0 w1 hr1 (by omega)).mono ?_
  rintro e w2 ⟨v, ys, q1, rfl, hown2, hlen, hsm, hq1, hr2, hg2⟩
  have Hsm := Lib.hid hsm; clear hsm
  have Hown2 := Lib.hid (OwnDebts.base hown2 (Nat.le_of_lt hs1)); clear hown2
  have Hb2 := Lib.hid (hb1.trans (below_of_grown hg2 hb1.size (Nat.le_refl _))); clear hg2 hb1 hr1
  go_wp2
  go_ret
  exact ⟨_, ys, rfl, Hown2.out, hlen, Hsm.out, Hb2.out⟩
set_option maxRecDepth 100000 in
set_option maxHeartbeats 1000000 in
theorem drawPayDebts_any (A : Option Addr) (n c : Nat) (w : World) (h : Bytes w w.heap.size A n c) : Calls Try.prog 28 #[.slice A n c] w (DrawsDebtsInt (-1) 1000000 w) := by
  go_enter Try.func28, Try.ntmps28
  go_wp2_with fail
  refine (newReader_any A n c w h).mono ?_
  rintro e w1 ⟨rfl, hr1, hb1, hz1⟩
  have HZ := Lib.hid hz1; clear hz1
  have hs1 : w.heap.size < w1.heap.size := hr1.lt
  go_wp2_with fail
  refine (anyDebts_any w.heap.size 0 w1 hr1 (by omega)).mono ?_
  rintro e w2 ⟨v, ys, q1, rfl, hown2, hlen, hsm, hq1, hr2, hg2⟩
  have Hgt : Hid (∀ j, v.ownBlock = some j → w.heap.size < j) := fun j hj => Nat.lt_of_lt_of_le hs1 (World.ownsRow.lt hown2 j hj).1
  have hap : v.ownBlock = none ∨ v.ownBlock ≠ some w.heap.size := apart_of (fun j hj e => by have := Hgt.out j hj; injection e with e; omega)
  have Hap := Lib.hid hap; clear hap
  have Hsm := Lib.hid hsm; clear hsm
  have Hown2 := Lib.hid (OwnDebts.base hown2 (Nat.le_of_lt hs1)); clear hown2
  have Hb2 := Lib.hid (hb1.trans (below_of_grown hg2 hb1.size (Nat.le_refl _))); clear hg2 hb1 hr1
  go_wp2_with fail
  refine (one_in w.heap.size q1 w2.heap.size [250, 200, 500, 0, 1, 1000000, -1, 1200] (-1) 1000000 8 8 _ _ (hr2.alloc _) (by omega) (Blk.new w2 _ _) (by have := hr2.lt; omega) rfl rfl (by omega) (by omega) (by decide)).mono ?_
  rintro e w3 ⟨m, rfl, m0, m1, hr3, hg3⟩
  have Hown3 := Lib.hid (OwnDebts.kept (World.ownsRow.alloc Hown2.out _) hg3 Hap.out)
  have Hb3 := Lib.hid ((Hb2.out.trans ((Below.refl w.heap.size w2).alloc Hb2.out.size _)).trans (below_of_grown hg3 (by have := Hb2.out.size; simp; omega) (Nat.le_refl _))); clear hg3 hr2
  go_wp2
  go_ret2
  exact ⟨v, ys, m, rfl, Hown3.out, hlen, Hsm.out, by omega, by omega, Hb3.out⟩
set_option maxRecDepth 100000 in
set_option maxHeartbeats 1000000 in
theorem drawOldDebts_any (A : Option Addr) (n c : Nat) (w : World) (h : Bytes w w.heap.size A n c) : Calls Try.prog 31 #[.slice A n c] w (DrawsDebtsInt (-1) 19 w) := by
  go_enter Try.func31, Try.ntmps31
  go_wp2_with fail
  refine (newReader_any A n c w h).mono ?_
  rintro e w1 ⟨rfl, hr1, hb1, hz1⟩
  have HZ := Lib.hid hz1; clear hz1
  have hs1 : w.heap.size < w1.heap.size := hr1.lt
  go_wp2_with fail
  refine (anyDebts_any w.heap.size 0 w1 hr1 (by omega)).mono ?_
  rintro e w2 ⟨v, ys, q1, rfl, hown2, hlen, hsm, hq1, hr2, hg2⟩
  have Hgt : Hid (∀ j, v.ownBlock = some j → w.heap.size < j) := fun j hj => Nat.lt_of_lt_of_le hs1 (World.ownsRow.lt hown2 j hj).1
  have hap : v.ownBlock = none ∨ v.ownBlock ≠ some w.heap.size := apart_of (fun j hj e => by have := Hgt.out j hj; injection e with e; omega)
  have Hap := Lib.hid hap; clear hap
  have Hsm := Lib.hid hsm; clear hsm
  have Hown2 := Lib.hid (OwnDebts.base hown2 (Nat.le_of_lt hs1)); clear hown2
  have Hb2 := Lib.hid (hb1.trans (below_of_grown hg2 hb1.size (Nat.le_refl _))); clear hg2 hb1 hr1
  go_wp2_with fail
  refine (pick_any w.heap.size q1 20 _ hr2 (by omega)).mono ?_
  rintro e w3 ⟨m, rfl, m0, m1, hr3, hg3⟩
  have m2 := m1 (by omega)
  clear m1
  have Hown3 := Lib.hid (OwnDebts.kept Hown2.out hg3 Hap.out)
  have Hb3 := Lib.hid (Hb2.out.trans (below_of_grown hg3 Hb2.out.size (Nat.le_refl _))); clear hg3 hr2
  go_wp2
  go_ret2
  exact ⟨v, ys, m - 1, rfl, Hown3.out, hlen, Hsm.out, by omega, by omega, Hb3.out⟩
end Go.Proofs.Ytpdddadplagcpaa
