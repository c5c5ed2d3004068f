/-
  Drawn bands: at most four, their numbers in a small range; only new memory is laid.
-/
import Derived.Test.YtgmphbkcblkmbaaStBand
import Derived.Test.YtgmphbkcblkmbaaDrawTime
import Derived.Test.YtgmphbkcblkmbaaDrawKit
import Derived.Test.YtgmphbkcblkmbaaReg
import Derived.Deep.AppendLies
set_option linter.unusedSimpArgs false
namespace Go.Proofs.Ytgmphbkcblkmbaa
open Go.RowKit Go.Deep
set_option linter.unusedVariables false

def bandSmall (b : Fares.Band) : Prop := -1 ≤ b.lo ∧ b.lo ≤ 20000 ∧ 0 ≤ b.hi ∧ b.hi ≤ 20000
def SomeBands (g p : Nat) (w : World) (e : Ending) (w' : World) : Prop :=
  ∃ (v : Value) (ys : List Fares.Band) (q : Nat), e = .returned v ∧ OwnBands w' w.heap.size v ys ∧ ys.length ≤ 4 ∧ (∀ b ∈ ys, bandSmall b) ∧ q ≤ p + 20 ∧ Rd w' g q ∧ w.grownBy w' (some g)

theorem info_band2 : (Try.prog.info? 86).map (fun i => (i.zero, i.size, i.bytes)) = some (some (.agg #[.int .i64 0, .int .i64 0]), 2, 16) := by kernel_rfl

set_option maxRecDepth 100000 in
set_option maxHeartbeats 2000000 in
theorem anyBands_any (g p : Nat) (w : World) (hr : Rd w g p) (hp : p ≤ 50000) :
    Calls Try.prog 113 #[.pointer (some ⟨g, 0, none⟩)] w (SomeBands g p w) := by
  have hgw := hr.lt
  obtain ⟨ti, hi0, hz0, hz1, hz2⟩ := info_parts info_band2
  have HI := Lib.hid hi0; clear hi0
  have HZ0 := Lib.hid hz0; clear hz0
  have HZ1 := Lib.hid hz1; clear hz1
  have HZ2 := Lib.hid hz2; clear hz2
  go_enter Try.func113, Try.ntmps113
  go_wp2_with fail
  refine (pick_any g p 8 _ (hr.alloc _) (by omega)).mono ?_
  rintro e w1 ⟨k, rfl, k0, k1, hr1, hg1⟩
  have k2 := k1 (by omega)
  clear k1
  have Hown1 := Lib.hid (World.ownsRow.kept (World.ownsRow_lit (base := w.heap.size) (e := 86) (size := 2) w #[] 0 (Nat.le_refl _) (by unfold maxLen; omega) rfl) hg1 (apart_of (fun j hj e => by simp [Value.ownBlock] at hj; injection e with e; omega)))
  have Hg1 := Lib.hid (grown_trans (grown_alloc (grown_refl w (some g)) _) hg1)
  clear hg1
  go_wp2_with fail
  refine (one_in g (p + 1) w1.heap.size [1, 2, 1, 0, 3, 4] 0 4 6 6 _ _ (hr1.alloc _) (by omega) (Blk.new w1 _ _) (by have := hr1.lt; omega) rfl rfl (by omega) (by omega) (by decide)).mono ?_
  rintro e w2 ⟨n, rfl, n0, n1, hr2, hg2⟩
  have Hown2 := Lib.hid (World.ownsRow.kept (World.ownsRow.alloc Hown1.out _) hg2 (apart_of (fun j hj e => by simp [Value.ownBlock] at hj; injection e with e; omega)))
  have Hg2 := Lib.hid (grown_trans (grown_alloc Hg1.out _) hg2)
  clear hg2
  go_wp2
  obtain ⟨kn, rfl⟩ := Int.eq_ofNat_of_zero_le n0
  go_loopw [3, 4, 5] (fun v a m wr => ∃ (ys : List Fares.Band) (k : Nat) (t0 : Int) (q : Nat), OwnBands wr w.heap.size v ys ∧ ys.length + k ≤ 4 ∧ a = .int .i64 t0 ∧ m = .int .i64 k ∧ 0 ≤ t0 ∧ t0 ≤ 480 + 600 * ys.length ∧ (∀ b ∈ ys, bandSmall b) ∧ q ≤ p + 2 + 2 * ys.length ∧ Rd wr g q ∧ w.grownBy wr (some g)) (fun _ _ m _ => (intOf m).toNat)
  case atStart => exact ⟨[], kn, k * 60, p + 2, Hown2.out, by simp; omega, rfl, rfl, by omega, by simp; omega, (fun b hb => by cases hb), by simp, hr2, Hg2.out⟩
  case round =>
    obtain ⟨ys, k, t0, q, hown, hk, rfl, rfl, t1, t2, hsm, hq, hrd, hg⟩ := hrel
    have Hsm := Lib.hid hsm; clear hsm
    have Hown := Lib.hid hown; clear hown
    have Hg := Lib.hid hg; clear hg
    by_cases hk0 : 0 < k
    · have hk1 : (0 : Int) < (k : Int) := by omega
      go_wp2_with fail
      refine (pick_any g q 8 _ hrd (by omega)).mono ?_
      rintro e w3 ⟨a1, rfl, a10, a11, hr3, hg3⟩
      have a12 := a11 (by omega)
      clear a11 hrd
      have hz3 := hg3.size
      have Hown3 := Lib.hid (World.ownsRow.kept Hown.out hg3 (apart_of (fun j hj e => by have := (World.ownsRow.lt Hown.out j hj).1; injection e with e; omega)))
      have Hg3 := Lib.hid (grown_trans Hg.out hg3)
      have hgs := Hg.out.size
      clear hg3
      go_wp2_with (at_builtin; refine wpList_append_lies _ rfl (.tmp 24) (.tmp 28) _ rfl w.heap.size 86 ti _ 2 16 Try.underlying25 HI.out HZ0.out HZ1.out HZ2.out rfl (by omega) _ _ _ rfl (World.ownsRow.alloc Hown3.out _) ⟨w3.heap.size, 0, none⟩ 1 1 (bandCells ⟨t0, t0 + 30 + a1 * 30⟩) rfl rfl ?c1 ?c2 (by omega) ?c3 ?c4 ?c5 _ rfl ?_)
      case c1 => exact World.news_of_block (heap_alloc_new w3 (.cells #[.int .i64 t0, .int .i64 (t0 + 30 + a1 * 30)] 86))
      case c2 => simp [bandCells, Value.oneCell']
      case c3 => unfold maxLen; omega
      case c4 => omega
      case c5 => simp; omega
      intro gb cap w4 hown4 hgrow hat hlt4
      have Hown4 := Lib.hid (OwnBands.snoc hown4)
      have hr4 : Rd w4 g (q + 1) := (hr3.alloc _).grown_new hgrow (fun r hr => by have := (World.ownsRow.lt Hown3.out r hr).1; omega)
      have Hg4 := Lib.hid (grown_new (grown_alloc Hg3.out _) hgrow (fun r hr => (World.ownsRow.lt Hown3.out r hr).1))
      clear hown4 hgrow hat hr3
      go_wp2_with fail
      refine (pick_any g (q + 1) 5 _ hr4 (by omega)).mono ?_
      rintro e w5 ⟨a2, rfl, a20, a21, hr5, hg5⟩
      have a22 := a21 (by omega)
      clear a21 hr4
      have Hown5 := Lib.hid (OwnBands.kept Hown4.out hg5 (apart_of (fun j hj e => by have := (World.ownsRow.lt Hown4.out j hj).1; injection e with e; omega)))
      have Hg5 := Lib.hid (grown_trans Hg4.out hg5)
      clear hg5
      obtain ⟨k', rfl⟩ : ∃ k', k = k' + 1 := ⟨k - 1, by omega⟩
      go_wp2
      go_roundw
      case rel => exact ⟨ys ++ [⟨t0, t0 + 30 + a1 * 30⟩], k', t0 + 30 + a1 * 30 + a2 * 60, q + 1 + 1, Hown5.out, by simp; omega, by go_num, by go_num, by omega, by simp; omega, (fun b hb => by
        rcases List.mem_append.1 hb with h | h
        · exact Hsm.out b h
        · simp at h; subst h; unfold bandSmall; dsimp only; omega), by simp; omega, hr5, Hg5.out⟩
      case measure => simp [intOf]
    · have hk1 : decide ((0 : Int) < (k : Int)) = false := by simp; omega
      have Hfin := Lib.hid (show ys.length ≤ 4 ∧ q + 4 ≤ p + 20 ∧ q + 1 ≤ p + 20 ∧ q ≤ p + 20 by omega)
      obtain ⟨A, c, rfl, hc1, hc2, hrs⟩ := Hown.out.form
      have Hrs := Lib.hid hrs; clear hrs
      by_cases hl0 : 0 < ys.length
      · have hl1 : (0 : Int) < (ys.length : Int) := by omega
        have hlen := Hown.out.1
        clear hlen
        go_wp2_with fail
        refine (pick_any g q 20 _ hrd (by omega)).mono ?_
        rintro e w3 ⟨a1, rfl, a10, a11, hr3, hg3⟩
        have a12 := a11 (by omega)
        clear a11 hrd
        have Hown3 := Lib.hid (OwnBands.kept Hown.out hg3 (apart_of (fun j hj e => by have := (World.ownsRow.lt Hown.out j hj).1; injection e with e; omega)))
        have Hg3 := Lib.hid (grown_trans Hg.out hg3)
        clear hg3
        by_cases ha : a1 = 0
        · subst ha
          go_wp2_with fail
          refine (pick_any g (q + 1) (ys.length : Int) _ hr3 (by omega)).mono ?_
          rintro e w4 ⟨j1, rfl, j10, j11, hr4, hg4⟩
          have j12 := j11 (by omega)
          clear j11 hr3
          obtain ⟨j, rfl⟩ := Int.eq_ofNat_of_zero_le j10
          have Hown4 := Lib.hid (OwnBands.kept Hown3.out hg4 (apart_of (fun j hj e => by have := (World.ownsRow.lt Hown3.out j hj).1; injection e with e; omega)))
          have Hg4 := Lib.hid (grown_trans Hg3.out hg4)
          clear hg4
          go_wp2_with fail
          refine (one_in g (q + 1 + 1) w4.heap.size [-1, 1439, 300] (-1) 1439 3 3 _ _ (hr4.alloc _) (by omega) (Blk.new w4 _ _) (by have := hr4.lt; omega) rfl rfl (by omega) (by omega) (by decide)).mono ?_
          rintro e w5 ⟨x1, rfl, x10, x11, hr5, hg5⟩
          clear hr4
          have Hown5 := Lib.hid (OwnBands.kept (World.ownsRow.alloc Hown4.out _) hg5 (apart_of (fun j hj e => by have := (World.ownsRow.lt Hown4.out j hj).1; injection e with e; omega)))
          have Hg5 := Lib.hid (grown_trans (grown_alloc Hg4.out _) hg5)
          clear hg5
          go_wp2_with fail
          refine (one_in g (q + 1 + 1 + 1) w5.heap.size [1440, 1441, 300] 300 1441 3 3 _ _ (hr5.alloc _) (by omega) (Blk.new w5 _ _) (by have := hr5.lt; omega) rfl rfl (by omega) (by omega) (by decide)).mono ?_
          rintro e w6 ⟨x2, rfl, x20, x21, hr6, hg6⟩
          clear hr5
          have Hown6 := Lib.hid (OwnBands.kept (World.ownsRow.alloc Hown5.out _) hg6 (apart_of (fun j hj e => by have := (World.ownsRow.lt Hown5.out j hj).1; injection e with e; omega)))
          have Hg6 := Lib.hid (grown_trans (grown_alloc Hg5.out _) hg6)
          clear hg6
          obtain ⟨gb, cap, cur, hv6, hb6, hh6, hn6, hm6, hz6, ht6⟩ : ∃ (gb cap : Nat) (cur : Array Value), Value.slice A ys.length c = .slice (some ⟨gb, 0, none⟩) ys.length cap ∧ w.heap.size ≤ gb ∧ w6.heap[gb]? = some (.cells cur 86 (0, 0)) ∧ ys.length ≤ cap ∧ cap ≤ maxLen ∧ cur.size = cap * 2 ∧ cur.toList.take (ys.length * 2) = ys.flatMap bandCells := by
            rcases Hown6.out.2 with ⟨_, h0⟩ | ⟨gb, cap, cur, h⟩
            · omega
            · exact ⟨gb, cap, cur, h⟩
          injection hv6 with e1 e2 e3
          subst e1 e3
          have hst : Starts w6 gb 86 (c * 2) [] := ⟨cur, hh6, hz6, by simp⟩
          obtain ⟨u0, q0⟩ := hst.there (i := j * 2) (by omega)
          obtain ⟨u1, q1⟩ := hst.there (i := j * 2 + 1) (by omega)
          have f0 := hst.free (j * 2)
          have f1 := hst.free (j * 2 + 1)
          have Hb6 := Lib.hid hb6
          clear hst hh6 hz6 ht6 e2 hm6
          have jj : (0 : Int) ≤ (j : Int) := by omega
          go_wp2
          go_ret
          refine ⟨_, ys.set j ⟨x1, x2⟩, q + 4, rfl, ?_, by simpa using Hfin.out.1, ?_, Hfin.out.2.1, ?_, ?_⟩
          · have := own_store bandCells 2 (fun _ => rfl) (by omega) (x := ⟨x1, x2⟩) Hown6.out (show j < ys.length by omega)
            unfold OwnBands
            rw [List.length_set]
            exact this
          · intro b hb
            rcases List.mem_or_eq_of_mem_set hb with h | h
            · exact Hsm.out b h
            · subst h; unfold bandSmall; dsimp only; omega
          · exact (hr6.below ((Below.refl (g + 1) _).setCell (p := ⟨gb, j * 2, none⟩) (by show g + 1 ≤ gb; omega) _)).below ((Below.refl (g + 1) _).setCell (p := ⟨gb, j * 2 + 1, none⟩) (by show g + 1 ≤ gb; omega) _)
          · exact grown_setCell (grown_setCell Hg6.out (p := ⟨gb, j * 2, none⟩) (.inr (by show w.heap.size ≤ gb; omega)) _) (p := ⟨gb, j * 2 + 1, none⟩) (.inr (by show w.heap.size ≤ gb; omega)) _
        · have ha' : (a1 == 0) = false := by simpa using ha
          go_wp2
          go_ret
          exact ⟨_, ys, q + 1, rfl, Hown3.out, Hfin.out.1, Hsm.out, Hfin.out.2.2.1, hr3, Hg3.out⟩
      · have hl1 : decide ((0 : Int) < (ys.length : Int)) = false := by rw [decide_eq_false_iff_not]; omega
        go_wp2
        go_ret
        exact ⟨_, ys, q, rfl, Hown.out, Hfin.out.1, Hsm.out, Hfin.out.2.2.2, hrd, Hg.out⟩
end Go.Proofs.Ytgmphbkcblkmbaa
