/-
  What chapter 17's laws draw: days that were paid or not, with a first amount and a step; an amount owed, a trust and a price.
-/
import Derived.Test.YtomjnepchffkgaaStBool
import Derived.Test.YtomjnepchffkgaaCarry
import Derived.Test.YtomjnepchffkgaaLiftBytes
import Derived.Deep.AppendLies
set_option linter.unusedSimpArgs false
namespace Go.Proofs.Ytomjnepchffkgaa
open Go.RowKit Go.Deep
set_option linter.unusedVariables false

theorem info_bool2 : (Try.prog.info? 4).map (fun i => (i.zero, i.size, i.bytes)) = some (some (.bool false), 1, 1) := by kernel_rfl
def DrawsTrust (w : World) (e : Ending) (w' : World) : Prop :=
  ∃ (v : Value) (ys : List Bool) (f s : Int), e = .returned (.tuple #[v, .int .i64 f, .int .i64 s]) ∧ OwnBools w' w.heap.size v ys ∧ ys.length ≤ 31 ∧ -1 ≤ f ∧ f ≤ 5001 ∧ -1 ≤ s ∧ s ≤ 5001 ∧ Below w.heap.size w w'
set_option maxRecDepth 100000 in
set_option maxHeartbeats 2000000 in
theorem drawTrustOf_any (A : Option Addr) (n c : Nat) (w : World) (h : Bytes w w.heap.size A n c) : Calls Try.prog 11 #[.slice A n c] w (DrawsTrust w) := by
  obtain ⟨ti, hi0, hz0, hz1, hz2⟩ := info_parts info_bool2
  have HIBool := Lib.hid hi0; clear hi0
  have HZ0Bool := Lib.hid hz0; clear hz0
  have HZ1Bool := Lib.hid hz1; clear hz1
  have HZ2Bool := Lib.hid hz2; clear hz2
  go_enter Try.func11, Try.ntmps11
  go_wp2_with fail
  refine (newReader_any A n c w h).mono ?_
  rintro e w1 ⟨rfl, hr1, hb1, hz1⟩
  have Hr1 := Lib.hid hr1; clear hr1
  have HB1 := Lib.hid hb1; clear hb1
  have HZ := Lib.hid hz1; clear hz1
  have hs1 : w.heap.size < w1.heap.size := Hr1.out.lt
  have Hn1 := Lib.hid (World.ownsRow_lit (base := w.heap.size + 1) (e := 4) (size := 1) w1 #[] 0 (by omega) (by unfold maxLen; omega) rfl)
  have Hr1a := Lib.hid (Rd.alloc Hr1.out (.cells #[] 4)); clear Hr1
  have HB1a := Lib.hid (show Below w.heap.size w (w1.alloc (.cells #[] 4)) from bA HB1.out _); clear HB1
  have hgl1 : w.heap.size < (w1.alloc (.cells #[] 4)).heap.size := by simp; omega
  go_wp2_with fail
  refine (one_in w.heap.size (0) _ [4, 8, 2, 0, 30, 31] (0) 31 6 6 _ _ (Rd.alloc Hr1a.out _) (by omega) (Blk.new' (by simp)) (by have := (Hr1a.out).lt; (try simp); omega) rfl rfl (by omega) (by omega) (by decide)).mono ?_
  rintro e w2 ⟨n, rfl, n0, n1, hr2, hg2⟩
  have HB2 := Lib.hid (Below.trans (bA HB1a.out _) (below_of_grown hg2 (Below.size (bA HB1a.out _)) (by omega)))
  clear HB1a
  have Hown2 := Lib.hid (World.ownsRow.kept (World.ownsRow.alloc Hn1.out _) hg2 (apart_of (fun j hj e => by have := (World.ownsRow.lt Hn1.out j hj).1; injection e with e; omega)))
  clear Hn1
  clear hg2
  clear Hr1a
  have Hrd2 := Lib.hid hr2; clear hr2
  have hgl2 : w.heap.size < w2.heap.size := (Hrd2.out).lt
  obtain ⟨kn, rfl⟩ := Int.eq_ofNat_of_zero_le (show 0 ≤ n by omega)
  go_wp2
  go_loopw [6, 7] (fun v m wr => ∃ (ys : List Bool) (k q : Nat), OwnBools wr (w.heap.size + 1) v ys ∧ ys.length + k ≤ 31 ∧ m = .int .i64 k ∧ q + 20 * k ≤ 1000 ∧ Rd wr w.heap.size q ∧ Below w.heap.size w wr) (fun _ m _ => (intOf m).toNat)
  case atStart => exact ⟨[], kn, 0 + 1, Hown2.out, by simp; omega, rfl, by omega, Hrd2.out, HB2.out⟩
  case round =>
    obtain ⟨ys, k, q, hown, hlen, rfl, hq, hrd, hb⟩ := hrel
    have hgw := hrd.lt
    have Hr := Lib.hid hrd; clear hrd
    have HB := Lib.hid hb; clear hb
    obtain ⟨Av, cv, rfl, hcv1, hcv2, hrs⟩ := hown.form
    clear hrs
    unfold maxLen at hcv2
    have Hown := Lib.hid hown; clear hown
    by_cases hk0 : 0 < k
    · have hk1 : (0 : Int) < (k : Int) := by omega
      obtain ⟨k', rfl⟩ : ∃ k', k = k' + 1 := ⟨k - 1, by omega⟩
      go_wp2_with fail
      refine (pick_any w.heap.size (q) (5) _ Hr.out (by omega)).mono ?_
      rintro e w3 ⟨u, rfl, u0, u1, hr3, hg3⟩
      have u2 := u1 (by omega)
      clear u1
      have HB3 := Lib.hid (Below.trans HB.out (below_of_grown hg3 (Below.size HB.out) (by omega)))
      clear HB
      have Hown3 := Lib.hid (World.ownsRow.kept Hown.out hg3 (apart_of (fun j hj e => by have := (World.ownsRow.lt Hown.out j hj).1; injection e with e; omega)))
      clear Hown
      clear hg3
      clear Hr
      have Hrd3 := Lib.hid hr3; clear hr3
      have hgl3 : w.heap.size < w3.heap.size := (Hrd3.out).lt
      obtain ⟨p, hp⟩ : ∃ p, decide (0 < u) = p := ⟨_, rfl⟩
      have hsz4 := (HB3.out).size
      go_wp2_with (at_builtin; refine wpList_append_lies _ rfl (.tmp 19) (.tmp 23) _ rfl (w.heap.size + 1) 4 ti _ 1 1 Try.underlying23 HIBool.out HZ0Bool.out HZ1Bool.out HZ2Bool.out rfl (by omega) _ _ _ rfl (World.ownsRow.alloc Hown3.out _) ⟨w3.heap.size, 0, none⟩ 1 1 (boolCells p) rfl rfl ?c1 ?c2 (by omega) ?c3 ?c4 ?c5 _ rfl ?_)
      case c1 => exact World.news_of_block (Blk.new' (t := 4) (cs := #[.bool p]) (by simp))
      case c2 => simp [boolCells, Value.oneCell']
      case c3 => unfold maxLen; omega
      case c4 => omega
      case c5 => first | omega | (simp; omega) | simp
      intro gb4 cap4 w4 hown4 hgrow4 hat4 hlt4
      have HX4 := Lib.hid (OwnBools.snoc hown4); clear hown4 hat4
      have Hrd4 := Lib.hid (Rd.grown_new (Rd.alloc Hrd3.out _) hgrow4 (fun r hr => by have := (World.ownsRow.lt Hown3.out r hr).1; omega))
      clear Hrd3
      have HB4 := Lib.hid (Below.grown (bA HB3.out _) hgrow4 (Below.size (bA HB3.out _)) (fun r hr => Nat.le_of_lt (World.ownsRow.lt Hown3.out r hr).1))
      clear HB3
      clear hgrow4
      clear Hown3
      go_wp2
      go_roundw
      case rel => exact ⟨ys ++ [p], k', _, HX4.out, by simp; omega, by go_num, by omega, Hrd4.out, HB4.out⟩
      case measure => simp [intOf]
    · have hk1 : decide ((0 : Int) < (k : Int)) = false := by simp; omega
      go_wp2_with fail
      refine (one_in w.heap.size (q) _ [300, 0, 5000, 5001, -1, 1000] (-1) 5001 6 6 _ _ (Rd.alloc Hr.out _) (by omega) (Blk.new' (by simp)) (by have := (Hr.out).lt; (try simp); omega) rfl rfl (by omega) (by omega) (by decide)).mono ?_
      rintro e w3 ⟨f, rfl, f0, f1, hr3, hg3⟩
      have HB3 := Lib.hid (Below.trans (bA HB.out _) (below_of_grown hg3 (Below.size (bA HB.out _)) (by omega)))
      clear HB
      have Hown3 := Lib.hid (World.ownsRow.kept (World.ownsRow.alloc Hown.out _) hg3 (apart_of (fun j hj e => by have := (World.ownsRow.lt Hown.out j hj).1; injection e with e; omega)))
      clear Hown
      clear hg3
      clear Hr
      have Hrd3 := Lib.hid hr3; clear hr3
      have hgl3 : w.heap.size < w3.heap.size := (Hrd3.out).lt
      go_wp2_with fail
      refine (one_in w.heap.size (q + 1) _ [500, 100, 0, 5000, 5001, -1] (-1) 5001 6 6 _ _ (Rd.alloc Hrd3.out _) (by omega) (Blk.new' (by simp)) (by have := (Hrd3.out).lt; (try simp); omega) rfl rfl (by omega) (by omega) (by decide)).mono ?_
      rintro e w4 ⟨t, rfl, t0, t1, hr4, hg4⟩
      have HB4 := Lib.hid (Below.trans (bA HB3.out _) (below_of_grown hg4 (Below.size (bA HB3.out _)) (by omega)))
      clear HB3
      have Hown4 := Lib.hid (World.ownsRow.kept (World.ownsRow.alloc Hown3.out _) hg4 (apart_of (fun j hj e => by have := (World.ownsRow.lt Hown3.out j hj).1; injection e with e; omega)))
      clear Hown3
      clear hg4
      clear Hrd3
      have Hrd4 := Lib.hid hr4; clear hr4
      have hgl4 : w.heap.size < w4.heap.size := (Hrd4.out).lt
      go_wp2_with fail
      go_ret3
      exact ⟨_, ys, f, t, rfl, ownBase Hown4.out (by omega), by omega, f0, f1, t0, t1, HB4.out⟩
set_option maxHeartbeats 1000000 in
theorem anyAmount_any (g q : Nat) (w : World) (hr : Rd w g q) (hq : q ≤ 1000) :
    Calls Try.prog 29 #[.pointer (some ⟨g, 0, none⟩)] w fun e w' => ∃ x : Int, e = .returned (.int .i64 x) ∧ -1 ≤ x ∧ x ≤ 100001 ∧ Rd w' g (q + 1) ∧ w.grownBy w' (some g) := by
  go_enter Try.func29, Try.ntmps29
  go_wp2_with fail
  refine (one_in g q _ [0, 300, 1000, 5000, 100000, 100001, -1, 700] (-1) 100001 8 8 _ _ (Rd.alloc hr _) (by omega) (Blk.new' (by simp)) (by have := hr.lt; (try simp); omega) rfl rfl (by omega) (by omega) (by decide)).mono ?_
  rintro e w2 ⟨n, rfl, n0, n1, hr2, hg2⟩
  go_wp2
  go_ret
  exact ⟨n, rfl, n0, n1, hr2, grown_trans (grown_alloc (grown_refl _ _) _) hg2⟩
set_option maxHeartbeats 2000000 in
theorem drawMayRide_any (A : Option Addr) (n c : Nat) (w : World) (h : Bytes w w.heap.size A n c) :
    Calls Try.prog 14 #[.slice A n c] w fun e w' => ∃ o t p : Int, e = .returned (.tuple #[.int .i64 o, .int .i64 t, .int .i64 p]) ∧ -1 ≤ o ∧ o ≤ 100001 ∧ -1 ≤ t ∧ t ≤ 100001 ∧ -1 ≤ p ∧ p ≤ 4001 ∧ Below w.heap.size w w' := by
  go_enter Try.func14, Try.ntmps14
  go_wp2_with fail
  refine (newReader_any A n c w h).mono ?_
  rintro e w1 ⟨rfl, hr1, hb1, hz1⟩
  have Hr1 := Lib.hid hr1; clear hr1
  have HB1 := Lib.hid hb1; clear hb1
  have HZ := Lib.hid hz1; clear hz1
  have hs1 : w.heap.size < w1.heap.size := Hr1.out.lt
  have hgl1 : w.heap.size < w1.heap.size := hs1
  go_wp2_with fail
  refine (anyAmount_any w.heap.size (0) _ Hr1.out (by omega)).mono ?_
  rintro e w2 ⟨o, rfl, o0, o1, hr2, hg2⟩
  have HB2 := Lib.hid (Below.trans HB1.out (below_of_grown hg2 (Below.size HB1.out) (by omega)))
  clear HB1
  clear hg2
  clear Hr1
  have Hrd2 := Lib.hid hr2; clear hr2
  have hgl2 : w.heap.size < w2.heap.size := (Hrd2.out).lt
  go_wp2_with fail
  refine (anyAmount_any w.heap.size ((0 + 1)) _ Hrd2.out (by omega)).mono ?_
  rintro e w3 ⟨t, rfl, t0, t1, hr3, hg3⟩
  have HB3 := Lib.hid (Below.trans HB2.out (below_of_grown hg3 (Below.size HB2.out) (by omega)))
  clear HB2
  clear hg3
  clear Hrd2
  have Hrd3 := Lib.hid hr3; clear hr3
  have hgl3 : w.heap.size < w3.heap.size := (Hrd3.out).lt
  go_wp2_with fail
  refine (one_in w.heap.size ((0 + 1 + 1)) _ [300, 700, 0, 4000, 4001, -1] (-1) 4001 6 6 _ _ (Rd.alloc Hrd3.out _) (by omega) (Blk.new' (by simp)) (by have := (Hrd3.out).lt; (try simp); omega) rfl rfl (by omega) (by omega) (by decide)).mono ?_
  rintro e w4 ⟨p, rfl, p0, p1, hr4, hg4⟩
  have HB4 := Lib.hid (Below.trans (bA HB3.out _) (below_of_grown hg4 (Below.size (bA HB3.out _)) (by omega)))
  clear HB3
  clear hg4
  clear Hrd3
  have Hrd4 := Lib.hid hr4; clear hr4
  have hgl4 : w.heap.size < w4.heap.size := (Hrd4.out).lt
  go_wp2_with fail
  go_ret3
  exact ⟨o, t, p, rfl, o0, o1, t0, t1, p0, p1, HB4.out⟩
set_option maxHeartbeats 2000000 in
theorem drawRidesLeft_any (A : Option Addr) (n c : Nat) (w : World) (h : Bytes w w.heap.size A n c) :
    Calls Try.prog 17 #[.slice A n c] w fun e w' => ∃ o t p : Int, e = .returned (.tuple #[.int .i64 o, .int .i64 t, .int .i64 p]) ∧ -1 ≤ o ∧ o ≤ 100001 ∧ -1 ≤ t ∧ t ≤ 100001 ∧ 0 ≤ p ∧ p ≤ 4001 ∧ Below w.heap.size w w' := by
  go_enter Try.func17, Try.ntmps17
  go_wp2_with fail
  refine (newReader_any A n c w h).mono ?_
  rintro e w1 ⟨rfl, hr1, hb1, hz1⟩
  have Hr1 := Lib.hid hr1; clear hr1
  have HB1 := Lib.hid hb1; clear hb1
  have HZ := Lib.hid hz1; clear hz1
  have hs1 : w.heap.size < w1.heap.size := Hr1.out.lt
  have hgl1 : w.heap.size < w1.heap.size := hs1
  go_wp2_with fail
  refine (anyAmount_any w.heap.size (0) _ Hr1.out (by omega)).mono ?_
  rintro e w2 ⟨o, rfl, o0, o1, hr2, hg2⟩
  have HB2 := Lib.hid (Below.trans HB1.out (below_of_grown hg2 (Below.size HB1.out) (by omega)))
  clear HB1
  clear hg2
  clear Hr1
  have Hrd2 := Lib.hid hr2; clear hr2
  have hgl2 : w.heap.size < w2.heap.size := (Hrd2.out).lt
  go_wp2_with fail
  refine (anyAmount_any w.heap.size ((0 + 1)) _ Hrd2.out (by omega)).mono ?_
  rintro e w3 ⟨t, rfl, t0, t1, hr3, hg3⟩
  have HB3 := Lib.hid (Below.trans HB2.out (below_of_grown hg3 (Below.size HB2.out) (by omega)))
  clear HB2
  clear hg3
  clear Hrd2
  have Hrd3 := Lib.hid hr3; clear hr3
  have hgl3 : w.heap.size < w3.heap.size := (Hrd3.out).lt
  go_wp2_with fail
  refine (one_in w.heap.size ((0 + 1 + 1)) _ [300, 700, 1, 4000, 4001, 0] (0) 4001 6 6 _ _ (Rd.alloc Hrd3.out _) (by omega) (Blk.new' (by simp)) (by have := (Hrd3.out).lt; (try simp); omega) rfl rfl (by omega) (by omega) (by decide)).mono ?_
  rintro e w4 ⟨p, rfl, p0, p1, hr4, hg4⟩
  have HB4 := Lib.hid (Below.trans (bA HB3.out _) (below_of_grown hg4 (Below.size (bA HB3.out _)) (by omega)))
  clear HB3
  clear hg4
  clear Hrd3
  have Hrd4 := Lib.hid hr4; clear hr4
  have hgl4 : w.heap.size < w4.heap.size := (Hrd4.out).lt
  go_wp2_with fail
  go_ret3
  exact ⟨o, t, p, rfl, o0, o1, t0, t1, p0, p1, HB4.out⟩
end Go.Proofs.Ytomjnepchffkgaa
