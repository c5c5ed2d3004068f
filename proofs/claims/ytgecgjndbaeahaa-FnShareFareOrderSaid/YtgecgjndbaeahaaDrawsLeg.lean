/-
  What chapter 18's laws draw: legs, one of which may not be valid; an operator, an amount.
-/
import Derived.Test.YtgecgjndbaeahaaStLeg
import Derived.Test.YtgecgjndbaeahaaStInt
import Derived.Test.YtgecgjndbaeahaaCarry
import Derived.Test.YtgecgjndbaeahaaLiftBytes
import Derived.Deep.AppendLies
set_option linter.unusedSimpArgs false
namespace Go.Proofs.Ytgecgjndbaeahaa
open Go.RowKit Go.Deep
set_option linter.unusedVariables false

theorem info_legD : (Try.prog.info? 33).map (fun i => (i.zero, i.size, i.bytes)) = some (some (.agg #[.int .i64 0, .int .i64 0]), 2, 16) := by kernel_rfl
def SomeLegs (g p : Nat) (w : World) (e : Ending) (w' : World) : Prop :=
  ∃ (v : Value) (ys : List Fares.Leg) (q : Nat), e = .returned v ∧ OwnLegs w' w.heap.size v ys ∧ ys.length ≤ 9 ∧ q ≤ p + 60 ∧ Rd w' g q ∧ w.grownBy w' (some g)
set_option maxRecDepth 100000 in
set_option maxHeartbeats 2000000 in
theorem anyLegs_any (g p : Nat) (w : World) (hr : Rd w g p) (hp : p ≤ 1000) : Calls Try.prog 33 #[.pointer (some ⟨g, 0, none⟩)] w (SomeLegs g p w) := by
  obtain ⟨ti, hi0, hz0, hz1, hz2⟩ := info_parts info_legD
  have HILeg := Lib.hid hi0; clear hi0
  have HZ0Leg := Lib.hid hz0; clear hz0
  have HZ1Leg := Lib.hid hz1; clear hz1
  have HZ2Leg := Lib.hid hz2; clear hz2
  have hgw := hr.lt
  go_enter Try.func33, Try.ntmps33
  have Hn1 := Lib.hid (World.ownsRow_lit (base := w.heap.size) (e := 33) (size := 2) w #[] 0 (Nat.le_refl _) (by unfold maxLen; omega) rfl)
  have Hr1 := Lib.hid (Rd.alloc hr (.cells #[] 33))
  have HG1 := Lib.hid (show w.grownBy (w.alloc (.cells #[] 33)) (some g) from grown_alloc (grown_refl _ _) _)
  clear hr
  have hgl1 : g < (w.alloc (.cells #[] 33)).heap.size := by simp; omega
  go_wp2_with fail
  refine (one_in g (p) _ [2, 3, 4, 1, 0, 8, 9] (0) 9 7 7 _ _ (Rd.alloc Hr1.out _) (by omega) (Blk.new' (by simp)) (by have := (Hr1.out).lt; (try simp); omega) rfl rfl (by omega) (by omega) (by decide)).mono ?_
  rintro e w2 ⟨n, rfl, n0, n1, hr2, hg2⟩
  have HG2 := Lib.hid (grown_trans (grown_alloc HG1.out _) hg2)
  clear HG1
  have Hown2 := Lib.hid (World.ownsRow.kept (World.ownsRow.alloc Hn1.out _) hg2 (apart_of (fun j hj e => by have := (World.ownsRow.lt Hn1.out j hj).1; injection e with e; omega)))
  clear Hn1
  clear hg2
  clear Hr1
  have Hrd2 := Lib.hid hr2; clear hr2
  have hgl2 : g < w2.heap.size := (Hrd2.out).lt
  obtain ⟨kn, rfl⟩ := Int.eq_ofNat_of_zero_le n0
  go_wp2
  go_loopw [3, 4] (fun v m wr => ∃ (ys : List Fares.Leg) (k q : Nat), OwnLegs wr w.heap.size v ys ∧ ys.length + k ≤ 9 ∧ m = .int .i64 k ∧ q + 3 * k ≤ p + 30 ∧ Rd wr g q ∧ w.grownBy wr (some g)) (fun _ m _ => (intOf m).toNat)
  case atStart => exact ⟨[], kn, p + 1, Hown2.out, by simp; omega, rfl, by omega, Hrd2.out, HG2.out⟩
  case round =>
    obtain ⟨ys, k, q, hown, hlen, rfl, hq, hrd, hG⟩ := hrel
    have hgw2 := hrd.lt
    have Hr := Lib.hid hrd; clear hrd
    have HG := Lib.hid hG; clear hG
    obtain ⟨Av, cv, rfl, hcv1, hcv2, hrs⟩ := OwnLegs.form hown
    clear hrs
    unfold maxLen at hcv2
    have Hown := Lib.hid hown; clear hown
    by_cases hk0 : 0 < k
    · have hk1 : (0 : Int) < (k : Int) := by omega
      obtain ⟨k', rfl⟩ : ∃ k', k = k' + 1 := ⟨k - 1, by omega⟩
      go_wp2_with fail
      refine (pick_any g (q) (4) _ Hr.out (by omega)).mono ?_
      rintro e w3 ⟨o, rfl, o0, o1, hr3, hg3⟩
      have o2 := o1 (by omega)
      clear o1
      have HG3 := Lib.hid (grown_trans HG.out hg3)
      clear HG
      have Hown3 := Lib.hid (World.ownsRow.kept Hown.out hg3 (apart_of (fun j hj e => by have := (World.ownsRow.lt Hown.out j hj).1; injection e with e; omega)))
      clear Hown
      clear hg3
      clear Hr
      have Hrd3 := Lib.hid hr3; clear hr3
      have hgl3 : g < w3.heap.size := (Hrd3.out).lt
      go_wp2_with fail
      refine (one_in g (q + 1) _ [10, 33, 500, 1, 120, 300] (1) 500 6 6 _ _ (Rd.alloc Hrd3.out _) (by omega) (Blk.new' (by simp)) (by have := (Hrd3.out).lt; (try simp); omega) rfl rfl (by omega) (by omega) (by decide)).mono ?_
      rintro e w4 ⟨l, rfl, l0, l1, hr4, hg4⟩
      have HG4 := Lib.hid (grown_trans (grown_alloc HG3.out _) hg4)
      clear HG3
      have Hown4 := Lib.hid (World.ownsRow.kept (World.ownsRow.alloc Hown3.out _) hg4 (apart_of (fun j hj e => by have := (World.ownsRow.lt Hown3.out j hj).1; injection e with e; omega)))
      clear Hown3
      clear hg4
      clear Hrd3
      have Hrd4 := Lib.hid hr4; clear hr4
      have hgl4 : g < w4.heap.size := (Hrd4.out).lt
      have hsz5 := (HG4.out).size
      go_wp2_with (at_builtin; refine wpList_append_lies _ rfl (.tmp 13) (.tmp 20) _ rfl (w.heap.size) 33 ti _ 2 16 Try.underlying23 HILeg.out HZ0Leg.out HZ1Leg.out HZ2Leg.out rfl (by omega) _ _ _ rfl (World.ownsRow.alloc Hown4.out _) ⟨w4.heap.size, 0, none⟩ 1 1 (legCells ⟨o, l⟩) rfl rfl ?c1 ?c2 (by omega) ?c3 ?c4 ?c5 _ rfl ?_)
      case c1 => exact World.news_of_block (Blk.new' (t := 33) (cs := #[.int .i64 o, .int .i64 l]) (by simp))
      case c2 => simp [legCells, Value.oneCell']
      case c3 => unfold maxLen; omega
      case c4 => omega
      case c5 => first | omega | (simp; omega) | simp
      intro gb5 cap5 w5 hown5 hgrow5 hat5 hlt5
      have HX5 := Lib.hid (OwnLegs.snoc hown5); clear hown5 hat5
      have Hrd5 := Lib.hid (Rd.grown_new (Rd.alloc Hrd4.out _) hgrow5 (fun r hr => by have := (World.ownsRow.lt Hown4.out r hr).1; omega))
      clear Hrd4
      have HG5 := Lib.hid (grown_new (grown_alloc HG4.out _) hgrow5 (fun r hr => by have := (World.ownsRow.lt Hown4.out r hr).1; omega))
      clear HG4
      clear hgrow5
      clear Hown4
      go_wp2
      go_roundw
      case rel => exact ⟨ys ++ [⟨o, l⟩], k', _, HX5.out, by simp; omega, by go_num, by omega, Hrd5.out, HG5.out⟩
      case measure => simp [intOf]
    · have hk1 : decide ((0 : Int) < (k : Int)) = false := by simp; omega
      by_cases hl0 : 0 < ys.length
      · have hl1 : (0 : Int) < (ys.length : Int) := by omega
        go_wp2_with fail
        refine (pick_any g (q) (20) _ Hr.out (by omega)).mono ?_
        rintro e w3 ⟨u, rfl, u0, u1, hr3, hg3⟩
        have u2 := u1 (by omega)
        clear u1
        have HG3 := Lib.hid (grown_trans HG.out hg3)
        clear HG
        have Hown3 := Lib.hid (World.ownsRow.kept Hown.out hg3 (apart_of (fun j hj e => by have := (World.ownsRow.lt Hown.out j hj).1; injection e with e; omega)))
        clear Hown
        clear hg3
        clear Hr
        have Hrd3 := Lib.hid hr3; clear hr3
        have hgl3 : g < w3.heap.size := (Hrd3.out).lt
        by_cases hu : u = 0
        · subst hu
          go_wp2_with fail
          refine (one_in g (q + 1) _ [-1, 4] (-1) 4 2 2 _ _ (Rd.alloc Hrd3.out _) (by omega) (Blk.new' (by simp)) (by have := (Hrd3.out).lt; (try simp); omega) rfl rfl (by omega) (by omega) (by decide)).mono ?_
          rintro e w4 ⟨o, rfl, o0, o1, hr4, hg4⟩
          have HG4 := Lib.hid (grown_trans (grown_alloc HG3.out _) hg4)
          clear HG3
          have Hown4 := Lib.hid (World.ownsRow.kept (World.ownsRow.alloc Hown3.out _) hg4 (apart_of (fun j hj e => by have := (World.ownsRow.lt Hown3.out j hj).1; injection e with e; omega)))
          clear Hown3
          clear hg4
          clear Hrd3
          have Hrd4 := Lib.hid hr4; clear hr4
          have hgl4 : g < w4.heap.size := (Hrd4.out).lt
          go_wp2_with fail
          refine (one_in g (q + 1 + 1) _ [0, 501, 5] (0) 501 3 3 _ _ (Rd.alloc Hrd4.out _) (by omega) (Blk.new' (by simp)) (by have := (Hrd4.out).lt; (try simp); omega) rfl rfl (by omega) (by omega) (by decide)).mono ?_
          rintro e w5 ⟨l, rfl, l0, l1, hr5, hg5⟩
          have HG5 := Lib.hid (grown_trans (grown_alloc HG4.out _) hg5)
          clear HG4
          have Hown5 := Lib.hid (World.ownsRow.kept (World.ownsRow.alloc Hown4.out _) hg5 (apart_of (fun j hj e => by have := (World.ownsRow.lt Hown4.out j hj).1; injection e with e; omega)))
          clear Hown4
          clear hg5
          clear Hrd4
          have Hrd5 := Lib.hid hr5; clear hr5
          have hgl5 : g < w5.heap.size := (Hrd5.out).lt
          obtain ⟨gb, cap', ev, hbg, _, _, _, hcell, hfree, hthere⟩ := own_at legCells 2 (fun _ => rfl) Hown5.out hl0
          injection ev with ev1 ev2 ev3
          subst ev1
          subst ev3
          clear ev2
          obtain ⟨y, hy⟩ : ∃ y, ys[0]? = some y := ⟨_, List.getElem?_eq_getElem hl0⟩
          have t0 : w5.cell? ⟨gb, 0, none⟩ = some (.int .i64 y.o) := by have h9 := hcell 0 y 0 _ hy rfl; simpa using h9
          have t1 : w5.cell? ⟨gb, 1, none⟩ = some (.int .i64 y.l) := by have h9 := hcell 0 y 1 _ hy rfl; simpa using h9
          have f0 : w5.frozen? ⟨gb, 0, none⟩ = false := hfree 0
          have f1 : w5.frozen? ⟨gb, 1, none⟩ = false := hfree 1
          have HS := Lib.hid (own_store (x := ⟨o, l⟩) legCells 2 (fun _ => rfl) (by omega) Hown5.out hl0)
          clear hcell hfree hthere hy
          have hgz := (HG5.out).size
          go_wp2
          go_ret
          refine ⟨_, ys.set 0 ⟨o, l⟩, _, rfl, ?_, by rw [List.length_set]; omega, by omega, Rd.setCells Hrd5.out (by omega) (legCells ⟨o, l⟩) 0, grown_cells (by omega) (legCells ⟨o, l⟩) _ 0 HG5.out⟩
          unfold OwnLegs
          rw [List.length_set]
          exact HS.out
        · have hu0 : (u == 0) = false := by simpa using hu
          go_wp2
          go_ret
          exact ⟨_, ys, _, rfl, Hown3.out, by omega, by omega, Hrd3.out, HG3.out⟩
      · have hl1 : decide ((0 : Int) < (ys.length : Int)) = false := decide_eq_false (by omega)
        have hl1n : decide (0 < ys.length) = false := decide_eq_false (by omega)
        go_wp2
        go_ret
        exact ⟨_, ys, _, rfl, Hown.out, by omega, by omega, Hr.out, HG.out⟩
set_option maxHeartbeats 2000000 in
theorem drawShareFare_any (A : Option Addr) (n c : Nat) (w : World) (h : Bytes w w.heap.size A n c) :
    Calls Try.prog 12 #[.slice A n c] w fun e w' => ∃ (v : Value) (ys : List Fares.Leg) (m : Int), e = .returned (.tuple #[v, .int .i64 m]) ∧ OwnLegs w' w.heap.size v ys ∧ ys.length ≤ 9 ∧ -1 ≤ m ∧ m ≤ 100001 ∧ Below w.heap.size w w' := by
  go_enter Try.func12, Try.ntmps12
  go_wp2_with fail
  refine (newReader_any A n c w h).mono ?_
  rintro e w1 ⟨rfl, hr1, hb1, hz1⟩
  have HB1 := Lib.hid hb1; clear hb1
  have HZ := Lib.hid hz1; clear hz1
  have hs1 : w.heap.size < w1.heap.size := hr1.lt
  go_wp2_with fail
  refine (anyLegs_any _ 0 w1 hr1 (by omega)).mono ?_
  rintro e w2 ⟨v, ys, q, rfl, ho, hlen, hq, hr2, hg2⟩
  have HB2 := Lib.hid (show Below w.heap.size w w2 from Below.trans HB1.out (below_of_grown hg2 (Below.size HB1.out) (Nat.le_refl _))); clear HB1
  have Ho := Lib.hid ho; clear ho
  have Hr2 := Lib.hid hr2; clear hr2
  have hgl2 : w.heap.size < w2.heap.size := Hr2.out.lt
  have hz2 := hg2.size
  clear hg2
  go_wp2_with fail
  refine (one_in w.heap.size (q) _ [300, 100, 7, 1, 0, 100000, 100001, -1] (-1) 100001 8 8 _ _ (Rd.alloc Hr2.out _) (by omega) (Blk.new' (by simp)) (by have := (Hr2.out).lt; (try simp); omega) rfl rfl (by omega) (by omega) (by decide)).mono ?_
  rintro e w3 ⟨m, rfl, m0, m1, hr3, hg3⟩
  have HB3 := Lib.hid (Below.trans (bA HB2.out _) (below_of_grown hg3 (Below.size (bA HB2.out _)) (by omega)))
  clear HB2
  have Hown3 := Lib.hid (World.ownsRow.kept (World.ownsRow.alloc Ho.out _) hg3 (apart_of (fun j hj e => by have := (World.ownsRow.lt Ho.out j hj).1; injection e with e; omega)))
  clear Ho
  clear hg3
  clear Hr2
  have Hrd3 := Lib.hid hr3; clear hr3
  have hgl3 : w.heap.size < w3.heap.size := (Hrd3.out).lt
  go_wp2_with fail
  go_ret2
  exact ⟨v, ys, m, rfl, ownBase Hown3.out (by omega), hlen, by omega, by omega, HB3.out⟩
set_option maxHeartbeats 2000000 in
theorem drawLengthOf_any (A : Option Addr) (n c : Nat) (w : World) (h : Bytes w w.heap.size A n c) :
    Calls Try.prog 19 #[.slice A n c] w fun e w' => ∃ (v : Value) (ys : List Fares.Leg) (m : Int), e = .returned (.tuple #[v, .int .i64 m]) ∧ OwnLegs w' w.heap.size v ys ∧ ys.length ≤ 9 ∧ -1 ≤ m ∧ m ≤ 4 ∧ Below w.heap.size w w' := by
  go_enter Try.func19, Try.ntmps19
  go_wp2_with fail
  refine (newReader_any A n c w h).mono ?_
  rintro e w1 ⟨rfl, hr1, hb1, hz1⟩
  have HB1 := Lib.hid hb1; clear hb1
  have HZ := Lib.hid hz1; clear hz1
  have hs1 : w.heap.size < w1.heap.size := hr1.lt
  go_wp2_with fail
  refine (anyLegs_any _ 0 w1 hr1 (by omega)).mono ?_
  rintro e w2 ⟨v, ys, q, rfl, ho, hlen, hq, hr2, hg2⟩
  have HB2 := Lib.hid (show Below w.heap.size w w2 from Below.trans HB1.out (below_of_grown hg2 (Below.size HB1.out) (Nat.le_refl _))); clear HB1
  have Ho := Lib.hid ho; clear ho
  have Hr2 := Lib.hid hr2; clear hr2
  have hgl2 : w.heap.size < w2.heap.size := Hr2.out.lt
  have hz2 := hg2.size
  clear hg2
  go_wp2_with fail
  refine (pick_any w.heap.size (q) (6) _ Hr2.out (by omega)).mono ?_
  rintro e w3 ⟨m, rfl, m0, m1, hr3, hg3⟩
  have m2 := m1 (by omega)
  clear m1
  have HB3 := Lib.hid (Below.trans HB2.out (below_of_grown hg3 (Below.size HB2.out) (by omega)))
  clear HB2
  have Hown3 := Lib.hid (World.ownsRow.kept Ho.out hg3 (apart_of (fun j hj e => by have := (World.ownsRow.lt Ho.out j hj).1; injection e with e; omega)))
  clear Ho
  clear hg3
  clear Hr2
  have Hrd3 := Lib.hid hr3; clear hr3
  have hgl3 : w.heap.size < w3.heap.size := (Hrd3.out).lt
  go_wp2_with fail
  go_ret2
  exact ⟨v, ys, m - 1, rfl, ownBase Hown3.out (by omega), hlen, by omega, by omega, HB3.out⟩
set_option maxHeartbeats 2000000 in
theorem drawJoinLegs_any (A : Option Addr) (n c : Nat) (w : World) (h : Bytes w w.heap.size A n c) :
    Calls Try.prog 21 #[.slice A n c] w fun e w' => ∃ (v : Value) (ys : List Fares.Leg), e = .returned v ∧ OwnLegs w' w.heap.size v ys ∧ ys.length ≤ 9 ∧ Below w.heap.size w w' := by
  go_enter Try.func21, Try.ntmps21
  go_wp2_with fail
  refine (newReader_any A n c w h).mono ?_
  rintro e w1 ⟨rfl, hr1, hb1, hz1⟩
  have HB1 := Lib.hid hb1; clear hb1
  have HZ := Lib.hid hz1; clear hz1
  have hs1 : w.heap.size < w1.heap.size := hr1.lt
  go_wp2_with fail
  refine (anyLegs_any _ 0 w1 hr1 (by omega)).mono ?_
  rintro e w2 ⟨v, ys, q, rfl, ho, hlen, hq, hr2, hg2⟩
  have HB2 := Lib.hid (show Below w.heap.size w w2 from Below.trans HB1.out (below_of_grown hg2 (Below.size HB1.out) (Nat.le_refl _))); clear HB1
  have Ho := Lib.hid ho; clear ho
  have Hr2 := Lib.hid hr2; clear hr2
  have hgl2 : w.heap.size < w2.heap.size := Hr2.out.lt
  have hz2 := hg2.size
  clear hg2
  go_wp2_with fail
  go_ret
  exact ⟨v, ys, rfl, ownBase Ho.out (by omega), hlen, HB2.out⟩
end Go.Proofs.Ytgecgjndbaeahaa
