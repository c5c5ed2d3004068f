/-
  What chapter 19's laws on amounts draw: amounts of days that may be spoilt, and adjustments of which one may be.
-/
import Derived.Test.YtnlnlcllnbggdaaAdjApplySpec
import Derived.Test.YtnlnlcllnbggdaaLiftBytes
import Derived.Test.YtnlnlcllnbggdaaCarry
set_option linter.unusedSimpArgs false
namespace Go.Proofs.Ytnlnlcllnbggdaa
open Go.RowKit Go.Deep
set_option linter.unusedVariables false

def DueDrawn (g p : Nat) (w : World) (e : Ending) (w' : World) : Prop := SpoilInts 30 (-1) 100001 g (p + 13) w e w'
set_option maxRecDepth 100000 in
set_option maxHeartbeats 2000000 in
theorem anyDue_any (g p : Nat) (w : World) (hr : Rd w g p) (hp : p ≤ 1000) : Calls Try.prog 27 #[.pointer (some ⟨g, 0, none⟩)] w (DueDrawn g p w) := by
  have hgw := hr.lt
  obtain ⟨Z, hZ, hz0, hmk⟩ := run_make_ints 29 (by omega)
  have hmk' : ∀ w : World, (Instr.makeSlice 23 (.int .i64 29) (.int .i64 29)).run Try.prog w = .ok (.slice (some ⟨w.heap.size, 0, none⟩) 29 29) (w.alloc (.cells Z 3)) := hmk
  go_enter Try.func27, Try.ntmps27
  go_wp2_with fail
  generalize hW1 : w.alloc (.cells Z 3) = w1
  have hst : Starts w1 w.heap.size 3 29 ((List.replicate 29 (0 : Int)).flatMap intCells) := by rw [← hW1]; exact zeros_starts (Blk.new w _ _) hZ hz0
  have Hown1 := Lib.hid (show OwnInts w1 w.heap.size (.slice (some ⟨w.heap.size, 0, none⟩) 29 29) (List.replicate 29 (0 : Int)) from OwnInts.of_starts hst (by simp) (by unfold maxLen; omega) (Nat.le_refl _))
  have Hr1 := Lib.hid (show Rd w1 g p by rw [← hW1]; exact hr.alloc _)
  have HG1 := Lib.hid (show w.grownBy w1 (some g) by rw [← hW1]; exact grown_alloc (grown_refl _ _) _)
  have hgl1 : g < w1.heap.size := Hr1.out.lt
  clear hW1 hst hmk hmk' hz0 hZ hr
  refine (pick_any g (p) (6) _ Hr1.out (by omega)).mono ?_
  rintro e w2 ⟨n, rfl, n0, n1, hr2, hg2⟩
  have n2 := n1 (by omega)
  clear n1
  have HG2 := Lib.hid (grown_trans HG1.out hg2)
  clear HG1
  have Hown2 := Lib.hid (World.ownsRow.kept Hown1.out hg2 (apart_of (fun j hj e => by have := (World.ownsRow.lt Hown1.out j hj).1; injection e with e; omega)))
  clear Hown1
  clear hg2
  clear Hr1
  have Hrd2 := Lib.hid hr2; clear hr2
  have hgl2 : g < w2.heap.size := (Hrd2.out).lt
  obtain ⟨kn, rfl⟩ := Int.eq_ofNat_of_zero_le n0
  go_wp2
  go_loopw [4] (fun m wr => ∃ (ys : List Int) (k q : Nat), OwnInts wr w.heap.size (.slice (some ⟨w.heap.size, 0, none⟩) 29 29) ys ∧ ys.length = 29 ∧ (∀ y ∈ ys, 0 ≤ y ∧ y ≤ 100000) ∧ m = .int .i64 k ∧ q + 2 * k ≤ p + 11 ∧ Rd wr g q ∧ w.grownBy wr (some g)) (fun m _ => (intOf m).toNat)
  case atStart => exact ⟨_, kn, p + 1, Hown2.out, by simp, (fun y hy => by have := List.eq_of_mem_replicate hy; omega), rfl, by omega, Hrd2.out, HG2.out⟩
  case round =>
    obtain ⟨ys, k, q, hown, h29, hsm, rfl, hq, hrd, hG⟩ := hrel
    have Hsm := Lib.hid hsm; clear hsm
    have H29 := Lib.hid h29; clear h29
    have hgw2 := hrd.lt
    have Hr := Lib.hid hrd; clear hrd
    have HG := Lib.hid hG; clear hG
    have Hown := Lib.hid hown; clear hown
    by_cases hk0 : 0 < k
    · have hk1 : (0 : Int) < (k : Int) := by omega
      obtain ⟨k', rfl⟩ : ∃ k', k = k' + 1 := ⟨k - 1, by omega⟩
      go_wp2_with fail
      refine (pick_any g (q) (29) _ Hr.out (by omega)).mono ?_
      rintro e w3 ⟨i, rfl, i0, i1, hr3, hg3⟩
      have i2 := i1 (by omega)
      clear i1
      have HG3 := Lib.hid (grown_trans HG.out hg3)
      clear HG
      have Hown3 := Lib.hid (World.ownsRow.kept Hown.out hg3 (apart_of (fun j hj e => by have := (World.ownsRow.lt Hown.out j hj).1; injection e with e; omega)))
      clear Hown
      clear hg3
      clear Hr
      have Hrd3 := Lib.hid hr3; clear hr3
      have hgl3 : g < w3.heap.size := (Hrd3.out).lt
      obtain ⟨i, rfl⟩ := Int.eq_ofNat_of_zero_le i0
      go_wp2_with fail
      refine (one_in g (q + 1) _ [300, 900, 1, 100000] (1) 100000 4 4 _ _ (Rd.alloc Hrd3.out _) (by omega) (Blk.new' (by simp)) (by have := (Hrd3.out).lt; (try simp); omega) rfl rfl (by omega) (by omega) (by decide)).mono ?_
      rintro e w4 ⟨x, rfl, x0, x1, hr4, hg4⟩
      have HG4 := Lib.hid (grown_trans (grown_alloc HG3.out _) hg4)
      clear HG3
      have Hown4 := Lib.hid (World.ownsRow.kept (World.ownsRow.alloc Hown3.out _) hg4 (apart_of (fun j hj e => by have := (World.ownsRow.lt Hown3.out j hj).1; injection e with e; omega)))
      clear Hown3
      clear hg4
      clear Hrd3
      have Hrd4 := Lib.hid hr4; clear hr4
      have hgl4 : g < w4.heap.size := (Hrd4.out).lt
      obtain ⟨g', cap', ev, _, _, _, _, hcell, hfree, hthere⟩ := own_at intCells 1 (fun _ => rfl) Hown4.out (show 0 < ys.length by have := H29.out; omega)
      injection ev with ev1 ev2 ev3
      injection ev1 with ev1
      injection ev1 with ev1
      subst ev1
      subst ev3
      clear ev2
      have hi : i < ys.length := by have := H29.out; omega
      have q0 : w4.cell? ⟨w.heap.size, i, none⟩ = some (.int .i64 (Fares.nth ys i)) := by
        have h9 := hcell i _ 0 _ (Fares.nth_some hi) rfl
        simpa using h9
      have f0 : w4.frozen? ⟨w.heap.size, i, none⟩ = false := hfree i
      clear hcell hfree hthere
      have Hi := Lib.hid hi; clear hi
      go_wp2
      go_roundw
      case rel => exact ⟨ys.set i x, k', _, OwnInts.put (w := w4) Hown4.out H29.out Hi.out, by rw [List.length_set]; exact H29.out, (fun y hy => by
          rcases List.mem_or_eq_of_mem_set hy with h | h
          · exact Hsm.out y h
          · omega), by go_num, by omega, Hrd4.out.below ((Below.refl _ _).setCell (p := ⟨w.heap.size, i, none⟩) (by show g + 1 ≤ w.heap.size; omega) _), grown_setCell HG4.out (.inr (Nat.le_refl _)) _⟩
      case measure => simp [intOf]
    · have hk1 : decide ((0 : Int) < (k : Int)) = false := by simp; omega
      go_wp2_with fail
      refine (pick_any g (q) (20) _ Hr.out (by omega)).mono ?_
      rintro e w3 ⟨u, rfl, u0, u1, hr3, hg3⟩
      have u2 := u1 (by omega)
      clear u1
      have HG3 := Lib.hid (grown_trans HG.out hg3)
      clear HG
      have Hown3 := Lib.hid (World.ownsRow.kept Hown.out hg3 (apart_of (fun j hj e => by have := (World.ownsRow.lt Hown.out j hj).1; injection e with e; omega)))
      clear Hown
      clear hg3
      clear Hr
      have Hrd3 := Lib.hid hr3; clear hr3
      have hgl3 : g < w3.heap.size := (Hrd3.out).lt
      by_cases hu : u = 0
      · subst hu
        go_wp2_with fail
        obtain ⟨_, _, ev, _, _, hrs⟩ := OwnInts.form Hown3.out
        injection ev with ev1 ev2 ev3
        subst ev1 ev3
        clear ev2
        have hsz9 := HG3.out.size
        refine (spoil_any g _ (some ⟨w.heap.size, 0, none⟩) 29 29 ys 100001 (-1) 100001 w3 Hrd3.out (by omega) hrs H29.out (fun e => by cases e) (by omega) (fun y hy => by have := Hsm.out y hy; omega) (by omega) (by omega) (by omega) (by omega)).mono ?_
        rintro e w9 ⟨A, n, c, zs, q9, rfl, z1, z2, z3, z4, z5, z6, z7, z8, z9, z10, z11⟩
        have Z1 := Lib.hid z1; clear z1
        have Z8 := Lib.hid z8; clear z8
        have Z2 := Lib.hid z2; clear z2
        have Z3 := Lib.hid z3; clear z3
        have Z4 := Lib.hid z4; clear z4
        go_wp2
        go_ret
        exact ⟨A, n, c, zs, q9, rfl, Z1.out, (fun a ha => by have := Z2.out a ha; omega), Z3.out, Z4.out, z5, z6, by have := Z4.out; omega, Z8.out, by omega, z10, grown_trans HG3.out z11⟩
      · have hu0 : (u == 0) = false := by simpa using hu
        go_wp2
        go_ret
        exact OwnInts.spoil Hown3.out (by have := H29.out; omega) (fun y hy => by have := Hsm.out y hy; omega) (by omega) Hrd3.out HG3.out

theorem farKeep {g B : Nat} {w' w'' : World} {A : Option Addr} {vs : List Value} (h : Reads w' B A vs) (hB : B ≤ w'.heap.size) (hb : ∀ a, A = some a → g < a.block) (k : w'.grownBy w'' (some g)) : Reads w'' B A vs := fun hne => by
  obtain ⟨a, e, ha, hc⟩ := h hne
  have := hb a e
  refine ⟨a, e, ha, fun i u hu => ?_⟩
  rw [cell_grown k (p := a.add i) (by rw [add_block]; omega) (by rw [add_block]; intro e; injection e with e; omega)]
  exact hc i u hu
def DrawsAdjustments (w : World) (e : Ending) (w' : World) : Prop :=
  ∃ (A B : Option Addr) (n m c d : Nat) (us vs : List Int), e = .returned (.tuple #[.slice A n c, .slice B m d]) ∧ Ints w' w'.heap.size A us ∧ Ints w' w'.heap.size B vs ∧ us.length = n ∧ vs.length = m ∧ n ≤ 30 ∧ m ≤ 30 ∧ Below w.heap.size w w'
set_option maxRecDepth 100000 in
set_option maxHeartbeats 2000000 in
theorem drawAdjustments_any (A : Option Addr) (n c : Nat) (w : World) (h : Bytes w w.heap.size A n c) : Calls Try.prog 8 #[.slice A n c] w (DrawsAdjustments w) := by
  go_enter Try.func8, Try.ntmps8
  go_wp2_with fail
  refine (newReader_any A n c w h).mono ?_
  rintro e w1 ⟨rfl, hr1, hb1, hz1⟩
  have HZ := Lib.hid hz1; clear hz1
  have hgl1 := hr1.lt
  go_wp2_with fail
  refine (anyDue_any _ 0 w1 hr1 (by omega)).mono ?_
  rintro e w2 ⟨A1, n1, c1, us, q1, rfl, a1, a2, a3, a4, a5, a6, a7, a8, a9, a10, a11⟩
  have X1 := Lib.hid a1; clear a1
  have X2 := Lib.hid (fun a e => Nat.lt_of_lt_of_le hgl1 (a2 a e)); clear a2
  clear a3 a8
  have hb2 : Below w.heap.size w w2 := hb1.trans (below_of_grown a11 (by omega) (Nat.le_refl _))
  clear a11
  go_wp2_with fail
  refine (anyDue_any _ q1 w2 a10 (by omega)).mono ?_
  rintro e w3 ⟨A2, n2, c2, vs, q2, rfl, b1, b2, b3, b4, b5, b6, b7, b8, b9, b10, b11⟩
  have Y1 := Lib.hid b1; clear b1
  clear b2 b3 b8
  have Z1 := Lib.hid (farKeep X1.out (Nat.le_refl _) X2.out b11)
  have hb3 : Below w.heap.size w w3 := hb2.trans (below_of_grown b11 (by have := hb2.size; omega) (Nat.le_refl _))
  go_wp2
  go_ret2
  exact ⟨A1, A2, n1, n2, c1, c2, us, vs, rfl, Z1.out.more b11.size, Y1.out, a4, b4, by omega, by omega, hb3⟩
def DrawsApply (w : World) (e : Ending) (w' : World) : Prop :=
  ∃ (A B : Option Addr) (n m c d : Nat) (us : List Int) (cs : List Fares.Adjust), e = .returned (.tuple #[.slice A n c, .slice B m d]) ∧ Ints w' w'.heap.size A us ∧ Adjusts w' w'.heap.size B cs ∧ us.length = n ∧ cs.length = m ∧ n ≤ 30 ∧ m ≤ 29 ∧ Below w.heap.size w w'
set_option maxRecDepth 100000 in
set_option maxHeartbeats 2000000 in
theorem drawApplyAdjust_any (A : Option Addr) (n c : Nat) (w : World) (h : Bytes w w.heap.size A n c) : Calls Try.prog 14 #[.slice A n c] w (DrawsApply w) := by
  go_enter Try.func14, Try.ntmps14
  go_wp2_with fail
  refine (newReader_any A n c w h).mono ?_
  rintro e w1 ⟨rfl, hr1, hb1, hz1⟩
  have HZ := Lib.hid hz1; clear hz1
  have hgl1 := hr1.lt
  go_wp2_with fail
  refine (anyDue_any _ 0 w1 hr1 (by omega)).mono ?_
  rintro e w2 ⟨A1, n1, c1, us, q1, rfl, a1, a2, a3, a4, a5, a6, a7, a8, a9, a10, a11⟩
  have X1 := Lib.hid a1; clear a1
  have X2 := Lib.hid (fun a e => Nat.lt_of_lt_of_le hgl1 (a2 a e)); clear a2
  clear a3 a8
  have hb2 : Below w.heap.size w w2 := hb1.trans (below_of_grown a11 (by omega) (Nat.le_refl _))
  have hz2 := a11.size
  clear a11
  go_wp2_with fail
  refine (anyDue_any _ q1 w2 a10 (by omega)).mono ?_
  rintro e w3 ⟨A2, n2, c2, vs, q2, rfl, b1, b2, b3, b4, b5, b6, b7, b8, b9, b10, b11⟩
  have Y1 := Lib.hid b1; clear b1
  clear b2 b3 b8
  have Z1 := Lib.hid (farKeep X1.out (Nat.le_refl _) X2.out b11)
  have hb3 : Below w.heap.size w w3 := hb2.trans (below_of_grown b11 (by have := hb2.size; omega) (Nat.le_refl _))
  have hz3 := b11.size
  clear b11
  go_wp2_with fail
  refine (specAdjustments_any A1 A2 n1 n2 c1 c2 us vs w3 (Z1.out.more hz3) Y1.out a4 b4 (by omega) (by omega)).mono ?_
  rintro e w4 ⟨v, rfl, ho4, hb4⟩
  have hlen := Fares.adjustments_length us vs
  obtain ⟨cs, hcs⟩ : ∃ cs, Fares.adjustments us vs = cs := ⟨_, rfl⟩
  rw [hcs] at hlen ho4
  clear hcs
  have hr4 := b10.belowAll hb4
  have Z4 := Lib.hid (Reads.below Z1.out hb4 hz3)
  have hc4 : Below w.heap.size w w4 := bT hb3 hb4
  have hz4 := hb4.size
  clear hb4 Z1 Y1 b10
  have ho4' := ho4
  obtain ⟨A4, c4, rfl, _, _, hrs4⟩ := ho4.form
  have Hown4 := Lib.hid ho4'; clear ho4' ho4
  have Hrs4 := Lib.hid hrs4; clear hrs4
  by_cases hl0 : 0 < cs.length
  · have hl1 : (0 : Int) < (cs.length : Int) := by omega
    go_wp2_with fail
    refine (pick_any _ q2 8 w4 hr4 (by omega)).mono ?_
    rintro e w5 ⟨u, rfl, u0, u1, hr5, hg5⟩
    have Z5 := Lib.hid (farKeep Z4.out (by omega) X2.out hg5)
    have Hown5 := Lib.hid (OwnAdjusts.kept Hown4.out hg5 (apart_of (fun j hj e => by have := (World.ownsRow.lt Hown4.out j hj).1; injection e with e; omega)))
    have hc5 : Below w.heap.size w w5 := hc4.trans (below_of_grown hg5 (by have := hc4.size; omega) (Nat.le_refl _))
    have hz5 := hg5.size
    clear hg5 hr4 Hown4 Z4 Hrs4 u1
    by_cases hu : u = 0
    · subst hu
      go_wp2_with fail
      refine (pick_any _ (q2 + 1) (cs.length : Int) w5 hr5 (by omega)).mono ?_
      rintro e w6 ⟨i, rfl, i0, i1, hr6, hg6⟩
      have i2 := i1 (by omega)
      clear i1
      obtain ⟨i, rfl⟩ := Int.eq_ofNat_of_zero_le i0
      have Z6 := Lib.hid (farKeep Z5.out (by omega) X2.out hg6)
      have Hown6 := Lib.hid (OwnAdjusts.kept Hown5.out hg6 (apart_of (fun j hj e => by have := (World.ownsRow.lt Hown5.out j hj).1; injection e with e; omega)))
      have hc6 : Below w.heap.size w w6 := hc5.trans (below_of_grown hg6 (by have := hc5.size; omega) (Nat.le_refl _))
      have hz6 := hg6.size
      clear hg6 hr5 Hown5 Z5
      go_wp2_with fail
      refine (one_in _ (q2 + 1 + 1) w6.heap.size [-1, 0, 28, 29] (-1) 29 4 4 _ _ (hr6.alloc _) (by omega) (Blk.new w6 _ _) (by have := hr6.lt; omega) rfl rfl (by omega) (by omega) (by decide)).mono ?_
      rintro e w7 ⟨d, rfl, d0, d1, hr7, hg7⟩
      have Z7 := Lib.hid (farKeep (Reads.alloc Z6.out (by omega) _) (by simp; omega) X2.out hg7)
      have Hown7 := Lib.hid (OwnAdjusts.kept (World.ownsRow.alloc Hown6.out _) hg7 (apart_of (fun j hj e => by have := (World.ownsRow.lt Hown6.out j hj).1; injection e with e; omega)))
      have hc7 : Below w.heap.size w w7 := (bA hc6 _).trans (below_of_grown hg7 (by have := hc6.size; simp; omega) (Nat.le_refl _))
      have hz7 := hg7.size
      simp only [World.size_alloc] at hz7
      clear hg7 hr6 Hown6 Z6
      go_wp2_with fail
      refine (one_in _ (q2 + 1 + 1 + 1) w7.heap.size [5, -5, 100001] (-5) 100001 3 3 _ _ (hr7.alloc _) (by omega) (Blk.new w7 _ _) (by have := hr7.lt; omega) rfl rfl (by omega) (by omega) (by decide)).mono ?_
      rintro e w8 ⟨x, rfl, x0, x1, hr8, hg8⟩
      have Z8 := Lib.hid (farKeep (Reads.alloc Z7.out (by omega) _) (by simp; omega) X2.out hg8)
      have Hown8 := Lib.hid (OwnAdjusts.kept (World.ownsRow.alloc Hown7.out _) hg8 (apart_of (fun j hj e => by have := (World.ownsRow.lt Hown7.out j hj).1; injection e with e; omega)))
      have hc8 : Below w.heap.size w w8 := (bA hc7 _).trans (below_of_grown hg8 (by have := hc7.size; simp; omega) (Nat.le_refl _))
      have hz8 := hg8.size
      simp only [World.size_alloc] at hz8
      clear hg8 hr7 Hown7 Z7
      obtain ⟨g', cap', ev, hbg, _, _, hmx, hcell, hfree, hthere⟩ := own_at adjustCells 2 (fun _ => rfl) Hown8.out (show 0 < cs.length by omega)
      injection ev with ev1 ev2 ev3
      subst ev1 ev3
      clear ev2
      have hi : i < cs.length := by omega
      obtain ⟨y, hy⟩ : ∃ y, cs[i]? = some y := ⟨_, List.getElem?_eq_getElem hi⟩
      have t0 : w8.cell? ⟨g', i * 2, none⟩ = some (.int .i64 y.d) := hcell i y 0 _ hy rfl
      have t1 : w8.cell? ⟨g', i * 2 + 1, none⟩ = some (.int .i64 y.a) := hcell i y 1 _ hy rfl
      have f0 : w8.frozen? ⟨g', i * 2, none⟩ = false := hfree _
      have f1 : w8.frozen? ⟨g', i * 2 + 1, none⟩ = false := hfree _
      have HO8 := own_store (x := ⟨d, x⟩) adjustCells 2 (fun _ => rfl) (by omega) Hown8.out hi
      have hc9 : Below w.heap.size w (w8.setCells g' (i * 2) (adjustCells ⟨d, x⟩)) := below_cells (by have := hb3.size; omega) (adjustCells ⟨d, x⟩) w8 (i * 2) hc8
      have Z9 := Lib.hid (Reads.below Z8.out (below_cells (B := w2.heap.size) (gb := g') (by omega) (adjustCells ⟨d, x⟩) w8 (i * 2) (Below.refl _ _)) (Nat.le_refl _))
      have hl9 : (cs.set i ⟨d, x⟩).length = cs.length := List.length_set
      have hz9 : w8.heap.size ≤ (w8.setCells g' (i * 2) (adjustCells ⟨d, x⟩)).heap.size := (below_cells (B := 0) (gb := g') (by omega) (adjustCells ⟨d, x⟩) w8 (i * 2) (Below.refl _ _)).size
      have HZ9 := Lib.hid (Z9.out.more (show w2.heap.size ≤ (w8.setCells g' (i * 2) (adjustCells ⟨d, x⟩)).heap.size by omega)); clear Z9
      have HO9 := Lib.hid (show OwnAdjusts (w8.setCells g' (i * 2) (adjustCells ⟨d, x⟩)) w3.heap.size (.slice (some ⟨g', 0, none⟩) cs.length c4) (cs.set i ⟨d, x⟩) by unfold OwnAdjusts; rw [hl9]; exact HO8)
      obtain ⟨_, _, ev, _, _, hrs9⟩ := HO9.out.form
      injection ev with ev1 ev2 ev3
      subst ev1 ev3
      have Hrs9 := Lib.hid hrs9; clear hrs9 ev2 HO8 HO9
      have Hl9 := Lib.hid hl9; clear hl9
      clear hcell hfree hthere hy
      go_wp2
      go_ret2
      exact ⟨A1, some ⟨g', 0, none⟩, n1, cs.length, c1, c4, us, cs.set i ⟨d, x⟩, rfl, HZ9.out, Hrs9.out, a4, Hl9.out, by omega, by omega, hc9⟩
    · have hu0 : (u == 0) = false := by simpa using hu
      have hz25 : w2.heap.size ≤ w5.heap.size := by omega
      obtain ⟨_, _, ev, _, _, hrs5⟩ := Hown5.out.form
      injection ev with ev1 ev2 ev3
      subst ev1 ev3
      clear ev2
      have Hrs5 := Lib.hid hrs5; clear hrs5
      go_wp2
      go_ret2
      exact ⟨A1, A4, n1, _, c1, c4, us, cs, rfl, Z5.out.more hz25, Hrs5.out, a4, rfl, by omega, by omega, hc5⟩
  · have hl1 : decide ((0 : Int) < (cs.length : Int)) = false := decide_eq_false (by omega)
    go_wp2
    go_ret2
    exact ⟨A1, A4, n1, _, c1, c4, us, cs, rfl, Z4.out.more (Nat.le_trans hz3 hz4), Hrs4.out, a4, rfl, by omega, by omega, hc4⟩
end Go.Proofs.Ytnlnlcllnbggdaa
