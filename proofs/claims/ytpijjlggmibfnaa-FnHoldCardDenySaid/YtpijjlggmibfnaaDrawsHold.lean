/-
  The arguments of HoldCard, drawn.
-/
import Derived.Test.YtpijjlggmibfnaaDrawsGate
import Derived.Test.YtpijjlggmibfnaaDrawTap
import Derived.Test.YtpijjlggmibfnaaDrawStop
import Derived.Deep.CutRange
set_option linter.unusedSimpArgs false
namespace Go.Proofs.Ytpijjlggmibfnaa
open Go.RowKit Go.Deep
set_option linter.unusedVariables false

def DrawsHold (w : World) (e : Ending) (w' : World) : Prop :=
  ∃ (u : GateR) (c m s : Int) (o : Bool), e = .returned (.tuple #[gateV u, .int .i64 c, .int .i64 m, .int .i64 s, .bool o]) ∧ GateIn w' w'.heap.size u ∧ u.deny.cards.length ≤ 14 ∧ u.kept.length ≤ 11 ∧ Below w.heap.size w w'
theorem row_getD {w : World} {B b o : Nat} {xs : List Int} (hr : ∀ (k : Nat) (t : Int), xs[k]? = some t → w.cell? ⟨b, o + k, none⟩ = some (.int .i64 t)) : ∀ k : Nat, k < xs.length → w.cell? ⟨b, o + k, none⟩ = some (.int .i64 (xs.getD k 0)) := fun k hk => by
  rw [hr k (xs[k]'hk) (List.getElem?_eq_getElem hk), List.getD_eq_getElem?_getD, List.getElem?_eq_getElem hk]
  rfl
theorem gate_put {w : World} {b : Nat} {v u : GateR} (h : Blk w b 40 (GateR.cells v)) : Blk (((((w.setCell { block := b, off := 0 } (.int .i64 u.val)).setCell { block := b, off := 1 } (.int .i64 u.nxt)).setCell { block := b, off := 2 } (.int .i64 u.deny.ver)).setCell { block := b, off := 3 } (.slice u.deny.cardsA u.deny.cards.length u.deny.cardsc)).setCell { block := b, off := 4 } (.slice u.keptA u.kept.length u.keptc)) b 40 (GateR.cells u) := by
  have h5 := Blk.put (Blk.put (Blk.put (Blk.put (Blk.put h 0 (.int .i64 u.val)) 1 (.int .i64 u.nxt)) 2 (.int .i64 u.deny.ver)) 3 (.slice u.deny.cardsA u.deny.cards.length u.deny.cardsc)) 4 (.slice u.keptA u.kept.length u.keptc)
  simpa [GateR.cells] using h5
set_option maxRecDepth 100000 in
set_option maxHeartbeats 8000000 in
theorem drawHoldCard_any (A : Option Addr) (n c : Nat) (w : World) (h : Bytes w w.heap.size A n c) : Calls Try.prog 37 #[.slice A n c] w (DrawsHold w) := by
  go_enter Try.func37, Try.ntmps37
  go_wp2_with fail
  generalize hW : World.alloc _ _ = W0
  have h0 : Bytes W0 W0.heap.size A n c := by rw [← hW]; exact Bytes.alloc h _
  have hR0 : Blk W0 w.heap.size 40 (GateR.cells (⟨0, 0, ⟨0, none, 0, []⟩, none, 0, []⟩ : GateR)) := by rw [← hW]; exact Blk.new w _ _
  have hc0 : Below w.heap.size w W0 := by rw [← hW]; exact bA (Below.refl _ _) _
  have hs0 : W0.heap.size = w.heap.size + 1 := by rw [← hW]; simp
  clear hW
  refine (newReader_any A n c W0 h0).mono ?_
  rintro e w1 ⟨rfl, hr1, hb1, hz1'⟩
  have hR1 := Lib.hid (hR0.belowAll hb1)
  have HB1 := Lib.hid (bT hc0 hb1)
  have hz1 : w.heap.size + 1 ≤ w1.heap.size := by have := hb1.size; omega
  clear hR0 hb1 h0 hc0
  rw [hs0] at hr1
  rw [hs0]
  clear hs0 hz1'
  have Hr1 := Lib.hid hr1; clear hr1
  have hgl1 : w.heap.size + 1 < w1.heap.size := Hr1.out.lt
  go_wp2_with fail
  refine (anyGate_any (w.heap.size + 1) (0) _ Hr1.out (by omega)).mono ?_
  rintro e w2 ⟨u, q, rfl, hin, hab1, hab2, hl1, hl2, hq, hr2, hg2⟩
  have hz2 : w1.heap.size ≤ w2.heap.size := by have := hg2.size; (try simp at this); omega
  have HR2 := Lib.hid (Blk.grown hR1.out hg2 (by intro e; injection e with e; omega))
  clear hR1
  have HB2 := Lib.hid (Touch.below HB1.out (Touch.of_grown hg2) (fun i hi => by injection hi with hi; omega))
  clear HB1
  clear hg2
  clear Hr1
  have Hrd2 := Lib.hid hr2; clear hr2
  have hgl2 : (w.heap.size + 1) < w2.heap.size := (Hrd2.out).lt
  have Hin := Lib.hid hin; clear hin
  have Hab1 := Lib.hid hab1; clear hab1
  have Hab2 := Lib.hid hab2; clear hab2
  (try unfold gateV)
  go_wp2_with fail
  generalize hW : World.alloc _ _ = w3
  have hM : Blk w3 w2.heap.size 40 u.cells := by rw [← hW]; exact (Blk.new w2 _ _).alloc _
  have hN : Blk w3 (w2.heap.size + 1) 3 #[.int .i64 3, .int .i64 8, .int .i64 15, .int .i64 99, .int .i64 100, .int .i64 (-1), .int .i64 2] := by rw [← hW]; exact Blk.new' (by simp)
  have hb3 : Below w2.heap.size w2 w3 := by rw [← hW]; exact bA (bA (Below.refl _ _) _) _
  have hy3 : w2.heap.size + 1 < w3.heap.size := by rw [← hW]; simp
  clear hW
  have hz3 : w2.heap.size ≤ w3.heap.size := by have := hb3.size; (try simp at this); omega
  have Hrd3 := Lib.hid (Rd.belowAll Hrd2.out hb3)
  clear Hrd2
  have HR3 := Lib.hid (Blk.belowAll HR2.out hb3)
  clear HR2
  have HB3 := Lib.hid (bT HB2.out hb3)
  clear HB2
  have Hin3 := Lib.hid (GateIn.over Hin.out hb3)
  clear Hin
  clear hb3
  have HM := Lib.hid hM; clear hM
  refine (one_in (w.heap.size + 1) (q) _ [3, 8, 15, 99, 100, -1, 2] (-1) 100 7 7 _ _ Hrd3.out (by omega) hN (by omega) rfl rfl (by omega) (by omega) (by decide)).mono ?_
  rintro e w4 ⟨c0, rfl, c00, c01, hr4, hg4⟩
  have hz4 : w3.heap.size ≤ w4.heap.size := by have := hg4.size; (try simp at this); omega
  have HR4 := Lib.hid (Blk.grown HR3.out hg4 (by intro e; injection e with e; omega))
  clear HR3
  have HB4 := Lib.hid (Touch.below HB3.out (Touch.of_grown hg4) (fun i hi => by injection hi with hi; omega))
  clear HB3
  have Hin4 := Lib.hid (GateIn.touch Hin3.out (Touch.of_grown hg4) (b := w1.heap.size) Hab1.out Hab2.out (fun i hi => by injection hi with hi; omega))
  clear Hin3
  have HM4 := Lib.hid (Blk.grown HM.out hg4 (by intro e; injection e with e; omega))
  clear HM
  clear hg4
  clear Hrd3
  have Hrd4 := Lib.hid hr4; clear hr4
  have hgl4 : (w.heap.size + 1) < w4.heap.size := (Hrd4.out).lt
  clear hN
  by_cases hlc : 0 < u.deny.cards.length
  · have hl' : (0 : Int) < (u.deny.cards.length : Int) := by omega
    have hln : decide ((0 : Int) < (u.deny.cards.length : Int)) = true := decide_eq_true hl'
    obtain ⟨cM4_0, cM4_1, cM4_2, cM4_3, cM4_4⟩ := gateCells (t := 40) (v := u) HM4.out
    go_wp2_with fail
    refine (pick_any (w.heap.size + 1) (q + 1) (3) _ Hrd4.out (by omega)).mono ?_
    rintro e w5 ⟨k3, rfl, k30, k31, hr5, hg5⟩
    have k32 := k31 (by omega)
    clear k31
    clear cM4_0 cM4_1 cM4_2 cM4_3 cM4_4
    have hz5 : w4.heap.size ≤ w5.heap.size := by have := hg5.size; (try simp at this); omega
    have HR5 := Lib.hid (Blk.grown HR4.out hg5 (by intro e; injection e with e; omega))
    clear HR4
    have HB5 := Lib.hid (Touch.below HB4.out (Touch.of_grown hg5) (fun i hi => by injection hi with hi; omega))
    clear HB4
    have Hin5 := Lib.hid (GateIn.touch Hin4.out (Touch.of_grown hg5) (b := w1.heap.size) Hab1.out Hab2.out (fun i hi => by injection hi with hi; omega))
    clear Hin4
    have HM5 := Lib.hid (Blk.grown HM4.out hg5 (by intro e; injection e with e; omega))
    clear HM4
    clear hg5
    clear Hrd4
    have Hrd5 := Lib.hid hr5; clear hr5
    have hgl5 : (w.heap.size + 1) < w5.heap.size := (Hrd5.out).lt
    go_upto_if 28 with (fail)
    go_cut [9] from 12 to 39 (fun v wx => ∃ (cq : Int) (qq : Nat), v = .int .i64 cq ∧ qq ≤ 200 ∧ Rd wx (w.heap.size + 1) qq ∧ Blk wx w2.heap.size 40 (GateR.cells u) ∧ Blk wx w.heap.size 40 (GateR.cells (⟨0, 0, ⟨0, none, 0, []⟩, none, 0, []⟩ : GateR)) ∧ GateIn wx wx.heap.size u ∧ Below w.heap.size w wx)
    case first =>
      by_cases h3 : k3 = 0
      · subst h3
        obtain ⟨cM5_0, cM5_1, cM5_2, cM5_3, cM5_4⟩ := gateCells (t := 40) (v := u) HM5.out
        go_wp2
        clear cM5_0 cM5_1 cM5_2 cM5_3 cM5_4
        obtain ⟨b1, o1, eA, hb1, hrw⟩ := Ints.row (Hin5.out).1.1 hlc
        have Hlcc := Lib.hid (Hin5.out).1.2.1
        refine wp_region_held_drew (S := fun w' => (w'.cell? ⟨w2.heap.size, 0, none⟩ = some (.int .i64 u.val) ∧ w'.cell? ⟨w2.heap.size, 1, none⟩ = some (.int .i64 u.nxt) ∧ w'.cell? ⟨w2.heap.size, 2, none⟩ = some (.int .i64 u.deny.ver) ∧ w'.cell? ⟨w2.heap.size, 3, none⟩ = some (.slice u.deny.cardsA u.deny.cards.length u.deny.cardsc) ∧ w'.cell? ⟨w2.heap.size, 4, none⟩ = some (.slice u.keptA u.kept.length u.keptc)) ∧ (∀ k : Nat, k < u.deny.cards.length → w'.cell? ⟨b1, o1 + k, none⟩ = some (.int .i64 (u.deny.cards.getD k 0)))) (by kernel_rfl) (by exact ⟨gateCells (t := 40) (v := u) HM5.out, by obtain ⟨b2, o2, eB, _, hr2⟩ := Ints.row (Hin5.out).1.1 hlc; rw [eA] at eB; injection eB with eB; injection eB with e1 e2 e3; subst e1; subst e2; exact row_getD (B := 0) hr2⟩) (fun hS => ?_)
        refine take_at 0 29 (v := ?_) rfl rfl (by kernel_rfl) (by kernel_rfl) (by kernel_rfl) (fun _ _ _ h => h) (by rfl) ?_ hS ?_
        rotate_left 1
        · (intro w hSw; (try dsimp only at hSw); (try go_split_ands); go_simp; try with_reducible rfl)
        simp only [List.setIfInBounds_toArray, List.set_cons_zero, List.set_cons_succ]
        refine take_at 1 30 (v := ?_) rfl rfl (by kernel_rfl) (by kernel_rfl) (by kernel_rfl) (fun _ _ _ h => h) (by rfl) ?_ hS ?_
        rotate_left 1
        · (intro w hSw; (try dsimp only at hSw); (try go_split_ands); go_simp; try with_reducible rfl)
        simp only [List.setIfInBounds_toArray, List.set_cons_zero, List.set_cons_succ]
        refine take_at 2 31 (v := ?_) rfl rfl (by kernel_rfl) (by kernel_rfl) (by kernel_rfl) (fun _ _ _ h => h) (by rfl) ?_ hS ?_
        rotate_left 1
        · (intro w hSw; (try dsimp only at hSw); (try go_split_ands); go_simp; try with_reducible rfl)
        simp only [List.setIfInBounds_toArray, List.set_cons_zero, List.set_cons_succ]
        refine take_at 3 32 (v := ?_) rfl rfl (by kernel_rfl) (by kernel_rfl) (by kernel_rfl) (fun _ _ _ h => h) (by rfl) ?_ hS ?_
        rotate_left 1
        · (intro w hSw; (try dsimp only at hSw); (try go_split_ands); go_simp; try with_reducible rfl)
        simp only [List.setIfInBounds_toArray, List.set_cons_zero, List.set_cons_succ]
        refine take_at 4 33 (v := ?_) rfl rfl (by kernel_rfl) (by kernel_rfl) (by kernel_rfl) (fun _ _ _ h => h) (by rfl) ?_ hS ?_
        rotate_left 1
        · (intro w hSw; (try dsimp only at hSw); (try go_split_ands); go_simp; try with_reducible rfl)
        simp only [List.setIfInBounds_toArray, List.set_cons_zero, List.set_cons_succ]
        refine take_at 5 34 (v := ?_) rfl rfl (by kernel_rfl) (by kernel_rfl) (by kernel_rfl) (fun _ _ _ h => h) (by rfl) ?_ hS ?_
        rotate_left 1
        · (intro w hSw; (try dsimp only at hSw); (try go_split_ands); go_simp; try with_reducible rfl)
        simp only [List.setIfInBounds_toArray, List.set_cons_zero, List.set_cons_succ]
        refine take_at 6 35 (v := ?_) rfl rfl (by kernel_rfl) (by kernel_rfl) (by kernel_rfl) (fun _ _ _ h => h) (by rfl) ?_ hS ?_
        rotate_left 1
        · (intro w hSw; (try dsimp only at hSw); (try go_split_ands); go_simp; try with_reducible rfl)
        simp only [List.setIfInBounds_toArray, List.set_cons_zero, List.set_cons_succ]
        refine take_at 7 36 (v := ?_) rfl rfl (by kernel_rfl) (by kernel_rfl) (by kernel_rfl) (fun _ _ _ h => h) (by rfl) ?_ hS ?_
        rotate_left 1
        · (intro w hSw; (try dsimp only at hSw); (try go_split_ands); go_simp; try with_reducible rfl)
        simp only [List.setIfInBounds_toArray, List.set_cons_zero, List.set_cons_succ]
        refine wpAnyH_ready (rs := [8]) (by kernel_rfl) (by simp) ?_
        refine AllReadyH.cons rfl (fun K hK => ?_) (AllReadyH.nil)
        go_simp
        go_wp2_with fail
        refine (pick_any (w.heap.size + 1) (q + 1 + 1) ((u.deny.cards.length : Int)) _ (Rd.drew Hrd5.out) (by omega)).mono ?_
        rintro e w6 ⟨jj, rfl, jj0, jj1, hr6, hg6⟩
        have jj2 := jj1 (by omega)
        clear jj1
        have hz6 : w5.heap.size ≤ w6.heap.size := by have := hg6.size; (try simp at this); omega
        have HR6 := Lib.hid (Blk.grown (blkDrew HR5.out) hg6 (by intro e; injection e with e; omega))
        clear HR5
        have HB6 := Lib.hid (Touch.below (bD1 HB5.out) (Touch.of_grown hg6) (fun i hi => by injection hi with hi; omega))
        clear HB5
        have Hin6 := Lib.hid (GateIn.touch (GateIn.drew Hin5.out) (Touch.of_grown hg6) (b := w1.heap.size) Hab1.out Hab2.out (fun i hi => by injection hi with hi; omega))
        clear Hin5
        have HM6 := Lib.hid (Blk.grown (blkDrew HM5.out) hg6 (by intro e; injection e with e; omega))
        clear HM5
        clear hg6
        clear Hrd5
        have Hrd6 := Lib.hid hr6; clear hr6
        have hgl6 : (w.heap.size + 1) < w6.heap.size := (Hrd6.out).lt
        obtain ⟨j, rfl⟩ := Int.eq_ofNat_of_zero_le jj0
        have hjl : j < u.deny.cards.length := by omega
        have i0 : (0 : Int) ≤ (j : Int) := by omega
        have i1 : (j : Int) < (u.deny.cards.length : Int) := by omega
        go_simp
        refine hK.out _ _ (by exact ⟨gateCells (t := 40) (v := u) HM6.out, by obtain ⟨b2, o2, eB, _, hr2⟩ := Ints.row (Hin6.out).1.1 hlc; rw [eA] at eB; injection eB with eB; injection eB with e1 e2 e3; subst e1; subst e2; exact row_getD (B := 0) hr2⟩) (fun hS => ?_)
        clear hK K
        refine take_at 9 38 (v := ?_) rfl rfl (by kernel_rfl) (by kernel_rfl) (by kernel_rfl) (fun _ _ _ h => h) (by rfl) ?_ hS ?_
        rotate_left 1
        · (intro w hSw; (try dsimp only at hSw); (try go_split_ands); go_simp; try with_reducible rfl)
        simp only [List.setIfInBounds_toArray, List.set_cons_zero, List.set_cons_succ]
        refine take_at 10 39 (v := ?_) rfl rfl (by kernel_rfl) (by kernel_rfl) (by kernel_rfl) (fun _ _ _ h => h) (by rfl) ?_ hS ?_
        rotate_left 1
        · (intro w hSw; (try dsimp only at hSw); (try go_split_ands); go_simp; try with_reducible rfl)
        simp only [List.setIfInBounds_toArray, List.set_cons_zero, List.set_cons_succ]
        refine take_at 11 9 (v := ?_) rfl rfl (by kernel_rfl) (by kernel_rfl) (by kernel_rfl) (fun _ _ _ h => h) (by rfl) ?_ hS ?_
        rotate_left 1
        · (intro w hSw; (try dsimp only at hSw); (try go_split_ands); go_simp; try with_reducible rfl)
        simp only [List.setIfInBounds_toArray, List.set_cons_zero, List.set_cons_succ]
        refine wpAnyH_done (by kernel_rfl) ?_ _
        clear hS hrw
        go_wp2_with fail
        go_meet
        exact ⟨_, _, rfl, (by omega : q + 1 + 1 + 1 ≤ 200), Hrd6.out, HM6.out, HR6.out, Hin6.out, HB6.out⟩
      · have h3' : (k3 == 0) = false := by simpa using h3
        obtain ⟨cM5_0, cM5_1, cM5_2, cM5_3, cM5_4⟩ := gateCells (t := 40) (v := u) HM5.out
        go_wp2_with fail
        go_meet
        exact ⟨_, _, rfl, (by omega : q + 1 + 1 ≤ 200), Hrd5.out, HM5.out, HR5.out, Hin5.out, HB5.out⟩
    case rest =>
      obtain ⟨cq, qq, rfl, hqq, hk0, hk1, hk2, hk3, hk4⟩ := hcut
      obtain ⟨w45, hwc⟩ : ∃ x, x = wc := ⟨_, rfl⟩
      subst hwc
      have Hk0 := Lib.hid hk0; clear hk0
      have Hk1 := Lib.hid hk1; clear hk1
      have Hk2 := Lib.hid hk2; clear hk2
      have Hk3 := Lib.hid hk3; clear hk3
      have Hk4 := Lib.hid hk4; clear hk4
      have hgl45 : (w.heap.size + 1) < w45.heap.size := (Hk0.out).lt
      have hzM := (Hk1.out).lt
      obtain ⟨cM45_0, cM45_1, cM45_2, cM45_3, cM45_4⟩ := gateCells (t := 40) (v := u) Hk1.out
      go_wp2_with fail
      refine (anyMinute_any (w.heap.size + 1) (qq) _ Hk0.out (by omega)).mono ?_
      rintro e w46 ⟨mi, q3, rfl, mi0, mi1, hq3, hr46, hg46⟩
      clear cM45_0 cM45_1 cM45_2 cM45_3 cM45_4
      have hz46 : w45.heap.size ≤ w46.heap.size := by have := hg46.size; (try simp at this); omega
      have HM46 := Lib.hid (Blk.grown Hk1.out hg46 (by intro e; injection e with e; omega))
      clear Hk1
      have HR46 := Lib.hid (Blk.grown Hk2.out hg46 (by intro e; injection e with e; omega))
      clear Hk2
      have Hin46 := Lib.hid (GateIn.touch Hk3.out (Touch.of_grown hg46) (b := w1.heap.size) Hab1.out Hab2.out (fun i hi => by injection hi with hi; omega))
      clear Hk3
      have HB46 := Lib.hid (Touch.below Hk4.out (Touch.of_grown hg46) (fun i hi => by injection hi with hi; omega))
      clear Hk4
      clear hg46
      clear Hk0
      have Hrd46 := Lib.hid hr46; clear hr46
      have hgl46 : (w.heap.size + 1) < w46.heap.size := (Hrd46.out).lt
      obtain ⟨cM46_0, cM46_1, cM46_2, cM46_3, cM46_4⟩ := gateCells (t := 40) (v := u) HM46.out
      go_wp2_with fail
      refine (someStop2_any _ _ _ Hrd46.out (by omega)).mono ?_
      rintro e w47 ⟨st, rfl, st0, st1, hr47, hg47⟩
      clear cM46_0 cM46_1 cM46_2 cM46_3 cM46_4
      have hz47 : w46.heap.size ≤ w47.heap.size := by have := hg47.size; (try simp at this); omega
      have HM47 := Lib.hid (Blk.grown HM46.out hg47 (by intro e; injection e with e; omega))
      clear HM46
      have HR47 := Lib.hid (Blk.grown HR46.out hg47 (by intro e; injection e with e; omega))
      clear HR46
      have Hin47 := Lib.hid (GateIn.touch Hin46.out (Touch.of_grown hg47) (b := w1.heap.size) Hab1.out Hab2.out (fun i hi => by injection hi with hi; omega))
      clear Hin46
      have HB47 := Lib.hid (Touch.below HB46.out (Touch.of_grown hg47) (fun i hi => by injection hi with hi; omega))
      clear HB46
      clear hg47
      clear Hrd46
      have Hrd47 := Lib.hid hr47; clear hr47
      have hgl47 : (w.heap.size + 1) < w47.heap.size := (Hrd47.out).lt
      obtain ⟨cM47_0, cM47_1, cM47_2, cM47_3, cM47_4⟩ := gateCells (t := 40) (v := u) HM47.out
      go_wp2
      clear cM47_0 cM47_1 cM47_2 cM47_3 cM47_4
      obtain ⟨cR47_0, cR47_1, cR47_2, cR47_3, cR47_4⟩ := gateCells (t := 40) (v := (⟨0, 0, ⟨0, none, 0, []⟩, none, 0, []⟩ : GateR)) HR47.out
      have frR47_0 := (HR47.out).free 0
      have frR47_1 := (HR47.out).free 1
      have frR47_2 := (HR47.out).free 2
      have frR47_3 := (HR47.out).free 3
      have frR47_4 := (HR47.out).free 4
      refine wp_region_held_drew (S := fun w' => w'.cell? ⟨w2.heap.size, 0, none⟩ = some (.int .i64 u.val) ∧ w'.cell? ⟨w2.heap.size, 1, none⟩ = some (.int .i64 u.nxt) ∧ w'.cell? ⟨w2.heap.size, 2, none⟩ = some (.int .i64 u.deny.ver) ∧ w'.cell? ⟨w2.heap.size, 3, none⟩ = some (.slice u.deny.cardsA u.deny.cards.length u.deny.cardsc) ∧ w'.cell? ⟨w2.heap.size, 4, none⟩ = some (.slice u.keptA u.kept.length u.keptc)) (by kernel_rfl) (by exact gateCells (t := 40) (v := u) HM47.out) (fun hS => ?_)
      refine take_at 0 44 (v := ?_) rfl rfl (by kernel_rfl) (by kernel_rfl) (by kernel_rfl) (fun _ _ _ h => h) (by rfl) ?_ hS ?_
      rotate_left 1
      · (intro w hSw; (try dsimp only at hSw); (try go_split_ands); go_simp; try with_reducible rfl)
      simp only [List.setIfInBounds_toArray, List.set_cons_zero, List.set_cons_succ]
      refine take_at 1 45 (v := ?_) rfl rfl (by kernel_rfl) (by kernel_rfl) (by kernel_rfl) (fun _ _ _ h => h) (by rfl) ?_ hS ?_
      rotate_left 1
      · (intro w hSw; (try dsimp only at hSw); (try go_split_ands); go_simp; try with_reducible rfl)
      simp only [List.setIfInBounds_toArray, List.set_cons_zero, List.set_cons_succ]
      refine take_at 2 46 (v := ?_) rfl rfl (by kernel_rfl) (by kernel_rfl) (by kernel_rfl) (fun _ _ _ h => h) (by rfl) ?_ hS ?_
      rotate_left 1
      · (intro w hSw; (try dsimp only at hSw); (try go_split_ands); go_simp; try with_reducible rfl)
      simp only [List.setIfInBounds_toArray, List.set_cons_zero, List.set_cons_succ]
      refine take_at 3 47 (v := ?_) rfl rfl (by kernel_rfl) (by kernel_rfl) (by kernel_rfl) (fun _ _ _ h => h) (by rfl) ?_ hS ?_
      rotate_left 1
      · (intro w hSw; (try dsimp only at hSw); (try go_split_ands); go_simp; try with_reducible rfl)
      simp only [List.setIfInBounds_toArray, List.set_cons_zero, List.set_cons_succ]
      refine take_at 4 48 (v := ?_) rfl rfl (by kernel_rfl) (by kernel_rfl) (by kernel_rfl) (fun _ _ _ h => h) (by rfl) ?_ hS ?_
      rotate_left 1
      · (intro w hSw; (try dsimp only at hSw); (try go_split_ands); go_simp; try with_reducible rfl)
      simp only [List.setIfInBounds_toArray, List.set_cons_zero, List.set_cons_succ]
      refine wpAnyH_ready (rs := [5]) (by kernel_rfl) (by simp) ?_
      refine AllReadyH.cons rfl (fun K hK => ?_) (AllReadyH.nil)
      go_simp
      go_wp2_with fail
      refine (pick_any (w.heap.size + 1) (q3 + 1) (2) _ (Rd.drew Hrd47.out) (by omega)).mono ?_
      rintro e w48 ⟨ow, rfl, ow0, ow1, hr48, hg48⟩
      have ow2 := ow1 (by omega)
      clear ow1
      clear cR47_0 cR47_1 cR47_2 cR47_3 cR47_4 frR47_0 frR47_1 frR47_2 frR47_3 frR47_4
      have hz48 : w47.heap.size ≤ w48.heap.size := by have := hg48.size; (try simp at this); omega
      have HM48 := Lib.hid (Blk.grown (blkDrew HM47.out) hg48 (by intro e; injection e with e; omega))
      clear HM47
      have HR48 := Lib.hid (Blk.grown (blkDrew HR47.out) hg48 (by intro e; injection e with e; omega))
      clear HR47
      have Hin48 := Lib.hid (GateIn.touch (GateIn.drew Hin47.out) (Touch.of_grown hg48) (b := w1.heap.size) Hab1.out Hab2.out (fun i hi => by injection hi with hi; omega))
      clear Hin47
      have HB48 := Lib.hid (Touch.below (bD1 HB47.out) (Touch.of_grown hg48) (fun i hi => by injection hi with hi; omega))
      clear HB47
      clear hg48
      clear Hrd47
      have Hrd48 := Lib.hid hr48; clear hr48
      have hgl48 : (w.heap.size + 1) < w48.heap.size := (Hrd48.out).lt
      obtain ⟨cR48_0, cR48_1, cR48_2, cR48_3, cR48_4⟩ := gateCells (t := 40) (v := (⟨0, 0, ⟨0, none, 0, []⟩, none, 0, []⟩ : GateR)) HR48.out
      have frR48_0 := (HR48.out).free 0
      have frR48_1 := (HR48.out).free 1
      have frR48_2 := (HR48.out).free 2
      have frR48_3 := (HR48.out).free 3
      have frR48_4 := (HR48.out).free 4
      go_simp
      refine hK.out _ _ (by exact gateCells (t := 40) (v := u) HM48.out) (fun hS => ?_)
      clear hK K
      refine take_at 6 50 (v := ?_) rfl rfl (by kernel_rfl) (by kernel_rfl) (by kernel_rfl) (fun _ _ _ h => h) (by rfl) ?_ hS ?_
      rotate_left 1
      · (intro w hSw; (try dsimp only at hSw); (try go_split_ands); go_simp; try with_reducible rfl)
      simp only [List.setIfInBounds_toArray, List.set_cons_zero, List.set_cons_succ]
      refine wpAnyH_ready (rs := [7]) (by kernel_rfl) (by simp) ?_
      refine AllReadyH.cons rfl (fun K hK => ?_) (AllReadyH.nil)
      go_simp
      generalize hW : World.setCell _ _ _ = w49
      have ht49 : Touch (fun i => i = w.heap.size) w48 w49 := by rw [← hW]; exact (Touch.far (K := fun i => i = w.heap.size) (Touch.far (K := fun i => i = w.heap.size) (Touch.far (K := fun i => i = w.heap.size) (Touch.far (K := fun i => i = w.heap.size) (Touch.far (K := fun i => i = w.heap.size) (Touch.refl _ _) (p := ⟨w.heap.size, 0, none⟩) rfl _) (p := ⟨w.heap.size, 1, none⟩) rfl _) (p := ⟨w.heap.size, 2, none⟩) rfl _) (p := ⟨w.heap.size, 3, none⟩) rfl _) (p := ⟨w.heap.size, 4, none⟩) rfl _)
      have hbx49 : Blk w49 (w.heap.size) 40 (GateR.cells u) := by rw [← hW]; exact gate_put HR48.out
      clear hW
      clear cR48_0 cR48_1 cR48_2 cR48_3 cR48_4 frR48_0 frR48_1 frR48_2 frR48_3 frR48_4
      have hz49 : w48.heap.size ≤ w49.heap.size := by have := ht49.size; (try simp at this); omega
      have HM49 := Lib.hid (Blk.touch HM48.out ht49 (show ¬ (w2.heap.size = w.heap.size) by omega))
      clear HM48
      have Hin49 := Lib.hid (GateIn.touch Hin48.out ht49 (b := w1.heap.size) Hab1.out Hab2.out (fun i hi => by have hi2 : i = w.heap.size := hi; omega))
      clear Hin48
      have HB49 := Lib.hid (Touch.below HB48.out ht49 (fun i hi => by omega))
      clear HB48
      clear ht49 HR48
      have Hbx49 := Lib.hid hbx49; clear hbx49
      obtain ⟨cR49_0, cR49_1, cR49_2, cR49_3, cR49_4⟩ := gateCells (t := 40) (v := u) Hbx49.out
      have frR49_0 := (Hbx49.out).free 0
      have frR49_1 := (Hbx49.out).free 1
      have frR49_2 := (Hbx49.out).free 2
      have frR49_3 := (Hbx49.out).free 3
      have frR49_4 := (Hbx49.out).free 4
      refine hK.out _ _ (by exact gateCells (t := 40) (v := u) HM49.out) (fun hS => ?_)
      clear hK K
      refine take_at 8 3 (v := ?_) rfl rfl (by kernel_rfl) (by kernel_rfl) (by kernel_rfl) (fun _ _ _ h => h) (by rfl) ?_ hS ?_
      rotate_left 1
      · (intro w hSw; (try dsimp only at hSw); (try go_split_ands); go_simp; try with_reducible rfl)
      simp only [List.setIfInBounds_toArray, List.set_cons_zero, List.set_cons_succ]
      refine take_at 9 4 (v := ?_) rfl rfl (by kernel_rfl) (by kernel_rfl) (by kernel_rfl) (fun _ _ _ h => h) (by rfl) ?_ hS ?_
      rotate_left 1
      · (intro w hSw; (try dsimp only at hSw); (try go_split_ands); go_simp; try with_reducible rfl)
      simp only [List.setIfInBounds_toArray, List.set_cons_zero, List.set_cons_succ]
      refine take_at 10 5 (v := ?_) rfl rfl (by kernel_rfl) (by kernel_rfl) (by kernel_rfl) (fun _ _ _ h => h) (by rfl) ?_ hS ?_
      rotate_left 1
      · (intro w hSw; (try dsimp only at hSw); (try go_split_ands); go_simp; try with_reducible rfl)
      simp only [List.setIfInBounds_toArray, List.set_cons_zero, List.set_cons_succ]
      refine take_at 11 6 (v := ?_) rfl rfl (by kernel_rfl) (by kernel_rfl) (by kernel_rfl) (fun _ _ _ h => h) (by rfl) ?_ hS ?_
      rotate_left 1
      · (intro w hSw; (try dsimp only at hSw); (try go_split_ands); go_simp; try with_reducible rfl)
      simp only [List.setIfInBounds_toArray, List.set_cons_zero, List.set_cons_succ]
      refine wpAnyH_done (by kernel_rfl) ?_ _
      clear hS
      go_wp2
      obtain ⟨z0, z1, z2, z3, z4⟩ := gateCells (t := 40) (v := u) Hbx49.out
      exact bodyPost_ret (v := .tuple #[gateV u, .int .i64 (cq), .int .i64 mi, .int .i64 st, .bool (ow == 0)]) (by simp [results, Try.results37, go_sem, gateV, z0, z1, z2, z3, z4]) rfl ⟨u, cq, mi, st, (ow == 0), rfl, Hin49.out, hl1, hl2, HB49.out⟩
  · have hln : decide ((0 : Int) < (u.deny.cards.length : Int)) = false := by rw [decide_eq_false_iff_not]; omega
    obtain ⟨cM4_0, cM4_1, cM4_2, cM4_3, cM4_4⟩ := gateCells (t := 40) (v := u) HM4.out
    go_wp2_with fail
    refine (anyMinute_any (w.heap.size + 1) (q + 1) _ Hrd4.out (by omega)).mono ?_
    rintro e w5 ⟨mi, q3, rfl, mi0, mi1, hq3, hr5, hg5⟩
    clear cM4_0 cM4_1 cM4_2 cM4_3 cM4_4
    have hz5 : w4.heap.size ≤ w5.heap.size := by have := hg5.size; (try simp at this); omega
    have HR5 := Lib.hid (Blk.grown HR4.out hg5 (by intro e; injection e with e; omega))
    clear HR4
    have HB5 := Lib.hid (Touch.below HB4.out (Touch.of_grown hg5) (fun i hi => by injection hi with hi; omega))
    clear HB4
    have Hin5 := Lib.hid (GateIn.touch Hin4.out (Touch.of_grown hg5) (b := w1.heap.size) Hab1.out Hab2.out (fun i hi => by injection hi with hi; omega))
    clear Hin4
    have HM5 := Lib.hid (Blk.grown HM4.out hg5 (by intro e; injection e with e; omega))
    clear HM4
    clear hg5
    clear Hrd4
    have Hrd5 := Lib.hid hr5; clear hr5
    have hgl5 : (w.heap.size + 1) < w5.heap.size := (Hrd5.out).lt
    obtain ⟨cM5_0, cM5_1, cM5_2, cM5_3, cM5_4⟩ := gateCells (t := 40) (v := u) HM5.out
    go_wp2_with fail
    refine (someStop2_any _ _ _ Hrd5.out (by omega)).mono ?_
    rintro e w6 ⟨st, rfl, st0, st1, hr6, hg6⟩
    clear cM5_0 cM5_1 cM5_2 cM5_3 cM5_4
    have hz6 : w5.heap.size ≤ w6.heap.size := by have := hg6.size; (try simp at this); omega
    have HR6 := Lib.hid (Blk.grown HR5.out hg6 (by intro e; injection e with e; omega))
    clear HR5
    have HB6 := Lib.hid (Touch.below HB5.out (Touch.of_grown hg6) (fun i hi => by injection hi with hi; omega))
    clear HB5
    have Hin6 := Lib.hid (GateIn.touch Hin5.out (Touch.of_grown hg6) (b := w1.heap.size) Hab1.out Hab2.out (fun i hi => by injection hi with hi; omega))
    clear Hin5
    have HM6 := Lib.hid (Blk.grown HM5.out hg6 (by intro e; injection e with e; omega))
    clear HM5
    clear hg6
    clear Hrd5
    have Hrd6 := Lib.hid hr6; clear hr6
    have hgl6 : (w.heap.size + 1) < w6.heap.size := (Hrd6.out).lt
    obtain ⟨cM6_0, cM6_1, cM6_2, cM6_3, cM6_4⟩ := gateCells (t := 40) (v := u) HM6.out
    go_wp2
    clear cM6_0 cM6_1 cM6_2 cM6_3 cM6_4
    obtain ⟨cR6_0, cR6_1, cR6_2, cR6_3, cR6_4⟩ := gateCells (t := 40) (v := (⟨0, 0, ⟨0, none, 0, []⟩, none, 0, []⟩ : GateR)) HR6.out
    have frR6_0 := (HR6.out).free 0
    have frR6_1 := (HR6.out).free 1
    have frR6_2 := (HR6.out).free 2
    have frR6_3 := (HR6.out).free 3
    have frR6_4 := (HR6.out).free 4
    refine wp_region_held_drew (S := fun w' => w'.cell? ⟨w2.heap.size, 0, none⟩ = some (.int .i64 u.val) ∧ w'.cell? ⟨w2.heap.size, 1, none⟩ = some (.int .i64 u.nxt) ∧ w'.cell? ⟨w2.heap.size, 2, none⟩ = some (.int .i64 u.deny.ver) ∧ w'.cell? ⟨w2.heap.size, 3, none⟩ = some (.slice u.deny.cardsA u.deny.cards.length u.deny.cardsc) ∧ w'.cell? ⟨w2.heap.size, 4, none⟩ = some (.slice u.keptA u.kept.length u.keptc)) (by kernel_rfl) (by exact gateCells (t := 40) (v := u) HM6.out) (fun hS => ?_)
    refine take_at 0 44 (v := ?_) rfl rfl (by kernel_rfl) (by kernel_rfl) (by kernel_rfl) (fun _ _ _ h => h) (by rfl) ?_ hS ?_
    rotate_left 1
    · (intro w hSw; (try dsimp only at hSw); (try go_split_ands); go_simp; try with_reducible rfl)
    simp only [List.setIfInBounds_toArray, List.set_cons_zero, List.set_cons_succ]
    refine take_at 1 45 (v := ?_) rfl rfl (by kernel_rfl) (by kernel_rfl) (by kernel_rfl) (fun _ _ _ h => h) (by rfl) ?_ hS ?_
    rotate_left 1
    · (intro w hSw; (try dsimp only at hSw); (try go_split_ands); go_simp; try with_reducible rfl)
    simp only [List.setIfInBounds_toArray, List.set_cons_zero, List.set_cons_succ]
    refine take_at 2 46 (v := ?_) rfl rfl (by kernel_rfl) (by kernel_rfl) (by kernel_rfl) (fun _ _ _ h => h) (by rfl) ?_ hS ?_
    rotate_left 1
    · (intro w hSw; (try dsimp only at hSw); (try go_split_ands); go_simp; try with_reducible rfl)
    simp only [List.setIfInBounds_toArray, List.set_cons_zero, List.set_cons_succ]
    refine take_at 3 47 (v := ?_) rfl rfl (by kernel_rfl) (by kernel_rfl) (by kernel_rfl) (fun _ _ _ h => h) (by rfl) ?_ hS ?_
    rotate_left 1
    · (intro w hSw; (try dsimp only at hSw); (try go_split_ands); go_simp; try with_reducible rfl)
    simp only [List.setIfInBounds_toArray, List.set_cons_zero, List.set_cons_succ]
    refine take_at 4 48 (v := ?_) rfl rfl (by kernel_rfl) (by kernel_rfl) (by kernel_rfl) (fun _ _ _ h => h) (by rfl) ?_ hS ?_
    rotate_left 1
    · (intro w hSw; (try dsimp only at hSw); (try go_split_ands); go_simp; try with_reducible rfl)
    simp only [List.setIfInBounds_toArray, List.set_cons_zero, List.set_cons_succ]
    refine wpAnyH_ready (rs := [5]) (by kernel_rfl) (by simp) ?_
    refine AllReadyH.cons rfl (fun K hK => ?_) (AllReadyH.nil)
    go_simp
    go_wp2_with fail
    refine (pick_any (w.heap.size + 1) (q3 + 1) (2) _ (Rd.drew Hrd6.out) (by omega)).mono ?_
    rintro e w7 ⟨ow, rfl, ow0, ow1, hr7, hg7⟩
    have ow2 := ow1 (by omega)
    clear ow1
    clear cR6_0 cR6_1 cR6_2 cR6_3 cR6_4 frR6_0 frR6_1 frR6_2 frR6_3 frR6_4
    have hz7 : w6.heap.size ≤ w7.heap.size := by have := hg7.size; (try simp at this); omega
    have HR7 := Lib.hid (Blk.grown (blkDrew HR6.out) hg7 (by intro e; injection e with e; omega))
    clear HR6
    have HB7 := Lib.hid (Touch.below (bD1 HB6.out) (Touch.of_grown hg7) (fun i hi => by injection hi with hi; omega))
    clear HB6
    have Hin7 := Lib.hid (GateIn.touch (GateIn.drew Hin6.out) (Touch.of_grown hg7) (b := w1.heap.size) Hab1.out Hab2.out (fun i hi => by injection hi with hi; omega))
    clear Hin6
    have HM7 := Lib.hid (Blk.grown (blkDrew HM6.out) hg7 (by intro e; injection e with e; omega))
    clear HM6
    clear hg7
    clear Hrd6
    have Hrd7 := Lib.hid hr7; clear hr7
    have hgl7 : (w.heap.size + 1) < w7.heap.size := (Hrd7.out).lt
    obtain ⟨cR7_0, cR7_1, cR7_2, cR7_3, cR7_4⟩ := gateCells (t := 40) (v := (⟨0, 0, ⟨0, none, 0, []⟩, none, 0, []⟩ : GateR)) HR7.out
    have frR7_0 := (HR7.out).free 0
    have frR7_1 := (HR7.out).free 1
    have frR7_2 := (HR7.out).free 2
    have frR7_3 := (HR7.out).free 3
    have frR7_4 := (HR7.out).free 4
    go_simp
    refine hK.out _ _ (by exact gateCells (t := 40) (v := u) HM7.out) (fun hS => ?_)
    clear hK K
    refine take_at 6 50 (v := ?_) rfl rfl (by kernel_rfl) (by kernel_rfl) (by kernel_rfl) (fun _ _ _ h => h) (by rfl) ?_ hS ?_
    rotate_left 1
    · (intro w hSw; (try dsimp only at hSw); (try go_split_ands); go_simp; try with_reducible rfl)
    simp only [List.setIfInBounds_toArray, List.set_cons_zero, List.set_cons_succ]
    refine wpAnyH_ready (rs := [7]) (by kernel_rfl) (by simp) ?_
    refine AllReadyH.cons rfl (fun K hK => ?_) (AllReadyH.nil)
    go_simp
    generalize hW : World.setCell _ _ _ = w8
    have ht8 : Touch (fun i => i = w.heap.size) w7 w8 := by rw [← hW]; exact (Touch.far (K := fun i => i = w.heap.size) (Touch.far (K := fun i => i = w.heap.size) (Touch.far (K := fun i => i = w.heap.size) (Touch.far (K := fun i => i = w.heap.size) (Touch.far (K := fun i => i = w.heap.size) (Touch.refl _ _) (p := ⟨w.heap.size, 0, none⟩) rfl _) (p := ⟨w.heap.size, 1, none⟩) rfl _) (p := ⟨w.heap.size, 2, none⟩) rfl _) (p := ⟨w.heap.size, 3, none⟩) rfl _) (p := ⟨w.heap.size, 4, none⟩) rfl _)
    have hbx8 : Blk w8 (w.heap.size) 40 (GateR.cells u) := by rw [← hW]; exact gate_put HR7.out
    clear hW
    clear cR7_0 cR7_1 cR7_2 cR7_3 cR7_4 frR7_0 frR7_1 frR7_2 frR7_3 frR7_4
    have hz8 : w7.heap.size ≤ w8.heap.size := by have := ht8.size; (try simp at this); omega
    have HB8 := Lib.hid (Touch.below HB7.out ht8 (fun i hi => by omega))
    clear HB7
    have Hin8 := Lib.hid (GateIn.touch Hin7.out ht8 (b := w1.heap.size) Hab1.out Hab2.out (fun i hi => by have hi2 : i = w.heap.size := hi; omega))
    clear Hin7
    have HM8 := Lib.hid (Blk.touch HM7.out ht8 (show ¬ (w2.heap.size = w.heap.size) by omega))
    clear HM7
    clear ht8 HR7
    have Hbx8 := Lib.hid hbx8; clear hbx8
    obtain ⟨cR8_0, cR8_1, cR8_2, cR8_3, cR8_4⟩ := gateCells (t := 40) (v := u) Hbx8.out
    have frR8_0 := (Hbx8.out).free 0
    have frR8_1 := (Hbx8.out).free 1
    have frR8_2 := (Hbx8.out).free 2
    have frR8_3 := (Hbx8.out).free 3
    have frR8_4 := (Hbx8.out).free 4
    refine hK.out _ _ (by exact gateCells (t := 40) (v := u) HM8.out) (fun hS => ?_)
    clear hK K
    refine take_at 8 3 (v := ?_) rfl rfl (by kernel_rfl) (by kernel_rfl) (by kernel_rfl) (fun _ _ _ h => h) (by rfl) ?_ hS ?_
    rotate_left 1
    · (intro w hSw; (try dsimp only at hSw); (try go_split_ands); go_simp; try with_reducible rfl)
    simp only [List.setIfInBounds_toArray, List.set_cons_zero, List.set_cons_succ]
    refine take_at 9 4 (v := ?_) rfl rfl (by kernel_rfl) (by kernel_rfl) (by kernel_rfl) (fun _ _ _ h => h) (by rfl) ?_ hS ?_
    rotate_left 1
    · (intro w hSw; (try dsimp only at hSw); (try go_split_ands); go_simp; try with_reducible rfl)
    simp only [List.setIfInBounds_toArray, List.set_cons_zero, List.set_cons_succ]
    refine take_at 10 5 (v := ?_) rfl rfl (by kernel_rfl) (by kernel_rfl) (by kernel_rfl) (fun _ _ _ h => h) (by rfl) ?_ hS ?_
    rotate_left 1
    · (intro w hSw; (try dsimp only at hSw); (try go_split_ands); go_simp; try with_reducible rfl)
    simp only [List.setIfInBounds_toArray, List.set_cons_zero, List.set_cons_succ]
    refine take_at 11 6 (v := ?_) rfl rfl (by kernel_rfl) (by kernel_rfl) (by kernel_rfl) (fun _ _ _ h => h) (by rfl) ?_ hS ?_
    rotate_left 1
    · (intro w hSw; (try dsimp only at hSw); (try go_split_ands); go_simp; try with_reducible rfl)
    simp only [List.setIfInBounds_toArray, List.set_cons_zero, List.set_cons_succ]
    refine wpAnyH_done (by kernel_rfl) ?_ _
    clear hS
    go_wp2
    obtain ⟨z0, z1, z2, z3, z4⟩ := gateCells (t := 40) (v := u) Hbx8.out
    exact bodyPost_ret (v := .tuple #[gateV u, .int .i64 (c0), .int .i64 mi, .int .i64 st, .bool (ow == 0)]) (by simp [results, Try.results37, go_sem, gateV, z0, z1, z2, z3, z4]) rfl ⟨u, c0, mi, st, (ow == 0), rfl, Hin8.out, hl1, hl2, HB8.out⟩
end Go.Proofs.Ytpijjlggmibfnaa
