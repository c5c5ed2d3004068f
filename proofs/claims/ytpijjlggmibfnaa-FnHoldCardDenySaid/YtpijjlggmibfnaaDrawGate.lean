/-
  Drawn validators.
-/
import Derived.Test.YtpijjlggmibfnaaTakeFn
import Derived.Test.YtpijjlggmibfnaaDrawsDeny
import Derived.Test.YtpijjlggmibfnaaDrawTime
set_option linter.unusedSimpArgs false
namespace Go.Proofs.Ytpijjlggmibfnaa
open Go.RowKit Go.Deep
set_option linter.unusedVariables false

theorem Fares.holdCard_len (g : Fares.Gate) (c m s : Int) (o : Bool) : (Fares.holdCard g c m s o).1.deny.cards.length ≤ 12 ∧ (Fares.holdCard g c m s o).1.kept.length ≤ 10 := by
  unfold Fares.holdCard
  by_cases h : Fares.validGate g = true ∧ Fares.cardOk c m s
  · rw [if_pos h]
    obtain ⟨_, _, _, _, f4, f5⟩ := Fares.validGate_facts h.1
    by_cases hs : Fares.stays g c o = true
    · rw [if_pos hs]; exact ⟨f5, f4⟩
    · rw [if_neg hs]
      refine ⟨f5, ?_⟩
      show (g.kept ++ [_]).length ≤ 10
      rw [List.length_append, List.length_singleton]
      unfold Fares.stays at hs
      simp only [Bool.or_eq_true, decide_eq_true_eq, not_or] at hs
      have := hs.1.2
      omega
  · rw [if_neg h]; exact ⟨Nat.zero_le _, Nat.zero_le _⟩
theorem reads_touch {w w' : World} {A : Option Addr} {vs : List Value} {K : Nat → Prop} {b : Nat} (h : Reads w w.heap.size A vs) (k : Touch K w w') (hb : ∀ a, A = some a → b ≤ a.block) (hk : ∀ i, K i → i < b) : Reads w' w'.heap.size A vs := fun hne => by
  obtain ⟨a0, e0, hb0, hc0⟩ := h hne
  have h0 := hb a0 e0
  refine ⟨a0, e0, Nat.lt_of_lt_of_le hb0 k.size, fun i t ht => ?_⟩
  rw [World.cell?_of_block (k.block _ (by rw [add_block]; exact hb0) (by rw [add_block]; intro hh; have := hk _ hh; omega))]
  exact hc0 i t ht
/-- A validator that was drawn. -/
def AnyGate (M g p : Nat) (w : World) (e : Ending) (w' : World) : Prop :=
  ∃ (u : GateR) (q : Nat), e = .returned (gateV u) ∧ GateIn w' w'.heap.size u ∧ (∀ a, u.deny.cardsA = some a → w.heap.size ≤ a.block) ∧ (∀ a, u.keptA = some a → w.heap.size ≤ a.block) ∧ u.deny.cards.length ≤ 14 ∧ u.kept.length ≤ 11 ∧ q ≤ p + M ∧ Rd w' g q ∧ w.grownBy w' (some g)
theorem own_block_ge {w : World} {lo size n m c : Nat} {t : TypeId} {A : Option Addr} {xs : List Value} (h : w.ownsRow lo t size (.slice A m c) n xs) : ∀ a, A = some a → lo ≤ a.block := fun a ha => (World.ownsRow.lt h a.block (by rw [ha]; rfl)).1
set_option maxRecDepth 100000 in
set_option maxHeartbeats 8000000 in
theorem anyGate_any (g p : Nat) (w : World) (hr : Rd w g p) (hp : p ≤ 30000) :
    Calls Try.prog 65 #[.pointer (some ⟨g, 0, none⟩)] w (AnyGate 130 g p w) := by
  have hgw := hr.lt
  have Hr0 := Lib.hid hr; clear hr
  obtain ⟨ti, hi0_, hz0_, hz1_, hz2_⟩ := info_parts info_tapC
  have HITap := Lib.hid hi0_; clear hi0_
  have HZ0Tap := Lib.hid hz0_; clear hz0_
  have HZ1Tap := Lib.hid hz1_; clear hz1_
  have HZ2Tap := Lib.hid hz2_; clear hz2_
  go_enter Try.func65, Try.ntmps65
  go_wp2_with fail
  generalize hW : World.alloc _ _ = w1
  have hr1 : Blk w1 w.heap.size 40 (GateR.cells (⟨0, 0, ⟨0, none, 0, []⟩, none, 0, []⟩ : GateR)) := by rw [← hW]; exact Blk.new w _ _
  have HG1 : Hid (w.grownBy w1 (some g)) := Lib.hid (by rw [← hW]; exact grown_alloc (grown_refl _ _) _)
  have Hrd1 : Hid (Rd w1 g p) := Lib.hid (by rw [← hW]; exact Rd.alloc Hr0.out _)
  have hz1 : w.heap.size < w1.heap.size := by rw [← hW]; simp
  clear hW Hr0
  have Hbr1 := Lib.hid hr1; clear hr1
  refine (pick_any g (p) (10) _ Hrd1.out (by omega)).mono ?_
  rintro e w2 ⟨va, rfl, va0, va1, hr2, hg2⟩
  have va2 := va1 (by omega)
  clear va1
  have hz2 : w1.heap.size ≤ w2.heap.size := by have := hg2.size; (try simp at this); omega
  have HG2 := Lib.hid (grown_trans HG1.out hg2)
  clear HG1
  have HR2 := Lib.hid (Blk.grown Hbr1.out hg2 (by intro e; injection e with e; omega))
  clear Hbr1
  clear hg2
  clear Hrd1
  have Hrd2 := Lib.hid hr2; clear hr2
  have hgl2 : g < w2.heap.size := (Hrd2.out).lt
  go_wp2_with fail
  generalize hW : World.alloc _ _ = w3
  have hN : Blk w3 w2.heap.size 3 #[.int .i64 0, .int .i64 5, .int .i64 990, .int .i64 100] := by rw [← hW]; exact Blk.new _ _ _
  have hb3 : Below w2.heap.size w2 w3 := by rw [← hW]; exact bA (Below.refl _ _) _
  clear hW
  have hz3 : w2.heap.size ≤ w3.heap.size := by have := hb3.size; (try simp at this); omega
  have HG3 := Lib.hid (grown_trans HG2.out (grown_of_below hb3 _))
  clear HG2
  have Hrd3 := Lib.hid (Rd.belowAll Hrd2.out hb3)
  clear Hrd2
  have HR3 := Lib.hid (Blk.belowAll HR2.out hb3)
  clear HR2
  clear hb3
  refine (one_in g (p + 1) _ [0, 5, 990, 100] (0) 990 4 4 _ _ Hrd3.out (by omega) hN (by omega) rfl rfl (by omega) (by omega) (by decide)).mono ?_
  rintro e w4 ⟨nx, rfl, nx0, nx1, hr4, hg4⟩
  have hz4 : w3.heap.size ≤ w4.heap.size := by have := hg4.size; (try simp at this); omega
  have HG4 := Lib.hid (grown_trans HG3.out hg4)
  clear HG3
  have HR4 := Lib.hid (Blk.grown HR3.out hg4 (by intro e; injection e with e; omega))
  clear HR3
  clear hg4
  clear Hrd3
  have Hrd4 := Lib.hid hr4; clear hr4
  have hgl4 : g < w4.heap.size := (Hrd4.out).lt
  clear hN
  go_wp2_with fail
  refine (randomDeny_any g (p + 1 + 1) _ Hrd4.out (by omega)).mono ?_
  rintro e w5 ⟨dd, q0, rfl, hownE, hvd, hq0, hr5, hg5⟩
  have hz5 : w4.heap.size ≤ w5.heap.size := by have := hg5.size; (try simp at this); omega
  have HG5 := Lib.hid (grown_trans HG4.out hg5)
  clear HG4
  have HR5 := Lib.hid (Blk.grown HR4.out hg5 (by intro e; injection e with e; omega))
  clear HR4
  clear hg5
  clear Hrd4
  have Hrd5 := Lib.hid hr5; clear hr5
  have hgl5 : g < w5.heap.size := (Hrd5.out).lt
  unfold denyV
  have hdl : dd.cards.length ≤ 12 := (Fares.validDeny_facts hvd).2.2.1
  clear hvd
  have LTE := Lib.hid (fun k hk => (DenyOwn.lt hownE k hk).1)
  have UPE := Lib.hid (fun k hk => (DenyOwn.lt hownE k hk).2)
  have HoE := Lib.hid hownE; clear hownE
  go_wp2_with fail
  generalize hW : World.alloc _ _ = w6
  have hK : World.ownsRow w6 (w5.heap.size) 57 6 (.slice (some ⟨w5.heap.size, 0, none⟩) 0 0) 0 [] := by rw [← hW]; exact World.ownsRow.alloc (World.ownsRow.alloc (World.ownsRow_lit (base := w5.heap.size) (e := 57) (size := 6) w5 #[] 0 (Nat.le_refl _) (by unfold maxLen; omega) rfl) _) _
  have hD : Blk w6 (w5.heap.size + 1) 40 (GateR.cells (⟨va, nx, dd, some ⟨w5.heap.size, 0, none⟩, 0, []⟩ : GateR)) := by rw [← hW]; exact (Blk.new' (by simp)).alloc _
  have hN : Blk w6 (w5.heap.size + 1 + 1) 3 #[.int .i64 3, .int .i64 5, .int .i64 2, .int .i64 0, .int .i64 12] := by rw [← hW]; exact Blk.new' (by simp)
  have hb6 : Below w5.heap.size w5 w6 := by rw [← hW]; exact bA (bA (bA (Below.refl _ _) _) _) _
  have hy6 : w5.heap.size + 1 + 1 < w6.heap.size := by rw [← hW]; simp
  clear hW
  have hz6 : w5.heap.size ≤ w6.heap.size := by have := hb6.size; (try simp at this); omega
  have HG6 := Lib.hid (grown_trans HG5.out (grown_of_below hb6 _))
  clear HG5
  have Hrd6 := Lib.hid (Rd.belowAll Hrd5.out hb6)
  clear Hrd5
  have HR6 := Lib.hid (Blk.belowAll HR5.out hb6)
  clear HR5
  have HE6 := Lib.hid (DenyOwn.below HoE.out hb6)
  clear HoE
  clear hb6
  have HbD := Lib.hid hD; clear hD
  have hU : GateOwn w6 (w.heap.size + 1) (⟨va, nx, dd, some ⟨w5.heap.size, 0, none⟩, 0, []⟩ : GateR) := ⟨DenyOwn.base HE6.out (by omega), ownBase hK (by omega), fun k h1 h2 => by have a1 := UPE.out k h1; have e2 : w5.heap.size = k := (by injection h2); omega⟩
  have hUne : ∀ k, GateBlocks (⟨va, nx, dd, some ⟨w5.heap.size, 0, none⟩, 0, []⟩ : GateR) k → k ≠ w5.heap.size + 1 := fun k hk e => by
      rcases hk with hk | hk
      · have a1 := UPE.out k hk; omega
      · have e2 : w5.heap.size = k := (by injection hk)
        omega
  clear hK
  have LTU := Lib.hid (fun k hk => (GateOwn.lt hU k hk).1)
  have UPU := Lib.hid (fun k hk => (GateOwn.lt hU k hk).2)
  have HoU := Lib.hid hU; clear hU
  have NEU := Lib.hid hUne; clear hUne
  refine (one_in g (q0) _ [3, 5, 2, 0, 12] (0) 12 5 5 _ _ Hrd6.out (by omega) hN (by omega) rfl rfl (by omega) (by omega) (by decide)).mono ?_
  rintro e w7 ⟨nn, rfl, nn0, nn1, hr7, hg7⟩
  have hz7 : w6.heap.size ≤ w7.heap.size := by have := hg7.size; (try simp at this); omega
  have HG7 := Lib.hid (grown_trans HG6.out hg7)
  clear HG6
  have HR7 := Lib.hid (Blk.grown HR6.out hg7 (by intro e; injection e with e; omega))
  clear HR6
  have HD7 := Lib.hid (Blk.grown HbD.out hg7 (by intro e; injection e with e; omega))
  clear HbD
  have HU7 := Lib.hid (GateOwn.touch HoU.out (Touch.of_grown hg7) (fun i hi e0 => by injection e0 with e0; have a1 := LTU.out _ hi; omega))
  clear HoU
  clear hg7
  clear Hrd6
  have Hrd7 := Lib.hid hr7; clear hr7
  have hgl7 : g < w7.heap.size := (Hrd7.out).lt
  clear hN
  obtain ⟨nk, rfl⟩ := Int.eq_ofNat_of_zero_le nn0
  go_wp2
  go_loopw [4] (fun i wr => ∃ (k : Nat) (u : GateR) (q : Nat), i = .int .i64 k ∧ k ≤ 12 ∧ q + 6 * k ≤ p + 100 ∧ Blk wr (w5.heap.size + 1) 40 u.cells ∧ Blk wr w.heap.size 40 (GateR.cells (⟨0, 0, ⟨0, none, 0, []⟩, none, 0, []⟩ : GateR)) ∧ GateOwn wr (w.heap.size + 1) u ∧ Hid (∀ k, GateBlocks u k → k ≠ w5.heap.size + 1) ∧ u.deny.cards.length ≤ 12 ∧ u.kept.length ≤ 10 ∧ Rd wr g q ∧ w.grownBy wr (some g) ∧ w7.heap.size ≤ wr.heap.size) (fun i _ => (intOf i).toNat)
  case atStart => exact ⟨nk, (⟨va, nx, dd, some ⟨w5.heap.size, 0, none⟩, 0, []⟩ : GateR), q0 + 1, rfl, by omega, by omega, HD7.out, HR7.out, HU7.out, NEU, hdl, Nat.zero_le _, Hrd7.out, HG7.out, by omega⟩
  case round =>
    obtain ⟨k, u, q, rfl, hk12, hqk, hD, hR, hU, NEU1, hl1, hl2, hrd, hG, hzr⟩ := hrel
    have HD := Lib.hid hD; clear hD
    have HR := Lib.hid hR; clear hR
    have Hrd := Lib.hid hrd; clear hrd
    have HG := Lib.hid hG; clear hG
    have hz20 := hzr
    by_cases hk0 : 0 < k
    · have LTV := Lib.hid (fun k hk => (GateOwn.lt hU k hk).1)
      have UPV := Lib.hid (fun k hk => (GateOwn.lt hU k hk).2)
      have HoV := Lib.hid hU; clear hU
      have hk1 : (0 : Int) < (k : Int) := by omega
      obtain ⟨k', rfl⟩ : ∃ k', k = k' + 1 := ⟨k - 1, by omega⟩
      have hsm : GateSmall u := ⟨Nat.le_trans hl1 (by omega), Nat.le_trans hl2 (by omega)⟩
      have Hsm := Lib.hid hsm; clear hsm
      go_wp2
      obtain ⟨cD20_0, cD20_1, cD20_2, cD20_3, cD20_4⟩ := gateCells (t := 40) (v := u) HD.out
      refine wp_region_held_drew (S := fun w' => True) (by kernel_rfl) (by trivial) (fun hS => ?_)
      refine take_at 1 23 (v := ?_) rfl rfl (by kernel_rfl) (by kernel_rfl) (by kernel_rfl) (fun _ _ _ h => h) (by rfl) ?_ hS ?_
      rotate_left 1
      · (intro w hSw; (try dsimp only at hSw); (try go_split_ands); go_simp; try with_reducible rfl)
      simp only [List.setIfInBounds_toArray, List.set_cons_zero, List.set_cons_succ]
      refine take_at 3 25 (v := ?_) rfl rfl (by kernel_rfl) (by kernel_rfl) (by kernel_rfl) (fun _ _ _ h => h) (by rfl) ?_ hS ?_
      rotate_left 1
      · (intro w hSw; (try dsimp only at hSw); (try go_split_ands); go_simp; try with_reducible rfl)
      simp only [List.setIfInBounds_toArray, List.set_cons_zero, List.set_cons_succ]
      refine take_at 5 27 (v := ?_) rfl rfl (by kernel_rfl) (by kernel_rfl) (by kernel_rfl) (fun _ _ _ h => h) (by rfl) ?_ hS ?_
      rotate_left 1
      · (intro w hSw; (try dsimp only at hSw); (try go_split_ands); go_simp; try with_reducible rfl)
      simp only [List.setIfInBounds_toArray, List.set_cons_zero, List.set_cons_succ]
      refine take_at 7 29 (v := ?_) rfl rfl (by kernel_rfl) (by kernel_rfl) (by kernel_rfl) (fun _ _ _ h => h) (by rfl) ?_ hS ?_
      rotate_left 1
      · (intro w hSw; (try dsimp only at hSw); (try go_split_ands); go_simp; try with_reducible rfl)
      simp only [List.setIfInBounds_toArray, List.set_cons_zero, List.set_cons_succ]
      refine wpAnyH_ready (rs := [0, 2]) (by kernel_rfl) (by simp) ?_
      refine AllReadyH.cons rfl (fun K hK => ?_) (AllReadyH.cons rfl (fun K hK => ?_) (AllReadyH.nil))
      · go_simp
        refine hK.out _ _ (by trivial) (fun hS => ?_)
        clear hK K
        refine wpAnyH_ready (rs := [2]) (by kernel_rfl) (by simp) ?_
        refine AllReadyH.cons rfl (fun K hK => ?_) (AllReadyH.nil)
        go_simp
        go_wp2_with fail
        refine (pick_any g (q) (30) _ (Rd.drew Hrd.out) (by omega)).mono ?_
        rintro e w21 ⟨x1, rfl, x10, x11, hr21, hg21⟩
        have x12 := x11 (by omega)
        clear x11
        clear cD20_0 cD20_1 cD20_2 cD20_3 cD20_4
        have hz21 : wr.heap.size ≤ w21.heap.size := by have := hg21.size; (try simp at this); omega
        have HG21 := Lib.hid (grown_trans (grownDrew HG.out) hg21)
        clear HG
        have HR21 := Lib.hid (Blk.grown (blkDrew HR.out) hg21 (by intro e; injection e with e; omega))
        clear HR
        have HD21 := Lib.hid (Blk.grown (blkDrew HD.out) hg21 (by intro e; injection e with e; omega))
        clear HD
        have HV21 := Lib.hid (GateOwn.touch (GateOwn.drew HoV.out) (Touch.of_grown hg21) (fun i hi e0 => by injection e0 with e0; have a1 := LTV.out _ hi; omega))
        clear HoV
        clear hg21
        clear Hrd
        have Hrd21 := Lib.hid hr21; clear hr21
        have hgl21 : g < w21.heap.size := (Hrd21.out).lt
        obtain ⟨cD21_0, cD21_1, cD21_2, cD21_3, cD21_4⟩ := gateCells (t := 40) (v := u) HD21.out
        go_simp
        refine hK.out _ _ (by trivial) (fun hS => ?_)
        clear hK K
        refine wpAnyH_ready (rs := [4]) (by kernel_rfl) (by simp) ?_
        refine AllReadyH.cons rfl (fun K hK => ?_) (AllReadyH.nil)
        go_simp
        go_wp2_with fail
        refine (someMinute_any g (q + 1) _ Hrd21.out (by omega)).mono ?_
        rintro e w22 ⟨x2, q3, rfl, x20, x21, hq3, hr22, hg22⟩
        clear cD21_0 cD21_1 cD21_2 cD21_3 cD21_4
        have hz22 : w21.heap.size ≤ w22.heap.size := by have := hg22.size; (try simp at this); omega
        have HG22 := Lib.hid (grown_trans HG21.out hg22)
        clear HG21
        have HR22 := Lib.hid (Blk.grown HR21.out hg22 (by intro e; injection e with e; omega))
        clear HR21
        have HD22 := Lib.hid (Blk.grown HD21.out hg22 (by intro e; injection e with e; omega))
        clear HD21
        have HV22 := Lib.hid (GateOwn.touch HV21.out (Touch.of_grown hg22) (fun i hi e0 => by injection e0 with e0; have a1 := LTV.out _ hi; omega))
        clear HV21
        clear hg22
        clear Hrd21
        have Hrd22 := Lib.hid hr22; clear hr22
        have hgl22 : g < w22.heap.size := (Hrd22.out).lt
        obtain ⟨cD22_0, cD22_1, cD22_2, cD22_3, cD22_4⟩ := gateCells (t := 40) (v := u) HD22.out
        go_simp
        refine hK.out _ _ (by trivial) (fun hS => ?_)
        clear hK K
        refine wpAnyH_ready (rs := [6]) (by kernel_rfl) (by simp) ?_
        refine AllReadyH.cons rfl (fun K hK => ?_) (AllReadyH.nil)
        go_simp
        go_wp2_with fail
        refine (pick_any g (q3) (10) _ Hrd22.out (by omega)).mono ?_
        rintro e w23 ⟨x3, rfl, x30, x31, hr23, hg23⟩
        have x32 := x31 (by omega)
        clear x31
        clear cD22_0 cD22_1 cD22_2 cD22_3 cD22_4
        have hz23 : w22.heap.size ≤ w23.heap.size := by have := hg23.size; (try simp at this); omega
        have HG23 := Lib.hid (grown_trans HG22.out hg23)
        clear HG22
        have HR23 := Lib.hid (Blk.grown HR22.out hg23 (by intro e; injection e with e; omega))
        clear HR22
        have HD23 := Lib.hid (Blk.grown HD22.out hg23 (by intro e; injection e with e; omega))
        clear HD22
        have HV23 := Lib.hid (GateOwn.touch HV22.out (Touch.of_grown hg23) (fun i hi e0 => by injection e0 with e0; have a1 := LTV.out _ hi; omega))
        clear HV22
        clear hg23
        clear Hrd22
        have Hrd23 := Lib.hid hr23; clear hr23
        have hgl23 : g < w23.heap.size := (Hrd23.out).lt
        obtain ⟨cD23_0, cD23_1, cD23_2, cD23_3, cD23_4⟩ := gateCells (t := 40) (v := u) HD23.out
        go_simp
        refine hK.out _ _ (by trivial) (fun hS => ?_)
        clear hK K
        refine wpAnyH_ready (rs := [8]) (by kernel_rfl) (by simp) ?_
        refine AllReadyH.cons rfl (fun K hK => ?_) (AllReadyH.nil)
        go_simp
        go_wp2_with fail
        refine (pick_any g (q3 + 1) (2) _ Hrd23.out (by omega)).mono ?_
        rintro e w24 ⟨x4, rfl, x40, x41, hr24, hg24⟩
        have x42 := x41 (by omega)
        clear x41
        clear cD23_0 cD23_1 cD23_2 cD23_3 cD23_4
        have hz24 : w23.heap.size ≤ w24.heap.size := by have := hg24.size; (try simp at this); omega
        have HG24 := Lib.hid (grown_trans HG23.out hg24)
        clear HG23
        have HR24 := Lib.hid (Blk.grown HR23.out hg24 (by intro e; injection e with e; omega))
        clear HR23
        have HD24 := Lib.hid (Blk.grown HD23.out hg24 (by intro e; injection e with e; omega))
        clear HD23
        have HV24 := Lib.hid (GateOwn.touch HV23.out (Touch.of_grown hg24) (fun i hi e0 => by injection e0 with e0; have a1 := LTV.out _ hi; omega))
        clear HV23
        clear hg24
        clear Hrd23
        have Hrd24 := Lib.hid hr24; clear hr24
        have hgl24 : g < w24.heap.size := (Hrd24.out).lt
        obtain ⟨cD24_0, cD24_1, cD24_2, cD24_3, cD24_4⟩ := gateCells (t := 40) (v := u) HD24.out
        go_simp
        refine hK.out _ _ (by trivial) (fun hS => ?_)
        clear hK K
        refine take_at 9 31 (v := ?_) rfl rfl (by kernel_rfl) (by kernel_rfl) (by kernel_rfl) (fun _ _ _ h => h) (by rfl) ?_ hS ?_
        rotate_left 1
        · (intro w hSw; (try dsimp only at hSw); (try go_split_ands); go_simp; try with_reducible rfl)
        simp only [List.setIfInBounds_toArray, List.set_cons_zero, List.set_cons_succ]
        refine wpAnyH_ready (rs := [10]) (by kernel_rfl) (by simp) ?_
        refine AllReadyH.cons rfl (fun K hK => ?_) (AllReadyH.nil)
        go_simp
        go_wp2_with fail
        refine (specHoldCard_any u x1 x2 x3 _ _ (GateOwn.in_ HV24.out) Hsm.out).mono ?_
        rintro e w25 ⟨⟨un, rfl, hofn, hownn, hsmn⟩, hb25⟩
        obtain ⟨hn1, hn2⟩ := (show un.deny.cards.length ≤ 12 ∧ un.kept.length ≤ 10 from by
                have h := Fares.holdCard_len u.of x1 x2 x3 (x4 == 0)
                rw [← hofn] at h
                exact h)
        clear hofn hsmn
        clear cD24_0 cD24_1 cD24_2 cD24_3 cD24_4
        have hz25 : w24.heap.size ≤ w25.heap.size := by have := hb25.size; (try simp at this); omega
        have HG25 := Lib.hid (grown_trans HG24.out (grown_of_below hb25 _))
        clear HG24
        have Hrd25 := Lib.hid (Rd.belowAll Hrd24.out hb25)
        clear Hrd24
        have HR25 := Lib.hid (Blk.belowAll HR24.out hb25)
        clear HR24
        have HD25 := Lib.hid (Blk.belowAll HD24.out hb25)
        clear HD24
        have HV25 := Lib.hid (GateOwn.below HV24.out hb25)
        clear HV24
        clear hb25
        (try unfold gateV)
        have LTX := Lib.hid (fun k hk => (GateOwn.lt hownn k hk).1)
        have UPX := Lib.hid (fun k hk => (GateOwn.lt hownn k hk).2)
        have HoX := Lib.hid hownn; clear hownn
        obtain ⟨cD25_0, cD25_1, cD25_2, cD25_3, cD25_4⟩ := gateCells (t := 40) (v := u) HD25.out
        have frD25_0 := (HD25.out).free 0
        have frD25_1 := (HD25.out).free 1
        have frD25_2 := (HD25.out).free 2
        have frD25_3 := (HD25.out).free 3
        have frD25_4 := (HD25.out).free 4
        go_simp
        refine hK.out _ _ (by trivial) (fun hS => ?_)
        clear hK K
        refine take_at 11 21 (v := ?_) rfl rfl (by kernel_rfl) (by kernel_rfl) (by kernel_rfl) (fun _ _ _ h => h) (by rfl) ?_ hS ?_
        rotate_left 1
        · (intro w hSw; (try dsimp only at hSw); (try go_split_ands); go_simp; try with_reducible rfl)
        simp only [List.setIfInBounds_toArray, List.set_cons_zero, List.set_cons_succ]
        refine take_at 12 33 (v := ?_) rfl rfl (by kernel_rfl) (by kernel_rfl) (by kernel_rfl) (fun _ _ _ h => h) (by rfl) ?_ hS ?_
        rotate_left 1
        · (intro w hSw; (try dsimp only at hSw); (try go_split_ands); go_simp; try with_reducible rfl)
        simp only [List.setIfInBounds_toArray, List.set_cons_zero, List.set_cons_succ]
        refine take_at 13 34 (v := ?_) rfl rfl (by kernel_rfl) (by kernel_rfl) (by kernel_rfl) (fun _ _ _ h => h) (by rfl) ?_ hS ?_
        rotate_left 1
        · (intro w hSw; (try dsimp only at hSw); (try go_split_ands); go_simp; try with_reducible rfl)
        simp only [List.setIfInBounds_toArray, List.set_cons_zero, List.set_cons_succ]
        refine wpAnyH_ready (rs := [14]) (by kernel_rfl) (by simp) ?_
        refine AllReadyH.cons rfl (fun K hK => ?_) (AllReadyH.nil)
        go_simp
        generalize hW : World.setCell _ _ _ = w26
        have ht26 : Touch (fun i => i = w5.heap.size + 1) w25 w26 := by rw [← hW]; exact (Touch.far (K := fun i => i = w5.heap.size + 1) (Touch.far (K := fun i => i = w5.heap.size + 1) (Touch.far (K := fun i => i = w5.heap.size + 1) (Touch.far (K := fun i => i = w5.heap.size + 1) (Touch.far (K := fun i => i = w5.heap.size + 1) (Touch.refl _ _) (p := ⟨w5.heap.size + 1, 0, none⟩) rfl _) (p := ⟨w5.heap.size + 1, 1, none⟩) rfl _) (p := ⟨w5.heap.size + 1, 2, none⟩) rfl _) (p := ⟨w5.heap.size + 1, 3, none⟩) rfl _) (p := ⟨w5.heap.size + 1, 4, none⟩) rfl _)
        have hbx26 : Blk w26 (w5.heap.size + 1) 40 (GateR.cells un) := by rw [← hW]; exact (Blk.put (Blk.put (Blk.put (Blk.put (Blk.put HD25.out 0 (.int .i64 un.val)) 1 (.int .i64 un.nxt)) 2 (.int .i64 un.deny.ver)) 3 (.slice un.deny.cardsA un.deny.cards.length un.deny.cardsc)) 4 (.slice un.keptA un.kept.length un.keptc))
        clear hW
        clear cD25_0 cD25_1 cD25_2 cD25_3 cD25_4 frD25_0 frD25_1 frD25_2 frD25_3 frD25_4
        have hz26 : w25.heap.size ≤ w26.heap.size := by have := ht26.size; (try simp at this); omega
        have HG26 := Lib.hid (grown_touch HG25.out ht26 (fun i hi => by omega))
        clear HG25
        have Hrd26 := Lib.hid (Rd.touch Hrd25.out ht26 (fun i hi => by omega))
        clear Hrd25
        have HR26 := Lib.hid (Blk.touch HR25.out ht26 (show ¬ (w.heap.size = w5.heap.size + 1) by omega))
        clear HR25
        have HX26 := Lib.hid (GateOwn.touch HoX.out ht26 (fun i hi e0 => by have a1 := LTX.out _ hi; have a2 := UPX.out _ hi; omega))
        clear HoX
        clear ht26 HD25
        have Hbx26 := Lib.hid hbx26; clear hbx26
        refine hK.out _ _ (by trivial) (fun hS => ?_)
        clear hK K
        refine wpAnyH_done (by kernel_rfl) ?_ _
        clear hS
        have NEX := Lib.hid (show ∀ k, GateBlocks un k → k ≠ w5.heap.size + 1 from fun k hk e => by have a1 := LTX.out _ hk; omega)
        go_wp2
        go_roundw
        case rel => exact ⟨k', un, q3 + 1 + 1, by go_num, by omega, by omega, Hbx26.out, HR26.out, GateOwn.base HX26.out (by omega), NEX, hn1, hn2, Hrd26.out, HG26.out, by omega⟩
        case measure => simp [intOf]
      · go_simp
        go_wp2_with fail
        refine (pick_any g (q) (30) _ (Rd.drew Hrd.out) (by omega)).mono ?_
        rintro e w21 ⟨x1, rfl, x10, x11, hr21, hg21⟩
        have x12 := x11 (by omega)
        clear x11
        clear cD20_0 cD20_1 cD20_2 cD20_3 cD20_4
        have hz21 : wr.heap.size ≤ w21.heap.size := by have := hg21.size; (try simp at this); omega
        have HG21 := Lib.hid (grown_trans (grownDrew HG.out) hg21)
        clear HG
        have HR21 := Lib.hid (Blk.grown (blkDrew HR.out) hg21 (by intro e; injection e with e; omega))
        clear HR
        have HD21 := Lib.hid (Blk.grown (blkDrew HD.out) hg21 (by intro e; injection e with e; omega))
        clear HD
        have HV21 := Lib.hid (GateOwn.touch (GateOwn.drew HoV.out) (Touch.of_grown hg21) (fun i hi e0 => by injection e0 with e0; have a1 := LTV.out _ hi; omega))
        clear HoV
        clear hg21
        clear Hrd
        have Hrd21 := Lib.hid hr21; clear hr21
        have hgl21 : g < w21.heap.size := (Hrd21.out).lt
        obtain ⟨cD21_0, cD21_1, cD21_2, cD21_3, cD21_4⟩ := gateCells (t := 40) (v := u) HD21.out
        go_simp
        refine hK.out _ _ (by trivial) (fun hS => ?_)
        clear hK K
        refine wpAnyH_ready (rs := [0, 4]) (by kernel_rfl) (by simp) ?_
        refine AllReadyH.cons rfl (fun K hK => ?_) (AllReadyH.cons rfl (fun K hK => ?_) (AllReadyH.nil))
        · go_simp
          refine hK.out _ _ (by trivial) (fun hS => ?_)
          clear hK K
          refine wpAnyH_ready (rs := [4]) (by kernel_rfl) (by simp) ?_
          refine AllReadyH.cons rfl (fun K hK => ?_) (AllReadyH.nil)
          go_simp
          go_wp2_with fail
          refine (someMinute_any g (q + 1) _ Hrd21.out (by omega)).mono ?_
          rintro e w22 ⟨x2, q3, rfl, x20, x21, hq3, hr22, hg22⟩
          clear cD21_0 cD21_1 cD21_2 cD21_3 cD21_4
          have hz22 : w21.heap.size ≤ w22.heap.size := by have := hg22.size; (try simp at this); omega
          have HG22 := Lib.hid (grown_trans HG21.out hg22)
          clear HG21
          have HR22 := Lib.hid (Blk.grown HR21.out hg22 (by intro e; injection e with e; omega))
          clear HR21
          have HD22 := Lib.hid (Blk.grown HD21.out hg22 (by intro e; injection e with e; omega))
          clear HD21
          have HV22 := Lib.hid (GateOwn.touch HV21.out (Touch.of_grown hg22) (fun i hi e0 => by injection e0 with e0; have a1 := LTV.out _ hi; omega))
          clear HV21
          clear hg22
          clear Hrd21
          have Hrd22 := Lib.hid hr22; clear hr22
          have hgl22 : g < w22.heap.size := (Hrd22.out).lt
          obtain ⟨cD22_0, cD22_1, cD22_2, cD22_3, cD22_4⟩ := gateCells (t := 40) (v := u) HD22.out
          go_simp
          refine hK.out _ _ (by trivial) (fun hS => ?_)
          clear hK K
          refine wpAnyH_ready (rs := [6]) (by kernel_rfl) (by simp) ?_
          refine AllReadyH.cons rfl (fun K hK => ?_) (AllReadyH.nil)
          go_simp
          go_wp2_with fail
          refine (pick_any g (q3) (10) _ Hrd22.out (by omega)).mono ?_
          rintro e w23 ⟨x3, rfl, x30, x31, hr23, hg23⟩
          have x32 := x31 (by omega)
          clear x31
          clear cD22_0 cD22_1 cD22_2 cD22_3 cD22_4
          have hz23 : w22.heap.size ≤ w23.heap.size := by have := hg23.size; (try simp at this); omega
          have HG23 := Lib.hid (grown_trans HG22.out hg23)
          clear HG22
          have HR23 := Lib.hid (Blk.grown HR22.out hg23 (by intro e; injection e with e; omega))
          clear HR22
          have HD23 := Lib.hid (Blk.grown HD22.out hg23 (by intro e; injection e with e; omega))
          clear HD22
          have HV23 := Lib.hid (GateOwn.touch HV22.out (Touch.of_grown hg23) (fun i hi e0 => by injection e0 with e0; have a1 := LTV.out _ hi; omega))
          clear HV22
          clear hg23
          clear Hrd22
          have Hrd23 := Lib.hid hr23; clear hr23
          have hgl23 : g < w23.heap.size := (Hrd23.out).lt
          obtain ⟨cD23_0, cD23_1, cD23_2, cD23_3, cD23_4⟩ := gateCells (t := 40) (v := u) HD23.out
          go_simp
          refine hK.out _ _ (by trivial) (fun hS => ?_)
          clear hK K
          refine wpAnyH_ready (rs := [8]) (by kernel_rfl) (by simp) ?_
          refine AllReadyH.cons rfl (fun K hK => ?_) (AllReadyH.nil)
          go_simp
          go_wp2_with fail
          refine (pick_any g (q3 + 1) (2) _ Hrd23.out (by omega)).mono ?_
          rintro e w24 ⟨x4, rfl, x40, x41, hr24, hg24⟩
          have x42 := x41 (by omega)
          clear x41
          clear cD23_0 cD23_1 cD23_2 cD23_3 cD23_4
          have hz24 : w23.heap.size ≤ w24.heap.size := by have := hg24.size; (try simp at this); omega
          have HG24 := Lib.hid (grown_trans HG23.out hg24)
          clear HG23
          have HR24 := Lib.hid (Blk.grown HR23.out hg24 (by intro e; injection e with e; omega))
          clear HR23
          have HD24 := Lib.hid (Blk.grown HD23.out hg24 (by intro e; injection e with e; omega))
          clear HD23
          have HV24 := Lib.hid (GateOwn.touch HV23.out (Touch.of_grown hg24) (fun i hi e0 => by injection e0 with e0; have a1 := LTV.out _ hi; omega))
          clear HV23
          clear hg24
          clear Hrd23
          have Hrd24 := Lib.hid hr24; clear hr24
          have hgl24 : g < w24.heap.size := (Hrd24.out).lt
          obtain ⟨cD24_0, cD24_1, cD24_2, cD24_3, cD24_4⟩ := gateCells (t := 40) (v := u) HD24.out
          go_simp
          refine hK.out _ _ (by trivial) (fun hS => ?_)
          clear hK K
          refine take_at 9 31 (v := ?_) rfl rfl (by kernel_rfl) (by kernel_rfl) (by kernel_rfl) (fun _ _ _ h => h) (by rfl) ?_ hS ?_
          rotate_left 1
          · (intro w hSw; (try dsimp only at hSw); (try go_split_ands); go_simp; try with_reducible rfl)
          simp only [List.setIfInBounds_toArray, List.set_cons_zero, List.set_cons_succ]
          refine wpAnyH_ready (rs := [10]) (by kernel_rfl) (by simp) ?_
          refine AllReadyH.cons rfl (fun K hK => ?_) (AllReadyH.nil)
          go_simp
          go_wp2_with fail
          refine (specHoldCard_any u x1 x2 x3 _ _ (GateOwn.in_ HV24.out) Hsm.out).mono ?_
          rintro e w25 ⟨⟨un, rfl, hofn, hownn, hsmn⟩, hb25⟩
          obtain ⟨hn1, hn2⟩ := (show un.deny.cards.length ≤ 12 ∧ un.kept.length ≤ 10 from by
                  have h := Fares.holdCard_len u.of x1 x2 x3 (x4 == 0)
                  rw [← hofn] at h
                  exact h)
          clear hofn hsmn
          clear cD24_0 cD24_1 cD24_2 cD24_3 cD24_4
          have hz25 : w24.heap.size ≤ w25.heap.size := by have := hb25.size; (try simp at this); omega
          have HG25 := Lib.hid (grown_trans HG24.out (grown_of_below hb25 _))
          clear HG24
          have Hrd25 := Lib.hid (Rd.belowAll Hrd24.out hb25)
          clear Hrd24
          have HR25 := Lib.hid (Blk.belowAll HR24.out hb25)
          clear HR24
          have HD25 := Lib.hid (Blk.belowAll HD24.out hb25)
          clear HD24
          have HV25 := Lib.hid (GateOwn.below HV24.out hb25)
          clear HV24
          clear hb25
          (try unfold gateV)
          have LTX := Lib.hid (fun k hk => (GateOwn.lt hownn k hk).1)
          have UPX := Lib.hid (fun k hk => (GateOwn.lt hownn k hk).2)
          have HoX := Lib.hid hownn; clear hownn
          obtain ⟨cD25_0, cD25_1, cD25_2, cD25_3, cD25_4⟩ := gateCells (t := 40) (v := u) HD25.out
          have frD25_0 := (HD25.out).free 0
          have frD25_1 := (HD25.out).free 1
          have frD25_2 := (HD25.out).free 2
          have frD25_3 := (HD25.out).free 3
          have frD25_4 := (HD25.out).free 4
          go_simp
          refine hK.out _ _ (by trivial) (fun hS => ?_)
          clear hK K
          refine take_at 11 21 (v := ?_) rfl rfl (by kernel_rfl) (by kernel_rfl) (by kernel_rfl) (fun _ _ _ h => h) (by rfl) ?_ hS ?_
          rotate_left 1
          · (intro w hSw; (try dsimp only at hSw); (try go_split_ands); go_simp; try with_reducible rfl)
          simp only [List.setIfInBounds_toArray, List.set_cons_zero, List.set_cons_succ]
          refine take_at 12 33 (v := ?_) rfl rfl (by kernel_rfl) (by kernel_rfl) (by kernel_rfl) (fun _ _ _ h => h) (by rfl) ?_ hS ?_
          rotate_left 1
          · (intro w hSw; (try dsimp only at hSw); (try go_split_ands); go_simp; try with_reducible rfl)
          simp only [List.setIfInBounds_toArray, List.set_cons_zero, List.set_cons_succ]
          refine take_at 13 34 (v := ?_) rfl rfl (by kernel_rfl) (by kernel_rfl) (by kernel_rfl) (fun _ _ _ h => h) (by rfl) ?_ hS ?_
          rotate_left 1
          · (intro w hSw; (try dsimp only at hSw); (try go_split_ands); go_simp; try with_reducible rfl)
          simp only [List.setIfInBounds_toArray, List.set_cons_zero, List.set_cons_succ]
          refine wpAnyH_ready (rs := [14]) (by kernel_rfl) (by simp) ?_
          refine AllReadyH.cons rfl (fun K hK => ?_) (AllReadyH.nil)
          go_simp
          generalize hW : World.setCell _ _ _ = w26
          have ht26 : Touch (fun i => i = w5.heap.size + 1) w25 w26 := by rw [← hW]; exact (Touch.far (K := fun i => i = w5.heap.size + 1) (Touch.far (K := fun i => i = w5.heap.size + 1) (Touch.far (K := fun i => i = w5.heap.size + 1) (Touch.far (K := fun i => i = w5.heap.size + 1) (Touch.far (K := fun i => i = w5.heap.size + 1) (Touch.refl _ _) (p := ⟨w5.heap.size + 1, 0, none⟩) rfl _) (p := ⟨w5.heap.size + 1, 1, none⟩) rfl _) (p := ⟨w5.heap.size + 1, 2, none⟩) rfl _) (p := ⟨w5.heap.size + 1, 3, none⟩) rfl _) (p := ⟨w5.heap.size + 1, 4, none⟩) rfl _)
          have hbx26 : Blk w26 (w5.heap.size + 1) 40 (GateR.cells un) := by rw [← hW]; exact (Blk.put (Blk.put (Blk.put (Blk.put (Blk.put HD25.out 0 (.int .i64 un.val)) 1 (.int .i64 un.nxt)) 2 (.int .i64 un.deny.ver)) 3 (.slice un.deny.cardsA un.deny.cards.length un.deny.cardsc)) 4 (.slice un.keptA un.kept.length un.keptc))
          clear hW
          clear cD25_0 cD25_1 cD25_2 cD25_3 cD25_4 frD25_0 frD25_1 frD25_2 frD25_3 frD25_4
          have hz26 : w25.heap.size ≤ w26.heap.size := by have := ht26.size; (try simp at this); omega
          have HG26 := Lib.hid (grown_touch HG25.out ht26 (fun i hi => by omega))
          clear HG25
          have Hrd26 := Lib.hid (Rd.touch Hrd25.out ht26 (fun i hi => by omega))
          clear Hrd25
          have HR26 := Lib.hid (Blk.touch HR25.out ht26 (show ¬ (w.heap.size = w5.heap.size + 1) by omega))
          clear HR25
          have HX26 := Lib.hid (GateOwn.touch HoX.out ht26 (fun i hi e0 => by have a1 := LTX.out _ hi; have a2 := UPX.out _ hi; omega))
          clear HoX
          clear ht26 HD25
          have Hbx26 := Lib.hid hbx26; clear hbx26
          refine hK.out _ _ (by trivial) (fun hS => ?_)
          clear hK K
          refine wpAnyH_done (by kernel_rfl) ?_ _
          clear hS
          have NEX := Lib.hid (show ∀ k, GateBlocks un k → k ≠ w5.heap.size + 1 from fun k hk e => by have a1 := LTX.out _ hk; omega)
          go_wp2
          go_roundw
          case rel => exact ⟨k', un, q3 + 1 + 1, by go_num, by omega, by omega, Hbx26.out, HR26.out, GateOwn.base HX26.out (by omega), NEX, hn1, hn2, Hrd26.out, HG26.out, by omega⟩
          case measure => simp [intOf]
        · go_simp
          go_wp2_with fail
          refine (someMinute_any g (q + 1) _ Hrd21.out (by omega)).mono ?_
          rintro e w22 ⟨x2, q3, rfl, x20, x21, hq3, hr22, hg22⟩
          clear cD21_0 cD21_1 cD21_2 cD21_3 cD21_4
          have hz22 : w21.heap.size ≤ w22.heap.size := by have := hg22.size; (try simp at this); omega
          have HG22 := Lib.hid (grown_trans HG21.out hg22)
          clear HG21
          have HR22 := Lib.hid (Blk.grown HR21.out hg22 (by intro e; injection e with e; omega))
          clear HR21
          have HD22 := Lib.hid (Blk.grown HD21.out hg22 (by intro e; injection e with e; omega))
          clear HD21
          have HV22 := Lib.hid (GateOwn.touch HV21.out (Touch.of_grown hg22) (fun i hi e0 => by injection e0 with e0; have a1 := LTV.out _ hi; omega))
          clear HV21
          clear hg22
          clear Hrd21
          have Hrd22 := Lib.hid hr22; clear hr22
          have hgl22 : g < w22.heap.size := (Hrd22.out).lt
          obtain ⟨cD22_0, cD22_1, cD22_2, cD22_3, cD22_4⟩ := gateCells (t := 40) (v := u) HD22.out
          go_simp
          refine hK.out _ _ (by trivial) (fun hS => ?_)
          clear hK K
          refine wpAnyH_ready (rs := [0, 6]) (by kernel_rfl) (by simp) ?_
          refine AllReadyH.cons rfl (fun K hK => ?_) (AllReadyH.cons rfl (fun K hK => ?_) (AllReadyH.nil))
          · go_simp
            refine hK.out _ _ (by trivial) (fun hS => ?_)
            clear hK K
            refine wpAnyH_ready (rs := [6]) (by kernel_rfl) (by simp) ?_
            refine AllReadyH.cons rfl (fun K hK => ?_) (AllReadyH.nil)
            go_simp
            go_wp2_with fail
            refine (pick_any g (q3) (10) _ Hrd22.out (by omega)).mono ?_
            rintro e w23 ⟨x3, rfl, x30, x31, hr23, hg23⟩
            have x32 := x31 (by omega)
            clear x31
            clear cD22_0 cD22_1 cD22_2 cD22_3 cD22_4
            have hz23 : w22.heap.size ≤ w23.heap.size := by have := hg23.size; (try simp at this); omega
            have HG23 := Lib.hid (grown_trans HG22.out hg23)
            clear HG22
            have HR23 := Lib.hid (Blk.grown HR22.out hg23 (by intro e; injection e with e; omega))
            clear HR22
            have HD23 := Lib.hid (Blk.grown HD22.out hg23 (by intro e; injection e with e; omega))
            clear HD22
            have HV23 := Lib.hid (GateOwn.touch HV22.out (Touch.of_grown hg23) (fun i hi e0 => by injection e0 with e0; have a1 := LTV.out _ hi; omega))
            clear HV22
            clear hg23
            clear Hrd22
            have Hrd23 := Lib.hid hr23; clear hr23
            have hgl23 : g < w23.heap.size := (Hrd23.out).lt
            obtain ⟨cD23_0, cD23_1, cD23_2, cD23_3, cD23_4⟩ := gateCells (t := 40) (v := u) HD23.out
            go_simp
            refine hK.out _ _ (by trivial) (fun hS => ?_)
            clear hK K
            refine wpAnyH_ready (rs := [8]) (by kernel_rfl) (by simp) ?_
            refine AllReadyH.cons rfl (fun K hK => ?_) (AllReadyH.nil)
            go_simp
            go_wp2_with fail
            refine (pick_any g (q3 + 1) (2) _ Hrd23.out (by omega)).mono ?_
            rintro e w24 ⟨x4, rfl, x40, x41, hr24, hg24⟩
            have x42 := x41 (by omega)
            clear x41
            clear cD23_0 cD23_1 cD23_2 cD23_3 cD23_4
            have hz24 : w23.heap.size ≤ w24.heap.size := by have := hg24.size; (try simp at this); omega
            have HG24 := Lib.hid (grown_trans HG23.out hg24)
            clear HG23
            have HR24 := Lib.hid (Blk.grown HR23.out hg24 (by intro e; injection e with e; omega))
            clear HR23
            have HD24 := Lib.hid (Blk.grown HD23.out hg24 (by intro e; injection e with e; omega))
            clear HD23
            have HV24 := Lib.hid (GateOwn.touch HV23.out (Touch.of_grown hg24) (fun i hi e0 => by injection e0 with e0; have a1 := LTV.out _ hi; omega))
            clear HV23
            clear hg24
            clear Hrd23
            have Hrd24 := Lib.hid hr24; clear hr24
            have hgl24 : g < w24.heap.size := (Hrd24.out).lt
            obtain ⟨cD24_0, cD24_1, cD24_2, cD24_3, cD24_4⟩ := gateCells (t := 40) (v := u) HD24.out
            go_simp
            refine hK.out _ _ (by trivial) (fun hS => ?_)
            clear hK K
            refine take_at 9 31 (v := ?_) rfl rfl (by kernel_rfl) (by kernel_rfl) (by kernel_rfl) (fun _ _ _ h => h) (by rfl) ?_ hS ?_
            rotate_left 1
            · (intro w hSw; (try dsimp only at hSw); (try go_split_ands); go_simp; try with_reducible rfl)
            simp only [List.setIfInBounds_toArray, List.set_cons_zero, List.set_cons_succ]
            refine wpAnyH_ready (rs := [10]) (by kernel_rfl) (by simp) ?_
            refine AllReadyH.cons rfl (fun K hK => ?_) (AllReadyH.nil)
            go_simp
            go_wp2_with fail
            refine (specHoldCard_any u x1 x2 x3 _ _ (GateOwn.in_ HV24.out) Hsm.out).mono ?_
            rintro e w25 ⟨⟨un, rfl, hofn, hownn, hsmn⟩, hb25⟩
            obtain ⟨hn1, hn2⟩ := (show un.deny.cards.length ≤ 12 ∧ un.kept.length ≤ 10 from by
                    have h := Fares.holdCard_len u.of x1 x2 x3 (x4 == 0)
                    rw [← hofn] at h
                    exact h)
            clear hofn hsmn
            clear cD24_0 cD24_1 cD24_2 cD24_3 cD24_4
            have hz25 : w24.heap.size ≤ w25.heap.size := by have := hb25.size; (try simp at this); omega
            have HG25 := Lib.hid (grown_trans HG24.out (grown_of_below hb25 _))
            clear HG24
            have Hrd25 := Lib.hid (Rd.belowAll Hrd24.out hb25)
            clear Hrd24
            have HR25 := Lib.hid (Blk.belowAll HR24.out hb25)
            clear HR24
            have HD25 := Lib.hid (Blk.belowAll HD24.out hb25)
            clear HD24
            have HV25 := Lib.hid (GateOwn.below HV24.out hb25)
            clear HV24
            clear hb25
            (try unfold gateV)
            have LTX := Lib.hid (fun k hk => (GateOwn.lt hownn k hk).1)
            have UPX := Lib.hid (fun k hk => (GateOwn.lt hownn k hk).2)
            have HoX := Lib.hid hownn; clear hownn
            obtain ⟨cD25_0, cD25_1, cD25_2, cD25_3, cD25_4⟩ := gateCells (t := 40) (v := u) HD25.out
            have frD25_0 := (HD25.out).free 0
            have frD25_1 := (HD25.out).free 1
            have frD25_2 := (HD25.out).free 2
            have frD25_3 := (HD25.out).free 3
            have frD25_4 := (HD25.out).free 4
            go_simp
            refine hK.out _ _ (by trivial) (fun hS => ?_)
            clear hK K
            refine take_at 11 21 (v := ?_) rfl rfl (by kernel_rfl) (by kernel_rfl) (by kernel_rfl) (fun _ _ _ h => h) (by rfl) ?_ hS ?_
            rotate_left 1
            · (intro w hSw; (try dsimp only at hSw); (try go_split_ands); go_simp; try with_reducible rfl)
            simp only [List.setIfInBounds_toArray, List.set_cons_zero, List.set_cons_succ]
            refine take_at 12 33 (v := ?_) rfl rfl (by kernel_rfl) (by kernel_rfl) (by kernel_rfl) (fun _ _ _ h => h) (by rfl) ?_ hS ?_
            rotate_left 1
            · (intro w hSw; (try dsimp only at hSw); (try go_split_ands); go_simp; try with_reducible rfl)
            simp only [List.setIfInBounds_toArray, List.set_cons_zero, List.set_cons_succ]
            refine take_at 13 34 (v := ?_) rfl rfl (by kernel_rfl) (by kernel_rfl) (by kernel_rfl) (fun _ _ _ h => h) (by rfl) ?_ hS ?_
            rotate_left 1
            · (intro w hSw; (try dsimp only at hSw); (try go_split_ands); go_simp; try with_reducible rfl)
            simp only [List.setIfInBounds_toArray, List.set_cons_zero, List.set_cons_succ]
            refine wpAnyH_ready (rs := [14]) (by kernel_rfl) (by simp) ?_
            refine AllReadyH.cons rfl (fun K hK => ?_) (AllReadyH.nil)
            go_simp
            generalize hW : World.setCell _ _ _ = w26
            have ht26 : Touch (fun i => i = w5.heap.size + 1) w25 w26 := by rw [← hW]; exact (Touch.far (K := fun i => i = w5.heap.size + 1) (Touch.far (K := fun i => i = w5.heap.size + 1) (Touch.far (K := fun i => i = w5.heap.size + 1) (Touch.far (K := fun i => i = w5.heap.size + 1) (Touch.far (K := fun i => i = w5.heap.size + 1) (Touch.refl _ _) (p := ⟨w5.heap.size + 1, 0, none⟩) rfl _) (p := ⟨w5.heap.size + 1, 1, none⟩) rfl _) (p := ⟨w5.heap.size + 1, 2, none⟩) rfl _) (p := ⟨w5.heap.size + 1, 3, none⟩) rfl _) (p := ⟨w5.heap.size + 1, 4, none⟩) rfl _)
            have hbx26 : Blk w26 (w5.heap.size + 1) 40 (GateR.cells un) := by rw [← hW]; exact (Blk.put (Blk.put (Blk.put (Blk.put (Blk.put HD25.out 0 (.int .i64 un.val)) 1 (.int .i64 un.nxt)) 2 (.int .i64 un.deny.ver)) 3 (.slice un.deny.cardsA un.deny.cards.length un.deny.cardsc)) 4 (.slice un.keptA un.kept.length un.keptc))
            clear hW
            clear cD25_0 cD25_1 cD25_2 cD25_3 cD25_4 frD25_0 frD25_1 frD25_2 frD25_3 frD25_4
            have hz26 : w25.heap.size ≤ w26.heap.size := by have := ht26.size; (try simp at this); omega
            have HG26 := Lib.hid (grown_touch HG25.out ht26 (fun i hi => by omega))
            clear HG25
            have Hrd26 := Lib.hid (Rd.touch Hrd25.out ht26 (fun i hi => by omega))
            clear Hrd25
            have HR26 := Lib.hid (Blk.touch HR25.out ht26 (show ¬ (w.heap.size = w5.heap.size + 1) by omega))
            clear HR25
            have HX26 := Lib.hid (GateOwn.touch HoX.out ht26 (fun i hi e0 => by have a1 := LTX.out _ hi; have a2 := UPX.out _ hi; omega))
            clear HoX
            clear ht26 HD25
            have Hbx26 := Lib.hid hbx26; clear hbx26
            refine hK.out _ _ (by trivial) (fun hS => ?_)
            clear hK K
            refine wpAnyH_done (by kernel_rfl) ?_ _
            clear hS
            have NEX := Lib.hid (show ∀ k, GateBlocks un k → k ≠ w5.heap.size + 1 from fun k hk e => by have a1 := LTX.out _ hk; omega)
            go_wp2
            go_roundw
            case rel => exact ⟨k', un, q3 + 1 + 1, by go_num, by omega, by omega, Hbx26.out, HR26.out, GateOwn.base HX26.out (by omega), NEX, hn1, hn2, Hrd26.out, HG26.out, by omega⟩
            case measure => simp [intOf]
          · go_simp
            go_wp2_with fail
            refine (pick_any g (q3) (10) _ Hrd22.out (by omega)).mono ?_
            rintro e w23 ⟨x3, rfl, x30, x31, hr23, hg23⟩
            have x32 := x31 (by omega)
            clear x31
            clear cD22_0 cD22_1 cD22_2 cD22_3 cD22_4
            have hz23 : w22.heap.size ≤ w23.heap.size := by have := hg23.size; (try simp at this); omega
            have HG23 := Lib.hid (grown_trans HG22.out hg23)
            clear HG22
            have HR23 := Lib.hid (Blk.grown HR22.out hg23 (by intro e; injection e with e; omega))
            clear HR22
            have HD23 := Lib.hid (Blk.grown HD22.out hg23 (by intro e; injection e with e; omega))
            clear HD22
            have HV23 := Lib.hid (GateOwn.touch HV22.out (Touch.of_grown hg23) (fun i hi e0 => by injection e0 with e0; have a1 := LTV.out _ hi; omega))
            clear HV22
            clear hg23
            clear Hrd22
            have Hrd23 := Lib.hid hr23; clear hr23
            have hgl23 : g < w23.heap.size := (Hrd23.out).lt
            obtain ⟨cD23_0, cD23_1, cD23_2, cD23_3, cD23_4⟩ := gateCells (t := 40) (v := u) HD23.out
            go_simp
            refine hK.out _ _ (by trivial) (fun hS => ?_)
            clear hK K
            refine wpAnyH_ready (rs := [0, 8]) (by kernel_rfl) (by simp) ?_
            refine AllReadyH.cons rfl (fun K hK => ?_) (AllReadyH.cons rfl (fun K hK => ?_) (AllReadyH.nil))
            · go_simp
              refine hK.out _ _ (by trivial) (fun hS => ?_)
              clear hK K
              refine wpAnyH_ready (rs := [8]) (by kernel_rfl) (by simp) ?_
              refine AllReadyH.cons rfl (fun K hK => ?_) (AllReadyH.nil)
              go_simp
              go_wp2_with fail
              refine (pick_any g (q3 + 1) (2) _ Hrd23.out (by omega)).mono ?_
              rintro e w24 ⟨x4, rfl, x40, x41, hr24, hg24⟩
              have x42 := x41 (by omega)
              clear x41
              clear cD23_0 cD23_1 cD23_2 cD23_3 cD23_4
              have hz24 : w23.heap.size ≤ w24.heap.size := by have := hg24.size; (try simp at this); omega
              have HG24 := Lib.hid (grown_trans HG23.out hg24)
              clear HG23
              have HR24 := Lib.hid (Blk.grown HR23.out hg24 (by intro e; injection e with e; omega))
              clear HR23
              have HD24 := Lib.hid (Blk.grown HD23.out hg24 (by intro e; injection e with e; omega))
              clear HD23
              have HV24 := Lib.hid (GateOwn.touch HV23.out (Touch.of_grown hg24) (fun i hi e0 => by injection e0 with e0; have a1 := LTV.out _ hi; omega))
              clear HV23
              clear hg24
              clear Hrd23
              have Hrd24 := Lib.hid hr24; clear hr24
              have hgl24 : g < w24.heap.size := (Hrd24.out).lt
              obtain ⟨cD24_0, cD24_1, cD24_2, cD24_3, cD24_4⟩ := gateCells (t := 40) (v := u) HD24.out
              go_simp
              refine hK.out _ _ (by trivial) (fun hS => ?_)
              clear hK K
              refine take_at 9 31 (v := ?_) rfl rfl (by kernel_rfl) (by kernel_rfl) (by kernel_rfl) (fun _ _ _ h => h) (by rfl) ?_ hS ?_
              rotate_left 1
              · (intro w hSw; (try dsimp only at hSw); (try go_split_ands); go_simp; try with_reducible rfl)
              simp only [List.setIfInBounds_toArray, List.set_cons_zero, List.set_cons_succ]
              refine wpAnyH_ready (rs := [10]) (by kernel_rfl) (by simp) ?_
              refine AllReadyH.cons rfl (fun K hK => ?_) (AllReadyH.nil)
              go_simp
              go_wp2_with fail
              refine (specHoldCard_any u x1 x2 x3 _ _ (GateOwn.in_ HV24.out) Hsm.out).mono ?_
              rintro e w25 ⟨⟨un, rfl, hofn, hownn, hsmn⟩, hb25⟩
              obtain ⟨hn1, hn2⟩ := (show un.deny.cards.length ≤ 12 ∧ un.kept.length ≤ 10 from by
                      have h := Fares.holdCard_len u.of x1 x2 x3 (x4 == 0)
                      rw [← hofn] at h
                      exact h)
              clear hofn hsmn
              clear cD24_0 cD24_1 cD24_2 cD24_3 cD24_4
              have hz25 : w24.heap.size ≤ w25.heap.size := by have := hb25.size; (try simp at this); omega
              have HG25 := Lib.hid (grown_trans HG24.out (grown_of_below hb25 _))
              clear HG24
              have Hrd25 := Lib.hid (Rd.belowAll Hrd24.out hb25)
              clear Hrd24
              have HR25 := Lib.hid (Blk.belowAll HR24.out hb25)
              clear HR24
              have HD25 := Lib.hid (Blk.belowAll HD24.out hb25)
              clear HD24
              have HV25 := Lib.hid (GateOwn.below HV24.out hb25)
              clear HV24
              clear hb25
              (try unfold gateV)
              have LTX := Lib.hid (fun k hk => (GateOwn.lt hownn k hk).1)
              have UPX := Lib.hid (fun k hk => (GateOwn.lt hownn k hk).2)
              have HoX := Lib.hid hownn; clear hownn
              obtain ⟨cD25_0, cD25_1, cD25_2, cD25_3, cD25_4⟩ := gateCells (t := 40) (v := u) HD25.out
              have frD25_0 := (HD25.out).free 0
              have frD25_1 := (HD25.out).free 1
              have frD25_2 := (HD25.out).free 2
              have frD25_3 := (HD25.out).free 3
              have frD25_4 := (HD25.out).free 4
              go_simp
              refine hK.out _ _ (by trivial) (fun hS => ?_)
              clear hK K
              refine take_at 11 21 (v := ?_) rfl rfl (by kernel_rfl) (by kernel_rfl) (by kernel_rfl) (fun _ _ _ h => h) (by rfl) ?_ hS ?_
              rotate_left 1
              · (intro w hSw; (try dsimp only at hSw); (try go_split_ands); go_simp; try with_reducible rfl)
              simp only [List.setIfInBounds_toArray, List.set_cons_zero, List.set_cons_succ]
              refine take_at 12 33 (v := ?_) rfl rfl (by kernel_rfl) (by kernel_rfl) (by kernel_rfl) (fun _ _ _ h => h) (by rfl) ?_ hS ?_
              rotate_left 1
              · (intro w hSw; (try dsimp only at hSw); (try go_split_ands); go_simp; try with_reducible rfl)
              simp only [List.setIfInBounds_toArray, List.set_cons_zero, List.set_cons_succ]
              refine take_at 13 34 (v := ?_) rfl rfl (by kernel_rfl) (by kernel_rfl) (by kernel_rfl) (fun _ _ _ h => h) (by rfl) ?_ hS ?_
              rotate_left 1
              · (intro w hSw; (try dsimp only at hSw); (try go_split_ands); go_simp; try with_reducible rfl)
              simp only [List.setIfInBounds_toArray, List.set_cons_zero, List.set_cons_succ]
              refine wpAnyH_ready (rs := [14]) (by kernel_rfl) (by simp) ?_
              refine AllReadyH.cons rfl (fun K hK => ?_) (AllReadyH.nil)
              go_simp
              generalize hW : World.setCell _ _ _ = w26
              have ht26 : Touch (fun i => i = w5.heap.size + 1) w25 w26 := by rw [← hW]; exact (Touch.far (K := fun i => i = w5.heap.size + 1) (Touch.far (K := fun i => i = w5.heap.size + 1) (Touch.far (K := fun i => i = w5.heap.size + 1) (Touch.far (K := fun i => i = w5.heap.size + 1) (Touch.far (K := fun i => i = w5.heap.size + 1) (Touch.refl _ _) (p := ⟨w5.heap.size + 1, 0, none⟩) rfl _) (p := ⟨w5.heap.size + 1, 1, none⟩) rfl _) (p := ⟨w5.heap.size + 1, 2, none⟩) rfl _) (p := ⟨w5.heap.size + 1, 3, none⟩) rfl _) (p := ⟨w5.heap.size + 1, 4, none⟩) rfl _)
              have hbx26 : Blk w26 (w5.heap.size + 1) 40 (GateR.cells un) := by rw [← hW]; exact (Blk.put (Blk.put (Blk.put (Blk.put (Blk.put HD25.out 0 (.int .i64 un.val)) 1 (.int .i64 un.nxt)) 2 (.int .i64 un.deny.ver)) 3 (.slice un.deny.cardsA un.deny.cards.length un.deny.cardsc)) 4 (.slice un.keptA un.kept.length un.keptc))
              clear hW
              clear cD25_0 cD25_1 cD25_2 cD25_3 cD25_4 frD25_0 frD25_1 frD25_2 frD25_3 frD25_4
              have hz26 : w25.heap.size ≤ w26.heap.size := by have := ht26.size; (try simp at this); omega
              have HG26 := Lib.hid (grown_touch HG25.out ht26 (fun i hi => by omega))
              clear HG25
              have Hrd26 := Lib.hid (Rd.touch Hrd25.out ht26 (fun i hi => by omega))
              clear Hrd25
              have HR26 := Lib.hid (Blk.touch HR25.out ht26 (show ¬ (w.heap.size = w5.heap.size + 1) by omega))
              clear HR25
              have HX26 := Lib.hid (GateOwn.touch HoX.out ht26 (fun i hi e0 => by have a1 := LTX.out _ hi; have a2 := UPX.out _ hi; omega))
              clear HoX
              clear ht26 HD25
              have Hbx26 := Lib.hid hbx26; clear hbx26
              refine hK.out _ _ (by trivial) (fun hS => ?_)
              clear hK K
              refine wpAnyH_done (by kernel_rfl) ?_ _
              clear hS
              have NEX := Lib.hid (show ∀ k, GateBlocks un k → k ≠ w5.heap.size + 1 from fun k hk e => by have a1 := LTX.out _ hk; omega)
              go_wp2
              go_roundw
              case rel => exact ⟨k', un, q3 + 1 + 1, by go_num, by omega, by omega, Hbx26.out, HR26.out, GateOwn.base HX26.out (by omega), NEX, hn1, hn2, Hrd26.out, HG26.out, by omega⟩
              case measure => simp [intOf]
            · go_simp
              go_wp2_with fail
              refine (pick_any g (q3 + 1) (2) _ Hrd23.out (by omega)).mono ?_
              rintro e w24 ⟨x4, rfl, x40, x41, hr24, hg24⟩
              have x42 := x41 (by omega)
              clear x41
              clear cD23_0 cD23_1 cD23_2 cD23_3 cD23_4
              have hz24 : w23.heap.size ≤ w24.heap.size := by have := hg24.size; (try simp at this); omega
              have HG24 := Lib.hid (grown_trans HG23.out hg24)
              clear HG23
              have HR24 := Lib.hid (Blk.grown HR23.out hg24 (by intro e; injection e with e; omega))
              clear HR23
              have HD24 := Lib.hid (Blk.grown HD23.out hg24 (by intro e; injection e with e; omega))
              clear HD23
              have HV24 := Lib.hid (GateOwn.touch HV23.out (Touch.of_grown hg24) (fun i hi e0 => by injection e0 with e0; have a1 := LTV.out _ hi; omega))
              clear HV23
              clear hg24
              clear Hrd23
              have Hrd24 := Lib.hid hr24; clear hr24
              have hgl24 : g < w24.heap.size := (Hrd24.out).lt
              obtain ⟨cD24_0, cD24_1, cD24_2, cD24_3, cD24_4⟩ := gateCells (t := 40) (v := u) HD24.out
              go_simp
              refine hK.out _ _ (by trivial) (fun hS => ?_)
              clear hK K
              refine take_at 9 31 (v := ?_) rfl rfl (by kernel_rfl) (by kernel_rfl) (by kernel_rfl) (fun _ _ _ h => h) (by rfl) ?_ hS ?_
              rotate_left 1
              · (intro w hSw; (try dsimp only at hSw); (try go_split_ands); go_simp; try with_reducible rfl)
              simp only [List.setIfInBounds_toArray, List.set_cons_zero, List.set_cons_succ]
              refine wpAnyH_ready (rs := [0]) (by kernel_rfl) (by simp) ?_
              refine AllReadyH.cons rfl (fun K hK => ?_) (AllReadyH.nil)
              go_simp
              refine hK.out _ _ (by trivial) (fun hS => ?_)
              clear hK K
              refine wpAnyH_ready (rs := [10]) (by kernel_rfl) (by simp) ?_
              refine AllReadyH.cons rfl (fun K hK => ?_) (AllReadyH.nil)
              go_simp
              go_wp2_with fail
              refine (specHoldCard_any u x1 x2 x3 _ _ (GateOwn.in_ HV24.out) Hsm.out).mono ?_
              rintro e w25 ⟨⟨un, rfl, hofn, hownn, hsmn⟩, hb25⟩
              obtain ⟨hn1, hn2⟩ := (show un.deny.cards.length ≤ 12 ∧ un.kept.length ≤ 10 from by
                      have h := Fares.holdCard_len u.of x1 x2 x3 (x4 == 0)
                      rw [← hofn] at h
                      exact h)
              clear hofn hsmn
              clear cD24_0 cD24_1 cD24_2 cD24_3 cD24_4
              have hz25 : w24.heap.size ≤ w25.heap.size := by have := hb25.size; (try simp at this); omega
              have HG25 := Lib.hid (grown_trans HG24.out (grown_of_below hb25 _))
              clear HG24
              have Hrd25 := Lib.hid (Rd.belowAll Hrd24.out hb25)
              clear Hrd24
              have HR25 := Lib.hid (Blk.belowAll HR24.out hb25)
              clear HR24
              have HD25 := Lib.hid (Blk.belowAll HD24.out hb25)
              clear HD24
              have HV25 := Lib.hid (GateOwn.below HV24.out hb25)
              clear HV24
              clear hb25
              (try unfold gateV)
              have LTX := Lib.hid (fun k hk => (GateOwn.lt hownn k hk).1)
              have UPX := Lib.hid (fun k hk => (GateOwn.lt hownn k hk).2)
              have HoX := Lib.hid hownn; clear hownn
              obtain ⟨cD25_0, cD25_1, cD25_2, cD25_3, cD25_4⟩ := gateCells (t := 40) (v := u) HD25.out
              have frD25_0 := (HD25.out).free 0
              have frD25_1 := (HD25.out).free 1
              have frD25_2 := (HD25.out).free 2
              have frD25_3 := (HD25.out).free 3
              have frD25_4 := (HD25.out).free 4
              go_simp
              refine hK.out _ _ (by trivial) (fun hS => ?_)
              clear hK K
              refine take_at 11 21 (v := ?_) rfl rfl (by kernel_rfl) (by kernel_rfl) (by kernel_rfl) (fun _ _ _ h => h) (by rfl) ?_ hS ?_
              rotate_left 1
              · (intro w hSw; (try dsimp only at hSw); (try go_split_ands); go_simp; try with_reducible rfl)
              simp only [List.setIfInBounds_toArray, List.set_cons_zero, List.set_cons_succ]
              refine take_at 12 33 (v := ?_) rfl rfl (by kernel_rfl) (by kernel_rfl) (by kernel_rfl) (fun _ _ _ h => h) (by rfl) ?_ hS ?_
              rotate_left 1
              · (intro w hSw; (try dsimp only at hSw); (try go_split_ands); go_simp; try with_reducible rfl)
              simp only [List.setIfInBounds_toArray, List.set_cons_zero, List.set_cons_succ]
              refine take_at 13 34 (v := ?_) rfl rfl (by kernel_rfl) (by kernel_rfl) (by kernel_rfl) (fun _ _ _ h => h) (by rfl) ?_ hS ?_
              rotate_left 1
              · (intro w hSw; (try dsimp only at hSw); (try go_split_ands); go_simp; try with_reducible rfl)
              simp only [List.setIfInBounds_toArray, List.set_cons_zero, List.set_cons_succ]
              refine wpAnyH_ready (rs := [14]) (by kernel_rfl) (by simp) ?_
              refine AllReadyH.cons rfl (fun K hK => ?_) (AllReadyH.nil)
              go_simp
              generalize hW : World.setCell _ _ _ = w26
              have ht26 : Touch (fun i => i = w5.heap.size + 1) w25 w26 := by rw [← hW]; exact (Touch.far (K := fun i => i = w5.heap.size + 1) (Touch.far (K := fun i => i = w5.heap.size + 1) (Touch.far (K := fun i => i = w5.heap.size + 1) (Touch.far (K := fun i => i = w5.heap.size + 1) (Touch.far (K := fun i => i = w5.heap.size + 1) (Touch.refl _ _) (p := ⟨w5.heap.size + 1, 0, none⟩) rfl _) (p := ⟨w5.heap.size + 1, 1, none⟩) rfl _) (p := ⟨w5.heap.size + 1, 2, none⟩) rfl _) (p := ⟨w5.heap.size + 1, 3, none⟩) rfl _) (p := ⟨w5.heap.size + 1, 4, none⟩) rfl _)
              have hbx26 : Blk w26 (w5.heap.size + 1) 40 (GateR.cells un) := by rw [← hW]; exact (Blk.put (Blk.put (Blk.put (Blk.put (Blk.put HD25.out 0 (.int .i64 un.val)) 1 (.int .i64 un.nxt)) 2 (.int .i64 un.deny.ver)) 3 (.slice un.deny.cardsA un.deny.cards.length un.deny.cardsc)) 4 (.slice un.keptA un.kept.length un.keptc))
              clear hW
              clear cD25_0 cD25_1 cD25_2 cD25_3 cD25_4 frD25_0 frD25_1 frD25_2 frD25_3 frD25_4
              have hz26 : w25.heap.size ≤ w26.heap.size := by have := ht26.size; (try simp at this); omega
              have HG26 := Lib.hid (grown_touch HG25.out ht26 (fun i hi => by omega))
              clear HG25
              have Hrd26 := Lib.hid (Rd.touch Hrd25.out ht26 (fun i hi => by omega))
              clear Hrd25
              have HR26 := Lib.hid (Blk.touch HR25.out ht26 (show ¬ (w.heap.size = w5.heap.size + 1) by omega))
              clear HR25
              have HX26 := Lib.hid (GateOwn.touch HoX.out ht26 (fun i hi e0 => by have a1 := LTX.out _ hi; have a2 := UPX.out _ hi; omega))
              clear HoX
              clear ht26 HD25
              have Hbx26 := Lib.hid hbx26; clear hbx26
              refine hK.out _ _ (by trivial) (fun hS => ?_)
              clear hK K
              refine wpAnyH_done (by kernel_rfl) ?_ _
              clear hS
              have NEX := Lib.hid (show ∀ k, GateBlocks un k → k ≠ w5.heap.size + 1 from fun k hk e => by have a1 := LTX.out _ hk; omega)
              go_wp2
              go_roundw
              case rel => exact ⟨k', un, q3 + 1 + 1, by go_num, by omega, by omega, Hbx26.out, HR26.out, GateOwn.base HX26.out (by omega), NEX, hn1, hn2, Hrd26.out, HG26.out, by omega⟩
              case measure => simp [intOf]
    · have hk1 : decide ((0 : Int) < (k : Int)) = false := by simp; omega
      obtain ⟨hE, hK, hap⟩ := hU
      have Hap := Lib.hid hap; clear hap
      have NEE := Lib.hid (show ∀ k, DenyBlocks u.deny k → k ≠ w5.heap.size + 1 from fun k hk => NEU1.out k (.inl hk))
      have NEK := Lib.hid (show ∀ k, (.slice u.keptA u.kept.length u.keptc : Value).ownBlock = some k → k ≠ w5.heap.size + 1 from fun k hk => NEU1.out k (.inr hk))
      have LTE := Lib.hid (fun k hk => (DenyOwn.lt hE k hk).1)
      have UPE := Lib.hid (fun k hk => (DenyOwn.lt hE k hk).2)
      have HoE := Lib.hid hE; clear hE
      have LTK := Lib.hid (fun k hk => (World.ownsRow.lt hK k hk).1)
      have UPK := Lib.hid (fun k hk => (World.ownsRow.lt hK k hk).2)
      have HoK := Lib.hid hK; clear hK
      obtain ⟨cD20_0, cD20_1, cD20_2, cD20_3, cD20_4⟩ := gateCells (t := 40) (v := u) HD.out
      go_wp2_with fail
      refine (pick_any g (q) (24) _ Hrd.out (by omega)).mono ?_
      rintro e w21 ⟨sw, rfl, sw0, sw1, hr21, hg21⟩
      have sw2 := sw1 (by omega)
      clear sw1
      clear cD20_0 cD20_1 cD20_2 cD20_3 cD20_4
      have hz21 : wr.heap.size ≤ w21.heap.size := by have := hg21.size; (try simp at this); omega
      have HG21 := Lib.hid (grown_trans HG.out hg21)
      clear HG
      have HR21 := Lib.hid (Blk.grown HR.out hg21 (by intro e; injection e with e; omega))
      clear HR
      have HD21 := Lib.hid (Blk.grown HD.out hg21 (by intro e; injection e with e; omega))
      clear HD
      have HE21 := Lib.hid (DenyOwn.touch HoE.out (Touch.of_grown hg21) (fun i hi e0 => by injection e0 with e0; have a1 := LTE.out _ hi; omega))
      clear HoE
      have HK21 := Lib.hid (ownTouch HoK.out (Touch.of_grown hg21) (fun i hi e0 => by injection e0 with e0; have a1 := LTK.out _ hi; omega))
      clear HoK
      clear hg21
      clear Hrd
      have Hrd21 := Lib.hid hr21; clear hr21
      have hgl21 : g < w21.heap.size := (Hrd21.out).lt
      by_cases h0 : sw = 0
      · subst h0
        obtain ⟨cD21_0, cD21_1, cD21_2, cD21_3, cD21_4⟩ := gateCells (t := 40) (v := u) HD21.out
        obtain ⟨cR21_0, cR21_1, cR21_2, cR21_3, cR21_4⟩ := gateCells (t := 40) (v := (⟨0, 0, ⟨0, none, 0, []⟩, none, 0, []⟩ : GateR)) HR21.out
        go_wp2_with fail
        generalize hW : World.alloc _ _ = w22
        have hN : Blk w22 w21.heap.size 3 #[.int .i64 (-1), .int .i64 10, .int .i64 3] := by rw [← hW]; exact Blk.new _ _ _
        have hb22 : Below w21.heap.size w21 w22 := by rw [← hW]; exact bA (Below.refl _ _) _
        clear hW
        clear cD21_0 cD21_1 cD21_2 cD21_3 cD21_4 cR21_0 cR21_1 cR21_2 cR21_3 cR21_4
        have hz22 : w21.heap.size ≤ w22.heap.size := by have := hb22.size; (try simp at this); omega
        have HG22 := Lib.hid (grown_trans HG21.out (grown_of_below hb22 _))
        clear HG21
        have Hrd22 := Lib.hid (Rd.belowAll Hrd21.out hb22)
        clear Hrd21
        have HR22 := Lib.hid (Blk.belowAll HR21.out hb22)
        clear HR21
        have HD22 := Lib.hid (Blk.belowAll HD21.out hb22)
        clear HD21
        have HE22 := Lib.hid (DenyOwn.below HE21.out hb22)
        clear HE21
        have HK22 := Lib.hid (own_below HK21.out hb22)
        clear HK21
        clear hb22
        refine (one_in g (q + 1) _ [-1, 10, 3] (-1) 10 3 3 _ _ Hrd22.out (by omega) hN (by omega) rfl rfl (by omega) (by omega) (by decide)).mono ?_
        rintro e w23 ⟨x, rfl, x0, x1, hr23, hg23⟩
        have hz23 : w22.heap.size ≤ w23.heap.size := by have := hg23.size; (try simp at this); omega
        have HG23 := Lib.hid (grown_trans HG22.out hg23)
        clear HG22
        have HR23 := Lib.hid (Blk.grown HR22.out hg23 (by intro e; injection e with e; omega))
        clear HR22
        have HD23 := Lib.hid (Blk.grown HD22.out hg23 (by intro e; injection e with e; omega))
        clear HD22
        have HE23 := Lib.hid (DenyOwn.touch HE22.out (Touch.of_grown hg23) (fun i hi e0 => by injection e0 with e0; have a1 := LTE.out _ hi; omega))
        clear HE22
        have HK23 := Lib.hid (ownTouch HK22.out (Touch.of_grown hg23) (fun i hi e0 => by injection e0 with e0; have a1 := LTK.out _ hi; omega))
        clear HK22
        clear hg23
        clear Hrd22
        have Hrd23 := Lib.hid hr23; clear hr23
        have hgl23 : g < w23.heap.size := (Hrd23.out).lt
        clear hN
        obtain ⟨cD23_0, cD23_1, cD23_2, cD23_3, cD23_4⟩ := gateCells (t := 40) (v := u) HD23.out
        obtain ⟨cR23_0, cR23_1, cR23_2, cR23_3, cR23_4⟩ := gateCells (t := 40) (v := (⟨0, 0, ⟨0, none, 0, []⟩, none, 0, []⟩ : GateR)) HR23.out
        have frD23_0 := (HD23.out).free 0
        have frD23_1 := (HD23.out).free 1
        have frD23_2 := (HD23.out).free 2
        have frD23_3 := (HD23.out).free 3
        have frD23_4 := (HD23.out).free 4
        have frR23_0 := (HR23.out).free 0
        have frR23_1 := (HR23.out).free 1
        have frR23_2 := (HR23.out).free 2
        have frR23_3 := (HR23.out).free 3
        have frR23_4 := (HR23.out).free 4
        go_wp2
        generalize hW : World.setCell _ _ _ = wf
        have htf : Touch (fun i => i = w5.heap.size + 1 ∨ i = w.heap.size) w23 wf := by rw [← hW]; exact (Touch.far (K := fun i => i = w5.heap.size + 1 ∨ i = w.heap.size) (Touch.far (K := fun i => i = w5.heap.size + 1 ∨ i = w.heap.size) (Touch.far (K := fun i => i = w5.heap.size + 1 ∨ i = w.heap.size) (Touch.far (K := fun i => i = w5.heap.size + 1 ∨ i = w.heap.size) (Touch.far (K := fun i => i = w5.heap.size + 1 ∨ i = w.heap.size) (Touch.far (K := fun i => i = w5.heap.size + 1 ∨ i = w.heap.size) (Touch.refl _ _) (p := ⟨w5.heap.size + 1, 0, none⟩) (.inl rfl) _) (p := ⟨w.heap.size, 0, none⟩) (.inr rfl) _) (p := ⟨w.heap.size, 1, none⟩) (.inr rfl) _) (p := ⟨w.heap.size, 2, none⟩) (.inr rfl) _) (p := ⟨w.heap.size, 3, none⟩) (.inr rfl) _) (p := ⟨w.heap.size, 4, none⟩) (.inr rfl) _)
        have hRf : Blk wf (w.heap.size) 40 (GateR.cells (⟨x, u.nxt, u.deny, u.keptA, u.keptc, u.kept⟩ : GateR)) := by rw [← hW]; exact (Blk.put (Blk.put (Blk.put (Blk.put (Blk.put (Blk.far HR23.out (p := ⟨w5.heap.size + 1, 0, none⟩) (show w.heap.size ≠ w5.heap.size + 1 by omega) _) 0 _) 1 _) 2 _) 3 _) 4 _)
        clear hW
        clear cD23_0 cD23_1 cD23_2 cD23_3 cD23_4 cR23_0 cR23_1 cR23_2 cR23_3 cR23_4 frD23_0 frD23_1 frD23_2 frD23_3 frD23_4 frR23_0 frR23_1 frR23_2 frR23_3 frR23_4
        obtain ⟨z0, z1, z2, z3, z4⟩ := gateCells (t := 40) (v := (⟨x, u.nxt, u.deny, u.keptA, u.keptc, u.kept⟩ : GateR)) hRf
        have hEf := DenyOwn.touch HE23.out htf (fun i hi e0 => by have a1 := LTE.out _ hi; have a3 := NEE.out _ hi; rcases e0 with e0 | e0 <;> omega)
        have hKf := ownTouch HK23.out htf (fun i hi e0 => by have a1 := LTK.out _ hi; have a3 := NEK.out _ hi; rcases e0 with e0 | e0 <;> omega)
        refine bodyPost_ret (v := gateV (⟨x, u.nxt, u.deny, u.keptA, u.keptc, u.kept⟩ : GateR)) (by simp [results, Try.results65, go_sem, gateV, z0, z1, z2, z3, z4]) rfl ⟨(⟨x, u.nxt, u.deny, u.keptA, u.keptc, u.kept⟩ : GateR), q + 1 + 1, rfl, ⟨DenyOwn.in_ hEf, ⟨OwnTaps.reads'Gate hKf, (own_le hKf rfl).1, (own_le hKf rfl).2, own_nil_ hKf⟩⟩, fun a ha => by have := own_block_ge hEf.1 a ha; omega, fun a ha => by have := own_block_ge hKf a ha; omega, show u.deny.cards.length ≤ 14 by omega, show u.kept.length ≤ 11 by omega, by omega, Rd.touch Hrd23.out htf (fun i hi => by rcases hi with hi | hi <;> omega), grown_touch HG23.out htf (fun i hi => by rcases hi with hi | hi <;> omega)⟩
      · have h0' : (sw == 0) = false := by simpa using h0
        by_cases h1 : sw = 1
        · subst h1
          obtain ⟨cD21_0, cD21_1, cD21_2, cD21_3, cD21_4⟩ := gateCells (t := 40) (v := u) HD21.out
          obtain ⟨cR21_0, cR21_1, cR21_2, cR21_3, cR21_4⟩ := gateCells (t := 40) (v := (⟨0, 0, ⟨0, none, 0, []⟩, none, 0, []⟩ : GateR)) HR21.out
          go_wp2_with fail
          generalize hW : World.alloc _ _ = w22
          have hN : Blk w22 w21.heap.size 3 #[.int .i64 0, .int .i64 1000, .int .i64 1001] := by rw [← hW]; exact Blk.new _ _ _
          have hb22 : Below w21.heap.size w21 w22 := by rw [← hW]; exact bA (Below.refl _ _) _
          clear hW
          clear cD21_0 cD21_1 cD21_2 cD21_3 cD21_4 cR21_0 cR21_1 cR21_2 cR21_3 cR21_4
          have hz22 : w21.heap.size ≤ w22.heap.size := by have := hb22.size; (try simp at this); omega
          have HG22 := Lib.hid (grown_trans HG21.out (grown_of_below hb22 _))
          clear HG21
          have Hrd22 := Lib.hid (Rd.belowAll Hrd21.out hb22)
          clear Hrd21
          have HR22 := Lib.hid (Blk.belowAll HR21.out hb22)
          clear HR21
          have HD22 := Lib.hid (Blk.belowAll HD21.out hb22)
          clear HD21
          have HE22 := Lib.hid (DenyOwn.below HE21.out hb22)
          clear HE21
          have HK22 := Lib.hid (own_below HK21.out hb22)
          clear HK21
          clear hb22
          refine (one_in g (q + 1) _ [0, 1000, 1001] (0) 1001 3 3 _ _ Hrd22.out (by omega) hN (by omega) rfl rfl (by omega) (by omega) (by decide)).mono ?_
          rintro e w23 ⟨x, rfl, x0, x1, hr23, hg23⟩
          have hz23 : w22.heap.size ≤ w23.heap.size := by have := hg23.size; (try simp at this); omega
          have HG23 := Lib.hid (grown_trans HG22.out hg23)
          clear HG22
          have HR23 := Lib.hid (Blk.grown HR22.out hg23 (by intro e; injection e with e; omega))
          clear HR22
          have HD23 := Lib.hid (Blk.grown HD22.out hg23 (by intro e; injection e with e; omega))
          clear HD22
          have HE23 := Lib.hid (DenyOwn.touch HE22.out (Touch.of_grown hg23) (fun i hi e0 => by injection e0 with e0; have a1 := LTE.out _ hi; omega))
          clear HE22
          have HK23 := Lib.hid (ownTouch HK22.out (Touch.of_grown hg23) (fun i hi e0 => by injection e0 with e0; have a1 := LTK.out _ hi; omega))
          clear HK22
          clear hg23
          clear Hrd22
          have Hrd23 := Lib.hid hr23; clear hr23
          have hgl23 : g < w23.heap.size := (Hrd23.out).lt
          clear hN
          obtain ⟨cD23_0, cD23_1, cD23_2, cD23_3, cD23_4⟩ := gateCells (t := 40) (v := u) HD23.out
          obtain ⟨cR23_0, cR23_1, cR23_2, cR23_3, cR23_4⟩ := gateCells (t := 40) (v := (⟨0, 0, ⟨0, none, 0, []⟩, none, 0, []⟩ : GateR)) HR23.out
          have frD23_0 := (HD23.out).free 0
          have frD23_1 := (HD23.out).free 1
          have frD23_2 := (HD23.out).free 2
          have frD23_3 := (HD23.out).free 3
          have frD23_4 := (HD23.out).free 4
          have frR23_0 := (HR23.out).free 0
          have frR23_1 := (HR23.out).free 1
          have frR23_2 := (HR23.out).free 2
          have frR23_3 := (HR23.out).free 3
          have frR23_4 := (HR23.out).free 4
          go_wp2
          generalize hW : World.setCell _ _ _ = wf
          have htf : Touch (fun i => i = w5.heap.size + 1 ∨ i = w.heap.size) w23 wf := by rw [← hW]; exact (Touch.far (K := fun i => i = w5.heap.size + 1 ∨ i = w.heap.size) (Touch.far (K := fun i => i = w5.heap.size + 1 ∨ i = w.heap.size) (Touch.far (K := fun i => i = w5.heap.size + 1 ∨ i = w.heap.size) (Touch.far (K := fun i => i = w5.heap.size + 1 ∨ i = w.heap.size) (Touch.far (K := fun i => i = w5.heap.size + 1 ∨ i = w.heap.size) (Touch.far (K := fun i => i = w5.heap.size + 1 ∨ i = w.heap.size) (Touch.refl _ _) (p := ⟨w5.heap.size + 1, 1, none⟩) (.inl rfl) _) (p := ⟨w.heap.size, 0, none⟩) (.inr rfl) _) (p := ⟨w.heap.size, 1, none⟩) (.inr rfl) _) (p := ⟨w.heap.size, 2, none⟩) (.inr rfl) _) (p := ⟨w.heap.size, 3, none⟩) (.inr rfl) _) (p := ⟨w.heap.size, 4, none⟩) (.inr rfl) _)
          have hRf : Blk wf (w.heap.size) 40 (GateR.cells (⟨u.val, x, u.deny, u.keptA, u.keptc, u.kept⟩ : GateR)) := by rw [← hW]; exact (Blk.put (Blk.put (Blk.put (Blk.put (Blk.put (Blk.far HR23.out (p := ⟨w5.heap.size + 1, 1, none⟩) (show w.heap.size ≠ w5.heap.size + 1 by omega) _) 0 _) 1 _) 2 _) 3 _) 4 _)
          clear hW
          clear cD23_0 cD23_1 cD23_2 cD23_3 cD23_4 cR23_0 cR23_1 cR23_2 cR23_3 cR23_4 frD23_0 frD23_1 frD23_2 frD23_3 frD23_4 frR23_0 frR23_1 frR23_2 frR23_3 frR23_4
          obtain ⟨z0, z1, z2, z3, z4⟩ := gateCells (t := 40) (v := (⟨u.val, x, u.deny, u.keptA, u.keptc, u.kept⟩ : GateR)) hRf
          have hEf := DenyOwn.touch HE23.out htf (fun i hi e0 => by have a1 := LTE.out _ hi; have a3 := NEE.out _ hi; rcases e0 with e0 | e0 <;> omega)
          have hKf := ownTouch HK23.out htf (fun i hi e0 => by have a1 := LTK.out _ hi; have a3 := NEK.out _ hi; rcases e0 with e0 | e0 <;> omega)
          refine bodyPost_ret (v := gateV (⟨u.val, x, u.deny, u.keptA, u.keptc, u.kept⟩ : GateR)) (by simp [results, Try.results65, go_sem, gateV, z0, z1, z2, z3, z4]) rfl ⟨(⟨u.val, x, u.deny, u.keptA, u.keptc, u.kept⟩ : GateR), q + 1 + 1, rfl, ⟨DenyOwn.in_ hEf, ⟨OwnTaps.reads'Gate hKf, (own_le hKf rfl).1, (own_le hKf rfl).2, own_nil_ hKf⟩⟩, fun a ha => by have := own_block_ge hEf.1 a ha; omega, fun a ha => by have := own_block_ge hKf a ha; omega, show u.deny.cards.length ≤ 14 by omega, show u.kept.length ≤ 11 by omega, by omega, Rd.touch Hrd23.out htf (fun i hi => by rcases hi with hi | hi <;> omega), grown_touch HG23.out htf (fun i hi => by rcases hi with hi | hi <;> omega)⟩
        · have h1' : (sw == 1) = false := by simpa using h1
          by_cases h2 : sw = 2
          · subst h2
            go_wp2_with fail
            refine (anyDeny_any g (q + 1) _ Hrd21.out (by omega)).mono ?_
            rintro e w22 ⟨d2, q2, rfl, hin2, hab2, hdl2, hxb2, hv02, hv12, hq2, hr22, hg22⟩
            have hz22 : w21.heap.size ≤ w22.heap.size := by have := hg22.size; (try simp at this); omega
            have HG22 := Lib.hid (grown_trans HG21.out hg22)
            clear HG21
            have HR22 := Lib.hid (Blk.grown HR21.out hg22 (by intro e; injection e with e; omega))
            clear HR21
            have HD22 := Lib.hid (Blk.grown HD21.out hg22 (by intro e; injection e with e; omega))
            clear HD21
            have HE22 := Lib.hid (DenyOwn.touch HE21.out (Touch.of_grown hg22) (fun i hi e0 => by injection e0 with e0; have a1 := LTE.out _ hi; omega))
            clear HE21
            have HK22 := Lib.hid (ownTouch HK21.out (Touch.of_grown hg22) (fun i hi e0 => by injection e0 with e0; have a1 := LTK.out _ hi; omega))
            clear HK21
            clear hg22
            clear Hrd21
            have Hrd22 := Lib.hid hr22; clear hr22
            have hgl22 : g < w22.heap.size := (Hrd22.out).lt
            clear hxb2 hv02 hv12
            have Hin2 := Lib.hid hin2; clear hin2
            have Hab2 := Lib.hid hab2; clear hab2
            unfold denyV
            obtain ⟨cD22_0, cD22_1, cD22_2, cD22_3, cD22_4⟩ := gateCells (t := 40) (v := u) HD22.out
            obtain ⟨cR22_0, cR22_1, cR22_2, cR22_3, cR22_4⟩ := gateCells (t := 40) (v := (⟨0, 0, ⟨0, none, 0, []⟩, none, 0, []⟩ : GateR)) HR22.out
            have frD22_0 := (HD22.out).free 0
            have frD22_1 := (HD22.out).free 1
            have frD22_2 := (HD22.out).free 2
            have frD22_3 := (HD22.out).free 3
            have frD22_4 := (HD22.out).free 4
            have frR22_0 := (HR22.out).free 0
            have frR22_1 := (HR22.out).free 1
            have frR22_2 := (HR22.out).free 2
            have frR22_3 := (HR22.out).free 3
            have frR22_4 := (HR22.out).free 4
            go_wp2
            generalize hW : World.setCell _ _ _ = wf
            have htf : Touch (fun i => i = w5.heap.size + 1 ∨ i = w.heap.size) w22 wf := by rw [← hW]; exact (Touch.far (K := fun i => i = w5.heap.size + 1 ∨ i = w.heap.size) (Touch.far (K := fun i => i = w5.heap.size + 1 ∨ i = w.heap.size) (Touch.far (K := fun i => i = w5.heap.size + 1 ∨ i = w.heap.size) (Touch.far (K := fun i => i = w5.heap.size + 1 ∨ i = w.heap.size) (Touch.far (K := fun i => i = w5.heap.size + 1 ∨ i = w.heap.size) (Touch.far (K := fun i => i = w5.heap.size + 1 ∨ i = w.heap.size) (Touch.far (K := fun i => i = w5.heap.size + 1 ∨ i = w.heap.size) (Touch.refl _ _) (p := ⟨w5.heap.size + 1, 2, none⟩) (.inl rfl) _) (p := ⟨w5.heap.size + 1, 3, none⟩) (.inl rfl) _) (p := ⟨w.heap.size, 0, none⟩) (.inr rfl) _) (p := ⟨w.heap.size, 1, none⟩) (.inr rfl) _) (p := ⟨w.heap.size, 2, none⟩) (.inr rfl) _) (p := ⟨w.heap.size, 3, none⟩) (.inr rfl) _) (p := ⟨w.heap.size, 4, none⟩) (.inr rfl) _)
            have hRf : Blk wf (w.heap.size) 40 (GateR.cells (⟨u.val, u.nxt, d2, u.keptA, u.keptc, u.kept⟩ : GateR)) := by rw [← hW]; exact (Blk.put (Blk.put (Blk.put (Blk.put (Blk.put (Blk.far (Blk.far HR22.out (p := ⟨w5.heap.size + 1, 2, none⟩) (show w.heap.size ≠ w5.heap.size + 1 by omega) _) (p := ⟨w5.heap.size + 1, 3, none⟩) (show w.heap.size ≠ w5.heap.size + 1 by omega) _) 0 _) 1 _) 2 _) 3 _) 4 _)
            clear hW
            clear cD22_0 cD22_1 cD22_2 cD22_3 cD22_4 cR22_0 cR22_1 cR22_2 cR22_3 cR22_4 frD22_0 frD22_1 frD22_2 frD22_3 frD22_4 frR22_0 frR22_1 frR22_2 frR22_3 frR22_4
            obtain ⟨z0, z1, z2, z3, z4⟩ := gateCells (t := 40) (v := (⟨u.val, u.nxt, d2, u.keptA, u.keptc, u.kept⟩ : GateR)) hRf
            have hdf : DenyIn wf wf.heap.size d2 := DenyIn.touch Hin2.out htf (b := w21.heap.size) Hab2.out (fun i hi => by rcases hi with hi | hi <;> omega)
            have hKf := ownTouch HK22.out htf (fun i hi e0 => by have a1 := LTK.out _ hi; have a3 := NEK.out _ hi; rcases e0 with e0 | e0 <;> omega)
            refine bodyPost_ret (v := gateV (⟨u.val, u.nxt, d2, u.keptA, u.keptc, u.kept⟩ : GateR)) (by simp [results, Try.results65, go_sem, gateV, z0, z1, z2, z3, z4]) rfl ⟨(⟨u.val, u.nxt, d2, u.keptA, u.keptc, u.kept⟩ : GateR), q2, rfl, ⟨hdf, ⟨OwnTaps.reads'Gate hKf, (own_le hKf rfl).1, (own_le hKf rfl).2, own_nil_ hKf⟩⟩, fun a ha => by have := Hab2.out a ha; omega, fun a ha => by have := own_block_ge hKf a ha; omega, show d2.cards.length ≤ 14 by omega, show u.kept.length ≤ 11 by omega, by omega, Rd.touch Hrd22.out htf (fun i hi => by rcases hi with hi | hi <;> omega), grown_touch HG22.out htf (fun i hi => by rcases hi with hi | hi <;> omega)⟩
          · have h2' : (sw == 2) = false := by simpa using h2
            by_cases h3 : sw = 3
            · subst h3
              obtain ⟨cD21_0, cD21_1, cD21_2, cD21_3, cD21_4⟩ := gateCells (t := 40) (v := u) HD21.out
              go_wp2
              refine wp_region_held_drew (S := fun w' => True) (by kernel_rfl) (by trivial) (fun hS => ?_)
              refine take_at 0 56 (v := ?_) rfl rfl (by kernel_rfl) (by kernel_rfl) (by kernel_rfl) (fun _ _ _ h => h) (by rfl) ?_ hS ?_
              rotate_left 1
              · (intro w hSw; (try dsimp only at hSw); (try go_split_ands); go_simp; try with_reducible rfl)
              simp only [List.setIfInBounds_toArray, List.set_cons_zero, List.set_cons_succ]
              refine take_at 2 58 (v := ?_) rfl rfl (by kernel_rfl) (by kernel_rfl) (by kernel_rfl) (fun _ _ _ h => h) (by rfl) ?_ hS ?_
              rotate_left 1
              · (intro w hSw; (try dsimp only at hSw); (try go_split_ands); go_simp; try with_reducible rfl)
              simp only [List.setIfInBounds_toArray, List.set_cons_zero, List.set_cons_succ]
              refine wpAnyH_ready (rs := [1, 3]) (by kernel_rfl) (by simp) ?_
              refine AllReadyH.cons rfl (fun K hK => ?_) (AllReadyH.cons rfl (fun K hK => ?_) (AllReadyH.nil))
              · go_simp
                refine hK.out _ _ (by trivial) (fun hS => ?_)
                clear hK K
                refine wpAnyH_ready (rs := [3]) (by kernel_rfl) (by simp) ?_
                refine AllReadyH.cons rfl (fun K hK => ?_) (AllReadyH.nil)
                go_simp
                go_wp2_with fail
                refine (anyTap_any g (q + 1) _ (Rd.drew Hrd21.out) (by omega)).mono ?_
                rintro e w22 ⟨t, q2, rfl, hts, hq2, hr22, hg22⟩
                clear cD21_0 cD21_1 cD21_2 cD21_3 cD21_4
                have hz22 : w21.heap.size ≤ w22.heap.size := by have := hg22.size; (try simp at this); omega
                have HG22 := Lib.hid (grown_trans (grownDrew HG21.out) hg22)
                clear HG21
                have HR22 := Lib.hid (Blk.grown (blkDrew HR21.out) hg22 (by intro e; injection e with e; omega))
                clear HR21
                have HD22 := Lib.hid (Blk.grown (blkDrew HD21.out) hg22 (by intro e; injection e with e; omega))
                clear HD21
                have HE22 := Lib.hid (DenyOwn.touch (DenyOwn.drew HE21.out) (Touch.of_grown hg22) (fun i hi e0 => by injection e0 with e0; have a1 := LTE.out _ hi; omega))
                clear HE21
                have HK22 := Lib.hid (ownTouch (ownDrew HK21.out) (Touch.of_grown hg22) (fun i hi e0 => by injection e0 with e0; have a1 := LTK.out _ hi; omega))
                clear HK21
                clear hg22
                clear Hrd21
                have Hrd22 := Lib.hid hr22; clear hr22
                have hgl22 : g < w22.heap.size := (Hrd22.out).lt
                clear hts
                unfold tapV
                obtain ⟨cD22_0, cD22_1, cD22_2, cD22_3, cD22_4⟩ := gateCells (t := 40) (v := u) HD22.out
                have frD22_0 := (HD22.out).free 0
                have frD22_1 := (HD22.out).free 1
                have frD22_2 := (HD22.out).free 2
                have frD22_3 := (HD22.out).free 3
                have frD22_4 := (HD22.out).free 4
                go_simp
                refine hK.out _ _ (by trivial) (fun hS => ?_)
                clear hK K
                refine wpAnyH_ready (rs := [4]) (by kernel_rfl) (by simp) ?_
                refine AllReadyH.cons rfl (fun K hK => ?_) (AllReadyH.nil)
                go_simp
                have pa0 : (World.alloc w22 (.cells #[.int .i64 t.v, .int .i64 t.n, .int .i64 t.c, .int .i64 t.m, .int .i64 t.s, .bool t.o] 57)).cell? ⟨w5.heap.size + 1, 0, none⟩ = some (.int .i64 u.val) := (Blk.alloc HD22.out _).cell 0
                have pa1 : (World.alloc w22 (.cells #[.int .i64 t.v, .int .i64 t.n, .int .i64 t.c, .int .i64 t.m, .int .i64 t.s, .bool t.o] 57)).cell? ⟨w5.heap.size + 1, 1, none⟩ = some (.int .i64 u.nxt) := (Blk.alloc HD22.out _).cell 1
                have pa2 : (World.alloc w22 (.cells #[.int .i64 t.v, .int .i64 t.n, .int .i64 t.c, .int .i64 t.m, .int .i64 t.s, .bool t.o] 57)).cell? ⟨w5.heap.size + 1, 2, none⟩ = some (.int .i64 u.deny.ver) := (Blk.alloc HD22.out _).cell 2
                have pa3 : (World.alloc w22 (.cells #[.int .i64 t.v, .int .i64 t.n, .int .i64 t.c, .int .i64 t.m, .int .i64 t.s, .bool t.o] 57)).cell? ⟨w5.heap.size + 1, 3, none⟩ = some (.slice u.deny.cardsA u.deny.cards.length u.deny.cardsc) := (Blk.alloc HD22.out _).cell 3
                have pa4 : (World.alloc w22 (.cells #[.int .i64 t.v, .int .i64 t.n, .int .i64 t.c, .int .i64 t.m, .int .i64 t.s, .bool t.o] 57)).cell? ⟨w5.heap.size + 1, 4, none⟩ = some (.slice u.keptA u.kept.length u.keptc) := (Blk.alloc HD22.out _).cell 4
                refine hK.out _ _ (by trivial) (fun hS => ?_)
                clear hK K
                refine wpAnyH_ready (rs := [5]) (by kernel_rfl) (by simp) ?_
                refine AllReadyH.cons rfl (fun K hK => ?_) (AllReadyH.nil)
                refine step_append_lies _ rfl (.tmp 57) (.tmp 60) _ rfl (w.heap.size + 1) 57 ti _ 6 48 Try.underlying38 HITap.out HZ0Tap.out HZ1Tap.out HZ2Tap.out rfl (by omega) _ _ _ rfl (World.ownsRow.alloc HK22.out _) ⟨w22.heap.size, 0, none⟩ 1 1 (tapCells t) rfl rfl ?c1 ?c2 (by omega) ?c3 ?c4 ?c5 _ rfl ?_
                case c1 => exact World.news_of_block (Blk.new' (t := 57) (cs := #[.int .i64 t.v, .int .i64 t.n, .int .i64 t.c, .int .i64 t.m, .int .i64 t.s, .bool t.o]) (by simp))
                case c2 => simp [tapCells, Value.oneCell']
                case c3 => unfold maxLen; omega
                case c4 => omega
                case c5 => first | omega | (simp; omega) | simp
                intro gb cap w23 hownA hgrow23 hatA hltA
                have HX := Lib.hid (OwnTaps.snoc hownA); clear hownA
                have HatA := Lib.hid hatA; clear hatA
                have hz23 : w22.heap.size + 1 ≤ w23.heap.size := by have := hgrow23.size; (try simp at this); omega
                have HG23 := Lib.hid (grown_touch (grown_alloc HG22.out _) (Touch.of_grown hgrow23) (fun i hi => by have a1 := LTK.out _ hi; omega))
                clear HG22
                have Hrd23 := Lib.hid (Rd.touch (Rd.alloc Hrd22.out _) (Touch.of_grown hgrow23) (fun i hi => by have a1 := LTK.out _ hi; omega))
                clear Hrd22
                have HR23 := Lib.hid (Blk.grown (Blk.alloc HR22.out _) hgrow23 (by intro e; have a1 := LTK.out _ e.symm; have a2 := UPK.out _ e.symm; have a7 := NEK.out _ e.symm; omega))
                clear HR22
                have HD23 := Lib.hid (Blk.grown (Blk.alloc HD22.out _) hgrow23 (by intro e; have a1 := LTK.out _ e.symm; have a2 := UPK.out _ e.symm; have a7 := NEK.out _ e.symm; omega))
                clear HD22
                have HE23 := Lib.hid (DenyOwn.touch (DenyOwn.up HE22.out _) (Touch.of_grown hgrow23) (fun i hi e0 => Hap.out i hi e0))
                clear HE22
                clear hgrow23 HK22
                have hXk : World.ownsRow w23 (w.heap.size + 1) 57 6 (.slice (some ⟨gb, 0, none⟩) (u.kept ++ [t]).length cap) (u.kept ++ [t]).length ((u.kept ++ [t]).flatMap tapCells) := by have h := HX.out; unfold OwnTaps at h; rw [List.length_append, List.length_singleton] at h ⊢; exact h
                clear HX
                have LTA := Lib.hid (fun k hk => (World.ownsRow.lt hXk k hk).1)
                have UPA := Lib.hid (fun k hk => (World.ownsRow.lt hXk k hk).2)
                have HoA := Lib.hid hXk; clear hXk
                have hlk : (u.kept ++ [t]).length = u.kept.length + 1 := by simp
                have Hlk := Lib.hid hlk; clear hlk
                have NEA := Lib.hid (show ∀ k, (.slice (some ⟨gb, 0, none⟩) (u.kept ++ [t]).length cap : Value).ownBlock = some k → k ≠ w5.heap.size + 1 from fun k hk => by
                            have ek : gb = k := by injection hk
                            subst ek
                            rcases HatA.out with e | e
                            · exact NEK.out _ e
                            · (try simp at e)
                              omega)
                obtain ⟨cD23_0, cD23_1, cD23_2, cD23_3, cD23_4⟩ := gateCells (t := 40) (v := u) HD23.out
                have frD23_0 := (HD23.out).free 0
                have frD23_1 := (HD23.out).free 1
                have frD23_2 := (HD23.out).free 2
                have frD23_3 := (HD23.out).free 3
                have frD23_4 := (HD23.out).free 4
                go_simp
                refine hK.out _ _ (by trivial) (fun hS => ?_)
                clear hK K
                refine take_at 6 62 (v := ?_) rfl rfl (by kernel_rfl) (by kernel_rfl) (by kernel_rfl) (fun _ _ _ h => h) (by rfl) ?_ hS ?_
                rotate_left 1
                · (intro w hSw; (try dsimp only at hSw); (try go_split_ands); go_simp; try with_reducible rfl)
                simp only [List.setIfInBounds_toArray, List.set_cons_zero, List.set_cons_succ]
                refine wpAnyH_ready (rs := [7]) (by kernel_rfl) (by simp) ?_
                refine AllReadyH.cons rfl (fun K hK => ?_) (AllReadyH.nil)
                go_simp
                generalize hW : World.setCell _ _ _ = w24
                have ht24 : Touch (fun i => i = w5.heap.size + 1) w23 w24 := by rw [← hW]; exact Touch.far (K := fun i => i = w5.heap.size + 1) (Touch.refl _ _) (p := ⟨w5.heap.size + 1, 4, none⟩) rfl _
                have hbx24 : Blk w24 (w5.heap.size + 1) 40 (GateR.cells (⟨u.val, u.nxt, u.deny, some ⟨gb, 0, none⟩, cap, u.kept ++ [t]⟩ : GateR)) := by rw [← hW]; unfold GateR.cells; dsimp only; rw [Hlk.out]; exact Blk.put HD23.out 4 (.slice (some ⟨gb, 0, none⟩) (u.kept.length + 1) cap)
                clear hW
                clear cD22_0 cD22_1 cD22_2 cD22_3 cD22_4 frD22_0 frD22_1 frD22_2 frD22_3 frD22_4 pa0 pa1 pa2 pa3 pa4 cD23_0 cD23_1 cD23_2 cD23_3 cD23_4 frD23_0 frD23_1 frD23_2 frD23_3 frD23_4
                have hz24 : w23.heap.size ≤ w24.heap.size := by have := ht24.size; (try simp at this); omega
                have HG24 := Lib.hid (grown_touch HG23.out ht24 (fun i hi => by omega))
                clear HG23
                have Hrd24 := Lib.hid (Rd.touch Hrd23.out ht24 (fun i hi => by omega))
                clear Hrd23
                have HR24 := Lib.hid (Blk.touch HR23.out ht24 (show ¬ (w.heap.size = w5.heap.size + 1) by omega))
                clear HR23
                have HE24 := Lib.hid (DenyOwn.touch HE23.out ht24 (fun i hi e0 => by have a1 := LTE.out _ hi; have a2 := UPE.out _ hi; have a7 := NEE.out _ hi; omega))
                clear HE23
                have HA24 := Lib.hid (ownTouch HoA.out ht24 (fun i hi e0 => by have a1 := LTA.out _ hi; have a2 := UPA.out _ hi; have a7 := NEA.out _ hi; omega))
                clear HoA
                clear ht24 HD23
                have Hbx24 := Lib.hid hbx24; clear hbx24
                refine hK.out _ _ (by trivial) (fun hS => ?_)
                clear hK K
                refine wpAnyH_done (by kernel_rfl) ?_ _
                clear hS
                obtain ⟨cD24_0, cD24_1, cD24_2, cD24_3, cD24_4⟩ := gateCells (t := 40) (v := (⟨u.val, u.nxt, u.deny, some ⟨gb, 0, none⟩, cap, u.kept ++ [t]⟩ : GateR)) Hbx24.out
                obtain ⟨cR24_0, cR24_1, cR24_2, cR24_3, cR24_4⟩ := gateCells (t := 40) (v := (⟨0, 0, ⟨0, none, 0, []⟩, none, 0, []⟩ : GateR)) HR24.out
                have frD24_0 := (Hbx24.out).free 0
                have frD24_1 := (Hbx24.out).free 1
                have frD24_2 := (Hbx24.out).free 2
                have frD24_3 := (Hbx24.out).free 3
                have frD24_4 := (Hbx24.out).free 4
                have frR24_0 := (HR24.out).free 0
                have frR24_1 := (HR24.out).free 1
                have frR24_2 := (HR24.out).free 2
                have frR24_3 := (HR24.out).free 3
                have frR24_4 := (HR24.out).free 4
                go_wp2
                generalize hW : World.setCell _ _ _ = wf
                have htf : Touch (fun i => i = w5.heap.size + 1 ∨ i = w.heap.size) w24 wf := by rw [← hW]; exact (Touch.far (K := fun i => i = w5.heap.size + 1 ∨ i = w.heap.size) (Touch.far (K := fun i => i = w5.heap.size + 1 ∨ i = w.heap.size) (Touch.far (K := fun i => i = w5.heap.size + 1 ∨ i = w.heap.size) (Touch.far (K := fun i => i = w5.heap.size + 1 ∨ i = w.heap.size) (Touch.far (K := fun i => i = w5.heap.size + 1 ∨ i = w.heap.size) (Touch.refl _ _) (p := ⟨w.heap.size, 0, none⟩) (.inr rfl) _) (p := ⟨w.heap.size, 1, none⟩) (.inr rfl) _) (p := ⟨w.heap.size, 2, none⟩) (.inr rfl) _) (p := ⟨w.heap.size, 3, none⟩) (.inr rfl) _) (p := ⟨w.heap.size, 4, none⟩) (.inr rfl) _)
                have hRf : Blk wf (w.heap.size) 40 (GateR.cells (⟨u.val, u.nxt, u.deny, some ⟨gb, 0, none⟩, cap, u.kept ++ [t]⟩ : GateR)) := by rw [← hW]; unfold GateR.cells; dsimp only; rw [Hlk.out]; exact (Blk.put (Blk.put (Blk.put (Blk.put (Blk.put HR24.out 0 _) 1 _) 2 _) 3 _) 4 _)
                clear hW
                clear cD24_0 cD24_1 cD24_2 cD24_3 cD24_4 cR24_0 cR24_1 cR24_2 cR24_3 cR24_4 frD24_0 frD24_1 frD24_2 frD24_3 frD24_4 frR24_0 frR24_1 frR24_2 frR24_3 frR24_4
                obtain ⟨z0, z1, z2, z3, z4⟩ := gateCells (t := 40) (v := (⟨u.val, u.nxt, u.deny, some ⟨gb, 0, none⟩, cap, u.kept ++ [t]⟩ : GateR)) hRf
                have hEf := DenyOwn.touch HE24.out htf (fun i hi e0 => by have a1 := LTE.out _ hi; have a3 := NEE.out _ hi; rcases e0 with e0 | e0 <;> omega)
                have hKf := ownTouch HA24.out htf (fun i hi e0 => by have a1 := LTA.out _ hi; have a3 := NEA.out _ hi; rcases e0 with e0 | e0 <;> omega)
                refine bodyPost_ret (v := gateV (⟨u.val, u.nxt, u.deny, some ⟨gb, 0, none⟩, cap, u.kept ++ [t]⟩ : GateR)) (by simp [results, Try.results65, go_sem, gateV, z0, z1, z2, z3, z4]) rfl ⟨(⟨u.val, u.nxt, u.deny, some ⟨gb, 0, none⟩, cap, u.kept ++ [t]⟩ : GateR), q2, rfl, ⟨DenyOwn.in_ hEf, ⟨OwnTaps.reads'Gate hKf, (own_le hKf rfl).1, (own_le hKf rfl).2, own_nil_ hKf⟩⟩, fun a ha => by have := own_block_ge hEf.1 a ha; omega, fun a ha => by have := own_block_ge hKf a ha; omega, show u.deny.cards.length ≤ 14 by omega, by show (u.kept ++ [t]).length ≤ 11; rw [Hlk.out]; omega, by omega, Rd.touch Hrd24.out htf (fun i hi => by rcases hi with hi | hi <;> omega), grown_touch HG24.out htf (fun i hi => by rcases hi with hi | hi <;> omega)⟩
              · go_simp
                go_wp2_with fail
                refine (anyTap_any g (q + 1) _ (Rd.drew Hrd21.out) (by omega)).mono ?_
                rintro e w22 ⟨t, q2, rfl, hts, hq2, hr22, hg22⟩
                clear cD21_0 cD21_1 cD21_2 cD21_3 cD21_4
                have hz22 : w21.heap.size ≤ w22.heap.size := by have := hg22.size; (try simp at this); omega
                have HG22 := Lib.hid (grown_trans (grownDrew HG21.out) hg22)
                clear HG21
                have HR22 := Lib.hid (Blk.grown (blkDrew HR21.out) hg22 (by intro e; injection e with e; omega))
                clear HR21
                have HD22 := Lib.hid (Blk.grown (blkDrew HD21.out) hg22 (by intro e; injection e with e; omega))
                clear HD21
                have HE22 := Lib.hid (DenyOwn.touch (DenyOwn.drew HE21.out) (Touch.of_grown hg22) (fun i hi e0 => by injection e0 with e0; have a1 := LTE.out _ hi; omega))
                clear HE21
                have HK22 := Lib.hid (ownTouch (ownDrew HK21.out) (Touch.of_grown hg22) (fun i hi e0 => by injection e0 with e0; have a1 := LTK.out _ hi; omega))
                clear HK21
                clear hg22
                clear Hrd21
                have Hrd22 := Lib.hid hr22; clear hr22
                have hgl22 : g < w22.heap.size := (Hrd22.out).lt
                clear hts
                unfold tapV
                obtain ⟨cD22_0, cD22_1, cD22_2, cD22_3, cD22_4⟩ := gateCells (t := 40) (v := u) HD22.out
                have frD22_0 := (HD22.out).free 0
                have frD22_1 := (HD22.out).free 1
                have frD22_2 := (HD22.out).free 2
                have frD22_3 := (HD22.out).free 3
                have frD22_4 := (HD22.out).free 4
                go_simp
                refine hK.out _ _ (by trivial) (fun hS => ?_)
                clear hK K
                refine wpAnyH_ready (rs := [1, 4]) (by kernel_rfl) (by simp) ?_
                refine AllReadyH.cons rfl (fun K hK => ?_) (AllReadyH.cons rfl (fun K hK => ?_) (AllReadyH.nil))
                · go_simp
                  refine hK.out _ _ (by trivial) (fun hS => ?_)
                  clear hK K
                  refine wpAnyH_ready (rs := [4]) (by kernel_rfl) (by simp) ?_
                  refine AllReadyH.cons rfl (fun K hK => ?_) (AllReadyH.nil)
                  go_simp
                  have pa0 : (World.alloc w22 (.cells #[.int .i64 t.v, .int .i64 t.n, .int .i64 t.c, .int .i64 t.m, .int .i64 t.s, .bool t.o] 57)).cell? ⟨w5.heap.size + 1, 0, none⟩ = some (.int .i64 u.val) := (Blk.alloc HD22.out _).cell 0
                  have pa1 : (World.alloc w22 (.cells #[.int .i64 t.v, .int .i64 t.n, .int .i64 t.c, .int .i64 t.m, .int .i64 t.s, .bool t.o] 57)).cell? ⟨w5.heap.size + 1, 1, none⟩ = some (.int .i64 u.nxt) := (Blk.alloc HD22.out _).cell 1
                  have pa2 : (World.alloc w22 (.cells #[.int .i64 t.v, .int .i64 t.n, .int .i64 t.c, .int .i64 t.m, .int .i64 t.s, .bool t.o] 57)).cell? ⟨w5.heap.size + 1, 2, none⟩ = some (.int .i64 u.deny.ver) := (Blk.alloc HD22.out _).cell 2
                  have pa3 : (World.alloc w22 (.cells #[.int .i64 t.v, .int .i64 t.n, .int .i64 t.c, .int .i64 t.m, .int .i64 t.s, .bool t.o] 57)).cell? ⟨w5.heap.size + 1, 3, none⟩ = some (.slice u.deny.cardsA u.deny.cards.length u.deny.cardsc) := (Blk.alloc HD22.out _).cell 3
                  have pa4 : (World.alloc w22 (.cells #[.int .i64 t.v, .int .i64 t.n, .int .i64 t.c, .int .i64 t.m, .int .i64 t.s, .bool t.o] 57)).cell? ⟨w5.heap.size + 1, 4, none⟩ = some (.slice u.keptA u.kept.length u.keptc) := (Blk.alloc HD22.out _).cell 4
                  refine hK.out _ _ (by trivial) (fun hS => ?_)
                  clear hK K
                  refine wpAnyH_ready (rs := [5]) (by kernel_rfl) (by simp) ?_
                  refine AllReadyH.cons rfl (fun K hK => ?_) (AllReadyH.nil)
                  refine step_append_lies _ rfl (.tmp 57) (.tmp 60) _ rfl (w.heap.size + 1) 57 ti _ 6 48 Try.underlying38 HITap.out HZ0Tap.out HZ1Tap.out HZ2Tap.out rfl (by omega) _ _ _ rfl (World.ownsRow.alloc HK22.out _) ⟨w22.heap.size, 0, none⟩ 1 1 (tapCells t) rfl rfl ?c1 ?c2 (by omega) ?c3 ?c4 ?c5 _ rfl ?_
                  case c1 => exact World.news_of_block (Blk.new' (t := 57) (cs := #[.int .i64 t.v, .int .i64 t.n, .int .i64 t.c, .int .i64 t.m, .int .i64 t.s, .bool t.o]) (by simp))
                  case c2 => simp [tapCells, Value.oneCell']
                  case c3 => unfold maxLen; omega
                  case c4 => omega
                  case c5 => first | omega | (simp; omega) | simp
                  intro gb cap w23 hownA hgrow23 hatA hltA
                  have HX := Lib.hid (OwnTaps.snoc hownA); clear hownA
                  have HatA := Lib.hid hatA; clear hatA
                  have hz23 : w22.heap.size + 1 ≤ w23.heap.size := by have := hgrow23.size; (try simp at this); omega
                  have HG23 := Lib.hid (grown_touch (grown_alloc HG22.out _) (Touch.of_grown hgrow23) (fun i hi => by have a1 := LTK.out _ hi; omega))
                  clear HG22
                  have Hrd23 := Lib.hid (Rd.touch (Rd.alloc Hrd22.out _) (Touch.of_grown hgrow23) (fun i hi => by have a1 := LTK.out _ hi; omega))
                  clear Hrd22
                  have HR23 := Lib.hid (Blk.grown (Blk.alloc HR22.out _) hgrow23 (by intro e; have a1 := LTK.out _ e.symm; have a2 := UPK.out _ e.symm; have a7 := NEK.out _ e.symm; omega))
                  clear HR22
                  have HD23 := Lib.hid (Blk.grown (Blk.alloc HD22.out _) hgrow23 (by intro e; have a1 := LTK.out _ e.symm; have a2 := UPK.out _ e.symm; have a7 := NEK.out _ e.symm; omega))
                  clear HD22
                  have HE23 := Lib.hid (DenyOwn.touch (DenyOwn.up HE22.out _) (Touch.of_grown hgrow23) (fun i hi e0 => Hap.out i hi e0))
                  clear HE22
                  clear hgrow23 HK22
                  have hXk : World.ownsRow w23 (w.heap.size + 1) 57 6 (.slice (some ⟨gb, 0, none⟩) (u.kept ++ [t]).length cap) (u.kept ++ [t]).length ((u.kept ++ [t]).flatMap tapCells) := by have h := HX.out; unfold OwnTaps at h; rw [List.length_append, List.length_singleton] at h ⊢; exact h
                  clear HX
                  have LTA := Lib.hid (fun k hk => (World.ownsRow.lt hXk k hk).1)
                  have UPA := Lib.hid (fun k hk => (World.ownsRow.lt hXk k hk).2)
                  have HoA := Lib.hid hXk; clear hXk
                  have hlk : (u.kept ++ [t]).length = u.kept.length + 1 := by simp
                  have Hlk := Lib.hid hlk; clear hlk
                  have NEA := Lib.hid (show ∀ k, (.slice (some ⟨gb, 0, none⟩) (u.kept ++ [t]).length cap : Value).ownBlock = some k → k ≠ w5.heap.size + 1 from fun k hk => by
                              have ek : gb = k := by injection hk
                              subst ek
                              rcases HatA.out with e | e
                              · exact NEK.out _ e
                              · (try simp at e)
                                omega)
                  obtain ⟨cD23_0, cD23_1, cD23_2, cD23_3, cD23_4⟩ := gateCells (t := 40) (v := u) HD23.out
                  have frD23_0 := (HD23.out).free 0
                  have frD23_1 := (HD23.out).free 1
                  have frD23_2 := (HD23.out).free 2
                  have frD23_3 := (HD23.out).free 3
                  have frD23_4 := (HD23.out).free 4
                  go_simp
                  refine hK.out _ _ (by trivial) (fun hS => ?_)
                  clear hK K
                  refine take_at 6 62 (v := ?_) rfl rfl (by kernel_rfl) (by kernel_rfl) (by kernel_rfl) (fun _ _ _ h => h) (by rfl) ?_ hS ?_
                  rotate_left 1
                  · (intro w hSw; (try dsimp only at hSw); (try go_split_ands); go_simp; try with_reducible rfl)
                  simp only [List.setIfInBounds_toArray, List.set_cons_zero, List.set_cons_succ]
                  refine wpAnyH_ready (rs := [7]) (by kernel_rfl) (by simp) ?_
                  refine AllReadyH.cons rfl (fun K hK => ?_) (AllReadyH.nil)
                  go_simp
                  generalize hW : World.setCell _ _ _ = w24
                  have ht24 : Touch (fun i => i = w5.heap.size + 1) w23 w24 := by rw [← hW]; exact Touch.far (K := fun i => i = w5.heap.size + 1) (Touch.refl _ _) (p := ⟨w5.heap.size + 1, 4, none⟩) rfl _
                  have hbx24 : Blk w24 (w5.heap.size + 1) 40 (GateR.cells (⟨u.val, u.nxt, u.deny, some ⟨gb, 0, none⟩, cap, u.kept ++ [t]⟩ : GateR)) := by rw [← hW]; unfold GateR.cells; dsimp only; rw [Hlk.out]; exact Blk.put HD23.out 4 (.slice (some ⟨gb, 0, none⟩) (u.kept.length + 1) cap)
                  clear hW
                  clear cD22_0 cD22_1 cD22_2 cD22_3 cD22_4 frD22_0 frD22_1 frD22_2 frD22_3 frD22_4 pa0 pa1 pa2 pa3 pa4 cD23_0 cD23_1 cD23_2 cD23_3 cD23_4 frD23_0 frD23_1 frD23_2 frD23_3 frD23_4
                  have hz24 : w23.heap.size ≤ w24.heap.size := by have := ht24.size; (try simp at this); omega
                  have HG24 := Lib.hid (grown_touch HG23.out ht24 (fun i hi => by omega))
                  clear HG23
                  have Hrd24 := Lib.hid (Rd.touch Hrd23.out ht24 (fun i hi => by omega))
                  clear Hrd23
                  have HR24 := Lib.hid (Blk.touch HR23.out ht24 (show ¬ (w.heap.size = w5.heap.size + 1) by omega))
                  clear HR23
                  have HE24 := Lib.hid (DenyOwn.touch HE23.out ht24 (fun i hi e0 => by have a1 := LTE.out _ hi; have a2 := UPE.out _ hi; have a7 := NEE.out _ hi; omega))
                  clear HE23
                  have HA24 := Lib.hid (ownTouch HoA.out ht24 (fun i hi e0 => by have a1 := LTA.out _ hi; have a2 := UPA.out _ hi; have a7 := NEA.out _ hi; omega))
                  clear HoA
                  clear ht24 HD23
                  have Hbx24 := Lib.hid hbx24; clear hbx24
                  refine hK.out _ _ (by trivial) (fun hS => ?_)
                  clear hK K
                  refine wpAnyH_done (by kernel_rfl) ?_ _
                  clear hS
                  obtain ⟨cD24_0, cD24_1, cD24_2, cD24_3, cD24_4⟩ := gateCells (t := 40) (v := (⟨u.val, u.nxt, u.deny, some ⟨gb, 0, none⟩, cap, u.kept ++ [t]⟩ : GateR)) Hbx24.out
                  obtain ⟨cR24_0, cR24_1, cR24_2, cR24_3, cR24_4⟩ := gateCells (t := 40) (v := (⟨0, 0, ⟨0, none, 0, []⟩, none, 0, []⟩ : GateR)) HR24.out
                  have frD24_0 := (Hbx24.out).free 0
                  have frD24_1 := (Hbx24.out).free 1
                  have frD24_2 := (Hbx24.out).free 2
                  have frD24_3 := (Hbx24.out).free 3
                  have frD24_4 := (Hbx24.out).free 4
                  have frR24_0 := (HR24.out).free 0
                  have frR24_1 := (HR24.out).free 1
                  have frR24_2 := (HR24.out).free 2
                  have frR24_3 := (HR24.out).free 3
                  have frR24_4 := (HR24.out).free 4
                  go_wp2
                  generalize hW : World.setCell _ _ _ = wf
                  have htf : Touch (fun i => i = w5.heap.size + 1 ∨ i = w.heap.size) w24 wf := by rw [← hW]; exact (Touch.far (K := fun i => i = w5.heap.size + 1 ∨ i = w.heap.size) (Touch.far (K := fun i => i = w5.heap.size + 1 ∨ i = w.heap.size) (Touch.far (K := fun i => i = w5.heap.size + 1 ∨ i = w.heap.size) (Touch.far (K := fun i => i = w5.heap.size + 1 ∨ i = w.heap.size) (Touch.far (K := fun i => i = w5.heap.size + 1 ∨ i = w.heap.size) (Touch.refl _ _) (p := ⟨w.heap.size, 0, none⟩) (.inr rfl) _) (p := ⟨w.heap.size, 1, none⟩) (.inr rfl) _) (p := ⟨w.heap.size, 2, none⟩) (.inr rfl) _) (p := ⟨w.heap.size, 3, none⟩) (.inr rfl) _) (p := ⟨w.heap.size, 4, none⟩) (.inr rfl) _)
                  have hRf : Blk wf (w.heap.size) 40 (GateR.cells (⟨u.val, u.nxt, u.deny, some ⟨gb, 0, none⟩, cap, u.kept ++ [t]⟩ : GateR)) := by rw [← hW]; unfold GateR.cells; dsimp only; rw [Hlk.out]; exact (Blk.put (Blk.put (Blk.put (Blk.put (Blk.put HR24.out 0 _) 1 _) 2 _) 3 _) 4 _)
                  clear hW
                  clear cD24_0 cD24_1 cD24_2 cD24_3 cD24_4 cR24_0 cR24_1 cR24_2 cR24_3 cR24_4 frD24_0 frD24_1 frD24_2 frD24_3 frD24_4 frR24_0 frR24_1 frR24_2 frR24_3 frR24_4
                  obtain ⟨z0, z1, z2, z3, z4⟩ := gateCells (t := 40) (v := (⟨u.val, u.nxt, u.deny, some ⟨gb, 0, none⟩, cap, u.kept ++ [t]⟩ : GateR)) hRf
                  have hEf := DenyOwn.touch HE24.out htf (fun i hi e0 => by have a1 := LTE.out _ hi; have a3 := NEE.out _ hi; rcases e0 with e0 | e0 <;> omega)
                  have hKf := ownTouch HA24.out htf (fun i hi e0 => by have a1 := LTA.out _ hi; have a3 := NEA.out _ hi; rcases e0 with e0 | e0 <;> omega)
                  refine bodyPost_ret (v := gateV (⟨u.val, u.nxt, u.deny, some ⟨gb, 0, none⟩, cap, u.kept ++ [t]⟩ : GateR)) (by simp [results, Try.results65, go_sem, gateV, z0, z1, z2, z3, z4]) rfl ⟨(⟨u.val, u.nxt, u.deny, some ⟨gb, 0, none⟩, cap, u.kept ++ [t]⟩ : GateR), q2, rfl, ⟨DenyOwn.in_ hEf, ⟨OwnTaps.reads'Gate hKf, (own_le hKf rfl).1, (own_le hKf rfl).2, own_nil_ hKf⟩⟩, fun a ha => by have := own_block_ge hEf.1 a ha; omega, fun a ha => by have := own_block_ge hKf a ha; omega, show u.deny.cards.length ≤ 14 by omega, by show (u.kept ++ [t]).length ≤ 11; rw [Hlk.out]; omega, by omega, Rd.touch Hrd24.out htf (fun i hi => by rcases hi with hi | hi <;> omega), grown_touch HG24.out htf (fun i hi => by rcases hi with hi | hi <;> omega)⟩
                · go_simp
                  have pa0 : (World.alloc w22 (.cells #[.int .i64 t.v, .int .i64 t.n, .int .i64 t.c, .int .i64 t.m, .int .i64 t.s, .bool t.o] 57)).cell? ⟨w5.heap.size + 1, 0, none⟩ = some (.int .i64 u.val) := (Blk.alloc HD22.out _).cell 0
                  have pa1 : (World.alloc w22 (.cells #[.int .i64 t.v, .int .i64 t.n, .int .i64 t.c, .int .i64 t.m, .int .i64 t.s, .bool t.o] 57)).cell? ⟨w5.heap.size + 1, 1, none⟩ = some (.int .i64 u.nxt) := (Blk.alloc HD22.out _).cell 1
                  have pa2 : (World.alloc w22 (.cells #[.int .i64 t.v, .int .i64 t.n, .int .i64 t.c, .int .i64 t.m, .int .i64 t.s, .bool t.o] 57)).cell? ⟨w5.heap.size + 1, 2, none⟩ = some (.int .i64 u.deny.ver) := (Blk.alloc HD22.out _).cell 2
                  have pa3 : (World.alloc w22 (.cells #[.int .i64 t.v, .int .i64 t.n, .int .i64 t.c, .int .i64 t.m, .int .i64 t.s, .bool t.o] 57)).cell? ⟨w5.heap.size + 1, 3, none⟩ = some (.slice u.deny.cardsA u.deny.cards.length u.deny.cardsc) := (Blk.alloc HD22.out _).cell 3
                  have pa4 : (World.alloc w22 (.cells #[.int .i64 t.v, .int .i64 t.n, .int .i64 t.c, .int .i64 t.m, .int .i64 t.s, .bool t.o] 57)).cell? ⟨w5.heap.size + 1, 4, none⟩ = some (.slice u.keptA u.kept.length u.keptc) := (Blk.alloc HD22.out _).cell 4
                  refine hK.out _ _ (by trivial) (fun hS => ?_)
                  clear hK K
                  refine wpAnyH_ready (rs := [1]) (by kernel_rfl) (by simp) ?_
                  refine AllReadyH.cons rfl (fun K hK => ?_) (AllReadyH.nil)
                  go_simp
                  refine hK.out _ _ (by trivial) (fun hS => ?_)
                  clear hK K
                  refine wpAnyH_ready (rs := [5]) (by kernel_rfl) (by simp) ?_
                  refine AllReadyH.cons rfl (fun K hK => ?_) (AllReadyH.nil)
                  refine step_append_lies _ rfl (.tmp 57) (.tmp 60) _ rfl (w.heap.size + 1) 57 ti _ 6 48 Try.underlying38 HITap.out HZ0Tap.out HZ1Tap.out HZ2Tap.out rfl (by omega) _ _ _ rfl (World.ownsRow.alloc HK22.out _) ⟨w22.heap.size, 0, none⟩ 1 1 (tapCells t) rfl rfl ?c1 ?c2 (by omega) ?c3 ?c4 ?c5 _ rfl ?_
                  case c1 => exact World.news_of_block (Blk.new' (t := 57) (cs := #[.int .i64 t.v, .int .i64 t.n, .int .i64 t.c, .int .i64 t.m, .int .i64 t.s, .bool t.o]) (by simp))
                  case c2 => simp [tapCells, Value.oneCell']
                  case c3 => unfold maxLen; omega
                  case c4 => omega
                  case c5 => first | omega | (simp; omega) | simp
                  intro gb cap w23 hownA hgrow23 hatA hltA
                  have HX := Lib.hid (OwnTaps.snoc hownA); clear hownA
                  have HatA := Lib.hid hatA; clear hatA
                  have hz23 : w22.heap.size + 1 ≤ w23.heap.size := by have := hgrow23.size; (try simp at this); omega
                  have HG23 := Lib.hid (grown_touch (grown_alloc HG22.out _) (Touch.of_grown hgrow23) (fun i hi => by have a1 := LTK.out _ hi; omega))
                  clear HG22
                  have Hrd23 := Lib.hid (Rd.touch (Rd.alloc Hrd22.out _) (Touch.of_grown hgrow23) (fun i hi => by have a1 := LTK.out _ hi; omega))
                  clear Hrd22
                  have HR23 := Lib.hid (Blk.grown (Blk.alloc HR22.out _) hgrow23 (by intro e; have a1 := LTK.out _ e.symm; have a2 := UPK.out _ e.symm; have a7 := NEK.out _ e.symm; omega))
                  clear HR22
                  have HD23 := Lib.hid (Blk.grown (Blk.alloc HD22.out _) hgrow23 (by intro e; have a1 := LTK.out _ e.symm; have a2 := UPK.out _ e.symm; have a7 := NEK.out _ e.symm; omega))
                  clear HD22
                  have HE23 := Lib.hid (DenyOwn.touch (DenyOwn.up HE22.out _) (Touch.of_grown hgrow23) (fun i hi e0 => Hap.out i hi e0))
                  clear HE22
                  clear hgrow23 HK22
                  have hXk : World.ownsRow w23 (w.heap.size + 1) 57 6 (.slice (some ⟨gb, 0, none⟩) (u.kept ++ [t]).length cap) (u.kept ++ [t]).length ((u.kept ++ [t]).flatMap tapCells) := by have h := HX.out; unfold OwnTaps at h; rw [List.length_append, List.length_singleton] at h ⊢; exact h
                  clear HX
                  have LTA := Lib.hid (fun k hk => (World.ownsRow.lt hXk k hk).1)
                  have UPA := Lib.hid (fun k hk => (World.ownsRow.lt hXk k hk).2)
                  have HoA := Lib.hid hXk; clear hXk
                  have hlk : (u.kept ++ [t]).length = u.kept.length + 1 := by simp
                  have Hlk := Lib.hid hlk; clear hlk
                  have NEA := Lib.hid (show ∀ k, (.slice (some ⟨gb, 0, none⟩) (u.kept ++ [t]).length cap : Value).ownBlock = some k → k ≠ w5.heap.size + 1 from fun k hk => by
                              have ek : gb = k := by injection hk
                              subst ek
                              rcases HatA.out with e | e
                              · exact NEK.out _ e
                              · (try simp at e)
                                omega)
                  obtain ⟨cD23_0, cD23_1, cD23_2, cD23_3, cD23_4⟩ := gateCells (t := 40) (v := u) HD23.out
                  have frD23_0 := (HD23.out).free 0
                  have frD23_1 := (HD23.out).free 1
                  have frD23_2 := (HD23.out).free 2
                  have frD23_3 := (HD23.out).free 3
                  have frD23_4 := (HD23.out).free 4
                  go_simp
                  refine hK.out _ _ (by trivial) (fun hS => ?_)
                  clear hK K
                  refine take_at 6 62 (v := ?_) rfl rfl (by kernel_rfl) (by kernel_rfl) (by kernel_rfl) (fun _ _ _ h => h) (by rfl) ?_ hS ?_
                  rotate_left 1
                  · (intro w hSw; (try dsimp only at hSw); (try go_split_ands); go_simp; try with_reducible rfl)
                  simp only [List.setIfInBounds_toArray, List.set_cons_zero, List.set_cons_succ]
                  refine wpAnyH_ready (rs := [7]) (by kernel_rfl) (by simp) ?_
                  refine AllReadyH.cons rfl (fun K hK => ?_) (AllReadyH.nil)
                  go_simp
                  generalize hW : World.setCell _ _ _ = w24
                  have ht24 : Touch (fun i => i = w5.heap.size + 1) w23 w24 := by rw [← hW]; exact Touch.far (K := fun i => i = w5.heap.size + 1) (Touch.refl _ _) (p := ⟨w5.heap.size + 1, 4, none⟩) rfl _
                  have hbx24 : Blk w24 (w5.heap.size + 1) 40 (GateR.cells (⟨u.val, u.nxt, u.deny, some ⟨gb, 0, none⟩, cap, u.kept ++ [t]⟩ : GateR)) := by rw [← hW]; unfold GateR.cells; dsimp only; rw [Hlk.out]; exact Blk.put HD23.out 4 (.slice (some ⟨gb, 0, none⟩) (u.kept.length + 1) cap)
                  clear hW
                  clear cD22_0 cD22_1 cD22_2 cD22_3 cD22_4 frD22_0 frD22_1 frD22_2 frD22_3 frD22_4 pa0 pa1 pa2 pa3 pa4 cD23_0 cD23_1 cD23_2 cD23_3 cD23_4 frD23_0 frD23_1 frD23_2 frD23_3 frD23_4
                  have hz24 : w23.heap.size ≤ w24.heap.size := by have := ht24.size; (try simp at this); omega
                  have HG24 := Lib.hid (grown_touch HG23.out ht24 (fun i hi => by omega))
                  clear HG23
                  have Hrd24 := Lib.hid (Rd.touch Hrd23.out ht24 (fun i hi => by omega))
                  clear Hrd23
                  have HR24 := Lib.hid (Blk.touch HR23.out ht24 (show ¬ (w.heap.size = w5.heap.size + 1) by omega))
                  clear HR23
                  have HE24 := Lib.hid (DenyOwn.touch HE23.out ht24 (fun i hi e0 => by have a1 := LTE.out _ hi; have a2 := UPE.out _ hi; have a7 := NEE.out _ hi; omega))
                  clear HE23
                  have HA24 := Lib.hid (ownTouch HoA.out ht24 (fun i hi e0 => by have a1 := LTA.out _ hi; have a2 := UPA.out _ hi; have a7 := NEA.out _ hi; omega))
                  clear HoA
                  clear ht24 HD23
                  have Hbx24 := Lib.hid hbx24; clear hbx24
                  refine hK.out _ _ (by trivial) (fun hS => ?_)
                  clear hK K
                  refine wpAnyH_done (by kernel_rfl) ?_ _
                  clear hS
                  obtain ⟨cD24_0, cD24_1, cD24_2, cD24_3, cD24_4⟩ := gateCells (t := 40) (v := (⟨u.val, u.nxt, u.deny, some ⟨gb, 0, none⟩, cap, u.kept ++ [t]⟩ : GateR)) Hbx24.out
                  obtain ⟨cR24_0, cR24_1, cR24_2, cR24_3, cR24_4⟩ := gateCells (t := 40) (v := (⟨0, 0, ⟨0, none, 0, []⟩, none, 0, []⟩ : GateR)) HR24.out
                  have frD24_0 := (Hbx24.out).free 0
                  have frD24_1 := (Hbx24.out).free 1
                  have frD24_2 := (Hbx24.out).free 2
                  have frD24_3 := (Hbx24.out).free 3
                  have frD24_4 := (Hbx24.out).free 4
                  have frR24_0 := (HR24.out).free 0
                  have frR24_1 := (HR24.out).free 1
                  have frR24_2 := (HR24.out).free 2
                  have frR24_3 := (HR24.out).free 3
                  have frR24_4 := (HR24.out).free 4
                  go_wp2
                  generalize hW : World.setCell _ _ _ = wf
                  have htf : Touch (fun i => i = w5.heap.size + 1 ∨ i = w.heap.size) w24 wf := by rw [← hW]; exact (Touch.far (K := fun i => i = w5.heap.size + 1 ∨ i = w.heap.size) (Touch.far (K := fun i => i = w5.heap.size + 1 ∨ i = w.heap.size) (Touch.far (K := fun i => i = w5.heap.size + 1 ∨ i = w.heap.size) (Touch.far (K := fun i => i = w5.heap.size + 1 ∨ i = w.heap.size) (Touch.far (K := fun i => i = w5.heap.size + 1 ∨ i = w.heap.size) (Touch.refl _ _) (p := ⟨w.heap.size, 0, none⟩) (.inr rfl) _) (p := ⟨w.heap.size, 1, none⟩) (.inr rfl) _) (p := ⟨w.heap.size, 2, none⟩) (.inr rfl) _) (p := ⟨w.heap.size, 3, none⟩) (.inr rfl) _) (p := ⟨w.heap.size, 4, none⟩) (.inr rfl) _)
                  have hRf : Blk wf (w.heap.size) 40 (GateR.cells (⟨u.val, u.nxt, u.deny, some ⟨gb, 0, none⟩, cap, u.kept ++ [t]⟩ : GateR)) := by rw [← hW]; unfold GateR.cells; dsimp only; rw [Hlk.out]; exact (Blk.put (Blk.put (Blk.put (Blk.put (Blk.put HR24.out 0 _) 1 _) 2 _) 3 _) 4 _)
                  clear hW
                  clear cD24_0 cD24_1 cD24_2 cD24_3 cD24_4 cR24_0 cR24_1 cR24_2 cR24_3 cR24_4 frD24_0 frD24_1 frD24_2 frD24_3 frD24_4 frR24_0 frR24_1 frR24_2 frR24_3 frR24_4
                  obtain ⟨z0, z1, z2, z3, z4⟩ := gateCells (t := 40) (v := (⟨u.val, u.nxt, u.deny, some ⟨gb, 0, none⟩, cap, u.kept ++ [t]⟩ : GateR)) hRf
                  have hEf := DenyOwn.touch HE24.out htf (fun i hi e0 => by have a1 := LTE.out _ hi; have a3 := NEE.out _ hi; rcases e0 with e0 | e0 <;> omega)
                  have hKf := ownTouch HA24.out htf (fun i hi e0 => by have a1 := LTA.out _ hi; have a3 := NEA.out _ hi; rcases e0 with e0 | e0 <;> omega)
                  refine bodyPost_ret (v := gateV (⟨u.val, u.nxt, u.deny, some ⟨gb, 0, none⟩, cap, u.kept ++ [t]⟩ : GateR)) (by simp [results, Try.results65, go_sem, gateV, z0, z1, z2, z3, z4]) rfl ⟨(⟨u.val, u.nxt, u.deny, some ⟨gb, 0, none⟩, cap, u.kept ++ [t]⟩ : GateR), q2, rfl, ⟨DenyOwn.in_ hEf, ⟨OwnTaps.reads'Gate hKf, (own_le hKf rfl).1, (own_le hKf rfl).2, own_nil_ hKf⟩⟩, fun a ha => by have := own_block_ge hEf.1 a ha; omega, fun a ha => by have := own_block_ge hKf a ha; omega, show u.deny.cards.length ≤ 14 by omega, by show (u.kept ++ [t]).length ≤ 11; rw [Hlk.out]; omega, by omega, Rd.touch Hrd24.out htf (fun i hi => by rcases hi with hi | hi <;> omega), grown_touch HG24.out htf (fun i hi => by rcases hi with hi | hi <;> omega)⟩
            · have h3' : (sw == 3) = false := by simpa using h3
              obtain ⟨cD21_0, cD21_1, cD21_2, cD21_3, cD21_4⟩ := gateCells (t := 40) (v := u) HD21.out
              obtain ⟨cR21_0, cR21_1, cR21_2, cR21_3, cR21_4⟩ := gateCells (t := 40) (v := (⟨0, 0, ⟨0, none, 0, []⟩, none, 0, []⟩ : GateR)) HR21.out
              have frD21_0 := (HD21.out).free 0
              have frD21_1 := (HD21.out).free 1
              have frD21_2 := (HD21.out).free 2
              have frD21_3 := (HD21.out).free 3
              have frD21_4 := (HD21.out).free 4
              have frR21_0 := (HR21.out).free 0
              have frR21_1 := (HR21.out).free 1
              have frR21_2 := (HR21.out).free 2
              have frR21_3 := (HR21.out).free 3
              have frR21_4 := (HR21.out).free 4
              go_wp2
              generalize hW : World.setCell _ _ _ = wf
              have htf : Touch (fun i => i = w5.heap.size + 1 ∨ i = w.heap.size) w21 wf := by rw [← hW]; exact (Touch.far (K := fun i => i = w5.heap.size + 1 ∨ i = w.heap.size) (Touch.far (K := fun i => i = w5.heap.size + 1 ∨ i = w.heap.size) (Touch.far (K := fun i => i = w5.heap.size + 1 ∨ i = w.heap.size) (Touch.far (K := fun i => i = w5.heap.size + 1 ∨ i = w.heap.size) (Touch.far (K := fun i => i = w5.heap.size + 1 ∨ i = w.heap.size) (Touch.refl _ _) (p := ⟨w.heap.size, 0, none⟩) (.inr rfl) _) (p := ⟨w.heap.size, 1, none⟩) (.inr rfl) _) (p := ⟨w.heap.size, 2, none⟩) (.inr rfl) _) (p := ⟨w.heap.size, 3, none⟩) (.inr rfl) _) (p := ⟨w.heap.size, 4, none⟩) (.inr rfl) _)
              have hRf : Blk wf (w.heap.size) 40 (GateR.cells u) := by rw [← hW]; exact (Blk.put (Blk.put (Blk.put (Blk.put (Blk.put HR21.out 0 _) 1 _) 2 _) 3 _) 4 _)
              clear hW
              clear cD21_0 cD21_1 cD21_2 cD21_3 cD21_4 cR21_0 cR21_1 cR21_2 cR21_3 cR21_4 frD21_0 frD21_1 frD21_2 frD21_3 frD21_4 frR21_0 frR21_1 frR21_2 frR21_3 frR21_4
              obtain ⟨z0, z1, z2, z3, z4⟩ := gateCells (t := 40) (v := u) hRf
              have hEf := DenyOwn.touch HE21.out htf (fun i hi e0 => by have a1 := LTE.out _ hi; have a3 := NEE.out _ hi; rcases e0 with e0 | e0 <;> omega)
              have hKf := ownTouch HK21.out htf (fun i hi e0 => by have a1 := LTK.out _ hi; have a3 := NEK.out _ hi; rcases e0 with e0 | e0 <;> omega)
              refine bodyPost_ret (v := gateV u) (by simp [results, Try.results65, go_sem, gateV, z0, z1, z2, z3, z4]) rfl ⟨u, q + 1, rfl, ⟨DenyOwn.in_ hEf, ⟨OwnTaps.reads'Gate hKf, (own_le hKf rfl).1, (own_le hKf rfl).2, own_nil_ hKf⟩⟩, fun a ha => by have := own_block_ge hEf.1 a ha; omega, fun a ha => by have := own_block_ge hKf a ha; omega, show u.deny.cards.length ≤ 14 by omega, show u.kept.length ≤ 11 by omega, by omega, Rd.touch Hrd21.out htf (fun i hi => by rcases hi with hi | hi <;> omega), grown_touch HG21.out htf (fun i hi => by rcases hi with hi | hi <;> omega)⟩
end Go.Proofs.Ytpijjlggmibfnaa
