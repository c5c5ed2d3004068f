/-
  Old lists are not taken: at every code the law FnTakeDeny returns true. No conditions.
-/
import Derived.Test.YtpijjlggmibfnaaDrawsGate
import Derived.Test.YtpijjlggmibfnaaReg
import Derived.Test.YtpijjlggmibfnaaLiftBytes
set_option linter.unusedSimpArgs false
namespace Go.Proofs.Ytpijjlggmibfnaa.fnTakeDeny
open Go.ChangeShapes Go.WideShapes Go.ChangeAt Go.RowKit Go.Deep
set_option linter.unusedVariables false

theorem Fares.take_twice (g : Fares.Gate) (d : Fares.Deny) (hg : Fares.validGate g = true) (hd : Fares.validDeny d = true) : Fares.validGate (Fares.takeDeny g d) = true ∧ Fares.takeDeny (Fares.takeDeny g d) d = Fares.takeDeny g d ∧ (Fares.takeDeny g d).kept = g.kept ∧ (Fares.takeDeny g d).deny.ver = (if g.deny.ver < d.ver then d.ver else g.deny.ver) := by
  by_cases h : g.deny.ver < d.ver
  · have e : Fares.takeDeny g d = ⟨g.val, g.nxt, d, g.kept⟩ := by unfold Fares.takeDeny; rw [if_pos ⟨hg, hd⟩, if_pos h]
    have hv : Fares.validGate ⟨g.val, g.nxt, d, g.kept⟩ = true := by
      unfold Fares.validGate at hg ⊢
      simp only [Bool.and_eq_true] at hg ⊢
      exact ⟨⟨⟨hg.1.1.1, hd⟩, hg.1.2⟩, hg.2⟩
    rw [e, if_pos h]
    refine ⟨hv, ?_, rfl, rfl⟩
    unfold Fares.takeDeny
    rw [if_pos ⟨hv, hd⟩, if_neg (by show ¬ d.ver < d.ver; omega)]
  · have e : Fares.takeDeny g d = g := by unfold Fares.takeDeny; rw [if_pos ⟨hg, hd⟩, if_neg h]
    rw [e, if_neg h]
    exact ⟨hg, e, rfl, rfl⟩
set_option maxRecDepth 100000 in
set_option maxHeartbeats 8000000 in
theorem walk (A : Option Addr) (n c : Nat) (w : World) (h : Bytes w w.heap.size A n c) : Calls Try.prog 19 #[.slice A n c] w (TrueBelow w) := by
  by_cases hn : 1048576 < n
  · go_enter Try.func19, Try.ntmps19
    go_wp2
    go_ret
    exact ⟨rfl, Below.refl _ _⟩
  · go_enter Try.func19, Try.ntmps19
    have Hh := Lib.hid h; clear h
    go_wp2_with fail
    refine (drawTakeDeny_any A n c w Hh.out).mono ?_
    rintro e w0 ⟨u, d, rfl, hin0, hj0, hl1, hl2, hl3, hc0⟩
    have Hs := Lib.hid (show GateSmall u from ⟨Nat.le_trans hl1 (by omega), Nat.le_trans hl2 (by omega)⟩)
    have Ht := Lib.hid (show DenySmall d from Nat.le_trans hl3 (by omega))
    have Hin0 := Lib.hid hin0; clear hin0
    have Hj0 := Lib.hid hj0; clear hj0
    unfold gateV denyV
    have HB0 := Lib.hid hc0; clear hc0
    go_wp2_with fail
    generalize hW : World.alloc _ _ = w1
    have hg1 : Blk w1 w0.heap.size 40 u.cells := by rw [← hW]; exact (Blk.new w0 _ _).alloc _
    have hd1 : Blk w1 (w0.heap.size + 1) 30 d.cells := by rw [← hW]; exact Blk.new' (by simp)
    have hb1 : Below w0.heap.size w0 w1 := by rw [← hW]; exact bA (bA (Below.refl _ _) _) _
    have hy1 : w0.heap.size + 1 < w1.heap.size := by rw [← hW]; simp
    clear hW
    have hz1 : w0.heap.size ≤ w1.heap.size := by have := hb1.size; (try simp at this); omega
    have HB1 := Lib.hid (bT HB0.out hb1)
    clear HB0
    have Hin1 := Lib.hid (GateIn.over Hin0.out hb1)
    clear Hin0
    have Hdn1 := Lib.hid (DenyIn.over Hj0.out hb1)
    clear Hj0
    clear hb1
    have Hg1 := Lib.hid hg1; clear hg1
    have Hd1 := Lib.hid hd1; clear hd1
    have hct := implTakeDeny_any u d w1 Hin1.out Hs.out Hdn1.out Ht.out
    unfold gateV denyV at hct
    have Hct := Lib.hid hct; clear hct
    refine (Hct.out).mono ?_
    rintro e w2 ⟨⟨uA, rfl, hofA, hownA, hsmA⟩, hb2⟩
    clear Hct
    have hz2 : w1.heap.size ≤ w2.heap.size := by have := hb2.size; (try simp at this); omega
    have HB2 := Lib.hid (bT HB1.out hb2)
    clear HB1
    have Hin2 := Lib.hid (GateIn.over Hin1.out hb2)
    clear Hin1
    have Hdn2 := Lib.hid (DenyIn.over Hdn1.out hb2)
    clear Hdn1
    have HG2 := Lib.hid (Blk.belowAll Hg1.out hb2)
    clear Hg1
    have HD2 := Lib.hid (Blk.belowAll Hd1.out hb2)
    clear Hd1
    clear hb2
    have HofA := Lib.hid hofA; clear hofA
    have HsmA := Lib.hid hsmA; clear hsmA
    have LTA := Lib.hid (fun k hk => (GateOwn.lt hownA k hk).1)
    have UPA := Lib.hid (fun k hk => (GateOwn.lt hownA k hk).2)
    have HoA := Lib.hid hownA; clear hownA
    have pfG2_0 : (w2.alloc (.cells #[.int .i64 uA.val, .int .i64 uA.nxt, .int .i64 uA.deny.ver, .slice uA.deny.cardsA uA.deny.cards.length uA.deny.cardsc, .slice uA.keptA uA.kept.length uA.keptc] 40)).cell? ⟨w0.heap.size, 0, none⟩ = some (.int .i64 u.val) := ((Blk.alloc HG2.out _)).cell 0
    have pfG2_1 : (w2.alloc (.cells #[.int .i64 uA.val, .int .i64 uA.nxt, .int .i64 uA.deny.ver, .slice uA.deny.cardsA uA.deny.cards.length uA.deny.cardsc, .slice uA.keptA uA.kept.length uA.keptc] 40)).cell? ⟨w0.heap.size, 1, none⟩ = some (.int .i64 u.nxt) := ((Blk.alloc HG2.out _)).cell 1
    have pfG2_2 : (w2.alloc (.cells #[.int .i64 uA.val, .int .i64 uA.nxt, .int .i64 uA.deny.ver, .slice uA.deny.cardsA uA.deny.cards.length uA.deny.cardsc, .slice uA.keptA uA.kept.length uA.keptc] 40)).cell? ⟨w0.heap.size, 2, none⟩ = some (.int .i64 u.deny.ver) := ((Blk.alloc HG2.out _)).cell 2
    have pfG2_3 : (w2.alloc (.cells #[.int .i64 uA.val, .int .i64 uA.nxt, .int .i64 uA.deny.ver, .slice uA.deny.cardsA uA.deny.cards.length uA.deny.cardsc, .slice uA.keptA uA.kept.length uA.keptc] 40)).cell? ⟨w0.heap.size, 3, none⟩ = some (.slice u.deny.cardsA u.deny.cards.length u.deny.cardsc) := ((Blk.alloc HG2.out _)).cell 3
    have pfG2_4 : (w2.alloc (.cells #[.int .i64 uA.val, .int .i64 uA.nxt, .int .i64 uA.deny.ver, .slice uA.deny.cardsA uA.deny.cards.length uA.deny.cardsc, .slice uA.keptA uA.kept.length uA.keptc] 40)).cell? ⟨w0.heap.size, 4, none⟩ = some (.slice u.keptA u.kept.length u.keptc) := ((Blk.alloc HG2.out _)).cell 4
    have pfD2_0 : (w2.alloc (.cells #[.int .i64 uA.val, .int .i64 uA.nxt, .int .i64 uA.deny.ver, .slice uA.deny.cardsA uA.deny.cards.length uA.deny.cardsc, .slice uA.keptA uA.kept.length uA.keptc] 40)).cell? ⟨w0.heap.size + 1, 0, none⟩ = some (.int .i64 d.ver) := ((Blk.alloc HD2.out _)).cell 0
    have pfD2_1 : (w2.alloc (.cells #[.int .i64 uA.val, .int .i64 uA.nxt, .int .i64 uA.deny.ver, .slice uA.deny.cardsA uA.deny.cards.length uA.deny.cardsc, .slice uA.keptA uA.kept.length uA.keptc] 40)).cell? ⟨w0.heap.size + 1, 1, none⟩ = some (.slice d.cardsA d.cards.length d.cardsc) := ((Blk.alloc HD2.out _)).cell 1
    go_wp2
    generalize hW : World.alloc _ _ = w3
    have hbx3 : Blk w3 w2.heap.size 40 (GateR.cells uA) := by rw [← hW]; exact Blk.new w2 _ _
    have hb3 : Below w2.heap.size w2 w3 := by rw [← hW]; exact bA (Below.refl _ _) _
    have hy3 : w2.heap.size < w3.heap.size := by rw [← hW]; simp
    clear hW
    clear pfG2_0 pfG2_1 pfG2_2 pfG2_3 pfG2_4 pfD2_0 pfD2_1
    have hz3 : w2.heap.size ≤ w3.heap.size := by have := hb3.size; (try simp at this); omega
    have HB3 := Lib.hid (bT HB2.out hb3)
    clear HB2
    have Hin3 := Lib.hid (GateIn.over Hin2.out hb3)
    clear Hin2
    have Hdn3 := Lib.hid (DenyIn.over Hdn2.out hb3)
    clear Hdn2
    have HG3 := Lib.hid (Blk.belowAll HG2.out hb3)
    clear HG2
    have HD3 := Lib.hid (Blk.belowAll HD2.out hb3)
    clear HD2
    have HA3 := Lib.hid (GateOwn.below HoA.out hb3)
    clear HoA
    clear hb3
    have Hbx3 := Lib.hid hbx3; clear hbx3
    cases hv : Fares.validGate u.of
    · have HV := Lib.hid hv; clear hv
      refine wp_region_held_drew (S := fun w' => (w'.cell? ⟨w2.heap.size, 0, none⟩ = some (.int .i64 uA.val) ∧ w'.cell? ⟨w2.heap.size, 1, none⟩ = some (.int .i64 uA.nxt) ∧ w'.cell? ⟨w2.heap.size, 2, none⟩ = some (.int .i64 uA.deny.ver) ∧ w'.cell? ⟨w2.heap.size, 3, none⟩ = some (.slice uA.deny.cardsA uA.deny.cards.length uA.deny.cardsc) ∧ w'.cell? ⟨w2.heap.size, 4, none⟩ = some (.slice uA.keptA uA.kept.length uA.keptc)) ∧ (w'.cell? ⟨w0.heap.size, 0, none⟩ = some (.int .i64 u.val) ∧ w'.cell? ⟨w0.heap.size, 1, none⟩ = some (.int .i64 u.nxt) ∧ w'.cell? ⟨w0.heap.size, 2, none⟩ = some (.int .i64 u.deny.ver) ∧ w'.cell? ⟨w0.heap.size, 3, none⟩ = some (.slice u.deny.cardsA u.deny.cards.length u.deny.cardsc) ∧ w'.cell? ⟨w0.heap.size, 4, none⟩ = some (.slice u.keptA u.kept.length u.keptc)) ∧ (w'.cell? ⟨w0.heap.size + 1, 0, none⟩ = some (.int .i64 d.ver) ∧ w'.cell? ⟨w0.heap.size + 1, 1, none⟩ = some (.slice d.cardsA d.cards.length d.cardsc))) (by kernel_rfl) (by exact ⟨gateCells (t := 40) (v := uA) Hbx3.out, gateCells (t := 40) (v := u) HG3.out, denyCells (t := 30) (v := d) HD3.out⟩) (fun hS => ?_)
      refine take_at 0 17 (v := ?_) rfl rfl (by kernel_rfl) (by kernel_rfl) (by kernel_rfl) (fun _ _ _ h => h) (by rfl) ?_ hS ?_
      rotate_left 1
      · (intro w hSw; (try dsimp only at hSw); (try go_split_ands); go_simp; try with_reducible rfl)
      simp only [List.setIfInBounds_toArray, List.set_cons_zero, List.set_cons_succ]
      refine take_at 1 18 (v := ?_) rfl rfl (by kernel_rfl) (by kernel_rfl) (by kernel_rfl) (fun _ _ _ h => h) (by rfl) ?_ hS ?_
      rotate_left 1
      · (intro w hSw; (try dsimp only at hSw); (try go_split_ands); go_simp; try with_reducible rfl)
      simp only [List.setIfInBounds_toArray, List.set_cons_zero, List.set_cons_succ]
      refine take_at 2 19 (v := ?_) rfl rfl (by kernel_rfl) (by kernel_rfl) (by kernel_rfl) (fun _ _ _ h => h) (by rfl) ?_ hS ?_
      rotate_left 1
      · (intro w hSw; (try dsimp only at hSw); (try go_split_ands); go_simp; try with_reducible rfl)
      simp only [List.setIfInBounds_toArray, List.set_cons_zero, List.set_cons_succ]
      refine wpAnyH_ready (rs := [3]) (by kernel_rfl) (by simp) ?_
      refine AllReadyH.cons rfl (fun K hK => ?_) (AllReadyH.nil)
      go_simp
      go_wp2_with fail
      have hct := specTakeDeny_any u d w3.drew (GateIn.drew Hin3.out) Hs.out (DenyIn.drew Hdn3.out) Ht.out
      unfold gateV denyV at hct
      have Hct := Lib.hid hct; clear hct
      refine (Hct.out).mono ?_
      rintro e w4 ⟨⟨uS, rfl, hofS, hownS, hsmS⟩, hb4⟩
      clear Hct
      have hz4 : w3.heap.size ≤ w4.heap.size := by have := hb4.size; (try simp at this); omega
      have HB4 := Lib.hid (bT (bD1 HB3.out) hb4)
      clear HB3
      have Hin4 := Lib.hid (GateIn.over (GateIn.drew Hin3.out) hb4)
      clear Hin3
      have Hdn4 := Lib.hid (DenyIn.over (DenyIn.drew Hdn3.out) hb4)
      clear Hdn3
      have HG4 := Lib.hid (Blk.belowAll (blkDrew HG3.out) hb4)
      clear HG3
      have HD4 := Lib.hid (Blk.belowAll (blkDrew HD3.out) hb4)
      clear HD3
      have HA4 := Lib.hid (GateOwn.below (GateOwn.drew HA3.out) hb4)
      clear HA3
      have HA14 := Lib.hid (Blk.belowAll (blkDrew Hbx3.out) hb4)
      clear Hbx3
      clear hb4
      have HofS := Lib.hid hofS; clear hofS
      have HsmS := Lib.hid hsmS; clear hsmS
      have LTS := Lib.hid (fun k hk => (GateOwn.lt hownS k hk).1)
      have UPS := Lib.hid (fun k hk => (GateOwn.lt hownS k hk).2)
      have HoS := Lib.hid hownS; clear hownS
      go_simp
      refine hK.out _ _ (by exact ⟨gateCells (t := 40) (v := uA) HA14.out, gateCells (t := 40) (v := u) HG4.out, denyCells (t := 30) (v := d) HD4.out⟩) (fun hS => ?_)
      clear hK K
      refine wpAnyH_ready (rs := [4]) (by kernel_rfl) (by simp) ?_
      refine AllReadyH.cons rfl (fun K hK => ?_) (AllReadyH.nil)
      go_simp
      go_wp2_with fail
      refine (equalGate_same uA uS _ (GateOwn.in_ HA4.out) (GateOwn.in_ HoS.out) HsmA.out HsmS.out (HofA.out.trans HofS.out.symm)).mono ?_
      rintro e w5 ⟨rfl, hb5⟩
      have hz5 : w4.heap.size ≤ w5.heap.size := by have := hb5.size; (try simp at this); omega
      have HB5 := Lib.hid (bT HB4.out hb5)
      clear HB4
      have Hin5 := Lib.hid (GateIn.over Hin4.out hb5)
      clear Hin4
      have Hdn5 := Lib.hid (DenyIn.over Hdn4.out hb5)
      clear Hdn4
      have HG5 := Lib.hid (Blk.belowAll HG4.out hb5)
      clear HG4
      have HD5 := Lib.hid (Blk.belowAll HD4.out hb5)
      clear HD4
      have HA5 := Lib.hid (GateOwn.below HA4.out hb5)
      clear HA4
      have HA15 := Lib.hid (Blk.belowAll HA14.out hb5)
      clear HA14
      have HS5 := Lib.hid (GateOwn.below HoS.out hb5)
      clear HoS
      clear hb5
      go_simp
      refine hK.out _ _ (by exact ⟨gateCells (t := 40) (v := uA) HA15.out, gateCells (t := 40) (v := u) HG5.out, denyCells (t := 30) (v := d) HD5.out⟩) (fun hS => ?_)
      clear hK K
      refine take_at 5 22 (v := ?_) rfl rfl (by kernel_rfl) (by kernel_rfl) (by kernel_rfl) (fun _ _ _ h => h) (by rfl) ?_ hS ?_
      rotate_left 1
      · (intro w hSw; (try dsimp only at hSw); (try go_split_ands); go_simp; try with_reducible rfl)
      simp only [List.setIfInBounds_toArray, List.set_cons_zero, List.set_cons_succ]
      refine take_at 6 23 (v := ?_) rfl rfl (by kernel_rfl) (by kernel_rfl) (by kernel_rfl) (fun _ _ _ h => h) (by rfl) ?_ hS ?_
      rotate_left 1
      · (intro w hSw; (try dsimp only at hSw); (try go_split_ands); go_simp; try with_reducible rfl)
      simp only [List.setIfInBounds_toArray, List.set_cons_zero, List.set_cons_succ]
      refine take_at 7 24 (v := ?_) rfl rfl (by kernel_rfl) (by kernel_rfl) (by kernel_rfl) (fun _ _ _ h => h) (by rfl) ?_ hS ?_
      rotate_left 1
      · (intro w hSw; (try dsimp only at hSw); (try go_split_ands); go_simp; try with_reducible rfl)
      simp only [List.setIfInBounds_toArray, List.set_cons_zero, List.set_cons_succ]
      refine wpAnyH_ready (rs := [8]) (by kernel_rfl) (by simp) ?_
      refine AllReadyH.cons rfl (fun K hK => ?_) (AllReadyH.nil)
      go_simp
      go_wp2_with fail
      refine (implValidGate_any u _ Hin5.out Hs.out).mono ?_
      rintro e w6 ⟨rfl, hb6⟩
      rw [HV.out]
      have hz6 : w5.heap.size ≤ w6.heap.size := by have := hb6.size; (try simp at this); omega
      have HB6 := Lib.hid (bT HB5.out hb6)
      clear HB5
      have Hin6 := Lib.hid (GateIn.over Hin5.out hb6)
      clear Hin5
      have Hdn6 := Lib.hid (DenyIn.over Hdn5.out hb6)
      clear Hdn5
      have HG6 := Lib.hid (Blk.belowAll HG5.out hb6)
      clear HG5
      have HD6 := Lib.hid (Blk.belowAll HD5.out hb6)
      clear HD5
      have HA6 := Lib.hid (GateOwn.below HA5.out hb6)
      clear HA5
      have HA16 := Lib.hid (Blk.belowAll HA15.out hb6)
      clear HA15
      clear hb6
      go_simp
      refine hK.out _ _ (by exact ⟨gateCells (t := 40) (v := uA) HA16.out, gateCells (t := 40) (v := u) HG6.out, denyCells (t := 30) (v := d) HD6.out⟩) (fun hS => ?_)
      clear hK K
      refine take_at 9 26 (v := ?_) rfl rfl (by kernel_rfl) (by kernel_rfl) (by kernel_rfl) (fun _ _ _ h => h) (by rfl) ?_ hS ?_
      rotate_left 1
      · (intro w hSw; (try dsimp only at hSw); (try go_split_ands); go_simp; try with_reducible rfl)
      simp only [List.setIfInBounds_toArray, List.set_cons_zero, List.set_cons_succ]
      refine take_at 10 27 (v := ?_) rfl rfl (by kernel_rfl) (by kernel_rfl) (by kernel_rfl) (fun _ _ _ h => h) (by rfl) ?_ hS ?_
      rotate_left 1
      · (intro w hSw; (try dsimp only at hSw); (try go_split_ands); go_simp; try with_reducible rfl)
      simp only [List.setIfInBounds_toArray, List.set_cons_zero, List.set_cons_succ]
      refine take_at 11 28 (v := ?_) rfl rfl (by kernel_rfl) (by kernel_rfl) (by kernel_rfl) (fun _ _ _ h => h) (by rfl) ?_ hS ?_
      rotate_left 1
      · (intro w hSw; (try dsimp only at hSw); (try go_split_ands); go_simp; try with_reducible rfl)
      simp only [List.setIfInBounds_toArray, List.set_cons_zero, List.set_cons_succ]
      refine skip_at 12 29 rfl rfl (by kernel_rfl) (by kernel_rfl) (by kernel_rfl) (fun _ _ _ h => h) (by rfl) hS ?_
      simp only [List.setIfInBounds_toArray, List.set_cons_zero, List.set_cons_succ]
      refine skip_at 13 30 rfl rfl (by kernel_rfl) (by kernel_rfl) (by kernel_rfl) (fun _ _ _ h => h) (by rfl) hS ?_
      simp only [List.setIfInBounds_toArray, List.set_cons_zero, List.set_cons_succ]
      refine skip_at 14 31 rfl rfl (by kernel_rfl) (by kernel_rfl) (by kernel_rfl) (fun _ _ _ h => h) (by rfl) hS ?_
      simp only [List.setIfInBounds_toArray, List.set_cons_zero, List.set_cons_succ]
      refine take_at 15 32 (v := ?_) rfl rfl (by kernel_rfl) (by kernel_rfl) (by kernel_rfl) (fun _ _ _ h => h) (by rfl) ?_ hS ?_
      rotate_left 1
      · (intro w hSw; (try dsimp only at hSw); (try go_split_ands); go_simp; try with_reducible rfl)
      simp only [List.setIfInBounds_toArray, List.set_cons_zero, List.set_cons_succ]
      refine wpAnyH_done (by kernel_rfl) ?_ _
      clear hS
      obtain ⟨cA16_0, cA16_1, cA16_2, cA16_3, cA16_4⟩ := gateCells (t := 40) (v := uA) HA16.out
      obtain ⟨cG6_0, cG6_1, cG6_2, cG6_3, cG6_4⟩ := gateCells (t := 40) (v := u) HG6.out
      obtain ⟨cD6_0, cD6_1⟩ := denyCells (t := 30) (v := d) HD6.out
      go_wp2
      clear cA16_0 cA16_1 cA16_2 cA16_3 cA16_4 cG6_0 cG6_1 cG6_2 cG6_3 cG6_4 cD6_0 cD6_1
      refine wp_region_held_drew (S := fun w' => (w'.cell? ⟨w2.heap.size, 0, none⟩ = some (.int .i64 uA.val) ∧ w'.cell? ⟨w2.heap.size, 1, none⟩ = some (.int .i64 uA.nxt) ∧ w'.cell? ⟨w2.heap.size, 2, none⟩ = some (.int .i64 uA.deny.ver) ∧ w'.cell? ⟨w2.heap.size, 3, none⟩ = some (.slice uA.deny.cardsA uA.deny.cards.length uA.deny.cardsc) ∧ w'.cell? ⟨w2.heap.size, 4, none⟩ = some (.slice uA.keptA uA.kept.length uA.keptc)) ∧ (w'.cell? ⟨w0.heap.size, 0, none⟩ = some (.int .i64 u.val) ∧ w'.cell? ⟨w0.heap.size, 1, none⟩ = some (.int .i64 u.nxt) ∧ w'.cell? ⟨w0.heap.size, 2, none⟩ = some (.int .i64 u.deny.ver) ∧ w'.cell? ⟨w0.heap.size, 3, none⟩ = some (.slice u.deny.cardsA u.deny.cards.length u.deny.cardsc) ∧ w'.cell? ⟨w0.heap.size, 4, none⟩ = some (.slice u.keptA u.kept.length u.keptc)) ∧ (w'.cell? ⟨w0.heap.size + 1, 0, none⟩ = some (.int .i64 d.ver) ∧ w'.cell? ⟨w0.heap.size + 1, 1, none⟩ = some (.slice d.cardsA d.cards.length d.cardsc))) (by kernel_rfl) (by exact ⟨gateCells (t := 40) (v := uA) HA16.out, gateCells (t := 40) (v := u) HG6.out, denyCells (t := 30) (v := d) HD6.out⟩) (fun hS => ?_)
      refine take_at 0 33 (v := ?_) rfl rfl (by kernel_rfl) (by kernel_rfl) (by kernel_rfl) (fun _ _ _ h => h) (by rfl) ?_ hS ?_
      rotate_left 1
      · (intro w hSw; (try dsimp only at hSw); (try go_split_ands); go_simp; try with_reducible rfl)
      simp only [List.setIfInBounds_toArray, List.set_cons_zero, List.set_cons_succ]
      refine take_at 1 34 (v := ?_) rfl rfl (by kernel_rfl) (by kernel_rfl) (by kernel_rfl) (fun _ _ _ h => h) (by rfl) ?_ hS ?_
      rotate_left 1
      · (intro w hSw; (try dsimp only at hSw); (try go_split_ands); go_simp; try with_reducible rfl)
      simp only [List.setIfInBounds_toArray, List.set_cons_zero, List.set_cons_succ]
      refine take_at 2 35 (v := ?_) rfl rfl (by kernel_rfl) (by kernel_rfl) (by kernel_rfl) (fun _ _ _ h => h) (by rfl) ?_ hS ?_
      rotate_left 1
      · (intro w hSw; (try dsimp only at hSw); (try go_split_ands); go_simp; try with_reducible rfl)
      simp only [List.setIfInBounds_toArray, List.set_cons_zero, List.set_cons_succ]
      refine wpAnyH_ready (rs := [3]) (by kernel_rfl) (by simp) ?_
      refine AllReadyH.cons rfl (fun K hK => ?_) (AllReadyH.nil)
      go_simp
      go_wp2_with fail
      have hct := specTakeDeny_any u d w6.drew (GateIn.drew Hin6.out) Hs.out (DenyIn.drew Hdn6.out) Ht.out
      unfold gateV denyV at hct
      have Hct := Lib.hid hct; clear hct
      refine (Hct.out).mono ?_
      rintro e w7 ⟨⟨uS, rfl, hofS, hownS, hsmS⟩, hb7⟩
      clear Hct
      have hz7 : w6.heap.size ≤ w7.heap.size := by have := hb7.size; (try simp at this); omega
      have HB7 := Lib.hid (bT (bD1 HB6.out) hb7)
      clear HB6
      have Hin7 := Lib.hid (GateIn.over (GateIn.drew Hin6.out) hb7)
      clear Hin6
      have Hdn7 := Lib.hid (DenyIn.over (DenyIn.drew Hdn6.out) hb7)
      clear Hdn6
      have HG7 := Lib.hid (Blk.belowAll (blkDrew HG6.out) hb7)
      clear HG6
      have HD7 := Lib.hid (Blk.belowAll (blkDrew HD6.out) hb7)
      clear HD6
      have HA7 := Lib.hid (GateOwn.below (GateOwn.drew HA6.out) hb7)
      clear HA6
      have HA17 := Lib.hid (Blk.belowAll (blkDrew HA16.out) hb7)
      clear HA16
      clear hb7
      have HofS := Lib.hid hofS; clear hofS
      have HsmS := Lib.hid hsmS; clear hsmS
      have LTS := Lib.hid (fun k hk => (GateOwn.lt hownS k hk).1)
      have UPS := Lib.hid (fun k hk => (GateOwn.lt hownS k hk).2)
      have HoS := Lib.hid hownS; clear hownS
      go_simp
      refine hK.out _ _ (by exact ⟨gateCells (t := 40) (v := uA) HA17.out, gateCells (t := 40) (v := u) HG7.out, denyCells (t := 30) (v := d) HD7.out⟩) (fun hS => ?_)
      clear hK K
      refine wpAnyH_ready (rs := [4]) (by kernel_rfl) (by simp) ?_
      refine AllReadyH.cons rfl (fun K hK => ?_) (AllReadyH.nil)
      go_simp
      go_wp2_with fail
      refine (equalGate_same uA uS _ (GateOwn.in_ HA7.out) (GateOwn.in_ HoS.out) HsmA.out HsmS.out (HofA.out.trans HofS.out.symm)).mono ?_
      rintro e w8 ⟨rfl, hb8⟩
      have hz8 : w7.heap.size ≤ w8.heap.size := by have := hb8.size; (try simp at this); omega
      have HB8 := Lib.hid (bT HB7.out hb8)
      clear HB7
      have Hin8 := Lib.hid (GateIn.over Hin7.out hb8)
      clear Hin7
      have Hdn8 := Lib.hid (DenyIn.over Hdn7.out hb8)
      clear Hdn7
      have HG8 := Lib.hid (Blk.belowAll HG7.out hb8)
      clear HG7
      have HD8 := Lib.hid (Blk.belowAll HD7.out hb8)
      clear HD7
      have HA8 := Lib.hid (GateOwn.below HA7.out hb8)
      clear HA7
      have HA18 := Lib.hid (Blk.belowAll HA17.out hb8)
      clear HA17
      have HS8 := Lib.hid (GateOwn.below HoS.out hb8)
      clear HoS
      clear hb8
      go_simp
      refine hK.out _ _ (by exact ⟨gateCells (t := 40) (v := uA) HA18.out, gateCells (t := 40) (v := u) HG8.out, denyCells (t := 30) (v := d) HD8.out⟩) (fun hS => ?_)
      clear hK K
      refine take_at 5 2 (v := ?_) rfl rfl (by kernel_rfl) (by kernel_rfl) (by kernel_rfl) (fun _ _ _ h => h) (by rfl) ?_ hS ?_
      rotate_left 1
      · (intro w hSw; (try dsimp only at hSw); (try go_split_ands); go_simp; try with_reducible rfl)
      simp only [List.setIfInBounds_toArray, List.set_cons_zero, List.set_cons_succ]
      refine wpAnyH_done (by kernel_rfl) ?_ _
      clear hS
      go_wp2
      go_ret
      exact ⟨rfl, HB8.out⟩
    · have HV := Lib.hid hv; clear hv
      cases hd : Fares.validDeny d.of
      · have HW := Lib.hid hd; clear hd
        refine wp_region_held_drew (S := fun w' => (w'.cell? ⟨w2.heap.size, 0, none⟩ = some (.int .i64 uA.val) ∧ w'.cell? ⟨w2.heap.size, 1, none⟩ = some (.int .i64 uA.nxt) ∧ w'.cell? ⟨w2.heap.size, 2, none⟩ = some (.int .i64 uA.deny.ver) ∧ w'.cell? ⟨w2.heap.size, 3, none⟩ = some (.slice uA.deny.cardsA uA.deny.cards.length uA.deny.cardsc) ∧ w'.cell? ⟨w2.heap.size, 4, none⟩ = some (.slice uA.keptA uA.kept.length uA.keptc)) ∧ (w'.cell? ⟨w0.heap.size, 0, none⟩ = some (.int .i64 u.val) ∧ w'.cell? ⟨w0.heap.size, 1, none⟩ = some (.int .i64 u.nxt) ∧ w'.cell? ⟨w0.heap.size, 2, none⟩ = some (.int .i64 u.deny.ver) ∧ w'.cell? ⟨w0.heap.size, 3, none⟩ = some (.slice u.deny.cardsA u.deny.cards.length u.deny.cardsc) ∧ w'.cell? ⟨w0.heap.size, 4, none⟩ = some (.slice u.keptA u.kept.length u.keptc)) ∧ (w'.cell? ⟨w0.heap.size + 1, 0, none⟩ = some (.int .i64 d.ver) ∧ w'.cell? ⟨w0.heap.size + 1, 1, none⟩ = some (.slice d.cardsA d.cards.length d.cardsc))) (by kernel_rfl) (by exact ⟨gateCells (t := 40) (v := uA) Hbx3.out, gateCells (t := 40) (v := u) HG3.out, denyCells (t := 30) (v := d) HD3.out⟩) (fun hS => ?_)
        refine take_at 0 17 (v := ?_) rfl rfl (by kernel_rfl) (by kernel_rfl) (by kernel_rfl) (fun _ _ _ h => h) (by rfl) ?_ hS ?_
        rotate_left 1
        · (intro w hSw; (try dsimp only at hSw); (try go_split_ands); go_simp; try with_reducible rfl)
        simp only [List.setIfInBounds_toArray, List.set_cons_zero, List.set_cons_succ]
        refine take_at 1 18 (v := ?_) rfl rfl (by kernel_rfl) (by kernel_rfl) (by kernel_rfl) (fun _ _ _ h => h) (by rfl) ?_ hS ?_
        rotate_left 1
        · (intro w hSw; (try dsimp only at hSw); (try go_split_ands); go_simp; try with_reducible rfl)
        simp only [List.setIfInBounds_toArray, List.set_cons_zero, List.set_cons_succ]
        refine take_at 2 19 (v := ?_) rfl rfl (by kernel_rfl) (by kernel_rfl) (by kernel_rfl) (fun _ _ _ h => h) (by rfl) ?_ hS ?_
        rotate_left 1
        · (intro w hSw; (try dsimp only at hSw); (try go_split_ands); go_simp; try with_reducible rfl)
        simp only [List.setIfInBounds_toArray, List.set_cons_zero, List.set_cons_succ]
        refine wpAnyH_ready (rs := [3]) (by kernel_rfl) (by simp) ?_
        refine AllReadyH.cons rfl (fun K hK => ?_) (AllReadyH.nil)
        go_simp
        go_wp2_with fail
        have hct := specTakeDeny_any u d w3.drew (GateIn.drew Hin3.out) Hs.out (DenyIn.drew Hdn3.out) Ht.out
        unfold gateV denyV at hct
        have Hct := Lib.hid hct; clear hct
        refine (Hct.out).mono ?_
        rintro e w4 ⟨⟨uS, rfl, hofS, hownS, hsmS⟩, hb4⟩
        clear Hct
        have hz4 : w3.heap.size ≤ w4.heap.size := by have := hb4.size; (try simp at this); omega
        have HB4 := Lib.hid (bT (bD1 HB3.out) hb4)
        clear HB3
        have Hin4 := Lib.hid (GateIn.over (GateIn.drew Hin3.out) hb4)
        clear Hin3
        have Hdn4 := Lib.hid (DenyIn.over (DenyIn.drew Hdn3.out) hb4)
        clear Hdn3
        have HG4 := Lib.hid (Blk.belowAll (blkDrew HG3.out) hb4)
        clear HG3
        have HD4 := Lib.hid (Blk.belowAll (blkDrew HD3.out) hb4)
        clear HD3
        have HA4 := Lib.hid (GateOwn.below (GateOwn.drew HA3.out) hb4)
        clear HA3
        have HA14 := Lib.hid (Blk.belowAll (blkDrew Hbx3.out) hb4)
        clear Hbx3
        clear hb4
        have HofS := Lib.hid hofS; clear hofS
        have HsmS := Lib.hid hsmS; clear hsmS
        have LTS := Lib.hid (fun k hk => (GateOwn.lt hownS k hk).1)
        have UPS := Lib.hid (fun k hk => (GateOwn.lt hownS k hk).2)
        have HoS := Lib.hid hownS; clear hownS
        go_simp
        refine hK.out _ _ (by exact ⟨gateCells (t := 40) (v := uA) HA14.out, gateCells (t := 40) (v := u) HG4.out, denyCells (t := 30) (v := d) HD4.out⟩) (fun hS => ?_)
        clear hK K
        refine wpAnyH_ready (rs := [4]) (by kernel_rfl) (by simp) ?_
        refine AllReadyH.cons rfl (fun K hK => ?_) (AllReadyH.nil)
        go_simp
        go_wp2_with fail
        refine (equalGate_same uA uS _ (GateOwn.in_ HA4.out) (GateOwn.in_ HoS.out) HsmA.out HsmS.out (HofA.out.trans HofS.out.symm)).mono ?_
        rintro e w5 ⟨rfl, hb5⟩
        have hz5 : w4.heap.size ≤ w5.heap.size := by have := hb5.size; (try simp at this); omega
        have HB5 := Lib.hid (bT HB4.out hb5)
        clear HB4
        have Hin5 := Lib.hid (GateIn.over Hin4.out hb5)
        clear Hin4
        have Hdn5 := Lib.hid (DenyIn.over Hdn4.out hb5)
        clear Hdn4
        have HG5 := Lib.hid (Blk.belowAll HG4.out hb5)
        clear HG4
        have HD5 := Lib.hid (Blk.belowAll HD4.out hb5)
        clear HD4
        have HA5 := Lib.hid (GateOwn.below HA4.out hb5)
        clear HA4
        have HA15 := Lib.hid (Blk.belowAll HA14.out hb5)
        clear HA14
        have HS5 := Lib.hid (GateOwn.below HoS.out hb5)
        clear HoS
        clear hb5
        go_simp
        refine hK.out _ _ (by exact ⟨gateCells (t := 40) (v := uA) HA15.out, gateCells (t := 40) (v := u) HG5.out, denyCells (t := 30) (v := d) HD5.out⟩) (fun hS => ?_)
        clear hK K
        refine take_at 5 22 (v := ?_) rfl rfl (by kernel_rfl) (by kernel_rfl) (by kernel_rfl) (fun _ _ _ h => h) (by rfl) ?_ hS ?_
        rotate_left 1
        · (intro w hSw; (try dsimp only at hSw); (try go_split_ands); go_simp; try with_reducible rfl)
        simp only [List.setIfInBounds_toArray, List.set_cons_zero, List.set_cons_succ]
        refine take_at 6 23 (v := ?_) rfl rfl (by kernel_rfl) (by kernel_rfl) (by kernel_rfl) (fun _ _ _ h => h) (by rfl) ?_ hS ?_
        rotate_left 1
        · (intro w hSw; (try dsimp only at hSw); (try go_split_ands); go_simp; try with_reducible rfl)
        simp only [List.setIfInBounds_toArray, List.set_cons_zero, List.set_cons_succ]
        refine take_at 7 24 (v := ?_) rfl rfl (by kernel_rfl) (by kernel_rfl) (by kernel_rfl) (fun _ _ _ h => h) (by rfl) ?_ hS ?_
        rotate_left 1
        · (intro w hSw; (try dsimp only at hSw); (try go_split_ands); go_simp; try with_reducible rfl)
        simp only [List.setIfInBounds_toArray, List.set_cons_zero, List.set_cons_succ]
        refine wpAnyH_ready (rs := [8]) (by kernel_rfl) (by simp) ?_
        refine AllReadyH.cons rfl (fun K hK => ?_) (AllReadyH.nil)
        go_simp
        go_wp2_with fail
        refine (implValidGate_any u _ Hin5.out Hs.out).mono ?_
        rintro e w6 ⟨rfl, hb6⟩
        rw [HV.out]
        have hz6 : w5.heap.size ≤ w6.heap.size := by have := hb6.size; (try simp at this); omega
        have HB6 := Lib.hid (bT HB5.out hb6)
        clear HB5
        have Hin6 := Lib.hid (GateIn.over Hin5.out hb6)
        clear Hin5
        have Hdn6 := Lib.hid (DenyIn.over Hdn5.out hb6)
        clear Hdn5
        have HG6 := Lib.hid (Blk.belowAll HG5.out hb6)
        clear HG5
        have HD6 := Lib.hid (Blk.belowAll HD5.out hb6)
        clear HD5
        have HA6 := Lib.hid (GateOwn.below HA5.out hb6)
        clear HA5
        have HA16 := Lib.hid (Blk.belowAll HA15.out hb6)
        clear HA15
        clear hb6
        go_simp
        refine hK.out _ _ (by exact ⟨gateCells (t := 40) (v := uA) HA16.out, gateCells (t := 40) (v := u) HG6.out, denyCells (t := 30) (v := d) HD6.out⟩) (fun hS => ?_)
        clear hK K
        refine take_at 9 26 (v := ?_) rfl rfl (by kernel_rfl) (by kernel_rfl) (by kernel_rfl) (fun _ _ _ h => h) (by rfl) ?_ hS ?_
        rotate_left 1
        · (intro w hSw; (try dsimp only at hSw); (try go_split_ands); go_simp; try with_reducible rfl)
        simp only [List.setIfInBounds_toArray, List.set_cons_zero, List.set_cons_succ]
        refine take_at 10 27 (v := ?_) rfl rfl (by kernel_rfl) (by kernel_rfl) (by kernel_rfl) (fun _ _ _ h => h) (by rfl) ?_ hS ?_
        rotate_left 1
        · (intro w hSw; (try dsimp only at hSw); (try go_split_ands); go_simp; try with_reducible rfl)
        simp only [List.setIfInBounds_toArray, List.set_cons_zero, List.set_cons_succ]
        refine take_at 11 28 (v := ?_) rfl rfl (by kernel_rfl) (by kernel_rfl) (by kernel_rfl) (fun _ _ _ h => h) (by rfl) ?_ hS ?_
        rotate_left 1
        · (intro w hSw; (try dsimp only at hSw); (try go_split_ands); go_simp; try with_reducible rfl)
        simp only [List.setIfInBounds_toArray, List.set_cons_zero, List.set_cons_succ]
        refine take_at 12 29 (v := ?_) rfl rfl (by kernel_rfl) (by kernel_rfl) (by kernel_rfl) (fun _ _ _ h => h) (by rfl) ?_ hS ?_
        rotate_left 1
        · (intro w hSw; (try dsimp only at hSw); (try go_split_ands); go_simp; try with_reducible rfl)
        simp only [List.setIfInBounds_toArray, List.set_cons_zero, List.set_cons_succ]
        refine wpAnyH_ready (rs := [13]) (by kernel_rfl) (by simp) ?_
        refine AllReadyH.cons rfl (fun K hK => ?_) (AllReadyH.nil)
        go_simp
        go_wp2_with fail
        refine (implValidDeny_any d _ Hdn6.out Ht.out).mono ?_
        rintro e w7 ⟨rfl, hb7⟩
        rw [HW.out]
        have hz7 : w6.heap.size ≤ w7.heap.size := by have := hb7.size; (try simp at this); omega
        have HB7 := Lib.hid (bT HB6.out hb7)
        clear HB6
        have Hin7 := Lib.hid (GateIn.over Hin6.out hb7)
        clear Hin6
        have Hdn7 := Lib.hid (DenyIn.over Hdn6.out hb7)
        clear Hdn6
        have HG7 := Lib.hid (Blk.belowAll HG6.out hb7)
        clear HG6
        have HD7 := Lib.hid (Blk.belowAll HD6.out hb7)
        clear HD6
        have HA7 := Lib.hid (GateOwn.below HA6.out hb7)
        clear HA6
        have HA17 := Lib.hid (Blk.belowAll HA16.out hb7)
        clear HA16
        clear hb7
        go_simp
        refine hK.out _ _ (by exact ⟨gateCells (t := 40) (v := uA) HA17.out, gateCells (t := 40) (v := u) HG7.out, denyCells (t := 30) (v := d) HD7.out⟩) (fun hS => ?_)
        clear hK K
        refine take_at 14 31 (v := ?_) rfl rfl (by kernel_rfl) (by kernel_rfl) (by kernel_rfl) (fun _ _ _ h => h) (by rfl) ?_ hS ?_
        rotate_left 1
        · (intro w hSw; (try dsimp only at hSw); (try go_split_ands); go_simp; try with_reducible rfl)
        simp only [List.setIfInBounds_toArray, List.set_cons_zero, List.set_cons_succ]
        refine take_at 15 32 (v := ?_) rfl rfl (by kernel_rfl) (by kernel_rfl) (by kernel_rfl) (fun _ _ _ h => h) (by rfl) ?_ hS ?_
        rotate_left 1
        · (intro w hSw; (try dsimp only at hSw); (try go_split_ands); go_simp; try with_reducible rfl)
        simp only [List.setIfInBounds_toArray, List.set_cons_zero, List.set_cons_succ]
        refine wpAnyH_done (by kernel_rfl) ?_ _
        clear hS
        obtain ⟨cA17_0, cA17_1, cA17_2, cA17_3, cA17_4⟩ := gateCells (t := 40) (v := uA) HA17.out
        obtain ⟨cG7_0, cG7_1, cG7_2, cG7_3, cG7_4⟩ := gateCells (t := 40) (v := u) HG7.out
        obtain ⟨cD7_0, cD7_1⟩ := denyCells (t := 30) (v := d) HD7.out
        go_wp2
        clear cA17_0 cA17_1 cA17_2 cA17_3 cA17_4 cG7_0 cG7_1 cG7_2 cG7_3 cG7_4 cD7_0 cD7_1
        refine wp_region_held_drew (S := fun w' => (w'.cell? ⟨w2.heap.size, 0, none⟩ = some (.int .i64 uA.val) ∧ w'.cell? ⟨w2.heap.size, 1, none⟩ = some (.int .i64 uA.nxt) ∧ w'.cell? ⟨w2.heap.size, 2, none⟩ = some (.int .i64 uA.deny.ver) ∧ w'.cell? ⟨w2.heap.size, 3, none⟩ = some (.slice uA.deny.cardsA uA.deny.cards.length uA.deny.cardsc) ∧ w'.cell? ⟨w2.heap.size, 4, none⟩ = some (.slice uA.keptA uA.kept.length uA.keptc)) ∧ (w'.cell? ⟨w0.heap.size, 0, none⟩ = some (.int .i64 u.val) ∧ w'.cell? ⟨w0.heap.size, 1, none⟩ = some (.int .i64 u.nxt) ∧ w'.cell? ⟨w0.heap.size, 2, none⟩ = some (.int .i64 u.deny.ver) ∧ w'.cell? ⟨w0.heap.size, 3, none⟩ = some (.slice u.deny.cardsA u.deny.cards.length u.deny.cardsc) ∧ w'.cell? ⟨w0.heap.size, 4, none⟩ = some (.slice u.keptA u.kept.length u.keptc)) ∧ (w'.cell? ⟨w0.heap.size + 1, 0, none⟩ = some (.int .i64 d.ver) ∧ w'.cell? ⟨w0.heap.size + 1, 1, none⟩ = some (.slice d.cardsA d.cards.length d.cardsc))) (by kernel_rfl) (by exact ⟨gateCells (t := 40) (v := uA) HA17.out, gateCells (t := 40) (v := u) HG7.out, denyCells (t := 30) (v := d) HD7.out⟩) (fun hS => ?_)
        refine take_at 0 33 (v := ?_) rfl rfl (by kernel_rfl) (by kernel_rfl) (by kernel_rfl) (fun _ _ _ h => h) (by rfl) ?_ hS ?_
        rotate_left 1
        · (intro w hSw; (try dsimp only at hSw); (try go_split_ands); go_simp; try with_reducible rfl)
        simp only [List.setIfInBounds_toArray, List.set_cons_zero, List.set_cons_succ]
        refine take_at 1 34 (v := ?_) rfl rfl (by kernel_rfl) (by kernel_rfl) (by kernel_rfl) (fun _ _ _ h => h) (by rfl) ?_ hS ?_
        rotate_left 1
        · (intro w hSw; (try dsimp only at hSw); (try go_split_ands); go_simp; try with_reducible rfl)
        simp only [List.setIfInBounds_toArray, List.set_cons_zero, List.set_cons_succ]
        refine take_at 2 35 (v := ?_) rfl rfl (by kernel_rfl) (by kernel_rfl) (by kernel_rfl) (fun _ _ _ h => h) (by rfl) ?_ hS ?_
        rotate_left 1
        · (intro w hSw; (try dsimp only at hSw); (try go_split_ands); go_simp; try with_reducible rfl)
        simp only [List.setIfInBounds_toArray, List.set_cons_zero, List.set_cons_succ]
        refine wpAnyH_ready (rs := [3]) (by kernel_rfl) (by simp) ?_
        refine AllReadyH.cons rfl (fun K hK => ?_) (AllReadyH.nil)
        go_simp
        go_wp2_with fail
        have hct := specTakeDeny_any u d w7.drew (GateIn.drew Hin7.out) Hs.out (DenyIn.drew Hdn7.out) Ht.out
        unfold gateV denyV at hct
        have Hct := Lib.hid hct; clear hct
        refine (Hct.out).mono ?_
        rintro e w8 ⟨⟨uS, rfl, hofS, hownS, hsmS⟩, hb8⟩
        clear Hct
        have hz8 : w7.heap.size ≤ w8.heap.size := by have := hb8.size; (try simp at this); omega
        have HB8 := Lib.hid (bT (bD1 HB7.out) hb8)
        clear HB7
        have Hin8 := Lib.hid (GateIn.over (GateIn.drew Hin7.out) hb8)
        clear Hin7
        have Hdn8 := Lib.hid (DenyIn.over (DenyIn.drew Hdn7.out) hb8)
        clear Hdn7
        have HG8 := Lib.hid (Blk.belowAll (blkDrew HG7.out) hb8)
        clear HG7
        have HD8 := Lib.hid (Blk.belowAll (blkDrew HD7.out) hb8)
        clear HD7
        have HA8 := Lib.hid (GateOwn.below (GateOwn.drew HA7.out) hb8)
        clear HA7
        have HA18 := Lib.hid (Blk.belowAll (blkDrew HA17.out) hb8)
        clear HA17
        clear hb8
        have HofS := Lib.hid hofS; clear hofS
        have HsmS := Lib.hid hsmS; clear hsmS
        have LTS := Lib.hid (fun k hk => (GateOwn.lt hownS k hk).1)
        have UPS := Lib.hid (fun k hk => (GateOwn.lt hownS k hk).2)
        have HoS := Lib.hid hownS; clear hownS
        go_simp
        refine hK.out _ _ (by exact ⟨gateCells (t := 40) (v := uA) HA18.out, gateCells (t := 40) (v := u) HG8.out, denyCells (t := 30) (v := d) HD8.out⟩) (fun hS => ?_)
        clear hK K
        refine wpAnyH_ready (rs := [4]) (by kernel_rfl) (by simp) ?_
        refine AllReadyH.cons rfl (fun K hK => ?_) (AllReadyH.nil)
        go_simp
        go_wp2_with fail
        refine (equalGate_same uA uS _ (GateOwn.in_ HA8.out) (GateOwn.in_ HoS.out) HsmA.out HsmS.out (HofA.out.trans HofS.out.symm)).mono ?_
        rintro e w9 ⟨rfl, hb9⟩
        have hz9 : w8.heap.size ≤ w9.heap.size := by have := hb9.size; (try simp at this); omega
        have HB9 := Lib.hid (bT HB8.out hb9)
        clear HB8
        have Hin9 := Lib.hid (GateIn.over Hin8.out hb9)
        clear Hin8
        have Hdn9 := Lib.hid (DenyIn.over Hdn8.out hb9)
        clear Hdn8
        have HG9 := Lib.hid (Blk.belowAll HG8.out hb9)
        clear HG8
        have HD9 := Lib.hid (Blk.belowAll HD8.out hb9)
        clear HD8
        have HA9 := Lib.hid (GateOwn.below HA8.out hb9)
        clear HA8
        have HA19 := Lib.hid (Blk.belowAll HA18.out hb9)
        clear HA18
        have HS9 := Lib.hid (GateOwn.below HoS.out hb9)
        clear HoS
        clear hb9
        go_simp
        refine hK.out _ _ (by exact ⟨gateCells (t := 40) (v := uA) HA19.out, gateCells (t := 40) (v := u) HG9.out, denyCells (t := 30) (v := d) HD9.out⟩) (fun hS => ?_)
        clear hK K
        refine take_at 5 2 (v := ?_) rfl rfl (by kernel_rfl) (by kernel_rfl) (by kernel_rfl) (fun _ _ _ h => h) (by rfl) ?_ hS ?_
        rotate_left 1
        · (intro w hSw; (try dsimp only at hSw); (try go_split_ands); go_simp; try with_reducible rfl)
        simp only [List.setIfInBounds_toArray, List.set_cons_zero, List.set_cons_succ]
        refine wpAnyH_done (by kernel_rfl) ?_ _
        clear hS
        go_wp2
        go_ret
        exact ⟨rfl, HB9.out⟩
      · have HW := Lib.hid hd; clear hd
        obtain ⟨m1, m2, m3, m4⟩ := Fares.take_twice u.of d.of HV.out HW.out
        have M1 := Lib.hid m1; clear m1
        have M2 := Lib.hid m2; clear m2
        have M3 := Lib.hid m3; clear m3
        have hver : uA.deny.ver = (if u.deny.ver < d.ver then d.ver else u.deny.ver) := (congrArg (fun x : Fares.Gate => x.deny.ver) HofA.out).trans m4
        have Hver := Lib.hid hver; clear hver m4
        refine wp_region_held_drew (S := fun w' => (w'.cell? ⟨w2.heap.size, 0, none⟩ = some (.int .i64 uA.val) ∧ w'.cell? ⟨w2.heap.size, 1, none⟩ = some (.int .i64 uA.nxt) ∧ w'.cell? ⟨w2.heap.size, 2, none⟩ = some (.int .i64 uA.deny.ver) ∧ w'.cell? ⟨w2.heap.size, 3, none⟩ = some (.slice uA.deny.cardsA uA.deny.cards.length uA.deny.cardsc) ∧ w'.cell? ⟨w2.heap.size, 4, none⟩ = some (.slice uA.keptA uA.kept.length uA.keptc)) ∧ (w'.cell? ⟨w0.heap.size, 0, none⟩ = some (.int .i64 u.val) ∧ w'.cell? ⟨w0.heap.size, 1, none⟩ = some (.int .i64 u.nxt) ∧ w'.cell? ⟨w0.heap.size, 2, none⟩ = some (.int .i64 u.deny.ver) ∧ w'.cell? ⟨w0.heap.size, 3, none⟩ = some (.slice u.deny.cardsA u.deny.cards.length u.deny.cardsc) ∧ w'.cell? ⟨w0.heap.size, 4, none⟩ = some (.slice u.keptA u.kept.length u.keptc)) ∧ (w'.cell? ⟨w0.heap.size + 1, 0, none⟩ = some (.int .i64 d.ver) ∧ w'.cell? ⟨w0.heap.size + 1, 1, none⟩ = some (.slice d.cardsA d.cards.length d.cardsc))) (by kernel_rfl) (by exact ⟨gateCells (t := 40) (v := uA) Hbx3.out, gateCells (t := 40) (v := u) HG3.out, denyCells (t := 30) (v := d) HD3.out⟩) (fun hS => ?_)
        refine take_at 0 17 (v := ?_) rfl rfl (by kernel_rfl) (by kernel_rfl) (by kernel_rfl) (fun _ _ _ h => h) (by rfl) ?_ hS ?_
        rotate_left 1
        · (intro w hSw; (try dsimp only at hSw); (try go_split_ands); go_simp; try with_reducible rfl)
        simp only [List.setIfInBounds_toArray, List.set_cons_zero, List.set_cons_succ]
        refine take_at 1 18 (v := ?_) rfl rfl (by kernel_rfl) (by kernel_rfl) (by kernel_rfl) (fun _ _ _ h => h) (by rfl) ?_ hS ?_
        rotate_left 1
        · (intro w hSw; (try dsimp only at hSw); (try go_split_ands); go_simp; try with_reducible rfl)
        simp only [List.setIfInBounds_toArray, List.set_cons_zero, List.set_cons_succ]
        refine take_at 2 19 (v := ?_) rfl rfl (by kernel_rfl) (by kernel_rfl) (by kernel_rfl) (fun _ _ _ h => h) (by rfl) ?_ hS ?_
        rotate_left 1
        · (intro w hSw; (try dsimp only at hSw); (try go_split_ands); go_simp; try with_reducible rfl)
        simp only [List.setIfInBounds_toArray, List.set_cons_zero, List.set_cons_succ]
        refine wpAnyH_ready (rs := [3]) (by kernel_rfl) (by simp) ?_
        refine AllReadyH.cons rfl (fun K hK => ?_) (AllReadyH.nil)
        go_simp
        go_wp2_with fail
        have hct := specTakeDeny_any u d w3.drew (GateIn.drew Hin3.out) Hs.out (DenyIn.drew Hdn3.out) Ht.out
        unfold gateV denyV at hct
        have Hct := Lib.hid hct; clear hct
        refine (Hct.out).mono ?_
        rintro e w4 ⟨⟨uS, rfl, hofS, hownS, hsmS⟩, hb4⟩
        clear Hct
        have hz4 : w3.heap.size ≤ w4.heap.size := by have := hb4.size; (try simp at this); omega
        have HB4 := Lib.hid (bT (bD1 HB3.out) hb4)
        clear HB3
        have Hin4 := Lib.hid (GateIn.over (GateIn.drew Hin3.out) hb4)
        clear Hin3
        have Hdn4 := Lib.hid (DenyIn.over (DenyIn.drew Hdn3.out) hb4)
        clear Hdn3
        have HG4 := Lib.hid (Blk.belowAll (blkDrew HG3.out) hb4)
        clear HG3
        have HD4 := Lib.hid (Blk.belowAll (blkDrew HD3.out) hb4)
        clear HD3
        have HA4 := Lib.hid (GateOwn.below (GateOwn.drew HA3.out) hb4)
        clear HA3
        have HA14 := Lib.hid (Blk.belowAll (blkDrew Hbx3.out) hb4)
        clear Hbx3
        clear hb4
        have HofS := Lib.hid hofS; clear hofS
        have HsmS := Lib.hid hsmS; clear hsmS
        have LTS := Lib.hid (fun k hk => (GateOwn.lt hownS k hk).1)
        have UPS := Lib.hid (fun k hk => (GateOwn.lt hownS k hk).2)
        have HoS := Lib.hid hownS; clear hownS
        go_simp
        refine hK.out _ _ (by exact ⟨gateCells (t := 40) (v := uA) HA14.out, gateCells (t := 40) (v := u) HG4.out, denyCells (t := 30) (v := d) HD4.out⟩) (fun hS => ?_)
        clear hK K
        refine wpAnyH_ready (rs := [4]) (by kernel_rfl) (by simp) ?_
        refine AllReadyH.cons rfl (fun K hK => ?_) (AllReadyH.nil)
        go_simp
        go_wp2_with fail
        refine (equalGate_same uA uS _ (GateOwn.in_ HA4.out) (GateOwn.in_ HoS.out) HsmA.out HsmS.out (HofA.out.trans HofS.out.symm)).mono ?_
        rintro e w5 ⟨rfl, hb5⟩
        have hz5 : w4.heap.size ≤ w5.heap.size := by have := hb5.size; (try simp at this); omega
        have HB5 := Lib.hid (bT HB4.out hb5)
        clear HB4
        have Hin5 := Lib.hid (GateIn.over Hin4.out hb5)
        clear Hin4
        have Hdn5 := Lib.hid (DenyIn.over Hdn4.out hb5)
        clear Hdn4
        have HG5 := Lib.hid (Blk.belowAll HG4.out hb5)
        clear HG4
        have HD5 := Lib.hid (Blk.belowAll HD4.out hb5)
        clear HD4
        have HA5 := Lib.hid (GateOwn.below HA4.out hb5)
        clear HA4
        have HA15 := Lib.hid (Blk.belowAll HA14.out hb5)
        clear HA14
        have HS5 := Lib.hid (GateOwn.below HoS.out hb5)
        clear HoS
        clear hb5
        go_simp
        refine hK.out _ _ (by exact ⟨gateCells (t := 40) (v := uA) HA15.out, gateCells (t := 40) (v := u) HG5.out, denyCells (t := 30) (v := d) HD5.out⟩) (fun hS => ?_)
        clear hK K
        refine take_at 5 22 (v := ?_) rfl rfl (by kernel_rfl) (by kernel_rfl) (by kernel_rfl) (fun _ _ _ h => h) (by rfl) ?_ hS ?_
        rotate_left 1
        · (intro w hSw; (try dsimp only at hSw); (try go_split_ands); go_simp; try with_reducible rfl)
        simp only [List.setIfInBounds_toArray, List.set_cons_zero, List.set_cons_succ]
        refine take_at 6 23 (v := ?_) rfl rfl (by kernel_rfl) (by kernel_rfl) (by kernel_rfl) (fun _ _ _ h => h) (by rfl) ?_ hS ?_
        rotate_left 1
        · (intro w hSw; (try dsimp only at hSw); (try go_split_ands); go_simp; try with_reducible rfl)
        simp only [List.setIfInBounds_toArray, List.set_cons_zero, List.set_cons_succ]
        refine take_at 7 24 (v := ?_) rfl rfl (by kernel_rfl) (by kernel_rfl) (by kernel_rfl) (fun _ _ _ h => h) (by rfl) ?_ hS ?_
        rotate_left 1
        · (intro w hSw; (try dsimp only at hSw); (try go_split_ands); go_simp; try with_reducible rfl)
        simp only [List.setIfInBounds_toArray, List.set_cons_zero, List.set_cons_succ]
        refine wpAnyH_ready (rs := [8]) (by kernel_rfl) (by simp) ?_
        refine AllReadyH.cons rfl (fun K hK => ?_) (AllReadyH.nil)
        go_simp
        go_wp2_with fail
        refine (implValidGate_any u _ Hin5.out Hs.out).mono ?_
        rintro e w6 ⟨rfl, hb6⟩
        rw [HV.out]
        have hz6 : w5.heap.size ≤ w6.heap.size := by have := hb6.size; (try simp at this); omega
        have HB6 := Lib.hid (bT HB5.out hb6)
        clear HB5
        have Hin6 := Lib.hid (GateIn.over Hin5.out hb6)
        clear Hin5
        have Hdn6 := Lib.hid (DenyIn.over Hdn5.out hb6)
        clear Hdn5
        have HG6 := Lib.hid (Blk.belowAll HG5.out hb6)
        clear HG5
        have HD6 := Lib.hid (Blk.belowAll HD5.out hb6)
        clear HD5
        have HA6 := Lib.hid (GateOwn.below HA5.out hb6)
        clear HA5
        have HA16 := Lib.hid (Blk.belowAll HA15.out hb6)
        clear HA15
        clear hb6
        go_simp
        refine hK.out _ _ (by exact ⟨gateCells (t := 40) (v := uA) HA16.out, gateCells (t := 40) (v := u) HG6.out, denyCells (t := 30) (v := d) HD6.out⟩) (fun hS => ?_)
        clear hK K
        refine take_at 9 26 (v := ?_) rfl rfl (by kernel_rfl) (by kernel_rfl) (by kernel_rfl) (fun _ _ _ h => h) (by rfl) ?_ hS ?_
        rotate_left 1
        · (intro w hSw; (try dsimp only at hSw); (try go_split_ands); go_simp; try with_reducible rfl)
        simp only [List.setIfInBounds_toArray, List.set_cons_zero, List.set_cons_succ]
        refine take_at 10 27 (v := ?_) rfl rfl (by kernel_rfl) (by kernel_rfl) (by kernel_rfl) (fun _ _ _ h => h) (by rfl) ?_ hS ?_
        rotate_left 1
        · (intro w hSw; (try dsimp only at hSw); (try go_split_ands); go_simp; try with_reducible rfl)
        simp only [List.setIfInBounds_toArray, List.set_cons_zero, List.set_cons_succ]
        refine take_at 11 28 (v := ?_) rfl rfl (by kernel_rfl) (by kernel_rfl) (by kernel_rfl) (fun _ _ _ h => h) (by rfl) ?_ hS ?_
        rotate_left 1
        · (intro w hSw; (try dsimp only at hSw); (try go_split_ands); go_simp; try with_reducible rfl)
        simp only [List.setIfInBounds_toArray, List.set_cons_zero, List.set_cons_succ]
        refine take_at 12 29 (v := ?_) rfl rfl (by kernel_rfl) (by kernel_rfl) (by kernel_rfl) (fun _ _ _ h => h) (by rfl) ?_ hS ?_
        rotate_left 1
        · (intro w hSw; (try dsimp only at hSw); (try go_split_ands); go_simp; try with_reducible rfl)
        simp only [List.setIfInBounds_toArray, List.set_cons_zero, List.set_cons_succ]
        refine wpAnyH_ready (rs := [13]) (by kernel_rfl) (by simp) ?_
        refine AllReadyH.cons rfl (fun K hK => ?_) (AllReadyH.nil)
        go_simp
        go_wp2_with fail
        refine (implValidDeny_any d _ Hdn6.out Ht.out).mono ?_
        rintro e w7 ⟨rfl, hb7⟩
        rw [HW.out]
        have hz7 : w6.heap.size ≤ w7.heap.size := by have := hb7.size; (try simp at this); omega
        have HB7 := Lib.hid (bT HB6.out hb7)
        clear HB6
        have Hin7 := Lib.hid (GateIn.over Hin6.out hb7)
        clear Hin6
        have Hdn7 := Lib.hid (DenyIn.over Hdn6.out hb7)
        clear Hdn6
        have HG7 := Lib.hid (Blk.belowAll HG6.out hb7)
        clear HG6
        have HD7 := Lib.hid (Blk.belowAll HD6.out hb7)
        clear HD6
        have HA7 := Lib.hid (GateOwn.below HA6.out hb7)
        clear HA6
        have HA17 := Lib.hid (Blk.belowAll HA16.out hb7)
        clear HA16
        clear hb7
        go_simp
        refine hK.out _ _ (by exact ⟨gateCells (t := 40) (v := uA) HA17.out, gateCells (t := 40) (v := u) HG7.out, denyCells (t := 30) (v := d) HD7.out⟩) (fun hS => ?_)
        clear hK K
        refine take_at 14 31 (v := ?_) rfl rfl (by kernel_rfl) (by kernel_rfl) (by kernel_rfl) (fun _ _ _ h => h) (by rfl) ?_ hS ?_
        rotate_left 1
        · (intro w hSw; (try dsimp only at hSw); (try go_split_ands); go_simp; try with_reducible rfl)
        simp only [List.setIfInBounds_toArray, List.set_cons_zero, List.set_cons_succ]
        refine take_at 15 32 (v := ?_) rfl rfl (by kernel_rfl) (by kernel_rfl) (by kernel_rfl) (fun _ _ _ h => h) (by rfl) ?_ hS ?_
        rotate_left 1
        · (intro w hSw; (try dsimp only at hSw); (try go_split_ands); go_simp; try with_reducible rfl)
        simp only [List.setIfInBounds_toArray, List.set_cons_zero, List.set_cons_succ]
        refine wpAnyH_done (by kernel_rfl) ?_ _
        clear hS
        obtain ⟨cA17_0, cA17_1, cA17_2, cA17_3, cA17_4⟩ := gateCells (t := 40) (v := uA) HA17.out
        obtain ⟨cG7_0, cG7_1, cG7_2, cG7_3, cG7_4⟩ := gateCells (t := 40) (v := u) HG7.out
        obtain ⟨cD7_0, cD7_1⟩ := denyCells (t := 30) (v := d) HD7.out
        go_wp2
        clear cA17_0 cA17_1 cA17_2 cA17_3 cA17_4 cG7_0 cG7_1 cG7_2 cG7_3 cG7_4 cD7_0 cD7_1
        have hmx : (uA.deny.ver == (if u.deny.ver < d.ver then d.ver else u.deny.ver)) = true := by rw [beq_iff_eq]; exact Hver.out
        have hmx2 : (if u.deny.ver < d.ver then d.ver else u.deny.ver) = uA.deny.ver := Hver.out.symm
        clear hmx
        refine wp_region_held_drew (S := fun w' => (w'.cell? ⟨w2.heap.size, 0, none⟩ = some (.int .i64 uA.val) ∧ w'.cell? ⟨w2.heap.size, 1, none⟩ = some (.int .i64 uA.nxt) ∧ w'.cell? ⟨w2.heap.size, 2, none⟩ = some (.int .i64 uA.deny.ver) ∧ w'.cell? ⟨w2.heap.size, 3, none⟩ = some (.slice uA.deny.cardsA uA.deny.cards.length uA.deny.cardsc) ∧ w'.cell? ⟨w2.heap.size, 4, none⟩ = some (.slice uA.keptA uA.kept.length uA.keptc)) ∧ (w'.cell? ⟨w0.heap.size, 0, none⟩ = some (.int .i64 u.val) ∧ w'.cell? ⟨w0.heap.size, 1, none⟩ = some (.int .i64 u.nxt) ∧ w'.cell? ⟨w0.heap.size, 2, none⟩ = some (.int .i64 u.deny.ver) ∧ w'.cell? ⟨w0.heap.size, 3, none⟩ = some (.slice u.deny.cardsA u.deny.cards.length u.deny.cardsc) ∧ w'.cell? ⟨w0.heap.size, 4, none⟩ = some (.slice u.keptA u.kept.length u.keptc)) ∧ (w'.cell? ⟨w0.heap.size + 1, 0, none⟩ = some (.int .i64 d.ver) ∧ w'.cell? ⟨w0.heap.size + 1, 1, none⟩ = some (.slice d.cardsA d.cards.length d.cardsc))) (by kernel_rfl) (by exact ⟨gateCells (t := 40) (v := uA) HA17.out, gateCells (t := 40) (v := u) HG7.out, denyCells (t := 30) (v := d) HD7.out⟩) (fun hS => ?_)
        refine take_at 0 38 (v := ?_) rfl rfl (by kernel_rfl) (by kernel_rfl) (by kernel_rfl) (fun _ _ _ h => h) (by rfl) ?_ hS ?_
        rotate_left 1
        · (intro w hSw; (try dsimp only at hSw); (try go_split_ands); go_simp; try with_reducible rfl)
        simp only [List.setIfInBounds_toArray, List.set_cons_zero, List.set_cons_succ]
        refine take_at 1 39 (v := ?_) rfl rfl (by kernel_rfl) (by kernel_rfl) (by kernel_rfl) (fun _ _ _ h => h) (by rfl) ?_ hS ?_
        rotate_left 1
        · (intro w hSw; (try dsimp only at hSw); (try go_split_ands); go_simp; try with_reducible rfl)
        simp only [List.setIfInBounds_toArray, List.set_cons_zero, List.set_cons_succ]
        refine take_at 2 40 (v := ?_) rfl rfl (by kernel_rfl) (by kernel_rfl) (by kernel_rfl) (fun _ _ _ h => h) (by rfl) ?_ hS ?_
        rotate_left 1
        · (intro w hSw; (try dsimp only at hSw); (try go_split_ands); go_simp; try with_reducible rfl)
        simp only [List.setIfInBounds_toArray, List.set_cons_zero, List.set_cons_succ]
        refine take_at 3 41 (v := ?_) rfl rfl (by kernel_rfl) (by kernel_rfl) (by kernel_rfl) (fun _ _ _ h => h) (by rfl) ?_ hS ?_
        rotate_left 1
        · (intro w hSw; (try dsimp only at hSw); (try go_split_ands); go_simp; try with_reducible rfl)
        simp only [List.setIfInBounds_toArray, List.set_cons_zero, List.set_cons_succ]
        refine take_at 4 42 (v := ?_) rfl rfl (by kernel_rfl) (by kernel_rfl) (by kernel_rfl) (fun _ _ _ h => h) (by rfl) ?_ hS ?_
        rotate_left 1
        · (intro w hSw; (try dsimp only at hSw); (try go_split_ands); go_simp; try with_reducible rfl)
        simp only [List.setIfInBounds_toArray, List.set_cons_zero, List.set_cons_succ]
        refine take_at 5 43 (v := ?_) rfl rfl (by kernel_rfl) (by kernel_rfl) (by kernel_rfl) (fun _ _ _ h => h) (by rfl) ?_ hS ?_
        rotate_left 1
        · (intro w hSw; (try dsimp only at hSw); (try go_split_ands); go_simp; try with_reducible rfl)
        simp only [List.setIfInBounds_toArray, List.set_cons_zero, List.set_cons_succ]
        refine take_at 6 44 (v := ?_) rfl rfl (by kernel_rfl) (by kernel_rfl) (by kernel_rfl) (fun _ _ _ h => h) (by rfl) ?_ hS ?_
        rotate_left 1
        · (intro w hSw; (try dsimp only at hSw); (try go_split_ands); go_simp; try with_reducible rfl)
        simp only [List.setIfInBounds_toArray, List.set_cons_zero, List.set_cons_succ]
        refine take_at 7 45 (v := ?_) rfl rfl (by kernel_rfl) (by kernel_rfl) (by kernel_rfl) (fun _ _ _ h => h) (by rfl) ?_ hS ?_
        rotate_left 1
        · (intro w hSw; (try dsimp only at hSw); (try go_split_ands); go_simp; try with_reducible rfl)
        simp only [List.setIfInBounds_toArray, List.set_cons_zero, List.set_cons_succ]
        refine take_at 8 46 (v := ?_) rfl rfl (by kernel_rfl) (by kernel_rfl) (by kernel_rfl) (fun _ _ _ h => h) (by rfl) ?_ hS ?_
        rotate_left 1
        · (intro w hSw; (try dsimp only at hSw); (try go_split_ands); go_simp; try with_reducible rfl)
        simp only [List.setIfInBounds_toArray, List.set_cons_zero, List.set_cons_succ]
        refine take_at 9 47 (v := ?_) rfl rfl (by kernel_rfl) (by kernel_rfl) (by kernel_rfl) (fun _ _ _ h => h) (by rfl) ?_ hS ?_
        rotate_left 1
        · (intro w hSw; (try dsimp only at hSw); (try go_split_ands); go_simp; try with_reducible rfl)
        simp only [List.setIfInBounds_toArray, List.set_cons_zero, List.set_cons_succ]
        refine take_at 10 48 (v := ?_) rfl rfl (by kernel_rfl) (by kernel_rfl) (by kernel_rfl) (fun _ _ _ h => h) (by rfl) ?_ hS ?_
        rotate_left 1
        · (intro w hSw; (try dsimp only at hSw); (try go_split_ands); go_simp; try with_reducible rfl)
        simp only [List.setIfInBounds_toArray, List.set_cons_zero, List.set_cons_succ]
        refine take_at 11 49 (v := ?_) rfl rfl (by kernel_rfl) (by kernel_rfl) (by kernel_rfl) (fun _ _ _ h => h) (by rfl) ?_ hS ?_
        rotate_left 1
        · (intro w hSw; (try dsimp only at hSw); (try go_split_ands); go_simp; try with_reducible rfl)
        simp only [List.setIfInBounds_toArray, List.set_cons_zero, List.set_cons_succ]
        refine take_at 12 50 (v := ?_) rfl rfl (by kernel_rfl) (by kernel_rfl) (by kernel_rfl) (fun _ _ _ h => h) (by rfl) ?_ hS ?_
        rotate_left 1
        · (intro w hSw; (try dsimp only at hSw); (try go_split_ands); go_simp; try with_reducible rfl)
        simp only [List.setIfInBounds_toArray, List.set_cons_zero, List.set_cons_succ]
        refine take_at 14 52 (v := ?_) rfl rfl (by kernel_rfl) (by kernel_rfl) (by kernel_rfl) (fun _ _ _ h => h) (by rfl) ?_ hS ?_
        rotate_left 1
        · (intro w hSw; (try dsimp only at hSw); (try go_split_ands); go_simp; try with_reducible rfl)
        simp only [List.setIfInBounds_toArray, List.set_cons_zero, List.set_cons_succ]
        refine wpAnyH_ready (rs := [13]) (by kernel_rfl) (by simp) ?_
        refine AllReadyH.cons rfl (fun K hK => ?_) (AllReadyH.nil)
        go_simp
        have hct := implTakeDeny_any uA d w7.drew (GateOwn.in_ (GateOwn.drew HA7.out)) HsmA.out (DenyIn.drew Hdn7.out) Ht.out
        unfold gateV denyV at hct
        have Hct := Lib.hid hct; clear hct
        refine (Hct.out).mono ?_
        rintro e w8 ⟨⟨uT, rfl, hofT, hownT, hsmT⟩, hb8⟩
        clear Hct
        have hz8 : w7.heap.size ≤ w8.heap.size := by have := hb8.size; (try simp at this); omega
        have HB8 := Lib.hid (bT (bD1 HB7.out) hb8)
        clear HB7
        have Hin8 := Lib.hid (GateIn.over (GateIn.drew Hin7.out) hb8)
        clear Hin7
        have Hdn8 := Lib.hid (DenyIn.over (DenyIn.drew Hdn7.out) hb8)
        clear Hdn7
        have HG8 := Lib.hid (Blk.belowAll (blkDrew HG7.out) hb8)
        clear HG7
        have HD8 := Lib.hid (Blk.belowAll (blkDrew HD7.out) hb8)
        clear HD7
        have HA8 := Lib.hid (GateOwn.below (GateOwn.drew HA7.out) hb8)
        clear HA7
        have HA18 := Lib.hid (Blk.belowAll (blkDrew HA17.out) hb8)
        clear HA17
        clear hb8
        have HofT := Lib.hid hofT; clear hofT
        have HsmT := Lib.hid hsmT; clear hsmT
        have LTT := Lib.hid (fun k hk => (GateOwn.lt hownT k hk).1)
        have UPT := Lib.hid (fun k hk => (GateOwn.lt hownT k hk).2)
        have HoT := Lib.hid hownT; clear hownT
        go_simp
        refine hK.out _ _ (by exact ⟨gateCells (t := 40) (v := uA) HA18.out, gateCells (t := 40) (v := u) HG8.out, denyCells (t := 30) (v := d) HD8.out⟩) (fun hS => ?_)
        clear hK K
        refine wpAnyH_ready (rs := [15]) (by kernel_rfl) (by simp) ?_
        refine AllReadyH.cons rfl (fun K hK => ?_) (AllReadyH.nil)
        go_simp
        go_wp2_with fail
        refine (equalGate_same uT uA _ (GateOwn.in_ HoT.out) (GateOwn.in_ HA8.out) HsmT.out HsmA.out (by rw [HofT.out, HofA.out, M2.out])).mono ?_
        rintro e w9 ⟨rfl, hb9⟩
        have hz9 : w8.heap.size ≤ w9.heap.size := by have := hb9.size; (try simp at this); omega
        have HB9 := Lib.hid (bT HB8.out hb9)
        clear HB8
        have Hin9 := Lib.hid (GateIn.over Hin8.out hb9)
        clear Hin8
        have Hdn9 := Lib.hid (DenyIn.over Hdn8.out hb9)
        clear Hdn8
        have HG9 := Lib.hid (Blk.belowAll HG8.out hb9)
        clear HG8
        have HD9 := Lib.hid (Blk.belowAll HD8.out hb9)
        clear HD8
        have HA9 := Lib.hid (GateOwn.below HA8.out hb9)
        clear HA8
        have HA19 := Lib.hid (Blk.belowAll HA18.out hb9)
        clear HA18
        have HT9 := Lib.hid (GateOwn.below HoT.out hb9)
        clear HoT
        clear hb9
        go_simp
        refine hK.out _ _ (by exact ⟨gateCells (t := 40) (v := uA) HA19.out, gateCells (t := 40) (v := u) HG9.out, denyCells (t := 30) (v := d) HD9.out⟩) (fun hS => ?_)
        clear hK K
        refine take_at 16 54 (v := ?_) rfl rfl (by kernel_rfl) (by kernel_rfl) (by kernel_rfl) (fun _ _ _ h => h) (by rfl) ?_ hS ?_
        rotate_left 1
        · (intro w hSw; (try dsimp only at hSw); (try go_split_ands); go_simp; try with_reducible rfl)
        simp only [List.setIfInBounds_toArray, List.set_cons_zero, List.set_cons_succ]
        refine take_at 17 55 (v := ?_) rfl rfl (by kernel_rfl) (by kernel_rfl) (by kernel_rfl) (fun _ _ _ h => h) (by rfl) ?_ hS ?_
        rotate_left 1
        · (intro w hSw; (try dsimp only at hSw); (try go_split_ands); go_simp; try with_reducible rfl)
        simp only [List.setIfInBounds_toArray, List.set_cons_zero, List.set_cons_succ]
        refine take_at 18 56 (v := ?_) rfl rfl (by kernel_rfl) (by kernel_rfl) (by kernel_rfl) (fun _ _ _ h => h) (by rfl) ?_ hS ?_
        rotate_left 1
        · (intro w hSw; (try dsimp only at hSw); (try go_split_ands); go_simp; try with_reducible rfl)
        simp only [List.setIfInBounds_toArray, List.set_cons_zero, List.set_cons_succ]
        refine take_at 19 57 (v := ?_) rfl rfl (by kernel_rfl) (by kernel_rfl) (by kernel_rfl) (fun _ _ _ h => h) (by rfl) ?_ hS ?_
        rotate_left 1
        · (intro w hSw; (try dsimp only at hSw); (try go_split_ands); go_simp; try with_reducible rfl)
        simp only [List.setIfInBounds_toArray, List.set_cons_zero, List.set_cons_succ]
        refine take_at 20 58 (v := ?_) rfl rfl (by kernel_rfl) (by kernel_rfl) (by kernel_rfl) (fun _ _ _ h => h) (by rfl) ?_ hS ?_
        rotate_left 1
        · (intro w hSw; (try dsimp only at hSw); (try go_split_ands); go_simp; try with_reducible rfl)
        simp only [List.setIfInBounds_toArray, List.set_cons_zero, List.set_cons_succ]
        refine take_at 21 59 (v := ?_) rfl rfl (by kernel_rfl) (by kernel_rfl) (by kernel_rfl) (fun _ _ _ h => h) (by rfl) ?_ hS ?_
        rotate_left 1
        · (intro w hSw; (try dsimp only at hSw); (try go_split_ands); go_simp; try with_reducible rfl)
        simp only [List.setIfInBounds_toArray, List.set_cons_zero, List.set_cons_succ]
        refine wpAnyH_ready (rs := [22]) (by kernel_rfl) (by simp) ?_
        refine AllReadyH.cons rfl (fun K hK => ?_) (AllReadyH.nil)
        go_simp
        go_wp2_with fail
        have hkk : uA.kept = u.kept := (congrArg Fares.Gate.kept HofA.out).trans M3.out
        have Hkk := Lib.hid hkk; clear hkk
        refine (equalTaps_any uA.keptA u.keptA uA.kept.length u.kept.length uA.keptc u.keptc uA.kept u.kept _ (GateOwn.in_ HA9.out).2.1 (Hin9.out).2.1 rfl rfl (by have := HsmA.out.2; omega) (by have := Hs.out.2; omega)).mono ?_
        rintro e w10 ⟨rfl, hb10⟩
        rw [decide_eq_true Hkk.out]
        have hz10 : w9.heap.size ≤ w10.heap.size := by have := hb10.size; (try simp at this); omega
        have HB10 := Lib.hid (bT HB9.out hb10)
        clear HB9
        have Hin10 := Lib.hid (GateIn.over Hin9.out hb10)
        clear Hin9
        have Hdn10 := Lib.hid (DenyIn.over Hdn9.out hb10)
        clear Hdn9
        have HG10 := Lib.hid (Blk.belowAll HG9.out hb10)
        clear HG9
        have HD10 := Lib.hid (Blk.belowAll HD9.out hb10)
        clear HD9
        have HA10 := Lib.hid (GateOwn.below HA9.out hb10)
        clear HA9
        have HA110 := Lib.hid (Blk.belowAll HA19.out hb10)
        clear HA19
        clear hb10
        go_simp
        refine hK.out _ _ (by exact ⟨gateCells (t := 40) (v := uA) HA110.out, gateCells (t := 40) (v := u) HG10.out, denyCells (t := 30) (v := d) HD10.out⟩) (fun hS => ?_)
        clear hK K
        refine take_at 23 61 (v := ?_) rfl rfl (by kernel_rfl) (by kernel_rfl) (by kernel_rfl) (fun _ _ _ h => h) (by rfl) ?_ hS ?_
        rotate_left 1
        · (intro w hSw; (try dsimp only at hSw); (try go_split_ands); go_simp; try with_reducible rfl)
        simp only [List.setIfInBounds_toArray, List.set_cons_zero, List.set_cons_succ]
        refine take_at 24 62 (v := ?_) rfl rfl (by kernel_rfl) (by kernel_rfl) (by kernel_rfl) (fun _ _ _ h => h) (by rfl) ?_ hS ?_
        rotate_left 1
        · (intro w hSw; (try dsimp only at hSw); (try go_split_ands); go_simp; try with_reducible rfl)
        simp only [List.setIfInBounds_toArray, List.set_cons_zero, List.set_cons_succ]
        refine take_at 25 63 (v := ?_) rfl rfl (by kernel_rfl) (by kernel_rfl) (by kernel_rfl) (fun _ _ _ h => h) (by rfl) ?_ hS ?_
        rotate_left 1
        · (intro w hSw; (try dsimp only at hSw); (try go_split_ands); go_simp; try with_reducible rfl)
        simp only [List.setIfInBounds_toArray, List.set_cons_zero, List.set_cons_succ]
        refine wpAnyH_ready (rs := [26]) (by kernel_rfl) (by simp) ?_
        refine AllReadyH.cons rfl (fun K hK => ?_) (AllReadyH.nil)
        go_simp
        go_wp2_with fail
        refine (implValidGate_any uA _ (GateOwn.in_ HA10.out) HsmA.out).mono ?_
        rintro e w11 ⟨rfl, hb11⟩
        rw [HofA.out, M1.out]
        have hz11 : w10.heap.size ≤ w11.heap.size := by have := hb11.size; (try simp at this); omega
        have HB11 := Lib.hid (bT HB10.out hb11)
        clear HB10
        have Hin11 := Lib.hid (GateIn.over Hin10.out hb11)
        clear Hin10
        have Hdn11 := Lib.hid (DenyIn.over Hdn10.out hb11)
        clear Hdn10
        have HG11 := Lib.hid (Blk.belowAll HG10.out hb11)
        clear HG10
        have HD11 := Lib.hid (Blk.belowAll HD10.out hb11)
        clear HD10
        have HA11 := Lib.hid (GateOwn.below HA10.out hb11)
        clear HA10
        have HA111 := Lib.hid (Blk.belowAll HA110.out hb11)
        clear HA110
        clear hb11
        go_simp
        refine hK.out _ _ (by exact ⟨gateCells (t := 40) (v := uA) HA111.out, gateCells (t := 40) (v := u) HG11.out, denyCells (t := 30) (v := d) HD11.out⟩) (fun hS => ?_)
        clear hK K
        refine take_at 27 65 (v := ?_) rfl rfl (by kernel_rfl) (by kernel_rfl) (by kernel_rfl) (fun _ _ _ h => h) (by rfl) ?_ hS ?_
        rotate_left 1
        · (intro w hSw; (try dsimp only at hSw); (try go_split_ands); go_simp; try with_reducible rfl)
        simp only [List.setIfInBounds_toArray, List.set_cons_zero, List.set_cons_succ]
        refine take_at 28 2 (v := ?_) rfl rfl (by kernel_rfl) (by kernel_rfl) (by kernel_rfl) (fun _ _ _ h => h) (by rfl) ?_ hS ?_
        rotate_left 1
        · (intro w hSw; (try dsimp only at hSw); (try go_split_ands); go_simp; try with_reducible rfl)
        simp only [List.setIfInBounds_toArray, List.set_cons_zero, List.set_cons_succ]
        refine wpAnyH_done (by kernel_rfl) ?_ _
        clear hS
        go_wp2
        go_ret
        exact ⟨rfl, HB11.out⟩

set_option maxRecDepth 100000 in
theorem lifted (os : Os) (started : os.Started) (H : Type) (enc : TypeId × Value → H) :
    ReturnsInHanded {} Try.checked os 19 .any (Rows.fnTakeDenySpec.pre6 enc Try.prog Try.f19 Rows.fnTakeDenyRow.domain false) (Rows.fnTakeDenySpec.post enc Try.prog Try.f19 false true false false) := by
  refine returnsInHanded_of_change (C := Try.checked) Cells.own started (by kernel_rfl) Try.func19
    (ChangeSpec.witness6 (enc := enc) (C := Try.checked) false ⟨#[], #[.slice none 0 0], []⟩ 8 (by kernel_rfl) (by kernel_rfl) (by kernel_rfl) (by kernel_rfl)) ?_
  intro W base args ds gs before hval0 hW _ _
  have hval : ∀ (j : Nat) t v, Try.f19.params[j]? = some t → args[j]? = some v → Value.okWide Try.prog W .any base t v := hval0
  have hW' := hW
  obtain ⟨p, q, hA0, hV, rfl, _, _⟩ := hW
  have hA : DataW.TrodAll enc Try.prog W 0 (fun _ => true) true Try.f19.params.toList args.toList ds p := hA0
  rw [Try.params19] at hA hval
  obtain ⟨v0, d0, rfl, rfl, h0⟩ := trodAll_one hA
  obtain ⟨rfl, rfl⟩ := trodVars_none hV
  obtain ⟨a0, len, cap, rfl⟩ := okWide_slice Try.underlying22 (hval 0 22 v0 rfl rfl)
  clear hA0 hval0
  simp only [List.append_nil] at hW'
  obtain ⟨hb, hargs⟩ := opened h0 (fun x hx => by simpa using hW'.lt x hx)
  refine (walk a0 len cap W hb).mono fun e W' ⟨he, hnx⟩ => ?_
  subst he
  exact ⟨_, rfl, _, _, _, [], _, [], hW', trodAll_mk1 (shut_bool Try.underlying4 _), trodAll_mk1 (hargs _ hnx), rfl, hnx.frame _, fun h => by cases h⟩

theorem closed : joinedFacts Try.prog 19 Try.f19 Rows.fnTakeDenySpec Rows.fnTakeDenyRow = true := by
  unfold joinedFacts
  rw [Cells.laidOut, Cells.mapsRowed_, Cells.stops, Cells.stopKnobs, Cells.plainKeys, Cells.stopsHeard, Cells.mayEnter, Cells.liftsFinal, Cells.make]
  kernel_rfl

theorem over : Rows.fnTakeDenyRow.holds Try.pinned (OpenSpec.ofChange Rows.fnTakeDenySpec) :=
  OpenClaim.holds_of_wide 19 Try.f19 rfl rfl rfl rfl rfl rfl rfl ⟨rfl, rfl, rfl, rfl, rfl⟩ rfl rfl rfl rfl rfl (by kernel_rfl) Try.func19 closed
    (of_decide_eq_true (by kernel_rfl)) (by unfold Func.isWrapper; first | (rw [if_pos (by decide +kernel)]; kernel_rfl) | (rw [if_neg (by decide +kernel)]; exact ⟨rfl, rfl⟩))
    (fun os started H enc _ => lifted os started H enc)

/-- THE STATEMENT -/
theorem proved : Rows.FnTakeDenySaid := over
#print axioms proved
end Go.Proofs.Ytpijjlggmibfnaa.fnTakeDeny
