/-
  At every validator and deny list, TakeDeny of the program answers as its model in every field, leaves its arguments as they were, and its answer owns its memory: the law FnExactTakeDeny returns true. No conditions.
-/
import Derived.Test.YtpijjlggmibfnaaOpen
import Derived.Test.YtpijjlggmibfnaaTakeFn
import Derived.Test.YtpijjlggmibfnaaOpDeny
import Derived.Test.YtpijjlggmibfnaaOpGate
import Derived.Test.YtpijjlggmibfnaaReg
import Derived.Deep.CutRange
set_option linter.unusedSimpArgs false
namespace Go.Proofs.Ytpijjlggmibfnaa.fnExactTakeDeny
open Go.ChangeShapes Go.WideShapes Go.ChangeAt Go.RowKit Go.Deep
set_option linter.unusedVariables false

set_option maxRecDepth 100000 in
set_option maxHeartbeats 2000000 in
theorem walk (w : World) (a0 : GateR) (i0 : GateIn w w.heap.size a0) (f0 : gateFits a0) (a1 : DenyR) (i1 : DenyIn w w.heap.size a1) (f1 : denyFits a1) : Calls Try.prog 20 #[gateV a0, denyV a1] w (TrueBelow w) := by
  have Hi0 := Lib.hid i0; clear i0
  have Hi1 := Lib.hid i1; clear i1
  unfold denyV gateV
  go_enter Try.func20, Try.ntmps20
  go_wp2_with fail
  generalize hW : World.alloc _ _ = w1
  have hbp0 : Blk w1 (w.heap.size) 47 (GateR.cells a0) := by rw [← hW]; exact (Blk.new' (by simp)).alloc _
  have hbp1 : Blk w1 (w.heap.size + 1) 33 (DenyR.cells a1) := by rw [← hW]; exact Blk.new' (by simp)
  have HB1 : Hid (Below w.heap.size w w1) := Lib.hid (by rw [← hW]; exact bA (bA (Below.refl _ _) _) _)
  have hz1 : w.heap.size + 1 < w1.heap.size := by rw [← hW]; simp
  clear hW
  have Hbp0 := Lib.hid hbp0; clear hbp0
  have Hbp1 := Lib.hid hbp1; clear hbp1
  refine (szGate_any a0 (1048576) _ (Hi0.out.over HB1.out) (by omega) (by omega)).mono ?_
  rintro e w2 ⟨⟨r0, rfl, ra0, rb0, rc0⟩, hb2⟩
  have hz2 : w1.heap.size ≤ w2.heap.size := by have := hb2.size; (try simp at this); omega
  have HB2 := Lib.hid (bT HB1.out hb2)
  clear HB1
  have HP02 := Lib.hid (Blk.belowAll Hbp0.out hb2)
  clear Hbp0
  have HP12 := Lib.hid (Blk.belowAll Hbp1.out hb2)
  clear Hbp1
  clear hb2
  rcases rc0 with rc0 | ⟨rc0, hs0⟩
  · have hd : decide (r0 < 0) = true := by rw [decide_eq_true_eq]; omega
    go_wp2
    go_ret
    exact ⟨rfl, HB2.out⟩
  · have hd0 : decide (r0 < 0) = false := by rw [decide_eq_false_iff_not]; omega
    have Hs0 := Lib.hid hs0; clear hs0
    obtain ⟨cP12_0, cP12_1⟩ := denyCells (t := 33) (v := a1) HP12.out
    go_wp2_with fail
    refine (szDeny_any a1 (r0) _ (Hi1.out.over HB2.out) (by omega) (by omega)).mono ?_
    rintro e w3 ⟨⟨r1, rfl, ra1, rb1, rc1⟩, hb3⟩
    clear cP12_0 cP12_1
    have hz3 : w2.heap.size ≤ w3.heap.size := by have := hb3.size; (try simp at this); omega
    have HB3 := Lib.hid (bT HB2.out hb3)
    clear HB2
    have HP03 := Lib.hid (Blk.belowAll HP02.out hb3)
    clear HP02
    have HP13 := Lib.hid (Blk.belowAll HP12.out hb3)
    clear HP12
    clear hb3
    rcases rc1 with rc1 | ⟨rc1, hs1⟩
    · have hd : decide (r1 < 0) = true := by rw [decide_eq_true_eq]; omega
      go_wp2
      go_ret
      exact ⟨rfl, HB3.out⟩
    · have hd1 : decide (r1 < 0) = false := by rw [decide_eq_false_iff_not]; omega
      have Hs1 := Lib.hid hs1; clear hs1
      go_upto_region 8 with (fail)
      go_cut [6] from 24 to 28 (fun v wx => ∃ (b : Nat) (u : GateR), v = .pointer (some ⟨b, 0, none⟩) ∧ w3.heap.size ≤ b ∧ b < wx.heap.size ∧ Blk wx b 40 (GateR.cells u) ∧ Hid (u.of = Fares.takeDeny a0.of a1.of) ∧ GateOwn wx (w3.heap.size) u ∧ GateSmall u ∧ w3.heap.size ≤ wx.heap.size ∧ Below w.heap.size w wx ∧ Blk wx (w.heap.size) 47 (GateR.cells a0) ∧ Blk wx (w.heap.size + 1) 33 (DenyR.cells a1))
      case first =>
        refine wp_region_held_drew (S := fun w' => (w'.cell? ⟨w.heap.size, 0, none⟩ = some (.int .i64 a0.val) ∧ w'.cell? ⟨w.heap.size, 1, none⟩ = some (.int .i64 a0.nxt) ∧ w'.cell? ⟨w.heap.size, 2, none⟩ = some (.int .i64 a0.deny.ver) ∧ w'.cell? ⟨w.heap.size, 3, none⟩ = some (.slice a0.deny.cardsA a0.deny.cards.length a0.deny.cardsc) ∧ w'.cell? ⟨w.heap.size, 4, none⟩ = some (.slice a0.keptA a0.kept.length a0.keptc)) ∧ (w'.cell? ⟨w.heap.size + 1, 0, none⟩ = some (.int .i64 a1.ver) ∧ w'.cell? ⟨w.heap.size + 1, 1, none⟩ = some (.slice a1.cardsA a1.cards.length a1.cardsc))) (by kernel_rfl) (by exact ⟨gateCells (t := 47) (v := a0) HP03.out, denyCells (t := 33) (v := a1) HP13.out⟩) (fun hS => ?_)
        refine take_at 0 24 (v := ?_) rfl rfl (by kernel_rfl) (by kernel_rfl) (by kernel_rfl) (fun _ _ _ h => h) (by rfl) ?_ hS ?_
        rotate_left 1
        · (intro w hSw; (try dsimp only at hSw); (try go_split_ands); go_simp; try with_reducible rfl)
        simp only [List.setIfInBounds_toArray, List.set_cons_zero, List.set_cons_succ]
        refine take_at 2 26 (v := ?_) rfl rfl (by kernel_rfl) (by kernel_rfl) (by kernel_rfl) (fun _ _ _ h => h) (by rfl) ?_ hS ?_
        rotate_left 1
        · (intro w hSw; (try dsimp only at hSw); (try go_split_ands); go_simp; try with_reducible rfl)
        simp only [List.setIfInBounds_toArray, List.set_cons_zero, List.set_cons_succ]
        refine wpAnyH_ready (rs := [1, 5]) (by kernel_rfl) (by simp) ?_
        refine AllReadyH.cons rfl (fun K hK => ?_) (AllReadyH.cons rfl (fun K hK => ?_) (AllReadyH.nil))
        · go_simp
          go_wp2_with fail
          refine (toGate_any a0 _ (Hi0.out.over (bD1 HB3.out)) Hs0.out).mono ?_
          rintro e w4 ⟨⟨uTA0, rfl, hofTA0, hownTA0, hsmTA0⟩, hb4⟩
          have hz4 : w3.heap.size ≤ w4.heap.size := by have := hb4.size; (try simp at this); omega
          have HB4 := Lib.hid (bT (bD1 HB3.out) hb4)
          clear HB3
          have HP04 := Lib.hid (Blk.belowAll (blkDrew HP03.out) hb4)
          clear HP03
          have HP14 := Lib.hid (Blk.belowAll (blkDrew HP13.out) hb4)
          clear HP13
          clear hb4
          have HofTA0 := Lib.hid hofTA0; clear hofTA0
          have HsmTA0 := Lib.hid hsmTA0; clear hsmTA0
          have LTTA0 := Lib.hid (fun k hk => (GateOwn.lt hownTA0 k hk).1)
          have UPTA0 := Lib.hid (fun k hk => (GateOwn.lt hownTA0 k hk).2)
          have HoTA0 := Lib.hid hownTA0; clear hownTA0
          (try unfold gateV)
          go_simp
          refine hK.out _ _ (by exact ⟨gateCells (t := 47) (v := a0) HP04.out, denyCells (t := 33) (v := a1) HP14.out⟩) (fun hS => ?_)
          clear hK K
          refine wpAnyH_ready (rs := [3, 5]) (by kernel_rfl) (by simp) ?_
          refine AllReadyH.cons rfl (fun K hK => ?_) (AllReadyH.cons rfl (fun K hK => ?_) (AllReadyH.nil))
          · go_simp
            go_wp2_with fail
            refine (toDeny_any a1 _ (Hi1.out.over HB4.out) Hs1.out).mono ?_
            rintro e w5 ⟨⟨uTA1, rfl, hofTA1, hownTA1, hsmTA1⟩, hb5⟩
            have hz5 : w4.heap.size ≤ w5.heap.size := by have := hb5.size; (try simp at this); omega
            have HB5 := Lib.hid (bT HB4.out hb5)
            clear HB4
            have HP05 := Lib.hid (Blk.belowAll HP04.out hb5)
            clear HP04
            have HP15 := Lib.hid (Blk.belowAll HP14.out hb5)
            clear HP14
            have HTA05 := Lib.hid (GateOwn.below HoTA0.out hb5)
            clear HoTA0
            clear hb5
            have HofTA1 := Lib.hid hofTA1; clear hofTA1
            have HsmTA1 := Lib.hid hsmTA1; clear hsmTA1
            have LTTA1 := Lib.hid (fun k hk => (DenyOwn.lt hownTA1 k hk).1)
            have UPTA1 := Lib.hid (fun k hk => (DenyOwn.lt hownTA1 k hk).2)
            have HoTA1 := Lib.hid hownTA1; clear hownTA1
            (try unfold denyV)
            go_simp
            refine hK.out _ _ (by exact ⟨gateCells (t := 47) (v := a0) HP05.out, denyCells (t := 33) (v := a1) HP15.out⟩) (fun hS => ?_)
            clear hK K
            refine wpAnyH_ready (rs := [4, 5]) (by kernel_rfl) (by simp) ?_
            refine AllReadyH.cons rfl (fun K hK => ?_) (AllReadyH.cons rfl (fun K hK => ?_) (AllReadyH.nil))
            · go_simp
              go_wp2_with fail
              have hcf := specTakeDeny_any uTA0 uTA1 w5 (GateOwn.in_ HTA05.out) HsmTA0.out (DenyOwn.in_ HoTA1.out) HsmTA1.out
              (try unfold denyV gateV at hcf)
              have Hcf := Lib.hid hcf; clear hcf
              refine (Hcf.out).mono ?_
              rintro e w6 ⟨⟨uS, rfl, hofS, hownS, hsmS⟩, hb6⟩
              clear Hcf
              rw [HofTA0.out, HofTA1.out] at hofS
              have hz6 : w5.heap.size ≤ w6.heap.size := by have := hb6.size; (try simp at this); omega
              have HB6 := Lib.hid (bT HB5.out hb6)
              clear HB5
              have HP06 := Lib.hid (Blk.belowAll HP05.out hb6)
              clear HP05
              have HP16 := Lib.hid (Blk.belowAll HP15.out hb6)
              clear HP15
              have HTA06 := Lib.hid (GateOwn.below HTA05.out hb6)
              clear HTA05
              have HTA16 := Lib.hid (DenyOwn.below HoTA1.out hb6)
              clear HoTA1
              clear hb6
              have HofS := Lib.hid hofS; clear hofS
              have HsmS := Lib.hid hsmS; clear hsmS
              have LTS := Lib.hid (fun k hk => (GateOwn.lt hownS k hk).1)
              have UPS := Lib.hid (fun k hk => (GateOwn.lt hownS k hk).2)
              have HoS := Lib.hid hownS; clear hownS
              go_simp
              refine hK.out _ _ (by exact ⟨gateCells (t := 47) (v := a0) HP06.out, denyCells (t := 33) (v := a1) HP16.out⟩) (fun hS => ?_)
              clear hK K
              refine wpAnyH_ready (rs := [5]) (by kernel_rfl) (by simp) ?_
              refine AllReadyH.cons rfl (fun K hK => ?_) (AllReadyH.nil)
              go_simp
              generalize hW : World.alloc _ _ = w7
              have hbx7 : Blk w7 w6.heap.size 40 (GateR.cells (⟨0, 0, ⟨0, none, 0, []⟩, none, 0, []⟩ : GateR)) := by rw [← hW]; exact Blk.new' (by simp)
              have hb7 : Below w6.heap.size w6 w7 := by rw [← hW]; exact bA (Below.refl _ _) _
              have hy7 : w6.heap.size < w7.heap.size := by rw [← hW]; simp
              clear hW
              have hz7 : w6.heap.size ≤ w7.heap.size := by have := hb7.size; (try simp at this); omega
              have HB7 := Lib.hid (bT HB6.out hb7)
              clear HB6
              have HP07 := Lib.hid (Blk.belowAll HP06.out hb7)
              clear HP06
              have HP17 := Lib.hid (Blk.belowAll HP16.out hb7)
              clear HP16
              have HS7 := Lib.hid (GateOwn.below HoS.out hb7)
              clear HoS
              clear hb7
              have Hbx7 := Lib.hid hbx7; clear hbx7
              obtain ⟨cN7_0, cN7_1, cN7_2, cN7_3, cN7_4⟩ := gateCells (t := 40) (v := (⟨0, 0, ⟨0, none, 0, []⟩, none, 0, []⟩ : GateR)) Hbx7.out
              have fn7_0 := (Hbx7.out).free 0
              have fn7_1 := (Hbx7.out).free 1
              have fn7_2 := (Hbx7.out).free 2
              have fn7_3 := (Hbx7.out).free 3
              have fn7_4 := (Hbx7.out).free 4
              refine hK.out _ _ (by exact ⟨gateCells (t := 47) (v := a0) HP07.out, denyCells (t := 33) (v := a1) HP17.out⟩) (fun hS => ?_)
              clear hK K
              refine wpAnyH_ready (rs := [6]) (by kernel_rfl) (by simp) ?_
              refine AllReadyH.cons rfl (fun K hK => ?_) (AllReadyH.nil)
              go_simp
              generalize hW : World.setCell _ _ _ = w8
              have ht8 : Touch (fun i => i = w6.heap.size) w7 w8 := by rw [← hW]; exact (Touch.far (K := fun i => i = w6.heap.size) (Touch.far (K := fun i => i = w6.heap.size) (Touch.far (K := fun i => i = w6.heap.size) (Touch.far (K := fun i => i = w6.heap.size) (Touch.far (K := fun i => i = w6.heap.size) (Touch.refl _ _) (p := ⟨w6.heap.size, 0, none⟩) rfl _) (p := ⟨w6.heap.size, 1, none⟩) rfl _) (p := ⟨w6.heap.size, 2, none⟩) rfl _) (p := ⟨w6.heap.size, 3, none⟩) rfl _) (p := ⟨w6.heap.size, 4, none⟩) rfl _)
              have hbx8 : Blk w8 (w6.heap.size) 40 (GateR.cells uS) := by rw [← hW]; exact (Blk.put (Blk.put (Blk.put (Blk.put (Blk.put Hbx7.out 0 (.int .i64 uS.val)) 1 (.int .i64 uS.nxt)) 2 (.int .i64 uS.deny.ver)) 3 (.slice uS.deny.cardsA uS.deny.cards.length uS.deny.cardsc)) 4 (.slice uS.keptA uS.kept.length uS.keptc))
              clear hW
              clear cN7_0 cN7_1 cN7_2 cN7_3 cN7_4 fn7_0 fn7_1 fn7_2 fn7_3 fn7_4
              have hz8 : w7.heap.size ≤ w8.heap.size := by have := ht8.size; (try simp at this); omega
              have HB8 := Lib.hid (Touch.below HB7.out ht8 (fun i hi => by omega))
              clear HB7
              have HP08 := Lib.hid (Blk.touch HP07.out ht8 (show ¬ (w.heap.size = w6.heap.size) by omega))
              clear HP07
              have HP18 := Lib.hid (Blk.touch HP17.out ht8 (show ¬ (w.heap.size + 1 = w6.heap.size) by omega))
              clear HP17
              have HS8 := Lib.hid (GateOwn.touch HS7.out ht8 (fun i hi e0 => by have a1 := LTS.out _ hi; have a2 := UPS.out _ hi; omega))
              clear HS7
              clear ht8 Hbx7
              have Hbx8 := Lib.hid hbx8; clear hbx8
              refine hK.out _ _ (by exact ⟨gateCells (t := 47) (v := a0) HP08.out, denyCells (t := 33) (v := a1) HP18.out⟩) (fun hS => ?_)
              clear hK K
              refine wpAnyH_done (by kernel_rfl) ?_ _
              clear hS
              go_wp2_with fail
              go_meet
              exact ⟨_, uS, rfl, by omega, Blk.lt Hbx8.out, Hbx8.out, HofS, GateOwn.base HS8.out (by omega), HsmS.out, by omega, HB8.out, HP08.out, HP18.out⟩
            · go_simp
              generalize hW : World.alloc _ _ = w6
              have hbx6 : Blk w6 w5.heap.size 40 (GateR.cells (⟨0, 0, ⟨0, none, 0, []⟩, none, 0, []⟩ : GateR)) := by rw [← hW]; exact Blk.new' (by simp)
              have hb6 : Below w5.heap.size w5 w6 := by rw [← hW]; exact bA (Below.refl _ _) _
              have hy6 : w5.heap.size < w6.heap.size := by rw [← hW]; simp
              clear hW
              have hz6 : w5.heap.size ≤ w6.heap.size := by have := hb6.size; (try simp at this); omega
              have HB6 := Lib.hid (bT HB5.out hb6)
              clear HB5
              have HP06 := Lib.hid (Blk.belowAll HP05.out hb6)
              clear HP05
              have HP16 := Lib.hid (Blk.belowAll HP15.out hb6)
              clear HP15
              have HTA06 := Lib.hid (GateOwn.below HTA05.out hb6)
              clear HTA05
              have HTA16 := Lib.hid (DenyOwn.below HoTA1.out hb6)
              clear HoTA1
              clear hb6
              have Hbx6 := Lib.hid hbx6; clear hbx6
              obtain ⟨cN6_0, cN6_1, cN6_2, cN6_3, cN6_4⟩ := gateCells (t := 40) (v := (⟨0, 0, ⟨0, none, 0, []⟩, none, 0, []⟩ : GateR)) Hbx6.out
              have fn6_0 := (Hbx6.out).free 0
              have fn6_1 := (Hbx6.out).free 1
              have fn6_2 := (Hbx6.out).free 2
              have fn6_3 := (Hbx6.out).free 3
              have fn6_4 := (Hbx6.out).free 4
              refine hK.out _ _ (by exact ⟨gateCells (t := 47) (v := a0) HP06.out, denyCells (t := 33) (v := a1) HP16.out⟩) (fun hS => ?_)
              clear hK K
              refine wpAnyH_ready (rs := [4]) (by kernel_rfl) (by simp) ?_
              refine AllReadyH.cons rfl (fun K hK => ?_) (AllReadyH.nil)
              go_simp
              go_wp2_with fail
              have hcf := specTakeDeny_any uTA0 uTA1 w6 (GateOwn.in_ HTA06.out) HsmTA0.out (DenyOwn.in_ HTA16.out) HsmTA1.out
              (try unfold denyV gateV at hcf)
              have Hcf := Lib.hid hcf; clear hcf
              refine (Hcf.out).mono ?_
              rintro e w7 ⟨⟨uS, rfl, hofS, hownS, hsmS⟩, hb7⟩
              clear Hcf
              rw [HofTA0.out, HofTA1.out] at hofS
              clear cN6_0 cN6_1 cN6_2 cN6_3 cN6_4 fn6_0 fn6_1 fn6_2 fn6_3 fn6_4
              have hz7 : w6.heap.size ≤ w7.heap.size := by have := hb7.size; (try simp at this); omega
              have HB7 := Lib.hid (bT HB6.out hb7)
              clear HB6
              have HP07 := Lib.hid (Blk.belowAll HP06.out hb7)
              clear HP06
              have HP17 := Lib.hid (Blk.belowAll HP16.out hb7)
              clear HP16
              have HTA07 := Lib.hid (GateOwn.below HTA06.out hb7)
              clear HTA06
              have HTA17 := Lib.hid (DenyOwn.below HTA16.out hb7)
              clear HTA16
              have HN7 := Lib.hid (Blk.belowAll Hbx6.out hb7)
              clear Hbx6
              clear hb7
              have HofS := Lib.hid hofS; clear hofS
              have HsmS := Lib.hid hsmS; clear hsmS
              have LTS := Lib.hid (fun k hk => (GateOwn.lt hownS k hk).1)
              have UPS := Lib.hid (fun k hk => (GateOwn.lt hownS k hk).2)
              have HoS := Lib.hid hownS; clear hownS
              obtain ⟨cN7_0, cN7_1, cN7_2, cN7_3, cN7_4⟩ := gateCells (t := 40) (v := (⟨0, 0, ⟨0, none, 0, []⟩, none, 0, []⟩ : GateR)) HN7.out
              have fn7_0 := (HN7.out).free 0
              have fn7_1 := (HN7.out).free 1
              have fn7_2 := (HN7.out).free 2
              have fn7_3 := (HN7.out).free 3
              have fn7_4 := (HN7.out).free 4
              go_simp
              refine hK.out _ _ (by exact ⟨gateCells (t := 47) (v := a0) HP07.out, denyCells (t := 33) (v := a1) HP17.out⟩) (fun hS => ?_)
              clear hK K
              refine wpAnyH_ready (rs := [6]) (by kernel_rfl) (by simp) ?_
              refine AllReadyH.cons rfl (fun K hK => ?_) (AllReadyH.nil)
              go_simp
              generalize hW : World.setCell _ _ _ = w8
              have ht8 : Touch (fun i => i = w5.heap.size) w7 w8 := by rw [← hW]; exact (Touch.far (K := fun i => i = w5.heap.size) (Touch.far (K := fun i => i = w5.heap.size) (Touch.far (K := fun i => i = w5.heap.size) (Touch.far (K := fun i => i = w5.heap.size) (Touch.far (K := fun i => i = w5.heap.size) (Touch.refl _ _) (p := ⟨w5.heap.size, 0, none⟩) rfl _) (p := ⟨w5.heap.size, 1, none⟩) rfl _) (p := ⟨w5.heap.size, 2, none⟩) rfl _) (p := ⟨w5.heap.size, 3, none⟩) rfl _) (p := ⟨w5.heap.size, 4, none⟩) rfl _)
              have hbx8 : Blk w8 (w5.heap.size) 40 (GateR.cells uS) := by rw [← hW]; exact (Blk.put (Blk.put (Blk.put (Blk.put (Blk.put HN7.out 0 (.int .i64 uS.val)) 1 (.int .i64 uS.nxt)) 2 (.int .i64 uS.deny.ver)) 3 (.slice uS.deny.cardsA uS.deny.cards.length uS.deny.cardsc)) 4 (.slice uS.keptA uS.kept.length uS.keptc))
              clear hW
              clear cN7_0 cN7_1 cN7_2 cN7_3 cN7_4 fn7_0 fn7_1 fn7_2 fn7_3 fn7_4
              have hz8 : w7.heap.size ≤ w8.heap.size := by have := ht8.size; (try simp at this); omega
              have HB8 := Lib.hid (Touch.below HB7.out ht8 (fun i hi => by omega))
              clear HB7
              have HP08 := Lib.hid (Blk.touch HP07.out ht8 (show ¬ (w.heap.size = w5.heap.size) by omega))
              clear HP07
              have HP18 := Lib.hid (Blk.touch HP17.out ht8 (show ¬ (w.heap.size + 1 = w5.heap.size) by omega))
              clear HP17
              have HS8 := Lib.hid (GateOwn.touch HoS.out ht8 (fun i hi e0 => by have a1 := LTS.out _ hi; have a2 := UPS.out _ hi; omega))
              clear HoS
              clear ht8 HN7
              have Hbx8 := Lib.hid hbx8; clear hbx8
              refine hK.out _ _ (by exact ⟨gateCells (t := 47) (v := a0) HP08.out, denyCells (t := 33) (v := a1) HP18.out⟩) (fun hS => ?_)
              clear hK K
              refine wpAnyH_done (by kernel_rfl) ?_ _
              clear hS
              go_wp2_with fail
              go_meet
              exact ⟨_, uS, rfl, by omega, Blk.lt Hbx8.out, Hbx8.out, HofS, GateOwn.base HS8.out (by omega), HsmS.out, by omega, HB8.out, HP08.out, HP18.out⟩
          · go_simp
            generalize hW : World.alloc _ _ = w5
            have hbx5 : Blk w5 w4.heap.size 40 (GateR.cells (⟨0, 0, ⟨0, none, 0, []⟩, none, 0, []⟩ : GateR)) := by rw [← hW]; exact Blk.new' (by simp)
            have hb5 : Below w4.heap.size w4 w5 := by rw [← hW]; exact bA (Below.refl _ _) _
            have hy5 : w4.heap.size < w5.heap.size := by rw [← hW]; simp
            clear hW
            have hz5 : w4.heap.size ≤ w5.heap.size := by have := hb5.size; (try simp at this); omega
            have HB5 := Lib.hid (bT HB4.out hb5)
            clear HB4
            have HP05 := Lib.hid (Blk.belowAll HP04.out hb5)
            clear HP04
            have HP15 := Lib.hid (Blk.belowAll HP14.out hb5)
            clear HP14
            have HTA05 := Lib.hid (GateOwn.below HoTA0.out hb5)
            clear HoTA0
            clear hb5
            have Hbx5 := Lib.hid hbx5; clear hbx5
            obtain ⟨cN5_0, cN5_1, cN5_2, cN5_3, cN5_4⟩ := gateCells (t := 40) (v := (⟨0, 0, ⟨0, none, 0, []⟩, none, 0, []⟩ : GateR)) Hbx5.out
            have fn5_0 := (Hbx5.out).free 0
            have fn5_1 := (Hbx5.out).free 1
            have fn5_2 := (Hbx5.out).free 2
            have fn5_3 := (Hbx5.out).free 3
            have fn5_4 := (Hbx5.out).free 4
            refine hK.out _ _ (by exact ⟨gateCells (t := 47) (v := a0) HP05.out, denyCells (t := 33) (v := a1) HP15.out⟩) (fun hS => ?_)
            clear hK K
            refine wpAnyH_ready (rs := [3]) (by kernel_rfl) (by simp) ?_
            refine AllReadyH.cons rfl (fun K hK => ?_) (AllReadyH.nil)
            go_simp
            go_wp2_with fail
            refine (toDeny_any a1 _ (Hi1.out.over HB5.out) Hs1.out).mono ?_
            rintro e w6 ⟨⟨uTA1, rfl, hofTA1, hownTA1, hsmTA1⟩, hb6⟩
            clear cN5_0 cN5_1 cN5_2 cN5_3 cN5_4 fn5_0 fn5_1 fn5_2 fn5_3 fn5_4
            have hz6 : w5.heap.size ≤ w6.heap.size := by have := hb6.size; (try simp at this); omega
            have HB6 := Lib.hid (bT HB5.out hb6)
            clear HB5
            have HP06 := Lib.hid (Blk.belowAll HP05.out hb6)
            clear HP05
            have HP16 := Lib.hid (Blk.belowAll HP15.out hb6)
            clear HP15
            have HTA06 := Lib.hid (GateOwn.below HTA05.out hb6)
            clear HTA05
            have HN6 := Lib.hid (Blk.belowAll Hbx5.out hb6)
            clear Hbx5
            clear hb6
            have HofTA1 := Lib.hid hofTA1; clear hofTA1
            have HsmTA1 := Lib.hid hsmTA1; clear hsmTA1
            have LTTA1 := Lib.hid (fun k hk => (DenyOwn.lt hownTA1 k hk).1)
            have UPTA1 := Lib.hid (fun k hk => (DenyOwn.lt hownTA1 k hk).2)
            have HoTA1 := Lib.hid hownTA1; clear hownTA1
            (try unfold denyV)
            obtain ⟨cN6_0, cN6_1, cN6_2, cN6_3, cN6_4⟩ := gateCells (t := 40) (v := (⟨0, 0, ⟨0, none, 0, []⟩, none, 0, []⟩ : GateR)) HN6.out
            have fn6_0 := (HN6.out).free 0
            have fn6_1 := (HN6.out).free 1
            have fn6_2 := (HN6.out).free 2
            have fn6_3 := (HN6.out).free 3
            have fn6_4 := (HN6.out).free 4
            go_simp
            refine hK.out _ _ (by exact ⟨gateCells (t := 47) (v := a0) HP06.out, denyCells (t := 33) (v := a1) HP16.out⟩) (fun hS => ?_)
            clear hK K
            refine wpAnyH_ready (rs := [4]) (by kernel_rfl) (by simp) ?_
            refine AllReadyH.cons rfl (fun K hK => ?_) (AllReadyH.nil)
            go_simp
            go_wp2_with fail
            have hcf := specTakeDeny_any uTA0 uTA1 w6 (GateOwn.in_ HTA06.out) HsmTA0.out (DenyOwn.in_ HoTA1.out) HsmTA1.out
            (try unfold denyV gateV at hcf)
            have Hcf := Lib.hid hcf; clear hcf
            refine (Hcf.out).mono ?_
            rintro e w7 ⟨⟨uS, rfl, hofS, hownS, hsmS⟩, hb7⟩
            clear Hcf
            rw [HofTA0.out, HofTA1.out] at hofS
            clear cN6_0 cN6_1 cN6_2 cN6_3 cN6_4 fn6_0 fn6_1 fn6_2 fn6_3 fn6_4
            have hz7 : w6.heap.size ≤ w7.heap.size := by have := hb7.size; (try simp at this); omega
            have HB7 := Lib.hid (bT HB6.out hb7)
            clear HB6
            have HP07 := Lib.hid (Blk.belowAll HP06.out hb7)
            clear HP06
            have HP17 := Lib.hid (Blk.belowAll HP16.out hb7)
            clear HP16
            have HTA07 := Lib.hid (GateOwn.below HTA06.out hb7)
            clear HTA06
            have HN7 := Lib.hid (Blk.belowAll HN6.out hb7)
            clear HN6
            have HTA17 := Lib.hid (DenyOwn.below HoTA1.out hb7)
            clear HoTA1
            clear hb7
            have HofS := Lib.hid hofS; clear hofS
            have HsmS := Lib.hid hsmS; clear hsmS
            have LTS := Lib.hid (fun k hk => (GateOwn.lt hownS k hk).1)
            have UPS := Lib.hid (fun k hk => (GateOwn.lt hownS k hk).2)
            have HoS := Lib.hid hownS; clear hownS
            obtain ⟨cN7_0, cN7_1, cN7_2, cN7_3, cN7_4⟩ := gateCells (t := 40) (v := (⟨0, 0, ⟨0, none, 0, []⟩, none, 0, []⟩ : GateR)) HN7.out
            have fn7_0 := (HN7.out).free 0
            have fn7_1 := (HN7.out).free 1
            have fn7_2 := (HN7.out).free 2
            have fn7_3 := (HN7.out).free 3
            have fn7_4 := (HN7.out).free 4
            go_simp
            refine hK.out _ _ (by exact ⟨gateCells (t := 47) (v := a0) HP07.out, denyCells (t := 33) (v := a1) HP17.out⟩) (fun hS => ?_)
            clear hK K
            refine wpAnyH_ready (rs := [6]) (by kernel_rfl) (by simp) ?_
            refine AllReadyH.cons rfl (fun K hK => ?_) (AllReadyH.nil)
            go_simp
            generalize hW : World.setCell _ _ _ = w8
            have ht8 : Touch (fun i => i = w4.heap.size) w7 w8 := by rw [← hW]; exact (Touch.far (K := fun i => i = w4.heap.size) (Touch.far (K := fun i => i = w4.heap.size) (Touch.far (K := fun i => i = w4.heap.size) (Touch.far (K := fun i => i = w4.heap.size) (Touch.far (K := fun i => i = w4.heap.size) (Touch.refl _ _) (p := ⟨w4.heap.size, 0, none⟩) rfl _) (p := ⟨w4.heap.size, 1, none⟩) rfl _) (p := ⟨w4.heap.size, 2, none⟩) rfl _) (p := ⟨w4.heap.size, 3, none⟩) rfl _) (p := ⟨w4.heap.size, 4, none⟩) rfl _)
            have hbx8 : Blk w8 (w4.heap.size) 40 (GateR.cells uS) := by rw [← hW]; exact (Blk.put (Blk.put (Blk.put (Blk.put (Blk.put HN7.out 0 (.int .i64 uS.val)) 1 (.int .i64 uS.nxt)) 2 (.int .i64 uS.deny.ver)) 3 (.slice uS.deny.cardsA uS.deny.cards.length uS.deny.cardsc)) 4 (.slice uS.keptA uS.kept.length uS.keptc))
            clear hW
            clear cN7_0 cN7_1 cN7_2 cN7_3 cN7_4 fn7_0 fn7_1 fn7_2 fn7_3 fn7_4
            have hz8 : w7.heap.size ≤ w8.heap.size := by have := ht8.size; (try simp at this); omega
            have HB8 := Lib.hid (Touch.below HB7.out ht8 (fun i hi => by omega))
            clear HB7
            have HP08 := Lib.hid (Blk.touch HP07.out ht8 (show ¬ (w.heap.size = w4.heap.size) by omega))
            clear HP07
            have HP18 := Lib.hid (Blk.touch HP17.out ht8 (show ¬ (w.heap.size + 1 = w4.heap.size) by omega))
            clear HP17
            have HS8 := Lib.hid (GateOwn.touch HoS.out ht8 (fun i hi e0 => by have a1 := LTS.out _ hi; have a2 := UPS.out _ hi; omega))
            clear HoS
            clear ht8 HN7
            have Hbx8 := Lib.hid hbx8; clear hbx8
            refine hK.out _ _ (by exact ⟨gateCells (t := 47) (v := a0) HP08.out, denyCells (t := 33) (v := a1) HP18.out⟩) (fun hS => ?_)
            clear hK K
            refine wpAnyH_done (by kernel_rfl) ?_ _
            clear hS
            go_wp2_with fail
            go_meet
            exact ⟨_, uS, rfl, by omega, Blk.lt Hbx8.out, Hbx8.out, HofS, GateOwn.base HS8.out (by omega), HsmS.out, by omega, HB8.out, HP08.out, HP18.out⟩
        · go_simp
          generalize hW : World.alloc _ _ = w4
          have hbx4 : Blk w4 w3.heap.size 40 (GateR.cells (⟨0, 0, ⟨0, none, 0, []⟩, none, 0, []⟩ : GateR)) := by rw [← hW]; exact Blk.new' (by simp)
          have hb4 : Below w3.heap.size w3 w4 := by rw [← hW]; exact bA (Below.refl _ _) _
          have hy4 : w3.heap.size < w4.heap.size := by rw [← hW]; simp
          clear hW
          have hz4 : w3.heap.size ≤ w4.heap.size := by have := hb4.size; (try simp at this); omega
          have HB4 := Lib.hid (bT HB3.out hb4)
          clear HB3
          have HP04 := Lib.hid (Blk.belowAll HP03.out hb4)
          clear HP03
          have HP14 := Lib.hid (Blk.belowAll HP13.out hb4)
          clear HP13
          clear hb4
          have Hbx4 := Lib.hid hbx4; clear hbx4
          obtain ⟨cN4_0, cN4_1, cN4_2, cN4_3, cN4_4⟩ := gateCells (t := 40) (v := (⟨0, 0, ⟨0, none, 0, []⟩, none, 0, []⟩ : GateR)) (blkDrew Hbx4.out)
          have fn4_0 := ((blkDrew Hbx4.out)).free 0
          have fn4_1 := ((blkDrew Hbx4.out)).free 1
          have fn4_2 := ((blkDrew Hbx4.out)).free 2
          have fn4_3 := ((blkDrew Hbx4.out)).free 3
          have fn4_4 := ((blkDrew Hbx4.out)).free 4
          refine hK.out _ _ (by exact ⟨gateCells (t := 47) (v := a0) (blkDrew HP04.out), denyCells (t := 33) (v := a1) (blkDrew HP14.out)⟩) (fun hS => ?_)
          clear hK K
          refine wpAnyH_ready (rs := [1]) (by kernel_rfl) (by simp) ?_
          refine AllReadyH.cons rfl (fun K hK => ?_) (AllReadyH.nil)
          go_simp
          go_wp2_with fail
          refine (toGate_any a0 _ (Hi0.out.over (bD1 HB4.out)) Hs0.out).mono ?_
          rintro e w5 ⟨⟨uTA0, rfl, hofTA0, hownTA0, hsmTA0⟩, hb5⟩
          clear cN4_0 cN4_1 cN4_2 cN4_3 cN4_4 fn4_0 fn4_1 fn4_2 fn4_3 fn4_4
          have hz5 : w4.heap.size ≤ w5.heap.size := by have := hb5.size; (try simp at this); omega
          have HB5 := Lib.hid (bT (bD1 HB4.out) hb5)
          clear HB4
          have HP05 := Lib.hid (Blk.belowAll (blkDrew HP04.out) hb5)
          clear HP04
          have HP15 := Lib.hid (Blk.belowAll (blkDrew HP14.out) hb5)
          clear HP14
          have HN5 := Lib.hid (Blk.belowAll (blkDrew Hbx4.out) hb5)
          clear Hbx4
          clear hb5
          have HofTA0 := Lib.hid hofTA0; clear hofTA0
          have HsmTA0 := Lib.hid hsmTA0; clear hsmTA0
          have LTTA0 := Lib.hid (fun k hk => (GateOwn.lt hownTA0 k hk).1)
          have UPTA0 := Lib.hid (fun k hk => (GateOwn.lt hownTA0 k hk).2)
          have HoTA0 := Lib.hid hownTA0; clear hownTA0
          (try unfold gateV)
          obtain ⟨cN5_0, cN5_1, cN5_2, cN5_3, cN5_4⟩ := gateCells (t := 40) (v := (⟨0, 0, ⟨0, none, 0, []⟩, none, 0, []⟩ : GateR)) HN5.out
          have fn5_0 := (HN5.out).free 0
          have fn5_1 := (HN5.out).free 1
          have fn5_2 := (HN5.out).free 2
          have fn5_3 := (HN5.out).free 3
          have fn5_4 := (HN5.out).free 4
          go_simp
          refine hK.out _ _ (by exact ⟨gateCells (t := 47) (v := a0) HP05.out, denyCells (t := 33) (v := a1) HP15.out⟩) (fun hS => ?_)
          clear hK K
          refine wpAnyH_ready (rs := [3]) (by kernel_rfl) (by simp) ?_
          refine AllReadyH.cons rfl (fun K hK => ?_) (AllReadyH.nil)
          go_simp
          go_wp2_with fail
          refine (toDeny_any a1 _ (Hi1.out.over HB5.out) Hs1.out).mono ?_
          rintro e w6 ⟨⟨uTA1, rfl, hofTA1, hownTA1, hsmTA1⟩, hb6⟩
          clear cN5_0 cN5_1 cN5_2 cN5_3 cN5_4 fn5_0 fn5_1 fn5_2 fn5_3 fn5_4
          have hz6 : w5.heap.size ≤ w6.heap.size := by have := hb6.size; (try simp at this); omega
          have HB6 := Lib.hid (bT HB5.out hb6)
          clear HB5
          have HP06 := Lib.hid (Blk.belowAll HP05.out hb6)
          clear HP05
          have HP16 := Lib.hid (Blk.belowAll HP15.out hb6)
          clear HP15
          have HN6 := Lib.hid (Blk.belowAll HN5.out hb6)
          clear HN5
          have HTA06 := Lib.hid (GateOwn.below HoTA0.out hb6)
          clear HoTA0
          clear hb6
          have HofTA1 := Lib.hid hofTA1; clear hofTA1
          have HsmTA1 := Lib.hid hsmTA1; clear hsmTA1
          have LTTA1 := Lib.hid (fun k hk => (DenyOwn.lt hownTA1 k hk).1)
          have UPTA1 := Lib.hid (fun k hk => (DenyOwn.lt hownTA1 k hk).2)
          have HoTA1 := Lib.hid hownTA1; clear hownTA1
          (try unfold denyV)
          obtain ⟨cN6_0, cN6_1, cN6_2, cN6_3, cN6_4⟩ := gateCells (t := 40) (v := (⟨0, 0, ⟨0, none, 0, []⟩, none, 0, []⟩ : GateR)) HN6.out
          have fn6_0 := (HN6.out).free 0
          have fn6_1 := (HN6.out).free 1
          have fn6_2 := (HN6.out).free 2
          have fn6_3 := (HN6.out).free 3
          have fn6_4 := (HN6.out).free 4
          go_simp
          refine hK.out _ _ (by exact ⟨gateCells (t := 47) (v := a0) HP06.out, denyCells (t := 33) (v := a1) HP16.out⟩) (fun hS => ?_)
          clear hK K
          refine wpAnyH_ready (rs := [4]) (by kernel_rfl) (by simp) ?_
          refine AllReadyH.cons rfl (fun K hK => ?_) (AllReadyH.nil)
          go_simp
          go_wp2_with fail
          have hcf := specTakeDeny_any uTA0 uTA1 w6 (GateOwn.in_ HTA06.out) HsmTA0.out (DenyOwn.in_ HoTA1.out) HsmTA1.out
          (try unfold denyV gateV at hcf)
          have Hcf := Lib.hid hcf; clear hcf
          refine (Hcf.out).mono ?_
          rintro e w7 ⟨⟨uS, rfl, hofS, hownS, hsmS⟩, hb7⟩
          clear Hcf
          rw [HofTA0.out, HofTA1.out] at hofS
          clear cN6_0 cN6_1 cN6_2 cN6_3 cN6_4 fn6_0 fn6_1 fn6_2 fn6_3 fn6_4
          have hz7 : w6.heap.size ≤ w7.heap.size := by have := hb7.size; (try simp at this); omega
          have HB7 := Lib.hid (bT HB6.out hb7)
          clear HB6
          have HP07 := Lib.hid (Blk.belowAll HP06.out hb7)
          clear HP06
          have HP17 := Lib.hid (Blk.belowAll HP16.out hb7)
          clear HP16
          have HN7 := Lib.hid (Blk.belowAll HN6.out hb7)
          clear HN6
          have HTA07 := Lib.hid (GateOwn.below HTA06.out hb7)
          clear HTA06
          have HTA17 := Lib.hid (DenyOwn.below HoTA1.out hb7)
          clear HoTA1
          clear hb7
          have HofS := Lib.hid hofS; clear hofS
          have HsmS := Lib.hid hsmS; clear hsmS
          have LTS := Lib.hid (fun k hk => (GateOwn.lt hownS k hk).1)
          have UPS := Lib.hid (fun k hk => (GateOwn.lt hownS k hk).2)
          have HoS := Lib.hid hownS; clear hownS
          obtain ⟨cN7_0, cN7_1, cN7_2, cN7_3, cN7_4⟩ := gateCells (t := 40) (v := (⟨0, 0, ⟨0, none, 0, []⟩, none, 0, []⟩ : GateR)) HN7.out
          have fn7_0 := (HN7.out).free 0
          have fn7_1 := (HN7.out).free 1
          have fn7_2 := (HN7.out).free 2
          have fn7_3 := (HN7.out).free 3
          have fn7_4 := (HN7.out).free 4
          go_simp
          refine hK.out _ _ (by exact ⟨gateCells (t := 47) (v := a0) HP07.out, denyCells (t := 33) (v := a1) HP17.out⟩) (fun hS => ?_)
          clear hK K
          refine wpAnyH_ready (rs := [6]) (by kernel_rfl) (by simp) ?_
          refine AllReadyH.cons rfl (fun K hK => ?_) (AllReadyH.nil)
          go_simp
          generalize hW : World.setCell _ _ _ = w8
          have ht8 : Touch (fun i => i = w3.heap.size) w7 w8 := by rw [← hW]; exact (Touch.far (K := fun i => i = w3.heap.size) (Touch.far (K := fun i => i = w3.heap.size) (Touch.far (K := fun i => i = w3.heap.size) (Touch.far (K := fun i => i = w3.heap.size) (Touch.far (K := fun i => i = w3.heap.size) (Touch.refl _ _) (p := ⟨w3.heap.size, 0, none⟩) rfl _) (p := ⟨w3.heap.size, 1, none⟩) rfl _) (p := ⟨w3.heap.size, 2, none⟩) rfl _) (p := ⟨w3.heap.size, 3, none⟩) rfl _) (p := ⟨w3.heap.size, 4, none⟩) rfl _)
          have hbx8 : Blk w8 (w3.heap.size) 40 (GateR.cells uS) := by rw [← hW]; exact (Blk.put (Blk.put (Blk.put (Blk.put (Blk.put HN7.out 0 (.int .i64 uS.val)) 1 (.int .i64 uS.nxt)) 2 (.int .i64 uS.deny.ver)) 3 (.slice uS.deny.cardsA uS.deny.cards.length uS.deny.cardsc)) 4 (.slice uS.keptA uS.kept.length uS.keptc))
          clear hW
          clear cN7_0 cN7_1 cN7_2 cN7_3 cN7_4 fn7_0 fn7_1 fn7_2 fn7_3 fn7_4
          have hz8 : w7.heap.size ≤ w8.heap.size := by have := ht8.size; (try simp at this); omega
          have HB8 := Lib.hid (Touch.below HB7.out ht8 (fun i hi => by omega))
          clear HB7
          have HP08 := Lib.hid (Blk.touch HP07.out ht8 (show ¬ (w.heap.size = w3.heap.size) by omega))
          clear HP07
          have HP18 := Lib.hid (Blk.touch HP17.out ht8 (show ¬ (w.heap.size + 1 = w3.heap.size) by omega))
          clear HP17
          have HS8 := Lib.hid (GateOwn.touch HoS.out ht8 (fun i hi e0 => by have a1 := LTS.out _ hi; have a2 := UPS.out _ hi; omega))
          clear HoS
          clear ht8 HN7
          have Hbx8 := Lib.hid hbx8; clear hbx8
          refine hK.out _ _ (by exact ⟨gateCells (t := 47) (v := a0) HP08.out, denyCells (t := 33) (v := a1) HP18.out⟩) (fun hS => ?_)
          clear hK K
          refine wpAnyH_done (by kernel_rfl) ?_ _
          clear hS
          go_wp2_with fail
          go_meet
          exact ⟨_, uS, rfl, by omega, Blk.lt Hbx8.out, Hbx8.out, HofS, GateOwn.base HS8.out (by omega), HsmS.out, by omega, HB8.out, HP08.out, HP18.out⟩
      case rest =>
        obtain ⟨bS, uS, rfl, hb0S, hb1S, hbxS, HofS, hownS, hsmS, hzcS, hkS0, hkS1, hkS2⟩ := hcut
        obtain ⟨w43, hwc⟩ : ∃ x, x = wc := ⟨_, rfl⟩
        subst hwc
        have hz43 := hzcS
        have HbxS := Lib.hid hbxS; clear hbxS
        have HsmS := Lib.hid hsmS; clear hsmS
        have HkS0 := Lib.hid hkS0; clear hkS0
        have HkS1 := Lib.hid hkS1; clear hkS1
        have HkS2 := Lib.hid hkS2; clear hkS2
        have LTS := Lib.hid (fun k hk => (GateOwn.lt hownS k hk).1)
        have UPS := Lib.hid (fun k hk => (GateOwn.lt hownS k hk).2)
        have HoS := Lib.hid hownS; clear hownS
        obtain ⟨cP043_0, cP043_1, cP043_2, cP043_3, cP043_4⟩ := gateCells (t := 47) (v := a0) HkS1.out
        go_wp2_with fail
        refine (toGate_any a0 _ (Hi0.out.over HkS0.out) Hs0.out).mono ?_
        rintro e w44 ⟨⟨uX0, rfl, hofX0, hownX0, hsmX0⟩, hb44⟩
        clear cP043_0 cP043_1 cP043_2 cP043_3 cP043_4
        have hz44 : w43.heap.size ≤ w44.heap.size := by have := hb44.size; (try simp at this); omega
        have HB44 := Lib.hid (bT HkS0.out hb44)
        clear HkS0
        have HP044 := Lib.hid (Blk.belowAll HkS1.out hb44)
        clear HkS1
        have HP144 := Lib.hid (Blk.belowAll HkS2.out hb44)
        clear HkS2
        have HbS44 := Lib.hid (Blk.belowAll HbxS.out hb44)
        clear HbxS
        have HS44 := Lib.hid (GateOwn.below HoS.out hb44)
        clear HoS
        clear hb44
        have HofX0 := Lib.hid hofX0; clear hofX0
        have HsmX0 := Lib.hid hsmX0; clear hsmX0
        have LTX0 := Lib.hid (fun k hk => (GateOwn.lt hownX0 k hk).1)
        have UPX0 := Lib.hid (fun k hk => (GateOwn.lt hownX0 k hk).2)
        have HoX0 := Lib.hid hownX0; clear hownX0
        (try unfold gateV)
        have pfP144_0 : (w44.alloc (.cells #[.int .i64 uX0.val, .int .i64 uX0.nxt, .int .i64 uX0.deny.ver, .slice uX0.deny.cardsA uX0.deny.cards.length uX0.deny.cardsc, .slice uX0.keptA uX0.kept.length uX0.keptc] 40)).cell? ⟨w.heap.size + 1, 0, none⟩ = some (.int .i64 a1.ver) := ((Blk.alloc HP144.out _)).cell 0
        have pfP144_1 : (w44.alloc (.cells #[.int .i64 uX0.val, .int .i64 uX0.nxt, .int .i64 uX0.deny.ver, .slice uX0.deny.cardsA uX0.deny.cards.length uX0.deny.cardsc, .slice uX0.keptA uX0.kept.length uX0.keptc] 40)).cell? ⟨w.heap.size + 1, 1, none⟩ = some (.slice a1.cardsA a1.cards.length a1.cardsc) := ((Blk.alloc HP144.out _)).cell 1
        go_wp2_with fail
        generalize hW : World.alloc _ _ = w45
        have hbx45 : Blk w45 w44.heap.size 40 (GateR.cells uX0) := by rw [← hW]; exact Blk.new w44 _ _
        have hb45 : Below w44.heap.size w44 w45 := by rw [← hW]; exact bA (Below.refl _ _) _
        have hy45 : w44.heap.size < w45.heap.size := by rw [← hW]; simp
        clear hW
        clear pfP144_0 pfP144_1
        have hz45 : w44.heap.size ≤ w45.heap.size := by have := hb45.size; (try simp at this); omega
        have HB45 := Lib.hid (bT HB44.out hb45)
        clear HB44
        have HP045 := Lib.hid (Blk.belowAll HP044.out hb45)
        clear HP044
        have HP145 := Lib.hid (Blk.belowAll HP144.out hb45)
        clear HP144
        have HbS45 := Lib.hid (Blk.belowAll HbS44.out hb45)
        clear HbS44
        have HS45 := Lib.hid (GateOwn.below HS44.out hb45)
        clear HS44
        have HX045 := Lib.hid (GateOwn.below HoX0.out hb45)
        clear HoX0
        clear hb45
        have Hbx45 := Lib.hid hbx45; clear hbx45
        refine (toDeny_any a1 _ (Hi1.out.over HB45.out) Hs1.out).mono ?_
        rintro e w46 ⟨⟨uX1, rfl, hofX1, hownX1, hsmX1⟩, hb46⟩
        have hz46 : w45.heap.size ≤ w46.heap.size := by have := hb46.size; (try simp at this); omega
        have HB46 := Lib.hid (bT HB45.out hb46)
        clear HB45
        have HP046 := Lib.hid (Blk.belowAll HP045.out hb46)
        clear HP045
        have HP146 := Lib.hid (Blk.belowAll HP145.out hb46)
        clear HP145
        have HbS46 := Lib.hid (Blk.belowAll HbS45.out hb46)
        clear HbS45
        have HS46 := Lib.hid (GateOwn.below HS45.out hb46)
        clear HS45
        have HX046 := Lib.hid (GateOwn.below HX045.out hb46)
        clear HX045
        have HbX046 := Lib.hid (Blk.belowAll Hbx45.out hb46)
        clear Hbx45
        clear hb46
        have HofX1 := Lib.hid hofX1; clear hofX1
        have HsmX1 := Lib.hid hsmX1; clear hsmX1
        have LTX1 := Lib.hid (fun k hk => (DenyOwn.lt hownX1 k hk).1)
        have UPX1 := Lib.hid (fun k hk => (DenyOwn.lt hownX1 k hk).2)
        have HoX1 := Lib.hid hownX1; clear hownX1
        (try unfold denyV)
        have pfbX046_0 : (w46.alloc (.cells #[.int .i64 uX1.ver, .slice uX1.cardsA uX1.cards.length uX1.cardsc] 30)).cell? ⟨w44.heap.size, 0, none⟩ = some (.int .i64 uX0.val) := ((Blk.alloc HbX046.out _)).cell 0
        have pfbX046_1 : (w46.alloc (.cells #[.int .i64 uX1.ver, .slice uX1.cardsA uX1.cards.length uX1.cardsc] 30)).cell? ⟨w44.heap.size, 1, none⟩ = some (.int .i64 uX0.nxt) := ((Blk.alloc HbX046.out _)).cell 1
        have pfbX046_2 : (w46.alloc (.cells #[.int .i64 uX1.ver, .slice uX1.cardsA uX1.cards.length uX1.cardsc] 30)).cell? ⟨w44.heap.size, 2, none⟩ = some (.int .i64 uX0.deny.ver) := ((Blk.alloc HbX046.out _)).cell 2
        have pfbX046_3 : (w46.alloc (.cells #[.int .i64 uX1.ver, .slice uX1.cardsA uX1.cards.length uX1.cardsc] 30)).cell? ⟨w44.heap.size, 3, none⟩ = some (.slice uX0.deny.cardsA uX0.deny.cards.length uX0.deny.cardsc) := ((Blk.alloc HbX046.out _)).cell 3
        have pfbX046_4 : (w46.alloc (.cells #[.int .i64 uX1.ver, .slice uX1.cardsA uX1.cards.length uX1.cardsc] 30)).cell? ⟨w44.heap.size, 4, none⟩ = some (.slice uX0.keptA uX0.kept.length uX0.keptc) := ((Blk.alloc HbX046.out _)).cell 4
        go_wp2_with fail
        generalize hW : World.alloc _ _ = w47
        have hbx47 : Blk w47 w46.heap.size 30 (DenyR.cells uX1) := by rw [← hW]; exact Blk.new w46 _ _
        have hb47 : Below w46.heap.size w46 w47 := by rw [← hW]; exact bA (Below.refl _ _) _
        have hy47 : w46.heap.size < w47.heap.size := by rw [← hW]; simp
        clear hW
        clear pfbX046_0 pfbX046_1 pfbX046_2 pfbX046_3 pfbX046_4
        have hz47 : w46.heap.size ≤ w47.heap.size := by have := hb47.size; (try simp at this); omega
        have HB47 := Lib.hid (bT HB46.out hb47)
        clear HB46
        have HP047 := Lib.hid (Blk.belowAll HP046.out hb47)
        clear HP046
        have HP147 := Lib.hid (Blk.belowAll HP146.out hb47)
        clear HP146
        have HbS47 := Lib.hid (Blk.belowAll HbS46.out hb47)
        clear HbS46
        have HS47 := Lib.hid (GateOwn.below HS46.out hb47)
        clear HS46
        have HX047 := Lib.hid (GateOwn.below HX046.out hb47)
        clear HX046
        have HbX047 := Lib.hid (Blk.belowAll HbX046.out hb47)
        clear HbX046
        have HX147 := Lib.hid (DenyOwn.below HoX1.out hb47)
        clear HoX1
        clear hb47
        have Hbx47 := Lib.hid hbx47; clear hbx47
        have hcf := implTakeDeny_any uX0 uX1 w47 (GateOwn.in_ HX047.out) HsmX0.out (DenyOwn.in_ HX147.out) HsmX1.out
        (try unfold denyV gateV at hcf)
        have Hcf := Lib.hid hcf; clear hcf
        refine (Hcf.out).mono ?_
        rintro e w48 ⟨⟨uG, rfl, hofG, hownG, hsmG⟩, hb48⟩
        clear Hcf
        rw [HofX0.out, HofX1.out] at hofG
        have hz48 : w47.heap.size ≤ w48.heap.size := by have := hb48.size; (try simp at this); omega
        have HB48 := Lib.hid (bT HB47.out hb48)
        clear HB47
        have HP048 := Lib.hid (Blk.belowAll HP047.out hb48)
        clear HP047
        have HP148 := Lib.hid (Blk.belowAll HP147.out hb48)
        clear HP147
        have HbS48 := Lib.hid (Blk.belowAll HbS47.out hb48)
        clear HbS47
        have HS48 := Lib.hid (GateOwn.below HS47.out hb48)
        clear HS47
        have HX048 := Lib.hid (GateOwn.below HX047.out hb48)
        clear HX047
        have HbX048 := Lib.hid (Blk.belowAll HbX047.out hb48)
        clear HbX047
        have HX148 := Lib.hid (DenyOwn.below HX147.out hb48)
        clear HX147
        have HbX148 := Lib.hid (Blk.belowAll Hbx47.out hb48)
        clear Hbx47
        clear hb48
        have HofG := Lib.hid hofG; clear hofG
        have HsmG := Lib.hid hsmG; clear hsmG
        have LTG := Lib.hid (fun k hk => (GateOwn.lt hownG k hk).1)
        have UPG := Lib.hid (fun k hk => (GateOwn.lt hownG k hk).2)
        have HoG := Lib.hid hownG; clear hownG
        have pfbS48_0 : (w48.alloc (.cells #[.int .i64 uG.val, .int .i64 uG.nxt, .int .i64 uG.deny.ver, .slice uG.deny.cardsA uG.deny.cards.length uG.deny.cardsc, .slice uG.keptA uG.kept.length uG.keptc] 40)).cell? ⟨bS, 0, none⟩ = some (.int .i64 uS.val) := ((Blk.alloc HbS48.out _)).cell 0
        have pfbS48_1 : (w48.alloc (.cells #[.int .i64 uG.val, .int .i64 uG.nxt, .int .i64 uG.deny.ver, .slice uG.deny.cardsA uG.deny.cards.length uG.deny.cardsc, .slice uG.keptA uG.kept.length uG.keptc] 40)).cell? ⟨bS, 1, none⟩ = some (.int .i64 uS.nxt) := ((Blk.alloc HbS48.out _)).cell 1
        have pfbS48_2 : (w48.alloc (.cells #[.int .i64 uG.val, .int .i64 uG.nxt, .int .i64 uG.deny.ver, .slice uG.deny.cardsA uG.deny.cards.length uG.deny.cardsc, .slice uG.keptA uG.kept.length uG.keptc] 40)).cell? ⟨bS, 2, none⟩ = some (.int .i64 uS.deny.ver) := ((Blk.alloc HbS48.out _)).cell 2
        have pfbS48_3 : (w48.alloc (.cells #[.int .i64 uG.val, .int .i64 uG.nxt, .int .i64 uG.deny.ver, .slice uG.deny.cardsA uG.deny.cards.length uG.deny.cardsc, .slice uG.keptA uG.kept.length uG.keptc] 40)).cell? ⟨bS, 3, none⟩ = some (.slice uS.deny.cardsA uS.deny.cards.length uS.deny.cardsc) := ((Blk.alloc HbS48.out _)).cell 3
        have pfbS48_4 : (w48.alloc (.cells #[.int .i64 uG.val, .int .i64 uG.nxt, .int .i64 uG.deny.ver, .slice uG.deny.cardsA uG.deny.cards.length uG.deny.cardsc, .slice uG.keptA uG.kept.length uG.keptc] 40)).cell? ⟨bS, 4, none⟩ = some (.slice uS.keptA uS.kept.length uS.keptc) := ((Blk.alloc HbS48.out _)).cell 4
        go_wp2_with fail
        generalize hW : World.alloc _ _ = w49
        have hbx49 : Blk w49 w48.heap.size 40 (GateR.cells uG) := by rw [← hW]; exact Blk.new w48 _ _
        have hb49 : Below w48.heap.size w48 w49 := by rw [← hW]; exact bA (Below.refl _ _) _
        have hy49 : w48.heap.size < w49.heap.size := by rw [← hW]; simp
        clear hW
        clear pfbS48_0 pfbS48_1 pfbS48_2 pfbS48_3 pfbS48_4
        have hz49 : w48.heap.size ≤ w49.heap.size := by have := hb49.size; (try simp at this); omega
        have HB49 := Lib.hid (bT HB48.out hb49)
        clear HB48
        have HP049 := Lib.hid (Blk.belowAll HP048.out hb49)
        clear HP048
        have HP149 := Lib.hid (Blk.belowAll HP148.out hb49)
        clear HP148
        have HbS49 := Lib.hid (Blk.belowAll HbS48.out hb49)
        clear HbS48
        have HS49 := Lib.hid (GateOwn.below HS48.out hb49)
        clear HS48
        have HX049 := Lib.hid (GateOwn.below HX048.out hb49)
        clear HX048
        have HbX049 := Lib.hid (Blk.belowAll HbX048.out hb49)
        clear HbX048
        have HX149 := Lib.hid (DenyOwn.below HX148.out hb49)
        clear HX148
        have HbX149 := Lib.hid (Blk.belowAll HbX148.out hb49)
        clear HbX148
        have HG49 := Lib.hid (GateOwn.below HoG.out hb49)
        clear HoG
        clear hb49
        have Hbx49 := Lib.hid hbx49; clear hbx49
        refine (eqGate_same uG uS _ (GateOwn.in_ HG49.out) (GateOwn.in_ HS49.out) HsmG.out HsmS.out (HofG.out.trans HofS.out.symm)).mono ?_
        rintro e w50 ⟨rfl, hb50⟩
        have hz50 : w49.heap.size ≤ w50.heap.size := by have := hb50.size; (try simp at this); omega
        have HB50 := Lib.hid (bT HB49.out hb50)
        clear HB49
        have HP050 := Lib.hid (Blk.belowAll HP049.out hb50)
        clear HP049
        have HP150 := Lib.hid (Blk.belowAll HP149.out hb50)
        clear HP149
        have HbS50 := Lib.hid (Blk.belowAll HbS49.out hb50)
        clear HbS49
        have HS50 := Lib.hid (GateOwn.below HS49.out hb50)
        clear HS49
        have HX050 := Lib.hid (GateOwn.below HX049.out hb50)
        clear HX049
        have HbX050 := Lib.hid (Blk.belowAll HbX049.out hb50)
        clear HbX049
        have HX150 := Lib.hid (DenyOwn.below HX149.out hb50)
        clear HX149
        have HbX150 := Lib.hid (Blk.belowAll HbX149.out hb50)
        clear HbX149
        have HG50 := Lib.hid (GateOwn.below HG49.out hb50)
        clear HG49
        have HbG50 := Lib.hid (Blk.belowAll Hbx49.out hb50)
        clear Hbx49
        clear hb50
        obtain ⟨cP050_0, cP050_1, cP050_2, cP050_3, cP050_4⟩ := gateCells (t := 47) (v := a0) HP050.out
        obtain ⟨cbX050_0, cbX050_1, cbX050_2, cbX050_3, cbX050_4⟩ := gateCells (t := 40) (v := uX0) HbX050.out
        go_wp2
        clear cP050_0 cP050_1 cP050_2 cP050_3 cP050_4 cbX050_0 cbX050_1 cbX050_2 cbX050_3 cbX050_4
        refine wp_region_held_drew (S := fun w' => (w'.cell? ⟨w44.heap.size, 0, none⟩ = some (.int .i64 uX0.val) ∧ w'.cell? ⟨w44.heap.size, 1, none⟩ = some (.int .i64 uX0.nxt) ∧ w'.cell? ⟨w44.heap.size, 2, none⟩ = some (.int .i64 uX0.deny.ver) ∧ w'.cell? ⟨w44.heap.size, 3, none⟩ = some (.slice uX0.deny.cardsA uX0.deny.cards.length uX0.deny.cardsc) ∧ w'.cell? ⟨w44.heap.size, 4, none⟩ = some (.slice uX0.keptA uX0.kept.length uX0.keptc)) ∧ (w'.cell? ⟨w.heap.size, 0, none⟩ = some (.int .i64 a0.val) ∧ w'.cell? ⟨w.heap.size, 1, none⟩ = some (.int .i64 a0.nxt) ∧ w'.cell? ⟨w.heap.size, 2, none⟩ = some (.int .i64 a0.deny.ver) ∧ w'.cell? ⟨w.heap.size, 3, none⟩ = some (.slice a0.deny.cardsA a0.deny.cards.length a0.deny.cardsc) ∧ w'.cell? ⟨w.heap.size, 4, none⟩ = some (.slice a0.keptA a0.kept.length a0.keptc))) (by kernel_rfl) (by exact ⟨gateCells (t := 40) (v := uX0) HbX050.out, gateCells (t := 47) (v := a0) HP050.out⟩) (fun hS => ?_)
        refine take_at 0 40 (v := ?_) rfl rfl (by kernel_rfl) (by kernel_rfl) (by kernel_rfl) (fun _ _ _ h => h) (by rfl) ?_ hS ?_
        rotate_left 1
        · (intro w hSw; (try dsimp only at hSw); (try go_split_ands); go_simp; try with_reducible rfl)
        simp only [List.setIfInBounds_toArray, List.set_cons_zero, List.set_cons_succ]
        refine take_at 1 41 (v := ?_) rfl rfl (by kernel_rfl) (by kernel_rfl) (by kernel_rfl) (fun _ _ _ h => h) (by rfl) ?_ hS ?_
        rotate_left 1
        · (intro w hSw; (try dsimp only at hSw); (try go_split_ands); go_simp; try with_reducible rfl)
        simp only [List.setIfInBounds_toArray, List.set_cons_zero, List.set_cons_succ]
        refine wpAnyH_ready (rs := [2]) (by kernel_rfl) (by simp) ?_
        refine AllReadyH.cons rfl (fun K hK => ?_) (AllReadyH.nil)
        go_simp
        go_wp2_with fail
        refine (toGate_any a0 _ (Hi0.out.over (bD1 HB50.out)) Hs0.out).mono ?_
        rintro e w51 ⟨⟨uC0, rfl, hofC0, hownC0, hsmC0⟩, hb51⟩
        have hz51 : w50.heap.size ≤ w51.heap.size := by have := hb51.size; (try simp at this); omega
        have HB51 := Lib.hid (bT (bD1 HB50.out) hb51)
        clear HB50
        have HP051 := Lib.hid (Blk.belowAll (blkDrew HP050.out) hb51)
        clear HP050
        have HP151 := Lib.hid (Blk.belowAll (blkDrew HP150.out) hb51)
        clear HP150
        have HbS51 := Lib.hid (Blk.belowAll (blkDrew HbS50.out) hb51)
        clear HbS50
        have HS51 := Lib.hid (GateOwn.below (GateOwn.drew HS50.out) hb51)
        clear HS50
        have HX051 := Lib.hid (GateOwn.below (GateOwn.drew HX050.out) hb51)
        clear HX050
        have HbX051 := Lib.hid (Blk.belowAll (blkDrew HbX050.out) hb51)
        clear HbX050
        have HX151 := Lib.hid (DenyOwn.below (DenyOwn.drew HX150.out) hb51)
        clear HX150
        have HbX151 := Lib.hid (Blk.belowAll (blkDrew HbX150.out) hb51)
        clear HbX150
        have HG51 := Lib.hid (GateOwn.below (GateOwn.drew HG50.out) hb51)
        clear HG50
        have HbG51 := Lib.hid (Blk.belowAll (blkDrew HbG50.out) hb51)
        clear HbG50
        clear hb51
        have HofC0 := Lib.hid hofC0; clear hofC0
        have HsmC0 := Lib.hid hsmC0; clear hsmC0
        have LTC0 := Lib.hid (fun k hk => (GateOwn.lt hownC0 k hk).1)
        have UPC0 := Lib.hid (fun k hk => (GateOwn.lt hownC0 k hk).2)
        have HoC0 := Lib.hid hownC0; clear hownC0
        (try unfold gateV)
        go_simp
        refine hK.out _ _ (by exact ⟨gateCells (t := 40) (v := uX0) HbX051.out, gateCells (t := 47) (v := a0) HP051.out⟩) (fun hS => ?_)
        clear hK K
        refine wpAnyH_ready (rs := [3]) (by kernel_rfl) (by simp) ?_
        refine AllReadyH.cons rfl (fun K hK => ?_) (AllReadyH.nil)
        go_simp
        go_wp2_with fail
        refine (eqGate_same uX0 uC0 _ (GateOwn.in_ HX051.out) (GateOwn.in_ HoC0.out) HsmX0.out HsmC0.out (HofX0.out.trans HofC0.out.symm)).mono ?_
        rintro e w52 ⟨rfl, hb52⟩
        have hz52 : w51.heap.size ≤ w52.heap.size := by have := hb52.size; (try simp at this); omega
        have HB52 := Lib.hid (bT HB51.out hb52)
        clear HB51
        have HP052 := Lib.hid (Blk.belowAll HP051.out hb52)
        clear HP051
        have HP152 := Lib.hid (Blk.belowAll HP151.out hb52)
        clear HP151
        have HbS52 := Lib.hid (Blk.belowAll HbS51.out hb52)
        clear HbS51
        have HS52 := Lib.hid (GateOwn.below HS51.out hb52)
        clear HS51
        have HX052 := Lib.hid (GateOwn.below HX051.out hb52)
        clear HX051
        have HbX052 := Lib.hid (Blk.belowAll HbX051.out hb52)
        clear HbX051
        have HX152 := Lib.hid (DenyOwn.below HX151.out hb52)
        clear HX151
        have HbX152 := Lib.hid (Blk.belowAll HbX151.out hb52)
        clear HbX151
        have HG52 := Lib.hid (GateOwn.below HG51.out hb52)
        clear HG51
        have HbG52 := Lib.hid (Blk.belowAll HbG51.out hb52)
        clear HbG51
        have HC052 := Lib.hid (GateOwn.below HoC0.out hb52)
        clear HoC0
        clear hb52
        go_simp
        refine hK.out _ _ (by exact ⟨gateCells (t := 40) (v := uX0) HbX052.out, gateCells (t := 47) (v := a0) HP052.out⟩) (fun hS => ?_)
        clear hK K
        refine take_at 4 44 (v := ?_) rfl rfl (by kernel_rfl) (by kernel_rfl) (by kernel_rfl) (fun _ _ _ h => h) (by rfl) ?_ hS ?_
        rotate_left 1
        · (intro w hSw; (try dsimp only at hSw); (try go_split_ands); go_simp; try with_reducible rfl)
        simp only [List.setIfInBounds_toArray, List.set_cons_zero, List.set_cons_succ]
        refine wpAnyH_done (by kernel_rfl) ?_ _
        clear hS
        obtain ⟨cP152_0, cP152_1⟩ := denyCells (t := 33) (v := a1) HP152.out
        obtain ⟨cbX152_0, cbX152_1⟩ := denyCells (t := 30) (v := uX1) HbX152.out
        go_wp2
        clear cP152_0 cP152_1 cbX152_0 cbX152_1
        refine wp_region_held_drew (S := fun w' => (w'.cell? ⟨w46.heap.size, 0, none⟩ = some (.int .i64 uX1.ver) ∧ w'.cell? ⟨w46.heap.size, 1, none⟩ = some (.slice uX1.cardsA uX1.cards.length uX1.cardsc)) ∧ (w'.cell? ⟨w.heap.size + 1, 0, none⟩ = some (.int .i64 a1.ver) ∧ w'.cell? ⟨w.heap.size + 1, 1, none⟩ = some (.slice a1.cardsA a1.cards.length a1.cardsc))) (by kernel_rfl) (by exact ⟨denyCells (t := 30) (v := uX1) HbX152.out, denyCells (t := 33) (v := a1) HP152.out⟩) (fun hS => ?_)
        refine take_at 0 45 (v := ?_) rfl rfl (by kernel_rfl) (by kernel_rfl) (by kernel_rfl) (fun _ _ _ h => h) (by rfl) ?_ hS ?_
        rotate_left 1
        · (intro w hSw; (try dsimp only at hSw); (try go_split_ands); go_simp; try with_reducible rfl)
        simp only [List.setIfInBounds_toArray, List.set_cons_zero, List.set_cons_succ]
        refine take_at 1 46 (v := ?_) rfl rfl (by kernel_rfl) (by kernel_rfl) (by kernel_rfl) (fun _ _ _ h => h) (by rfl) ?_ hS ?_
        rotate_left 1
        · (intro w hSw; (try dsimp only at hSw); (try go_split_ands); go_simp; try with_reducible rfl)
        simp only [List.setIfInBounds_toArray, List.set_cons_zero, List.set_cons_succ]
        refine wpAnyH_ready (rs := [2]) (by kernel_rfl) (by simp) ?_
        refine AllReadyH.cons rfl (fun K hK => ?_) (AllReadyH.nil)
        go_simp
        go_wp2_with fail
        refine (toDeny_any a1 _ (Hi1.out.over (bD1 HB52.out)) Hs1.out).mono ?_
        rintro e w53 ⟨⟨uC1, rfl, hofC1, hownC1, hsmC1⟩, hb53⟩
        have hz53 : w52.heap.size ≤ w53.heap.size := by have := hb53.size; (try simp at this); omega
        have HB53 := Lib.hid (bT (bD1 HB52.out) hb53)
        clear HB52
        have HP053 := Lib.hid (Blk.belowAll (blkDrew HP052.out) hb53)
        clear HP052
        have HP153 := Lib.hid (Blk.belowAll (blkDrew HP152.out) hb53)
        clear HP152
        have HbS53 := Lib.hid (Blk.belowAll (blkDrew HbS52.out) hb53)
        clear HbS52
        have HS53 := Lib.hid (GateOwn.below (GateOwn.drew HS52.out) hb53)
        clear HS52
        have HX053 := Lib.hid (GateOwn.below (GateOwn.drew HX052.out) hb53)
        clear HX052
        have HbX053 := Lib.hid (Blk.belowAll (blkDrew HbX052.out) hb53)
        clear HbX052
        have HX153 := Lib.hid (DenyOwn.below (DenyOwn.drew HX152.out) hb53)
        clear HX152
        have HbX153 := Lib.hid (Blk.belowAll (blkDrew HbX152.out) hb53)
        clear HbX152
        have HG53 := Lib.hid (GateOwn.below (GateOwn.drew HG52.out) hb53)
        clear HG52
        have HbG53 := Lib.hid (Blk.belowAll (blkDrew HbG52.out) hb53)
        clear HbG52
        clear hb53
        have HofC1 := Lib.hid hofC1; clear hofC1
        have HsmC1 := Lib.hid hsmC1; clear hsmC1
        have LTC1 := Lib.hid (fun k hk => (DenyOwn.lt hownC1 k hk).1)
        have UPC1 := Lib.hid (fun k hk => (DenyOwn.lt hownC1 k hk).2)
        have HoC1 := Lib.hid hownC1; clear hownC1
        (try unfold denyV)
        go_simp
        refine hK.out _ _ (by exact ⟨denyCells (t := 30) (v := uX1) HbX153.out, denyCells (t := 33) (v := a1) HP153.out⟩) (fun hS => ?_)
        clear hK K
        refine wpAnyH_ready (rs := [3]) (by kernel_rfl) (by simp) ?_
        refine AllReadyH.cons rfl (fun K hK => ?_) (AllReadyH.nil)
        go_simp
        go_wp2_with fail
        refine (eqDeny_same uX1 uC1 _ (DenyOwn.in_ HX153.out) (DenyOwn.in_ HoC1.out) HsmX1.out HsmC1.out (HofX1.out.trans HofC1.out.symm)).mono ?_
        rintro e w54 ⟨rfl, hb54⟩
        have hz54 : w53.heap.size ≤ w54.heap.size := by have := hb54.size; (try simp at this); omega
        have HB54 := Lib.hid (bT HB53.out hb54)
        clear HB53
        have HP054 := Lib.hid (Blk.belowAll HP053.out hb54)
        clear HP053
        have HP154 := Lib.hid (Blk.belowAll HP153.out hb54)
        clear HP153
        have HbS54 := Lib.hid (Blk.belowAll HbS53.out hb54)
        clear HbS53
        have HS54 := Lib.hid (GateOwn.below HS53.out hb54)
        clear HS53
        have HX054 := Lib.hid (GateOwn.below HX053.out hb54)
        clear HX053
        have HbX054 := Lib.hid (Blk.belowAll HbX053.out hb54)
        clear HbX053
        have HX154 := Lib.hid (DenyOwn.below HX153.out hb54)
        clear HX153
        have HbX154 := Lib.hid (Blk.belowAll HbX153.out hb54)
        clear HbX153
        have HG54 := Lib.hid (GateOwn.below HG53.out hb54)
        clear HG53
        have HbG54 := Lib.hid (Blk.belowAll HbG53.out hb54)
        clear HbG53
        have HC154 := Lib.hid (DenyOwn.below HoC1.out hb54)
        clear HoC1
        clear hb54
        go_simp
        refine hK.out _ _ (by exact ⟨denyCells (t := 30) (v := uX1) HbX154.out, denyCells (t := 33) (v := a1) HP154.out⟩) (fun hS => ?_)
        clear hK K
        refine take_at 4 49 (v := ?_) rfl rfl (by kernel_rfl) (by kernel_rfl) (by kernel_rfl) (fun _ _ _ h => h) (by rfl) ?_ hS ?_
        rotate_left 1
        · (intro w hSw; (try dsimp only at hSw); (try go_split_ands); go_simp; try with_reducible rfl)
        simp only [List.setIfInBounds_toArray, List.set_cons_zero, List.set_cons_succ]
        refine wpAnyH_done (by kernel_rfl) ?_ _
        clear hS
        have nx0 := GateNext_le uX0 (1) HsmX0.out (by omega)
        have nx1 := DenyNext_le uX1 (GateNext uX0 (1)) HsmX1.out (by omega)
        have hdX : decide (DenyNext uX1 (GateNext uX0 (1)) < 0) = false := by rw [decide_eq_false_iff_not]; omega
        obtain ⟨cbX054_0, cbX054_1, cbX054_2, cbX054_3, cbX054_4⟩ := gateCells (t := 40) (v := uX0) HbX054.out
        go_wp2_with fail
        refine (markGate_own _ uX0 (1) _ HX054.out HsmX0.out (by omega) (by omega)).mono ?_
        rintro e w55 ⟨rfl, hmX0, ht55⟩
        clear cbX054_0 cbX054_1 cbX054_2 cbX054_3 cbX054_4
        have hz55 : w54.heap.size ≤ w55.heap.size := by have := ht55.size; (try simp at this); omega
        have HB55 := Lib.hid (Touch.below HB54.out ht55 (fun i hi => by have a1 := LTX0.out _ hi; omega))
        clear HB54
        have HP055 := Lib.hid (Blk.touch HP054.out ht55 (fun e0 => by have a1 := LTX0.out _ e0; have a2 := UPX0.out _ e0; omega))
        clear HP054
        have HP155 := Lib.hid (Blk.touch HP154.out ht55 (fun e0 => by have a1 := LTX0.out _ e0; have a2 := UPX0.out _ e0; omega))
        clear HP154
        have HbS55 := Lib.hid (Blk.touch HbS54.out ht55 (fun e0 => by have a1 := LTX0.out _ e0; have a2 := UPX0.out _ e0; omega))
        clear HbS54
        have HS55 := Lib.hid (GateOwn.touch HS54.out ht55 (fun i hi e0 => by have a1 := LTS.out _ hi; have a2 := UPS.out _ hi; have b1 := LTX0.out _ e0; have b2 := UPX0.out _ e0; omega))
        clear HS54
        have HbX055 := Lib.hid (Blk.touch HbX054.out ht55 (fun e0 => by have a1 := LTX0.out _ e0; have a2 := UPX0.out _ e0; omega))
        clear HbX054
        have HX155 := Lib.hid (DenyOwn.touch HX154.out ht55 (fun i hi e0 => by have a1 := LTX1.out _ hi; have a2 := UPX1.out _ hi; have b1 := LTX0.out _ e0; have b2 := UPX0.out _ e0; omega))
        clear HX154
        have HbX155 := Lib.hid (Blk.touch HbX154.out ht55 (fun e0 => by have a1 := LTX0.out _ e0; have a2 := UPX0.out _ e0; omega))
        clear HbX154
        have HG55 := Lib.hid (GateOwn.touch HG54.out ht55 (fun i hi e0 => by have a1 := LTG.out _ hi; have a2 := UPG.out _ hi; have b1 := LTX0.out _ e0; have b2 := UPX0.out _ e0; omega))
        clear HG54
        have HbG55 := Lib.hid (Blk.touch HbG54.out ht55 (fun e0 => by have a1 := LTX0.out _ e0; have a2 := UPX0.out _ e0; omega))
        clear HbG54
        clear ht55
        have HmX0 := Lib.hid hmX0; clear hmX0
        obtain ⟨cbX155_0, cbX155_1⟩ := denyCells (t := 30) (v := uX1) HbX155.out
        go_wp2_with fail
        refine (markDeny_own _ uX1 (GateNext uX0 (1)) _ HX155.out HsmX1.out (by omega) (by omega)).mono ?_
        rintro e w56 ⟨rfl, hmX1, ht56⟩
        clear cbX155_0 cbX155_1
        have hz56 : w55.heap.size ≤ w56.heap.size := by have := ht56.size; (try simp at this); omega
        have HB56 := Lib.hid (Touch.below HB55.out ht56 (fun i hi => by have a1 := LTX1.out _ hi; omega))
        clear HB55
        have HP056 := Lib.hid (Blk.touch HP055.out ht56 (fun e0 => by have a1 := LTX1.out _ e0; have a2 := UPX1.out _ e0; omega))
        clear HP055
        have HP156 := Lib.hid (Blk.touch HP155.out ht56 (fun e0 => by have a1 := LTX1.out _ e0; have a2 := UPX1.out _ e0; omega))
        clear HP155
        have HbS56 := Lib.hid (Blk.touch HbS55.out ht56 (fun e0 => by have a1 := LTX1.out _ e0; have a2 := UPX1.out _ e0; omega))
        clear HbS55
        have HS56 := Lib.hid (GateOwn.touch HS55.out ht56 (fun i hi e0 => by have a1 := LTS.out _ hi; have a2 := UPS.out _ hi; have b1 := LTX1.out _ e0; have b2 := UPX1.out _ e0; omega))
        clear HS55
        have HbX156 := Lib.hid (Blk.touch HbX155.out ht56 (fun e0 => by have a1 := LTX1.out _ e0; have a2 := UPX1.out _ e0; omega))
        clear HbX155
        have HG56 := Lib.hid (GateOwn.touch HG55.out ht56 (fun i hi e0 => by have a1 := LTG.out _ hi; have a2 := UPG.out _ hi; have b1 := LTX1.out _ e0; have b2 := UPX1.out _ e0; omega))
        clear HG55
        have HbG56 := Lib.hid (Blk.touch HbG55.out ht56 (fun e0 => by have a1 := LTX1.out _ e0; have a2 := UPX1.out _ e0; omega))
        clear HbG55
        clear ht56
        have HmX1 := Lib.hid hmX1; clear hmX1
        obtain ⟨cbG56_0, cbG56_1, cbG56_2, cbG56_3, cbG56_4⟩ := gateCells (t := 40) (v := uG) HbG56.out
        obtain ⟨cbS56_0, cbS56_1, cbS56_2, cbS56_3, cbS56_4⟩ := gateCells (t := 40) (v := uS) HbS56.out
        go_wp2_with fail
        refine (eqGate_same uG uS _ (GateOwn.in_ HG56.out) (GateOwn.in_ HS56.out) HsmG.out HsmS.out (HofG.out.trans HofS.out.symm)).mono ?_
        rintro e w57 ⟨rfl, hb57⟩
        clear cbG56_0 cbG56_1 cbG56_2 cbG56_3 cbG56_4 cbS56_0 cbS56_1 cbS56_2 cbS56_3 cbS56_4
        have hz57 : w56.heap.size ≤ w57.heap.size := by have := hb57.size; (try simp at this); omega
        have HB57 := Lib.hid (bT HB56.out hb57)
        clear HB56
        have HP057 := Lib.hid (Blk.belowAll HP056.out hb57)
        clear HP056
        have HP157 := Lib.hid (Blk.belowAll HP156.out hb57)
        clear HP156
        have HbS57 := Lib.hid (Blk.belowAll HbS56.out hb57)
        clear HbS56
        have HS57 := Lib.hid (GateOwn.below HS56.out hb57)
        clear HS56
        have HG57 := Lib.hid (GateOwn.below HG56.out hb57)
        clear HG56
        have HbG57 := Lib.hid (Blk.belowAll HbG56.out hb57)
        clear HbG56
        clear hb57
        have nxG := GateNext_le uG 1 HsmG.out (by omega)
        have hdG : decide (GateNext uG 1 < 0) = false := by rw [decide_eq_false_iff_not]; omega
        obtain ⟨cbG57_0, cbG57_1, cbG57_2, cbG57_3, cbG57_4⟩ := gateCells (t := 40) (v := uG) HbG57.out
        go_wp2_with fail
        refine (markGate_own _ uG (1) _ HG57.out HsmG.out (by omega) (by omega)).mono ?_
        rintro e w58 ⟨rfl, hmG, ht58⟩
        clear cbG57_0 cbG57_1 cbG57_2 cbG57_3 cbG57_4
        have hz58 : w57.heap.size ≤ w58.heap.size := by have := ht58.size; (try simp at this); omega
        have HB58 := Lib.hid (Touch.below HB57.out ht58 (fun i hi => by have a1 := LTG.out _ hi; omega))
        clear HB57
        have HP058 := Lib.hid (Blk.touch HP057.out ht58 (fun e0 => by have a1 := LTG.out _ e0; have a2 := UPG.out _ e0; omega))
        clear HP057
        have HP158 := Lib.hid (Blk.touch HP157.out ht58 (fun e0 => by have a1 := LTG.out _ e0; have a2 := UPG.out _ e0; omega))
        clear HP157
        have HbS58 := Lib.hid (Blk.touch HbS57.out ht58 (fun e0 => by have a1 := LTG.out _ e0; have a2 := UPG.out _ e0; omega))
        clear HbS57
        have HS58 := Lib.hid (GateOwn.touch HS57.out ht58 (fun i hi e0 => by have a1 := LTS.out _ hi; have a2 := UPS.out _ hi; have b1 := LTG.out _ e0; have b2 := UPG.out _ e0; omega))
        clear HS57
        have HbG58 := Lib.hid (Blk.touch HbG57.out ht58 (fun e0 => by have a1 := LTG.out _ e0; have a2 := UPG.out _ e0; omega))
        clear HbG57
        clear ht58
        have HmG := Lib.hid hmG; clear hmG
        obtain ⟨cbG58_0, cbG58_1, cbG58_2, cbG58_3, cbG58_4⟩ := gateCells (t := 40) (v := uG) HbG58.out
        go_wp2_with fail
        refine (heldGate_own _ uG (1) _ HmG.out HsmG.out (by omega) (by omega)).mono ?_
        rintro e w59 ⟨rfl, hb59⟩
        clear cbG58_0 cbG58_1 cbG58_2 cbG58_3 cbG58_4
        have hz59 : w58.heap.size ≤ w59.heap.size := by have := hb59.size; (try simp at this); omega
        have HB59 := Lib.hid (bT HB58.out hb59)
        clear HB58
        have HP059 := Lib.hid (Blk.belowAll HP058.out hb59)
        clear HP058
        have HP159 := Lib.hid (Blk.belowAll HP158.out hb59)
        clear HP158
        have HbS59 := Lib.hid (Blk.belowAll HbS58.out hb59)
        clear HbS58
        have HS59 := Lib.hid (GateOwn.below HS58.out hb59)
        clear HS58
        have HbG59 := Lib.hid (Blk.belowAll HbG58.out hb59)
        clear HbG58
        have HG59 := Lib.hid (GateMarked.below HmG.out hb59)
        clear HmG
        clear hb59
        obtain ⟨cP059_0, cP059_1, cP059_2, cP059_3, cP059_4⟩ := gateCells (t := 47) (v := a0) HP059.out
        go_upto_region 31 with (fail)
        go_cut [13] from 75 to 79 (fun v wx => ∃ (b : Nat) (u : GateR), v = .pointer (some ⟨b, 0, none⟩) ∧ w59.heap.size ≤ b ∧ b < wx.heap.size ∧ Blk wx b 40 (GateR.cells u) ∧ Hid (u.of = Fares.takeDeny a0.of a1.of) ∧ GateOwn wx (w59.heap.size) u ∧ GateSmall u ∧ w59.heap.size ≤ wx.heap.size ∧ Below w.heap.size w wx ∧ Blk wx (w48.heap.size) 40 (GateR.cells uG) ∧ Blk wx (bS) 40 (GateR.cells uS) ∧ GateMarked wx (w47.heap.size) uG (1) ∧ GateOwn wx (w3.heap.size) uS)
        case first =>
          refine wp_region_held_drew (S := fun w' => (w'.cell? ⟨w.heap.size, 0, none⟩ = some (.int .i64 a0.val) ∧ w'.cell? ⟨w.heap.size, 1, none⟩ = some (.int .i64 a0.nxt) ∧ w'.cell? ⟨w.heap.size, 2, none⟩ = some (.int .i64 a0.deny.ver) ∧ w'.cell? ⟨w.heap.size, 3, none⟩ = some (.slice a0.deny.cardsA a0.deny.cards.length a0.deny.cardsc) ∧ w'.cell? ⟨w.heap.size, 4, none⟩ = some (.slice a0.keptA a0.kept.length a0.keptc)) ∧ (w'.cell? ⟨w.heap.size + 1, 0, none⟩ = some (.int .i64 a1.ver) ∧ w'.cell? ⟨w.heap.size + 1, 1, none⟩ = some (.slice a1.cardsA a1.cards.length a1.cardsc))) (by kernel_rfl) (by exact ⟨gateCells (t := 47) (v := a0) HP059.out, denyCells (t := 33) (v := a1) HP159.out⟩) (fun hS => ?_)
          refine take_at 0 75 (v := ?_) rfl rfl (by kernel_rfl) (by kernel_rfl) (by kernel_rfl) (fun _ _ _ h => h) (by rfl) ?_ hS ?_
          rotate_left 1
          · (intro w hSw; (try dsimp only at hSw); (try go_split_ands); go_simp; try with_reducible rfl)
          simp only [List.setIfInBounds_toArray, List.set_cons_zero, List.set_cons_succ]
          refine take_at 2 77 (v := ?_) rfl rfl (by kernel_rfl) (by kernel_rfl) (by kernel_rfl) (fun _ _ _ h => h) (by rfl) ?_ hS ?_
          rotate_left 1
          · (intro w hSw; (try dsimp only at hSw); (try go_split_ands); go_simp; try with_reducible rfl)
          simp only [List.setIfInBounds_toArray, List.set_cons_zero, List.set_cons_succ]
          refine wpAnyH_ready (rs := [1, 5]) (by kernel_rfl) (by simp) ?_
          refine AllReadyH.cons rfl (fun K hK => ?_) (AllReadyH.cons rfl (fun K hK => ?_) (AllReadyH.nil))
          · go_simp
            go_wp2_with fail
            refine (toGate_any a0 _ (Hi0.out.over (bD1 HB59.out)) Hs0.out).mono ?_
            rintro e w60 ⟨⟨uTD0, rfl, hofTD0, hownTD0, hsmTD0⟩, hb60⟩
            have hz60 : w59.heap.size ≤ w60.heap.size := by have := hb60.size; (try simp at this); omega
            have HB60 := Lib.hid (bT (bD1 HB59.out) hb60)
            clear HB59
            have HP060 := Lib.hid (Blk.belowAll (blkDrew HP059.out) hb60)
            clear HP059
            have HP160 := Lib.hid (Blk.belowAll (blkDrew HP159.out) hb60)
            clear HP159
            have HbS60 := Lib.hid (Blk.belowAll (blkDrew HbS59.out) hb60)
            clear HbS59
            have HS60 := Lib.hid (GateOwn.below (GateOwn.drew HS59.out) hb60)
            clear HS59
            have HbG60 := Lib.hid (Blk.belowAll (blkDrew HbG59.out) hb60)
            clear HbG59
            have HG60 := Lib.hid (GateMarked.below (GateMarked.drew HG59.out) hb60)
            clear HG59
            clear hb60
            have HofTD0 := Lib.hid hofTD0; clear hofTD0
            have HsmTD0 := Lib.hid hsmTD0; clear hsmTD0
            have LTTD0 := Lib.hid (fun k hk => (GateOwn.lt hownTD0 k hk).1)
            have UPTD0 := Lib.hid (fun k hk => (GateOwn.lt hownTD0 k hk).2)
            have HoTD0 := Lib.hid hownTD0; clear hownTD0
            (try unfold gateV)
            go_simp
            refine hK.out _ _ (by exact ⟨gateCells (t := 47) (v := a0) HP060.out, denyCells (t := 33) (v := a1) HP160.out⟩) (fun hS => ?_)
            clear hK K
            refine wpAnyH_ready (rs := [3, 5]) (by kernel_rfl) (by simp) ?_
            refine AllReadyH.cons rfl (fun K hK => ?_) (AllReadyH.cons rfl (fun K hK => ?_) (AllReadyH.nil))
            · go_simp
              go_wp2_with fail
              refine (toDeny_any a1 _ (Hi1.out.over HB60.out) Hs1.out).mono ?_
              rintro e w61 ⟨⟨uTD1, rfl, hofTD1, hownTD1, hsmTD1⟩, hb61⟩
              have hz61 : w60.heap.size ≤ w61.heap.size := by have := hb61.size; (try simp at this); omega
              have HB61 := Lib.hid (bT HB60.out hb61)
              clear HB60
              have HP061 := Lib.hid (Blk.belowAll HP060.out hb61)
              clear HP060
              have HP161 := Lib.hid (Blk.belowAll HP160.out hb61)
              clear HP160
              have HbS61 := Lib.hid (Blk.belowAll HbS60.out hb61)
              clear HbS60
              have HS61 := Lib.hid (GateOwn.below HS60.out hb61)
              clear HS60
              have HbG61 := Lib.hid (Blk.belowAll HbG60.out hb61)
              clear HbG60
              have HG61 := Lib.hid (GateMarked.below HG60.out hb61)
              clear HG60
              have HTD061 := Lib.hid (GateOwn.below HoTD0.out hb61)
              clear HoTD0
              clear hb61
              have HofTD1 := Lib.hid hofTD1; clear hofTD1
              have HsmTD1 := Lib.hid hsmTD1; clear hsmTD1
              have LTTD1 := Lib.hid (fun k hk => (DenyOwn.lt hownTD1 k hk).1)
              have UPTD1 := Lib.hid (fun k hk => (DenyOwn.lt hownTD1 k hk).2)
              have HoTD1 := Lib.hid hownTD1; clear hownTD1
              (try unfold denyV)
              go_simp
              refine hK.out _ _ (by exact ⟨gateCells (t := 47) (v := a0) HP061.out, denyCells (t := 33) (v := a1) HP161.out⟩) (fun hS => ?_)
              clear hK K
              refine wpAnyH_ready (rs := [4, 5]) (by kernel_rfl) (by simp) ?_
              refine AllReadyH.cons rfl (fun K hK => ?_) (AllReadyH.cons rfl (fun K hK => ?_) (AllReadyH.nil))
              · go_simp
                go_wp2_with fail
                have hcf := implTakeDeny_any uTD0 uTD1 w61 (GateOwn.in_ HTD061.out) HsmTD0.out (DenyOwn.in_ HoTD1.out) HsmTD1.out
                (try unfold denyV gateV at hcf)
                have Hcf := Lib.hid hcf; clear hcf
                refine (Hcf.out).mono ?_
                rintro e w62 ⟨⟨uH, rfl, hofH, hownH, hsmH⟩, hb62⟩
                clear Hcf
                rw [HofTD0.out, HofTD1.out] at hofH
                have hz62 : w61.heap.size ≤ w62.heap.size := by have := hb62.size; (try simp at this); omega
                have HB62 := Lib.hid (bT HB61.out hb62)
                clear HB61
                have HP062 := Lib.hid (Blk.belowAll HP061.out hb62)
                clear HP061
                have HP162 := Lib.hid (Blk.belowAll HP161.out hb62)
                clear HP161
                have HbS62 := Lib.hid (Blk.belowAll HbS61.out hb62)
                clear HbS61
                have HS62 := Lib.hid (GateOwn.below HS61.out hb62)
                clear HS61
                have HbG62 := Lib.hid (Blk.belowAll HbG61.out hb62)
                clear HbG61
                have HG62 := Lib.hid (GateMarked.below HG61.out hb62)
                clear HG61
                have HTD062 := Lib.hid (GateOwn.below HTD061.out hb62)
                clear HTD061
                have HTD162 := Lib.hid (DenyOwn.below HoTD1.out hb62)
                clear HoTD1
                clear hb62
                have HofH := Lib.hid hofH; clear hofH
                have HsmH := Lib.hid hsmH; clear hsmH
                have LTH := Lib.hid (fun k hk => (GateOwn.lt hownH k hk).1)
                have UPH := Lib.hid (fun k hk => (GateOwn.lt hownH k hk).2)
                have HoH := Lib.hid hownH; clear hownH
                go_simp
                refine hK.out _ _ (by exact ⟨gateCells (t := 47) (v := a0) HP062.out, denyCells (t := 33) (v := a1) HP162.out⟩) (fun hS => ?_)
                clear hK K
                refine wpAnyH_ready (rs := [5]) (by kernel_rfl) (by simp) ?_
                refine AllReadyH.cons rfl (fun K hK => ?_) (AllReadyH.nil)
                go_simp
                generalize hW : World.alloc _ _ = w63
                have hbx63 : Blk w63 w62.heap.size 40 (GateR.cells (⟨0, 0, ⟨0, none, 0, []⟩, none, 0, []⟩ : GateR)) := by rw [← hW]; exact Blk.new' (by simp)
                have hb63 : Below w62.heap.size w62 w63 := by rw [← hW]; exact bA (Below.refl _ _) _
                have hy63 : w62.heap.size < w63.heap.size := by rw [← hW]; simp
                clear hW
                have hz63 : w62.heap.size ≤ w63.heap.size := by have := hb63.size; (try simp at this); omega
                have HB63 := Lib.hid (bT HB62.out hb63)
                clear HB62
                have HP063 := Lib.hid (Blk.belowAll HP062.out hb63)
                clear HP062
                have HP163 := Lib.hid (Blk.belowAll HP162.out hb63)
                clear HP162
                have HbS63 := Lib.hid (Blk.belowAll HbS62.out hb63)
                clear HbS62
                have HS63 := Lib.hid (GateOwn.below HS62.out hb63)
                clear HS62
                have HbG63 := Lib.hid (Blk.belowAll HbG62.out hb63)
                clear HbG62
                have HG63 := Lib.hid (GateMarked.below HG62.out hb63)
                clear HG62
                have HH63 := Lib.hid (GateOwn.below HoH.out hb63)
                clear HoH
                clear hb63
                have Hbx63 := Lib.hid hbx63; clear hbx63
                obtain ⟨cN63_0, cN63_1, cN63_2, cN63_3, cN63_4⟩ := gateCells (t := 40) (v := (⟨0, 0, ⟨0, none, 0, []⟩, none, 0, []⟩ : GateR)) Hbx63.out
                have fn63_0 := (Hbx63.out).free 0
                have fn63_1 := (Hbx63.out).free 1
                have fn63_2 := (Hbx63.out).free 2
                have fn63_3 := (Hbx63.out).free 3
                have fn63_4 := (Hbx63.out).free 4
                refine hK.out _ _ (by exact ⟨gateCells (t := 47) (v := a0) HP063.out, denyCells (t := 33) (v := a1) HP163.out⟩) (fun hS => ?_)
                clear hK K
                refine wpAnyH_ready (rs := [6]) (by kernel_rfl) (by simp) ?_
                refine AllReadyH.cons rfl (fun K hK => ?_) (AllReadyH.nil)
                go_simp
                generalize hW : World.setCell _ _ _ = w64
                have ht64 : Touch (fun i => i = w62.heap.size) w63 w64 := by rw [← hW]; exact (Touch.far (K := fun i => i = w62.heap.size) (Touch.far (K := fun i => i = w62.heap.size) (Touch.far (K := fun i => i = w62.heap.size) (Touch.far (K := fun i => i = w62.heap.size) (Touch.far (K := fun i => i = w62.heap.size) (Touch.refl _ _) (p := ⟨w62.heap.size, 0, none⟩) rfl _) (p := ⟨w62.heap.size, 1, none⟩) rfl _) (p := ⟨w62.heap.size, 2, none⟩) rfl _) (p := ⟨w62.heap.size, 3, none⟩) rfl _) (p := ⟨w62.heap.size, 4, none⟩) rfl _)
                have hbx64 : Blk w64 (w62.heap.size) 40 (GateR.cells uH) := by rw [← hW]; exact (Blk.put (Blk.put (Blk.put (Blk.put (Blk.put Hbx63.out 0 (.int .i64 uH.val)) 1 (.int .i64 uH.nxt)) 2 (.int .i64 uH.deny.ver)) 3 (.slice uH.deny.cardsA uH.deny.cards.length uH.deny.cardsc)) 4 (.slice uH.keptA uH.kept.length uH.keptc))
                clear hW
                clear cN63_0 cN63_1 cN63_2 cN63_3 cN63_4 fn63_0 fn63_1 fn63_2 fn63_3 fn63_4
                have hz64 : w63.heap.size ≤ w64.heap.size := by have := ht64.size; (try simp at this); omega
                have HB64 := Lib.hid (Touch.below HB63.out ht64 (fun i hi => by omega))
                clear HB63
                have HP064 := Lib.hid (Blk.touch HP063.out ht64 (show ¬ (w.heap.size = w62.heap.size) by omega))
                clear HP063
                have HP164 := Lib.hid (Blk.touch HP163.out ht64 (show ¬ (w.heap.size + 1 = w62.heap.size) by omega))
                clear HP163
                have HbS64 := Lib.hid (Blk.touch HbS63.out ht64 (show ¬ (bS = w62.heap.size) by omega))
                clear HbS63
                have HS64 := Lib.hid (GateOwn.touch HS63.out ht64 (fun i hi e0 => by have a1 := LTS.out _ hi; have a2 := UPS.out _ hi; omega))
                clear HS63
                have HbG64 := Lib.hid (Blk.touch HbG63.out ht64 (show ¬ (w48.heap.size = w62.heap.size) by omega))
                clear HbG63
                have HG64 := Lib.hid (GateMarked.touch HG63.out ht64 (fun i hi e0 => by have a1 := LTG.out _ hi; have a2 := UPG.out _ hi; omega))
                clear HG63
                have HH64 := Lib.hid (GateOwn.touch HH63.out ht64 (fun i hi e0 => by have a1 := LTH.out _ hi; have a2 := UPH.out _ hi; omega))
                clear HH63
                clear ht64 Hbx63
                have Hbx64 := Lib.hid hbx64; clear hbx64
                refine hK.out _ _ (by exact ⟨gateCells (t := 47) (v := a0) HP064.out, denyCells (t := 33) (v := a1) HP164.out⟩) (fun hS => ?_)
                clear hK K
                refine wpAnyH_done (by kernel_rfl) ?_ _
                clear hS
                go_wp2_with fail
                go_meet
                exact ⟨_, uH, rfl, by omega, Blk.lt Hbx64.out, Hbx64.out, HofH, GateOwn.base HH64.out (by omega), HsmH.out, by omega, HB64.out, HbG64.out, HbS64.out, HG64.out, HS64.out⟩
              · go_simp
                generalize hW : World.alloc _ _ = w62
                have hbx62 : Blk w62 w61.heap.size 40 (GateR.cells (⟨0, 0, ⟨0, none, 0, []⟩, none, 0, []⟩ : GateR)) := by rw [← hW]; exact Blk.new' (by simp)
                have hb62 : Below w61.heap.size w61 w62 := by rw [← hW]; exact bA (Below.refl _ _) _
                have hy62 : w61.heap.size < w62.heap.size := by rw [← hW]; simp
                clear hW
                have hz62 : w61.heap.size ≤ w62.heap.size := by have := hb62.size; (try simp at this); omega
                have HB62 := Lib.hid (bT HB61.out hb62)
                clear HB61
                have HP062 := Lib.hid (Blk.belowAll HP061.out hb62)
                clear HP061
                have HP162 := Lib.hid (Blk.belowAll HP161.out hb62)
                clear HP161
                have HbS62 := Lib.hid (Blk.belowAll HbS61.out hb62)
                clear HbS61
                have HS62 := Lib.hid (GateOwn.below HS61.out hb62)
                clear HS61
                have HbG62 := Lib.hid (Blk.belowAll HbG61.out hb62)
                clear HbG61
                have HG62 := Lib.hid (GateMarked.below HG61.out hb62)
                clear HG61
                have HTD062 := Lib.hid (GateOwn.below HTD061.out hb62)
                clear HTD061
                have HTD162 := Lib.hid (DenyOwn.below HoTD1.out hb62)
                clear HoTD1
                clear hb62
                have Hbx62 := Lib.hid hbx62; clear hbx62
                obtain ⟨cN62_0, cN62_1, cN62_2, cN62_3, cN62_4⟩ := gateCells (t := 40) (v := (⟨0, 0, ⟨0, none, 0, []⟩, none, 0, []⟩ : GateR)) Hbx62.out
                have fn62_0 := (Hbx62.out).free 0
                have fn62_1 := (Hbx62.out).free 1
                have fn62_2 := (Hbx62.out).free 2
                have fn62_3 := (Hbx62.out).free 3
                have fn62_4 := (Hbx62.out).free 4
                refine hK.out _ _ (by exact ⟨gateCells (t := 47) (v := a0) HP062.out, denyCells (t := 33) (v := a1) HP162.out⟩) (fun hS => ?_)
                clear hK K
                refine wpAnyH_ready (rs := [4]) (by kernel_rfl) (by simp) ?_
                refine AllReadyH.cons rfl (fun K hK => ?_) (AllReadyH.nil)
                go_simp
                go_wp2_with fail
                have hcf := implTakeDeny_any uTD0 uTD1 w62 (GateOwn.in_ HTD062.out) HsmTD0.out (DenyOwn.in_ HTD162.out) HsmTD1.out
                (try unfold denyV gateV at hcf)
                have Hcf := Lib.hid hcf; clear hcf
                refine (Hcf.out).mono ?_
                rintro e w63 ⟨⟨uH, rfl, hofH, hownH, hsmH⟩, hb63⟩
                clear Hcf
                rw [HofTD0.out, HofTD1.out] at hofH
                clear cN62_0 cN62_1 cN62_2 cN62_3 cN62_4 fn62_0 fn62_1 fn62_2 fn62_3 fn62_4
                have hz63 : w62.heap.size ≤ w63.heap.size := by have := hb63.size; (try simp at this); omega
                have HB63 := Lib.hid (bT HB62.out hb63)
                clear HB62
                have HP063 := Lib.hid (Blk.belowAll HP062.out hb63)
                clear HP062
                have HP163 := Lib.hid (Blk.belowAll HP162.out hb63)
                clear HP162
                have HbS63 := Lib.hid (Blk.belowAll HbS62.out hb63)
                clear HbS62
                have HS63 := Lib.hid (GateOwn.below HS62.out hb63)
                clear HS62
                have HbG63 := Lib.hid (Blk.belowAll HbG62.out hb63)
                clear HbG62
                have HG63 := Lib.hid (GateMarked.below HG62.out hb63)
                clear HG62
                have HTD063 := Lib.hid (GateOwn.below HTD062.out hb63)
                clear HTD062
                have HTD163 := Lib.hid (DenyOwn.below HTD162.out hb63)
                clear HTD162
                have HN63 := Lib.hid (Blk.belowAll Hbx62.out hb63)
                clear Hbx62
                clear hb63
                have HofH := Lib.hid hofH; clear hofH
                have HsmH := Lib.hid hsmH; clear hsmH
                have LTH := Lib.hid (fun k hk => (GateOwn.lt hownH k hk).1)
                have UPH := Lib.hid (fun k hk => (GateOwn.lt hownH k hk).2)
                have HoH := Lib.hid hownH; clear hownH
                obtain ⟨cN63_0, cN63_1, cN63_2, cN63_3, cN63_4⟩ := gateCells (t := 40) (v := (⟨0, 0, ⟨0, none, 0, []⟩, none, 0, []⟩ : GateR)) HN63.out
                have fn63_0 := (HN63.out).free 0
                have fn63_1 := (HN63.out).free 1
                have fn63_2 := (HN63.out).free 2
                have fn63_3 := (HN63.out).free 3
                have fn63_4 := (HN63.out).free 4
                go_simp
                refine hK.out _ _ (by exact ⟨gateCells (t := 47) (v := a0) HP063.out, denyCells (t := 33) (v := a1) HP163.out⟩) (fun hS => ?_)
                clear hK K
                refine wpAnyH_ready (rs := [6]) (by kernel_rfl) (by simp) ?_
                refine AllReadyH.cons rfl (fun K hK => ?_) (AllReadyH.nil)
                go_simp
                generalize hW : World.setCell _ _ _ = w64
                have ht64 : Touch (fun i => i = w61.heap.size) w63 w64 := by rw [← hW]; exact (Touch.far (K := fun i => i = w61.heap.size) (Touch.far (K := fun i => i = w61.heap.size) (Touch.far (K := fun i => i = w61.heap.size) (Touch.far (K := fun i => i = w61.heap.size) (Touch.far (K := fun i => i = w61.heap.size) (Touch.refl _ _) (p := ⟨w61.heap.size, 0, none⟩) rfl _) (p := ⟨w61.heap.size, 1, none⟩) rfl _) (p := ⟨w61.heap.size, 2, none⟩) rfl _) (p := ⟨w61.heap.size, 3, none⟩) rfl _) (p := ⟨w61.heap.size, 4, none⟩) rfl _)
                have hbx64 : Blk w64 (w61.heap.size) 40 (GateR.cells uH) := by rw [← hW]; exact (Blk.put (Blk.put (Blk.put (Blk.put (Blk.put HN63.out 0 (.int .i64 uH.val)) 1 (.int .i64 uH.nxt)) 2 (.int .i64 uH.deny.ver)) 3 (.slice uH.deny.cardsA uH.deny.cards.length uH.deny.cardsc)) 4 (.slice uH.keptA uH.kept.length uH.keptc))
                clear hW
                clear cN63_0 cN63_1 cN63_2 cN63_3 cN63_4 fn63_0 fn63_1 fn63_2 fn63_3 fn63_4
                have hz64 : w63.heap.size ≤ w64.heap.size := by have := ht64.size; (try simp at this); omega
                have HB64 := Lib.hid (Touch.below HB63.out ht64 (fun i hi => by omega))
                clear HB63
                have HP064 := Lib.hid (Blk.touch HP063.out ht64 (show ¬ (w.heap.size = w61.heap.size) by omega))
                clear HP063
                have HP164 := Lib.hid (Blk.touch HP163.out ht64 (show ¬ (w.heap.size + 1 = w61.heap.size) by omega))
                clear HP163
                have HbS64 := Lib.hid (Blk.touch HbS63.out ht64 (show ¬ (bS = w61.heap.size) by omega))
                clear HbS63
                have HS64 := Lib.hid (GateOwn.touch HS63.out ht64 (fun i hi e0 => by have a1 := LTS.out _ hi; have a2 := UPS.out _ hi; omega))
                clear HS63
                have HbG64 := Lib.hid (Blk.touch HbG63.out ht64 (show ¬ (w48.heap.size = w61.heap.size) by omega))
                clear HbG63
                have HG64 := Lib.hid (GateMarked.touch HG63.out ht64 (fun i hi e0 => by have a1 := LTG.out _ hi; have a2 := UPG.out _ hi; omega))
                clear HG63
                have HH64 := Lib.hid (GateOwn.touch HoH.out ht64 (fun i hi e0 => by have a1 := LTH.out _ hi; have a2 := UPH.out _ hi; omega))
                clear HoH
                clear ht64 HN63
                have Hbx64 := Lib.hid hbx64; clear hbx64
                refine hK.out _ _ (by exact ⟨gateCells (t := 47) (v := a0) HP064.out, denyCells (t := 33) (v := a1) HP164.out⟩) (fun hS => ?_)
                clear hK K
                refine wpAnyH_done (by kernel_rfl) ?_ _
                clear hS
                go_wp2_with fail
                go_meet
                exact ⟨_, uH, rfl, by omega, Blk.lt Hbx64.out, Hbx64.out, HofH, GateOwn.base HH64.out (by omega), HsmH.out, by omega, HB64.out, HbG64.out, HbS64.out, HG64.out, HS64.out⟩
            · go_simp
              generalize hW : World.alloc _ _ = w61
              have hbx61 : Blk w61 w60.heap.size 40 (GateR.cells (⟨0, 0, ⟨0, none, 0, []⟩, none, 0, []⟩ : GateR)) := by rw [← hW]; exact Blk.new' (by simp)
              have hb61 : Below w60.heap.size w60 w61 := by rw [← hW]; exact bA (Below.refl _ _) _
              have hy61 : w60.heap.size < w61.heap.size := by rw [← hW]; simp
              clear hW
              have hz61 : w60.heap.size ≤ w61.heap.size := by have := hb61.size; (try simp at this); omega
              have HB61 := Lib.hid (bT HB60.out hb61)
              clear HB60
              have HP061 := Lib.hid (Blk.belowAll HP060.out hb61)
              clear HP060
              have HP161 := Lib.hid (Blk.belowAll HP160.out hb61)
              clear HP160
              have HbS61 := Lib.hid (Blk.belowAll HbS60.out hb61)
              clear HbS60
              have HS61 := Lib.hid (GateOwn.below HS60.out hb61)
              clear HS60
              have HbG61 := Lib.hid (Blk.belowAll HbG60.out hb61)
              clear HbG60
              have HG61 := Lib.hid (GateMarked.below HG60.out hb61)
              clear HG60
              have HTD061 := Lib.hid (GateOwn.below HoTD0.out hb61)
              clear HoTD0
              clear hb61
              have Hbx61 := Lib.hid hbx61; clear hbx61
              obtain ⟨cN61_0, cN61_1, cN61_2, cN61_3, cN61_4⟩ := gateCells (t := 40) (v := (⟨0, 0, ⟨0, none, 0, []⟩, none, 0, []⟩ : GateR)) Hbx61.out
              have fn61_0 := (Hbx61.out).free 0
              have fn61_1 := (Hbx61.out).free 1
              have fn61_2 := (Hbx61.out).free 2
              have fn61_3 := (Hbx61.out).free 3
              have fn61_4 := (Hbx61.out).free 4
              refine hK.out _ _ (by exact ⟨gateCells (t := 47) (v := a0) HP061.out, denyCells (t := 33) (v := a1) HP161.out⟩) (fun hS => ?_)
              clear hK K
              refine wpAnyH_ready (rs := [3]) (by kernel_rfl) (by simp) ?_
              refine AllReadyH.cons rfl (fun K hK => ?_) (AllReadyH.nil)
              go_simp
              go_wp2_with fail
              refine (toDeny_any a1 _ (Hi1.out.over HB61.out) Hs1.out).mono ?_
              rintro e w62 ⟨⟨uTD1, rfl, hofTD1, hownTD1, hsmTD1⟩, hb62⟩
              clear cN61_0 cN61_1 cN61_2 cN61_3 cN61_4 fn61_0 fn61_1 fn61_2 fn61_3 fn61_4
              have hz62 : w61.heap.size ≤ w62.heap.size := by have := hb62.size; (try simp at this); omega
              have HB62 := Lib.hid (bT HB61.out hb62)
              clear HB61
              have HP062 := Lib.hid (Blk.belowAll HP061.out hb62)
              clear HP061
              have HP162 := Lib.hid (Blk.belowAll HP161.out hb62)
              clear HP161
              have HbS62 := Lib.hid (Blk.belowAll HbS61.out hb62)
              clear HbS61
              have HS62 := Lib.hid (GateOwn.below HS61.out hb62)
              clear HS61
              have HbG62 := Lib.hid (Blk.belowAll HbG61.out hb62)
              clear HbG61
              have HG62 := Lib.hid (GateMarked.below HG61.out hb62)
              clear HG61
              have HTD062 := Lib.hid (GateOwn.below HTD061.out hb62)
              clear HTD061
              have HN62 := Lib.hid (Blk.belowAll Hbx61.out hb62)
              clear Hbx61
              clear hb62
              have HofTD1 := Lib.hid hofTD1; clear hofTD1
              have HsmTD1 := Lib.hid hsmTD1; clear hsmTD1
              have LTTD1 := Lib.hid (fun k hk => (DenyOwn.lt hownTD1 k hk).1)
              have UPTD1 := Lib.hid (fun k hk => (DenyOwn.lt hownTD1 k hk).2)
              have HoTD1 := Lib.hid hownTD1; clear hownTD1
              (try unfold denyV)
              obtain ⟨cN62_0, cN62_1, cN62_2, cN62_3, cN62_4⟩ := gateCells (t := 40) (v := (⟨0, 0, ⟨0, none, 0, []⟩, none, 0, []⟩ : GateR)) HN62.out
              have fn62_0 := (HN62.out).free 0
              have fn62_1 := (HN62.out).free 1
              have fn62_2 := (HN62.out).free 2
              have fn62_3 := (HN62.out).free 3
              have fn62_4 := (HN62.out).free 4
              go_simp
              refine hK.out _ _ (by exact ⟨gateCells (t := 47) (v := a0) HP062.out, denyCells (t := 33) (v := a1) HP162.out⟩) (fun hS => ?_)
              clear hK K
              refine wpAnyH_ready (rs := [4]) (by kernel_rfl) (by simp) ?_
              refine AllReadyH.cons rfl (fun K hK => ?_) (AllReadyH.nil)
              go_simp
              go_wp2_with fail
              have hcf := implTakeDeny_any uTD0 uTD1 w62 (GateOwn.in_ HTD062.out) HsmTD0.out (DenyOwn.in_ HoTD1.out) HsmTD1.out
              (try unfold denyV gateV at hcf)
              have Hcf := Lib.hid hcf; clear hcf
              refine (Hcf.out).mono ?_
              rintro e w63 ⟨⟨uH, rfl, hofH, hownH, hsmH⟩, hb63⟩
              clear Hcf
              rw [HofTD0.out, HofTD1.out] at hofH
              clear cN62_0 cN62_1 cN62_2 cN62_3 cN62_4 fn62_0 fn62_1 fn62_2 fn62_3 fn62_4
              have hz63 : w62.heap.size ≤ w63.heap.size := by have := hb63.size; (try simp at this); omega
              have HB63 := Lib.hid (bT HB62.out hb63)
              clear HB62
              have HP063 := Lib.hid (Blk.belowAll HP062.out hb63)
              clear HP062
              have HP163 := Lib.hid (Blk.belowAll HP162.out hb63)
              clear HP162
              have HbS63 := Lib.hid (Blk.belowAll HbS62.out hb63)
              clear HbS62
              have HS63 := Lib.hid (GateOwn.below HS62.out hb63)
              clear HS62
              have HbG63 := Lib.hid (Blk.belowAll HbG62.out hb63)
              clear HbG62
              have HG63 := Lib.hid (GateMarked.below HG62.out hb63)
              clear HG62
              have HTD063 := Lib.hid (GateOwn.below HTD062.out hb63)
              clear HTD062
              have HN63 := Lib.hid (Blk.belowAll HN62.out hb63)
              clear HN62
              have HTD163 := Lib.hid (DenyOwn.below HoTD1.out hb63)
              clear HoTD1
              clear hb63
              have HofH := Lib.hid hofH; clear hofH
              have HsmH := Lib.hid hsmH; clear hsmH
              have LTH := Lib.hid (fun k hk => (GateOwn.lt hownH k hk).1)
              have UPH := Lib.hid (fun k hk => (GateOwn.lt hownH k hk).2)
              have HoH := Lib.hid hownH; clear hownH
              obtain ⟨cN63_0, cN63_1, cN63_2, cN63_3, cN63_4⟩ := gateCells (t := 40) (v := (⟨0, 0, ⟨0, none, 0, []⟩, none, 0, []⟩ : GateR)) HN63.out
              have fn63_0 := (HN63.out).free 0
              have fn63_1 := (HN63.out).free 1
              have fn63_2 := (HN63.out).free 2
              have fn63_3 := (HN63.out).free 3
              have fn63_4 := (HN63.out).free 4
              go_simp
              refine hK.out _ _ (by exact ⟨gateCells (t := 47) (v := a0) HP063.out, denyCells (t := 33) (v := a1) HP163.out⟩) (fun hS => ?_)
              clear hK K
              refine wpAnyH_ready (rs := [6]) (by kernel_rfl) (by simp) ?_
              refine AllReadyH.cons rfl (fun K hK => ?_) (AllReadyH.nil)
              go_simp
              generalize hW : World.setCell _ _ _ = w64
              have ht64 : Touch (fun i => i = w60.heap.size) w63 w64 := by rw [← hW]; exact (Touch.far (K := fun i => i = w60.heap.size) (Touch.far (K := fun i => i = w60.heap.size) (Touch.far (K := fun i => i = w60.heap.size) (Touch.far (K := fun i => i = w60.heap.size) (Touch.far (K := fun i => i = w60.heap.size) (Touch.refl _ _) (p := ⟨w60.heap.size, 0, none⟩) rfl _) (p := ⟨w60.heap.size, 1, none⟩) rfl _) (p := ⟨w60.heap.size, 2, none⟩) rfl _) (p := ⟨w60.heap.size, 3, none⟩) rfl _) (p := ⟨w60.heap.size, 4, none⟩) rfl _)
              have hbx64 : Blk w64 (w60.heap.size) 40 (GateR.cells uH) := by rw [← hW]; exact (Blk.put (Blk.put (Blk.put (Blk.put (Blk.put HN63.out 0 (.int .i64 uH.val)) 1 (.int .i64 uH.nxt)) 2 (.int .i64 uH.deny.ver)) 3 (.slice uH.deny.cardsA uH.deny.cards.length uH.deny.cardsc)) 4 (.slice uH.keptA uH.kept.length uH.keptc))
              clear hW
              clear cN63_0 cN63_1 cN63_2 cN63_3 cN63_4 fn63_0 fn63_1 fn63_2 fn63_3 fn63_4
              have hz64 : w63.heap.size ≤ w64.heap.size := by have := ht64.size; (try simp at this); omega
              have HB64 := Lib.hid (Touch.below HB63.out ht64 (fun i hi => by omega))
              clear HB63
              have HP064 := Lib.hid (Blk.touch HP063.out ht64 (show ¬ (w.heap.size = w60.heap.size) by omega))
              clear HP063
              have HP164 := Lib.hid (Blk.touch HP163.out ht64 (show ¬ (w.heap.size + 1 = w60.heap.size) by omega))
              clear HP163
              have HbS64 := Lib.hid (Blk.touch HbS63.out ht64 (show ¬ (bS = w60.heap.size) by omega))
              clear HbS63
              have HS64 := Lib.hid (GateOwn.touch HS63.out ht64 (fun i hi e0 => by have a1 := LTS.out _ hi; have a2 := UPS.out _ hi; omega))
              clear HS63
              have HbG64 := Lib.hid (Blk.touch HbG63.out ht64 (show ¬ (w48.heap.size = w60.heap.size) by omega))
              clear HbG63
              have HG64 := Lib.hid (GateMarked.touch HG63.out ht64 (fun i hi e0 => by have a1 := LTG.out _ hi; have a2 := UPG.out _ hi; omega))
              clear HG63
              have HH64 := Lib.hid (GateOwn.touch HoH.out ht64 (fun i hi e0 => by have a1 := LTH.out _ hi; have a2 := UPH.out _ hi; omega))
              clear HoH
              clear ht64 HN63
              have Hbx64 := Lib.hid hbx64; clear hbx64
              refine hK.out _ _ (by exact ⟨gateCells (t := 47) (v := a0) HP064.out, denyCells (t := 33) (v := a1) HP164.out⟩) (fun hS => ?_)
              clear hK K
              refine wpAnyH_done (by kernel_rfl) ?_ _
              clear hS
              go_wp2_with fail
              go_meet
              exact ⟨_, uH, rfl, by omega, Blk.lt Hbx64.out, Hbx64.out, HofH, GateOwn.base HH64.out (by omega), HsmH.out, by omega, HB64.out, HbG64.out, HbS64.out, HG64.out, HS64.out⟩
          · go_simp
            generalize hW : World.alloc _ _ = w60
            have hbx60 : Blk w60 w59.heap.size 40 (GateR.cells (⟨0, 0, ⟨0, none, 0, []⟩, none, 0, []⟩ : GateR)) := by rw [← hW]; exact Blk.new' (by simp)
            have hb60 : Below w59.heap.size w59 w60 := by rw [← hW]; exact bA (Below.refl _ _) _
            have hy60 : w59.heap.size < w60.heap.size := by rw [← hW]; simp
            clear hW
            have hz60 : w59.heap.size ≤ w60.heap.size := by have := hb60.size; (try simp at this); omega
            have HB60 := Lib.hid (bT HB59.out hb60)
            clear HB59
            have HP060 := Lib.hid (Blk.belowAll HP059.out hb60)
            clear HP059
            have HP160 := Lib.hid (Blk.belowAll HP159.out hb60)
            clear HP159
            have HbS60 := Lib.hid (Blk.belowAll HbS59.out hb60)
            clear HbS59
            have HS60 := Lib.hid (GateOwn.below HS59.out hb60)
            clear HS59
            have HbG60 := Lib.hid (Blk.belowAll HbG59.out hb60)
            clear HbG59
            have HG60 := Lib.hid (GateMarked.below HG59.out hb60)
            clear HG59
            clear hb60
            have Hbx60 := Lib.hid hbx60; clear hbx60
            obtain ⟨cN60_0, cN60_1, cN60_2, cN60_3, cN60_4⟩ := gateCells (t := 40) (v := (⟨0, 0, ⟨0, none, 0, []⟩, none, 0, []⟩ : GateR)) (blkDrew Hbx60.out)
            have fn60_0 := ((blkDrew Hbx60.out)).free 0
            have fn60_1 := ((blkDrew Hbx60.out)).free 1
            have fn60_2 := ((blkDrew Hbx60.out)).free 2
            have fn60_3 := ((blkDrew Hbx60.out)).free 3
            have fn60_4 := ((blkDrew Hbx60.out)).free 4
            refine hK.out _ _ (by exact ⟨gateCells (t := 47) (v := a0) (blkDrew HP060.out), denyCells (t := 33) (v := a1) (blkDrew HP160.out)⟩) (fun hS => ?_)
            clear hK K
            refine wpAnyH_ready (rs := [1]) (by kernel_rfl) (by simp) ?_
            refine AllReadyH.cons rfl (fun K hK => ?_) (AllReadyH.nil)
            go_simp
            go_wp2_with fail
            refine (toGate_any a0 _ (Hi0.out.over (bD1 HB60.out)) Hs0.out).mono ?_
            rintro e w61 ⟨⟨uTD0, rfl, hofTD0, hownTD0, hsmTD0⟩, hb61⟩
            clear cN60_0 cN60_1 cN60_2 cN60_3 cN60_4 fn60_0 fn60_1 fn60_2 fn60_3 fn60_4
            have hz61 : w60.heap.size ≤ w61.heap.size := by have := hb61.size; (try simp at this); omega
            have HB61 := Lib.hid (bT (bD1 HB60.out) hb61)
            clear HB60
            have HP061 := Lib.hid (Blk.belowAll (blkDrew HP060.out) hb61)
            clear HP060
            have HP161 := Lib.hid (Blk.belowAll (blkDrew HP160.out) hb61)
            clear HP160
            have HbS61 := Lib.hid (Blk.belowAll (blkDrew HbS60.out) hb61)
            clear HbS60
            have HS61 := Lib.hid (GateOwn.below (GateOwn.drew HS60.out) hb61)
            clear HS60
            have HbG61 := Lib.hid (Blk.belowAll (blkDrew HbG60.out) hb61)
            clear HbG60
            have HG61 := Lib.hid (GateMarked.below (GateMarked.drew HG60.out) hb61)
            clear HG60
            have HN61 := Lib.hid (Blk.belowAll (blkDrew Hbx60.out) hb61)
            clear Hbx60
            clear hb61
            have HofTD0 := Lib.hid hofTD0; clear hofTD0
            have HsmTD0 := Lib.hid hsmTD0; clear hsmTD0
            have LTTD0 := Lib.hid (fun k hk => (GateOwn.lt hownTD0 k hk).1)
            have UPTD0 := Lib.hid (fun k hk => (GateOwn.lt hownTD0 k hk).2)
            have HoTD0 := Lib.hid hownTD0; clear hownTD0
            (try unfold gateV)
            obtain ⟨cN61_0, cN61_1, cN61_2, cN61_3, cN61_4⟩ := gateCells (t := 40) (v := (⟨0, 0, ⟨0, none, 0, []⟩, none, 0, []⟩ : GateR)) HN61.out
            have fn61_0 := (HN61.out).free 0
            have fn61_1 := (HN61.out).free 1
            have fn61_2 := (HN61.out).free 2
            have fn61_3 := (HN61.out).free 3
            have fn61_4 := (HN61.out).free 4
            go_simp
            refine hK.out _ _ (by exact ⟨gateCells (t := 47) (v := a0) HP061.out, denyCells (t := 33) (v := a1) HP161.out⟩) (fun hS => ?_)
            clear hK K
            refine wpAnyH_ready (rs := [3]) (by kernel_rfl) (by simp) ?_
            refine AllReadyH.cons rfl (fun K hK => ?_) (AllReadyH.nil)
            go_simp
            go_wp2_with fail
            refine (toDeny_any a1 _ (Hi1.out.over HB61.out) Hs1.out).mono ?_
            rintro e w62 ⟨⟨uTD1, rfl, hofTD1, hownTD1, hsmTD1⟩, hb62⟩
            clear cN61_0 cN61_1 cN61_2 cN61_3 cN61_4 fn61_0 fn61_1 fn61_2 fn61_3 fn61_4
            have hz62 : w61.heap.size ≤ w62.heap.size := by have := hb62.size; (try simp at this); omega
            have HB62 := Lib.hid (bT HB61.out hb62)
            clear HB61
            have HP062 := Lib.hid (Blk.belowAll HP061.out hb62)
            clear HP061
            have HP162 := Lib.hid (Blk.belowAll HP161.out hb62)
            clear HP161
            have HbS62 := Lib.hid (Blk.belowAll HbS61.out hb62)
            clear HbS61
            have HS62 := Lib.hid (GateOwn.below HS61.out hb62)
            clear HS61
            have HbG62 := Lib.hid (Blk.belowAll HbG61.out hb62)
            clear HbG61
            have HG62 := Lib.hid (GateMarked.below HG61.out hb62)
            clear HG61
            have HN62 := Lib.hid (Blk.belowAll HN61.out hb62)
            clear HN61
            have HTD062 := Lib.hid (GateOwn.below HoTD0.out hb62)
            clear HoTD0
            clear hb62
            have HofTD1 := Lib.hid hofTD1; clear hofTD1
            have HsmTD1 := Lib.hid hsmTD1; clear hsmTD1
            have LTTD1 := Lib.hid (fun k hk => (DenyOwn.lt hownTD1 k hk).1)
            have UPTD1 := Lib.hid (fun k hk => (DenyOwn.lt hownTD1 k hk).2)
            have HoTD1 := Lib.hid hownTD1; clear hownTD1
            (try unfold denyV)
            obtain ⟨cN62_0, cN62_1, cN62_2, cN62_3, cN62_4⟩ := gateCells (t := 40) (v := (⟨0, 0, ⟨0, none, 0, []⟩, none, 0, []⟩ : GateR)) HN62.out
            have fn62_0 := (HN62.out).free 0
            have fn62_1 := (HN62.out).free 1
            have fn62_2 := (HN62.out).free 2
            have fn62_3 := (HN62.out).free 3
            have fn62_4 := (HN62.out).free 4
            go_simp
            refine hK.out _ _ (by exact ⟨gateCells (t := 47) (v := a0) HP062.out, denyCells (t := 33) (v := a1) HP162.out⟩) (fun hS => ?_)
            clear hK K
            refine wpAnyH_ready (rs := [4]) (by kernel_rfl) (by simp) ?_
            refine AllReadyH.cons rfl (fun K hK => ?_) (AllReadyH.nil)
            go_simp
            go_wp2_with fail
            have hcf := implTakeDeny_any uTD0 uTD1 w62 (GateOwn.in_ HTD062.out) HsmTD0.out (DenyOwn.in_ HoTD1.out) HsmTD1.out
            (try unfold denyV gateV at hcf)
            have Hcf := Lib.hid hcf; clear hcf
            refine (Hcf.out).mono ?_
            rintro e w63 ⟨⟨uH, rfl, hofH, hownH, hsmH⟩, hb63⟩
            clear Hcf
            rw [HofTD0.out, HofTD1.out] at hofH
            clear cN62_0 cN62_1 cN62_2 cN62_3 cN62_4 fn62_0 fn62_1 fn62_2 fn62_3 fn62_4
            have hz63 : w62.heap.size ≤ w63.heap.size := by have := hb63.size; (try simp at this); omega
            have HB63 := Lib.hid (bT HB62.out hb63)
            clear HB62
            have HP063 := Lib.hid (Blk.belowAll HP062.out hb63)
            clear HP062
            have HP163 := Lib.hid (Blk.belowAll HP162.out hb63)
            clear HP162
            have HbS63 := Lib.hid (Blk.belowAll HbS62.out hb63)
            clear HbS62
            have HS63 := Lib.hid (GateOwn.below HS62.out hb63)
            clear HS62
            have HbG63 := Lib.hid (Blk.belowAll HbG62.out hb63)
            clear HbG62
            have HG63 := Lib.hid (GateMarked.below HG62.out hb63)
            clear HG62
            have HN63 := Lib.hid (Blk.belowAll HN62.out hb63)
            clear HN62
            have HTD063 := Lib.hid (GateOwn.below HTD062.out hb63)
            clear HTD062
            have HTD163 := Lib.hid (DenyOwn.below HoTD1.out hb63)
            clear HoTD1
            clear hb63
            have HofH := Lib.hid hofH; clear hofH
            have HsmH := Lib.hid hsmH; clear hsmH
            have LTH := Lib.hid (fun k hk => (GateOwn.lt hownH k hk).1)
            have UPH := Lib.hid (fun k hk => (GateOwn.lt hownH k hk).2)
            have HoH := Lib.hid hownH; clear hownH
            obtain ⟨cN63_0, cN63_1, cN63_2, cN63_3, cN63_4⟩ := gateCells (t := 40) (v := (⟨0, 0, ⟨0, none, 0, []⟩, none, 0, []⟩ : GateR)) HN63.out
            have fn63_0 := (HN63.out).free 0
            have fn63_1 := (HN63.out).free 1
            have fn63_2 := (HN63.out).free 2
            have fn63_3 := (HN63.out).free 3
            have fn63_4 := (HN63.out).free 4
            go_simp
            refine hK.out _ _ (by exact ⟨gateCells (t := 47) (v := a0) HP063.out, denyCells (t := 33) (v := a1) HP163.out⟩) (fun hS => ?_)
            clear hK K
            refine wpAnyH_ready (rs := [6]) (by kernel_rfl) (by simp) ?_
            refine AllReadyH.cons rfl (fun K hK => ?_) (AllReadyH.nil)
            go_simp
            generalize hW : World.setCell _ _ _ = w64
            have ht64 : Touch (fun i => i = w59.heap.size) w63 w64 := by rw [← hW]; exact (Touch.far (K := fun i => i = w59.heap.size) (Touch.far (K := fun i => i = w59.heap.size) (Touch.far (K := fun i => i = w59.heap.size) (Touch.far (K := fun i => i = w59.heap.size) (Touch.far (K := fun i => i = w59.heap.size) (Touch.refl _ _) (p := ⟨w59.heap.size, 0, none⟩) rfl _) (p := ⟨w59.heap.size, 1, none⟩) rfl _) (p := ⟨w59.heap.size, 2, none⟩) rfl _) (p := ⟨w59.heap.size, 3, none⟩) rfl _) (p := ⟨w59.heap.size, 4, none⟩) rfl _)
            have hbx64 : Blk w64 (w59.heap.size) 40 (GateR.cells uH) := by rw [← hW]; exact (Blk.put (Blk.put (Blk.put (Blk.put (Blk.put HN63.out 0 (.int .i64 uH.val)) 1 (.int .i64 uH.nxt)) 2 (.int .i64 uH.deny.ver)) 3 (.slice uH.deny.cardsA uH.deny.cards.length uH.deny.cardsc)) 4 (.slice uH.keptA uH.kept.length uH.keptc))
            clear hW
            clear cN63_0 cN63_1 cN63_2 cN63_3 cN63_4 fn63_0 fn63_1 fn63_2 fn63_3 fn63_4
            have hz64 : w63.heap.size ≤ w64.heap.size := by have := ht64.size; (try simp at this); omega
            have HB64 := Lib.hid (Touch.below HB63.out ht64 (fun i hi => by omega))
            clear HB63
            have HP064 := Lib.hid (Blk.touch HP063.out ht64 (show ¬ (w.heap.size = w59.heap.size) by omega))
            clear HP063
            have HP164 := Lib.hid (Blk.touch HP163.out ht64 (show ¬ (w.heap.size + 1 = w59.heap.size) by omega))
            clear HP163
            have HbS64 := Lib.hid (Blk.touch HbS63.out ht64 (show ¬ (bS = w59.heap.size) by omega))
            clear HbS63
            have HS64 := Lib.hid (GateOwn.touch HS63.out ht64 (fun i hi e0 => by have a1 := LTS.out _ hi; have a2 := UPS.out _ hi; omega))
            clear HS63
            have HbG64 := Lib.hid (Blk.touch HbG63.out ht64 (show ¬ (w48.heap.size = w59.heap.size) by omega))
            clear HbG63
            have HG64 := Lib.hid (GateMarked.touch HG63.out ht64 (fun i hi e0 => by have a1 := LTG.out _ hi; have a2 := UPG.out _ hi; omega))
            clear HG63
            have HH64 := Lib.hid (GateOwn.touch HoH.out ht64 (fun i hi e0 => by have a1 := LTH.out _ hi; have a2 := UPH.out _ hi; omega))
            clear HoH
            clear ht64 HN63
            have Hbx64 := Lib.hid hbx64; clear hbx64
            refine hK.out _ _ (by exact ⟨gateCells (t := 47) (v := a0) HP064.out, denyCells (t := 33) (v := a1) HP164.out⟩) (fun hS => ?_)
            clear hK K
            refine wpAnyH_done (by kernel_rfl) ?_ _
            clear hS
            go_wp2_with fail
            go_meet
            exact ⟨_, uH, rfl, by omega, Blk.lt Hbx64.out, Hbx64.out, HofH, GateOwn.base HH64.out (by omega), HsmH.out, by omega, HB64.out, HbG64.out, HbS64.out, HG64.out, HS64.out⟩
        case rest =>
          obtain ⟨bH, uH, rfl, hb0H, hb1H, hbxH, HofH, hownH, hsmH, hzcH, hkH0, hkH1, hkH2, hkH3, hkH4⟩ := hcut
          obtain ⟨w99, hwc⟩ : ∃ x, x = wc := ⟨_, rfl⟩
          subst hwc
          have hz99 := hzcH
          have HbxH := Lib.hid hbxH; clear hbxH
          have HsmH := Lib.hid hsmH; clear hsmH
          have HkH0 := Lib.hid hkH0; clear hkH0
          have HkH1 := Lib.hid hkH1; clear hkH1
          have HkH2 := Lib.hid hkH2; clear hkH2
          have HkH3 := Lib.hid hkH3; clear hkH3
          have HkH4 := Lib.hid hkH4; clear hkH4
          have LTH := Lib.hid (fun k hk => (GateOwn.lt hownH k hk).1)
          have UPH := Lib.hid (fun k hk => (GateOwn.lt hownH k hk).2)
          have HoH := Lib.hid hownH; clear hownH
          obtain ⟨cbH99_0, cbH99_1, cbH99_2, cbH99_3, cbH99_4⟩ := gateCells (t := 40) (v := uH) HbxH.out
          obtain ⟨cbS99_0, cbS99_1, cbS99_2, cbS99_3, cbS99_4⟩ := gateCells (t := 40) (v := uS) HkH2.out
          go_wp2_with fail
          refine (eqGate_same uH uS _ (GateOwn.in_ HoH.out) (GateOwn.in_ HkH4.out) HsmH.out HsmS.out (HofH.out.trans HofS.out.symm)).mono ?_
          rintro e w100 ⟨rfl, hb100⟩
          clear cbH99_0 cbH99_1 cbH99_2 cbH99_3 cbH99_4 cbS99_0 cbS99_1 cbS99_2 cbS99_3 cbS99_4
          have hz100 : w99.heap.size ≤ w100.heap.size := by have := hb100.size; (try simp at this); omega
          have HB100 := Lib.hid (bT HkH0.out hb100)
          clear HkH0
          have HbG100 := Lib.hid (Blk.belowAll HkH1.out hb100)
          clear HkH1
          have HbS100 := Lib.hid (Blk.belowAll HkH2.out hb100)
          clear HkH2
          have HG100 := Lib.hid (GateMarked.below HkH3.out hb100)
          clear HkH3
          have HS100 := Lib.hid (GateOwn.below HkH4.out hb100)
          clear HkH4
          have HbH100 := Lib.hid (Blk.belowAll HbxH.out hb100)
          clear HbxH
          have HH100 := Lib.hid (GateOwn.below HoH.out hb100)
          clear HoH
          clear hb100
          obtain ⟨cbG100_0, cbG100_1, cbG100_2, cbG100_3, cbG100_4⟩ := gateCells (t := 40) (v := uG) HbG100.out
          go_wp2_with fail
          refine (heldGate_own _ uG (1) _ HG100.out HsmG.out (by omega) (by omega)).mono ?_
          rintro e w101 ⟨rfl, hb101⟩
          clear cbG100_0 cbG100_1 cbG100_2 cbG100_3 cbG100_4
          have hz101 : w100.heap.size ≤ w101.heap.size := by have := hb101.size; (try simp at this); omega
          have HB101 := Lib.hid (bT HB100.out hb101)
          clear HB100
          have HbG101 := Lib.hid (Blk.belowAll HbG100.out hb101)
          clear HbG100
          have HbS101 := Lib.hid (Blk.belowAll HbS100.out hb101)
          clear HbS100
          have HG101 := Lib.hid (GateMarked.below HG100.out hb101)
          clear HG100
          have HbH101 := Lib.hid (Blk.belowAll HbH100.out hb101)
          clear HbH100
          clear hb101
          go_wp2
          go_ret
          exact ⟨rfl, HB101.out⟩

set_option maxRecDepth 100000 in
theorem lifted (os : Os) (started : os.Started) (H : Type) (enc : TypeId × Value → H) :
    ReturnsInHanded {} Try.checked os 20 .any (Rows.fnExactTakeDenySpec.pre6 enc Try.prog Try.f20 Rows.fnExactTakeDenyRow.domain false) (Rows.fnExactTakeDenySpec.post enc Try.prog Try.f20 false true false false) := by
  refine returnsInHanded_of_change (C := Try.checked) Cells.own started (by kernel_rfl) Try.func20
    (ChangeSpec.witness6 (enc := enc) (C := Try.checked) false ⟨#[], #[.agg #[.int .i64 0, .int .i64 0, .int .i64 0, .slice none 0 0, .slice none 0 0], .agg #[.int .i64 0, .slice none 0 0]], []⟩ 8 (by kernel_rfl) (by kernel_rfl) (by kernel_rfl) (by kernel_rfl)) ?_
  intro W base args ds gs before hval0 hW _ _
  have hval : ∀ (j : Nat) t v, Try.f20.params[j]? = some t → args[j]? = some v → Value.okWide Try.prog W .any base t v := hval0
  have hW' := hW
  obtain ⟨p, q, hA0, hV, rfl, _, _⟩ := hW
  have hA : DataW.TrodAll enc Try.prog W 0 (fun _ => true) true Try.f20.params.toList args.toList ds p := hA0
  rw [Try.params20] at hA hval
  obtain ⟨v0, vs0, d0, ds0, p0, q0, hargs, rfl, rfl, h0, r0⟩ := trodAll_cons hA
  obtain ⟨v1, vs1, d1, ds1, p1, q1, rfl, rfl, rfl, h1, r1⟩ := trodAll_cons r0
  obtain ⟨rfl, rfl, rfl⟩ := trodAll_nil r1
  obtain rfl : args = #[v0, v1] := by cases args; simp_all
  obtain ⟨rfl, rfl⟩ := trodVars_none hV
  clear hA0 hval0
  have hlt : ∀ x ∈ (p0 ++ (p1 ++ [])), x.block < W.heap.size := fun x hx => hW'.lt x (by simpa using hx)
  have k0 := fun (W' : World) (hn : Below W.heap.size W W') => Below.trod Cells.laidOut (by kernel_rfl) (of_decide_eq_true (by kernel_rfl)) h0 hn (fun x hx => hlt x (by simp [hx]))
  have k1 := fun (W' : World) (hn : Below W.heap.size W W') => Below.trod Cells.laidOut (by kernel_rfl) (of_decide_eq_true (by kernel_rfl)) h1 hn (fun x hx => hlt x (by simp [hx]))
  obtain ⟨a0, rfl, i0, f0⟩ := gate_open (hval 0 47 v0 rfl rfl) h0
  obtain ⟨a1, rfl, i1, f1⟩ := deny_open (hval 1 33 v1 rfl rfl) h1
  refine (walk W a0 i0 f0 a1 i1 f1).mono fun e W' ⟨he, hnx⟩ => ?_
  subst he
  refine ⟨_, rfl, _, _, _, [], (p0 ++ (p1 ++ [])), [], hW', trodAll_mk1 (shut_bool Try.underlying4 _), (trodAll_cons_mk (k0 _ hnx) (trodAll_cons_mk (k1 _ hnx) trodAll_mk0)), rfl, hnx.frame _, fun h => by cases h⟩

theorem closed : joinedFacts Try.prog 20 Try.f20 Rows.fnExactTakeDenySpec Rows.fnExactTakeDenyRow = true := by
  unfold joinedFacts
  rw [Cells.laidOut, Cells.mapsRowed_, Cells.stops, Cells.stopKnobs, Cells.plainKeys, Cells.stopsHeard, Cells.mayEnter, Cells.liftsFinal, Cells.make]
  kernel_rfl

theorem over : Rows.fnExactTakeDenyRow.holds Try.pinned (OpenSpec.ofChange Rows.fnExactTakeDenySpec) :=
  OpenClaim.holds_of_wide 20 Try.f20 rfl rfl rfl rfl rfl rfl rfl ⟨rfl, rfl, rfl, rfl, rfl⟩ rfl rfl rfl rfl rfl (by kernel_rfl) Try.func20 closed
    (of_decide_eq_true (by kernel_rfl)) (by unfold Func.isWrapper; first | (rw [if_pos (by decide +kernel)]; kernel_rfl) | (rw [if_neg (by decide +kernel)]; exact ⟨rfl, rfl⟩))
    (fun os started H enc _ => lifted os started H enc)

/-- THE STATEMENT -/
theorem proved : Rows.FnExactTakeDenySaid := over
#print axioms proved
end Go.Proofs.Ytpijjlggmibfnaa.fnExactTakeDeny
