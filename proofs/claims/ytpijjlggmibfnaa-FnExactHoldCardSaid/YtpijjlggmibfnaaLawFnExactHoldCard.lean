/-
  At every validator, card, minute, stop and way, HoldCard of the program answers as its model in every field, leaves its arguments as they were, and its answer owns its memory: the law FnExactHoldCard returns true. No conditions.
-/
import Derived.Test.YtpijjlggmibfnaaOpen
import Derived.Test.YtpijjlggmibfnaaHoldSpec
import Derived.Test.YtpijjlggmibfnaaOpGate
import Derived.Test.YtpijjlggmibfnaaReg
set_option linter.unusedSimpArgs false
namespace Go.Proofs.Ytpijjlggmibfnaa.fnExactHoldCard
open Go.ChangeShapes Go.WideShapes Go.ChangeAt Go.RowKit Go.Deep
set_option linter.unusedVariables false

set_option maxRecDepth 100000 in
set_option maxHeartbeats 2000000 in
theorem walk (w : World) (a0 : GateR) (i0 : GateIn w w.heap.size a0) (f0 : gateFits a0) (a1 : Int) (w1 : fitsI a1) (a2 : Int) (w2 : fitsI a2) (a3 : Int) (w3 : fitsI a3) (a4 : Bool) : Calls Try.prog 14 #[gateV a0, .int .i64 a1, .int .i64 a2, .int .i64 a3, .bool a4] w (TrueBelow w) := by
  have Hi := Lib.hid i0; clear i0
  unfold gateV
  go_enter Try.func14, Try.ntmps14
  go_wp2_with fail
  generalize hW : World.alloc _ _ = w1
  have hbx1 : Blk w1 w.heap.size 47 (GateR.cells a0) := by rw [← hW]; exact Blk.new w _ _
  have HB1 : Hid (Below w.heap.size w w1) := Lib.hid (by rw [← hW]; exact bA (Below.refl _ _) _)
  have hz1 : w.heap.size < w1.heap.size := by rw [← hW]; simp
  clear hW
  have Hbx1 := Lib.hid hbx1; clear hbx1
  refine (szGate_any a0 1048576 _ (Hi.out.over HB1.out) (by omega) (by omega)).mono ?_
  rintro e w2 ⟨⟨r, rfl, ra, rb, rc⟩, hb2⟩
  have hz2 : w1.heap.size ≤ w2.heap.size := by have := hb2.size; (try simp at this); omega
  have HB2 := Lib.hid (bT HB1.out hb2)
  clear HB1
  have HP2 := Lib.hid (Blk.belowAll Hbx1.out hb2)
  clear Hbx1
  clear hb2
  rcases rc with rc | ⟨rc, hs⟩
  · have hd : decide (r < 0) = true := by rw [decide_eq_true_eq]; omega
    go_wp2
    go_ret
    exact ⟨rfl, HB2.out⟩
  · have hd : decide (r < 0) = false := by rw [decide_eq_false_iff_not]; omega
    have Hs := Lib.hid hs; clear hs
    obtain ⟨cP2_0, cP2_1, cP2_2, cP2_3, cP2_4⟩ := gateCells (t := 47) (v := a0) HP2.out
    go_wp2_with fail
    refine (toGate_any a0 _ (Hi.out.over HB2.out) Hs.out).mono ?_
    rintro e w3 ⟨⟨uA, rfl, hofA, hownA, hsmA⟩, hb3⟩
    clear cP2_0 cP2_1 cP2_2 cP2_3 cP2_4
    have hz3 : w2.heap.size ≤ w3.heap.size := by have := hb3.size; (try simp at this); omega
    have HB3 := Lib.hid (bT HB2.out hb3)
    clear HB2
    have HP3 := Lib.hid (Blk.belowAll HP2.out hb3)
    clear HP2
    clear hb3
    have HofA := Lib.hid hofA; clear hofA
    have HsmA := Lib.hid hsmA; clear hsmA
    have LTA := Lib.hid (fun k hk => (GateOwn.lt hownA k hk).1)
    have UPA := Lib.hid (fun k hk => (GateOwn.lt hownA k hk).2)
    have HoA := Lib.hid hownA; clear hownA
    unfold gateV
    go_wp2_with fail
    refine (specHoldCard_any uA a1 a2 a3 a4 _ (GateOwn.in_ HoA.out) HsmA.out).mono ?_
    rintro e w4 ⟨⟨uS, rfl, hofS, hownS, hsmS⟩, hb4⟩
    (try rw [HofA.out])
    rw [HofA.out] at hofS
    have hz4 : w3.heap.size ≤ w4.heap.size := by have := hb4.size; (try simp at this); omega
    have HB4 := Lib.hid (bT HB3.out hb4)
    clear HB3
    have HP4 := Lib.hid (Blk.belowAll HP3.out hb4)
    clear HP3
    have HA4 := Lib.hid (GateOwn.below HoA.out hb4)
    clear HoA
    clear hb4
    have HofS := Lib.hid hofS; clear hofS
    have HsmS := Lib.hid hsmS; clear hsmS
    have LTS := Lib.hid (fun k hk => (GateOwn.lt hownS k hk).1)
    have UPS := Lib.hid (fun k hk => (GateOwn.lt hownS k hk).2)
    have HoS := Lib.hid hownS; clear hownS
    unfold gateV
    have pfP4_0 : (w4.alloc (.cells #[.int .i64 uS.val, .int .i64 uS.nxt, .int .i64 uS.deny.ver, .slice uS.deny.cardsA uS.deny.cards.length uS.deny.cardsc, .slice uS.keptA uS.kept.length uS.keptc] 40)).cell? ⟨w.heap.size, 0, none⟩ = some (.int .i64 a0.val) := ((Blk.alloc HP4.out _)).cell 0
    have pfP4_1 : (w4.alloc (.cells #[.int .i64 uS.val, .int .i64 uS.nxt, .int .i64 uS.deny.ver, .slice uS.deny.cardsA uS.deny.cards.length uS.deny.cardsc, .slice uS.keptA uS.kept.length uS.keptc] 40)).cell? ⟨w.heap.size, 1, none⟩ = some (.int .i64 a0.nxt) := ((Blk.alloc HP4.out _)).cell 1
    have pfP4_2 : (w4.alloc (.cells #[.int .i64 uS.val, .int .i64 uS.nxt, .int .i64 uS.deny.ver, .slice uS.deny.cardsA uS.deny.cards.length uS.deny.cardsc, .slice uS.keptA uS.kept.length uS.keptc] 40)).cell? ⟨w.heap.size, 2, none⟩ = some (.int .i64 a0.deny.ver) := ((Blk.alloc HP4.out _)).cell 2
    have pfP4_3 : (w4.alloc (.cells #[.int .i64 uS.val, .int .i64 uS.nxt, .int .i64 uS.deny.ver, .slice uS.deny.cardsA uS.deny.cards.length uS.deny.cardsc, .slice uS.keptA uS.kept.length uS.keptc] 40)).cell? ⟨w.heap.size, 3, none⟩ = some (.slice a0.deny.cardsA a0.deny.cards.length a0.deny.cardsc) := ((Blk.alloc HP4.out _)).cell 3
    have pfP4_4 : (w4.alloc (.cells #[.int .i64 uS.val, .int .i64 uS.nxt, .int .i64 uS.deny.ver, .slice uS.deny.cardsA uS.deny.cards.length uS.deny.cardsc, .slice uS.keptA uS.kept.length uS.keptc] 40)).cell? ⟨w.heap.size, 4, none⟩ = some (.slice a0.keptA a0.kept.length a0.keptc) := ((Blk.alloc HP4.out _)).cell 4
    go_wp2_with fail
    generalize hW : World.alloc _ _ = w5
    have hbx5 : Blk w5 w4.heap.size 40 (GateR.cells uS) := by rw [← hW]; exact Blk.new w4 _ _
    have hb5 : Below w4.heap.size w4 w5 := by rw [← hW]; exact bA (Below.refl _ _) _
    have hy5 : w4.heap.size < w5.heap.size := by rw [← hW]; simp
    clear hW
    clear pfP4_0 pfP4_1 pfP4_2 pfP4_3 pfP4_4
    have hz5 : w4.heap.size ≤ w5.heap.size := by have := hb5.size; (try simp at this); omega
    have HB5 := Lib.hid (bT HB4.out hb5)
    clear HB4
    have HP5 := Lib.hid (Blk.belowAll HP4.out hb5)
    clear HP4
    have HS5 := Lib.hid (GateOwn.below HoS.out hb5)
    clear HoS
    clear hb5
    have Hbx5 := Lib.hid hbx5; clear hbx5
    obtain ⟨cP5_0, cP5_1, cP5_2, cP5_3, cP5_4⟩ := gateCells (t := 47) (v := a0) HP5.out
    refine (toGate_any a0 _ (Hi.out.over HB5.out) Hs.out).mono ?_
    rintro e w6 ⟨⟨uX, rfl, hofX, hownX, hsmX⟩, hb6⟩
    clear cP5_0 cP5_1 cP5_2 cP5_3 cP5_4
    have hz6 : w5.heap.size ≤ w6.heap.size := by have := hb6.size; (try simp at this); omega
    have HB6 := Lib.hid (bT HB5.out hb6)
    clear HB5
    have HP6 := Lib.hid (Blk.belowAll HP5.out hb6)
    clear HP5
    have HS6 := Lib.hid (GateOwn.below HS5.out hb6)
    clear HS5
    have HbS6 := Lib.hid (Blk.belowAll Hbx5.out hb6)
    clear Hbx5
    clear hb6
    have HofX := Lib.hid hofX; clear hofX
    have HsmX := Lib.hid hsmX; clear hsmX
    have LTX := Lib.hid (fun k hk => (GateOwn.lt hownX k hk).1)
    have UPX := Lib.hid (fun k hk => (GateOwn.lt hownX k hk).2)
    have HoX := Lib.hid hownX; clear hownX
    unfold gateV
    go_wp2_with fail
    generalize hW : World.alloc _ _ = w7
    have hbx7 : Blk w7 w6.heap.size 40 (GateR.cells uX) := by rw [← hW]; exact Blk.new w6 _ _
    have hb7 : Below w6.heap.size w6 w7 := by rw [← hW]; exact bA (Below.refl _ _) _
    have hy7 : w6.heap.size < w7.heap.size := by rw [← hW]; simp
    clear hW
    have hz7 : w6.heap.size ≤ w7.heap.size := by have := hb7.size; (try simp at this); omega
    have HB7 := Lib.hid (bT HB6.out hb7)
    clear HB6
    have HP7 := Lib.hid (Blk.belowAll HP6.out hb7)
    clear HP6
    have HS7 := Lib.hid (GateOwn.below HS6.out hb7)
    clear HS6
    have HbS7 := Lib.hid (Blk.belowAll HbS6.out hb7)
    clear HbS6
    have HX7 := Lib.hid (GateOwn.below HoX.out hb7)
    clear HoX
    clear hb7
    have Hbx7 := Lib.hid hbx7; clear hbx7
    refine (implHoldCard_any uX a1 a2 a3 a4 _ (GateOwn.in_ HX7.out) HsmX.out).mono ?_
    rintro e w8 ⟨⟨uG, rfl, hofG, hownG, hsmG⟩, hb8⟩
    (try rw [HofX.out])
    rw [HofX.out] at hofG
    have hz8 : w7.heap.size ≤ w8.heap.size := by have := hb8.size; (try simp at this); omega
    have HB8 := Lib.hid (bT HB7.out hb8)
    clear HB7
    have HP8 := Lib.hid (Blk.belowAll HP7.out hb8)
    clear HP7
    have HS8 := Lib.hid (GateOwn.below HS7.out hb8)
    clear HS7
    have HbS8 := Lib.hid (Blk.belowAll HbS7.out hb8)
    clear HbS7
    have HX8 := Lib.hid (GateOwn.below HX7.out hb8)
    clear HX7
    have HbX8 := Lib.hid (Blk.belowAll Hbx7.out hb8)
    clear Hbx7
    clear hb8
    have HofG := Lib.hid hofG; clear hofG
    have HsmG := Lib.hid hsmG; clear hsmG
    have LTG := Lib.hid (fun k hk => (GateOwn.lt hownG k hk).1)
    have UPG := Lib.hid (fun k hk => (GateOwn.lt hownG k hk).2)
    have HoG := Lib.hid hownG; clear hownG
    unfold gateV
    have pfbS8_0 : (w8.alloc (.cells #[.int .i64 uG.val, .int .i64 uG.nxt, .int .i64 uG.deny.ver, .slice uG.deny.cardsA uG.deny.cards.length uG.deny.cardsc, .slice uG.keptA uG.kept.length uG.keptc] 40)).cell? ⟨w4.heap.size, 0, none⟩ = some (.int .i64 uS.val) := ((Blk.alloc HbS8.out _)).cell 0
    have pfbS8_1 : (w8.alloc (.cells #[.int .i64 uG.val, .int .i64 uG.nxt, .int .i64 uG.deny.ver, .slice uG.deny.cardsA uG.deny.cards.length uG.deny.cardsc, .slice uG.keptA uG.kept.length uG.keptc] 40)).cell? ⟨w4.heap.size, 1, none⟩ = some (.int .i64 uS.nxt) := ((Blk.alloc HbS8.out _)).cell 1
    have pfbS8_2 : (w8.alloc (.cells #[.int .i64 uG.val, .int .i64 uG.nxt, .int .i64 uG.deny.ver, .slice uG.deny.cardsA uG.deny.cards.length uG.deny.cardsc, .slice uG.keptA uG.kept.length uG.keptc] 40)).cell? ⟨w4.heap.size, 2, none⟩ = some (.int .i64 uS.deny.ver) := ((Blk.alloc HbS8.out _)).cell 2
    have pfbS8_3 : (w8.alloc (.cells #[.int .i64 uG.val, .int .i64 uG.nxt, .int .i64 uG.deny.ver, .slice uG.deny.cardsA uG.deny.cards.length uG.deny.cardsc, .slice uG.keptA uG.kept.length uG.keptc] 40)).cell? ⟨w4.heap.size, 3, none⟩ = some (.slice uS.deny.cardsA uS.deny.cards.length uS.deny.cardsc) := ((Blk.alloc HbS8.out _)).cell 3
    have pfbS8_4 : (w8.alloc (.cells #[.int .i64 uG.val, .int .i64 uG.nxt, .int .i64 uG.deny.ver, .slice uG.deny.cardsA uG.deny.cards.length uG.deny.cardsc, .slice uG.keptA uG.kept.length uG.keptc] 40)).cell? ⟨w4.heap.size, 4, none⟩ = some (.slice uS.keptA uS.kept.length uS.keptc) := ((Blk.alloc HbS8.out _)).cell 4
    go_wp2_with fail
    generalize hW : World.alloc _ _ = w9
    have hbx9 : Blk w9 w8.heap.size 40 (GateR.cells uG) := by rw [← hW]; exact Blk.new w8 _ _
    have hb9 : Below w8.heap.size w8 w9 := by rw [← hW]; exact bA (Below.refl _ _) _
    have hy9 : w8.heap.size < w9.heap.size := by rw [← hW]; simp
    clear hW
    clear pfbS8_0 pfbS8_1 pfbS8_2 pfbS8_3 pfbS8_4
    have hz9 : w8.heap.size ≤ w9.heap.size := by have := hb9.size; (try simp at this); omega
    have HB9 := Lib.hid (bT HB8.out hb9)
    clear HB8
    have HP9 := Lib.hid (Blk.belowAll HP8.out hb9)
    clear HP8
    have HS9 := Lib.hid (GateOwn.below HS8.out hb9)
    clear HS8
    have HbS9 := Lib.hid (Blk.belowAll HbS8.out hb9)
    clear HbS8
    have HX9 := Lib.hid (GateOwn.below HX8.out hb9)
    clear HX8
    have HbX9 := Lib.hid (Blk.belowAll HbX8.out hb9)
    clear HbX8
    have HG9 := Lib.hid (GateOwn.below HoG.out hb9)
    clear HoG
    clear hb9
    have Hbx9 := Lib.hid hbx9; clear hbx9
    refine (eqGate_same uG uS _ (GateOwn.in_ HG9.out) (GateOwn.in_ HS9.out) HsmG.out HsmS.out (HofG.out.trans HofS.out.symm)).mono ?_
    rintro e w10 ⟨rfl, hb10⟩
    have hz10 : w9.heap.size ≤ w10.heap.size := by have := hb10.size; (try simp at this); omega
    have HB10 := Lib.hid (bT HB9.out hb10)
    clear HB9
    have HP10 := Lib.hid (Blk.belowAll HP9.out hb10)
    clear HP9
    have HS10 := Lib.hid (GateOwn.below HS9.out hb10)
    clear HS9
    have HbS10 := Lib.hid (Blk.belowAll HbS9.out hb10)
    clear HbS9
    have HX10 := Lib.hid (GateOwn.below HX9.out hb10)
    clear HX9
    have HbX10 := Lib.hid (Blk.belowAll HbX9.out hb10)
    clear HbX9
    have HG10 := Lib.hid (GateOwn.below HG9.out hb10)
    clear HG9
    have HbG10 := Lib.hid (Blk.belowAll Hbx9.out hb10)
    clear Hbx9
    clear hb10
    obtain ⟨cP10_0, cP10_1, cP10_2, cP10_3, cP10_4⟩ := gateCells (t := 47) (v := a0) HP10.out
    obtain ⟨cbX10_0, cbX10_1, cbX10_2, cbX10_3, cbX10_4⟩ := gateCells (t := 40) (v := uX) HbX10.out
    go_wp2
    refine wp_region_held_drew (S := fun w' => (w'.cell? ⟨w6.heap.size, 0, none⟩ = some (.int .i64 uX.val) ∧ w'.cell? ⟨w6.heap.size, 1, none⟩ = some (.int .i64 uX.nxt) ∧ w'.cell? ⟨w6.heap.size, 2, none⟩ = some (.int .i64 uX.deny.ver) ∧ w'.cell? ⟨w6.heap.size, 3, none⟩ = some (.slice uX.deny.cardsA uX.deny.cards.length uX.deny.cardsc) ∧ w'.cell? ⟨w6.heap.size, 4, none⟩ = some (.slice uX.keptA uX.kept.length uX.keptc)) ∧ (w'.cell? ⟨w.heap.size, 0, none⟩ = some (.int .i64 a0.val) ∧ w'.cell? ⟨w.heap.size, 1, none⟩ = some (.int .i64 a0.nxt) ∧ w'.cell? ⟨w.heap.size, 2, none⟩ = some (.int .i64 a0.deny.ver) ∧ w'.cell? ⟨w.heap.size, 3, none⟩ = some (.slice a0.deny.cardsA a0.deny.cards.length a0.deny.cardsc) ∧ w'.cell? ⟨w.heap.size, 4, none⟩ = some (.slice a0.keptA a0.kept.length a0.keptc))) (by kernel_rfl) (by exact ⟨gateCells (t := 40) (v := uX) HbX10.out, gateCells (t := 47) (v := a0) HP10.out⟩) (fun hS => ?_)
    refine take_at 0 57 (v := ?_) rfl rfl (by kernel_rfl) (by kernel_rfl) (by kernel_rfl) (fun _ _ _ h => h) (by rfl) ?_ hS ?_
    rotate_left 1
    · (intro w hSw; (try dsimp only at hSw); (try go_split_ands); go_simp; try with_reducible rfl)
    simp only [List.setIfInBounds_toArray, List.set_cons_zero, List.set_cons_succ]
    refine take_at 1 58 (v := ?_) rfl rfl (by kernel_rfl) (by kernel_rfl) (by kernel_rfl) (fun _ _ _ h => h) (by rfl) ?_ hS ?_
    rotate_left 1
    · (intro w hSw; (try dsimp only at hSw); (try go_split_ands); go_simp; try with_reducible rfl)
    simp only [List.setIfInBounds_toArray, List.set_cons_zero, List.set_cons_succ]
    refine wpAnyH_ready (rs := [2]) (by kernel_rfl) (by simp) ?_
    refine AllReadyH.cons rfl (fun K hK => ?_) (AllReadyH.nil)
    go_simp
    go_wp2_with fail
    refine (toGate_any a0 _ (Hi.out.over (bD1 HB10.out)) Hs.out).mono ?_
    rintro e w11 ⟨⟨uC, rfl, hofC, hownC, hsmC⟩, hb11⟩
    have hz11 : w10.heap.size ≤ w11.heap.size := by have := hb11.size; (try simp at this); omega
    have HB11 := Lib.hid (bT (bD1 HB10.out) hb11)
    clear HB10
    have HP11 := Lib.hid (Blk.belowAll (blkDrew HP10.out) hb11)
    clear HP10
    have HS11 := Lib.hid (GateOwn.below (GateOwn.drew HS10.out) hb11)
    clear HS10
    have HbS11 := Lib.hid (Blk.belowAll (blkDrew HbS10.out) hb11)
    clear HbS10
    have HX11 := Lib.hid (GateOwn.below (GateOwn.drew HX10.out) hb11)
    clear HX10
    have HbX11 := Lib.hid (Blk.belowAll (blkDrew HbX10.out) hb11)
    clear HbX10
    have HG11 := Lib.hid (GateOwn.below (GateOwn.drew HG10.out) hb11)
    clear HG10
    have HbG11 := Lib.hid (Blk.belowAll (blkDrew HbG10.out) hb11)
    clear HbG10
    clear hb11
    have HofC := Lib.hid hofC; clear hofC
    have HsmC := Lib.hid hsmC; clear hsmC
    have LTC := Lib.hid (fun k hk => (GateOwn.lt hownC k hk).1)
    have UPC := Lib.hid (fun k hk => (GateOwn.lt hownC k hk).2)
    have HoC := Lib.hid hownC; clear hownC
    unfold gateV
    go_simp
    refine hK.out _ _ (by exact ⟨gateCells (t := 40) (v := uX) HbX11.out, gateCells (t := 47) (v := a0) HP11.out⟩) (fun hS => ?_)
    clear hK K
    refine wpAnyH_ready (rs := [3]) (by kernel_rfl) (by simp) ?_
    refine AllReadyH.cons rfl (fun K hK => ?_) (AllReadyH.nil)
    go_simp
    go_wp2_with fail
    refine (eqGate_same uX uC _ (GateOwn.in_ HX11.out) (GateOwn.in_ HoC.out) HsmX.out HsmC.out (HofX.out.trans HofC.out.symm)).mono ?_
    rintro e w12 ⟨rfl, hb12⟩
    have hz12 : w11.heap.size ≤ w12.heap.size := by have := hb12.size; (try simp at this); omega
    have HB12 := Lib.hid (bT HB11.out hb12)
    clear HB11
    have HP12 := Lib.hid (Blk.belowAll HP11.out hb12)
    clear HP11
    have HS12 := Lib.hid (GateOwn.below HS11.out hb12)
    clear HS11
    have HbS12 := Lib.hid (Blk.belowAll HbS11.out hb12)
    clear HbS11
    have HX12 := Lib.hid (GateOwn.below HX11.out hb12)
    clear HX11
    have HbX12 := Lib.hid (Blk.belowAll HbX11.out hb12)
    clear HbX11
    have HG12 := Lib.hid (GateOwn.below HG11.out hb12)
    clear HG11
    have HbG12 := Lib.hid (Blk.belowAll HbG11.out hb12)
    clear HbG11
    clear hb12
    go_simp
    refine hK.out _ _ (by exact ⟨gateCells (t := 40) (v := uX) HbX12.out, gateCells (t := 47) (v := a0) HP12.out⟩) (fun hS => ?_)
    clear hK K
    refine take_at 4 61 (v := ?_) rfl rfl (by kernel_rfl) (by kernel_rfl) (by kernel_rfl) (fun _ _ _ h => h) (by rfl) ?_ hS ?_
    rotate_left 1
    · (intro w hSw; (try dsimp only at hSw); (try go_split_ands); go_simp; try with_reducible rfl)
    simp only [List.setIfInBounds_toArray, List.set_cons_zero, List.set_cons_succ]
    refine wpAnyH_done (by kernel_rfl) ?_ _
    clear hS
    have nxX := GateNext_le uX 1 HsmX.out (by omega)
    have hdX : decide (GateNext uX 1 < 0) = false := by rw [decide_eq_false_iff_not]; omega
    obtain ⟨cbX12_0, cbX12_1, cbX12_2, cbX12_3, cbX12_4⟩ := gateCells (t := 40) (v := uX) HbX12.out
    go_wp2_with fail
    refine (markGate_own _ uX (1) _ HX12.out HsmX.out (by omega) (by omega)).mono ?_
    rintro e w13 ⟨rfl, hmX, ht13⟩
    clear cbX12_0 cbX12_1 cbX12_2 cbX12_3 cbX12_4
    have hz13 : w12.heap.size ≤ w13.heap.size := by have := ht13.size; (try simp at this); omega
    have HB13 := Lib.hid (Touch.below HB12.out ht13 (fun i hi => by have a1 := LTX.out _ hi; omega))
    clear HB12
    have HP13 := Lib.hid (Blk.touch HP12.out ht13 (fun e0 => by have a1 := LTX.out _ e0; have a2 := UPX.out _ e0; omega))
    clear HP12
    have HS13 := Lib.hid (GateOwn.touch HS12.out ht13 (fun i hi e0 => by have a1 := LTS.out _ hi; have a2 := UPS.out _ hi; have b1 := LTX.out _ e0; have b2 := UPX.out _ e0; omega))
    clear HS12
    have HbS13 := Lib.hid (Blk.touch HbS12.out ht13 (fun e0 => by have a1 := LTX.out _ e0; have a2 := UPX.out _ e0; omega))
    clear HbS12
    have HbX13 := Lib.hid (Blk.touch HbX12.out ht13 (fun e0 => by have a1 := LTX.out _ e0; have a2 := UPX.out _ e0; omega))
    clear HbX12
    have HG13 := Lib.hid (GateOwn.touch HG12.out ht13 (fun i hi e0 => by have a1 := LTG.out _ hi; have a2 := UPG.out _ hi; have b1 := LTX.out _ e0; have b2 := UPX.out _ e0; omega))
    clear HG12
    have HbG13 := Lib.hid (Blk.touch HbG12.out ht13 (fun e0 => by have a1 := LTX.out _ e0; have a2 := UPX.out _ e0; omega))
    clear HbG12
    clear ht13
    have HmX := Lib.hid hmX; clear hmX
    obtain ⟨cbG13_0, cbG13_1, cbG13_2, cbG13_3, cbG13_4⟩ := gateCells (t := 40) (v := uG) HbG13.out
    obtain ⟨cbS13_0, cbS13_1, cbS13_2, cbS13_3, cbS13_4⟩ := gateCells (t := 40) (v := uS) HbS13.out
    go_wp2_with fail
    refine (eqGate_same uG uS _ (GateOwn.in_ HG13.out) (GateOwn.in_ HS13.out) HsmG.out HsmS.out (HofG.out.trans HofS.out.symm)).mono ?_
    rintro e w14 ⟨rfl, hb14⟩
    clear cbG13_0 cbG13_1 cbG13_2 cbG13_3 cbG13_4 cbS13_0 cbS13_1 cbS13_2 cbS13_3 cbS13_4
    have hz14 : w13.heap.size ≤ w14.heap.size := by have := hb14.size; (try simp at this); omega
    have HB14 := Lib.hid (bT HB13.out hb14)
    clear HB13
    have HP14 := Lib.hid (Blk.belowAll HP13.out hb14)
    clear HP13
    have HS14 := Lib.hid (GateOwn.below HS13.out hb14)
    clear HS13
    have HbS14 := Lib.hid (Blk.belowAll HbS13.out hb14)
    clear HbS13
    have HG14 := Lib.hid (GateOwn.below HG13.out hb14)
    clear HG13
    have HbG14 := Lib.hid (Blk.belowAll HbG13.out hb14)
    clear HbG13
    clear hb14
    have nxG := GateNext_le uG 1 HsmG.out (by omega)
    have hdG : decide (GateNext uG 1 < 0) = false := by rw [decide_eq_false_iff_not]; omega
    obtain ⟨cbG14_0, cbG14_1, cbG14_2, cbG14_3, cbG14_4⟩ := gateCells (t := 40) (v := uG) HbG14.out
    go_wp2_with fail
    refine (markGate_own _ uG (1) _ HG14.out HsmG.out (by omega) (by omega)).mono ?_
    rintro e w15 ⟨rfl, hmG, ht15⟩
    clear cbG14_0 cbG14_1 cbG14_2 cbG14_3 cbG14_4
    have hz15 : w14.heap.size ≤ w15.heap.size := by have := ht15.size; (try simp at this); omega
    have HB15 := Lib.hid (Touch.below HB14.out ht15 (fun i hi => by have a1 := LTG.out _ hi; omega))
    clear HB14
    have HP15 := Lib.hid (Blk.touch HP14.out ht15 (fun e0 => by have a1 := LTG.out _ e0; have a2 := UPG.out _ e0; omega))
    clear HP14
    have HS15 := Lib.hid (GateOwn.touch HS14.out ht15 (fun i hi e0 => by have a1 := LTS.out _ hi; have a2 := UPS.out _ hi; have b1 := LTG.out _ e0; have b2 := UPG.out _ e0; omega))
    clear HS14
    have HbS15 := Lib.hid (Blk.touch HbS14.out ht15 (fun e0 => by have a1 := LTG.out _ e0; have a2 := UPG.out _ e0; omega))
    clear HbS14
    have HbG15 := Lib.hid (Blk.touch HbG14.out ht15 (fun e0 => by have a1 := LTG.out _ e0; have a2 := UPG.out _ e0; omega))
    clear HbG14
    clear ht15
    have HmG := Lib.hid hmG; clear hmG
    obtain ⟨cbG15_0, cbG15_1, cbG15_2, cbG15_3, cbG15_4⟩ := gateCells (t := 40) (v := uG) HbG15.out
    go_wp2_with fail
    refine (heldGate_own _ uG (1) _ HmG.out HsmG.out (by omega) (by omega)).mono ?_
    rintro e w16 ⟨rfl, hb16⟩
    clear cbG15_0 cbG15_1 cbG15_2 cbG15_3 cbG15_4
    have hz16 : w15.heap.size ≤ w16.heap.size := by have := hb16.size; (try simp at this); omega
    have HB16 := Lib.hid (bT HB15.out hb16)
    clear HB15
    have HP16 := Lib.hid (Blk.belowAll HP15.out hb16)
    clear HP15
    have HS16 := Lib.hid (GateOwn.below HS15.out hb16)
    clear HS15
    have HbS16 := Lib.hid (Blk.belowAll HbS15.out hb16)
    clear HbS15
    have HbG16 := Lib.hid (Blk.belowAll HbG15.out hb16)
    clear HbG15
    have HG16 := Lib.hid (GateMarked.below HmG.out hb16)
    clear HmG
    clear hb16
    obtain ⟨cP16_0, cP16_1, cP16_2, cP16_3, cP16_4⟩ := gateCells (t := 47) (v := a0) HP16.out
    go_wp2_with fail
    refine (toGate_any a0 _ (Hi.out.over HB16.out) Hs.out).mono ?_
    rintro e w17 ⟨⟨uD, rfl, hofD, hownD, hsmD⟩, hb17⟩
    clear cP16_0 cP16_1 cP16_2 cP16_3 cP16_4
    have hz17 : w16.heap.size ≤ w17.heap.size := by have := hb17.size; (try simp at this); omega
    have HB17 := Lib.hid (bT HB16.out hb17)
    clear HB16
    have HP17 := Lib.hid (Blk.belowAll HP16.out hb17)
    clear HP16
    have HS17 := Lib.hid (GateOwn.below HS16.out hb17)
    clear HS16
    have HbS17 := Lib.hid (Blk.belowAll HbS16.out hb17)
    clear HbS16
    have HbG17 := Lib.hid (Blk.belowAll HbG16.out hb17)
    clear HbG16
    have HG17 := Lib.hid (GateMarked.below HG16.out hb17)
    clear HG16
    clear hb17
    have HofD := Lib.hid hofD; clear hofD
    have HsmD := Lib.hid hsmD; clear hsmD
    have LTD := Lib.hid (fun k hk => (GateOwn.lt hownD k hk).1)
    have UPD := Lib.hid (fun k hk => (GateOwn.lt hownD k hk).2)
    have HoD := Lib.hid hownD; clear hownD
    unfold gateV
    go_wp2_with fail
    refine (implHoldCard_any uD a1 a2 a3 a4 _ (GateOwn.in_ HoD.out) HsmD.out).mono ?_
    rintro e w18 ⟨⟨uH, rfl, hofH, hownH, hsmH⟩, hb18⟩
    (try rw [HofD.out])
    rw [HofD.out] at hofH
    have hz18 : w17.heap.size ≤ w18.heap.size := by have := hb18.size; (try simp at this); omega
    have HB18 := Lib.hid (bT HB17.out hb18)
    clear HB17
    have HP18 := Lib.hid (Blk.belowAll HP17.out hb18)
    clear HP17
    have HS18 := Lib.hid (GateOwn.below HS17.out hb18)
    clear HS17
    have HbS18 := Lib.hid (Blk.belowAll HbS17.out hb18)
    clear HbS17
    have HbG18 := Lib.hid (Blk.belowAll HbG17.out hb18)
    clear HbG17
    have HG18 := Lib.hid (GateMarked.below HG17.out hb18)
    clear HG17
    clear hb18
    have HofH := Lib.hid hofH; clear hofH
    have HsmH := Lib.hid hsmH; clear hsmH
    have LTH := Lib.hid (fun k hk => (GateOwn.lt hownH k hk).1)
    have UPH := Lib.hid (fun k hk => (GateOwn.lt hownH k hk).2)
    have HoH := Lib.hid hownH; clear hownH
    unfold gateV
    have pfbS18_0 : (w18.alloc (.cells #[.int .i64 uH.val, .int .i64 uH.nxt, .int .i64 uH.deny.ver, .slice uH.deny.cardsA uH.deny.cards.length uH.deny.cardsc, .slice uH.keptA uH.kept.length uH.keptc] 40)).cell? ⟨w4.heap.size, 0, none⟩ = some (.int .i64 uS.val) := ((Blk.alloc HbS18.out _)).cell 0
    have pfbS18_1 : (w18.alloc (.cells #[.int .i64 uH.val, .int .i64 uH.nxt, .int .i64 uH.deny.ver, .slice uH.deny.cardsA uH.deny.cards.length uH.deny.cardsc, .slice uH.keptA uH.kept.length uH.keptc] 40)).cell? ⟨w4.heap.size, 1, none⟩ = some (.int .i64 uS.nxt) := ((Blk.alloc HbS18.out _)).cell 1
    have pfbS18_2 : (w18.alloc (.cells #[.int .i64 uH.val, .int .i64 uH.nxt, .int .i64 uH.deny.ver, .slice uH.deny.cardsA uH.deny.cards.length uH.deny.cardsc, .slice uH.keptA uH.kept.length uH.keptc] 40)).cell? ⟨w4.heap.size, 2, none⟩ = some (.int .i64 uS.deny.ver) := ((Blk.alloc HbS18.out _)).cell 2
    have pfbS18_3 : (w18.alloc (.cells #[.int .i64 uH.val, .int .i64 uH.nxt, .int .i64 uH.deny.ver, .slice uH.deny.cardsA uH.deny.cards.length uH.deny.cardsc, .slice uH.keptA uH.kept.length uH.keptc] 40)).cell? ⟨w4.heap.size, 3, none⟩ = some (.slice uS.deny.cardsA uS.deny.cards.length uS.deny.cardsc) := ((Blk.alloc HbS18.out _)).cell 3
    have pfbS18_4 : (w18.alloc (.cells #[.int .i64 uH.val, .int .i64 uH.nxt, .int .i64 uH.deny.ver, .slice uH.deny.cardsA uH.deny.cards.length uH.deny.cardsc, .slice uH.keptA uH.kept.length uH.keptc] 40)).cell? ⟨w4.heap.size, 4, none⟩ = some (.slice uS.keptA uS.kept.length uS.keptc) := ((Blk.alloc HbS18.out _)).cell 4
    go_wp2_with fail
    generalize hW : World.alloc _ _ = w19
    have hbx19 : Blk w19 w18.heap.size 40 (GateR.cells uH) := by rw [← hW]; exact Blk.new w18 _ _
    have hb19 : Below w18.heap.size w18 w19 := by rw [← hW]; exact bA (Below.refl _ _) _
    have hy19 : w18.heap.size < w19.heap.size := by rw [← hW]; simp
    clear hW
    clear pfbS18_0 pfbS18_1 pfbS18_2 pfbS18_3 pfbS18_4
    have hz19 : w18.heap.size ≤ w19.heap.size := by have := hb19.size; (try simp at this); omega
    have HB19 := Lib.hid (bT HB18.out hb19)
    clear HB18
    have HP19 := Lib.hid (Blk.belowAll HP18.out hb19)
    clear HP18
    have HS19 := Lib.hid (GateOwn.below HS18.out hb19)
    clear HS18
    have HbS19 := Lib.hid (Blk.belowAll HbS18.out hb19)
    clear HbS18
    have HbG19 := Lib.hid (Blk.belowAll HbG18.out hb19)
    clear HbG18
    have HG19 := Lib.hid (GateMarked.below HG18.out hb19)
    clear HG18
    have HH19 := Lib.hid (GateOwn.below HoH.out hb19)
    clear HoH
    clear hb19
    have Hbx19 := Lib.hid hbx19; clear hbx19
    refine (eqGate_same uH uS _ (GateOwn.in_ HH19.out) (GateOwn.in_ HS19.out) HsmH.out HsmS.out (HofH.out.trans HofS.out.symm)).mono ?_
    rintro e w20 ⟨rfl, hb20⟩
    have hz20 : w19.heap.size ≤ w20.heap.size := by have := hb20.size; (try simp at this); omega
    have HB20 := Lib.hid (bT HB19.out hb20)
    clear HB19
    have HP20 := Lib.hid (Blk.belowAll HP19.out hb20)
    clear HP19
    have HS20 := Lib.hid (GateOwn.below HS19.out hb20)
    clear HS19
    have HbS20 := Lib.hid (Blk.belowAll HbS19.out hb20)
    clear HbS19
    have HbG20 := Lib.hid (Blk.belowAll HbG19.out hb20)
    clear HbG19
    have HG20 := Lib.hid (GateMarked.below HG19.out hb20)
    clear HG19
    have HH20 := Lib.hid (GateOwn.below HH19.out hb20)
    clear HH19
    have HbH20 := Lib.hid (Blk.belowAll Hbx19.out hb20)
    clear Hbx19
    clear hb20
    obtain ⟨cbG20_0, cbG20_1, cbG20_2, cbG20_3, cbG20_4⟩ := gateCells (t := 40) (v := uG) HbG20.out
    go_wp2_with fail
    refine (heldGate_own _ uG (1) _ HG20.out HsmG.out (by omega) (by omega)).mono ?_
    rintro e w21 ⟨rfl, hb21⟩
    clear cbG20_0 cbG20_1 cbG20_2 cbG20_3 cbG20_4
    have hz21 : w20.heap.size ≤ w21.heap.size := by have := hb21.size; (try simp at this); omega
    have HB21 := Lib.hid (bT HB20.out hb21)
    clear HB20
    have HP21 := Lib.hid (Blk.belowAll HP20.out hb21)
    clear HP20
    have HbS21 := Lib.hid (Blk.belowAll HbS20.out hb21)
    clear HbS20
    have HbG21 := Lib.hid (Blk.belowAll HbG20.out hb21)
    clear HbG20
    have HG21 := Lib.hid (GateMarked.below HG20.out hb21)
    clear HG20
    have HbH21 := Lib.hid (Blk.belowAll HbH20.out hb21)
    clear HbH20
    clear hb21
    go_wp2
    go_ret
    exact ⟨rfl, HB21.out⟩

set_option maxRecDepth 100000 in
theorem lifted (os : Os) (started : os.Started) (H : Type) (enc : TypeId × Value → H) :
    ReturnsInHanded {} Try.checked os 14 .any (Rows.fnExactHoldCardSpec.pre6 enc Try.prog Try.f14 Rows.fnExactHoldCardRow.domain false) (Rows.fnExactHoldCardSpec.post enc Try.prog Try.f14 false true false false) := by
  refine returnsInHanded_of_change (C := Try.checked) Cells.own started (by kernel_rfl) Try.func14
    (ChangeSpec.witness6 (enc := enc) (C := Try.checked) false ⟨#[], #[.agg #[.int .i64 0, .int .i64 0, .int .i64 0, .slice none 0 0, .slice none 0 0], .int .i64 0, .int .i64 0, .int .i64 0, .bool false], []⟩ 8 (by kernel_rfl) (by kernel_rfl) (by kernel_rfl) (by kernel_rfl)) ?_
  intro W base args ds gs before hval0 hW _ _
  have hval : ∀ (j : Nat) t v, Try.f14.params[j]? = some t → args[j]? = some v → Value.okWide Try.prog W .any base t v := hval0
  have hW' := hW
  obtain ⟨p, q, hA0, hV, rfl, _, _⟩ := hW
  have hA : DataW.TrodAll enc Try.prog W 0 (fun _ => true) true Try.f14.params.toList args.toList ds p := hA0
  rw [Try.params14] at hA hval
  obtain ⟨v0, vs0, d0, ds0, p0, q0, hargs, rfl, rfl, h0, r0⟩ := trodAll_cons hA
  obtain ⟨v1, vs1, d1, ds1, p1, q1, rfl, rfl, rfl, h1, r1⟩ := trodAll_cons r0
  obtain ⟨v2, vs2, d2, ds2, p2, q2, rfl, rfl, rfl, h2, r2⟩ := trodAll_cons r1
  obtain ⟨v3, vs3, d3, ds3, p3, q3, rfl, rfl, rfl, h3, r3⟩ := trodAll_cons r2
  obtain ⟨v4, vs4, d4, ds4, p4, q4, rfl, rfl, rfl, h4, r4⟩ := trodAll_cons r3
  obtain ⟨rfl, rfl, rfl⟩ := trodAll_nil r4
  obtain rfl : args = #[v0, v1, v2, v3, v4] := by cases args; simp_all
  obtain ⟨rfl, rfl⟩ := trodVars_none hV
  clear hA0 hval0
  have hlt : ∀ x ∈ (p0 ++ (p1 ++ (p2 ++ (p3 ++ (p4 ++ []))))), x.block < W.heap.size := fun x hx => hW'.lt x (by simpa using hx)
  have k0 := fun (W' : World) (hn : Below W.heap.size W W') => Below.trod Cells.laidOut (by kernel_rfl) (of_decide_eq_true (by kernel_rfl)) h0 hn (fun x hx => hlt x (by simp [hx]))
  have k1 := fun (W' : World) (hn : Below W.heap.size W W') => Below.trod Cells.laidOut (by kernel_rfl) (of_decide_eq_true (by kernel_rfl)) h1 hn (fun x hx => hlt x (by simp [hx]))
  have k2 := fun (W' : World) (hn : Below W.heap.size W W') => Below.trod Cells.laidOut (by kernel_rfl) (of_decide_eq_true (by kernel_rfl)) h2 hn (fun x hx => hlt x (by simp [hx]))
  have k3 := fun (W' : World) (hn : Below W.heap.size W W') => Below.trod Cells.laidOut (by kernel_rfl) (of_decide_eq_true (by kernel_rfl)) h3 hn (fun x hx => hlt x (by simp [hx]))
  have k4 := fun (W' : World) (hn : Below W.heap.size W W') => Below.trod Cells.laidOut (by kernel_rfl) (of_decide_eq_true (by kernel_rfl)) h4 hn (fun x hx => hlt x (by simp [hx]))
  obtain ⟨a0, rfl, i0, f0⟩ := gate_open (hval 0 47 v0 rfl rfl) h0
  obtain ⟨a1, rfl, rfl, rfl, w1⟩ := open_int Try.underlying3 (hval 1 3 v1 rfl rfl) h1
  obtain ⟨a2, rfl, rfl, rfl, w2⟩ := open_int Try.underlying3 (hval 2 3 v2 rfl rfl) h2
  obtain ⟨a3, rfl, rfl, rfl, w3⟩ := open_int Try.underlying3 (hval 3 3 v3 rfl rfl) h3
  obtain ⟨a4, rfl, rfl, rfl⟩ := open_bool Try.underlying4 (hval 4 4 v4 rfl rfl) h4
  refine (walk W a0 i0 f0 a1 (fits_of_wf w1) a2 (fits_of_wf w2) a3 (fits_of_wf w3) a4).mono fun e W' ⟨he, hnx⟩ => ?_
  subst he
  refine ⟨_, rfl, _, _, _, [], (p0 ++ ([] ++ ([] ++ ([] ++ ([] ++ []))))), [], hW', trodAll_mk1 (shut_bool Try.underlying4 _), (trodAll_cons_mk (k0 _ hnx) (trodAll_cons_mk (k1 _ hnx) (trodAll_cons_mk (k2 _ hnx) (trodAll_cons_mk (k3 _ hnx) (trodAll_cons_mk (k4 _ hnx) trodAll_mk0))))), rfl, hnx.frame _, fun h => by cases h⟩

theorem closed : joinedFacts Try.prog 14 Try.f14 Rows.fnExactHoldCardSpec Rows.fnExactHoldCardRow = true := by
  unfold joinedFacts
  rw [Cells.laidOut, Cells.mapsRowed_, Cells.stops, Cells.stopKnobs, Cells.plainKeys, Cells.stopsHeard, Cells.mayEnter, Cells.liftsFinal, Cells.make]
  kernel_rfl

theorem over : Rows.fnExactHoldCardRow.holds Try.pinned (OpenSpec.ofChange Rows.fnExactHoldCardSpec) :=
  OpenClaim.holds_of_wide 14 Try.f14 rfl rfl rfl rfl rfl rfl rfl ⟨rfl, rfl, rfl, rfl, rfl⟩ rfl rfl rfl rfl rfl (by kernel_rfl) Try.func14 closed
    (of_decide_eq_true (by kernel_rfl)) (by unfold Func.isWrapper; first | (rw [if_pos (by decide +kernel)]; kernel_rfl) | (rw [if_neg (by decide +kernel)]; exact ⟨rfl, rfl⟩))
    (fun os started H enc _ => lifted os started H enc)

/-- THE STATEMENT -/
theorem proved : Rows.FnExactHoldCardSaid := over
#print axioms proved
end Go.Proofs.Ytpijjlggmibfnaa.fnExactHoldCard
