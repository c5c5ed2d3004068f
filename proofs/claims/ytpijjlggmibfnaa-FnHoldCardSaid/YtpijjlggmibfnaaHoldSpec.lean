/-
  A card is held to a validator: the model.
-/
import Derived.Test.YtpijjlggmibfnaaHoldFn
set_option linter.unusedSimpArgs false
namespace Go.Proofs.Ytpijjlggmibfnaa
open Go.RowKit Go.Deep
set_option linter.unusedVariables false

set_option maxRecDepth 100000 in
set_option maxHeartbeats 8000000 in
theorem specHoldCard_any (v : GateR) (c m s : Int) (o : Bool) (w : World) (hi : GateIn w w.heap.size v) (hs : GateSmall v) :
    Calls Try.prog 39 #[gateV v, .int .i64 c, .int .i64 m, .int .i64 s, .bool o] w fun e w' => (∃ u : GateR, e = .returned (.tuple #[gateV u, .bool (Fares.holdCard v.of c m s o).2]) ∧ u.of = (Fares.holdCard v.of c m s o).1 ∧ GateOwn w' w.heap.size u ∧ GateSmall u) ∧ Below w.heap.size w w' := by
  obtain ⟨ti, hi0_, hz0_, hz1_, hz2_⟩ := info_parts info_tapC
  have HITap := Lib.hid hi0_; clear hi0_
  have HZ0Tap := Lib.hid hz0_; clear hz0_
  have HZ1Tap := Lib.hid hz1_; clear hz1_
  have HZ2Tap := Lib.hid hz2_; clear hz2_
  have Hi := Lib.hid hi; clear hi
  have Hs := Lib.hid hs; clear hs
  unfold gateV
  go_enter Try.func39, Try.ntmps39
  go_wp2_with fail
  generalize hW : World.alloc _ _ = w1
  have hp1 : Blk w1 w.heap.size 40 v.cells := by rw [← hW]; exact ((Blk.new w _ _).alloc _).alloc _
  have hr1 : Blk w1 (w.heap.size + 1) 40 (GateR.cells (⟨0, 0, ⟨0, none, 0, []⟩, none, 0, []⟩ : GateR)) := by rw [← hW]; exact (Blk.new' (by simp)).alloc _
  have ht1 : Blk w1 (w.heap.size + 1 + 1) 57 #[.int .i64 v.val, .int .i64 v.nxt, .int .i64 c, .int .i64 m, .int .i64 s, .bool o] := by rw [← hW]; exact Blk.new' (by simp)
  have HB1 : Hid (Below w.heap.size w w1) := Lib.hid (by rw [← hW]; exact bA (bA (bA (Below.refl _ _) _) _) _)
  have hz1 : w.heap.size + 1 + 1 < w1.heap.size := by rw [← hW]; simp
  clear hW
  have Hp1 := Lib.hid hp1; clear hp1
  have Hr1 := Lib.hid hr1; clear hr1
  have Ht1 := Lib.hid ht1; clear ht1
  refine (specvalidGate_any v _ (Hi.out.over HB1.out) Hs.out).mono ?_
  rintro e w2 ⟨rfl, hb2⟩
  have hz2 : w1.heap.size ≤ w2.heap.size := by have := hb2.size; (try simp at this); omega
  have HB2 := Lib.hid (bT HB1.out hb2)
  clear HB1
  have HP2 := Lib.hid (Blk.belowAll Hp1.out hb2)
  clear Hp1
  have HT2 := Lib.hid (Blk.belowAll Ht1.out hb2)
  clear Ht1
  have HR2 := Lib.hid (Blk.belowAll Hr1.out hb2)
  clear Hr1
  clear hb2
  obtain ⟨cP2_0, cP2_1, cP2_2, cP2_3, cP2_4⟩ := gateCells (t := 40) (v := v) HP2.out
  obtain ⟨cR2_0, cR2_1, cR2_2, cR2_3, cR2_4⟩ := gateCells (t := 40) (v := (⟨0, 0, ⟨0, none, 0, []⟩, none, 0, []⟩ : GateR)) HR2.out
  have frR2_0 := (HR2.out).free 0
  have frR2_1 := (HR2.out).free 1
  have frR2_2 := (HR2.out).free 2
  have frR2_3 := (HR2.out).free 3
  have frR2_4 := (HR2.out).free 4
  have ct2_0 : w2.cell? ⟨w.heap.size + 1 + 1, 0, none⟩ = some (.int .i64 v.val) := (HT2.out).cell 0
  have ct2_1 : w2.cell? ⟨w.heap.size + 1 + 1, 1, none⟩ = some (.int .i64 v.nxt) := (HT2.out).cell 1
  have ct2_2 : w2.cell? ⟨w.heap.size + 1 + 1, 2, none⟩ = some (.int .i64 c) := (HT2.out).cell 2
  have ct2_3 : w2.cell? ⟨w.heap.size + 1 + 1, 3, none⟩ = some (.int .i64 m) := (HT2.out).cell 3
  have ct2_4 : w2.cell? ⟨w.heap.size + 1 + 1, 4, none⟩ = some (.int .i64 s) := (HT2.out).cell 4
  have ct2_5 : w2.cell? ⟨w.heap.size + 1 + 1, 5, none⟩ = some (.bool o) := (HT2.out).cell 5
  cases hv : Fares.validGate v.of
  · go_wp2
    generalize hW : World.setCell _ _ _ = w3
    have ht3 : Touch (fun i => i = w.heap.size + 1) w2 w3 := by rw [← hW]; exact (Touch.far (K := fun i => i = w.heap.size + 1) (Touch.far (K := fun i => i = w.heap.size + 1) (Touch.far (K := fun i => i = w.heap.size + 1) (Touch.far (K := fun i => i = w.heap.size + 1) (Touch.far (K := fun i => i = w.heap.size + 1) (Touch.refl _ _) (p := ⟨w.heap.size + 1, 0, none⟩) rfl _) (p := ⟨w.heap.size + 1, 1, none⟩) rfl _) (p := ⟨w.heap.size + 1, 2, none⟩) rfl _) (p := ⟨w.heap.size + 1, 3, none⟩) rfl _) (p := ⟨w.heap.size + 1, 4, none⟩) rfl _)
    have hbx3 : Blk w3 (w.heap.size + 1) 40 (GateR.cells (⟨0, 0, ⟨0, none, 0, []⟩, none, 0, []⟩ : GateR)) := by rw [← hW]; exact (Blk.put (Blk.put (Blk.put (Blk.put (Blk.put HR2.out 0 (.int .i64 (⟨0, 0, ⟨0, none, 0, []⟩, none, 0, []⟩ : GateR).val)) 1 (.int .i64 (⟨0, 0, ⟨0, none, 0, []⟩, none, 0, []⟩ : GateR).nxt)) 2 (.int .i64 (⟨0, 0, ⟨0, none, 0, []⟩, none, 0, []⟩ : GateR).deny.ver)) 3 (.slice (⟨0, 0, ⟨0, none, 0, []⟩, none, 0, []⟩ : GateR).deny.cardsA (⟨0, 0, ⟨0, none, 0, []⟩, none, 0, []⟩ : GateR).deny.cards.length (⟨0, 0, ⟨0, none, 0, []⟩, none, 0, []⟩ : GateR).deny.cardsc)) 4 (.slice (⟨0, 0, ⟨0, none, 0, []⟩, none, 0, []⟩ : GateR).keptA (⟨0, 0, ⟨0, none, 0, []⟩, none, 0, []⟩ : GateR).kept.length (⟨0, 0, ⟨0, none, 0, []⟩, none, 0, []⟩ : GateR).keptc))
    clear hW
    clear cP2_0 cP2_1 cP2_2 cP2_3 cP2_4 cR2_0 cR2_1 cR2_2 cR2_3 cR2_4 frR2_0 frR2_1 frR2_2 frR2_3 frR2_4 ct2_0 ct2_1 ct2_2 ct2_3 ct2_4 ct2_5
    have hz3 : w2.heap.size ≤ w3.heap.size := by have := ht3.size; (try simp at this); omega
    have HB3 := Lib.hid (Touch.below HB2.out ht3 (fun i hi => by omega))
    clear HB2
    have HP3 := Lib.hid (Blk.touch HP2.out ht3 (show ¬ (w.heap.size = w.heap.size + 1) by omega))
    clear HP2
    have HT3 := Lib.hid (Blk.touch HT2.out ht3 (show ¬ (w.heap.size + 1 + 1 = w.heap.size + 1) by omega))
    clear HT2
    clear ht3 HR2
    have Hbx3 := Lib.hid hbx3; clear hbx3
    have hE : Fares.holdCard v.of c m s o = (Fares.zeroGate, false) := by unfold Fares.holdCard; exact if_neg (fun e => by rw [hv] at e; exact absurd e.1 (by simp))
    obtain ⟨z0, z1, z2, z3, z4⟩ := gateCells (t := 40) (v := (⟨0, 0, ⟨0, none, 0, []⟩, none, 0, []⟩ : GateR)) Hbx3.out
    refine bodyPost_ret (v := .tuple #[gateV (⟨0, 0, ⟨0, none, 0, []⟩, none, 0, []⟩ : GateR), .bool false]) (by simp [results, Try.results39, go_sem, gateV, z0, z1, z2, z3, z4]) rfl ⟨⟨(⟨0, 0, ⟨0, none, 0, []⟩, none, 0, []⟩ : GateR), ?_, ?_, ⟨⟨World.ownsRow_nil _ _ _ _, trivial⟩, World.ownsRow_nil _ _ _ _, fun k h => by cases h⟩, ⟨Nat.zero_le _, Nat.zero_le _⟩⟩, HB3.out⟩
    · rw [hE]; rfl
    · rw [hE]; rfl
  · obtain ⟨f0, f1, f2, f3, f4, f5⟩ := Fares.validGate_facts hv
    have f0' : 0 ≤ v.val := f0
    have f1' : v.val ≤ 9 := f1
    have f2' : 0 ≤ v.nxt := f2
    have f3' : v.nxt ≤ 1000 := f3
    have f4' : v.kept.length ≤ 10 := f4
    have f5' : v.deny.cards.length ≤ 12 := f5
    clear f0 f1 f2 f3 f4 f5
    have Hv := Lib.hid hv; clear hv
    by_cases q0 : 0 ≤ c ∧ c ≤ 99
    · by_cases q1 : 0 ≤ m ∧ m ≤ 40319
      · by_cases q2 : 0 ≤ s ∧ s ≤ 9
        · have Hc := Lib.hid (show Fares.cardOk c m s from ⟨q0.1, q0.2, q1.1, q1.2, q2.1, q2.2⟩)
          go_wp2_with (go_at_call 58; first | (refine (inRange_yes _ _ _ _ (by omega) (by omega)).mono ?_; rintro e w' ⟨rfl, rfl⟩) | (refine (inRange_no _ _ _ _ (by omega)).mono ?_; rintro e w' ⟨rfl, rfl⟩))
          refine (copyGate_any v _ (Hi.out.over HB2.out) ⟨by omega, by omega⟩).mono ?_
          rintro e w3 ⟨⟨u, rfl, hof, hown, hs1, hs2⟩, hb3⟩
          clear cP2_0 cP2_1 cP2_2 cP2_3 cP2_4 cR2_0 cR2_1 cR2_2 cR2_3 cR2_4 frR2_0 frR2_1 frR2_2 frR2_3 frR2_4 ct2_0 ct2_1 ct2_2 ct2_3 ct2_4 ct2_5
          have hz3 : w2.heap.size ≤ w3.heap.size := by have := hb3.size; (try simp at this); omega
          have HB3 := Lib.hid (bT HB2.out hb3)
          clear HB2
          have HP3 := Lib.hid (Blk.belowAll HP2.out hb3)
          clear HP2
          have HT3 := Lib.hid (Blk.belowAll HT2.out hb3)
          clear HT2
          have HR3 := Lib.hid (Blk.belowAll HR2.out hb3)
          clear HR2
          clear hb3
          have Hof := Lib.hid hof; clear hof
          unfold gateV
          obtain ⟨hownD, hownK, hap⟩ := hown
          have Hap := Lib.hid hap; clear hap
          have LTD := Lib.hid (fun k hk => (DenyOwn.lt hownD k hk).1)
          have UPD := Lib.hid (fun k hk => (DenyOwn.lt hownD k hk).2)
          have HoD := Lib.hid hownD; clear hownD
          have LTK := Lib.hid (fun k hk => (World.ownsRow.lt hownK k hk).1)
          have UPK := Lib.hid (fun k hk => (World.ownsRow.lt hownK k hk).2)
          have HoK := Lib.hid hownK; clear hownK
          have hsg : GateSmall u := ⟨Nat.le_trans hs1 (by omega), Nat.le_trans hs2 (by omega)⟩
          have Hsg := Lib.hid hsg; clear hsg
          have hk10 : u.kept.length ≤ 10 := by have h := congrArg (fun x : Fares.Gate => x.kept.length) Hof.out; have h2 : u.kept.length = v.kept.length := h; omega
          obtain ⟨cP3_0, cP3_1, cP3_2, cP3_3, cP3_4⟩ := gateCells (t := 40) (v := v) HP3.out
          have ct3_0 : w3.cell? ⟨w.heap.size + 1 + 1, 0, none⟩ = some (.int .i64 v.val) := (HT3.out).cell 0
          have ct3_1 : w3.cell? ⟨w.heap.size + 1 + 1, 1, none⟩ = some (.int .i64 v.nxt) := (HT3.out).cell 1
          have ct3_2 : w3.cell? ⟨w.heap.size + 1 + 1, 2, none⟩ = some (.int .i64 c) := (HT3.out).cell 2
          have ct3_3 : w3.cell? ⟨w.heap.size + 1 + 1, 3, none⟩ = some (.int .i64 m) := (HT3.out).cell 3
          have ct3_4 : w3.cell? ⟨w.heap.size + 1 + 1, 4, none⟩ = some (.int .i64 s) := (HT3.out).cell 4
          have ct3_5 : w3.cell? ⟨w.heap.size + 1 + 1, 5, none⟩ = some (.bool o) := (HT3.out).cell 5
          have cA0 : (w3.alloc (.cells #[.int .i64 u.val, .int .i64 u.nxt, .int .i64 u.deny.ver, .slice u.deny.cardsA u.deny.cards.length u.deny.cardsc, .slice u.keptA u.kept.length u.keptc] 40)).cell? ⟨w.heap.size, 0, none⟩ = some (.int .i64 v.val) := ((Blk.alloc HP3.out _)).cell 0
          have cA1 : (w3.alloc (.cells #[.int .i64 u.val, .int .i64 u.nxt, .int .i64 u.deny.ver, .slice u.deny.cardsA u.deny.cards.length u.deny.cardsc, .slice u.keptA u.kept.length u.keptc] 40)).cell? ⟨w.heap.size, 1, none⟩ = some (.int .i64 v.nxt) := ((Blk.alloc HP3.out _)).cell 1
          have cA2 : (w3.alloc (.cells #[.int .i64 u.val, .int .i64 u.nxt, .int .i64 u.deny.ver, .slice u.deny.cardsA u.deny.cards.length u.deny.cardsc, .slice u.keptA u.kept.length u.keptc] 40)).cell? ⟨w.heap.size, 2, none⟩ = some (.int .i64 v.deny.ver) := ((Blk.alloc HP3.out _)).cell 2
          have cA3 : (w3.alloc (.cells #[.int .i64 u.val, .int .i64 u.nxt, .int .i64 u.deny.ver, .slice u.deny.cardsA u.deny.cards.length u.deny.cardsc, .slice u.keptA u.kept.length u.keptc] 40)).cell? ⟨w.heap.size, 3, none⟩ = some (.slice v.deny.cardsA v.deny.cards.length v.deny.cardsc) := ((Blk.alloc HP3.out _)).cell 3
          have cA4 : (w3.alloc (.cells #[.int .i64 u.val, .int .i64 u.nxt, .int .i64 u.deny.ver, .slice u.deny.cardsA u.deny.cards.length u.deny.cardsc, .slice u.keptA u.kept.length u.keptc] 40)).cell? ⟨w.heap.size, 4, none⟩ = some (.slice v.keptA v.kept.length v.keptc) := ((Blk.alloc HP3.out _)).cell 4
          go_wp2_with fail
          generalize hW : World.alloc _ _ = w4
          have hbx4 : Blk w4 w3.heap.size 40 (GateR.cells u) := by rw [← hW]; exact Blk.new w3 _ _
          have hb4 : Below w3.heap.size w3 w4 := by rw [← hW]; exact bA (Below.refl _ _) _
          have hy4 : w3.heap.size < w4.heap.size := by rw [← hW]; simp
          clear hW
          clear cP3_0 cP3_1 cP3_2 cP3_3 cP3_4 ct3_0 ct3_1 ct3_2 ct3_3 ct3_4 ct3_5 cA0 cA1 cA2 cA3 cA4
          have hz4 : w3.heap.size ≤ w4.heap.size := by have := hb4.size; (try simp at this); omega
          have HB4 := Lib.hid (bT HB3.out hb4)
          clear HB3
          have HP4 := Lib.hid (Blk.belowAll HP3.out hb4)
          clear HP3
          have HT4 := Lib.hid (Blk.belowAll HT3.out hb4)
          clear HT3
          have HR4 := Lib.hid (Blk.belowAll HR3.out hb4)
          clear HR3
          have HD4 := Lib.hid (DenyOwn.below HoD.out hb4)
          clear HoD
          have HK4 := Lib.hid (own_below HoK.out hb4)
          clear HoK
          clear hb4
          have Hbx4 := Lib.hid hbx4; clear hbx4
          refine (specisIn_any v.deny.cardsA v.deny.cards.length v.deny.cardsc v.deny.cards c _ (Hi.out.over HB4.out).1.1 rfl (by omega)).mono ?_
          rintro e w' ⟨rfl, rfl⟩
          obtain ⟨cP4_0, cP4_1, cP4_2, cP4_3, cP4_4⟩ := gateCells (t := 40) (v := v) HP4.out
          obtain ⟨cR4_0, cR4_1, cR4_2, cR4_3, cR4_4⟩ := gateCells (t := 40) (v := (⟨0, 0, ⟨0, none, 0, []⟩, none, 0, []⟩ : GateR)) HR4.out
          obtain ⟨cN4_0, cN4_1, cN4_2, cN4_3, cN4_4⟩ := gateCells (t := 40) (v := u) Hbx4.out
          have frR4_0 := (HR4.out).free 0
          have frR4_1 := (HR4.out).free 1
          have frR4_2 := (HR4.out).free 2
          have frR4_3 := (HR4.out).free 3
          have frR4_4 := (HR4.out).free 4
          have ct4_0 : w4.cell? ⟨w.heap.size + 1 + 1, 0, none⟩ = some (.int .i64 v.val) := (HT4.out).cell 0
          have ct4_1 : w4.cell? ⟨w.heap.size + 1 + 1, 1, none⟩ = some (.int .i64 v.nxt) := (HT4.out).cell 1
          have ct4_2 : w4.cell? ⟨w.heap.size + 1 + 1, 2, none⟩ = some (.int .i64 c) := (HT4.out).cell 2
          have ct4_3 : w4.cell? ⟨w.heap.size + 1 + 1, 3, none⟩ = some (.int .i64 m) := (HT4.out).cell 3
          have ct4_4 : w4.cell? ⟨w.heap.size + 1 + 1, 4, none⟩ = some (.int .i64 s) := (HT4.out).cell 4
          have ct4_5 : w4.cell? ⟨w.heap.size + 1 + 1, 5, none⟩ = some (.bool o) := (HT4.out).cell 5
          cases hq : Fares.isIn v.deny.cards c
          · by_cases h10 : v.kept.length = 10
            · have h10' : ((v.kept.length : Int) == 10) = true := by rw [beq_iff_eq]; omega
              have H10 := Lib.hid h10; clear h10
              go_wp2
              generalize hW : World.setCell _ _ _ = w5
              have ht5 : Touch (fun i => i = w.heap.size + 1) w4 w5 := by rw [← hW]; exact (Touch.far (K := fun i => i = w.heap.size + 1) (Touch.far (K := fun i => i = w.heap.size + 1) (Touch.far (K := fun i => i = w.heap.size + 1) (Touch.far (K := fun i => i = w.heap.size + 1) (Touch.far (K := fun i => i = w.heap.size + 1) (Touch.refl _ _) (p := ⟨w.heap.size + 1, 0, none⟩) rfl _) (p := ⟨w.heap.size + 1, 1, none⟩) rfl _) (p := ⟨w.heap.size + 1, 2, none⟩) rfl _) (p := ⟨w.heap.size + 1, 3, none⟩) rfl _) (p := ⟨w.heap.size + 1, 4, none⟩) rfl _)
              have hbx5 : Blk w5 (w.heap.size + 1) 40 (GateR.cells u) := by rw [← hW]; exact (Blk.put (Blk.put (Blk.put (Blk.put (Blk.put HR4.out 0 (.int .i64 u.val)) 1 (.int .i64 u.nxt)) 2 (.int .i64 u.deny.ver)) 3 (.slice u.deny.cardsA u.deny.cards.length u.deny.cardsc)) 4 (.slice u.keptA u.kept.length u.keptc))
              clear hW
              clear cP4_0 cP4_1 cP4_2 cP4_3 cP4_4 cR4_0 cR4_1 cR4_2 cR4_3 cR4_4 cN4_0 cN4_1 cN4_2 cN4_3 cN4_4 frR4_0 frR4_1 frR4_2 frR4_3 frR4_4 ct4_0 ct4_1 ct4_2 ct4_3 ct4_4 ct4_5
              have hz5 : w4.heap.size ≤ w5.heap.size := by have := ht5.size; (try simp at this); omega
              have HB5 := Lib.hid (Touch.below HB4.out ht5 (fun i hi => by omega))
              clear HB4
              have HP5 := Lib.hid (Blk.touch HP4.out ht5 (show ¬ (w.heap.size = w.heap.size + 1) by omega))
              clear HP4
              have HT5 := Lib.hid (Blk.touch HT4.out ht5 (show ¬ (w.heap.size + 1 + 1 = w.heap.size + 1) by omega))
              clear HT4
              have HD5 := Lib.hid (DenyOwn.touch HD4.out ht5 (fun i hi e0 => by have a1 := LTD.out _ hi; have a2 := UPD.out _ hi; omega))
              clear HD4
              have HK5 := Lib.hid (ownTouch HK4.out ht5 (fun i hi e0 => by have a1 := LTK.out _ hi; have a2 := UPK.out _ hi; omega))
              clear HK4
              have HN5 := Lib.hid (Blk.touch Hbx4.out ht5 (show ¬ (w3.heap.size = w.heap.size + 1) by omega))
              clear Hbx4
              clear ht5 HR4
              have Hbx5 := Lib.hid hbx5; clear hbx5
              have hE : Fares.holdCard v.of c m s o = (v.of, o) := by unfold Fares.holdCard; rw [if_pos ⟨Hv.out, Hc.out⟩]; exact if_pos (show ((Fares.isIn v.deny.cards c && !o) || decide (v.kept.length = 10) || decide (999 < v.nxt)) = true from by rw [decide_eq_true H10.out]; simp)
              obtain ⟨z0, z1, z2, z3, z4⟩ := gateCells (t := 40) (v := u) Hbx5.out
              refine bodyPost_ret (v := .tuple #[gateV u, .bool o]) (by simp [results, Try.results39, go_sem, gateV, z0, z1, z2, z3, z4]) rfl ⟨⟨u, ?_, ?_, ⟨DenyOwn.base HD5.out (by omega), ownBase HK5.out (by omega), Hap.out⟩, Hsg.out⟩, HB5.out⟩
              · rw [hE]; rfl
              · rw [hE]; exact Hof.out
            · have h10' : ((v.kept.length : Int) == 10) = false := by rw [beq_eq_false_iff_ne]; omega
              have H10 := Lib.hid h10; clear h10
              by_cases h9 : 999 < v.nxt
              · have h9' : decide (999 < v.nxt) = true := decide_eq_true h9
                go_wp2
                generalize hW : World.setCell _ _ _ = w5
                have ht5 : Touch (fun i => i = w.heap.size + 1) w4 w5 := by rw [← hW]; exact (Touch.far (K := fun i => i = w.heap.size + 1) (Touch.far (K := fun i => i = w.heap.size + 1) (Touch.far (K := fun i => i = w.heap.size + 1) (Touch.far (K := fun i => i = w.heap.size + 1) (Touch.far (K := fun i => i = w.heap.size + 1) (Touch.refl _ _) (p := ⟨w.heap.size + 1, 0, none⟩) rfl _) (p := ⟨w.heap.size + 1, 1, none⟩) rfl _) (p := ⟨w.heap.size + 1, 2, none⟩) rfl _) (p := ⟨w.heap.size + 1, 3, none⟩) rfl _) (p := ⟨w.heap.size + 1, 4, none⟩) rfl _)
                have hbx5 : Blk w5 (w.heap.size + 1) 40 (GateR.cells u) := by rw [← hW]; exact (Blk.put (Blk.put (Blk.put (Blk.put (Blk.put HR4.out 0 (.int .i64 u.val)) 1 (.int .i64 u.nxt)) 2 (.int .i64 u.deny.ver)) 3 (.slice u.deny.cardsA u.deny.cards.length u.deny.cardsc)) 4 (.slice u.keptA u.kept.length u.keptc))
                clear hW
                clear cP4_0 cP4_1 cP4_2 cP4_3 cP4_4 cR4_0 cR4_1 cR4_2 cR4_3 cR4_4 cN4_0 cN4_1 cN4_2 cN4_3 cN4_4 frR4_0 frR4_1 frR4_2 frR4_3 frR4_4 ct4_0 ct4_1 ct4_2 ct4_3 ct4_4 ct4_5
                have hz5 : w4.heap.size ≤ w5.heap.size := by have := ht5.size; (try simp at this); omega
                have HB5 := Lib.hid (Touch.below HB4.out ht5 (fun i hi => by omega))
                clear HB4
                have HP5 := Lib.hid (Blk.touch HP4.out ht5 (show ¬ (w.heap.size = w.heap.size + 1) by omega))
                clear HP4
                have HT5 := Lib.hid (Blk.touch HT4.out ht5 (show ¬ (w.heap.size + 1 + 1 = w.heap.size + 1) by omega))
                clear HT4
                have HD5 := Lib.hid (DenyOwn.touch HD4.out ht5 (fun i hi e0 => by have a1 := LTD.out _ hi; have a2 := UPD.out _ hi; omega))
                clear HD4
                have HK5 := Lib.hid (ownTouch HK4.out ht5 (fun i hi e0 => by have a1 := LTK.out _ hi; have a2 := UPK.out _ hi; omega))
                clear HK4
                have HN5 := Lib.hid (Blk.touch Hbx4.out ht5 (show ¬ (w3.heap.size = w.heap.size + 1) by omega))
                clear Hbx4
                clear ht5 HR4
                have Hbx5 := Lib.hid hbx5; clear hbx5
                have hE : Fares.holdCard v.of c m s o = (v.of, o) := by unfold Fares.holdCard; rw [if_pos ⟨Hv.out, Hc.out⟩]; exact if_pos (show ((Fares.isIn v.deny.cards c && !o) || decide (v.kept.length = 10) || decide (999 < v.nxt)) = true from by rw [h9']; simp)
                obtain ⟨z0, z1, z2, z3, z4⟩ := gateCells (t := 40) (v := u) Hbx5.out
                refine bodyPost_ret (v := .tuple #[gateV u, .bool o]) (by simp [results, Try.results39, go_sem, gateV, z0, z1, z2, z3, z4]) rfl ⟨⟨u, ?_, ?_, ⟨DenyOwn.base HD5.out (by omega), ownBase HK5.out (by omega), Hap.out⟩, Hsg.out⟩, HB5.out⟩
                · rw [hE]; rfl
                · rw [hE]; exact Hof.out
              · have h9' : decide (999 < v.nxt) = false := decide_eq_false h9
                go_wp2_with (at_builtin; refine wpList_append_lies _ rfl (.tmp 68) (.tmp 70) _ rfl (w2.heap.size) 57 ti _ 6 48 Try.underlying38 HITap.out HZ0Tap.out HZ1Tap.out HZ2Tap.out rfl (by omega) _ _ _ rfl (World.ownsRow.alloc HK4.out _) ⟨w4.heap.size, 0, none⟩ 1 1 (tapCells (⟨v.val, v.nxt, c, m, s, o⟩ : Fares.Tap)) rfl rfl ?c1 ?c2 (by omega) ?c3 ?c4 ?c5 _ rfl ?_)
                case c1 => exact World.news_of_block (Blk.new' (t := 57) (cs := #[.int .i64 (⟨v.val, v.nxt, c, m, s, o⟩ : Fares.Tap).v, .int .i64 (⟨v.val, v.nxt, c, m, s, o⟩ : Fares.Tap).n, .int .i64 (⟨v.val, v.nxt, c, m, s, o⟩ : Fares.Tap).c, .int .i64 (⟨v.val, v.nxt, c, m, s, o⟩ : Fares.Tap).m, .int .i64 (⟨v.val, v.nxt, c, m, s, o⟩ : Fares.Tap).s, .bool (⟨v.val, v.nxt, c, m, s, o⟩ : Fares.Tap).o]) (by simp))
                case c2 => simp [tapCells, Value.oneCell']
                case c3 => unfold maxLen; omega
                case c4 => omega
                case c5 => first | omega | (simp; omega) | simp
                intro gb cap w5 hownA hgrow5 hatA hltA
                have HX := Lib.hid (OwnTaps.snoc hownA); clear hownA
                have HatA := Lib.hid hatA; clear hatA
                clear cP4_0 cP4_1 cP4_2 cP4_3 cP4_4 cR4_0 cR4_1 cR4_2 cR4_3 cR4_4 cN4_0 cN4_1 cN4_2 cN4_3 cN4_4 frR4_0 frR4_1 frR4_2 frR4_3 frR4_4 ct4_0 ct4_1 ct4_2 ct4_3 ct4_4 ct4_5
                have hz5 : w4.heap.size + 1 ≤ w5.heap.size := by have := hgrow5.size; (try simp at this); omega
                have HB5 := Lib.hid (Touch.below (bA HB4.out _) (Touch.of_grown hgrow5) (fun i hi => by have a1 := LTK.out _ hi; omega))
                clear HB4
                have HP5 := Lib.hid (Blk.grown (Blk.alloc HP4.out _) hgrow5 (by intro e; have a1 := LTK.out _ e.symm; have a2 := UPK.out _ e.symm; omega))
                clear HP4
                have HT5 := Lib.hid (Blk.grown (Blk.alloc HT4.out _) hgrow5 (by intro e; have a1 := LTK.out _ e.symm; have a2 := UPK.out _ e.symm; omega))
                clear HT4
                have HR5 := Lib.hid (Blk.grown (Blk.alloc HR4.out _) hgrow5 (by intro e; have a1 := LTK.out _ e.symm; have a2 := UPK.out _ e.symm; omega))
                clear HR4
                have HD5 := Lib.hid (DenyOwn.touch (DenyOwn.up HD4.out _) (Touch.of_grown hgrow5) (fun i hi e0 => Hap.out i hi e0))
                clear HD4
                have HN5 := Lib.hid (Blk.grown (Blk.alloc Hbx4.out _) hgrow5 (by intro e; have a1 := LTK.out _ e.symm; have a2 := UPK.out _ e.symm; omega))
                clear Hbx4
                clear hgrow5 HK4
                have hXk : World.ownsRow w5 (w2.heap.size) 57 6 (.slice (some ⟨gb, 0, none⟩) (u.kept ++ [(⟨v.val, v.nxt, c, m, s, o⟩ : Fares.Tap)]).length cap) (u.kept ++ [(⟨v.val, v.nxt, c, m, s, o⟩ : Fares.Tap)]).length ((u.kept ++ [(⟨v.val, v.nxt, c, m, s, o⟩ : Fares.Tap)]).flatMap tapCells) := by have h := HX.out; unfold OwnTaps at h; rw [List.length_append, List.length_singleton] at h ⊢; exact h
                clear HX
                have LTA := Lib.hid (fun k hk => (World.ownsRow.lt hXk k hk).1)
                have UPA := Lib.hid (fun k hk => (World.ownsRow.lt hXk k hk).2)
                have HoA := Lib.hid hXk; clear hXk
                have hlk : (u.kept ++ [(⟨v.val, v.nxt, c, m, s, o⟩ : Fares.Tap)]).length = u.kept.length + 1 := by simp
                have Hlk := Lib.hid hlk; clear hlk
                obtain ⟨cP5_0, cP5_1, cP5_2, cP5_3, cP5_4⟩ := gateCells (t := 40) (v := v) HP5.out
                obtain ⟨cR5_0, cR5_1, cR5_2, cR5_3, cR5_4⟩ := gateCells (t := 40) (v := (⟨0, 0, ⟨0, none, 0, []⟩, none, 0, []⟩ : GateR)) HR5.out
                obtain ⟨cN5_0, cN5_1, cN5_2, cN5_3, cN5_4⟩ := gateCells (t := 40) (v := u) HN5.out
                have frR5_0 := (HR5.out).free 0
                have frR5_1 := (HR5.out).free 1
                have frR5_2 := (HR5.out).free 2
                have frR5_3 := (HR5.out).free 3
                have frR5_4 := (HR5.out).free 4
                go_wp2
                generalize hW : World.setCell _ _ _ = wf
                have htf : Touch (fun i => i = w.heap.size + 1) w5 wf := by rw [← hW]; exact (Touch.far (K := fun i => i = w.heap.size + 1) (Touch.far (K := fun i => i = w.heap.size + 1) (Touch.far (K := fun i => i = w.heap.size + 1) (Touch.far (K := fun i => i = w.heap.size + 1) (Touch.far (K := fun i => i = w.heap.size + 1) (Touch.refl _ _) (p := ⟨w.heap.size + 1, 0, none⟩) rfl _) (p := ⟨w.heap.size + 1, 1, none⟩) rfl _) (p := ⟨w.heap.size + 1, 2, none⟩) rfl _) (p := ⟨w.heap.size + 1, 3, none⟩) rfl _) (p := ⟨w.heap.size + 1, 4, none⟩) rfl _)
                have hRf : Blk wf (w.heap.size + 1) 40 (GateR.cells (⟨v.val, v.nxt + 1, u.deny, some ⟨gb, 0, none⟩, cap, u.kept ++ [(⟨v.val, v.nxt, c, m, s, o⟩ : Fares.Tap)]⟩ : GateR)) := by rw [← hW]; unfold GateR.cells; dsimp only; rw [Hlk.out]; exact (Blk.put (Blk.put (Blk.put (Blk.put (Blk.put HR5.out 0 _) 1 _) 2 _) 3 _) 4 _)
                clear hW
                clear cP5_0 cP5_1 cP5_2 cP5_3 cP5_4 cR5_0 cR5_1 cR5_2 cR5_3 cR5_4 cN5_0 cN5_1 cN5_2 cN5_3 cN5_4 frR5_0 frR5_1 frR5_2 frR5_3 frR5_4
                have HRf := Lib.hid hRf; clear hRf
                have hBf : Below w.heap.size w wf := Touch.below HB5.out htf (fun i hi => by omega)
                have NEA : ∀ k, (.slice (some ⟨gb, 0, none⟩) (u.kept ++ [(⟨v.val, v.nxt, c, m, s, o⟩ : Fares.Tap)]).length cap : Value).ownBlock = some k → (DenyBlocks u.deny k → False) := fun k hk => by
                    have ek : gb = k := by injection hk
                    subst ek
                    rcases HatA.out with e | e
                    · exact fun hd => Hap.out _ hd e
                    · (try simp at e)
                      exact fun hd => by have a1 := UPD.out _ hd; omega
                have hAf := ownTouch HoA.out htf (fun i hi e0 => by have a1 := LTA.out _ hi; omega)
                have hDf := DenyOwn.touch HD5.out htf (fun i hi e0 => by have a1 := LTD.out _ hi; have a2 := UPD.out _ hi; omega)
                have hE : Fares.holdCard v.of c m s o = (Fares.withTap v.of c m s o, true) := by unfold Fares.holdCard; rw [if_pos ⟨Hv.out, Hc.out⟩]; exact if_neg (show ¬ ((Fares.isIn v.deny.cards c && !o) || decide (v.kept.length = 10) || decide (999 < v.nxt)) = true from by rw [hq, decide_eq_false H10.out, h9']; simp)
                obtain ⟨z0, z1, z2, z3, z4⟩ := gateCells (t := 40) (v := (⟨v.val, v.nxt + 1, u.deny, some ⟨gb, 0, none⟩, cap, u.kept ++ [(⟨v.val, v.nxt, c, m, s, o⟩ : Fares.Tap)]⟩ : GateR)) HRf.out
                refine bodyPost_ret (v := .tuple #[gateV (⟨v.val, v.nxt + 1, u.deny, some ⟨gb, 0, none⟩, cap, u.kept ++ [(⟨v.val, v.nxt, c, m, s, o⟩ : Fares.Tap)]⟩ : GateR), .bool true]) (by simp [results, Try.results39, go_sem, gateV, z0, z1, z2, z3, z4]) rfl ⟨⟨(⟨v.val, v.nxt + 1, u.deny, some ⟨gb, 0, none⟩, cap, u.kept ++ [(⟨v.val, v.nxt, c, m, s, o⟩ : Fares.Tap)]⟩ : GateR), ?_, ?_, ⟨DenyOwn.base hDf (by omega), ownBase hAf (by omega), fun k h1 h2 => NEA k h2 h1⟩, Nat.le_trans hs1 (by omega), by show (u.kept ++ [_]).length ≤ 1048576; rw [Hlk.out]; omega⟩, hBf⟩
                · rw [hE]; rfl
                · rw [hE]
                  have h := Hof.out
                  have e3 : u.deny.of = v.deny.of := congrArg Fares.Gate.deny h
                  have e4 : u.kept = v.kept := congrArg Fares.Gate.kept h
                  show (⟨v.val, v.nxt + 1, u.deny.of, u.kept ++ [_]⟩ : Fares.Gate) = ⟨v.val, v.nxt + 1, v.deny.of, v.kept ++ [_]⟩
                  rw [e3, e4]
                  rfl
          · cases o with
            | true =>
              by_cases h10 : v.kept.length = 10
              · have h10' : ((v.kept.length : Int) == 10) = true := by rw [beq_iff_eq]; omega
                have H10 := Lib.hid h10; clear h10
                go_wp2
                generalize hW : World.setCell _ _ _ = w5
                have ht5 : Touch (fun i => i = w.heap.size + 1) w4 w5 := by rw [← hW]; exact (Touch.far (K := fun i => i = w.heap.size + 1) (Touch.far (K := fun i => i = w.heap.size + 1) (Touch.far (K := fun i => i = w.heap.size + 1) (Touch.far (K := fun i => i = w.heap.size + 1) (Touch.far (K := fun i => i = w.heap.size + 1) (Touch.refl _ _) (p := ⟨w.heap.size + 1, 0, none⟩) rfl _) (p := ⟨w.heap.size + 1, 1, none⟩) rfl _) (p := ⟨w.heap.size + 1, 2, none⟩) rfl _) (p := ⟨w.heap.size + 1, 3, none⟩) rfl _) (p := ⟨w.heap.size + 1, 4, none⟩) rfl _)
                have hbx5 : Blk w5 (w.heap.size + 1) 40 (GateR.cells u) := by rw [← hW]; exact (Blk.put (Blk.put (Blk.put (Blk.put (Blk.put HR4.out 0 (.int .i64 u.val)) 1 (.int .i64 u.nxt)) 2 (.int .i64 u.deny.ver)) 3 (.slice u.deny.cardsA u.deny.cards.length u.deny.cardsc)) 4 (.slice u.keptA u.kept.length u.keptc))
                clear hW
                clear cP4_0 cP4_1 cP4_2 cP4_3 cP4_4 cR4_0 cR4_1 cR4_2 cR4_3 cR4_4 cN4_0 cN4_1 cN4_2 cN4_3 cN4_4 frR4_0 frR4_1 frR4_2 frR4_3 frR4_4 ct4_0 ct4_1 ct4_2 ct4_3 ct4_4 ct4_5
                have hz5 : w4.heap.size ≤ w5.heap.size := by have := ht5.size; (try simp at this); omega
                have HB5 := Lib.hid (Touch.below HB4.out ht5 (fun i hi => by omega))
                clear HB4
                have HP5 := Lib.hid (Blk.touch HP4.out ht5 (show ¬ (w.heap.size = w.heap.size + 1) by omega))
                clear HP4
                have HT5 := Lib.hid (Blk.touch HT4.out ht5 (show ¬ (w.heap.size + 1 + 1 = w.heap.size + 1) by omega))
                clear HT4
                have HD5 := Lib.hid (DenyOwn.touch HD4.out ht5 (fun i hi e0 => by have a1 := LTD.out _ hi; have a2 := UPD.out _ hi; omega))
                clear HD4
                have HK5 := Lib.hid (ownTouch HK4.out ht5 (fun i hi e0 => by have a1 := LTK.out _ hi; have a2 := UPK.out _ hi; omega))
                clear HK4
                have HN5 := Lib.hid (Blk.touch Hbx4.out ht5 (show ¬ (w3.heap.size = w.heap.size + 1) by omega))
                clear Hbx4
                clear ht5 HR4
                have Hbx5 := Lib.hid hbx5; clear hbx5
                have hE : Fares.holdCard v.of c m s true = (v.of, true) := by unfold Fares.holdCard; rw [if_pos ⟨Hv.out, Hc.out⟩]; exact if_pos (show ((Fares.isIn v.deny.cards c && !true) || decide (v.kept.length = 10) || decide (999 < v.nxt)) = true from by rw [decide_eq_true H10.out]; simp)
                obtain ⟨z0, z1, z2, z3, z4⟩ := gateCells (t := 40) (v := u) Hbx5.out
                refine bodyPost_ret (v := .tuple #[gateV u, .bool true]) (by simp [results, Try.results39, go_sem, gateV, z0, z1, z2, z3, z4]) rfl ⟨⟨u, ?_, ?_, ⟨DenyOwn.base HD5.out (by omega), ownBase HK5.out (by omega), Hap.out⟩, Hsg.out⟩, HB5.out⟩
                · rw [hE]; rfl
                · rw [hE]; exact Hof.out
              · have h10' : ((v.kept.length : Int) == 10) = false := by rw [beq_eq_false_iff_ne]; omega
                have H10 := Lib.hid h10; clear h10
                by_cases h9 : 999 < v.nxt
                · have h9' : decide (999 < v.nxt) = true := decide_eq_true h9
                  go_wp2
                  generalize hW : World.setCell _ _ _ = w5
                  have ht5 : Touch (fun i => i = w.heap.size + 1) w4 w5 := by rw [← hW]; exact (Touch.far (K := fun i => i = w.heap.size + 1) (Touch.far (K := fun i => i = w.heap.size + 1) (Touch.far (K := fun i => i = w.heap.size + 1) (Touch.far (K := fun i => i = w.heap.size + 1) (Touch.far (K := fun i => i = w.heap.size + 1) (Touch.refl _ _) (p := ⟨w.heap.size + 1, 0, none⟩) rfl _) (p := ⟨w.heap.size + 1, 1, none⟩) rfl _) (p := ⟨w.heap.size + 1, 2, none⟩) rfl _) (p := ⟨w.heap.size + 1, 3, none⟩) rfl _) (p := ⟨w.heap.size + 1, 4, none⟩) rfl _)
                  have hbx5 : Blk w5 (w.heap.size + 1) 40 (GateR.cells u) := by rw [← hW]; exact (Blk.put (Blk.put (Blk.put (Blk.put (Blk.put HR4.out 0 (.int .i64 u.val)) 1 (.int .i64 u.nxt)) 2 (.int .i64 u.deny.ver)) 3 (.slice u.deny.cardsA u.deny.cards.length u.deny.cardsc)) 4 (.slice u.keptA u.kept.length u.keptc))
                  clear hW
                  clear cP4_0 cP4_1 cP4_2 cP4_3 cP4_4 cR4_0 cR4_1 cR4_2 cR4_3 cR4_4 cN4_0 cN4_1 cN4_2 cN4_3 cN4_4 frR4_0 frR4_1 frR4_2 frR4_3 frR4_4 ct4_0 ct4_1 ct4_2 ct4_3 ct4_4 ct4_5
                  have hz5 : w4.heap.size ≤ w5.heap.size := by have := ht5.size; (try simp at this); omega
                  have HB5 := Lib.hid (Touch.below HB4.out ht5 (fun i hi => by omega))
                  clear HB4
                  have HP5 := Lib.hid (Blk.touch HP4.out ht5 (show ¬ (w.heap.size = w.heap.size + 1) by omega))
                  clear HP4
                  have HT5 := Lib.hid (Blk.touch HT4.out ht5 (show ¬ (w.heap.size + 1 + 1 = w.heap.size + 1) by omega))
                  clear HT4
                  have HD5 := Lib.hid (DenyOwn.touch HD4.out ht5 (fun i hi e0 => by have a1 := LTD.out _ hi; have a2 := UPD.out _ hi; omega))
                  clear HD4
                  have HK5 := Lib.hid (ownTouch HK4.out ht5 (fun i hi e0 => by have a1 := LTK.out _ hi; have a2 := UPK.out _ hi; omega))
                  clear HK4
                  have HN5 := Lib.hid (Blk.touch Hbx4.out ht5 (show ¬ (w3.heap.size = w.heap.size + 1) by omega))
                  clear Hbx4
                  clear ht5 HR4
                  have Hbx5 := Lib.hid hbx5; clear hbx5
                  have hE : Fares.holdCard v.of c m s true = (v.of, true) := by unfold Fares.holdCard; rw [if_pos ⟨Hv.out, Hc.out⟩]; exact if_pos (show ((Fares.isIn v.deny.cards c && !true) || decide (v.kept.length = 10) || decide (999 < v.nxt)) = true from by rw [h9']; simp)
                  obtain ⟨z0, z1, z2, z3, z4⟩ := gateCells (t := 40) (v := u) Hbx5.out
                  refine bodyPost_ret (v := .tuple #[gateV u, .bool true]) (by simp [results, Try.results39, go_sem, gateV, z0, z1, z2, z3, z4]) rfl ⟨⟨u, ?_, ?_, ⟨DenyOwn.base HD5.out (by omega), ownBase HK5.out (by omega), Hap.out⟩, Hsg.out⟩, HB5.out⟩
                  · rw [hE]; rfl
                  · rw [hE]; exact Hof.out
                · have h9' : decide (999 < v.nxt) = false := decide_eq_false h9
                  go_wp2_with (at_builtin; refine wpList_append_lies _ rfl (.tmp 68) (.tmp 70) _ rfl (w2.heap.size) 57 ti _ 6 48 Try.underlying38 HITap.out HZ0Tap.out HZ1Tap.out HZ2Tap.out rfl (by omega) _ _ _ rfl (World.ownsRow.alloc HK4.out _) ⟨w4.heap.size, 0, none⟩ 1 1 (tapCells (⟨v.val, v.nxt, c, m, s, true⟩ : Fares.Tap)) rfl rfl ?c1 ?c2 (by omega) ?c3 ?c4 ?c5 _ rfl ?_)
                  case c1 => exact World.news_of_block (Blk.new' (t := 57) (cs := #[.int .i64 (⟨v.val, v.nxt, c, m, s, true⟩ : Fares.Tap).v, .int .i64 (⟨v.val, v.nxt, c, m, s, true⟩ : Fares.Tap).n, .int .i64 (⟨v.val, v.nxt, c, m, s, true⟩ : Fares.Tap).c, .int .i64 (⟨v.val, v.nxt, c, m, s, true⟩ : Fares.Tap).m, .int .i64 (⟨v.val, v.nxt, c, m, s, true⟩ : Fares.Tap).s, .bool (⟨v.val, v.nxt, c, m, s, true⟩ : Fares.Tap).o]) (by simp))
                  case c2 => simp [tapCells, Value.oneCell']
                  case c3 => unfold maxLen; omega
                  case c4 => omega
                  case c5 => first | omega | (simp; omega) | simp
                  intro gb cap w5 hownA hgrow5 hatA hltA
                  have HX := Lib.hid (OwnTaps.snoc hownA); clear hownA
                  have HatA := Lib.hid hatA; clear hatA
                  clear cP4_0 cP4_1 cP4_2 cP4_3 cP4_4 cR4_0 cR4_1 cR4_2 cR4_3 cR4_4 cN4_0 cN4_1 cN4_2 cN4_3 cN4_4 frR4_0 frR4_1 frR4_2 frR4_3 frR4_4 ct4_0 ct4_1 ct4_2 ct4_3 ct4_4 ct4_5
                  have hz5 : w4.heap.size + 1 ≤ w5.heap.size := by have := hgrow5.size; (try simp at this); omega
                  have HB5 := Lib.hid (Touch.below (bA HB4.out _) (Touch.of_grown hgrow5) (fun i hi => by have a1 := LTK.out _ hi; omega))
                  clear HB4
                  have HP5 := Lib.hid (Blk.grown (Blk.alloc HP4.out _) hgrow5 (by intro e; have a1 := LTK.out _ e.symm; have a2 := UPK.out _ e.symm; omega))
                  clear HP4
                  have HT5 := Lib.hid (Blk.grown (Blk.alloc HT4.out _) hgrow5 (by intro e; have a1 := LTK.out _ e.symm; have a2 := UPK.out _ e.symm; omega))
                  clear HT4
                  have HR5 := Lib.hid (Blk.grown (Blk.alloc HR4.out _) hgrow5 (by intro e; have a1 := LTK.out _ e.symm; have a2 := UPK.out _ e.symm; omega))
                  clear HR4
                  have HD5 := Lib.hid (DenyOwn.touch (DenyOwn.up HD4.out _) (Touch.of_grown hgrow5) (fun i hi e0 => Hap.out i hi e0))
                  clear HD4
                  have HN5 := Lib.hid (Blk.grown (Blk.alloc Hbx4.out _) hgrow5 (by intro e; have a1 := LTK.out _ e.symm; have a2 := UPK.out _ e.symm; omega))
                  clear Hbx4
                  clear hgrow5 HK4
                  have hXk : World.ownsRow w5 (w2.heap.size) 57 6 (.slice (some ⟨gb, 0, none⟩) (u.kept ++ [(⟨v.val, v.nxt, c, m, s, true⟩ : Fares.Tap)]).length cap) (u.kept ++ [(⟨v.val, v.nxt, c, m, s, true⟩ : Fares.Tap)]).length ((u.kept ++ [(⟨v.val, v.nxt, c, m, s, true⟩ : Fares.Tap)]).flatMap tapCells) := by have h := HX.out; unfold OwnTaps at h; rw [List.length_append, List.length_singleton] at h ⊢; exact h
                  clear HX
                  have LTA := Lib.hid (fun k hk => (World.ownsRow.lt hXk k hk).1)
                  have UPA := Lib.hid (fun k hk => (World.ownsRow.lt hXk k hk).2)
                  have HoA := Lib.hid hXk; clear hXk
                  have hlk : (u.kept ++ [(⟨v.val, v.nxt, c, m, s, true⟩ : Fares.Tap)]).length = u.kept.length + 1 := by simp
                  have Hlk := Lib.hid hlk; clear hlk
                  obtain ⟨cP5_0, cP5_1, cP5_2, cP5_3, cP5_4⟩ := gateCells (t := 40) (v := v) HP5.out
                  obtain ⟨cR5_0, cR5_1, cR5_2, cR5_3, cR5_4⟩ := gateCells (t := 40) (v := (⟨0, 0, ⟨0, none, 0, []⟩, none, 0, []⟩ : GateR)) HR5.out
                  obtain ⟨cN5_0, cN5_1, cN5_2, cN5_3, cN5_4⟩ := gateCells (t := 40) (v := u) HN5.out
                  have frR5_0 := (HR5.out).free 0
                  have frR5_1 := (HR5.out).free 1
                  have frR5_2 := (HR5.out).free 2
                  have frR5_3 := (HR5.out).free 3
                  have frR5_4 := (HR5.out).free 4
                  go_wp2
                  generalize hW : World.setCell _ _ _ = wf
                  have htf : Touch (fun i => i = w.heap.size + 1) w5 wf := by rw [← hW]; exact (Touch.far (K := fun i => i = w.heap.size + 1) (Touch.far (K := fun i => i = w.heap.size + 1) (Touch.far (K := fun i => i = w.heap.size + 1) (Touch.far (K := fun i => i = w.heap.size + 1) (Touch.far (K := fun i => i = w.heap.size + 1) (Touch.refl _ _) (p := ⟨w.heap.size + 1, 0, none⟩) rfl _) (p := ⟨w.heap.size + 1, 1, none⟩) rfl _) (p := ⟨w.heap.size + 1, 2, none⟩) rfl _) (p := ⟨w.heap.size + 1, 3, none⟩) rfl _) (p := ⟨w.heap.size + 1, 4, none⟩) rfl _)
                  have hRf : Blk wf (w.heap.size + 1) 40 (GateR.cells (⟨v.val, v.nxt + 1, u.deny, some ⟨gb, 0, none⟩, cap, u.kept ++ [(⟨v.val, v.nxt, c, m, s, true⟩ : Fares.Tap)]⟩ : GateR)) := by rw [← hW]; unfold GateR.cells; dsimp only; rw [Hlk.out]; exact (Blk.put (Blk.put (Blk.put (Blk.put (Blk.put HR5.out 0 _) 1 _) 2 _) 3 _) 4 _)
                  clear hW
                  clear cP5_0 cP5_1 cP5_2 cP5_3 cP5_4 cR5_0 cR5_1 cR5_2 cR5_3 cR5_4 cN5_0 cN5_1 cN5_2 cN5_3 cN5_4 frR5_0 frR5_1 frR5_2 frR5_3 frR5_4
                  have HRf := Lib.hid hRf; clear hRf
                  have hBf : Below w.heap.size w wf := Touch.below HB5.out htf (fun i hi => by omega)
                  have NEA : ∀ k, (.slice (some ⟨gb, 0, none⟩) (u.kept ++ [(⟨v.val, v.nxt, c, m, s, true⟩ : Fares.Tap)]).length cap : Value).ownBlock = some k → (DenyBlocks u.deny k → False) := fun k hk => by
                      have ek : gb = k := by injection hk
                      subst ek
                      rcases HatA.out with e | e
                      · exact fun hd => Hap.out _ hd e
                      · (try simp at e)
                        exact fun hd => by have a1 := UPD.out _ hd; omega
                  have hAf := ownTouch HoA.out htf (fun i hi e0 => by have a1 := LTA.out _ hi; omega)
                  have hDf := DenyOwn.touch HD5.out htf (fun i hi e0 => by have a1 := LTD.out _ hi; have a2 := UPD.out _ hi; omega)
                  have hE : Fares.holdCard v.of c m s true = (Fares.withTap v.of c m s true, true) := by unfold Fares.holdCard; rw [if_pos ⟨Hv.out, Hc.out⟩]; exact if_neg (show ¬ ((Fares.isIn v.deny.cards c && !true) || decide (v.kept.length = 10) || decide (999 < v.nxt)) = true from by rw [hq, decide_eq_false H10.out, h9']; simp)
                  obtain ⟨z0, z1, z2, z3, z4⟩ := gateCells (t := 40) (v := (⟨v.val, v.nxt + 1, u.deny, some ⟨gb, 0, none⟩, cap, u.kept ++ [(⟨v.val, v.nxt, c, m, s, true⟩ : Fares.Tap)]⟩ : GateR)) HRf.out
                  refine bodyPost_ret (v := .tuple #[gateV (⟨v.val, v.nxt + 1, u.deny, some ⟨gb, 0, none⟩, cap, u.kept ++ [(⟨v.val, v.nxt, c, m, s, true⟩ : Fares.Tap)]⟩ : GateR), .bool true]) (by simp [results, Try.results39, go_sem, gateV, z0, z1, z2, z3, z4]) rfl ⟨⟨(⟨v.val, v.nxt + 1, u.deny, some ⟨gb, 0, none⟩, cap, u.kept ++ [(⟨v.val, v.nxt, c, m, s, true⟩ : Fares.Tap)]⟩ : GateR), ?_, ?_, ⟨DenyOwn.base hDf (by omega), ownBase hAf (by omega), fun k h1 h2 => NEA k h2 h1⟩, Nat.le_trans hs1 (by omega), by show (u.kept ++ [_]).length ≤ 1048576; rw [Hlk.out]; omega⟩, hBf⟩
                  · rw [hE]; rfl
                  · rw [hE]
                    have h := Hof.out
                    have e3 : u.deny.of = v.deny.of := congrArg Fares.Gate.deny h
                    have e4 : u.kept = v.kept := congrArg Fares.Gate.kept h
                    show (⟨v.val, v.nxt + 1, u.deny.of, u.kept ++ [_]⟩ : Fares.Gate) = ⟨v.val, v.nxt + 1, v.deny.of, v.kept ++ [_]⟩
                    rw [e3, e4]
                    rfl
            | false =>
              go_wp2
              generalize hW : World.setCell _ _ _ = w5
              have ht5 : Touch (fun i => i = w.heap.size + 1) w4 w5 := by rw [← hW]; exact (Touch.far (K := fun i => i = w.heap.size + 1) (Touch.far (K := fun i => i = w.heap.size + 1) (Touch.far (K := fun i => i = w.heap.size + 1) (Touch.far (K := fun i => i = w.heap.size + 1) (Touch.far (K := fun i => i = w.heap.size + 1) (Touch.refl _ _) (p := ⟨w.heap.size + 1, 0, none⟩) rfl _) (p := ⟨w.heap.size + 1, 1, none⟩) rfl _) (p := ⟨w.heap.size + 1, 2, none⟩) rfl _) (p := ⟨w.heap.size + 1, 3, none⟩) rfl _) (p := ⟨w.heap.size + 1, 4, none⟩) rfl _)
              have hbx5 : Blk w5 (w.heap.size + 1) 40 (GateR.cells u) := by rw [← hW]; exact (Blk.put (Blk.put (Blk.put (Blk.put (Blk.put HR4.out 0 (.int .i64 u.val)) 1 (.int .i64 u.nxt)) 2 (.int .i64 u.deny.ver)) 3 (.slice u.deny.cardsA u.deny.cards.length u.deny.cardsc)) 4 (.slice u.keptA u.kept.length u.keptc))
              clear hW
              clear cP4_0 cP4_1 cP4_2 cP4_3 cP4_4 cR4_0 cR4_1 cR4_2 cR4_3 cR4_4 cN4_0 cN4_1 cN4_2 cN4_3 cN4_4 frR4_0 frR4_1 frR4_2 frR4_3 frR4_4 ct4_0 ct4_1 ct4_2 ct4_3 ct4_4 ct4_5
              have hz5 : w4.heap.size ≤ w5.heap.size := by have := ht5.size; (try simp at this); omega
              have HB5 := Lib.hid (Touch.below HB4.out ht5 (fun i hi => by omega))
              clear HB4
              have HP5 := Lib.hid (Blk.touch HP4.out ht5 (show ¬ (w.heap.size = w.heap.size + 1) by omega))
              clear HP4
              have HT5 := Lib.hid (Blk.touch HT4.out ht5 (show ¬ (w.heap.size + 1 + 1 = w.heap.size + 1) by omega))
              clear HT4
              have HD5 := Lib.hid (DenyOwn.touch HD4.out ht5 (fun i hi e0 => by have a1 := LTD.out _ hi; have a2 := UPD.out _ hi; omega))
              clear HD4
              have HK5 := Lib.hid (ownTouch HK4.out ht5 (fun i hi e0 => by have a1 := LTK.out _ hi; have a2 := UPK.out _ hi; omega))
              clear HK4
              have HN5 := Lib.hid (Blk.touch Hbx4.out ht5 (show ¬ (w3.heap.size = w.heap.size + 1) by omega))
              clear Hbx4
              clear ht5 HR4
              have Hbx5 := Lib.hid hbx5; clear hbx5
              have hE : Fares.holdCard v.of c m s false = (v.of, false) := by unfold Fares.holdCard; rw [if_pos ⟨Hv.out, Hc.out⟩]; exact if_pos (show ((Fares.isIn v.deny.cards c && !false) || decide (v.kept.length = 10) || decide (999 < v.nxt)) = true from by rw [hq]; simp)
              obtain ⟨z0, z1, z2, z3, z4⟩ := gateCells (t := 40) (v := u) Hbx5.out
              refine bodyPost_ret (v := .tuple #[gateV u, .bool false]) (by simp [results, Try.results39, go_sem, gateV, z0, z1, z2, z3, z4]) rfl ⟨⟨u, ?_, ?_, ⟨DenyOwn.base HD5.out (by omega), ownBase HK5.out (by omega), Hap.out⟩, Hsg.out⟩, HB5.out⟩
              · rw [hE]; rfl
              · rw [hE]; exact Hof.out
        · go_wp2_with (go_at_call 58; first | (refine (inRange_yes _ _ _ _ (by omega) (by omega)).mono ?_; rintro e w' ⟨rfl, rfl⟩) | (refine (inRange_no _ _ _ _ (by omega)).mono ?_; rintro e w' ⟨rfl, rfl⟩))
          generalize hW : World.setCell _ _ _ = w3
          have ht3 : Touch (fun i => i = w.heap.size + 1) w2 w3 := by rw [← hW]; exact (Touch.far (K := fun i => i = w.heap.size + 1) (Touch.far (K := fun i => i = w.heap.size + 1) (Touch.far (K := fun i => i = w.heap.size + 1) (Touch.far (K := fun i => i = w.heap.size + 1) (Touch.far (K := fun i => i = w.heap.size + 1) (Touch.refl _ _) (p := ⟨w.heap.size + 1, 0, none⟩) rfl _) (p := ⟨w.heap.size + 1, 1, none⟩) rfl _) (p := ⟨w.heap.size + 1, 2, none⟩) rfl _) (p := ⟨w.heap.size + 1, 3, none⟩) rfl _) (p := ⟨w.heap.size + 1, 4, none⟩) rfl _)
          have hbx3 : Blk w3 (w.heap.size + 1) 40 (GateR.cells (⟨0, 0, ⟨0, none, 0, []⟩, none, 0, []⟩ : GateR)) := by rw [← hW]; exact (Blk.put (Blk.put (Blk.put (Blk.put (Blk.put HR2.out 0 (.int .i64 (⟨0, 0, ⟨0, none, 0, []⟩, none, 0, []⟩ : GateR).val)) 1 (.int .i64 (⟨0, 0, ⟨0, none, 0, []⟩, none, 0, []⟩ : GateR).nxt)) 2 (.int .i64 (⟨0, 0, ⟨0, none, 0, []⟩, none, 0, []⟩ : GateR).deny.ver)) 3 (.slice (⟨0, 0, ⟨0, none, 0, []⟩, none, 0, []⟩ : GateR).deny.cardsA (⟨0, 0, ⟨0, none, 0, []⟩, none, 0, []⟩ : GateR).deny.cards.length (⟨0, 0, ⟨0, none, 0, []⟩, none, 0, []⟩ : GateR).deny.cardsc)) 4 (.slice (⟨0, 0, ⟨0, none, 0, []⟩, none, 0, []⟩ : GateR).keptA (⟨0, 0, ⟨0, none, 0, []⟩, none, 0, []⟩ : GateR).kept.length (⟨0, 0, ⟨0, none, 0, []⟩, none, 0, []⟩ : GateR).keptc))
          clear hW
          clear cP2_0 cP2_1 cP2_2 cP2_3 cP2_4 cR2_0 cR2_1 cR2_2 cR2_3 cR2_4 frR2_0 frR2_1 frR2_2 frR2_3 frR2_4 ct2_0 ct2_1 ct2_2 ct2_3 ct2_4 ct2_5
          have hz3 : w2.heap.size ≤ w3.heap.size := by have := ht3.size; (try simp at this); omega
          have HB3 := Lib.hid (Touch.below HB2.out ht3 (fun i hi => by omega))
          clear HB2
          have HP3 := Lib.hid (Blk.touch HP2.out ht3 (show ¬ (w.heap.size = w.heap.size + 1) by omega))
          clear HP2
          have HT3 := Lib.hid (Blk.touch HT2.out ht3 (show ¬ (w.heap.size + 1 + 1 = w.heap.size + 1) by omega))
          clear HT2
          clear ht3 HR2
          have Hbx3 := Lib.hid hbx3; clear hbx3
          have hE : Fares.holdCard v.of c m s o = (Fares.zeroGate, false) := by unfold Fares.holdCard; exact if_neg (fun e => q2 ⟨e.2.2.2.2.2.1, e.2.2.2.2.2.2⟩)
          obtain ⟨z0, z1, z2, z3, z4⟩ := gateCells (t := 40) (v := (⟨0, 0, ⟨0, none, 0, []⟩, none, 0, []⟩ : GateR)) Hbx3.out
          refine bodyPost_ret (v := .tuple #[gateV (⟨0, 0, ⟨0, none, 0, []⟩, none, 0, []⟩ : GateR), .bool false]) (by simp [results, Try.results39, go_sem, gateV, z0, z1, z2, z3, z4]) rfl ⟨⟨(⟨0, 0, ⟨0, none, 0, []⟩, none, 0, []⟩ : GateR), ?_, ?_, ⟨⟨World.ownsRow_nil _ _ _ _, trivial⟩, World.ownsRow_nil _ _ _ _, fun k h => by cases h⟩, ⟨Nat.zero_le _, Nat.zero_le _⟩⟩, HB3.out⟩
          · rw [hE]; rfl
          · rw [hE]; rfl
      · go_wp2_with (go_at_call 58; first | (refine (inRange_yes _ _ _ _ (by omega) (by omega)).mono ?_; rintro e w' ⟨rfl, rfl⟩) | (refine (inRange_no _ _ _ _ (by omega)).mono ?_; rintro e w' ⟨rfl, rfl⟩))
        generalize hW : World.setCell _ _ _ = w3
        have ht3 : Touch (fun i => i = w.heap.size + 1) w2 w3 := by rw [← hW]; exact (Touch.far (K := fun i => i = w.heap.size + 1) (Touch.far (K := fun i => i = w.heap.size + 1) (Touch.far (K := fun i => i = w.heap.size + 1) (Touch.far (K := fun i => i = w.heap.size + 1) (Touch.far (K := fun i => i = w.heap.size + 1) (Touch.refl _ _) (p := ⟨w.heap.size + 1, 0, none⟩) rfl _) (p := ⟨w.heap.size + 1, 1, none⟩) rfl _) (p := ⟨w.heap.size + 1, 2, none⟩) rfl _) (p := ⟨w.heap.size + 1, 3, none⟩) rfl _) (p := ⟨w.heap.size + 1, 4, none⟩) rfl _)
        have hbx3 : Blk w3 (w.heap.size + 1) 40 (GateR.cells (⟨0, 0, ⟨0, none, 0, []⟩, none, 0, []⟩ : GateR)) := by rw [← hW]; exact (Blk.put (Blk.put (Blk.put (Blk.put (Blk.put HR2.out 0 (.int .i64 (⟨0, 0, ⟨0, none, 0, []⟩, none, 0, []⟩ : GateR).val)) 1 (.int .i64 (⟨0, 0, ⟨0, none, 0, []⟩, none, 0, []⟩ : GateR).nxt)) 2 (.int .i64 (⟨0, 0, ⟨0, none, 0, []⟩, none, 0, []⟩ : GateR).deny.ver)) 3 (.slice (⟨0, 0, ⟨0, none, 0, []⟩, none, 0, []⟩ : GateR).deny.cardsA (⟨0, 0, ⟨0, none, 0, []⟩, none, 0, []⟩ : GateR).deny.cards.length (⟨0, 0, ⟨0, none, 0, []⟩, none, 0, []⟩ : GateR).deny.cardsc)) 4 (.slice (⟨0, 0, ⟨0, none, 0, []⟩, none, 0, []⟩ : GateR).keptA (⟨0, 0, ⟨0, none, 0, []⟩, none, 0, []⟩ : GateR).kept.length (⟨0, 0, ⟨0, none, 0, []⟩, none, 0, []⟩ : GateR).keptc))
        clear hW
        clear cP2_0 cP2_1 cP2_2 cP2_3 cP2_4 cR2_0 cR2_1 cR2_2 cR2_3 cR2_4 frR2_0 frR2_1 frR2_2 frR2_3 frR2_4 ct2_0 ct2_1 ct2_2 ct2_3 ct2_4 ct2_5
        have hz3 : w2.heap.size ≤ w3.heap.size := by have := ht3.size; (try simp at this); omega
        have HB3 := Lib.hid (Touch.below HB2.out ht3 (fun i hi => by omega))
        clear HB2
        have HP3 := Lib.hid (Blk.touch HP2.out ht3 (show ¬ (w.heap.size = w.heap.size + 1) by omega))
        clear HP2
        have HT3 := Lib.hid (Blk.touch HT2.out ht3 (show ¬ (w.heap.size + 1 + 1 = w.heap.size + 1) by omega))
        clear HT2
        clear ht3 HR2
        have Hbx3 := Lib.hid hbx3; clear hbx3
        have hE : Fares.holdCard v.of c m s o = (Fares.zeroGate, false) := by unfold Fares.holdCard; exact if_neg (fun e => q1 ⟨e.2.2.2.1, e.2.2.2.2.1⟩)
        obtain ⟨z0, z1, z2, z3, z4⟩ := gateCells (t := 40) (v := (⟨0, 0, ⟨0, none, 0, []⟩, none, 0, []⟩ : GateR)) Hbx3.out
        refine bodyPost_ret (v := .tuple #[gateV (⟨0, 0, ⟨0, none, 0, []⟩, none, 0, []⟩ : GateR), .bool false]) (by simp [results, Try.results39, go_sem, gateV, z0, z1, z2, z3, z4]) rfl ⟨⟨(⟨0, 0, ⟨0, none, 0, []⟩, none, 0, []⟩ : GateR), ?_, ?_, ⟨⟨World.ownsRow_nil _ _ _ _, trivial⟩, World.ownsRow_nil _ _ _ _, fun k h => by cases h⟩, ⟨Nat.zero_le _, Nat.zero_le _⟩⟩, HB3.out⟩
        · rw [hE]; rfl
        · rw [hE]; rfl
    · go_wp2_with (go_at_call 58; first | (refine (inRange_yes _ _ _ _ (by omega) (by omega)).mono ?_; rintro e w' ⟨rfl, rfl⟩) | (refine (inRange_no _ _ _ _ (by omega)).mono ?_; rintro e w' ⟨rfl, rfl⟩))
      generalize hW : World.setCell _ _ _ = w3
      have ht3 : Touch (fun i => i = w.heap.size + 1) w2 w3 := by rw [← hW]; exact (Touch.far (K := fun i => i = w.heap.size + 1) (Touch.far (K := fun i => i = w.heap.size + 1) (Touch.far (K := fun i => i = w.heap.size + 1) (Touch.far (K := fun i => i = w.heap.size + 1) (Touch.far (K := fun i => i = w.heap.size + 1) (Touch.refl _ _) (p := ⟨w.heap.size + 1, 0, none⟩) rfl _) (p := ⟨w.heap.size + 1, 1, none⟩) rfl _) (p := ⟨w.heap.size + 1, 2, none⟩) rfl _) (p := ⟨w.heap.size + 1, 3, none⟩) rfl _) (p := ⟨w.heap.size + 1, 4, none⟩) rfl _)
      have hbx3 : Blk w3 (w.heap.size + 1) 40 (GateR.cells (⟨0, 0, ⟨0, none, 0, []⟩, none, 0, []⟩ : GateR)) := by rw [← hW]; exact (Blk.put (Blk.put (Blk.put (Blk.put (Blk.put HR2.out 0 (.int .i64 (⟨0, 0, ⟨0, none, 0, []⟩, none, 0, []⟩ : GateR).val)) 1 (.int .i64 (⟨0, 0, ⟨0, none, 0, []⟩, none, 0, []⟩ : GateR).nxt)) 2 (.int .i64 (⟨0, 0, ⟨0, none, 0, []⟩, none, 0, []⟩ : GateR).deny.ver)) 3 (.slice (⟨0, 0, ⟨0, none, 0, []⟩, none, 0, []⟩ : GateR).deny.cardsA (⟨0, 0, ⟨0, none, 0, []⟩, none, 0, []⟩ : GateR).deny.cards.length (⟨0, 0, ⟨0, none, 0, []⟩, none, 0, []⟩ : GateR).deny.cardsc)) 4 (.slice (⟨0, 0, ⟨0, none, 0, []⟩, none, 0, []⟩ : GateR).keptA (⟨0, 0, ⟨0, none, 0, []⟩, none, 0, []⟩ : GateR).kept.length (⟨0, 0, ⟨0, none, 0, []⟩, none, 0, []⟩ : GateR).keptc))
      clear hW
      clear cP2_0 cP2_1 cP2_2 cP2_3 cP2_4 cR2_0 cR2_1 cR2_2 cR2_3 cR2_4 frR2_0 frR2_1 frR2_2 frR2_3 frR2_4 ct2_0 ct2_1 ct2_2 ct2_3 ct2_4 ct2_5
      have hz3 : w2.heap.size ≤ w3.heap.size := by have := ht3.size; (try simp at this); omega
      have HB3 := Lib.hid (Touch.below HB2.out ht3 (fun i hi => by omega))
      clear HB2
      have HP3 := Lib.hid (Blk.touch HP2.out ht3 (show ¬ (w.heap.size = w.heap.size + 1) by omega))
      clear HP2
      have HT3 := Lib.hid (Blk.touch HT2.out ht3 (show ¬ (w.heap.size + 1 + 1 = w.heap.size + 1) by omega))
      clear HT2
      clear ht3 HR2
      have Hbx3 := Lib.hid hbx3; clear hbx3
      have hE : Fares.holdCard v.of c m s o = (Fares.zeroGate, false) := by unfold Fares.holdCard; exact if_neg (fun e => q0 ⟨e.2.1, e.2.2.1⟩)
      obtain ⟨z0, z1, z2, z3, z4⟩ := gateCells (t := 40) (v := (⟨0, 0, ⟨0, none, 0, []⟩, none, 0, []⟩ : GateR)) Hbx3.out
      refine bodyPost_ret (v := .tuple #[gateV (⟨0, 0, ⟨0, none, 0, []⟩, none, 0, []⟩ : GateR), .bool false]) (by simp [results, Try.results39, go_sem, gateV, z0, z1, z2, z3, z4]) rfl ⟨⟨(⟨0, 0, ⟨0, none, 0, []⟩, none, 0, []⟩ : GateR), ?_, ?_, ⟨⟨World.ownsRow_nil _ _ _ _, trivial⟩, World.ownsRow_nil _ _ _ _, fun k h => by cases h⟩, ⟨Nat.zero_le _, Nat.zero_le _⟩⟩, HB3.out⟩
      · rw [hE]; rfl
      · rw [hE]; rfl
end Go.Proofs.Ytpijjlggmibfnaa
