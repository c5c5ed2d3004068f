/-
  A validator takes a deny list: the program and its model.
-/
import Derived.Test.YtpijjlggmibfnaaHoldSpec
set_option linter.unusedSimpArgs false
namespace Go.Proofs.Ytpijjlggmibfnaa
open Go.RowKit Go.Deep
set_option linter.unusedVariables false

noncomputable def Fares.takeDeny (g : Fares.Gate) (d : Fares.Deny) : Fares.Gate :=
  if Fares.validGate g = true ∧ Fares.validDeny d = true then (if g.deny.ver < d.ver then ⟨g.val, g.nxt, d, g.kept⟩ else g) else Fares.zeroGate
set_option maxRecDepth 100000 in
set_option maxHeartbeats 8000000 in
theorem implTakeDeny_any (v : GateR) (d : DenyR) (w : World) (hi : GateIn w w.heap.size v) (hs : GateSmall v) (hj : DenyIn w w.heap.size d) (ht : DenySmall d) :
    Calls Try.prog 42 #[gateV v, denyV d] w fun e w' => (∃ u : GateR, e = .returned (gateV u) ∧ u.of = Fares.takeDeny v.of d.of ∧ GateOwn w' w.heap.size u ∧ GateSmall u) ∧ Below w.heap.size w w' := by
  have Hi := Lib.hid hi; clear hi
  have Hs := Lib.hid hs; clear hs
  have Hj := Lib.hid hj; clear hj
  have Ht := Lib.hid ht; clear ht
  unfold gateV denyV
  go_enter Try.func42, Try.ntmps42
  go_wp2_with fail
  generalize hW : World.alloc _ _ = w1
  have hp1 : Blk w1 w.heap.size 40 v.cells := by rw [← hW]; exact ((Blk.new w _ _).alloc _).alloc _
  have hq1 : Blk w1 (w.heap.size + 1) 30 d.cells := by rw [← hW]; exact (Blk.new' (by simp)).alloc _
  have hr1 : Blk w1 (w.heap.size + 1 + 1) 40 (GateR.cells (⟨0, 0, ⟨0, none, 0, []⟩, none, 0, []⟩ : GateR)) := by rw [← hW]; exact Blk.new' (by simp)
  have HB1 : Hid (Below w.heap.size w w1) := Lib.hid (by rw [← hW]; exact bA (bA (bA (Below.refl _ _) _) _) _)
  have hz1 : w.heap.size + 1 + 1 < w1.heap.size := by rw [← hW]; simp
  clear hW
  have Hp1 := Lib.hid hp1; clear hp1
  have Hq1 := Lib.hid hq1; clear hq1
  have Hr1 := Lib.hid hr1; clear hr1
  refine (implValidGate_any v _ (Hi.out.over HB1.out) Hs.out).mono ?_
  rintro e w2 ⟨rfl, hb2⟩
  have hz2 : w1.heap.size ≤ w2.heap.size := by have := hb2.size; (try simp at this); omega
  have HB2 := Lib.hid (bT HB1.out hb2)
  clear HB1
  have HP2 := Lib.hid (Blk.belowAll Hp1.out hb2)
  clear Hp1
  have HQ2 := Lib.hid (Blk.belowAll Hq1.out hb2)
  clear Hq1
  have HR2 := Lib.hid (Blk.belowAll Hr1.out hb2)
  clear Hr1
  clear hb2
  obtain ⟨cP2_0, cP2_1, cP2_2, cP2_3, cP2_4⟩ := gateCells (t := 40) (v := v) HP2.out
  obtain ⟨cQ2_0, cQ2_1⟩ := denyCells (t := 30) (v := d) HQ2.out
  obtain ⟨cR2_0, cR2_1, cR2_2, cR2_3, cR2_4⟩ := gateCells (t := 40) (v := (⟨0, 0, ⟨0, none, 0, []⟩, none, 0, []⟩ : GateR)) HR2.out
  have frR2_0 := (HR2.out).free 0
  have frR2_1 := (HR2.out).free 1
  have frR2_2 := (HR2.out).free 2
  have frR2_3 := (HR2.out).free 3
  have frR2_4 := (HR2.out).free 4
  cases hv : Fares.validGate v.of
  · go_wp2
    generalize hW : World.setCell _ _ _ = w3
    have ht3 : Touch (fun i => i = w.heap.size + 1 + 1) w2 w3 := by rw [← hW]; exact (Touch.far (K := fun i => i = w.heap.size + 1 + 1) (Touch.far (K := fun i => i = w.heap.size + 1 + 1) (Touch.far (K := fun i => i = w.heap.size + 1 + 1) (Touch.far (K := fun i => i = w.heap.size + 1 + 1) (Touch.far (K := fun i => i = w.heap.size + 1 + 1) (Touch.refl _ _) (p := ⟨w.heap.size + 1 + 1, 0, none⟩) rfl _) (p := ⟨w.heap.size + 1 + 1, 1, none⟩) rfl _) (p := ⟨w.heap.size + 1 + 1, 2, none⟩) rfl _) (p := ⟨w.heap.size + 1 + 1, 3, none⟩) rfl _) (p := ⟨w.heap.size + 1 + 1, 4, none⟩) rfl _)
    have hbx3 : Blk w3 (w.heap.size + 1 + 1) 40 (GateR.cells (⟨0, 0, ⟨0, none, 0, []⟩, none, 0, []⟩ : GateR)) := by rw [← hW]; exact (Blk.put (Blk.put (Blk.put (Blk.put (Blk.put HR2.out 0 (.int .i64 (⟨0, 0, ⟨0, none, 0, []⟩, none, 0, []⟩ : GateR).val)) 1 (.int .i64 (⟨0, 0, ⟨0, none, 0, []⟩, none, 0, []⟩ : GateR).nxt)) 2 (.int .i64 (⟨0, 0, ⟨0, none, 0, []⟩, none, 0, []⟩ : GateR).deny.ver)) 3 (.slice (⟨0, 0, ⟨0, none, 0, []⟩, none, 0, []⟩ : GateR).deny.cardsA (⟨0, 0, ⟨0, none, 0, []⟩, none, 0, []⟩ : GateR).deny.cards.length (⟨0, 0, ⟨0, none, 0, []⟩, none, 0, []⟩ : GateR).deny.cardsc)) 4 (.slice (⟨0, 0, ⟨0, none, 0, []⟩, none, 0, []⟩ : GateR).keptA (⟨0, 0, ⟨0, none, 0, []⟩, none, 0, []⟩ : GateR).kept.length (⟨0, 0, ⟨0, none, 0, []⟩, none, 0, []⟩ : GateR).keptc))
    clear hW
    clear cP2_0 cP2_1 cP2_2 cP2_3 cP2_4 cQ2_0 cQ2_1 cR2_0 cR2_1 cR2_2 cR2_3 cR2_4 frR2_0 frR2_1 frR2_2 frR2_3 frR2_4
    have hz3 : w2.heap.size ≤ w3.heap.size := by have := ht3.size; (try simp at this); omega
    have HB3 := Lib.hid (Touch.below HB2.out ht3 (fun i hi => by omega))
    clear HB2
    have HP3 := Lib.hid (Blk.touch HP2.out ht3 (show ¬ (w.heap.size = w.heap.size + 1 + 1) by omega))
    clear HP2
    have HQ3 := Lib.hid (Blk.touch HQ2.out ht3 (show ¬ (w.heap.size + 1 = w.heap.size + 1 + 1) by omega))
    clear HQ2
    clear ht3 HR2
    have Hbx3 := Lib.hid hbx3; clear hbx3
    have hE : Fares.takeDeny v.of d.of = Fares.zeroGate := by unfold Fares.takeDeny; exact if_neg (fun e => by rw [hv] at e; exact absurd e.1 (by simp))
    obtain ⟨z0, z1, z2, z3, z4⟩ := gateCells (t := 40) (v := (⟨0, 0, ⟨0, none, 0, []⟩, none, 0, []⟩ : GateR)) Hbx3.out
    refine bodyPost_ret (v := gateV (⟨0, 0, ⟨0, none, 0, []⟩, none, 0, []⟩ : GateR)) (by simp [results, Try.results42, go_sem, gateV, z0, z1, z2, z3, z4]) rfl ⟨⟨(⟨0, 0, ⟨0, none, 0, []⟩, none, 0, []⟩ : GateR), rfl, ?_, ⟨⟨World.ownsRow_nil _ _ _ _, trivial⟩, World.ownsRow_nil _ _ _ _, fun k h => by cases h⟩, ⟨Nat.zero_le _, Nat.zero_le _⟩⟩, HB3.out⟩
    rw [hE]; rfl
  · obtain ⟨f0, f1, f2, f3, f4, f5⟩ := Fares.validGate_facts hv
    have f4' : v.kept.length ≤ 10 := f4
    have f5' : v.deny.cards.length ≤ 12 := f5
    clear f0 f1 f2 f3 f4 f5
    have Hv := Lib.hid hv; clear hv
    go_wp2_with fail
    refine (implValidDeny_any d _ (Hj.out.over HB2.out) Ht.out).mono ?_
    rintro e w3 ⟨rfl, hb3⟩
    clear cP2_0 cP2_1 cP2_2 cP2_3 cP2_4 cQ2_0 cQ2_1 cR2_0 cR2_1 cR2_2 cR2_3 cR2_4 frR2_0 frR2_1 frR2_2 frR2_3 frR2_4
    have hz3 : w2.heap.size ≤ w3.heap.size := by have := hb3.size; (try simp at this); omega
    have HB3 := Lib.hid (bT HB2.out hb3)
    clear HB2
    have HP3 := Lib.hid (Blk.belowAll HP2.out hb3)
    clear HP2
    have HQ3 := Lib.hid (Blk.belowAll HQ2.out hb3)
    clear HQ2
    have HR3 := Lib.hid (Blk.belowAll HR2.out hb3)
    clear HR2
    clear hb3
    obtain ⟨cP3_0, cP3_1, cP3_2, cP3_3, cP3_4⟩ := gateCells (t := 40) (v := v) HP3.out
    obtain ⟨cQ3_0, cQ3_1⟩ := denyCells (t := 30) (v := d) HQ3.out
    obtain ⟨cR3_0, cR3_1, cR3_2, cR3_3, cR3_4⟩ := gateCells (t := 40) (v := (⟨0, 0, ⟨0, none, 0, []⟩, none, 0, []⟩ : GateR)) HR3.out
    have frR3_0 := (HR3.out).free 0
    have frR3_1 := (HR3.out).free 1
    have frR3_2 := (HR3.out).free 2
    have frR3_3 := (HR3.out).free 3
    have frR3_4 := (HR3.out).free 4
    have frP3_0 := (HP3.out).free 0
    have frP3_1 := (HP3.out).free 1
    have frP3_2 := (HP3.out).free 2
    have frP3_3 := (HP3.out).free 3
    have frP3_4 := (HP3.out).free 4
    cases hd : Fares.validDeny d.of
    · go_wp2
      generalize hW : World.setCell _ _ _ = w4
      have ht4 : Touch (fun i => i = w.heap.size + 1 + 1) w3 w4 := by rw [← hW]; exact (Touch.far (K := fun i => i = w.heap.size + 1 + 1) (Touch.far (K := fun i => i = w.heap.size + 1 + 1) (Touch.far (K := fun i => i = w.heap.size + 1 + 1) (Touch.far (K := fun i => i = w.heap.size + 1 + 1) (Touch.far (K := fun i => i = w.heap.size + 1 + 1) (Touch.refl _ _) (p := ⟨w.heap.size + 1 + 1, 0, none⟩) rfl _) (p := ⟨w.heap.size + 1 + 1, 1, none⟩) rfl _) (p := ⟨w.heap.size + 1 + 1, 2, none⟩) rfl _) (p := ⟨w.heap.size + 1 + 1, 3, none⟩) rfl _) (p := ⟨w.heap.size + 1 + 1, 4, none⟩) rfl _)
      have hbx4 : Blk w4 (w.heap.size + 1 + 1) 40 (GateR.cells (⟨0, 0, ⟨0, none, 0, []⟩, none, 0, []⟩ : GateR)) := by rw [← hW]; exact (Blk.put (Blk.put (Blk.put (Blk.put (Blk.put HR3.out 0 (.int .i64 (⟨0, 0, ⟨0, none, 0, []⟩, none, 0, []⟩ : GateR).val)) 1 (.int .i64 (⟨0, 0, ⟨0, none, 0, []⟩, none, 0, []⟩ : GateR).nxt)) 2 (.int .i64 (⟨0, 0, ⟨0, none, 0, []⟩, none, 0, []⟩ : GateR).deny.ver)) 3 (.slice (⟨0, 0, ⟨0, none, 0, []⟩, none, 0, []⟩ : GateR).deny.cardsA (⟨0, 0, ⟨0, none, 0, []⟩, none, 0, []⟩ : GateR).deny.cards.length (⟨0, 0, ⟨0, none, 0, []⟩, none, 0, []⟩ : GateR).deny.cardsc)) 4 (.slice (⟨0, 0, ⟨0, none, 0, []⟩, none, 0, []⟩ : GateR).keptA (⟨0, 0, ⟨0, none, 0, []⟩, none, 0, []⟩ : GateR).kept.length (⟨0, 0, ⟨0, none, 0, []⟩, none, 0, []⟩ : GateR).keptc))
      clear hW
      clear cP3_0 cP3_1 cP3_2 cP3_3 cP3_4 cQ3_0 cQ3_1 cR3_0 cR3_1 cR3_2 cR3_3 cR3_4 frR3_0 frR3_1 frR3_2 frR3_3 frR3_4 frP3_0 frP3_1 frP3_2 frP3_3 frP3_4
      have hz4 : w3.heap.size ≤ w4.heap.size := by have := ht4.size; (try simp at this); omega
      have HB4 := Lib.hid (Touch.below HB3.out ht4 (fun i hi => by omega))
      clear HB3
      have HP4 := Lib.hid (Blk.touch HP3.out ht4 (show ¬ (w.heap.size = w.heap.size + 1 + 1) by omega))
      clear HP3
      have HQ4 := Lib.hid (Blk.touch HQ3.out ht4 (show ¬ (w.heap.size + 1 = w.heap.size + 1 + 1) by omega))
      clear HQ3
      clear ht4 HR3
      have Hbx4 := Lib.hid hbx4; clear hbx4
      have hE : Fares.takeDeny v.of d.of = Fares.zeroGate := by unfold Fares.takeDeny; exact if_neg (fun e => by rw [hd] at e; exact absurd e.2 (by simp))
      obtain ⟨z0, z1, z2, z3, z4⟩ := gateCells (t := 40) (v := (⟨0, 0, ⟨0, none, 0, []⟩, none, 0, []⟩ : GateR)) Hbx4.out
      refine bodyPost_ret (v := gateV (⟨0, 0, ⟨0, none, 0, []⟩, none, 0, []⟩ : GateR)) (by simp [results, Try.results42, go_sem, gateV, z0, z1, z2, z3, z4]) rfl ⟨⟨(⟨0, 0, ⟨0, none, 0, []⟩, none, 0, []⟩ : GateR), rfl, ?_, ⟨⟨World.ownsRow_nil _ _ _ _, trivial⟩, World.ownsRow_nil _ _ _ _, fun k h => by cases h⟩, ⟨Nat.zero_le _, Nat.zero_le _⟩⟩, HB4.out⟩
      rw [hE]; rfl
    · have g5 : d.cards.length ≤ 12 := by unfold Fares.validDeny at hd; rw [Bool.and_eq_true, decide_eq_true_eq] at hd; exact hd.1.2.2
      have Hd := Lib.hid hd; clear hd
      by_cases hlt : v.deny.ver < d.ver
      · have hl' : decide (v.deny.ver < d.ver) = true := decide_eq_true hlt
        have HL := Lib.hid hlt
        go_wp2_with fail
        generalize hW : World.setCell _ _ _ = w4
        have ht4 : Touch (fun i => i = w.heap.size) w3 w4 := by rw [← hW]; exact (Touch.far (K := fun i => i = w.heap.size) (Touch.far (K := fun i => i = w.heap.size) (Touch.refl _ _) (p := ⟨w.heap.size, 2, none⟩) rfl _) (p := ⟨w.heap.size, 3, none⟩) rfl _)
        have hbx4 : Blk w4 (w.heap.size) 40 (GateR.cells (⟨v.val, v.nxt, d, v.keptA, v.keptc, v.kept⟩ : GateR)) := by rw [← hW]; exact (Blk.put (Blk.put HP3.out 2 (.int .i64 d.ver)) 3 (.slice d.cardsA d.cards.length d.cardsc))
        clear hW
        clear cP3_0 cP3_1 cP3_2 cP3_3 cP3_4 cQ3_0 cQ3_1 cR3_0 cR3_1 cR3_2 cR3_3 cR3_4 frR3_0 frR3_1 frR3_2 frR3_3 frR3_4 frP3_0 frP3_1 frP3_2 frP3_3 frP3_4
        have hz4 : w3.heap.size ≤ w4.heap.size := by have := ht4.size; (try simp at this); omega
        have HB4 := Lib.hid (Touch.below HB3.out ht4 (fun i hi => by omega))
        clear HB3
        have HQ4 := Lib.hid (Blk.touch HQ3.out ht4 (show ¬ (w.heap.size + 1 = w.heap.size) by omega))
        clear HQ3
        have HR4 := Lib.hid (Blk.touch HR3.out ht4 (show ¬ (w.heap.size + 1 + 1 = w.heap.size) by omega))
        clear HR3
        clear ht4 HP3
        have Hbx4 := Lib.hid hbx4; clear hbx4
        have hcg := gateOwn_any (⟨v.val, v.nxt, d, v.keptA, v.keptc, v.kept⟩ : GateR) w4 ⟨Hj.out.over HB4.out, (Hi.out.over HB4.out).2⟩ ⟨show d.cards.length ≤ 1000000 by omega, show v.kept.length ≤ 1000000 by omega⟩
        unfold gateV at hcg
        have Hcg := Lib.hid hcg; clear hcg
        refine (Hcg.out).mono ?_
        rintro e w5 ⟨⟨u, rfl, hof, hown, hs1, hs2⟩, hb5⟩
        have hz5 : w4.heap.size ≤ w5.heap.size := by have := hb5.size; (try simp at this); omega
        have HB5 := Lib.hid (bT HB4.out hb5)
        clear HB4
        have HQ5 := Lib.hid (Blk.belowAll HQ4.out hb5)
        clear HQ4
        have HR5 := Lib.hid (Blk.belowAll HR4.out hb5)
        clear HR4
        have HP5 := Lib.hid (Blk.belowAll Hbx4.out hb5)
        clear Hbx4
        clear hb5
        have Hof := Lib.hid hof; clear hof
        (try unfold gateV)
        obtain ⟨hownD, hownK, hap⟩ := hown
        have Hap := Lib.hid hap; clear hap
        have LTD := Lib.hid (fun k hk => (DenyOwn.lt hownD k hk).1)
        have UPD := Lib.hid (fun k hk => (DenyOwn.lt hownD k hk).2)
        have HoD := Lib.hid hownD; clear hownD
        have LTK := Lib.hid (fun k hk => (World.ownsRow.lt hownK k hk).1)
        have UPK := Lib.hid (fun k hk => (World.ownsRow.lt hownK k hk).2)
        have HoK := Lib.hid hownK; clear hownK
        have hsg : GateSmall u := ⟨Nat.le_trans hs1 (by omega), Nat.le_trans hs2 (by omega)⟩
        have Hsg := Lib.hid hsg; clear hsg
        obtain ⟨cR5_0, cR5_1, cR5_2, cR5_3, cR5_4⟩ := gateCells (t := 40) (v := (⟨0, 0, ⟨0, none, 0, []⟩, none, 0, []⟩ : GateR)) HR5.out
        have frR5_0 := (HR5.out).free 0
        have frR5_1 := (HR5.out).free 1
        have frR5_2 := (HR5.out).free 2
        have frR5_3 := (HR5.out).free 3
        have frR5_4 := (HR5.out).free 4
        go_wp2
        generalize hW : World.setCell _ _ _ = w6
        have ht6 : Touch (fun i => i = w.heap.size + 1 + 1) w5 w6 := by rw [← hW]; exact (Touch.far (K := fun i => i = w.heap.size + 1 + 1) (Touch.far (K := fun i => i = w.heap.size + 1 + 1) (Touch.far (K := fun i => i = w.heap.size + 1 + 1) (Touch.far (K := fun i => i = w.heap.size + 1 + 1) (Touch.far (K := fun i => i = w.heap.size + 1 + 1) (Touch.refl _ _) (p := ⟨w.heap.size + 1 + 1, 0, none⟩) rfl _) (p := ⟨w.heap.size + 1 + 1, 1, none⟩) rfl _) (p := ⟨w.heap.size + 1 + 1, 2, none⟩) rfl _) (p := ⟨w.heap.size + 1 + 1, 3, none⟩) rfl _) (p := ⟨w.heap.size + 1 + 1, 4, none⟩) rfl _)
        have hbx6 : Blk w6 (w.heap.size + 1 + 1) 40 (GateR.cells u) := by rw [← hW]; exact (Blk.put (Blk.put (Blk.put (Blk.put (Blk.put HR5.out 0 (.int .i64 u.val)) 1 (.int .i64 u.nxt)) 2 (.int .i64 u.deny.ver)) 3 (.slice u.deny.cardsA u.deny.cards.length u.deny.cardsc)) 4 (.slice u.keptA u.kept.length u.keptc))
        clear hW
        clear cR5_0 cR5_1 cR5_2 cR5_3 cR5_4 frR5_0 frR5_1 frR5_2 frR5_3 frR5_4
        have hz6 : w5.heap.size ≤ w6.heap.size := by have := ht6.size; (try simp at this); omega
        have HB6 := Lib.hid (Touch.below HB5.out ht6 (fun i hi => by omega))
        clear HB5
        have HQ6 := Lib.hid (Blk.touch HQ5.out ht6 (show ¬ (w.heap.size + 1 = w.heap.size + 1 + 1) by omega))
        clear HQ5
        have HP6 := Lib.hid (Blk.touch HP5.out ht6 (show ¬ (w.heap.size = w.heap.size + 1 + 1) by omega))
        clear HP5
        have HD6 := Lib.hid (DenyOwn.touch HoD.out ht6 (fun i hi e0 => by have a1 := LTD.out _ hi; have a2 := UPD.out _ hi; omega))
        clear HoD
        have HK6 := Lib.hid (ownTouch HoK.out ht6 (fun i hi e0 => by have a1 := LTK.out _ hi; have a2 := UPK.out _ hi; omega))
        clear HoK
        clear ht6 HR5
        have Hbx6 := Lib.hid hbx6; clear hbx6
        have hE : Fares.takeDeny v.of d.of = ⟨v.val, v.nxt, d.of, v.kept⟩ := by unfold Fares.takeDeny; rw [if_pos ⟨Hv.out, Hd.out⟩]; exact if_pos (show v.deny.ver < d.ver by have := HL.out; omega)
        obtain ⟨z0, z1, z2, z3, z4⟩ := gateCells (t := 40) (v := u) Hbx6.out
        refine bodyPost_ret (v := gateV u) (by simp [results, Try.results42, go_sem, gateV, z0, z1, z2, z3, z4]) rfl ⟨⟨u, rfl, ?_, ⟨DenyOwn.base HD6.out (by omega), ownBase HK6.out (by omega), Hap.out⟩, Hsg.out⟩, HB6.out⟩
        rw [hE]; exact Hof.out
      · have hl' : decide (v.deny.ver < d.ver) = false := decide_eq_false hlt
        have HL := Lib.hid hlt
        go_wp2_with fail
        refine (gateOwn_any v _ (Hi.out.over HB3.out) ⟨by omega, by omega⟩).mono ?_
        rintro e w4 ⟨⟨u, rfl, hof, hown, hs1, hs2⟩, hb4⟩
        clear cP3_0 cP3_1 cP3_2 cP3_3 cP3_4 cQ3_0 cQ3_1 cR3_0 cR3_1 cR3_2 cR3_3 cR3_4 frR3_0 frR3_1 frR3_2 frR3_3 frR3_4 frP3_0 frP3_1 frP3_2 frP3_3 frP3_4
        have hz4 : w3.heap.size ≤ w4.heap.size := by have := hb4.size; (try simp at this); omega
        have HB4 := Lib.hid (bT HB3.out hb4)
        clear HB3
        have HP4 := Lib.hid (Blk.belowAll HP3.out hb4)
        clear HP3
        have HQ4 := Lib.hid (Blk.belowAll HQ3.out hb4)
        clear HQ3
        have HR4 := Lib.hid (Blk.belowAll HR3.out hb4)
        clear HR3
        clear hb4
        have Hof := Lib.hid hof; clear hof
        (try unfold gateV)
        obtain ⟨hownD, hownK, hap⟩ := hown
        have Hap := Lib.hid hap; clear hap
        have LTD := Lib.hid (fun k hk => (DenyOwn.lt hownD k hk).1)
        have UPD := Lib.hid (fun k hk => (DenyOwn.lt hownD k hk).2)
        have HoD := Lib.hid hownD; clear hownD
        have LTK := Lib.hid (fun k hk => (World.ownsRow.lt hownK k hk).1)
        have UPK := Lib.hid (fun k hk => (World.ownsRow.lt hownK k hk).2)
        have HoK := Lib.hid hownK; clear hownK
        have hsg : GateSmall u := ⟨Nat.le_trans hs1 (by omega), Nat.le_trans hs2 (by omega)⟩
        have Hsg := Lib.hid hsg; clear hsg
        obtain ⟨cR4_0, cR4_1, cR4_2, cR4_3, cR4_4⟩ := gateCells (t := 40) (v := (⟨0, 0, ⟨0, none, 0, []⟩, none, 0, []⟩ : GateR)) HR4.out
        have frR4_0 := (HR4.out).free 0
        have frR4_1 := (HR4.out).free 1
        have frR4_2 := (HR4.out).free 2
        have frR4_3 := (HR4.out).free 3
        have frR4_4 := (HR4.out).free 4
        go_wp2
        generalize hW : World.setCell _ _ _ = w5
        have ht5 : Touch (fun i => i = w.heap.size + 1 + 1) w4 w5 := by rw [← hW]; exact (Touch.far (K := fun i => i = w.heap.size + 1 + 1) (Touch.far (K := fun i => i = w.heap.size + 1 + 1) (Touch.far (K := fun i => i = w.heap.size + 1 + 1) (Touch.far (K := fun i => i = w.heap.size + 1 + 1) (Touch.far (K := fun i => i = w.heap.size + 1 + 1) (Touch.refl _ _) (p := ⟨w.heap.size + 1 + 1, 0, none⟩) rfl _) (p := ⟨w.heap.size + 1 + 1, 1, none⟩) rfl _) (p := ⟨w.heap.size + 1 + 1, 2, none⟩) rfl _) (p := ⟨w.heap.size + 1 + 1, 3, none⟩) rfl _) (p := ⟨w.heap.size + 1 + 1, 4, none⟩) rfl _)
        have hbx5 : Blk w5 (w.heap.size + 1 + 1) 40 (GateR.cells u) := by rw [← hW]; exact (Blk.put (Blk.put (Blk.put (Blk.put (Blk.put HR4.out 0 (.int .i64 u.val)) 1 (.int .i64 u.nxt)) 2 (.int .i64 u.deny.ver)) 3 (.slice u.deny.cardsA u.deny.cards.length u.deny.cardsc)) 4 (.slice u.keptA u.kept.length u.keptc))
        clear hW
        clear cR4_0 cR4_1 cR4_2 cR4_3 cR4_4 frR4_0 frR4_1 frR4_2 frR4_3 frR4_4
        have hz5 : w4.heap.size ≤ w5.heap.size := by have := ht5.size; (try simp at this); omega
        have HB5 := Lib.hid (Touch.below HB4.out ht5 (fun i hi => by omega))
        clear HB4
        have HP5 := Lib.hid (Blk.touch HP4.out ht5 (show ¬ (w.heap.size = w.heap.size + 1 + 1) by omega))
        clear HP4
        have HQ5 := Lib.hid (Blk.touch HQ4.out ht5 (show ¬ (w.heap.size + 1 = w.heap.size + 1 + 1) by omega))
        clear HQ4
        have HD5 := Lib.hid (DenyOwn.touch HoD.out ht5 (fun i hi e0 => by have a1 := LTD.out _ hi; have a2 := UPD.out _ hi; omega))
        clear HoD
        have HK5 := Lib.hid (ownTouch HoK.out ht5 (fun i hi e0 => by have a1 := LTK.out _ hi; have a2 := UPK.out _ hi; omega))
        clear HoK
        clear ht5 HR4
        have Hbx5 := Lib.hid hbx5; clear hbx5
        have hE : Fares.takeDeny v.of d.of = v.of := by unfold Fares.takeDeny; rw [if_pos ⟨Hv.out, Hd.out⟩]; exact if_neg (show ¬ v.deny.ver < d.ver by have := HL.out; omega)
        obtain ⟨z0, z1, z2, z3, z4⟩ := gateCells (t := 40) (v := u) Hbx5.out
        refine bodyPost_ret (v := gateV u) (by simp [results, Try.results42, go_sem, gateV, z0, z1, z2, z3, z4]) rfl ⟨⟨u, rfl, ?_, ⟨DenyOwn.base HD5.out (by omega), ownBase HK5.out (by omega), Hap.out⟩, Hsg.out⟩, HB5.out⟩
        rw [hE]; exact Hof.out
set_option maxRecDepth 100000 in
set_option maxHeartbeats 8000000 in
theorem specTakeDeny_any (v : GateR) (d : DenyR) (w : World) (hi : GateIn w w.heap.size v) (hs : GateSmall v) (hj : DenyIn w w.heap.size d) (ht : DenySmall d) :
    Calls Try.prog 53 #[gateV v, denyV d] w fun e w' => (∃ u : GateR, e = .returned (gateV u) ∧ u.of = Fares.takeDeny v.of d.of ∧ GateOwn w' w.heap.size u ∧ GateSmall u) ∧ Below w.heap.size w w' := by
  have Hi := Lib.hid hi; clear hi
  have Hs := Lib.hid hs; clear hs
  have Hj := Lib.hid hj; clear hj
  have Ht := Lib.hid ht; clear ht
  unfold gateV denyV
  go_enter Try.func53, Try.ntmps53
  go_wp2_with fail
  generalize hW : World.alloc _ _ = w1
  have hp1 : Blk w1 w.heap.size 40 v.cells := by rw [← hW]; exact ((Blk.new w _ _).alloc _).alloc _
  have hq1 : Blk w1 (w.heap.size + 1) 30 d.cells := by rw [← hW]; exact (Blk.new' (by simp)).alloc _
  have hr1 : Blk w1 (w.heap.size + 1 + 1) 40 (GateR.cells (⟨0, 0, ⟨0, none, 0, []⟩, none, 0, []⟩ : GateR)) := by rw [← hW]; exact Blk.new' (by simp)
  have HB1 : Hid (Below w.heap.size w w1) := Lib.hid (by rw [← hW]; exact bA (bA (bA (Below.refl _ _) _) _) _)
  have hz1 : w.heap.size + 1 + 1 < w1.heap.size := by rw [← hW]; simp
  clear hW
  have Hp1 := Lib.hid hp1; clear hp1
  have Hq1 := Lib.hid hq1; clear hq1
  have Hr1 := Lib.hid hr1; clear hr1
  refine (specvalidGate_any v _ (Hi.out.over HB1.out) Hs.out).mono ?_
  rintro e w2 ⟨rfl, hb2⟩
  have hz2 : w1.heap.size ≤ w2.heap.size := by have := hb2.size; (try simp at this); omega
  have HB2 := Lib.hid (bT HB1.out hb2)
  clear HB1
  have HP2 := Lib.hid (Blk.belowAll Hp1.out hb2)
  clear Hp1
  have HQ2 := Lib.hid (Blk.belowAll Hq1.out hb2)
  clear Hq1
  have HR2 := Lib.hid (Blk.belowAll Hr1.out hb2)
  clear Hr1
  clear hb2
  obtain ⟨cP2_0, cP2_1, cP2_2, cP2_3, cP2_4⟩ := gateCells (t := 40) (v := v) HP2.out
  obtain ⟨cQ2_0, cQ2_1⟩ := denyCells (t := 30) (v := d) HQ2.out
  obtain ⟨cR2_0, cR2_1, cR2_2, cR2_3, cR2_4⟩ := gateCells (t := 40) (v := (⟨0, 0, ⟨0, none, 0, []⟩, none, 0, []⟩ : GateR)) HR2.out
  have frR2_0 := (HR2.out).free 0
  have frR2_1 := (HR2.out).free 1
  have frR2_2 := (HR2.out).free 2
  have frR2_3 := (HR2.out).free 3
  have frR2_4 := (HR2.out).free 4
  cases hv : Fares.validGate v.of
  · go_wp2
    generalize hW : World.setCell _ _ _ = w3
    have ht3 : Touch (fun i => i = w.heap.size + 1 + 1) w2 w3 := by rw [← hW]; exact (Touch.far (K := fun i => i = w.heap.size + 1 + 1) (Touch.far (K := fun i => i = w.heap.size + 1 + 1) (Touch.far (K := fun i => i = w.heap.size + 1 + 1) (Touch.far (K := fun i => i = w.heap.size + 1 + 1) (Touch.far (K := fun i => i = w.heap.size + 1 + 1) (Touch.refl _ _) (p := ⟨w.heap.size + 1 + 1, 0, none⟩) rfl _) (p := ⟨w.heap.size + 1 + 1, 1, none⟩) rfl _) (p := ⟨w.heap.size + 1 + 1, 2, none⟩) rfl _) (p := ⟨w.heap.size + 1 + 1, 3, none⟩) rfl _) (p := ⟨w.heap.size + 1 + 1, 4, none⟩) rfl _)
    have hbx3 : Blk w3 (w.heap.size + 1 + 1) 40 (GateR.cells (⟨0, 0, ⟨0, none, 0, []⟩, none, 0, []⟩ : GateR)) := by rw [← hW]; exact (Blk.put (Blk.put (Blk.put (Blk.put (Blk.put HR2.out 0 (.int .i64 (⟨0, 0, ⟨0, none, 0, []⟩, none, 0, []⟩ : GateR).val)) 1 (.int .i64 (⟨0, 0, ⟨0, none, 0, []⟩, none, 0, []⟩ : GateR).nxt)) 2 (.int .i64 (⟨0, 0, ⟨0, none, 0, []⟩, none, 0, []⟩ : GateR).deny.ver)) 3 (.slice (⟨0, 0, ⟨0, none, 0, []⟩, none, 0, []⟩ : GateR).deny.cardsA (⟨0, 0, ⟨0, none, 0, []⟩, none, 0, []⟩ : GateR).deny.cards.length (⟨0, 0, ⟨0, none, 0, []⟩, none, 0, []⟩ : GateR).deny.cardsc)) 4 (.slice (⟨0, 0, ⟨0, none, 0, []⟩, none, 0, []⟩ : GateR).keptA (⟨0, 0, ⟨0, none, 0, []⟩, none, 0, []⟩ : GateR).kept.length (⟨0, 0, ⟨0, none, 0, []⟩, none, 0, []⟩ : GateR).keptc))
    clear hW
    clear cP2_0 cP2_1 cP2_2 cP2_3 cP2_4 cQ2_0 cQ2_1 cR2_0 cR2_1 cR2_2 cR2_3 cR2_4 frR2_0 frR2_1 frR2_2 frR2_3 frR2_4
    have hz3 : w2.heap.size ≤ w3.heap.size := by have := ht3.size; (try simp at this); omega
    have HB3 := Lib.hid (Touch.below HB2.out ht3 (fun i hi => by omega))
    clear HB2
    have HP3 := Lib.hid (Blk.touch HP2.out ht3 (show ¬ (w.heap.size = w.heap.size + 1 + 1) by omega))
    clear HP2
    have HQ3 := Lib.hid (Blk.touch HQ2.out ht3 (show ¬ (w.heap.size + 1 = w.heap.size + 1 + 1) by omega))
    clear HQ2
    clear ht3 HR2
    have Hbx3 := Lib.hid hbx3; clear hbx3
    have hE : Fares.takeDeny v.of d.of = Fares.zeroGate := by unfold Fares.takeDeny; exact if_neg (fun e => by rw [hv] at e; exact absurd e.1 (by simp))
    obtain ⟨z0, z1, z2, z3, z4⟩ := gateCells (t := 40) (v := (⟨0, 0, ⟨0, none, 0, []⟩, none, 0, []⟩ : GateR)) Hbx3.out
    refine bodyPost_ret (v := gateV (⟨0, 0, ⟨0, none, 0, []⟩, none, 0, []⟩ : GateR)) (by simp [results, Try.results53, go_sem, gateV, z0, z1, z2, z3, z4]) rfl ⟨⟨(⟨0, 0, ⟨0, none, 0, []⟩, none, 0, []⟩ : GateR), rfl, ?_, ⟨⟨World.ownsRow_nil _ _ _ _, trivial⟩, World.ownsRow_nil _ _ _ _, fun k h => by cases h⟩, ⟨Nat.zero_le _, Nat.zero_le _⟩⟩, HB3.out⟩
    rw [hE]; rfl
  · obtain ⟨f0, f1, f2, f3, f4, f5⟩ := Fares.validGate_facts hv
    have f4' : v.kept.length ≤ 10 := f4
    have f5' : v.deny.cards.length ≤ 12 := f5
    clear f0 f1 f2 f3 f4 f5
    have Hv := Lib.hid hv; clear hv
    go_wp2_with fail
    refine (specvalidDeny_any d _ (Hj.out.over HB2.out) Ht.out).mono ?_
    rintro e w3 ⟨rfl, hb3⟩
    clear cP2_0 cP2_1 cP2_2 cP2_3 cP2_4 cQ2_0 cQ2_1 cR2_0 cR2_1 cR2_2 cR2_3 cR2_4 frR2_0 frR2_1 frR2_2 frR2_3 frR2_4
    have hz3 : w2.heap.size ≤ w3.heap.size := by have := hb3.size; (try simp at this); omega
    have HB3 := Lib.hid (bT HB2.out hb3)
    clear HB2
    have HP3 := Lib.hid (Blk.belowAll HP2.out hb3)
    clear HP2
    have HQ3 := Lib.hid (Blk.belowAll HQ2.out hb3)
    clear HQ2
    have HR3 := Lib.hid (Blk.belowAll HR2.out hb3)
    clear HR2
    clear hb3
    obtain ⟨cP3_0, cP3_1, cP3_2, cP3_3, cP3_4⟩ := gateCells (t := 40) (v := v) HP3.out
    obtain ⟨cQ3_0, cQ3_1⟩ := denyCells (t := 30) (v := d) HQ3.out
    obtain ⟨cR3_0, cR3_1, cR3_2, cR3_3, cR3_4⟩ := gateCells (t := 40) (v := (⟨0, 0, ⟨0, none, 0, []⟩, none, 0, []⟩ : GateR)) HR3.out
    have frR3_0 := (HR3.out).free 0
    have frR3_1 := (HR3.out).free 1
    have frR3_2 := (HR3.out).free 2
    have frR3_3 := (HR3.out).free 3
    have frR3_4 := (HR3.out).free 4
    have frP3_0 := (HP3.out).free 0
    have frP3_1 := (HP3.out).free 1
    have frP3_2 := (HP3.out).free 2
    have frP3_3 := (HP3.out).free 3
    have frP3_4 := (HP3.out).free 4
    cases hd : Fares.validDeny d.of
    · go_wp2
      generalize hW : World.setCell _ _ _ = w4
      have ht4 : Touch (fun i => i = w.heap.size + 1 + 1) w3 w4 := by rw [← hW]; exact (Touch.far (K := fun i => i = w.heap.size + 1 + 1) (Touch.far (K := fun i => i = w.heap.size + 1 + 1) (Touch.far (K := fun i => i = w.heap.size + 1 + 1) (Touch.far (K := fun i => i = w.heap.size + 1 + 1) (Touch.far (K := fun i => i = w.heap.size + 1 + 1) (Touch.refl _ _) (p := ⟨w.heap.size + 1 + 1, 0, none⟩) rfl _) (p := ⟨w.heap.size + 1 + 1, 1, none⟩) rfl _) (p := ⟨w.heap.size + 1 + 1, 2, none⟩) rfl _) (p := ⟨w.heap.size + 1 + 1, 3, none⟩) rfl _) (p := ⟨w.heap.size + 1 + 1, 4, none⟩) rfl _)
      have hbx4 : Blk w4 (w.heap.size + 1 + 1) 40 (GateR.cells (⟨0, 0, ⟨0, none, 0, []⟩, none, 0, []⟩ : GateR)) := by rw [← hW]; exact (Blk.put (Blk.put (Blk.put (Blk.put (Blk.put HR3.out 0 (.int .i64 (⟨0, 0, ⟨0, none, 0, []⟩, none, 0, []⟩ : GateR).val)) 1 (.int .i64 (⟨0, 0, ⟨0, none, 0, []⟩, none, 0, []⟩ : GateR).nxt)) 2 (.int .i64 (⟨0, 0, ⟨0, none, 0, []⟩, none, 0, []⟩ : GateR).deny.ver)) 3 (.slice (⟨0, 0, ⟨0, none, 0, []⟩, none, 0, []⟩ : GateR).deny.cardsA (⟨0, 0, ⟨0, none, 0, []⟩, none, 0, []⟩ : GateR).deny.cards.length (⟨0, 0, ⟨0, none, 0, []⟩, none, 0, []⟩ : GateR).deny.cardsc)) 4 (.slice (⟨0, 0, ⟨0, none, 0, []⟩, none, 0, []⟩ : GateR).keptA (⟨0, 0, ⟨0, none, 0, []⟩, none, 0, []⟩ : GateR).kept.length (⟨0, 0, ⟨0, none, 0, []⟩, none, 0, []⟩ : GateR).keptc))
      clear hW
      clear cP3_0 cP3_1 cP3_2 cP3_3 cP3_4 cQ3_0 cQ3_1 cR3_0 cR3_1 cR3_2 cR3_3 cR3_4 frR3_0 frR3_1 frR3_2 frR3_3 frR3_4 frP3_0 frP3_1 frP3_2 frP3_3 frP3_4
      have hz4 : w3.heap.size ≤ w4.heap.size := by have := ht4.size; (try simp at this); omega
      have HB4 := Lib.hid (Touch.below HB3.out ht4 (fun i hi => by omega))
      clear HB3
      have HP4 := Lib.hid (Blk.touch HP3.out ht4 (show ¬ (w.heap.size = w.heap.size + 1 + 1) by omega))
      clear HP3
      have HQ4 := Lib.hid (Blk.touch HQ3.out ht4 (show ¬ (w.heap.size + 1 = w.heap.size + 1 + 1) by omega))
      clear HQ3
      clear ht4 HR3
      have Hbx4 := Lib.hid hbx4; clear hbx4
      have hE : Fares.takeDeny v.of d.of = Fares.zeroGate := by unfold Fares.takeDeny; exact if_neg (fun e => by rw [hd] at e; exact absurd e.2 (by simp))
      obtain ⟨z0, z1, z2, z3, z4⟩ := gateCells (t := 40) (v := (⟨0, 0, ⟨0, none, 0, []⟩, none, 0, []⟩ : GateR)) Hbx4.out
      refine bodyPost_ret (v := gateV (⟨0, 0, ⟨0, none, 0, []⟩, none, 0, []⟩ : GateR)) (by simp [results, Try.results53, go_sem, gateV, z0, z1, z2, z3, z4]) rfl ⟨⟨(⟨0, 0, ⟨0, none, 0, []⟩, none, 0, []⟩ : GateR), rfl, ?_, ⟨⟨World.ownsRow_nil _ _ _ _, trivial⟩, World.ownsRow_nil _ _ _ _, fun k h => by cases h⟩, ⟨Nat.zero_le _, Nat.zero_le _⟩⟩, HB4.out⟩
      rw [hE]; rfl
    · have g5 : d.cards.length ≤ 12 := by unfold Fares.validDeny at hd; rw [Bool.and_eq_true, decide_eq_true_eq] at hd; exact hd.1.2.2
      have Hd := Lib.hid hd; clear hd
      go_wp2_with fail
      refine (copyGate_any v _ (Hi.out.over HB3.out) ⟨by omega, by omega⟩).mono ?_
      rintro e w4 ⟨⟨u, rfl, hof, hown, hs1, hs2⟩, hb4⟩
      clear cP3_0 cP3_1 cP3_2 cP3_3 cP3_4 cQ3_0 cQ3_1 cR3_0 cR3_1 cR3_2 cR3_3 cR3_4 frR3_0 frR3_1 frR3_2 frR3_3 frR3_4 frP3_0 frP3_1 frP3_2 frP3_3 frP3_4
      have hz4 : w3.heap.size ≤ w4.heap.size := by have := hb4.size; (try simp at this); omega
      have HB4 := Lib.hid (bT HB3.out hb4)
      clear HB3
      have HP4 := Lib.hid (Blk.belowAll HP3.out hb4)
      clear HP3
      have HQ4 := Lib.hid (Blk.belowAll HQ3.out hb4)
      clear HQ3
      have HR4 := Lib.hid (Blk.belowAll HR3.out hb4)
      clear HR3
      clear hb4
      have Hof := Lib.hid hof; clear hof
      (try unfold gateV)
      obtain ⟨hownD, hownK, hap⟩ := hown
      have Hap := Lib.hid hap; clear hap
      have LTD := Lib.hid (fun k hk => (DenyOwn.lt hownD k hk).1)
      have UPD := Lib.hid (fun k hk => (DenyOwn.lt hownD k hk).2)
      have HoD := Lib.hid hownD; clear hownD
      have LTK := Lib.hid (fun k hk => (World.ownsRow.lt hownK k hk).1)
      have UPK := Lib.hid (fun k hk => (World.ownsRow.lt hownK k hk).2)
      have HoK := Lib.hid hownK; clear hownK
      have hsg : GateSmall u := ⟨Nat.le_trans hs1 (by omega), Nat.le_trans hs2 (by omega)⟩
      have Hsg := Lib.hid hsg; clear hsg
      have pfP4_0 : (w4.alloc (.cells #[.int .i64 u.val, .int .i64 u.nxt, .int .i64 u.deny.ver, .slice u.deny.cardsA u.deny.cards.length u.deny.cardsc, .slice u.keptA u.kept.length u.keptc] 40)).cell? ⟨w.heap.size, 0, none⟩ = some (.int .i64 v.val) := ((Blk.alloc HP4.out _)).cell 0
      have pfP4_1 : (w4.alloc (.cells #[.int .i64 u.val, .int .i64 u.nxt, .int .i64 u.deny.ver, .slice u.deny.cardsA u.deny.cards.length u.deny.cardsc, .slice u.keptA u.kept.length u.keptc] 40)).cell? ⟨w.heap.size, 1, none⟩ = some (.int .i64 v.nxt) := ((Blk.alloc HP4.out _)).cell 1
      have pfP4_2 : (w4.alloc (.cells #[.int .i64 u.val, .int .i64 u.nxt, .int .i64 u.deny.ver, .slice u.deny.cardsA u.deny.cards.length u.deny.cardsc, .slice u.keptA u.kept.length u.keptc] 40)).cell? ⟨w.heap.size, 2, none⟩ = some (.int .i64 v.deny.ver) := ((Blk.alloc HP4.out _)).cell 2
      have pfP4_3 : (w4.alloc (.cells #[.int .i64 u.val, .int .i64 u.nxt, .int .i64 u.deny.ver, .slice u.deny.cardsA u.deny.cards.length u.deny.cardsc, .slice u.keptA u.kept.length u.keptc] 40)).cell? ⟨w.heap.size, 3, none⟩ = some (.slice v.deny.cardsA v.deny.cards.length v.deny.cardsc) := ((Blk.alloc HP4.out _)).cell 3
      have pfP4_4 : (w4.alloc (.cells #[.int .i64 u.val, .int .i64 u.nxt, .int .i64 u.deny.ver, .slice u.deny.cardsA u.deny.cards.length u.deny.cardsc, .slice u.keptA u.kept.length u.keptc] 40)).cell? ⟨w.heap.size, 4, none⟩ = some (.slice v.keptA v.kept.length v.keptc) := ((Blk.alloc HP4.out _)).cell 4
      have pfQ4_0 : (w4.alloc (.cells #[.int .i64 u.val, .int .i64 u.nxt, .int .i64 u.deny.ver, .slice u.deny.cardsA u.deny.cards.length u.deny.cardsc, .slice u.keptA u.kept.length u.keptc] 40)).cell? ⟨w.heap.size + 1, 0, none⟩ = some (.int .i64 d.ver) := ((Blk.alloc HQ4.out _)).cell 0
      have pfQ4_1 : (w4.alloc (.cells #[.int .i64 u.val, .int .i64 u.nxt, .int .i64 u.deny.ver, .slice u.deny.cardsA u.deny.cards.length u.deny.cardsc, .slice u.keptA u.kept.length u.keptc] 40)).cell? ⟨w.heap.size + 1, 1, none⟩ = some (.slice d.cardsA d.cards.length d.cardsc) := ((Blk.alloc HQ4.out _)).cell 1
      have pfR4_0 : (w4.alloc (.cells #[.int .i64 u.val, .int .i64 u.nxt, .int .i64 u.deny.ver, .slice u.deny.cardsA u.deny.cards.length u.deny.cardsc, .slice u.keptA u.kept.length u.keptc] 40)).cell? ⟨w.heap.size + 1 + 1, 0, none⟩ = some (.int .i64 (⟨0, 0, ⟨0, none, 0, []⟩, none, 0, []⟩ : GateR).val) := ((Blk.alloc HR4.out _)).cell 0
      have pfR4_1 : (w4.alloc (.cells #[.int .i64 u.val, .int .i64 u.nxt, .int .i64 u.deny.ver, .slice u.deny.cardsA u.deny.cards.length u.deny.cardsc, .slice u.keptA u.kept.length u.keptc] 40)).cell? ⟨w.heap.size + 1 + 1, 1, none⟩ = some (.int .i64 (⟨0, 0, ⟨0, none, 0, []⟩, none, 0, []⟩ : GateR).nxt) := ((Blk.alloc HR4.out _)).cell 1
      have pfR4_2 : (w4.alloc (.cells #[.int .i64 u.val, .int .i64 u.nxt, .int .i64 u.deny.ver, .slice u.deny.cardsA u.deny.cards.length u.deny.cardsc, .slice u.keptA u.kept.length u.keptc] 40)).cell? ⟨w.heap.size + 1 + 1, 2, none⟩ = some (.int .i64 (⟨0, 0, ⟨0, none, 0, []⟩, none, 0, []⟩ : GateR).deny.ver) := ((Blk.alloc HR4.out _)).cell 2
      have pfR4_3 : (w4.alloc (.cells #[.int .i64 u.val, .int .i64 u.nxt, .int .i64 u.deny.ver, .slice u.deny.cardsA u.deny.cards.length u.deny.cardsc, .slice u.keptA u.kept.length u.keptc] 40)).cell? ⟨w.heap.size + 1 + 1, 3, none⟩ = some (.slice (⟨0, 0, ⟨0, none, 0, []⟩, none, 0, []⟩ : GateR).deny.cardsA (⟨0, 0, ⟨0, none, 0, []⟩, none, 0, []⟩ : GateR).deny.cards.length (⟨0, 0, ⟨0, none, 0, []⟩, none, 0, []⟩ : GateR).deny.cardsc) := ((Blk.alloc HR4.out _)).cell 3
      have pfR4_4 : (w4.alloc (.cells #[.int .i64 u.val, .int .i64 u.nxt, .int .i64 u.deny.ver, .slice u.deny.cardsA u.deny.cards.length u.deny.cardsc, .slice u.keptA u.kept.length u.keptc] 40)).cell? ⟨w.heap.size + 1 + 1, 4, none⟩ = some (.slice (⟨0, 0, ⟨0, none, 0, []⟩, none, 0, []⟩ : GateR).keptA (⟨0, 0, ⟨0, none, 0, []⟩, none, 0, []⟩ : GateR).kept.length (⟨0, 0, ⟨0, none, 0, []⟩, none, 0, []⟩ : GateR).keptc) := ((Blk.alloc HR4.out _)).cell 4
      by_cases hlt : v.deny.ver < d.ver
      · have hl' : decide (v.deny.ver < d.ver) = true := decide_eq_true hlt
        have HL := Lib.hid hlt
        go_wp2
        generalize hW : World.alloc _ _ = w5
        have hbx5 : Blk w5 w4.heap.size 40 (GateR.cells u) := by rw [← hW]; exact Blk.new w4 _ _
        have hb5 : Below w4.heap.size w4 w5 := by rw [← hW]; exact bA (Below.refl _ _) _
        have hy5 : w4.heap.size < w5.heap.size := by rw [← hW]; simp
        clear hW
        clear pfP4_0 pfP4_1 pfP4_2 pfP4_3 pfP4_4 pfQ4_0 pfQ4_1 pfR4_0 pfR4_1 pfR4_2 pfR4_3 pfR4_4
        have hz5 : w4.heap.size ≤ w5.heap.size := by have := hb5.size; (try simp at this); omega
        have HB5 := Lib.hid (bT HB4.out hb5)
        clear HB4
        have HP5 := Lib.hid (Blk.belowAll HP4.out hb5)
        clear HP4
        have HQ5 := Lib.hid (Blk.belowAll HQ4.out hb5)
        clear HQ4
        have HR5 := Lib.hid (Blk.belowAll HR4.out hb5)
        clear HR4
        have HD5 := Lib.hid (DenyOwn.below HoD.out hb5)
        clear HoD
        have HK5 := Lib.hid (own_below HoK.out hb5)
        clear HoK
        clear hb5
        have Hbx5 := Lib.hid hbx5; clear hbx5
        obtain ⟨cR5_0, cR5_1, cR5_2, cR5_3, cR5_4⟩ := gateCells (t := 40) (v := (⟨0, 0, ⟨0, none, 0, []⟩, none, 0, []⟩ : GateR)) HR5.out
        have frR5_0 := (HR5.out).free 0
        have frR5_1 := (HR5.out).free 1
        have frR5_2 := (HR5.out).free 2
        have frR5_3 := (HR5.out).free 3
        have frR5_4 := (HR5.out).free 4
        refine wp_region_held_drew (S := fun w' => (w'.cell? ⟨w.heap.size, 0, none⟩ = some (.int .i64 v.val) ∧ w'.cell? ⟨w.heap.size, 1, none⟩ = some (.int .i64 v.nxt) ∧ w'.cell? ⟨w.heap.size, 2, none⟩ = some (.int .i64 v.deny.ver) ∧ w'.cell? ⟨w.heap.size, 3, none⟩ = some (.slice v.deny.cardsA v.deny.cards.length v.deny.cardsc) ∧ w'.cell? ⟨w.heap.size, 4, none⟩ = some (.slice v.keptA v.kept.length v.keptc)) ∧ (w'.cell? ⟨w.heap.size + 1, 0, none⟩ = some (.int .i64 d.ver) ∧ w'.cell? ⟨w.heap.size + 1, 1, none⟩ = some (.slice d.cardsA d.cards.length d.cardsc)) ∧ (w'.cell? ⟨w4.heap.size, 0, none⟩ = some (.int .i64 u.val) ∧ w'.cell? ⟨w4.heap.size, 1, none⟩ = some (.int .i64 u.nxt) ∧ w'.cell? ⟨w4.heap.size, 2, none⟩ = some (.int .i64 u.deny.ver) ∧ w'.cell? ⟨w4.heap.size, 3, none⟩ = some (.slice u.deny.cardsA u.deny.cards.length u.deny.cardsc) ∧ w'.cell? ⟨w4.heap.size, 4, none⟩ = some (.slice u.keptA u.kept.length u.keptc))) (by kernel_rfl) (by exact ⟨gateCells (t := 40) (v := v) HP5.out, denyCells (t := 30) (v := d) HQ5.out, gateCells (t := 40) (v := u) Hbx5.out⟩) (fun hS => ?_)
        refine take_at 0 23 (v := ?_) rfl rfl (by kernel_rfl) (by kernel_rfl) (by kernel_rfl) (fun _ _ _ h => h) (by rfl) ?_ hS ?_
        rotate_left 1
        · (intro w hSw; (try dsimp only at hSw); (try go_split_ands); go_simp; try with_reducible rfl)
        simp only [List.setIfInBounds_toArray, List.set_cons_zero, List.set_cons_succ]
        refine take_at 1 24 (v := ?_) rfl rfl (by kernel_rfl) (by kernel_rfl) (by kernel_rfl) (fun _ _ _ h => h) (by rfl) ?_ hS ?_
        rotate_left 1
        · (intro w hSw; (try dsimp only at hSw); (try go_split_ands); go_simp; try with_reducible rfl)
        simp only [List.setIfInBounds_toArray, List.set_cons_zero, List.set_cons_succ]
        refine take_at 2 25 (v := ?_) rfl rfl (by kernel_rfl) (by kernel_rfl) (by kernel_rfl) (fun _ _ _ h => h) (by rfl) ?_ hS ?_
        rotate_left 1
        · (intro w hSw; (try dsimp only at hSw); (try go_split_ands); go_simp; try with_reducible rfl)
        simp only [List.setIfInBounds_toArray, List.set_cons_zero, List.set_cons_succ]
        refine take_at 3 26 (v := ?_) rfl rfl (by kernel_rfl) (by kernel_rfl) (by kernel_rfl) (fun _ _ _ h => h) (by rfl) ?_ hS ?_
        rotate_left 1
        · (intro w hSw; (try dsimp only at hSw); (try go_split_ands); go_simp; try with_reducible rfl)
        simp only [List.setIfInBounds_toArray, List.set_cons_zero, List.set_cons_succ]
        refine take_at 4 27 (v := ?_) rfl rfl (by kernel_rfl) (by kernel_rfl) (by kernel_rfl) (fun _ _ _ h => h) (by rfl) ?_ hS ?_
        rotate_left 1
        · (intro w hSw; (try dsimp only at hSw); (try go_split_ands); go_simp; try with_reducible rfl)
        simp only [List.setIfInBounds_toArray, List.set_cons_zero, List.set_cons_succ]
        refine take_at 5 28 (v := ?_) rfl rfl (by kernel_rfl) (by kernel_rfl) (by kernel_rfl) (fun _ _ _ h => h) (by rfl) ?_ hS ?_
        rotate_left 1
        · (intro w hSw; (try dsimp only at hSw); (try go_split_ands); go_simp; try with_reducible rfl)
        simp only [List.setIfInBounds_toArray, List.set_cons_zero, List.set_cons_succ]
        refine take_at 6 29 (v := ?_) rfl rfl (by kernel_rfl) (by kernel_rfl) (by kernel_rfl) (fun _ _ _ h => h) (by rfl) ?_ hS ?_
        rotate_left 1
        · (intro w hSw; (try dsimp only at hSw); (try go_split_ands); go_simp; try with_reducible rfl)
        simp only [List.setIfInBounds_toArray, List.set_cons_zero, List.set_cons_succ]
        refine take_at 7 30 (v := ?_) rfl rfl (by kernel_rfl) (by kernel_rfl) (by kernel_rfl) (fun _ _ _ h => h) (by rfl) ?_ hS ?_
        rotate_left 1
        · (intro w hSw; (try dsimp only at hSw); (try go_split_ands); go_simp; try with_reducible rfl)
        simp only [List.setIfInBounds_toArray, List.set_cons_zero, List.set_cons_succ]
        refine take_at 10 33 (v := ?_) rfl rfl (by kernel_rfl) (by kernel_rfl) (by kernel_rfl) (fun _ _ _ h => h) (by rfl) ?_ hS ?_
        rotate_left 1
        · (intro w hSw; (try dsimp only at hSw); (try go_split_ands); go_simp; try with_reducible rfl)
        simp only [List.setIfInBounds_toArray, List.set_cons_zero, List.set_cons_succ]
        refine take_at 11 34 (v := ?_) rfl rfl (by kernel_rfl) (by kernel_rfl) (by kernel_rfl) (fun _ _ _ h => h) (by rfl) ?_ hS ?_
        rotate_left 1
        · (intro w hSw; (try dsimp only at hSw); (try go_split_ands); go_simp; try with_reducible rfl)
        simp only [List.setIfInBounds_toArray, List.set_cons_zero, List.set_cons_succ]
        refine wpAnyH_ready (rs := [8]) (by kernel_rfl) (by simp) ?_
        refine AllReadyH.cons rfl (fun K hK => ?_) (AllReadyH.nil)
        go_simp
        go_wp2_with fail
        refine (copyInts_any d.cardsA d.cards.length d.cardsc d.cards _ (Hj.out.over (bD1 HB5.out)).1 rfl (Hj.out).2.2.2 (by omega)).mono ?_
        rintro e w6 ⟨vq, rfl, hownq, hb6⟩
        obtain ⟨Aq, cq, rfl, _, _, _⟩ := OwnInts.form hownq
        clear cR5_0 cR5_1 cR5_2 cR5_3 cR5_4 frR5_0 frR5_1 frR5_2 frR5_3 frR5_4
        have hz6 : w5.heap.size ≤ w6.heap.size := by have := hb6.size; (try simp at this); omega
        have HB6 := Lib.hid (bT (bD1 HB5.out) hb6)
        clear HB5
        have HP6 := Lib.hid (Blk.belowAll (blkDrew HP5.out) hb6)
        clear HP5
        have HQ6 := Lib.hid (Blk.belowAll (blkDrew HQ5.out) hb6)
        clear HQ5
        have HR6 := Lib.hid (Blk.belowAll (blkDrew HR5.out) hb6)
        clear HR5
        have HD6 := Lib.hid (DenyOwn.below (DenyOwn.drew HD5.out) hb6)
        clear HD5
        have HK6 := Lib.hid (own_below (ownDrew HK5.out) hb6)
        clear HK5
        have HN6 := Lib.hid (Blk.belowAll (blkDrew Hbx5.out) hb6)
        clear Hbx5
        clear hb6
        have hownq' : World.ownsRow w6 (w5.heap.size) 3 1 (.slice Aq d.cards.length cq) d.cards.length (d.cards.flatMap intCells) := hownq
        clear hownq
        have LTC := Lib.hid (fun k hk => (World.ownsRow.lt hownq' k hk).1)
        have UPC := Lib.hid (fun k hk => (World.ownsRow.lt hownq' k hk).2)
        have HoC := Lib.hid hownq'; clear hownq'
        obtain ⟨cR6_0, cR6_1, cR6_2, cR6_3, cR6_4⟩ := gateCells (t := 40) (v := (⟨0, 0, ⟨0, none, 0, []⟩, none, 0, []⟩ : GateR)) HR6.out
        have frR6_0 := (HR6.out).free 0
        have frR6_1 := (HR6.out).free 1
        have frR6_2 := (HR6.out).free 2
        have frR6_3 := (HR6.out).free 3
        have frR6_4 := (HR6.out).free 4
        go_simp
        refine hK.out _ _ (by exact ⟨gateCells (t := 40) (v := v) HP6.out, denyCells (t := 30) (v := d) HQ6.out, gateCells (t := 40) (v := u) HN6.out⟩) (fun hS => ?_)
        clear hK K
        refine take_at 9 32 (v := ?_) rfl rfl (by kernel_rfl) (by kernel_rfl) (by kernel_rfl) (fun _ _ _ h => h) (by rfl) ?_ hS ?_
        rotate_left 1
        · (intro w hSw; (try dsimp only at hSw); (try go_split_ands); go_simp; try with_reducible rfl)
        simp only [List.setIfInBounds_toArray, List.set_cons_zero, List.set_cons_succ]
        refine take_at 12 35 (v := ?_) rfl rfl (by kernel_rfl) (by kernel_rfl) (by kernel_rfl) (fun _ _ _ h => h) (by rfl) ?_ hS ?_
        rotate_left 1
        · (intro w hSw; (try dsimp only at hSw); (try go_split_ands); go_simp; try with_reducible rfl)
        simp only [List.setIfInBounds_toArray, List.set_cons_zero, List.set_cons_succ]
        refine wpAnyH_ready (rs := [13]) (by kernel_rfl) (by simp) ?_
        refine AllReadyH.cons rfl (fun K hK => ?_) (AllReadyH.nil)
        go_simp
        generalize hW : World.setCell _ _ _ = w7
        have ht7 : Touch (fun i => i = w.heap.size + 1 + 1) w6 w7 := by rw [← hW]; exact (Touch.far (K := fun i => i = w.heap.size + 1 + 1) (Touch.far (K := fun i => i = w.heap.size + 1 + 1) (Touch.far (K := fun i => i = w.heap.size + 1 + 1) (Touch.far (K := fun i => i = w.heap.size + 1 + 1) (Touch.far (K := fun i => i = w.heap.size + 1 + 1) (Touch.refl _ _) (p := ⟨w.heap.size + 1 + 1, 0, none⟩) rfl _) (p := ⟨w.heap.size + 1 + 1, 1, none⟩) rfl _) (p := ⟨w.heap.size + 1 + 1, 2, none⟩) rfl _) (p := ⟨w.heap.size + 1 + 1, 3, none⟩) rfl _) (p := ⟨w.heap.size + 1 + 1, 4, none⟩) rfl _)
        have hbx7 : Blk w7 (w.heap.size + 1 + 1) 40 (GateR.cells (⟨v.val, v.nxt, ⟨d.ver, Aq, cq, d.cards⟩, u.keptA, u.keptc, u.kept⟩ : GateR)) := by rw [← hW]; exact (Blk.put (Blk.put (Blk.put (Blk.put (Blk.put HR6.out 0 (.int .i64 (⟨v.val, v.nxt, ⟨d.ver, Aq, cq, d.cards⟩, u.keptA, u.keptc, u.kept⟩ : GateR).val)) 1 (.int .i64 (⟨v.val, v.nxt, ⟨d.ver, Aq, cq, d.cards⟩, u.keptA, u.keptc, u.kept⟩ : GateR).nxt)) 2 (.int .i64 (⟨v.val, v.nxt, ⟨d.ver, Aq, cq, d.cards⟩, u.keptA, u.keptc, u.kept⟩ : GateR).deny.ver)) 3 (.slice (⟨v.val, v.nxt, ⟨d.ver, Aq, cq, d.cards⟩, u.keptA, u.keptc, u.kept⟩ : GateR).deny.cardsA (⟨v.val, v.nxt, ⟨d.ver, Aq, cq, d.cards⟩, u.keptA, u.keptc, u.kept⟩ : GateR).deny.cards.length (⟨v.val, v.nxt, ⟨d.ver, Aq, cq, d.cards⟩, u.keptA, u.keptc, u.kept⟩ : GateR).deny.cardsc)) 4 (.slice (⟨v.val, v.nxt, ⟨d.ver, Aq, cq, d.cards⟩, u.keptA, u.keptc, u.kept⟩ : GateR).keptA (⟨v.val, v.nxt, ⟨d.ver, Aq, cq, d.cards⟩, u.keptA, u.keptc, u.kept⟩ : GateR).kept.length (⟨v.val, v.nxt, ⟨d.ver, Aq, cq, d.cards⟩, u.keptA, u.keptc, u.kept⟩ : GateR).keptc))
        clear hW
        clear cR6_0 cR6_1 cR6_2 cR6_3 cR6_4 frR6_0 frR6_1 frR6_2 frR6_3 frR6_4
        have hz7 : w6.heap.size ≤ w7.heap.size := by have := ht7.size; (try simp at this); omega
        have HB7 := Lib.hid (Touch.below HB6.out ht7 (fun i hi => by omega))
        clear HB6
        have HP7 := Lib.hid (Blk.touch HP6.out ht7 (show ¬ (w.heap.size = w.heap.size + 1 + 1) by omega))
        clear HP6
        have HQ7 := Lib.hid (Blk.touch HQ6.out ht7 (show ¬ (w.heap.size + 1 = w.heap.size + 1 + 1) by omega))
        clear HQ6
        have HD7 := Lib.hid (DenyOwn.touch HD6.out ht7 (fun i hi e0 => by have a1 := LTD.out _ hi; have a2 := UPD.out _ hi; omega))
        clear HD6
        have HK7 := Lib.hid (ownTouch HK6.out ht7 (fun i hi e0 => by have a1 := LTK.out _ hi; have a2 := UPK.out _ hi; omega))
        clear HK6
        have HN7 := Lib.hid (Blk.touch HN6.out ht7 (show ¬ (w4.heap.size = w.heap.size + 1 + 1) by omega))
        clear HN6
        have HC7 := Lib.hid (ownTouch HoC.out ht7 (fun i hi e0 => by have a1 := LTC.out _ hi; have a2 := UPC.out _ hi; omega))
        clear HoC
        clear ht7 HR6
        have Hbx7 := Lib.hid hbx7; clear hbx7
        refine hK.out _ _ (by exact ⟨gateCells (t := 40) (v := v) HP7.out, denyCells (t := 30) (v := d) HQ7.out, gateCells (t := 40) (v := u) HN7.out⟩) (fun hS => ?_)
        clear hK K
        refine wpAnyH_done (by kernel_rfl) ?_ _
        clear hS
        go_wp2
        have hE : Fares.takeDeny v.of d.of = ⟨v.val, v.nxt, d.of, v.kept⟩ := by unfold Fares.takeDeny; rw [if_pos ⟨Hv.out, Hd.out⟩]; exact if_pos (show v.deny.ver < d.ver by have := HL.out; omega)
        obtain ⟨z0, z1, z2, z3, z4⟩ := gateCells (t := 40) (v := (⟨v.val, v.nxt, ⟨d.ver, Aq, cq, d.cards⟩, u.keptA, u.keptc, u.kept⟩ : GateR)) Hbx7.out
        refine bodyPost_ret (v := gateV (⟨v.val, v.nxt, ⟨d.ver, Aq, cq, d.cards⟩, u.keptA, u.keptc, u.kept⟩ : GateR)) (by simp [results, Try.results53, go_sem, gateV, z0, z1, z2, z3, z4]) rfl ⟨⟨(⟨v.val, v.nxt, ⟨d.ver, Aq, cq, d.cards⟩, u.keptA, u.keptc, u.kept⟩ : GateR), rfl, ?_, ⟨⟨ownBase HC7.out (by omega), trivial⟩, ownBase HK7.out (by omega), fun k h1 h2 => by have a1 := LTC.out k h1; have a2 := UPK.out k h2; omega⟩, ⟨show d.cards.length ≤ 1048576 by omega, show u.kept.length ≤ 1048576 by omega⟩⟩, HB7.out⟩
        rw [hE]; have e4 : u.kept = v.kept := congrArg Fares.Gate.kept Hof.out; show (⟨v.val, v.nxt, ⟨d.ver, d.cards⟩, u.kept⟩ : Fares.Gate) = ⟨v.val, v.nxt, ⟨d.ver, d.cards⟩, v.kept⟩; rw [e4]
      · have hl' : decide (v.deny.ver < d.ver) = false := decide_eq_false hlt
        have HL := Lib.hid hlt
        have pr0 : (World.alloc w4 (.cells #[.int .i64 u.val, .int .i64 u.nxt, .int .i64 u.deny.ver, .slice u.deny.cardsA u.deny.cards.length u.deny.cardsc, .slice u.keptA u.kept.length u.keptc] 40)).frozen? ⟨w.heap.size + 1 + 1, 0, none⟩ = false := ((Blk.alloc HR4.out _)).free 0
        have pr1 : (World.alloc w4 (.cells #[.int .i64 u.val, .int .i64 u.nxt, .int .i64 u.deny.ver, .slice u.deny.cardsA u.deny.cards.length u.deny.cardsc, .slice u.keptA u.kept.length u.keptc] 40)).frozen? ⟨w.heap.size + 1 + 1, 1, none⟩ = false := ((Blk.alloc HR4.out _)).free 1
        have pr2 : (World.alloc w4 (.cells #[.int .i64 u.val, .int .i64 u.nxt, .int .i64 u.deny.ver, .slice u.deny.cardsA u.deny.cards.length u.deny.cardsc, .slice u.keptA u.kept.length u.keptc] 40)).frozen? ⟨w.heap.size + 1 + 1, 2, none⟩ = false := ((Blk.alloc HR4.out _)).free 2
        have pr3 : (World.alloc w4 (.cells #[.int .i64 u.val, .int .i64 u.nxt, .int .i64 u.deny.ver, .slice u.deny.cardsA u.deny.cards.length u.deny.cardsc, .slice u.keptA u.kept.length u.keptc] 40)).frozen? ⟨w.heap.size + 1 + 1, 3, none⟩ = false := ((Blk.alloc HR4.out _)).free 3
        have pr4 : (World.alloc w4 (.cells #[.int .i64 u.val, .int .i64 u.nxt, .int .i64 u.deny.ver, .slice u.deny.cardsA u.deny.cards.length u.deny.cardsc, .slice u.keptA u.kept.length u.keptc] 40)).frozen? ⟨w.heap.size + 1 + 1, 4, none⟩ = false := ((Blk.alloc HR4.out _)).free 4
        go_wp2
        generalize hW : World.setCell _ _ _ = wf
        have htf : Touch (fun i => i = w.heap.size + 1 + 1) w4 wf := by rw [← hW]; exact (Touch.far (K := fun i => i = w.heap.size + 1 + 1) (Touch.far (K := fun i => i = w.heap.size + 1 + 1) (Touch.far (K := fun i => i = w.heap.size + 1 + 1) (Touch.far (K := fun i => i = w.heap.size + 1 + 1) (Touch.far (K := fun i => i = w.heap.size + 1 + 1) (Touch.of_below (bA (Below.refl _ _) _)) (p := ⟨w.heap.size + 1 + 1, 0, none⟩) rfl _) (p := ⟨w.heap.size + 1 + 1, 1, none⟩) rfl _) (p := ⟨w.heap.size + 1 + 1, 2, none⟩) rfl _) (p := ⟨w.heap.size + 1 + 1, 3, none⟩) rfl _) (p := ⟨w.heap.size + 1 + 1, 4, none⟩) rfl _)
        have hRf : Blk wf (w.heap.size + 1 + 1) 40 (GateR.cells u) := by rw [← hW]; exact (Blk.put (Blk.put (Blk.put (Blk.put (Blk.put (Blk.alloc HR4.out _) 0 _) 1 _) 2 _) 3 _) 4 _)
        clear hW
        clear pfP4_0 pfP4_1 pfP4_2 pfP4_3 pfP4_4 pfQ4_0 pfQ4_1 pfR4_0 pfR4_1 pfR4_2 pfR4_3 pfR4_4
        have HRf := Lib.hid hRf; clear hRf
        have hBf : Below w.heap.size w wf := Touch.below HB4.out htf (fun i hi => by omega)
        have hKf := ownTouch HoK.out htf (fun i hi e0 => by have a1 := LTK.out _ hi; have a2 := UPK.out _ hi; omega)
        have hDf := DenyOwn.touch HoD.out htf (fun i hi e0 => by have a1 := LTD.out _ hi; have a2 := UPD.out _ hi; omega)
        have hE : Fares.takeDeny v.of d.of = v.of := by unfold Fares.takeDeny; rw [if_pos ⟨Hv.out, Hd.out⟩]; exact if_neg (show ¬ v.deny.ver < d.ver by have := HL.out; omega)
        obtain ⟨z0, z1, z2, z3, z4⟩ := gateCells (t := 40) (v := u) HRf.out
        refine bodyPost_ret (v := gateV u) (by simp [results, Try.results53, go_sem, gateV, z0, z1, z2, z3, z4]) rfl ⟨⟨u, rfl, ?_, ⟨DenyOwn.base hDf (by omega), ownBase hKf (by omega), Hap.out⟩, Hsg.out⟩, hBf⟩
        rw [hE]; exact Hof.out
end Go.Proofs.Ytpijjlggmibfnaa
