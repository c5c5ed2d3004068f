/-
  Copies of validators that share no memory.
-/
import Derived.Test.YtpijjlggmibfnaaGateFn
import Derived.Test.YtpijjlggmibfnaaDrawSpoil
import Derived.Test.YtpijjlggmibfnaaReg
import Derived.Deep.AppendLies
import Derived.Lib.SliceRun
set_option linter.unusedSimpArgs false
namespace Go.Proofs.Ytpijjlggmibfnaa
open Go.RowKit Go.Deep
set_option linter.unusedVariables false

theorem drewSize (w : World) : w.drew.heap.size = w.heap.size := rfl
theorem info_tapC : (Try.prog.info? 57).map (fun i => (i.zero, i.size, i.bytes)) = some (some (.agg #[.int .i64 0, .int .i64 0, .int .i64 0, .int .i64 0, .int .i64 0, .bool false]), 6, 48) := by kernel_rfl
set_option maxRecDepth 100000 in
set_option maxHeartbeats 1000000 in
theorem cloneInts_any (A : Option Addr) (n c : Nat) (xs : List Int) (w : World) (hx : Reads w w.heap.size A (xs.flatMap intCells)) (hn : xs.length = n) (hA : NilOk A n c) (hl : n ≤ 1000000) :
    Calls Try.prog 108 #[.slice A n c] w fun e w' => ∃ v, e = .returned v ∧ OwnInts w' w.heap.size v xs ∧ Below w.heap.size w w' := by
  subst hn
  obtain ⟨ti, hi0, hz0, hz1, hz2⟩ := info_parts info_intS
  have HIInt := Lib.hid hi0; clear hi0
  have HZ0Int := Lib.hid hz0; clear hz0
  have HZ1Int := Lib.hid hz1; clear hz1
  have HZ2Int := Lib.hid hz2; clear hz2
  cases A with
  | none =>
    have qe := fun (w : World) => Lib.run_eql_slice_nil w _ _ none 0 0 0 0 Try.underlying28
    obtain ⟨h1, h2⟩ := hA rfl
    have e0 : xs = [] := List.eq_nil_of_length_eq_zero h1
    subst e0
    subst h2
    go_enter Try.func108, Try.ntmps108
    go_wp2
    go_ret
    exact ⟨_, rfl, World.ownsRow_nil _ _ _ _, Below.refl _ _⟩
  | some ad =>
    have qe := fun (w : World) => Lib.run_eql_slice_nil w _ _ (some ad) xs.length c 0 0 Try.underlying28
    have HA := Lib.hid (show (some ad : Option Addr) = none → xs.length = 0 ∧ c = 0 from fun e => by cases e)
    have Hx := Lib.hid hx; clear hx
    have HB := Lib.hid (Below.refl w.heap.size w)
    clear hA
    have Hnew := Lib.hid (World.ownsRow_lit (base := w.heap.size) (e := 3) (size := 1) w #[] 0 (Nat.le_refl _) (by unfold maxLen; omega) rfl)
    go_enter Try.func108, Try.ntmps108
    have hsz1 := (HB.out).size
    go_wp2_with (at_builtin; refine append_src rfl (.tmp 5) (.tmp 6) _ rfl (w.heap.size) 3 ti _ 1 8 Try.underlying28 HIInt.out HZ0Int.out HZ1Int.out HZ2Int.out rfl (by omega) _ 0 _ rfl Hnew.out ((some ad)) (xs.length) (c) _ (xs.flatMap intCells) rfl HA.out (by rw [flat_length intCells 1 (fun _ => rfl)]) (readsOver Hx.out (bA HB.out _)) (one_flat intCells (by intro x u hu; simp only [intCells, List.mem_cons, List.not_mem_nil, or_false] at hu; subst hu; rfl) _) (by unfold maxLen; omega) (by omega) (by first | omega | (simp; omega) | simp) ?_)
    intro v1 w1 hown1 hgrow1 hat1
    have HBo1 := Lib.hid (Below.grown (bA HB.out _) hgrow1 (Below.size (bA HB.out _)) (fun r hr => (World.ownsRow.lt Hnew.out r hr).1))
    clear HB
    have HX1 := Lib.hid hown1; clear hown1 hgrow1 hat1 Hnew
    go_wp2
    go_ret
    exact ⟨_, rfl, by unfold OwnInts; have h := HX1.out; simpa using h, HBo1.out⟩
set_option maxRecDepth 100000 in
set_option maxHeartbeats 1000000 in
theorem cloneTaps_any (A : Option Addr) (n c : Nat) (xs : List Fares.Tap) (w : World) (hx : Reads w w.heap.size A (xs.flatMap tapCells)) (hn : xs.length = n) (hA : NilOk A n c) (hl : n ≤ 1000000) :
    Calls Try.prog 68 #[.slice A n c] w fun e w' => ∃ v, e = .returned v ∧ OwnTaps w' w.heap.size v xs ∧ Below w.heap.size w w' := by
  subst hn
  obtain ⟨ti, hi0, hz0, hz1, hz2⟩ := info_parts info_tapC
  have HITap := Lib.hid hi0; clear hi0
  have HZ0Tap := Lib.hid hz0; clear hz0
  have HZ1Tap := Lib.hid hz1; clear hz1
  have HZ2Tap := Lib.hid hz2; clear hz2
  cases A with
  | none =>
    have qe := fun (w : World) => Lib.run_eql_slice_nil w _ _ none 0 0 0 0 Try.underlying38
    obtain ⟨h1, h2⟩ := hA rfl
    have e0 : xs = [] := List.eq_nil_of_length_eq_zero h1
    subst e0
    subst h2
    go_enter Try.func68, Try.ntmps68
    go_wp2
    go_ret
    exact ⟨_, rfl, World.ownsRow_nil _ _ _ _, Below.refl _ _⟩
  | some ad =>
    have qe := fun (w : World) => Lib.run_eql_slice_nil w _ _ (some ad) xs.length c 0 0 Try.underlying38
    have HA := Lib.hid (show (some ad : Option Addr) = none → xs.length = 0 ∧ c = 0 from fun e => by cases e)
    have Hx := Lib.hid hx; clear hx
    have HB := Lib.hid (Below.refl w.heap.size w)
    clear hA
    have Hnew := Lib.hid (World.ownsRow_lit (base := w.heap.size) (e := 57) (size := 6) w #[] 0 (Nat.le_refl _) (by unfold maxLen; omega) rfl)
    go_enter Try.func68, Try.ntmps68
    have hsz1 := (HB.out).size
    go_wp2_with (at_builtin; refine append_src rfl (.tmp 5) (.tmp 6) _ rfl (w.heap.size) 57 ti _ 6 48 Try.underlying38 HITap.out HZ0Tap.out HZ1Tap.out HZ2Tap.out rfl (by omega) _ 0 _ rfl Hnew.out ((some ad)) (xs.length) (c) _ (xs.flatMap tapCells) rfl HA.out (by rw [flat_length tapCells 6 (fun _ => rfl)]) (readsOver Hx.out (bA HB.out _)) (one_flat tapCells (by intro x u hu; simp only [tapCells, List.mem_cons, List.not_mem_nil, or_false] at hu; rcases hu with rfl | rfl | rfl | rfl | rfl | rfl <;> rfl) _) (by unfold maxLen; omega) (by omega) (by first | omega | (simp; omega) | simp) ?_)
    intro v1 w1 hown1 hgrow1 hat1
    have HBo1 := Lib.hid (Below.grown (bA HB.out _) hgrow1 (Below.size (bA HB.out _)) (fun r hr => (World.ownsRow.lt Hnew.out r hr).1))
    clear HB
    have HX1 := Lib.hid hown1; clear hown1 hgrow1 hat1 Hnew
    go_wp2
    go_ret
    exact ⟨_, rfl, by unfold OwnTaps; have h := HX1.out; simpa using h, HBo1.out⟩
set_option maxRecDepth 100000 in
set_option maxHeartbeats 2000000 in
theorem denyOwn_any (v : DenyR) (w : World) (hi : DenyIn w w.heap.size v) (hs : v.cards.length ≤ 1000000) :
    Calls Try.prog 93 #[denyV v] w fun e w' => (∃ u : DenyR, e = .returned (denyV u) ∧ u.of = v.of ∧ DenyOwn w' w.heap.size u ∧ u.cards.length ≤ 1000000) ∧ Below w.heap.size w w' := by
  have Hi := Lib.hid hi; clear hi
  unfold denyV
  go_enter Try.func93, Try.ntmps93
  go_wp2_with fail
  generalize hW : World.alloc _ _ = w1
  have hp1 : Blk w1 w.heap.size 30 (DenyR.cells v) := by rw [← hW]; exact (Blk.new w _ _).alloc _
  have hr1 : Blk w1 (w.heap.size + 1) 30 (DenyR.cells (⟨0, none, 0, []⟩ : DenyR)) := by rw [← hW]; exact Blk.new' (by simp)
  have HB1 : Hid (Below w.heap.size w w1) := Lib.hid (by rw [← hW]; exact bA (bA (Below.refl _ _) _) _)
  have hz1 : w.heap.size + 1 < w1.heap.size := by rw [← hW]; simp
  clear hW
  have Hp1 := Lib.hid hp1; clear hp1
  have Hr1 := Lib.hid hr1; clear hr1
  refine (cloneInts_any v.cardsA v.cards.length v.cardsc v.cards _ (Hi.out.over HB1.out).1 rfl (Hi.out).2.2.2 (Nat.le_trans hs (by omega))).mono ?_
  rintro e w2 ⟨vqC, rfl, hownC, hb2⟩
  obtain ⟨AC, cC, rfl, _, _, _⟩ := OwnInts.form hownC
  have hz2 : w1.heap.size ≤ w2.heap.size := by have := hb2.size; (try simp at this); omega
  have HB2 := Lib.hid (bT HB1.out hb2)
  clear HB1
  have HP2 := Lib.hid (Blk.belowAll Hp1.out hb2)
  clear Hp1
  have HR2 := Lib.hid (Blk.belowAll Hr1.out hb2)
  clear Hr1
  clear hb2
  have hownC' : World.ownsRow w2 (w1.heap.size) 3 1 (.slice AC v.cards.length cC) v.cards.length (v.cards.flatMap intCells) := hownC
  clear hownC
  have LTC := Lib.hid (fun k hk => (World.ownsRow.lt hownC' k hk).1)
  have UPC := Lib.hid (fun k hk => (World.ownsRow.lt hownC' k hk).2)
  have HoC := Lib.hid hownC'; clear hownC'
  obtain ⟨cP2_0, cP2_1⟩ := denyCells (t := 30) (v := v) HP2.out
  obtain ⟨cR2_0, cR2_1⟩ := denyCells (t := 30) (v := (⟨0, none, 0, []⟩ : DenyR)) HR2.out
  have frP2_0 := (HP2.out).free 0
  have frP2_1 := (HP2.out).free 1
  have frR2_0 := (HR2.out).free 0
  have frR2_1 := (HR2.out).free 1
  go_wp2
  generalize hW : World.setCell _ _ _ = wf
  have htf : Touch (fun i => i = w.heap.size ∨ i = w.heap.size + 1) w2 wf := by rw [← hW]; exact (Touch.far (K := fun i => i = w.heap.size ∨ i = w.heap.size + 1) (Touch.far (K := fun i => i = w.heap.size ∨ i = w.heap.size + 1) (Touch.far (K := fun i => i = w.heap.size ∨ i = w.heap.size + 1) (Touch.refl _ _) (p := ⟨w.heap.size, 1, none⟩) (.inl rfl) _) (p := ⟨w.heap.size + 1, 0, none⟩) (.inr rfl) _) (p := ⟨w.heap.size + 1, 1, none⟩) (.inr rfl) _)
  have hRf : Blk wf (w.heap.size + 1) 30 (DenyR.cells (⟨v.ver, AC, cC, v.cards⟩ : DenyR)) := by rw [← hW]; exact (Blk.put (Blk.put (Blk.far HR2.out (p := ⟨w.heap.size, 1, none⟩) (show w.heap.size + 1 ≠ w.heap.size by omega) _) 0 _) 1 _)
  clear hW
  clear cP2_0 cP2_1 cR2_0 cR2_1 frP2_0 frP2_1 frR2_0 frR2_1
  have HRf := Lib.hid hRf; clear hRf
  have hBf : Below w.heap.size w wf := Touch.below HB2.out htf (fun i hi => by rcases hi with hi | hi <;> omega)
  have hCf := ownTouch HoC.out htf (fun i hi e0 => by have a1 := LTC.out _ hi; rcases e0 with e0 | e0 <;> omega)
  obtain ⟨z0, z1⟩ := denyCells (t := 30) (v := (⟨v.ver, AC, cC, v.cards⟩ : DenyR)) HRf.out
  exact bodyPost_ret (v := denyV (⟨v.ver, AC, cC, v.cards⟩ : DenyR)) (by simp [results, Try.results93, go_sem, denyV, z0, z1]) rfl ⟨⟨(⟨v.ver, AC, cC, v.cards⟩ : DenyR), rfl, rfl, ⟨ownBase hCf (by omega), trivial⟩, hs⟩, hBf⟩
set_option maxRecDepth 100000 in
set_option maxHeartbeats 2000000 in
theorem gateOwn_any (v : GateR) (w : World) (hi : GateIn w w.heap.size v) (hs : v.deny.cards.length ≤ 1000000 ∧ v.kept.length ≤ 1000000) :
    Calls Try.prog 69 #[gateV v] w fun e w' => (∃ u : GateR, e = .returned (gateV u) ∧ u.of = v.of ∧ GateOwn w' w.heap.size u ∧ u.deny.cards.length ≤ 1000000 ∧ u.kept.length ≤ 1000000) ∧ Below w.heap.size w w' := by
  have Hi := Lib.hid hi; clear hi
  unfold gateV
  go_enter Try.func69, Try.ntmps69
  go_wp2_with fail
  generalize hW : World.alloc _ _ = w1
  have hp1 : Blk w1 w.heap.size 40 (GateR.cells v) := by rw [← hW]; exact (Blk.new w _ _).alloc _
  have hr1 : Blk w1 (w.heap.size + 1) 40 (GateR.cells (⟨0, 0, ⟨0, none, 0, []⟩, none, 0, []⟩ : GateR)) := by rw [← hW]; exact Blk.new' (by simp)
  have HB1 : Hid (Below w.heap.size w w1) := Lib.hid (by rw [← hW]; exact bA (bA (Below.refl _ _) _) _)
  have hz1 : w.heap.size + 1 < w1.heap.size := by rw [← hW]; simp
  clear hW
  have Hp1 := Lib.hid hp1; clear hp1
  have Hr1 := Lib.hid hr1; clear hr1
  refine (denyOwn_any v.deny _ (Hi.out.over HB1.out).1 hs.1).mono ?_
  rintro e w2 ⟨⟨ud, rfl, hofd, hownd, hsd⟩, hb2⟩
  have hz2 : w1.heap.size ≤ w2.heap.size := by have := hb2.size; (try simp at this); omega
  have HB2 := Lib.hid (bT HB1.out hb2)
  clear HB1
  have HP2 := Lib.hid (Blk.belowAll Hp1.out hb2)
  clear Hp1
  have HR2 := Lib.hid (Blk.belowAll Hr1.out hb2)
  clear Hr1
  clear hb2
  have Hofd := Lib.hid hofd; clear hofd
  unfold denyV
  have LTD := Lib.hid (fun k hk => (DenyOwn.lt hownd k hk).1)
  have UPD := Lib.hid (fun k hk => (DenyOwn.lt hownd k hk).2)
  have HoD := Lib.hid hownd; clear hownd
  obtain ⟨cP2_0, cP2_1, cP2_2, cP2_3, cP2_4⟩ := gateCells (t := 40) (v := v) HP2.out
  have frP2_0 := (HP2.out).free 0
  have frP2_1 := (HP2.out).free 1
  have frP2_2 := (HP2.out).free 2
  have frP2_3 := (HP2.out).free 3
  have frP2_4 := (HP2.out).free 4
  go_wp2_with fail
  generalize hW : World.setCell _ _ _ = w3
  have ht3 : Touch (fun i => i = w.heap.size) w2 w3 := by rw [← hW]; exact (Touch.far (K := fun i => i = w.heap.size) (Touch.far (K := fun i => i = w.heap.size) (Touch.refl _ _) (p := ⟨w.heap.size, 2, none⟩) rfl _) (p := ⟨w.heap.size, 3, none⟩) rfl _)
  have hbx3 : Blk w3 (w.heap.size) 40 (GateR.cells (⟨v.val, v.nxt, ud, v.keptA, v.keptc, v.kept⟩ : GateR)) := by rw [← hW]; exact (Blk.put (Blk.put HP2.out 2 (.int .i64 ud.ver)) 3 (.slice ud.cardsA ud.cards.length ud.cardsc))
  clear hW
  clear cP2_0 cP2_1 cP2_2 cP2_3 cP2_4 frP2_0 frP2_1 frP2_2 frP2_3 frP2_4
  have hz3 : w2.heap.size ≤ w3.heap.size := by have := ht3.size; (try simp at this); omega
  have HB3 := Lib.hid (Touch.below HB2.out ht3 (fun i hi => by omega))
  clear HB2
  have HR3 := Lib.hid (Blk.touch HR2.out ht3 (show ¬ (w.heap.size + 1 = w.heap.size) by omega))
  clear HR2
  have HD3 := Lib.hid (DenyOwn.touch HoD.out ht3 (fun i hi e0 => by have a1 := LTD.out _ hi; have a2 := UPD.out _ hi; omega))
  clear HoD
  clear ht3 HP2
  have Hbx3 := Lib.hid hbx3; clear hbx3
  refine (cloneTaps_any v.keptA v.kept.length v.keptc v.kept _ (Hi.out.over HB3.out).2.1 rfl (Hi.out).2.2.2.2 hs.2).mono ?_
  rintro e w4 ⟨vqC, rfl, hownC, hb4⟩
  obtain ⟨AC, cC, rfl, _, _, _⟩ := OwnTaps.form hownC
  have hz4 : w3.heap.size ≤ w4.heap.size := by have := hb4.size; (try simp at this); omega
  have HB4 := Lib.hid (bT HB3.out hb4)
  clear HB3
  have HR4 := Lib.hid (Blk.belowAll HR3.out hb4)
  clear HR3
  have HD4 := Lib.hid (DenyOwn.below HD3.out hb4)
  clear HD3
  have HP4 := Lib.hid (Blk.belowAll Hbx3.out hb4)
  clear Hbx3
  clear hb4
  have hownC' : World.ownsRow w4 (w3.heap.size) 57 6 (.slice AC v.kept.length cC) v.kept.length (v.kept.flatMap tapCells) := hownC
  clear hownC
  have LTC := Lib.hid (fun k hk => (World.ownsRow.lt hownC' k hk).1)
  have UPC := Lib.hid (fun k hk => (World.ownsRow.lt hownC' k hk).2)
  have HoC := Lib.hid hownC'; clear hownC'
  obtain ⟨cP4_0, cP4_1, cP4_2, cP4_3, cP4_4⟩ := gateCells (t := 40) (v := (⟨v.val, v.nxt, ud, v.keptA, v.keptc, v.kept⟩ : GateR)) HP4.out
  obtain ⟨cR4_0, cR4_1, cR4_2, cR4_3, cR4_4⟩ := gateCells (t := 40) (v := (⟨0, 0, ⟨0, none, 0, []⟩, none, 0, []⟩ : GateR)) HR4.out
  have frP4_0 := (HP4.out).free 0
  have frP4_1 := (HP4.out).free 1
  have frP4_2 := (HP4.out).free 2
  have frP4_3 := (HP4.out).free 3
  have frP4_4 := (HP4.out).free 4
  have frR4_0 := (HR4.out).free 0
  have frR4_1 := (HR4.out).free 1
  have frR4_2 := (HR4.out).free 2
  have frR4_3 := (HR4.out).free 3
  have frR4_4 := (HR4.out).free 4
  go_wp2
  generalize hW : World.setCell _ _ _ = wf
  have htf : Touch (fun i => i = w.heap.size ∨ i = w.heap.size + 1) w4 wf := by rw [← hW]; exact (Touch.far (K := fun i => i = w.heap.size ∨ i = w.heap.size + 1) (Touch.far (K := fun i => i = w.heap.size ∨ i = w.heap.size + 1) (Touch.far (K := fun i => i = w.heap.size ∨ i = w.heap.size + 1) (Touch.far (K := fun i => i = w.heap.size ∨ i = w.heap.size + 1) (Touch.far (K := fun i => i = w.heap.size ∨ i = w.heap.size + 1) (Touch.far (K := fun i => i = w.heap.size ∨ i = w.heap.size + 1) (Touch.refl _ _) (p := ⟨w.heap.size, 4, none⟩) (.inl rfl) _) (p := ⟨w.heap.size + 1, 0, none⟩) (.inr rfl) _) (p := ⟨w.heap.size + 1, 1, none⟩) (.inr rfl) _) (p := ⟨w.heap.size + 1, 2, none⟩) (.inr rfl) _) (p := ⟨w.heap.size + 1, 3, none⟩) (.inr rfl) _) (p := ⟨w.heap.size + 1, 4, none⟩) (.inr rfl) _)
  have hRf : Blk wf (w.heap.size + 1) 40 (GateR.cells (⟨v.val, v.nxt, ud, AC, cC, v.kept⟩ : GateR)) := by rw [← hW]; exact (Blk.put (Blk.put (Blk.put (Blk.put (Blk.put (Blk.far HR4.out (p := ⟨w.heap.size, 4, none⟩) (show w.heap.size + 1 ≠ w.heap.size by omega) _) 0 _) 1 _) 2 _) 3 _) 4 _)
  clear hW
  clear cP4_0 cP4_1 cP4_2 cP4_3 cP4_4 cR4_0 cR4_1 cR4_2 cR4_3 cR4_4 frP4_0 frP4_1 frP4_2 frP4_3 frP4_4 frR4_0 frR4_1 frR4_2 frR4_3 frR4_4
  have HRf := Lib.hid hRf; clear hRf
  have hBf : Below w.heap.size w wf := Touch.below HB4.out htf (fun i hi => by rcases hi with hi | hi <;> omega)
  have hCf := ownTouch HoC.out htf (fun i hi e0 => by have a1 := LTC.out _ hi; rcases e0 with e0 | e0 <;> omega)
  have hDf := DenyOwn.touch HD4.out htf (fun i hi e0 => by have a1 := LTD.out _ hi; rcases e0 with e0 | e0 <;> omega)
  obtain ⟨z0, z1, z2, z3, z4⟩ := gateCells (t := 40) (v := (⟨v.val, v.nxt, ud, AC, cC, v.kept⟩ : GateR)) HRf.out
  refine bodyPost_ret (v := gateV (⟨v.val, v.nxt, ud, AC, cC, v.kept⟩ : GateR)) (by simp [results, Try.results69, go_sem, gateV, z0, z1, z2, z3, z4]) rfl ⟨⟨(⟨v.val, v.nxt, ud, AC, cC, v.kept⟩ : GateR), rfl, ?_, ⟨DenyOwn.base hDf (by omega), ownBase hCf (by omega), fun k h1 h2 => by have a2 := UPD.out k h1; have a3 := LTC.out k h2; omega⟩, hsd, hs.2⟩, hBf⟩
  show (⟨v.val, v.nxt, ud.of, v.kept⟩ : Fares.Gate) = ⟨v.val, v.nxt, v.deny.of, v.kept⟩
  rw [Hofd.out]
set_option maxRecDepth 100000 in
set_option maxHeartbeats 4000000 in
theorem copyGate_any (v : GateR) (w : World) (hi : GateIn w w.heap.size v) (hs : v.deny.cards.length ≤ 1000000 ∧ v.kept.length ≤ 1000000) :
    Calls Try.prog 78 #[gateV v] w fun e w' => (∃ u : GateR, e = .returned (gateV u) ∧ u.of = v.of ∧ GateOwn w' w.heap.size u ∧ u.deny.cards.length ≤ 1000000 ∧ u.kept.length ≤ 1000000) ∧ Below w.heap.size w w' := by
  obtain ⟨ti, hi0_, hz0_, hz1_, hz2_⟩ := info_parts info_tapC
  have HITap := Lib.hid hi0_; clear hi0_
  have HZ0Tap := Lib.hid hz0_; clear hz0_
  have HZ1Tap := Lib.hid hz1_; clear hz1_
  have HZ2Tap := Lib.hid hz2_; clear hz2_
  have Hi := Lib.hid hi; clear hi
  unfold gateV
  go_enter Try.func78, Try.ntmps78
  go_wp2_with fail
  generalize hW : World.alloc _ _ = w1
  have hp1 : Blk w1 w.heap.size 40 (GateR.cells v) := by rw [← hW]; exact (Blk.new w _ _).alloc _
  have hr1 : Blk w1 (w.heap.size + 1) 40 (GateR.cells (⟨0, 0, ⟨0, none, 0, []⟩, none, 0, []⟩ : GateR)) := by rw [← hW]; exact Blk.new' (by simp)
  have HB1 : Hid (Below w.heap.size w w1) := Lib.hid (by rw [← hW]; exact bA (bA (Below.refl _ _) _) _)
  have hz1 : w.heap.size + 1 < w1.heap.size := by rw [← hW]; simp
  clear hW
  have Hp1 := Lib.hid hp1; clear hp1
  have Hr1 := Lib.hid hr1; clear hr1
  obtain ⟨cR1_0, cR1_1, cR1_2, cR1_3, cR1_4⟩ := gateCells (t := 40) (v := (⟨0, 0, ⟨0, none, 0, []⟩, none, 0, []⟩ : GateR)) Hr1.out
  have frR1_0 := (Hr1.out).free 0
  have frR1_1 := (Hr1.out).free 1
  have frR1_2 := (Hr1.out).free 2
  have frR1_3 := (Hr1.out).free 3
  have frR1_4 := (Hr1.out).free 4
  refine wp_region_held_drew (S := fun w' => w'.cell? ⟨w.heap.size, 0, none⟩ = some (.int .i64 v.val) ∧ w'.cell? ⟨w.heap.size, 1, none⟩ = some (.int .i64 v.nxt) ∧ w'.cell? ⟨w.heap.size, 2, none⟩ = some (.int .i64 v.deny.ver) ∧ w'.cell? ⟨w.heap.size, 3, none⟩ = some (.slice v.deny.cardsA v.deny.cards.length v.deny.cardsc) ∧ w'.cell? ⟨w.heap.size, 4, none⟩ = some (.slice v.keptA v.kept.length v.keptc)) (by kernel_rfl) (by exact gateCells (t := 40) (v := v) Hp1.out) (fun hS => ?_)
  refine take_at 0 3 (v := ?_) rfl rfl (by kernel_rfl) (by kernel_rfl) (by kernel_rfl) (fun _ _ _ h => h) (by rfl) ?_ hS ?_
  rotate_left 1
  · (intro w hSw; (try dsimp only at hSw); (try go_split_ands); go_simp; try with_reducible rfl)
  simp only [List.setIfInBounds_toArray, List.set_cons_zero, List.set_cons_succ]
  refine take_at 1 4 (v := ?_) rfl rfl (by kernel_rfl) (by kernel_rfl) (by kernel_rfl) (fun _ _ _ h => h) (by rfl) ?_ hS ?_
  rotate_left 1
  · (intro w hSw; (try dsimp only at hSw); (try go_split_ands); go_simp; try with_reducible rfl)
  simp only [List.setIfInBounds_toArray, List.set_cons_zero, List.set_cons_succ]
  refine take_at 2 5 (v := ?_) rfl rfl (by kernel_rfl) (by kernel_rfl) (by kernel_rfl) (fun _ _ _ h => h) (by rfl) ?_ hS ?_
  rotate_left 1
  · (intro w hSw; (try dsimp only at hSw); (try go_split_ands); go_simp; try with_reducible rfl)
  simp only [List.setIfInBounds_toArray, List.set_cons_zero, List.set_cons_succ]
  refine take_at 3 6 (v := ?_) rfl rfl (by kernel_rfl) (by kernel_rfl) (by kernel_rfl) (fun _ _ _ h => h) (by rfl) ?_ hS ?_
  rotate_left 1
  · (intro w hSw; (try dsimp only at hSw); (try go_split_ands); go_simp; try with_reducible rfl)
  simp only [List.setIfInBounds_toArray, List.set_cons_zero, List.set_cons_succ]
  refine take_at 4 7 (v := ?_) rfl rfl (by kernel_rfl) (by kernel_rfl) (by kernel_rfl) (fun _ _ _ h => h) (by rfl) ?_ hS ?_
  rotate_left 1
  · (intro w hSw; (try dsimp only at hSw); (try go_split_ands); go_simp; try with_reducible rfl)
  simp only [List.setIfInBounds_toArray, List.set_cons_zero, List.set_cons_succ]
  refine take_at 5 8 (v := ?_) rfl rfl (by kernel_rfl) (by kernel_rfl) (by kernel_rfl) (fun _ _ _ h => h) (by rfl) ?_ hS ?_
  rotate_left 1
  · (intro w hSw; (try dsimp only at hSw); (try go_split_ands); go_simp; try with_reducible rfl)
  simp only [List.setIfInBounds_toArray, List.set_cons_zero, List.set_cons_succ]
  refine take_at 6 9 (v := ?_) rfl rfl (by kernel_rfl) (by kernel_rfl) (by kernel_rfl) (fun _ _ _ h => h) (by rfl) ?_ hS ?_
  rotate_left 1
  · (intro w hSw; (try dsimp only at hSw); (try go_split_ands); go_simp; try with_reducible rfl)
  simp only [List.setIfInBounds_toArray, List.set_cons_zero, List.set_cons_succ]
  refine take_at 7 10 (v := ?_) rfl rfl (by kernel_rfl) (by kernel_rfl) (by kernel_rfl) (fun _ _ _ h => h) (by rfl) ?_ hS ?_
  rotate_left 1
  · (intro w hSw; (try dsimp only at hSw); (try go_split_ands); go_simp; try with_reducible rfl)
  simp only [List.setIfInBounds_toArray, List.set_cons_zero, List.set_cons_succ]
  refine take_at 8 11 (v := ?_) rfl rfl (by kernel_rfl) (by kernel_rfl) (by kernel_rfl) (fun _ _ _ h => h) (by rfl) ?_ hS ?_
  rotate_left 1
  · (intro w hSw; (try dsimp only at hSw); (try go_split_ands); go_simp; try with_reducible rfl)
  simp only [List.setIfInBounds_toArray, List.set_cons_zero, List.set_cons_succ]
  refine take_at 9 12 (v := ?_) rfl rfl (by kernel_rfl) (by kernel_rfl) (by kernel_rfl) (fun _ _ _ h => h) (by rfl) ?_ hS ?_
  rotate_left 1
  · (intro w hSw; (try dsimp only at hSw); (try go_split_ands); go_simp; try with_reducible rfl)
  simp only [List.setIfInBounds_toArray, List.set_cons_zero, List.set_cons_succ]
  refine take_at 13 16 (v := ?_) rfl rfl (by kernel_rfl) (by kernel_rfl) (by kernel_rfl) (fun _ _ _ h => h) (by rfl) ?_ hS ?_
  rotate_left 1
  · (intro w hSw; (try dsimp only at hSw); (try go_split_ands); go_simp; try with_reducible rfl)
  simp only [List.setIfInBounds_toArray, List.set_cons_zero, List.set_cons_succ]
  refine take_at 14 17 (v := ?_) rfl rfl (by kernel_rfl) (by kernel_rfl) (by kernel_rfl) (fun _ _ _ h => h) (by rfl) ?_ hS ?_
  rotate_left 1
  · (intro w hSw; (try dsimp only at hSw); (try go_split_ands); go_simp; try with_reducible rfl)
  simp only [List.setIfInBounds_toArray, List.set_cons_zero, List.set_cons_succ]
  refine wpAnyH_ready (rs := [10, 12]) (by kernel_rfl) (by simp) ?_
  refine AllReadyH.cons rfl (fun K hK => ?_) (AllReadyH.cons rfl (fun K hK => ?_) (AllReadyH.nil))
  · go_simp
    go_wp2_with fail
    refine (copyInts_any v.deny.cardsA v.deny.cards.length v.deny.cardsc v.deny.cards _ (Hi.out.over (bD1 HB1.out)).1.1 rfl (Hi.out).1.2.2.2 hs.1).mono ?_
    rintro e w2 ⟨vqD, rfl, hownD, hb2⟩
    obtain ⟨AD, cD, rfl, _, _, _⟩ := OwnInts.form hownD
    clear cR1_0 cR1_1 cR1_2 cR1_3 cR1_4 frR1_0 frR1_1 frR1_2 frR1_3 frR1_4
    have hz2 : w1.heap.size ≤ w2.heap.size := by have := hb2.size; (try simp at this); omega
    have HB2 := Lib.hid (bT (bD1 HB1.out) hb2)
    clear HB1
    have HP2 := Lib.hid (Blk.belowAll (blkDrew Hp1.out) hb2)
    clear Hp1
    have HR2 := Lib.hid (Blk.belowAll (blkDrew Hr1.out) hb2)
    clear Hr1
    clear hb2
    have hownD' : World.ownsRow w2 (w1.heap.size) 3 1 (.slice AD v.deny.cards.length cD) v.deny.cards.length (v.deny.cards.flatMap intCells) := hownD
    clear hownD
    have LTD := Lib.hid (fun k hk => (World.ownsRow.lt hownD' k hk).1)
    have UPD := Lib.hid (fun k hk => (World.ownsRow.lt hownD' k hk).2)
    have HoD := Lib.hid hownD'; clear hownD'
    obtain ⟨cR2_0, cR2_1, cR2_2, cR2_3, cR2_4⟩ := gateCells (t := 40) (v := (⟨0, 0, ⟨0, none, 0, []⟩, none, 0, []⟩ : GateR)) HR2.out
    have frR2_0 := (HR2.out).free 0
    have frR2_1 := (HR2.out).free 1
    have frR2_2 := (HR2.out).free 2
    have frR2_3 := (HR2.out).free 3
    have frR2_4 := (HR2.out).free 4
    go_simp
    refine hK.out _ _ (by exact gateCells (t := 40) (v := v) HP2.out) (fun hS => ?_)
    clear hK K
    refine take_at 11 14 (v := ?_) rfl rfl (by kernel_rfl) (by kernel_rfl) (by kernel_rfl) (fun _ _ _ h => h) (by rfl) ?_ hS ?_
    rotate_left 1
    · (intro w hSw; (try dsimp only at hSw); (try go_split_ands); go_simp; try with_reducible rfl)
    simp only [List.setIfInBounds_toArray, List.set_cons_zero, List.set_cons_succ]
    refine wpAnyH_ready (rs := [12]) (by kernel_rfl) (by simp) ?_
    refine AllReadyH.cons rfl (fun K hK => ?_) (AllReadyH.nil)
    go_simp
    generalize hW : World.alloc _ _ = w3
    have hnew : World.ownsRow w3 w2.heap.size 57 6 (.slice (some ⟨w2.heap.size, 0, none⟩) 0 0) 0 [] := by rw [← hW]; exact World.ownsRow_lit (base := w2.heap.size) (e := 57) (size := 6) w2 #[] 0 (Nat.le_refl _) (by unfold maxLen; omega) rfl
    have hb3 : Below w2.heap.size w2 w3 := by rw [← hW]; exact bA (Below.refl _ _) _
    have hy3 : w2.heap.size < w3.heap.size := by rw [← hW]; simp
    clear hW
    clear cR2_0 cR2_1 cR2_2 cR2_3 cR2_4 frR2_0 frR2_1 frR2_2 frR2_3 frR2_4
    have hz3 : w2.heap.size ≤ w3.heap.size := by have := hb3.size; (try simp at this); omega
    have HB3 := Lib.hid (bT HB2.out hb3)
    clear HB2
    have HP3 := Lib.hid (Blk.belowAll HP2.out hb3)
    clear HP2
    have HR3 := Lib.hid (Blk.belowAll HR2.out hb3)
    clear HR2
    have HD3 := Lib.hid (own_below HoD.out hb3)
    clear HoD
    clear hb3
    have LTN := Lib.hid (fun k hk => (World.ownsRow.lt hnew k hk).1)
    have UPN := Lib.hid (fun k hk => (World.ownsRow.lt hnew k hk).2)
    have HoN := Lib.hid hnew; clear hnew
    obtain ⟨cR3_0, cR3_1, cR3_2, cR3_3, cR3_4⟩ := gateCells (t := 40) (v := (⟨0, 0, ⟨0, none, 0, []⟩, none, 0, []⟩ : GateR)) HR3.out
    have frR3_0 := (HR3.out).free 0
    have frR3_1 := (HR3.out).free 1
    have frR3_2 := (HR3.out).free 2
    have frR3_3 := (HR3.out).free 3
    have frR3_4 := (HR3.out).free 4
    refine hK.out _ _ (by exact gateCells (t := 40) (v := v) HP3.out) (fun hS => ?_)
    clear hK K
    refine wpAnyH_ready (rs := [15]) (by kernel_rfl) (by simp) ?_
    refine AllReadyH.cons rfl (fun K hK => ?_) (AllReadyH.nil)
    refine step_append_src rfl (.tmp 15) (.tmp 17) _ rfl (w2.heap.size) 57 ti _ 6 48 Try.underlying38 HITap.out HZ0Tap.out HZ1Tap.out HZ2Tap.out rfl (by omega) _ 0 _ rfl HoN.out (v.keptA) (v.kept.length) (v.keptc) _ (v.kept.flatMap tapCells) rfl (Hi.out).2.2.2.2 (by rw [flat_length tapCells 6 (fun _ => rfl)]) (Hi.out.over HB3.out).2.1 (one_flat tapCells (by intro x u hu; simp only [tapCells, List.mem_cons, List.not_mem_nil, or_false] at hu; rcases hu with rfl | rfl | rfl | rfl | rfl | rfl <;> rfl) _) (by have := hs.2; unfold maxLen; omega) (by have := hs.2; omega) (by (try simp); omega) ?_
    intro vk w4 hownk hgrow4 hat4
    clear cR3_0 cR3_1 cR3_2 cR3_3 cR3_4 frR3_0 frR3_1 frR3_2 frR3_3 frR3_4
    have hz4 : w3.heap.size ≤ w4.heap.size := by have := hgrow4.size; (try simp at this); omega
    have HB4 := Lib.hid (Touch.below HB3.out (Touch.of_grown hgrow4) (fun i hi => by have a1 := LTN.out _ hi; omega))
    clear HB3
    have HP4 := Lib.hid (Blk.grown HP3.out hgrow4 (by intro e; have a1 := LTN.out _ e.symm; have a2 := UPN.out _ e.symm; omega))
    clear HP3
    have HR4 := Lib.hid (Blk.grown HR3.out hgrow4 (by intro e; have a1 := LTN.out _ e.symm; have a2 := UPN.out _ e.symm; omega))
    clear HR3
    have HD4 := Lib.hid (ownTouch HD3.out (Touch.of_grown hgrow4) (fun i hi e0 => by have a1 := LTD.out _ hi; have a2 := UPD.out _ hi; have b1 := LTN.out _ e0; have b2 := UPN.out _ e0; omega))
    clear HD3
    have hownk' : OwnTaps w4 (w2.heap.size) vk v.kept := by unfold OwnTaps; have h := hownk; simpa using h
    clear hgrow4 HoN hownk
    obtain ⟨AK, cK, rfl, _, _, _⟩ := OwnTaps.form hownk'
    have HatK := Lib.hid hat4; clear hat4
    have hownk2 : World.ownsRow w4 (w2.heap.size) 57 6 (.slice AK v.kept.length cK) v.kept.length (v.kept.flatMap tapCells) := hownk'
    clear hownk'
    have LTK := Lib.hid (fun k hk => (World.ownsRow.lt hownk2 k hk).1)
    have UPK := Lib.hid (fun k hk => (World.ownsRow.lt hownk2 k hk).2)
    have HoK := Lib.hid hownk2; clear hownk2
    obtain ⟨cR4_0, cR4_1, cR4_2, cR4_3, cR4_4⟩ := gateCells (t := 40) (v := (⟨0, 0, ⟨0, none, 0, []⟩, none, 0, []⟩ : GateR)) HR4.out
    have frR4_0 := (HR4.out).free 0
    have frR4_1 := (HR4.out).free 1
    have frR4_2 := (HR4.out).free 2
    have frR4_3 := (HR4.out).free 3
    have frR4_4 := (HR4.out).free 4
    go_simp
    refine hK.out _ _ (by exact gateCells (t := 40) (v := v) HP4.out) (fun hS => ?_)
    clear hK K
    refine take_at 16 19 (v := ?_) rfl rfl (by kernel_rfl) (by kernel_rfl) (by kernel_rfl) (fun _ _ _ h => h) (by rfl) ?_ hS ?_
    rotate_left 1
    · (intro w hSw; (try dsimp only at hSw); (try go_split_ands); go_simp; try with_reducible rfl)
    simp only [List.setIfInBounds_toArray, List.set_cons_zero, List.set_cons_succ]
    refine wpAnyH_ready (rs := [17]) (by kernel_rfl) (by simp) ?_
    refine AllReadyH.cons rfl (fun K hK => ?_) (AllReadyH.nil)
    go_simp
    generalize hW : World.setCell _ _ _ = w5
    have ht5 : Touch (fun i => i = w.heap.size + 1) w4 w5 := by rw [← hW]; exact (Touch.far (K := fun i => i = w.heap.size + 1) (Touch.far (K := fun i => i = w.heap.size + 1) (Touch.far (K := fun i => i = w.heap.size + 1) (Touch.far (K := fun i => i = w.heap.size + 1) (Touch.far (K := fun i => i = w.heap.size + 1) (Touch.refl _ _) (p := ⟨w.heap.size + 1, 0, none⟩) rfl _) (p := ⟨w.heap.size + 1, 1, none⟩) rfl _) (p := ⟨w.heap.size + 1, 2, none⟩) rfl _) (p := ⟨w.heap.size + 1, 3, none⟩) rfl _) (p := ⟨w.heap.size + 1, 4, none⟩) rfl _)
    have hbx5 : Blk w5 (w.heap.size + 1) 40 (GateR.cells (⟨v.val, v.nxt, ⟨v.deny.ver, AD, cD, v.deny.cards⟩, AK, cK, v.kept⟩ : GateR)) := by rw [← hW]; exact (Blk.put (Blk.put (Blk.put (Blk.put (Blk.put HR4.out 0 (.int .i64 (⟨v.val, v.nxt, ⟨v.deny.ver, AD, cD, v.deny.cards⟩, AK, cK, v.kept⟩ : GateR).val)) 1 (.int .i64 (⟨v.val, v.nxt, ⟨v.deny.ver, AD, cD, v.deny.cards⟩, AK, cK, v.kept⟩ : GateR).nxt)) 2 (.int .i64 (⟨v.val, v.nxt, ⟨v.deny.ver, AD, cD, v.deny.cards⟩, AK, cK, v.kept⟩ : GateR).deny.ver)) 3 (.slice (⟨v.val, v.nxt, ⟨v.deny.ver, AD, cD, v.deny.cards⟩, AK, cK, v.kept⟩ : GateR).deny.cardsA (⟨v.val, v.nxt, ⟨v.deny.ver, AD, cD, v.deny.cards⟩, AK, cK, v.kept⟩ : GateR).deny.cards.length (⟨v.val, v.nxt, ⟨v.deny.ver, AD, cD, v.deny.cards⟩, AK, cK, v.kept⟩ : GateR).deny.cardsc)) 4 (.slice (⟨v.val, v.nxt, ⟨v.deny.ver, AD, cD, v.deny.cards⟩, AK, cK, v.kept⟩ : GateR).keptA (⟨v.val, v.nxt, ⟨v.deny.ver, AD, cD, v.deny.cards⟩, AK, cK, v.kept⟩ : GateR).kept.length (⟨v.val, v.nxt, ⟨v.deny.ver, AD, cD, v.deny.cards⟩, AK, cK, v.kept⟩ : GateR).keptc))
    clear hW
    clear cR4_0 cR4_1 cR4_2 cR4_3 cR4_4 frR4_0 frR4_1 frR4_2 frR4_3 frR4_4
    have hz5 : w4.heap.size ≤ w5.heap.size := by have := ht5.size; (try simp at this); omega
    have HB5 := Lib.hid (Touch.below HB4.out ht5 (fun i hi => by omega))
    clear HB4
    have HP5 := Lib.hid (Blk.touch HP4.out ht5 (show ¬ (w.heap.size = w.heap.size + 1) by omega))
    clear HP4
    have HD5 := Lib.hid (ownTouch HD4.out ht5 (fun i hi e0 => by have a1 := LTD.out _ hi; have a2 := UPD.out _ hi; omega))
    clear HD4
    have HK5 := Lib.hid (ownTouch HoK.out ht5 (fun i hi e0 => by have a1 := LTK.out _ hi; have a2 := UPK.out _ hi; omega))
    clear HoK
    clear ht5 HR4
    have Hbx5 := Lib.hid hbx5; clear hbx5
    refine hK.out _ _ (by exact gateCells (t := 40) (v := v) HP5.out) (fun hS => ?_)
    clear hK K
    refine wpAnyH_done (by kernel_rfl) ?_ _
    clear hS
    have hapart : ∀ k, (.slice AD v.deny.cards.length cD : Value).ownBlock = some k → (.slice AK v.kept.length cK : Value).ownBlock = some k → False := fun k h1 h2 => by have a1 := LTD.out k h1; have a2 := UPD.out k h1; have a3 := LTK.out k h2; have a4 := UPK.out k h2; rcases HatK.out with e | e <;> (have e2 := h2.symm.trans e; (try simp only [Value.ownBlock] at e2); injection e2 with e2; (try simp only [drewSize] at e2); (try dsimp only at e2); omega)
    go_wp2
    obtain ⟨z0, z1, z2, z3, z4⟩ := gateCells (t := 40) (v := (⟨v.val, v.nxt, ⟨v.deny.ver, AD, cD, v.deny.cards⟩, AK, cK, v.kept⟩ : GateR)) Hbx5.out
    exact bodyPost_ret (v := gateV (⟨v.val, v.nxt, ⟨v.deny.ver, AD, cD, v.deny.cards⟩, AK, cK, v.kept⟩ : GateR)) (by simp [results, Try.results78, go_sem, gateV, z0, z1, z2, z3, z4]) rfl ⟨⟨(⟨v.val, v.nxt, ⟨v.deny.ver, AD, cD, v.deny.cards⟩, AK, cK, v.kept⟩ : GateR), rfl, rfl, ⟨⟨ownBase HD5.out (by omega), trivial⟩, ownBase HK5.out (by omega), hapart⟩, hs⟩, HB5.out⟩
  · go_simp
    generalize hW : World.alloc _ _ = w2
    have hnew : World.ownsRow w2 w1.heap.size 57 6 (.slice (some ⟨w1.heap.size, 0, none⟩) 0 0) 0 [] := by rw [← hW]; exact World.ownsRow_lit (base := w1.heap.size) (e := 57) (size := 6) w1 #[] 0 (Nat.le_refl _) (by unfold maxLen; omega) rfl
    have hb2 : Below w1.heap.size w1 w2 := by rw [← hW]; exact bA (Below.refl _ _) _
    have hy2 : w1.heap.size < w2.heap.size := by rw [← hW]; simp
    clear hW
    clear cR1_0 cR1_1 cR1_2 cR1_3 cR1_4 frR1_0 frR1_1 frR1_2 frR1_3 frR1_4
    have hz2 : w1.heap.size ≤ w2.heap.size := by have := hb2.size; (try simp at this); omega
    have HB2 := Lib.hid (bT HB1.out hb2)
    clear HB1
    have HP2 := Lib.hid (Blk.belowAll Hp1.out hb2)
    clear Hp1
    have HR2 := Lib.hid (Blk.belowAll Hr1.out hb2)
    clear Hr1
    clear hb2
    have LTN := Lib.hid (fun k hk => (World.ownsRow.lt hnew k hk).1)
    have UPN := Lib.hid (fun k hk => (World.ownsRow.lt hnew k hk).2)
    have HoN := Lib.hid hnew; clear hnew
    obtain ⟨cR2_0, cR2_1, cR2_2, cR2_3, cR2_4⟩ := gateCells (t := 40) (v := (⟨0, 0, ⟨0, none, 0, []⟩, none, 0, []⟩ : GateR)) (blkDrew HR2.out)
    have frR2_0 := ((blkDrew HR2.out)).free 0
    have frR2_1 := ((blkDrew HR2.out)).free 1
    have frR2_2 := ((blkDrew HR2.out)).free 2
    have frR2_3 := ((blkDrew HR2.out)).free 3
    have frR2_4 := ((blkDrew HR2.out)).free 4
    refine hK.out _ _ (by exact gateCells (t := 40) (v := v) (blkDrew HP2.out)) (fun hS => ?_)
    clear hK K
    refine wpAnyH_ready (rs := [10]) (by kernel_rfl) (by simp) ?_
    refine AllReadyH.cons rfl (fun K hK => ?_) (AllReadyH.nil)
    go_simp
    go_wp2_with fail
    refine (copyInts_any v.deny.cardsA v.deny.cards.length v.deny.cardsc v.deny.cards _ (Hi.out.over (bD1 HB2.out)).1.1 rfl (Hi.out).1.2.2.2 hs.1).mono ?_
    rintro e w3 ⟨vqD, rfl, hownD, hb3⟩
    obtain ⟨AD, cD, rfl, _, _, _⟩ := OwnInts.form hownD
    clear cR2_0 cR2_1 cR2_2 cR2_3 cR2_4 frR2_0 frR2_1 frR2_2 frR2_3 frR2_4
    have hz3 : w2.heap.size ≤ w3.heap.size := by have := hb3.size; (try simp at this); omega
    have HB3 := Lib.hid (bT (bD1 HB2.out) hb3)
    clear HB2
    have HP3 := Lib.hid (Blk.belowAll (blkDrew HP2.out) hb3)
    clear HP2
    have HR3 := Lib.hid (Blk.belowAll (blkDrew HR2.out) hb3)
    clear HR2
    have HN3 := Lib.hid (own_below (ownDrew HoN.out) hb3)
    clear HoN
    clear hb3
    have hownD' : World.ownsRow w3 (w2.heap.size) 3 1 (.slice AD v.deny.cards.length cD) v.deny.cards.length (v.deny.cards.flatMap intCells) := hownD
    clear hownD
    have LTD := Lib.hid (fun k hk => (World.ownsRow.lt hownD' k hk).1)
    have UPD := Lib.hid (fun k hk => (World.ownsRow.lt hownD' k hk).2)
    have HoD := Lib.hid hownD'; clear hownD'
    obtain ⟨cR3_0, cR3_1, cR3_2, cR3_3, cR3_4⟩ := gateCells (t := 40) (v := (⟨0, 0, ⟨0, none, 0, []⟩, none, 0, []⟩ : GateR)) HR3.out
    have frR3_0 := (HR3.out).free 0
    have frR3_1 := (HR3.out).free 1
    have frR3_2 := (HR3.out).free 2
    have frR3_3 := (HR3.out).free 3
    have frR3_4 := (HR3.out).free 4
    go_simp
    refine hK.out _ _ (by exact gateCells (t := 40) (v := v) HP3.out) (fun hS => ?_)
    clear hK K
    refine take_at 11 14 (v := ?_) rfl rfl (by kernel_rfl) (by kernel_rfl) (by kernel_rfl) (fun _ _ _ h => h) (by rfl) ?_ hS ?_
    rotate_left 1
    · (intro w hSw; (try dsimp only at hSw); (try go_split_ands); go_simp; try with_reducible rfl)
    simp only [List.setIfInBounds_toArray, List.set_cons_zero, List.set_cons_succ]
    refine wpAnyH_ready (rs := [15]) (by kernel_rfl) (by simp) ?_
    refine AllReadyH.cons rfl (fun K hK => ?_) (AllReadyH.nil)
    refine step_append_src rfl (.tmp 15) (.tmp 17) _ rfl (w1.heap.size) 57 ti _ 6 48 Try.underlying38 HITap.out HZ0Tap.out HZ1Tap.out HZ2Tap.out rfl (by omega) _ 0 _ rfl HN3.out (v.keptA) (v.kept.length) (v.keptc) _ (v.kept.flatMap tapCells) rfl (Hi.out).2.2.2.2 (by rw [flat_length tapCells 6 (fun _ => rfl)]) (Hi.out.over HB3.out).2.1 (one_flat tapCells (by intro x u hu; simp only [tapCells, List.mem_cons, List.not_mem_nil, or_false] at hu; rcases hu with rfl | rfl | rfl | rfl | rfl | rfl <;> rfl) _) (by have := hs.2; unfold maxLen; omega) (by have := hs.2; omega) (by (try simp); omega) ?_
    intro vk w4 hownk hgrow4 hat4
    clear cR3_0 cR3_1 cR3_2 cR3_3 cR3_4 frR3_0 frR3_1 frR3_2 frR3_3 frR3_4
    have hz4 : w3.heap.size ≤ w4.heap.size := by have := hgrow4.size; (try simp at this); omega
    have HB4 := Lib.hid (Touch.below HB3.out (Touch.of_grown hgrow4) (fun i hi => by have a1 := LTN.out _ hi; omega))
    clear HB3
    have HP4 := Lib.hid (Blk.grown HP3.out hgrow4 (by intro e; have a1 := LTN.out _ e.symm; have a2 := UPN.out _ e.symm; omega))
    clear HP3
    have HR4 := Lib.hid (Blk.grown HR3.out hgrow4 (by intro e; have a1 := LTN.out _ e.symm; have a2 := UPN.out _ e.symm; omega))
    clear HR3
    have HD4 := Lib.hid (ownTouch HoD.out (Touch.of_grown hgrow4) (fun i hi e0 => by have a1 := LTD.out _ hi; have a2 := UPD.out _ hi; have b1 := LTN.out _ e0; have b2 := UPN.out _ e0; omega))
    clear HoD
    have hownk' : OwnTaps w4 (w1.heap.size) vk v.kept := by unfold OwnTaps; have h := hownk; simpa using h
    clear hgrow4 HN3 hownk
    obtain ⟨AK, cK, rfl, _, _, _⟩ := OwnTaps.form hownk'
    have HatK := Lib.hid hat4; clear hat4
    have hownk2 : World.ownsRow w4 (w1.heap.size) 57 6 (.slice AK v.kept.length cK) v.kept.length (v.kept.flatMap tapCells) := hownk'
    clear hownk'
    have LTK := Lib.hid (fun k hk => (World.ownsRow.lt hownk2 k hk).1)
    have UPK := Lib.hid (fun k hk => (World.ownsRow.lt hownk2 k hk).2)
    have HoK := Lib.hid hownk2; clear hownk2
    obtain ⟨cR4_0, cR4_1, cR4_2, cR4_3, cR4_4⟩ := gateCells (t := 40) (v := (⟨0, 0, ⟨0, none, 0, []⟩, none, 0, []⟩ : GateR)) HR4.out
    have frR4_0 := (HR4.out).free 0
    have frR4_1 := (HR4.out).free 1
    have frR4_2 := (HR4.out).free 2
    have frR4_3 := (HR4.out).free 3
    have frR4_4 := (HR4.out).free 4
    go_simp
    refine hK.out _ _ (by exact gateCells (t := 40) (v := v) HP4.out) (fun hS => ?_)
    clear hK K
    refine take_at 16 19 (v := ?_) rfl rfl (by kernel_rfl) (by kernel_rfl) (by kernel_rfl) (fun _ _ _ h => h) (by rfl) ?_ hS ?_
    rotate_left 1
    · (intro w hSw; (try dsimp only at hSw); (try go_split_ands); go_simp; try with_reducible rfl)
    simp only [List.setIfInBounds_toArray, List.set_cons_zero, List.set_cons_succ]
    refine wpAnyH_ready (rs := [17]) (by kernel_rfl) (by simp) ?_
    refine AllReadyH.cons rfl (fun K hK => ?_) (AllReadyH.nil)
    go_simp
    generalize hW : World.setCell _ _ _ = w5
    have ht5 : Touch (fun i => i = w.heap.size + 1) w4 w5 := by rw [← hW]; exact (Touch.far (K := fun i => i = w.heap.size + 1) (Touch.far (K := fun i => i = w.heap.size + 1) (Touch.far (K := fun i => i = w.heap.size + 1) (Touch.far (K := fun i => i = w.heap.size + 1) (Touch.far (K := fun i => i = w.heap.size + 1) (Touch.refl _ _) (p := ⟨w.heap.size + 1, 0, none⟩) rfl _) (p := ⟨w.heap.size + 1, 1, none⟩) rfl _) (p := ⟨w.heap.size + 1, 2, none⟩) rfl _) (p := ⟨w.heap.size + 1, 3, none⟩) rfl _) (p := ⟨w.heap.size + 1, 4, none⟩) rfl _)
    have hbx5 : Blk w5 (w.heap.size + 1) 40 (GateR.cells (⟨v.val, v.nxt, ⟨v.deny.ver, AD, cD, v.deny.cards⟩, AK, cK, v.kept⟩ : GateR)) := by rw [← hW]; exact (Blk.put (Blk.put (Blk.put (Blk.put (Blk.put HR4.out 0 (.int .i64 (⟨v.val, v.nxt, ⟨v.deny.ver, AD, cD, v.deny.cards⟩, AK, cK, v.kept⟩ : GateR).val)) 1 (.int .i64 (⟨v.val, v.nxt, ⟨v.deny.ver, AD, cD, v.deny.cards⟩, AK, cK, v.kept⟩ : GateR).nxt)) 2 (.int .i64 (⟨v.val, v.nxt, ⟨v.deny.ver, AD, cD, v.deny.cards⟩, AK, cK, v.kept⟩ : GateR).deny.ver)) 3 (.slice (⟨v.val, v.nxt, ⟨v.deny.ver, AD, cD, v.deny.cards⟩, AK, cK, v.kept⟩ : GateR).deny.cardsA (⟨v.val, v.nxt, ⟨v.deny.ver, AD, cD, v.deny.cards⟩, AK, cK, v.kept⟩ : GateR).deny.cards.length (⟨v.val, v.nxt, ⟨v.deny.ver, AD, cD, v.deny.cards⟩, AK, cK, v.kept⟩ : GateR).deny.cardsc)) 4 (.slice (⟨v.val, v.nxt, ⟨v.deny.ver, AD, cD, v.deny.cards⟩, AK, cK, v.kept⟩ : GateR).keptA (⟨v.val, v.nxt, ⟨v.deny.ver, AD, cD, v.deny.cards⟩, AK, cK, v.kept⟩ : GateR).kept.length (⟨v.val, v.nxt, ⟨v.deny.ver, AD, cD, v.deny.cards⟩, AK, cK, v.kept⟩ : GateR).keptc))
    clear hW
    clear cR4_0 cR4_1 cR4_2 cR4_3 cR4_4 frR4_0 frR4_1 frR4_2 frR4_3 frR4_4
    have hz5 : w4.heap.size ≤ w5.heap.size := by have := ht5.size; (try simp at this); omega
    have HB5 := Lib.hid (Touch.below HB4.out ht5 (fun i hi => by omega))
    clear HB4
    have HP5 := Lib.hid (Blk.touch HP4.out ht5 (show ¬ (w.heap.size = w.heap.size + 1) by omega))
    clear HP4
    have HD5 := Lib.hid (ownTouch HD4.out ht5 (fun i hi e0 => by have a1 := LTD.out _ hi; have a2 := UPD.out _ hi; omega))
    clear HD4
    have HK5 := Lib.hid (ownTouch HoK.out ht5 (fun i hi e0 => by have a1 := LTK.out _ hi; have a2 := UPK.out _ hi; omega))
    clear HoK
    clear ht5 HR4
    have Hbx5 := Lib.hid hbx5; clear hbx5
    refine hK.out _ _ (by exact gateCells (t := 40) (v := v) HP5.out) (fun hS => ?_)
    clear hK K
    refine wpAnyH_done (by kernel_rfl) ?_ _
    clear hS
    have hapart : ∀ k, (.slice AD v.deny.cards.length cD : Value).ownBlock = some k → (.slice AK v.kept.length cK : Value).ownBlock = some k → False := fun k h1 h2 => by have a1 := LTD.out k h1; have a2 := UPD.out k h1; have a3 := LTK.out k h2; have a4 := UPK.out k h2; rcases HatK.out with e | e <;> (have e2 := h2.symm.trans e; (try simp only [Value.ownBlock] at e2); injection e2 with e2; (try simp only [drewSize] at e2); (try dsimp only at e2); omega)
    go_wp2
    obtain ⟨z0, z1, z2, z3, z4⟩ := gateCells (t := 40) (v := (⟨v.val, v.nxt, ⟨v.deny.ver, AD, cD, v.deny.cards⟩, AK, cK, v.kept⟩ : GateR)) Hbx5.out
    exact bodyPost_ret (v := gateV (⟨v.val, v.nxt, ⟨v.deny.ver, AD, cD, v.deny.cards⟩, AK, cK, v.kept⟩ : GateR)) (by simp [results, Try.results78, go_sem, gateV, z0, z1, z2, z3, z4]) rfl ⟨⟨(⟨v.val, v.nxt, ⟨v.deny.ver, AD, cD, v.deny.cards⟩, AK, cK, v.kept⟩ : GateR), rfl, rfl, ⟨⟨ownBase HD5.out (by omega), trivial⟩, ownBase HK5.out (by omega), hapart⟩, hs⟩, HB5.out⟩
end Go.Proofs.Ytpijjlggmibfnaa
