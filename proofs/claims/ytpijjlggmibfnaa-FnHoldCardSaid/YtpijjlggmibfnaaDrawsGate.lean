/-
  The arguments of the laws on validators, drawn.
-/
import Derived.Test.YtpijjlggmibfnaaDrawGate
set_option linter.unusedSimpArgs false
namespace Go.Proofs.Ytpijjlggmibfnaa
open Go.RowKit Go.Deep
set_option linter.unusedVariables false

theorem GateIn.touch {w w' : World} {u : GateR} {K : Nat → Prop} {b : Nat} (h : GateIn w w.heap.size u) (k : Touch K w w') (h1 : ∀ a, u.deny.cardsA = some a → b ≤ a.block) (h2 : ∀ a, u.keptA = some a → b ≤ a.block) (hk : ∀ i, K i → i < b) : GateIn w' w'.heap.size u :=
  ⟨DenyIn.touch h.1 k h1 hk, reads_touch h.2.1 k h2 hk, h.2.2⟩
def DrawsTake (w : World) (e : Ending) (w' : World) : Prop :=
  ∃ (u : GateR) (d : DenyR), e = .returned (.tuple #[gateV u, denyV d]) ∧ GateIn w' w'.heap.size u ∧ DenyIn w' w'.heap.size d ∧ u.deny.cards.length ≤ 14 ∧ u.kept.length ≤ 11 ∧ d.cards.length ≤ 14 ∧ Below w.heap.size w w'
set_option maxRecDepth 100000 in
set_option maxHeartbeats 4000000 in
theorem drawTakeDeny_any (A : Option Addr) (n c : Nat) (w : World) (h : Bytes w w.heap.size A n c) : Calls Try.prog 52 #[.slice A n c] w (DrawsTake w) := by
  go_enter Try.func52, Try.ntmps52
  go_wp2_with fail
  generalize hW : World.alloc _ _ = W0
  have h0 : Bytes W0 W0.heap.size A n c := by rw [← hW]; exact Bytes.alloc (Bytes.alloc h _) _
  have hR0 : Blk W0 w.heap.size 40 (GateR.cells (⟨0, 0, ⟨0, none, 0, []⟩, none, 0, []⟩ : GateR)) := by rw [← hW]; exact (Blk.new w _ _).alloc _
  have hQ0 : Blk W0 (w.heap.size + 1) 30 (DenyR.cells (⟨0, none, 0, []⟩ : DenyR)) := by rw [← hW]; exact Blk.new' (by simp)
  have hc0 : Below w.heap.size w W0 := by rw [← hW]; exact bA (bA (Below.refl _ _) _) _
  have hs0 : W0.heap.size = w.heap.size + 1 + 1 := by rw [← hW]; simp
  clear hW
  refine (newReader_any A n c W0 h0).mono ?_
  rintro e w1 ⟨rfl, hr1, hb1, hz1'⟩
  have hR1 := Lib.hid (hR0.belowAll hb1)
  have hQ1 := Lib.hid (hQ0.belowAll hb1)
  have HB1 := Lib.hid (bT hc0 hb1)
  have hz1 : w.heap.size + 1 + 1 ≤ w1.heap.size := by have := hb1.size; omega
  clear hR0 hQ0 hb1 h0 hc0
  rw [hs0] at hr1
  rw [hs0]
  clear hs0 hz1'
  have Hr1 := Lib.hid hr1; clear hr1
  have hgl1 : w.heap.size + 1 + 1 < w1.heap.size := Hr1.out.lt
  go_wp2_with fail
  refine (anyGate_any (w.heap.size + 1 + 1) (0) _ Hr1.out (by omega)).mono ?_
  rintro e w2 ⟨u, q, rfl, hin, hab1, hab2, hl1, hl2, hq, hr2, hg2⟩
  have hz2 : w1.heap.size ≤ w2.heap.size := by have := hg2.size; (try simp at this); omega
  have HR2 := Lib.hid (Blk.grown hR1.out hg2 (by intro e; injection e with e; omega))
  clear hR1
  have HQ2 := Lib.hid (Blk.grown hQ1.out hg2 (by intro e; injection e with e; omega))
  clear hQ1
  have HB2 := Lib.hid (Touch.below HB1.out (Touch.of_grown hg2) (fun i hi => by injection hi with hi; omega))
  clear HB1
  clear hg2
  clear Hr1
  have Hrd2 := Lib.hid hr2; clear hr2
  have hgl2 : (w.heap.size + 1 + 1) < w2.heap.size := (Hrd2.out).lt
  have Hin := Lib.hid hin; clear hin
  have Hab1 := Lib.hid hab1; clear hab1
  have Hab2 := Lib.hid hab2; clear hab2
  (try unfold gateV)
  go_wp2
  generalize hW : World.alloc _ _ = w3
  have hbx3 : Blk w3 w2.heap.size 40 (GateR.cells u) := by rw [← hW]; exact Blk.new w2 _ _
  have hb3 : Below w2.heap.size w2 w3 := by rw [← hW]; exact bA (Below.refl _ _) _
  have hy3 : w2.heap.size < w3.heap.size := by rw [← hW]; simp
  clear hW
  have hz3 : w2.heap.size ≤ w3.heap.size := by have := hb3.size; (try simp at this); omega
  have Hrd3 := Lib.hid (Rd.belowAll Hrd2.out hb3)
  clear Hrd2
  have HR3 := Lib.hid (Blk.belowAll HR2.out hb3)
  clear HR2
  have HQ3 := Lib.hid (Blk.belowAll HQ2.out hb3)
  clear HQ2
  have HB3 := Lib.hid (bT HB2.out hb3)
  clear HB2
  have Hin3 := Lib.hid (GateIn.over Hin.out hb3)
  clear Hin
  clear hb3
  have Hbx3 := Lib.hid hbx3; clear hbx3
  obtain ⟨cR3_0, cR3_1, cR3_2, cR3_3, cR3_4⟩ := gateCells (t := 40) (v := (⟨0, 0, ⟨0, none, 0, []⟩, none, 0, []⟩ : GateR)) HR3.out
  obtain ⟨cQ3_0, cQ3_1⟩ := denyCells (t := 30) (v := (⟨0, none, 0, []⟩ : DenyR)) HQ3.out
  have frR3_0 := (HR3.out).free 0
  have frR3_1 := (HR3.out).free 1
  have frR3_2 := (HR3.out).free 2
  have frR3_3 := (HR3.out).free 3
  have frR3_4 := (HR3.out).free 4
  have frQ3_0 := (HQ3.out).free 0
  have frQ3_1 := (HQ3.out).free 1
  refine wp_region_held_drew (S := fun w' => w'.cell? ⟨w2.heap.size, 0, none⟩ = some (.int .i64 u.val) ∧ w'.cell? ⟨w2.heap.size, 1, none⟩ = some (.int .i64 u.nxt) ∧ w'.cell? ⟨w2.heap.size, 2, none⟩ = some (.int .i64 u.deny.ver) ∧ w'.cell? ⟨w2.heap.size, 3, none⟩ = some (.slice u.deny.cardsA u.deny.cards.length u.deny.cardsc) ∧ w'.cell? ⟨w2.heap.size, 4, none⟩ = some (.slice u.keptA u.kept.length u.keptc)) (by kernel_rfl) (by exact gateCells (t := 40) (v := u) Hbx3.out) (fun hS => ?_)
  refine take_at 0 10 (v := ?_) rfl rfl (by kernel_rfl) (by kernel_rfl) (by kernel_rfl) (fun _ _ _ h => h) (by rfl) ?_ hS ?_
  rotate_left 1
  · (intro w hSw; (try dsimp only at hSw); (try go_split_ands); go_simp; try with_reducible rfl)
  simp only [List.setIfInBounds_toArray, List.set_cons_zero, List.set_cons_succ]
  refine take_at 1 11 (v := ?_) rfl rfl (by kernel_rfl) (by kernel_rfl) (by kernel_rfl) (fun _ _ _ h => h) (by rfl) ?_ hS ?_
  rotate_left 1
  · (intro w hSw; (try dsimp only at hSw); (try go_split_ands); go_simp; try with_reducible rfl)
  simp only [List.setIfInBounds_toArray, List.set_cons_zero, List.set_cons_succ]
  refine wpAnyH_ready (rs := [2]) (by kernel_rfl) (by simp) ?_
  refine AllReadyH.cons rfl (fun K hK => ?_) (AllReadyH.nil)
  go_simp
  go_wp2_with fail
  refine (anyDeny_any (w.heap.size + 1 + 1) (q) _ (Rd.drew Hrd3.out) (by omega)).mono ?_
  rintro e w4 ⟨d, q2, rfl, hinD, habD, hlD, hxD, hvD0, hvD1, hq2, hr4, hg4⟩
  clear cR3_0 cR3_1 cR3_2 cR3_3 cR3_4 cQ3_0 cQ3_1 frR3_0 frR3_1 frR3_2 frR3_3 frR3_4 frQ3_0 frQ3_1
  have hz4 : w3.heap.size ≤ w4.heap.size := by have := hg4.size; (try simp at this); omega
  have HR4 := Lib.hid (Blk.grown (blkDrew HR3.out) hg4 (by intro e; injection e with e; omega))
  clear HR3
  have HQ4 := Lib.hid (Blk.grown (blkDrew HQ3.out) hg4 (by intro e; injection e with e; omega))
  clear HQ3
  have HB4 := Lib.hid (Touch.below (bD1 HB3.out) (Touch.of_grown hg4) (fun i hi => by injection hi with hi; omega))
  clear HB3
  have Hin4 := Lib.hid (GateIn.touch (GateIn.drew Hin3.out) (Touch.of_grown hg4) (b := w1.heap.size) Hab1.out Hab2.out (fun i hi => by injection hi with hi; omega))
  clear Hin3
  have HM4 := Lib.hid (Blk.grown (blkDrew Hbx3.out) hg4 (by intro e; injection e with e; omega))
  clear Hbx3
  clear hg4
  clear Hrd3
  have Hrd4 := Lib.hid hr4; clear hr4
  have hgl4 : (w.heap.size + 1 + 1) < w4.heap.size := (Hrd4.out).lt
  clear hxD hvD0 hvD1
  have HinD := Lib.hid hinD; clear hinD
  have HabD := Lib.hid habD; clear habD
  unfold denyV
  obtain ⟨cR4_0, cR4_1, cR4_2, cR4_3, cR4_4⟩ := gateCells (t := 40) (v := (⟨0, 0, ⟨0, none, 0, []⟩, none, 0, []⟩ : GateR)) HR4.out
  obtain ⟨cQ4_0, cQ4_1⟩ := denyCells (t := 30) (v := (⟨0, none, 0, []⟩ : DenyR)) HQ4.out
  have frR4_0 := (HR4.out).free 0
  have frR4_1 := (HR4.out).free 1
  have frR4_2 := (HR4.out).free 2
  have frR4_3 := (HR4.out).free 3
  have frR4_4 := (HR4.out).free 4
  have frQ4_0 := (HQ4.out).free 0
  have frQ4_1 := (HQ4.out).free 1
  go_simp
  refine hK.out _ _ (by exact gateCells (t := 40) (v := u) HM4.out) (fun hS => ?_)
  clear hK K
  refine wpAnyH_ready (rs := [3]) (by kernel_rfl) (by simp) ?_
  refine AllReadyH.cons rfl (fun K hK => ?_) (AllReadyH.nil)
  go_simp
  generalize hW : World.setCell _ _ _ = w5
  have ht5 : Touch (fun i => i = w.heap.size) w4 w5 := by rw [← hW]; exact (Touch.far (K := fun i => i = w.heap.size) (Touch.far (K := fun i => i = w.heap.size) (Touch.far (K := fun i => i = w.heap.size) (Touch.far (K := fun i => i = w.heap.size) (Touch.far (K := fun i => i = w.heap.size) (Touch.refl _ _) (p := ⟨w.heap.size, 0, none⟩) rfl _) (p := ⟨w.heap.size, 1, none⟩) rfl _) (p := ⟨w.heap.size, 2, none⟩) rfl _) (p := ⟨w.heap.size, 3, none⟩) rfl _) (p := ⟨w.heap.size, 4, none⟩) rfl _)
  have hbx5 : Blk w5 (w.heap.size) 40 (GateR.cells u) := by rw [← hW]; exact (Blk.put (Blk.put (Blk.put (Blk.put (Blk.put HR4.out 0 (.int .i64 u.val)) 1 (.int .i64 u.nxt)) 2 (.int .i64 u.deny.ver)) 3 (.slice u.deny.cardsA u.deny.cards.length u.deny.cardsc)) 4 (.slice u.keptA u.kept.length u.keptc))
  clear hW
  clear cR4_0 cR4_1 cR4_2 cR4_3 cR4_4 cQ4_0 cQ4_1 frR4_0 frR4_1 frR4_2 frR4_3 frR4_4 frQ4_0 frQ4_1
  have hz5 : w4.heap.size ≤ w5.heap.size := by have := ht5.size; (try simp at this); omega
  have HQ5 := Lib.hid (Blk.touch HQ4.out ht5 (show ¬ (w.heap.size + 1 = w.heap.size) by omega))
  clear HQ4
  have HB5 := Lib.hid (Touch.below HB4.out ht5 (fun i hi => by omega))
  clear HB4
  have Hin5 := Lib.hid (GateIn.touch Hin4.out ht5 (b := w1.heap.size) Hab1.out Hab2.out (fun i hi => by have hi2 : i = w.heap.size := hi; omega))
  clear Hin4
  have HM5 := Lib.hid (Blk.touch HM4.out ht5 (show ¬ (w2.heap.size = w.heap.size) by omega))
  clear HM4
  have HinD5 := Lib.hid (DenyIn.touch HinD.out ht5 (b := w3.heap.size) HabD.out (fun i hi => by have hi2 : i = w.heap.size := hi; omega))
  clear HinD
  clear ht5 HR4
  have Hbx5 := Lib.hid hbx5; clear hbx5
  obtain ⟨cR5_0, cR5_1, cR5_2, cR5_3, cR5_4⟩ := gateCells (t := 40) (v := u) Hbx5.out
  obtain ⟨cQ5_0, cQ5_1⟩ := denyCells (t := 30) (v := (⟨0, none, 0, []⟩ : DenyR)) HQ5.out
  have frR5_0 := (Hbx5.out).free 0
  have frR5_1 := (Hbx5.out).free 1
  have frR5_2 := (Hbx5.out).free 2
  have frR5_3 := (Hbx5.out).free 3
  have frR5_4 := (Hbx5.out).free 4
  have frQ5_0 := (HQ5.out).free 0
  have frQ5_1 := (HQ5.out).free 1
  refine hK.out _ _ (by exact gateCells (t := 40) (v := u) HM5.out) (fun hS => ?_)
  clear hK K
  refine wpAnyH_ready (rs := [4]) (by kernel_rfl) (by simp) ?_
  refine AllReadyH.cons rfl (fun K hK => ?_) (AllReadyH.nil)
  go_simp
  generalize hW : World.setCell _ _ _ = w6
  have ht6 : Touch (fun i => i = w.heap.size + 1) w5 w6 := by rw [← hW]; exact (Touch.far (K := fun i => i = w.heap.size + 1) (Touch.far (K := fun i => i = w.heap.size + 1) (Touch.refl _ _) (p := ⟨w.heap.size + 1, 0, none⟩) rfl _) (p := ⟨w.heap.size + 1, 1, none⟩) rfl _)
  have hbx6 : Blk w6 (w.heap.size + 1) 30 (DenyR.cells d) := by rw [← hW]; exact (Blk.put (Blk.put HQ5.out 0 (.int .i64 d.ver)) 1 (.slice d.cardsA d.cards.length d.cardsc))
  clear hW
  clear cR5_0 cR5_1 cR5_2 cR5_3 cR5_4 cQ5_0 cQ5_1 frR5_0 frR5_1 frR5_2 frR5_3 frR5_4 frQ5_0 frQ5_1
  have hz6 : w5.heap.size ≤ w6.heap.size := by have := ht6.size; (try simp at this); omega
  have HB6 := Lib.hid (Touch.below HB5.out ht6 (fun i hi => by omega))
  clear HB5
  have Hin6 := Lib.hid (GateIn.touch Hin5.out ht6 (b := w1.heap.size) Hab1.out Hab2.out (fun i hi => by have hi2 : i = w.heap.size + 1 := hi; omega))
  clear Hin5
  have HM6 := Lib.hid (Blk.touch HM5.out ht6 (show ¬ (w2.heap.size = w.heap.size + 1) by omega))
  clear HM5
  have HinD6 := Lib.hid (DenyIn.touch HinD5.out ht6 (b := w3.heap.size) HabD.out (fun i hi => by have hi2 : i = w.heap.size + 1 := hi; omega))
  clear HinD5
  have HR6 := Lib.hid (Blk.touch Hbx5.out ht6 (show ¬ (w.heap.size = w.heap.size + 1) by omega))
  clear Hbx5
  clear ht6 HQ5
  have Hbx6 := Lib.hid hbx6; clear hbx6
  obtain ⟨cR6_0, cR6_1, cR6_2, cR6_3, cR6_4⟩ := gateCells (t := 40) (v := u) HR6.out
  obtain ⟨cQ6_0, cQ6_1⟩ := denyCells (t := 30) (v := d) Hbx6.out
  have frR6_0 := (HR6.out).free 0
  have frR6_1 := (HR6.out).free 1
  have frR6_2 := (HR6.out).free 2
  have frR6_3 := (HR6.out).free 3
  have frR6_4 := (HR6.out).free 4
  have frQ6_0 := (Hbx6.out).free 0
  have frQ6_1 := (Hbx6.out).free 1
  refine hK.out _ _ (by exact gateCells (t := 40) (v := u) HM6.out) (fun hS => ?_)
  clear hK K
  refine wpAnyH_done (by kernel_rfl) ?_ _
  clear hS
  go_wp2
  obtain ⟨z0, z1, z2, z3, z4⟩ := gateCells (t := 40) (v := u) HR6.out
  obtain ⟨y0, y1⟩ := denyCells (t := 30) (v := d) Hbx6.out
  exact bodyPost_ret (v := .tuple #[gateV u, denyV d]) (by simp [results, Try.results52, go_sem, gateV, denyV, z0, z1, z2, z3, z4, y0, y1]) rfl ⟨u, d, rfl, Hin6.out, HinD6.out, hl1, hl2, hlD, HB6.out⟩
end Go.Proofs.Ytpijjlggmibfnaa
