/-
  The program's WaitBefore: a loop over the iterator that returns.
-/
import Derived.Test.YtfeeofablnjjdaaTryImpl
set_option linter.unusedSimpArgs false
namespace Go.Proofs.Ytfeeofablnjjdaa
open Go.RowKit Go.Shelf
set_option linter.unusedVariables false
attribute [local go_sem] Oper.semAt_some

/-- FOR THE SPECIFICATION: the wait of the first try among ks that is t. -/
def firstTry (f t : Int) : List Nat → Option Int
  | [] => none
  | k :: ks => if (k : Int) + 1 = t then some (Fares.waitN f k) else firstTry f t ks
theorem firstTry_hit {f t : Int} {k : Nat} : ∀ {pre : List Nat}, firstTry f t pre = none → (k : Int) + 1 = t → firstTry f t (pre ++ [k]) = some (Fares.waitN f k)
  | [], _, hk => if_pos hk
  | j :: pre, h, hk => by
    simp only [firstTry] at h
    split at h
    · cases h
    · rename_i hj
      simp only [List.cons_append, firstTry]
      rw [if_neg hj]
      exact firstTry_hit h hk
theorem firstTry_miss {f t : Int} {k : Nat} : ∀ {pre : List Nat}, firstTry f t pre = none → ¬ (k : Int) + 1 = t → firstTry f t (pre ++ [k]) = none
  | [], _, hk => by simp [firstTry, hk]
  | j :: pre, h, hk => by
    simp only [firstTry] at h
    split at h
    · cases h
    · rename_i hj
      simp only [List.cons_append, firstTry]
      rw [if_neg hj]
      exact firstTry_miss h hk
theorem firstTry_all {f t : Int} (f0 : 1 ≤ f) (f1 : f ≤ 1440) : ((firstTry f t (List.range 4)).getD (-1)) = Fares.waitBefore f t := by
  have e : List.range 4 = [0, 1, 2, 3] := by decide
  unfold Fares.waitBefore
  rw [e]
  simp only [firstTry]
  split
  · rw [if_pos (by omega)]; simp; congr 1; omega
  · split
    · rw [if_pos (by omega)]; simp; congr 1; omega
    · split
      · rw [if_pos (by omega)]; simp; congr 1; omega
      · split
        · rw [if_pos (by omega)]; simp; congr 1; omega
        · rw [if_neg (by omega)]; rfl
theorem firstTry_stop {f t m : Int} (f0 : 1 ≤ f) (f1 : f ≤ 1440) : ∀ {k : Nat}, k < 4 → firstTry f t (List.range k ++ [k]) = some m → Fares.waitBefore f t = m := by
  intro k hk h
  rw [← firstTry_all f0 f1]
  rcases (by omega : k = 0 ∨ k = 1 ∨ k = 2 ∨ k = 3) with rfl | rfl | rfl | rfl
  all_goals
    simp only [show List.range 0 = [] from rfl, show List.range 1 = [0] from rfl, show List.range 2 = [0, 1] from rfl, show List.range 3 = [0, 1, 2] from rfl, show List.range 4 = [0, 1, 2, 3] from rfl, List.nil_append, List.cons_append, firstTry] at h ⊢
    repeat' split at h
    all_goals simp_all

set_option maxRecDepth 100000 in
set_option maxHeartbeats 2000000 in
theorem implWaitBefore_any (f t : Int) (w : World) :
    Calls Try.prog 13 #[.int .i64 f, .int .i64 t] w fun e w' => e = .returned (.int .i64 (Fares.waitBefore f t)) ∧ Below w.heap.size w w' := by
  by_cases hf : 1 ≤ f ∧ f ≤ 1440
  · obtain ⟨f0, f1⟩ := hf
    have hok : Fares.waitOk f = true := by unfold Fares.waitOk; exact decide_eq_true ⟨f0, f1⟩
    refine (callsIn_wide (n := 4)).1 ?_
    refine callsIn_of_wp_marks Try.func13 rfl trivial ?_ rfl
    simp only [Try.ntmps13, List.size_toArray, List.length_cons, List.length_nil, Nat.reduceAdd, Nat.reduceSub, Array.replicate_succ, Array.replicate_zero, List.push_toArray, List.append_toArray, List.nil_append, List.cons_append]
    gi_wp2_with (first
      | (refine ⟨trivial, ?_⟩; gi_at_call 28; refine (callsIn_wide.2 (validWait_any f _)).mono ?_; rintro e w' ⟨rfl, rfl⟩; rw [hok])
      | (refine ⟨trivial, ?_⟩; gi_at_call 29; refine (waits_in Fence.wide 3 trivial rfl f _).mono ?_; rintro e w' ⟨rfl, rfl⟩))
    have hb0 : Below w.heap.size w (((w.alloc (.cells #[.int .i64 t] 3)).alloc (.cells #[.int .i64 0] 3)).alloc (.cells #[.int .i64 f] 3)) := bA (bA (bA (Below.refl _ _) _) _) _
    have k0 := ((Blk.new w 3 #[.int .i64 t]).alloc (.cells #[.int .i64 0] 3)).alloc (.cells #[.int .i64 f] 3)
    have k1 := (Blk.new (w.alloc (.cells #[.int .i64 t] 3)) 3 #[.int .i64 0]).alloc (.cells #[.int .i64 f] 3)
    have k2 := Blk.new ((w.alloc (.cells #[.int .i64 t] 3)).alloc (.cells #[.int .i64 0] 3)) 3 #[.int .i64 f]
    have sZ : (((w.alloc (.cells #[.int .i64 t] 3)).alloc (.cells #[.int .i64 0] 3)).alloc (.cells #[.int .i64 f] 3)).heap.size = w.heap.size + 3 := by simp only [World.size_alloc]
    simp only [World.size_alloc] at k1 k2
    have bT := k0.cell 0
    have bR := k1.cell 0
    have bZ := k1.free 0
    have bF := k2.cell 0
    clear k0 k1 k2
    refine wpIn_rangeFunc_ownF rfl (by omega) (gf := 35) (lb := #[.pointer (some ⟨w.heap.size + 1 + 1, 0, none⟩)]) rfl trivial (enters_of Try.func35 (by kernel_rfl) rfl)
      (waits_stops Fence.wide 3 trivial rfl (by omega) (w.heap.size + 1 + 1) w.heap.size f f0 f1 (((w.alloc (.cells #[.int .i64 t] 3)).alloc (.cells #[.int .i64 0] 3)).alloc (.cells #[.int .i64 f] 3)) (by rw [sZ]; omega) bF) belowK_t (belowK_b (by simp; omega)) (Below.refl _ _) (fun _ => rfl)
      (fun pre W => (firstTry f t pre = none ∧ W.cell? ⟨w.heap.size, 0, none⟩ = some (.int .i64 t) ∧ W.cell? ⟨w.heap.size + 1, 0, none⟩ = some (.int .i64 0) ∧ W.frozen? ⟨w.heap.size + 1, 0, none⟩ = false) ∧ Below w.heap.size w W)
      (fun c pre W => (c = .ret ∧ ∃ m, firstTry f t pre = some m ∧ W.cell? ⟨w.heap.size + 1, 0, none⟩ = some (.int .i64 m)) ∧ Below w.heap.size w W)
      (OwnFrom.and (Own.from (fun s A B row hs hg hr => ⟨hs.1, cell_kept hs.2.1 hg hr, cell_kept hs.2.2.1 hg hr, (frozen_kept hs.2.2.1 hg hr).trans hs.2.2.2⟩) _) (ownFrom_below (Nat.le_refl _) (by simp; omega)))
      (fun c => OwnFrom.and (Own.from (fun s A B row hs hg hr => by obtain ⟨hc, m, hm, hcell⟩ := hs; exact ⟨hc, m, hm, cell_kept hcell hg hr⟩) _) (ownFrom_below (Nat.le_refl _) (by simp; omega)))
      ⟨⟨rfl, bT, bR, bZ⟩, hb0⟩
      (fun k => { tmps := #[.int .i64 f, .int .i64 t, undef, .pointer (some ⟨w.heap.size, 0, none⟩), .pointer (some ⟨w.heap.size + 1, 0, none⟩), .int .i64 ((k : Int) + 1), .int .i64 (Fares.waitN f k), .int .i64 f, .bool true, .bool false, .int .i64 f,
          .func (.func 35) #[] #[.pointer (some ⟨w.heap.size + 1 + 1, 0, none⟩)], .int .i64 ((k : Int) + 1), .int .i64 (Fares.waitN f k), undef, undef, undef, undef], defers := [] }) ?assign ?body ?done ?stop
    case assign =>
      intro l x W K hK
      gi_wp2
      exact hK
    case body =>
      rintro l pre k W ⟨⟨hn, hct, hcr, hfr⟩, hB⟩ _
      by_cases hx : (k : Int) + 1 = t
      · have hx1 : ((k : Int) + 1 == t) = true := by simpa using hx
        gi_wp2
        exact ⟨KeepsOthers.setCell _ _ _, ⟨rfl, _, firstTry_hit hn hx, World.cell?_setCell_same' _ _ _ (by rw [hcr]; rfl)⟩, bS hB (by simp) _⟩
      · have hx1 : ((k : Int) + 1 == t) = false := by simpa using hx
        gi_wp2
        exact ⟨KeepsOthers.refl _, Below.refl _ _, ⟨firstTry_miss hn hx, hct, hcr, hfr⟩, hB⟩
    case done =>
      rintro D ks W hD rfl ⟨⟨hn, _, hcr, hfr⟩, hB⟩ hK
      gi_wp2
      have hK' := (KeepsOthers.setCell W ⟨w.heap.size + 1, 0, none⟩ (.int .i64 (-1))).same D _ hK rfl
      refine ⟨by simp, .inl ⟨_, _, rfl, run_takeDeferred hK', ?_⟩⟩
      have hc5 := cell_kept (World.cell?_setCell_same' W ⟨w.heap.size + 1, 0, none⟩ (.int .i64 (-1)) (by rw [hcr]; rfl)) (grownBy_putObj' _ D (.deferred none)) (fun r e => by cases e; exact ⟨_, hK', rfl⟩)
      refine ⟨.int .i64 (-1), ?_, by rw [← firstTry_all f0 f1, hn]; rfl, ?_⟩
      · simp [results, Try.f13, go_sem, hc5]
      · have hB2 := bS hB (p := ⟨w.heap.size + 1, 0, none⟩) (by simp) (.int .i64 (-1))
        exact hB2.trans (belowK_b (w := w) (Nat.le_refl _) _ D _ _ (by simp at hD; omega) hK' rfl rfl)
    case stop =>
      rintro D c pre W hD ⟨k, hk, rfl⟩ ⟨⟨rfl, m, hm, hcr⟩, hB⟩ hK
      gi_wp2
      refine ⟨by simp, .inl ⟨_, _, rfl, run_takeDeferred hK, ?_⟩⟩
      have hc5 := cell_kept hcr (grownBy_putObj' _ D (.deferred none)) (fun r e => by cases e; exact ⟨_, hK, rfl⟩)
      refine ⟨.int .i64 m, ?_, by rw [firstTry_stop f0 f1 hk hm], ?_⟩
      · simp [results, Try.f13, go_sem, hc5]
      · exact hB.trans (belowK_b (w := w) (Nat.le_refl _) _ D _ _ (by simp at hD; omega) hK rfl rfl)
  · have hok : Fares.waitOk f = false := by unfold Fares.waitOk; exact decide_eq_false hf
    rw [Fares.waitBefore_no (by omega)]
    go_enter Try.func13, Try.ntmps13
    go_wp2_with (go_at_call 28; refine (validWait_any f _).mono ?_; rintro e w' ⟨rfl, rfl⟩; rw [hok])
    refine ⟨rfl, .int .i64 (-1), ?_, rfl, bA (bA (Below.refl _ _) _) _⟩
    simp [results, Try.f13, go_sem]
end Go.Proofs.Ytfeeofablnjjdaa
