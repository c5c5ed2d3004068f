/-
  The program's TriesOf: a loop over the iterator that collects.
-/
import Derived.Test.YtfeeofablnjjdaaTryImpl2
set_option linter.unusedSimpArgs false
namespace Go.Proofs.Ytfeeofablnjjdaa
open Go.RowKit Go.Shelf
set_option linter.unusedVariables false
attribute [local go_sem] Oper.semAt_some

set_option maxRecDepth 100000 in
set_option maxHeartbeats 2000000 in
theorem implTriesOf_any (b f : Int) (w : World) :
    Calls Try.prog 16 #[.int .i64 b, .int .i64 f] w fun e w' => ∃ v, e = .returned v ∧ OwnInts w' w.heap.size v (Fares.triesOf b f) ∧ Below w.heap.size w w' := by
  by_cases h : 0 ≤ b ∧ b ≤ 40319 ∧ 1 ≤ f ∧ f ≤ 1440
  · have Ht := Lib.hid (Fares.triesOf_yes h)
    obtain ⟨b0, b1, f0, f1⟩ := h
    have hok : Fares.waitOk f = true := by unfold Fares.waitOk; exact decide_eq_true ⟨f0, f1⟩
    have hmo : Fares.minuteOk b = true := by unfold Fares.minuteOk; exact decide_eq_true ⟨b0, b1⟩
    refine (callsIn_wide (n := 4)).1 ?_
    refine callsIn_of_wp_marks Try.func16 rfl trivial ?_ rfl
    simp only [Try.ntmps16, List.size_toArray, List.length_cons, List.length_nil, Nat.reduceAdd, Nat.reduceSub, Array.replicate_succ, Array.replicate_zero, List.push_toArray, List.append_toArray, List.nil_append, List.cons_append]
    gi_wp2_with (first
      | (refine ⟨trivial, ?_⟩; gi_at_call 34; refine (callsIn_wide.2 (momentValid_any b _)).mono ?_; rintro e w' ⟨rfl, rfl⟩; rw [hmo])
      | (refine ⟨trivial, ?_⟩; gi_at_call 28; refine (callsIn_wide.2 (validWait_any f _)).mono ?_; rintro e w' ⟨rfl, rfl⟩; rw [hok])
      | (refine ⟨trivial, ?_⟩; gi_at_call 29; refine (waits_in Fence.wide 3 trivial rfl f _).mono ?_; rintro e w' ⟨rfl, rfl⟩))
    have hb0 : Below w.heap.size w (((w.alloc (.cells #[.slice none 0 0] 27)).alloc (.cells #[.int .i64 b] 3)).alloc (.cells #[.int .i64 f] 3)) := bA (bA (bA (Below.refl _ _) _) _) _
    have k0 : Boxed (((w.alloc (.cells #[.slice none 0 0] 27)).alloc (.cells #[.int .i64 b] 3)).alloc (.cells #[.int .i64 f] 3)) w.heap.size 27 (.slice none 0 0) := ((Boxed.new w 27 (.slice none 0 0)).alloc (.cells #[.int .i64 b] 3)).alloc (.cells #[.int .i64 f] 3)
    have k1 := (Boxed.new (w.alloc (.cells #[.slice none 0 0] 27)) 3 (.int .i64 b)).alloc (.cells #[.int .i64 f] 3)
    have k2 := Boxed.new ((w.alloc (.cells #[.slice none 0 0] 27)).alloc (.cells #[.int .i64 b] 3)) 3 (.int .i64 f)
    have sZ : (((w.alloc (.cells #[.slice none 0 0] 27)).alloc (.cells #[.int .i64 b] 3)).alloc (.cells #[.int .i64 f] 3)).heap.size = w.heap.size + 3 := by simp only [World.size_alloc]
    simp only [World.size_alloc] at k1 k2
    have bF := k2.cell
    clear k2
    obtain ⟨i0, hi, hz0, hz1, hz2⟩ := info_parts info_int
    refine wpIn_rangeFunc_ownF rfl (by omega) (gf := 35) (lb := #[.pointer (some ⟨w.heap.size + 1 + 1, 0, none⟩)]) rfl trivial (enters_of Try.func35 (by kernel_rfl) rfl)
      (waits_stops Fence.wide 3 trivial rfl (by omega) (w.heap.size + 1 + 1) w.heap.size f f0 f1 (((w.alloc (.cells #[.slice none 0 0] 27)).alloc (.cells #[.int .i64 b] 3)).alloc (.cells #[.int .i64 f] 3)) (by rw [sZ]; omega) bF) belowK_t (belowK_b (by rw [sZ]; omega)) (Below.refl _ _) (fun _ => rfl)
      (fun pre W => ((((∃ v, Boxed W w.heap.size 27 v ∧ W.ownsRow (w.heap.size + 3) 3 1 v (Fares.minsOf f b pre).length ((Fares.minsOf f b pre).flatMap intCells) ∧ True) ∧ Boxed W (w.heap.size + 1) 3 (.int .i64 (Fares.sumOf f b pre))) ∧ Fares.sumOf f b pre ≤ 40319) ∧ w.heap.size + 3 ≤ W.heap.size) ∧ Below w.heap.size w W)
      (fun c ks W => (c = .exit 0 ∧ ∃ (pre : List Nat) (k : Nat), ks = pre ++ [k] ∧ Fares.sumOf f b pre ≤ 40319 ∧ 40319 < Fares.sumOf f b pre + Fares.waitN f k ∧ (∃ v, Boxed W w.heap.size 27 v ∧ W.ownsRow (w.heap.size + 3) 3 1 v (Fares.minsOf f b pre).length ((Fares.minsOf f b pre).flatMap intCells) ∧ True)) ∧ Below w.heap.size w W)
      (OwnFrom.and (OwnFrom.and (OwnFrom.and (OwnFrom.and (Own.from (holdsRow_own (w.heap.size + 3) w.heap.size 27 3 1 (fun pre => (Fares.minsOf f b pre).length) (fun pre => (Fares.minsOf f b pre).flatMap intCells) (fun _ _ => True)) _)
        (Own.from (boxed_own (w.heap.size + 1) 3 (fun pre => .int .i64 (Fares.sumOf f b pre))) _)) (ownFrom_pure _ _)) (fun s A B row hs hg hr => Nat.le_trans hs hg.size)) (ownFrom_below (Nat.le_refl _) (by rw [sZ]; omega)))
      (fun c => OwnFrom.and (Own.from (fun ks A B row hs hg hr => by
          obtain ⟨hc, pre, k, e1, e2, e3, hv⟩ := hs
          exact ⟨hc, pre, k, e1, e2, e3, holdsRow_own (w.heap.size + 3) w.heap.size 27 3 1 (fun pre => (Fares.minsOf f b pre).length) (fun pre => (Fares.minsOf f b pre).flatMap intCells) (fun _ _ => True) pre A B row hv hg hr⟩) _) (ownFrom_below (Nat.le_refl _) (by rw [sZ]; omega)))
      ⟨⟨⟨⟨⟨_, k0, World.ownsRow_nil _ _ _ _, trivial⟩, k1⟩, b1⟩, by rw [sZ]; omega⟩, hb0⟩
      (fun k => { tmps := #[.int .i64 b, .int .i64 f, undef, undef, .slice none 0 0, .pointer (some ⟨w.heap.size, 0, none⟩), .pointer (some ⟨w.heap.size + 1, 0, none⟩), undef, .int .i64 (Fares.waitN f k), .int .i64 b, .bool true, .bool false, .bool false, .int .i64 f, .bool true, .bool false, .bool false,
          .int .i64 b, .int .i64 f, .func (.func 35) #[] #[.pointer (some ⟨w.heap.size + 1 + 1, 0, none⟩)], .int .i64 ((k : Int) + 1), .int .i64 (Fares.waitN f k), undef, undef, undef, undef, undef, undef, undef, undef, undef, undef], defers := [] }) ?assign ?body ?done ?stop
    case assign =>
      intro l x W K hK
      gi_wp2
      exact hK
    case body =>
      rintro l pre k W ⟨⟨⟨⟨⟨v, hv, hrow, _⟩, hm⟩, hs⟩, hz⟩, hB⟩ hlt
      obtain ⟨n0, n1⟩ := Fares.waitN_in f0 f1 k
      obtain ⟨s0, s1⟩ := Fares.sumOf_in f0 f1 pre b
      have Hsn := Lib.hid (Fares.sumOf_snoc f k pre b)
      have Hmn := Lib.hid (Fares.minsOf_snoc f k pre b)
      have hlen : (Fares.minsOf f b pre).length = pre.length := Fares.minsOf_length _ _ _
      have Hx : Hid (Fares.sumOf f b pre ≤ 40319) := hs
      obtain ⟨s, Es⟩ : ∃ s, Fares.sumOf f b pre = s := ⟨_, rfl⟩
      obtain ⟨m, Em⟩ : ∃ m, Fares.waitN f k = m := ⟨_, rfl⟩
      rw [Es] at hm hs s0 s1
      rw [Em] at n0 n1 ⊢
      have hm2 : Boxed (W.setCell ⟨w.heap.size + 1, 0, none⟩ (.int .i64 (s + m))) (w.heap.size + 1) 3 (.int .i64 (s + m)) := hm.set _
      have hv2 : Boxed (W.setCell ⟨w.heap.size + 1, 0, none⟩ (.int .i64 (s + m))) w.heap.size 27 v := hv.other (by omega) _
      have hne : some (w.heap.size + 1) ≠ v.ownBlock := fun e => by have := (World.ownsRow.lt hrow _ e.symm).1; omega
      have hrow2 := hrow.kept (grownBy_setCell' W (w.heap.size + 1) (.int .i64 (s + m))) (.inr hne.symm)
      have hB2 := bS hB (p := ⟨w.heap.size + 1, 0, none⟩) (by simp) (.int .i64 (s + m))
      have hk2 := KeepsOthers.setCell W ⟨w.heap.size + 1, 0, none⟩ (.int .i64 (s + m))
      have c1 := hm.cell
      have c2 := hm2.cell
      have c3 := hv2.cell
      have f1' := hm.frozen
      by_cases hgt : 40319 < s + m
      · gi_wp2
        exact ⟨hk2, ⟨rfl, pre, k, rfl, Hx.out, by rw [Es, Em]; exact hgt, v, hv2, hrow2, trivial⟩, hB2⟩
      · have hle : s + m ≤ 40319 := by omega
        generalize hW2 : W.setCell ⟨w.heap.size + 1, 0, none⟩ (.int .i64 (s + m)) = W2 at hm2 hv2 hrow2 hB2 hk2 c2 c3
        have hz2' : w.heap.size + 3 ≤ W2.heap.size := by rw [← hW2]; exact Nat.le_trans hz (grownBy_setCell' W _ _).size
        have f3' := hv2.frozen
        have hb2 : Below w.heap.size W W2 := by rw [← hW2]; exact (Below.refl _ W).setCell (p := ⟨w.heap.size + 1, 0, none⟩) (by simp) _
        have hrowB := ownBase hrow2 (show w.heap.size ≤ w.heap.size + 3 by omega)
        gi_wp2_with (first
          | (rw [hW2])
          | (gi_at_builtin; refine wpListIn_append_own _ rfl _ _ 27 rfl (w.heap.size + 3) 3 i0 (.int .i64 0) 1 8 Try.underlying27 hi hz0 hz1 hz2 rfl (by decide) _ _ _ rfl (hrow2.alloc _) ⟨W2.heap.size, 0, none⟩ 1 1 [.int .i64 (s + m)] rfl rfl (cell_one_new _ _ _) (by simp [Value.oneCell']) (by rw [hlen]; unfold maxLen; omega) (by rw [hlen]; omega) (by simp; omega) ?_; intro v' w1 hown' hgrow _; obtain ⟨g', cap', rfl⟩ := ownsRow_succ hown'; obtain ⟨hv1, hv3, _, hk3, hb3⟩ := hv2.appended (by decide) hrowB hB2.size (Nat.le_refl _) (ownBase hown' (show w.heap.size ≤ w.heap.size + 3 by omega)) hgrow; have hc1 := hv1.cell; have hf1 := hv1.frozen))
        rw [hlen] at hown' hv3 hk3 hb3
        have hmn : some (w.heap.size + 1) ≠ v.ownBlock := fun e => by have := (World.ownsRow.lt hrow2 _ e.symm).1; omega
        have hm3 := ((hm2.alloc (.cells #[.int .i64 (s + m)] 3)).kept hgrow hmn).other (show w.heap.size + 1 ≠ w.heap.size by omega) (.slice (some ⟨g', 0, none⟩) (pre.length + 1) cap')
        have hrow3 := hown'.kept (grownBy_setCell' w1 w.heap.size (.slice (some ⟨g', 0, none⟩) (pre.length + 1) cap')) (.inr (hv1.not_row (by decide) hown').symm)
        refine ⟨hk2.trans hk3, hb2.trans hb3, ⟨⟨⟨⟨_, hv3, ?_⟩, ?_⟩, ?_⟩, ?_⟩, hB2.trans hb3⟩
        · rw [Hmn.out, Es, Em]
          simpa [hlen, intCells] using hrow3
        · rw [Hsn.out, Es, Em]; exact hm3
        · rw [Hsn.out, Es, Em]; exact hle
        · have := hb3.size; omega
    case done =>
      rintro D ks W hD rfl ⟨⟨⟨⟨⟨v, hv, hrow, _⟩, hm⟩, hs⟩, hz⟩, hB⟩ hK
      have hc := hv.cell
      gi_wp2
      refine ⟨by simp, .inl ⟨_, _, rfl, run_takeDeferred hK, ?_⟩⟩
      refine ⟨_, results_tmp rfl _ _ _, v, rfl, ?_, hB.trans (belowK_b (w := w) (Nat.le_refl _) W D _ _ (by rw [sZ] at hD; omega) hK rfl rfl)⟩
      rw [Ht.out, ← Fares.tries_end f0 f1 hs]
      exact ownBase (ownsRow_putObj hrow _ hK rfl) (by omega)
    case stop =>
      rintro D c ks W hD ⟨j, hj, rfl⟩ ⟨⟨rfl, pre, k, e, hs, hgt, v, hv, hrow, _⟩, hB⟩ hK
      obtain ⟨rfl, e2⟩ := List.append_inj' e rfl
      obtain rfl : j = k := by simpa using e2
      have hc := hv.cell
      gi_wp2
      refine ⟨by simp, .inl ⟨_, _, rfl, run_takeDeferred hK, ?_⟩⟩
      refine ⟨_, results_tmp rfl _ _ _, v, rfl, ?_, hB.trans (belowK_b (w := w) (Nat.le_refl _) W D _ _ (by rw [sZ] at hD; omega) hK rfl rfl)⟩
      rw [Ht.out, ← Fares.tries_stop f0 f1 hj hs hgt]
      exact ownBase (ownsRow_putObj hrow _ hK rfl) (by omega)
  · rw [Fares.triesOf_no h]
    by_cases hb : 0 ≤ b ∧ b ≤ 40319
    · have hok : Fares.waitOk f = false := by unfold Fares.waitOk; exact decide_eq_false (by omega)
      have hmo : Fares.minuteOk b = true := by unfold Fares.minuteOk; exact decide_eq_true hb
      go_enter Try.func16, Try.ntmps16
      go_wp2_with (first
        | (go_at_call 34; refine (momentValid_any b _).mono ?_; rintro e w' ⟨rfl, rfl⟩; rw [hmo])
        | (go_at_call 28; refine (validWait_any f _).mono ?_; rintro e w' ⟨rfl, rfl⟩; rw [hok]))
      go_ret
      exact ⟨_, rfl, OwnInts.none_ _ _, Below.refl _ _⟩
    · have hmo : Fares.minuteOk b = false := by unfold Fares.minuteOk; exact decide_eq_false hb
      go_enter Try.func16, Try.ntmps16
      go_wp2_with (go_at_call 34; refine (momentValid_any b _).mono ?_; rintro e w' ⟨rfl, rfl⟩; rw [hmo])
      go_ret
      exact ⟨_, rfl, OwnInts.none_ _ _, Below.refl _ _⟩
end Go.Proofs.Ytfeeofablnjjdaa
