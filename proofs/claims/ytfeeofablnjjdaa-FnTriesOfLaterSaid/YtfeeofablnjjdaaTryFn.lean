/-
  Contracts over waits and tries: the numbers that are checked, the model's waitOf and WaitBefore and TriesOf.
-/
import Derived.Test.YtfeeofablnjjdaaTryMath
import Derived.Test.YtfeeofablnjjdaaStInt
import Derived.Test.YtfeeofablnjjdaaBasic
import Derived.Deep.AppendLies
set_option linter.unusedSimpArgs false
namespace Go.Proofs.Ytfeeofablnjjdaa
open Go.RowKit
set_option linter.unusedVariables false

set_option maxHeartbeats 400000 in
theorem validWait_any (f : Int) (w : World) :
    Calls Try.prog 28 #[.int .i64 f] w fun e w' => e = .returned (.bool (Fares.waitOk f)) ∧ w = w' := by
  go_enter Try.func28, Try.ntmps28
  go_wp2
  all_goals (go_ret; exact ⟨ret_bool (by unfold Fares.waitOk; rw [Bool.eq_iff_iff]; simp only [decide_eq_true_eq, Bool.false_eq_true, true_iff, iff_true, false_iff, iff_false, Bool.true_eq_false]; omega), rfl⟩)

set_option maxRecDepth 100000 in
set_option maxHeartbeats 1000000 in
theorem specwaitOf_any (f : Int) (t : Nat) (w : World) (h0 : 1 ≤ f) (h1 : f ≤ 1440) (ht : t < 4) :
    Calls Try.prog 31 #[.int .i64 f, .int .i64 ((t : Int) + 1)] w fun e w' => e = .returned (.int .i64 (Fares.waitN f t)) ∧ w = w' := by
  go_enter Try.func31, Try.ntmps31
  go_wp2
  go_loop [6, 5] (fun i v => ∃ k : Nat, k ≤ t ∧ i = .int .i64 ((k : Int) + 1) ∧ v = .int .i64 (Fares.waitN f k)) (fun i _ => t + 1 - (intOf i).toNat)
  case atStart => exact ⟨0, Nat.zero_le _, rfl, rfl⟩
  case round =>
    obtain ⟨k, hk, rfl, rfl⟩ := hrel
    obtain ⟨b0, b1⟩ := Fares.waitN_in h0 h1 k
    by_cases hlt : k < t
    · have Hn := Lib.hid (Fares.waitN_next f k)
      generalize Fares.waitN f k = m at b0 b1 Hn ⊢
      have q1 : (k : Int) + 1 < (t : Int) + 1 := by omega
      go_wp2
      go_round
      case rel => exact ⟨k + 1, by omega, by go_num, by rw [Hn.out]⟩
      case measure => simp [intOf]; omega
    · have q1 : ¬ ((k : Int) + 1 < (t : Int) + 1) := by omega
      obtain rfl : k = t := by omega
      go_wp2
      go_ret
      exact ⟨rfl, rfl⟩

set_option maxRecDepth 100000 in
set_option maxHeartbeats 1000000 in
theorem specWaitBefore_any (f t : Int) (w : World) :
    Calls Try.prog 14 #[.int .i64 f, .int .i64 t] w fun e w' => e = .returned (.int .i64 (Fares.waitBefore f t)) ∧ w = w' := by
  by_cases h : 1 ≤ f ∧ f ≤ 1440 ∧ 1 ≤ t ∧ t ≤ 4
  · obtain ⟨f0, f1, t0, t1⟩ := h
    obtain ⟨k, rfl⟩ : ∃ k : Nat, t = (k : Int) + 1 := ⟨(t - 1).toNat, by omega⟩
    go_enter Try.func14, Try.ntmps14
    go_wp2_with fail
    refine (inRange_yes _ _ _ _ f0 f1).mono ?_
    rintro e w' ⟨rfl, rfl⟩
    go_wp2_with fail
    refine (inRange_yes _ _ _ _ t0 t1).mono ?_
    rintro e w' ⟨rfl, rfl⟩
    go_wp2_with fail
    refine (specwaitOf_any f k _ f0 f1 (by omega)).mono ?_
    rintro e w' ⟨rfl, rfl⟩
    go_wp2
    go_ret
    exact ⟨ret_int (Fares.waitBefore_at f0 f1 (by omega)).symm, rfl⟩
  · rw [Fares.waitBefore_no h]
    by_cases hf : 1 ≤ f ∧ f ≤ 1440
    · go_enter Try.func14, Try.ntmps14
      go_wp2_with fail
      refine (inRange_yes _ _ _ _ hf.1 hf.2).mono ?_
      rintro e w' ⟨rfl, rfl⟩
      go_wp2_with fail
      refine (inRange_no _ _ _ _ (by omega)).mono ?_
      rintro e w' ⟨rfl, rfl⟩
      go_wp2
      go_ret
      exact ⟨rfl, rfl⟩
    · go_enter Try.func14, Try.ntmps14
      go_wp2_with fail
      refine (inRange_no _ _ _ _ (by omega)).mono ?_
      rintro e w' ⟨rfl, rfl⟩
      go_wp2
      go_ret
      exact ⟨rfl, rfl⟩

set_option maxRecDepth 100000 in
set_option maxHeartbeats 2000000 in
theorem specTriesOf_any (b f : Int) (w : World) :
    Calls Try.prog 18 #[.int .i64 b, .int .i64 f] w fun e w' => ∃ v, e = .returned v ∧ OwnInts w' w.heap.size v (Fares.triesOf b f) ∧ Below w.heap.size w w' := by
  by_cases h : 0 ≤ b ∧ b ≤ 40319 ∧ 1 ≤ f ∧ f ≤ 1440
  · have Ht := Lib.hid (Fares.triesOf_yes h)
    obtain ⟨b0, b1, f0, f1⟩ := h
    obtain ⟨ti, hi0, hz0, hz1, hz2⟩ := info_parts info_int
    have HI := Lib.hid hi0; clear hi0
    have HZ0 := Lib.hid hz0; clear hz0
    have HZ1 := Lib.hid hz1; clear hz1
    have HZ2 := Lib.hid hz2; clear hz2
    go_enter Try.func18, Try.ntmps18
    go_wp2_with fail
    refine (inRange_yes _ _ _ _ b0 b1).mono ?_
    rintro e w' ⟨rfl, rfl⟩
    go_wp2_with fail
    refine (inRange_yes _ _ _ _ f0 f1).mono ?_
    rintro e w' ⟨rfl, rfl⟩
    go_wp2
    go_loopw [7, 6, 5] (fun i s v wr => ∃ k : Nat, k ≤ 4 ∧ i = .int .i64 ((k : Int) + 1) ∧ s = .int .i64 (Fares.sumOf f b (List.range k)) ∧ Fares.sumOf f b (List.range k) ≤ 40319 ∧ OwnInts wr w.heap.size v (Fares.minsOf f b (List.range k)) ∧ Below w.heap.size w wr) (fun i _ _ _ => 5 - (intOf i).toNat)
    case atStart => exact ⟨0, Nat.zero_le _, rfl, rfl, b1, show OwnInts _ w.heap.size _ [] from World.ownsRow_lit (base := w.heap.size) (e := 3) (size := 1) w #[] 0 (Nat.le_refl _) (by unfold maxLen; omega) rfl, bA (Below.refl _ _) _⟩
    case round =>
      obtain ⟨k, hk, rfl, rfl, hs, hown, hb⟩ := hrel
      obtain ⟨s0, s1⟩ := Fares.sumOf_in f0 f1 (List.range k) b
      by_cases hlt : k < 4
      · obtain ⟨n0, n1⟩ := Fares.waitN_in f0 f1 k
        have hlen : (Fares.minsOf f b (List.range k)).length = k := by rw [Fares.minsOf_length, List.length_range]
        have q1 : (k : Int) + 1 ≤ 4 := by omega
        have Hsn := Lib.hid (Fares.sumOf_snoc f k (List.range k) b)
        have Hmn := Lib.hid (Fares.minsOf_snoc f k (List.range k) b)
        rw [← List.range_succ] at Hsn Hmn
        have Hst := Lib.hid (fun h => Fares.tries_stop f0 f1 hlt hs h)
        obtain ⟨s, Es⟩ : ∃ s, Fares.sumOf f b (List.range k) = s := ⟨_, rfl⟩
        obtain ⟨m, Em⟩ : ∃ m, Fares.waitN f k = m := ⟨_, rfl⟩
        rw [Es, Em] at Hsn Hmn Hst
        rw [Es] at hs s0 s1 ⊢
        rw [Em] at n0 n1
        clear Es
        obtain ⟨Av, cv, rfl, hcv1, hcv2, _⟩ := hown.form
        unfold OwnInts at hown
        rw [hlen] at hcv1 hown ⊢
        have Hlen := Lib.hid hlen; clear hlen
        have Hown := Lib.hid hown; clear hown
        go_wp2_with fail
        refine (specwaitOf_any f k _ f0 f1 hlt).mono ?_
        rw [Em]
        rintro e w' ⟨rfl, rfl⟩
        by_cases hgt : 40319 < s + m
        · go_wp2
          go_ret
          refine ⟨_, rfl, ?_, hb⟩
          rw [Ht.out, ← Hst.out hgt]
          unfold OwnInts
          rw [Hlen.out]
          exact Hown.out
        · have hle : s + m ≤ 40319 := by omega
          go_wp2_with (at_builtin; refine wpList_append_lies _ rfl (.tmp 30) (.tmp 32) _ rfl w.heap.size 3 ti _ 1 8 Try.underlying27 HI.out HZ0.out HZ1.out HZ2.out rfl (by omega) _ _ _ rfl (World.ownsRow.alloc (w := wr) Hown.out _) ⟨wr.heap.size, 0, none⟩ 1 1 (intCells (s + m)) rfl rfl ?c1 ?c2 (by omega) ?c3 ?c4 ?c5 _ rfl ?_)
          case c1 => exact World.news_of_block (heap_alloc_new wr (.cells #[.int .i64 (s + m)] 3))
          case c2 => simp [intCells, Value.oneCell']
          case c3 => unfold maxLen; omega
          case c4 => omega
          case c5 => have := hb.size; simp; omega
          intro g cap w2 hown2 hgrow hat hlt2
          have hb4 : Below w.heap.size w w2 := Below.grown (bA hb _) hgrow (by have := hb.size; simp; omega) (fun r hr => (World.ownsRow.lt Hown.out r hr).1)
          have Hown2 := Lib.hid hown2; clear hown2 hgrow hat
          go_wp2
          go_roundw
          case rel => exact ⟨k + 1, by omega, by go_num, by rw [Hsn.out], by rw [Hsn.out]; omega, by
            rw [Hmn.out]
            have h := Hown2.out
            have hl := Hlen.out
            generalize Fares.minsOf f b (List.range k) = out at h hl ⊢
            subst hl
            exact OwnInts.snoc h, hb4⟩
          case measure => simp [intOf]; omega
      · obtain rfl : k = 4 := by omega
        have q1 : ¬ (((4 : Nat) : Int) + 1 ≤ 4) := by omega
        go_wp2
        go_ret
        exact ⟨_, rfl, by rw [Ht.out, ← Fares.tries_end f0 f1 hs]; exact hown, hb⟩
  · rw [Fares.triesOf_no h]
    by_cases hb : 0 ≤ b ∧ b ≤ 40319
    · go_enter Try.func18, Try.ntmps18
      go_wp2_with fail
      refine (inRange_yes _ _ _ _ hb.1 hb.2).mono ?_
      rintro e w' ⟨rfl, rfl⟩
      go_wp2_with fail
      refine (inRange_no _ _ _ _ (by omega)).mono ?_
      rintro e w' ⟨rfl, rfl⟩
      go_wp2
      go_ret
      exact ⟨_, rfl, OwnInts.none_ _ _, bA (Below.refl _ _) _⟩
    · go_enter Try.func18, Try.ntmps18
      go_wp2_with fail
      refine (inRange_no _ _ _ _ (by omega)).mono ?_
      rintro e w' ⟨rfl, rfl⟩
      go_wp2
      go_ret
      exact ⟨_, rfl, OwnInts.none_ _ _, bA (Below.refl _ _) _⟩
end Go.Proofs.Ytfeeofablnjjdaa
