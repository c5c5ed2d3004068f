/-
  Chapter 19: what differs between amounts of days, and adjustments laid on them: the program's functions and their models.
-/
import Derived.Test.YtnlnlcllnbggdaaAdjMath
import Derived.Test.YtnlnlcllnbggdaaStAdjust
import Derived.Test.YtnlnlcllnbggdaaStInt
import Derived.Test.YtnlnlcllnbggdaaAscFn
import Derived.Test.YtnlnlcllnbggdaaDrawSpoil
import Derived.Test.YtnlnlcllnbggdaaCloneInt
import Derived.Test.YtnlnlcllnbggdaaOwnCell
import Derived.Test.YtnlnlcllnbggdaaReg
import Derived.Deep.AppendLies
set_option linter.unusedSimpArgs false
namespace Go.Proofs.Ytnlnlcllnbggdaa
open Go.RowKit Go.Deep
set_option linter.unusedVariables false

set_option maxHeartbeats 1000000 in
theorem validAmounts_any (A : Option Addr) (n c : Nat) (xs : List Int) (w : World) (hx : Ints w w.heap.size A xs) (hn : xs.length = n) (hl : n ≤ 1000000000) :
    Calls Try.prog 30 #[.slice A n c] w fun e w' => e = .returned (.bool (Fares.dueOk xs)) ∧ w = w' := by
  subst hn
  by_cases h : xs.length = 29
  · have HE := Lib.hid (show Fares.within xs 100000 = Fares.dueOk xs by unfold Fares.dueOk; rw [decide_eq_true h, Bool.true_and])
    have e29 : ((xs.length : Int) == 29) = true := by simp; omega
    have H := Lib.hid h; clear h
    go_enter Try.func30, Try.ntmps30
    go_wp2_with (go_at_call 42; refine (implallWithin_gen 100000 A _ c xs _ hx rfl hl).mono ?_; rintro e w' ⟨rfl, rfl⟩)
    go_ret
    exact ⟨ret_bool HE.out, rfl⟩
  · have HE := Lib.hid (show Fares.dueOk xs = false by unfold Fares.dueOk; rw [decide_eq_false h, Bool.false_and])
    have e29 : ((xs.length : Int) == 29) = false := by simp; omega
    have H := Lib.hid h; clear h
    go_enter Try.func30, Try.ntmps30
    go_wp2
    go_ret
    exact ⟨ret_bool HE.out.symm, rfl⟩
set_option maxHeartbeats 1000000 in
theorem validDue_any (A : Option Addr) (n c : Nat) (xs : List Int) (w : World) (hx : Ints w w.heap.size A xs) (hn : xs.length = n) (hl : n ≤ 1000000000) :
    Calls Try.prog 29 #[.slice A n c] w fun e w' => e = .returned (.bool (Fares.dueOk xs)) ∧ w = w' := by
  subst hn
  by_cases h : xs.length = 29
  · have HE := Lib.hid (show Fares.within xs 100000 = Fares.dueOk xs by unfold Fares.dueOk; rw [decide_eq_true h, Bool.true_and])
    have e29 : ((xs.length : Int) == 29) = true := by simp; omega
    have H := Lib.hid h; clear h
    go_enter Try.func29, Try.ntmps29
    go_wp2_with (go_at_call 41; refine (specallIn_gen 100000 A _ c xs _ hx rfl hl).mono ?_; rintro e w' ⟨rfl, rfl⟩)
    go_ret
    exact ⟨ret_bool HE.out, rfl⟩
  · have HE := Lib.hid (show Fares.dueOk xs = false by unfold Fares.dueOk; rw [decide_eq_false h, Bool.false_and])
    have e29 : ((xs.length : Int) == 29) = false := by simp; omega
    have H := Lib.hid h; clear h
    go_enter Try.func29, Try.ntmps29
    go_wp2
    go_ret
    exact ⟨ret_bool HE.out.symm, rfl⟩
set_option maxHeartbeats 1000000 in
theorem fits_any (c : Fares.Adjust) (x : Int) (w : World) (h0 : 0 ≤ x) (h1 : x ≤ 100000) :
    Calls Try.prog 33 #[adjustV c, .int .i64 x] w fun e w' => e = .returned (.bool (decide (0 ≤ x + c.a ∧ x + c.a ≤ 100000))) ∧ Below w.heap.size w w' := by
  unfold adjustV
  by_cases g0 : -x ≤ c.a
  · by_cases g1 : c.a ≤ 100000 - x
    · rw [decide_eq_true (show 0 ≤ x + c.a ∧ x + c.a ≤ 100000 by omega)]
      go_enter Try.func33, Try.ntmps33
      go_wp2
      all_goals first | (go_ret; exact ⟨ret_bool (by first | rfl | (simp; done) | (simp; omega)), bA (Below.refl _ _) _⟩) | (exfalso; omega)
    · rw [decide_eq_false (show ¬ (0 ≤ x + c.a ∧ x + c.a ≤ 100000) by omega)]
      go_enter Try.func33, Try.ntmps33
      go_wp2
      all_goals first | (go_ret; exact ⟨ret_bool (by first | rfl | (simp; done) | (simp; omega)), bA (Below.refl _ _) _⟩) | (exfalso; omega)
  · rw [decide_eq_false (show ¬ (0 ≤ x + c.a ∧ x + c.a ≤ 100000) by omega)]
    go_enter Try.func33, Try.ntmps33
    go_wp2
    all_goals first | (go_ret; exact ⟨ret_bool (by first | rfl | (simp; done) | (simp; omega)), bA (Below.refl _ _) _⟩) | (exfalso; omega)
set_option maxRecDepth 100000 in
set_option maxHeartbeats 2000000 in
theorem validChanges_any (A : Option Addr) (n c : Nat) (cs : List Fares.Adjust) (w : World) (hx : Adjusts w w.heap.size A cs) (hn : cs.length = n) (hl : n ≤ 1048576) :
    Calls Try.prog 31 #[.slice A n c] w fun e w' => e = .returned (.bool (Fares.ascends (cs.map (·.d)) 28)) ∧ Below w.heap.size w w' := by
  subst hn
  obtain ⟨Z, hZ, hmk⟩ := run_make_n (P := Try.prog) 23 3 _ 1 8 Try.underlying23 info_int cs.length (by omega) (by omega)
  have HZ := Lib.hid hZ; clear hZ
  go_enter Try.func31, Try.ntmps31
  go_wp2
  clear hmk
  go_loopw [11] (fun i wr => ∃ k : Nat, k ≤ cs.length ∧ i = .int .i64 k ∧ Below w.heap.size w wr ∧ Starts wr w.heap.size 3 cs.length (((cs.map (·.d)).take k).flatMap intCells)) (fun i _ => cs.length - (intOf i).toNat)
  case atStart => exact ⟨0, Nat.zero_le _, rfl, bA (Below.refl _ _) _, Z, Blk.new _ _ _, by have := HZ.out; omega, by simp⟩
  case round =>
    obtain ⟨k, hk, rfl, hb, hst⟩ := hrel
    have hs1 : w.heap.size < wr.heap.size := hst.lt
    by_cases hlt : k < cs.length
    · obtain ⟨c, hck⟩ : ∃ c, cs[k]? = some c := ⟨cs[k], List.getElem?_eq_getElem hlt⟩
      obtain ⟨b1, o1, rfl, hb1, hr1⟩ := hx.row (by omega)
      obtain ⟨p0, p1⟩ := (hr1 k c hck).below hb hb1
      obtain ⟨_, q0, q1⟩ := AdjustBox.new wr c 34
      have Hck := Lib.hid (show (cs.map (·.d))[k]? = some c.d by rw [List.getElem?_map, hck]; rfl)
      have hba := bA hb (.cells #[.int .i64 c.d, .int .i64 c.a] 34)
      have hsta := hst.below (bA (Below.refl wr.heap.size wr) (.cells #[.int .i64 c.d, .int .i64 c.a] 34)) hs1
      obtain ⟨u0, t0⟩ := hsta.there (i := k) (by omega)
      have e0 := hsta.free k
      have Hst := Lib.hid hst; clear hsta hst
      have Hb := Lib.hid hb; clear hb hba
      clear hck hr1 hx
      have i0 : (0 : Int) ≤ (k : Int) := by omega
      have i1 : (k : Int) < (cs.length : Int) := by omega
      go_wp2
      go_roundw
      case rel => exact ⟨k + 1, by omega, by go_num, bA (below_setCells (Nat.le_refl _) (intCells c.d) wr k Hb.out) _, by
        have h9 := Hst.out.next intCells 1 (fun _ => rfl) Hck.out (by omega)
        rw [Nat.mul_one] at h9
        exact h9.below (bA (Below.refl _ _) _) h9.lt⟩
      case measure => simp [intOf]; omega
    · rw [List.take_of_length_le (by simp; omega)] at hst
      have hr : Ints wr wr.heap.size _ (cs.map (·.d)) := hst.reads
      have Hst := Lib.hid hr; clear hr hst
      go_wp2_with fail
      refine (ascendWithin_any 28 _ _ _ (cs.map (·.d)) _ Hst.out (by simp) (by omega)).mono ?_
      rintro e w' ⟨rfl, rfl⟩
      go_wp2
      go_ret
      exact ⟨rfl, hb⟩
set_option maxRecDepth 100000 in
set_option maxHeartbeats 2000000 in
theorem changesBetween_any (A B : Option Addr) (n m c d : Nat) (us vs : List Int) (w : World) (ha : Ints w w.heap.size A us) (hb : Ints w w.heap.size B vs) (hn : us.length = n) (hm : vs.length = m) (hl : n ≤ 1000000000) (hl2 : m ≤ 1000000000) :
    Calls Try.prog 28 #[.slice A n c, .slice B m d] w fun e w' => ∃ v, e = .returned (.tuple #[v, .bool (Fares.dueOk us && Fares.dueOk vs)]) ∧ OwnAdjusts w' w.heap.size v (Fares.adjustments us vs) ∧ Below w.heap.size w w' := by
  subst hn
  subst hm
  obtain ⟨ti, hi0, hz0, hz1, hz2⟩ := info_parts info_adjust
  have HIAdjust := Lib.hid hi0; clear hi0
  have HZ0Adjust := Lib.hid hz0; clear hz0
  have HZ1Adjust := Lib.hid hz1; clear hz1
  have HZ2Adjust := Lib.hid hz2; clear hz2
  by_cases h1 : Fares.dueOk us = true
  · by_cases h2 : Fares.dueOk vs = true
    · obtain ⟨a29, ain⟩ := Fares.dueOk_iff.1 h1
      obtain ⟨b29, bin⟩ := Fares.dueOk_iff.1 h2
      have Ha29 := Lib.hid a29; clear a29
      have Hb29 := Lib.hid b29; clear b29
      have Hain := Lib.hid ain; clear ain
      have Hbin := Lib.hid bin; clear bin
      have HM := Lib.hid (show Fares.adjustments us vs = Fares.diffs us vs 29 by unfold Fares.adjustments; rw [h1, h2]; rfl)
      go_enter Try.func28, Try.ntmps28
      go_wp2_with fail
      refine (validAmounts_any A _ c us _ ha rfl (by omega)).mono ?_
      rw [h1]
      rintro e w' ⟨rfl, rfl⟩
      go_wp2_with fail
      refine (validAmounts_any B _ d vs _ hb rfl (by omega)).mono ?_
      rw [h2]
      rintro e w' ⟨rfl, rfl⟩
      go_wp2
      go_loopw [6, 19] (fun v i wr => ∃ k : Nat, k ≤ 29 ∧ i = .int .i64 k ∧ OwnAdjusts wr w.heap.size v (Fares.diffs us vs k) ∧ Below w.heap.size w wr) (fun _ i _ => 29 - (intOf i).toNat)
      case atStart => exact ⟨0, by omega, rfl, OwnAdjusts.none_ _ _, Below.refl _ _⟩
      case round =>
        obtain ⟨k, hk, rfl, hown, hB⟩ := hrel
        have HB := Lib.hid hB; clear hB
        have hyl := Fares.diffs_length us vs k
        obtain ⟨ys, hys⟩ : ∃ ys, Fares.diffs us vs k = ys := ⟨_, rfl⟩
        rw [hys] at hown hyl
        have Hys := Lib.hid hys; clear hys
        obtain ⟨Av, cv, rfl, hcv1, hcv2, hrs⟩ := hown.form
        clear hrs
        unfold maxLen at hcv2
        have Hown := Lib.hid hown; clear hown
        have hBs := HB.out.size
        by_cases hlt : k < 29
        · obtain ⟨x, hx⟩ : ∃ x, us[k]? = some x := ⟨_, List.getElem?_eq_getElem (by have := Ha29.out; omega)⟩
          obtain ⟨y, hy⟩ : ∃ y, vs[k]? = some y := ⟨_, List.getElem?_eq_getElem (by have := Hb29.out; omega)⟩
          have hnx := Fares.nth_of hx
          have hny := Fares.nth_of hy
          have hx01 : 0 ≤ x ∧ x ≤ 100000 := hnx ▸ Hain.out k hlt
          have hy01 : 0 ≤ y ∧ y ≤ 100000 := hny ▸ Hbin.out k hlt
          obtain ⟨x0, x1⟩ := hx01
          obtain ⟨y0, y1⟩ := hy01
          obtain ⟨b1, o1, rfl, hb1, hr1⟩ := ha.row (by have := Ha29.out; omega)
          obtain ⟨b2, o2, rfl, hb2, hr2⟩ := hb.row (by have := Hb29.out; omega)
          have p0 := (HB.out.cell (p := ⟨b1, o1 + k, none⟩) hb1).trans (hr1 k x hx)
          have q0 := (HB.out.cell (p := ⟨b2, o2 + k, none⟩) hb2).trans (hr2 k y hy)
          have i0 : (0 : Int) ≤ (k : Int) := by omega
          have i1 : (k : Int) < (us.length : Int) := by have := Ha29.out; omega
          have i2 : (k : Int) < (vs.length : Int) := by have := Hb29.out; omega
          have i3 : (k : Int) ≤ 28 := by omega
          by_cases hne : x = y
          · have Hn := Lib.hid (show Fares.diffs us vs (k + 1) = ys by rw [Fares.diffs_same (by rw [hnx, hny]; exact hne), Hys.out])
            have d0 : (y != x) = false := by simp; omega
            have d1 : (x != y) = false := by simp; omega
            clear hne hnx hny hr1 hr2 hx hy ha hb
            go_wp2
            go_roundw
            case rel => exact ⟨k + 1, by omega, by go_num, by rw [Hn.out]; exact Hown.out, by first | exact HB.out | exact bD1 HB.out | exact bD HB.out _⟩
            case measure => simp [intOf]; omega
          · have Hn := Lib.hid (show Fares.diffs us vs (k + 1) = ys ++ [⟨k, y - x⟩] by rw [Fares.diffs_other (by rw [hnx, hny]; exact hne), Hys.out, hnx, hny])
            have d0 : (y != x) = true := by simp; omega
            have d1 : (x != y) = true := by simp; omega
            clear hne hnx hny hr1 hr2 hx hy ha hb
            have hsz3 := (HB.out).size
            go_wp2_with (at_builtin; refine wpList_append_lies _ rfl (.tmp 30) (.tmp 39) _ rfl (w.heap.size) 34 ti _ 2 16 Try.underlying26 HIAdjust.out HZ0Adjust.out HZ1Adjust.out HZ2Adjust.out rfl (by omega) _ _ _ rfl (World.ownsRow.alloc Hown.out _) ⟨wr.heap.size, 0, none⟩ 1 1 (adjustCells ⟨(k : Int), y - x⟩) rfl rfl ?c1 ?c2 (by omega) ?c3 ?c4 ?c5 _ rfl ?_)
            case c1 => exact World.news_of_block (Blk.new' (t := 34) (cs := #[.int .i64 (k : Int), .int .i64 (y - x)]) (by simp))
            case c2 => simp [adjustCells, Value.oneCell']
            case c3 => unfold maxLen; omega
            case c4 => omega
            case c5 => first | omega | (simp; omega) | simp
            intro gb3 cap3 w3 hown3 hgrow3 hat3 hlt3
            have HX3 := Lib.hid (OwnAdjusts.snoc hown3); clear hown3 hat3
            have HB3 := Lib.hid (Below.grown (bA HB.out _) hgrow3 (Below.size (bA HB.out _)) (fun r hr => (World.ownsRow.lt Hown.out r hr).1))
            clear HB
            clear hgrow3
            clear Hown
            go_wp2
            go_roundw
            case rel => exact ⟨k + 1, by omega, by go_num, by rw [Hn.out]; exact HX3.out, HB3.out⟩
            case measure => simp [intOf]; omega
        · have hk29 : k = 29 := by omega
          have i9 : ¬ (k < vs.length) := by have := Hb29.out; omega
          have i8 : decide ((k : Int) ≤ 28) = false := by simp; omega
          rw [hk29] at Hys
          clear hk29
          go_wp2
          go_ret2
          exact ⟨_, by rw [h1, h2]; rfl, by rw [HM.out, Hys.out]; exact Hown.out, HB.out⟩
    · have h2' : Fares.dueOk vs = false := by simpa using h2
      have HM := Lib.hid (show Fares.adjustments us vs = [] by unfold Fares.adjustments; rw [h2', Bool.and_false]; rfl)
      go_enter Try.func28, Try.ntmps28
      go_wp2_with fail
      refine (validAmounts_any A _ c us _ ha rfl (by omega)).mono ?_
      rw [h1]
      rintro e w' ⟨rfl, rfl⟩
      go_wp2_with fail
      refine (validAmounts_any B _ d vs _ hb rfl (by omega)).mono ?_
      rw [h2']
      rintro e w' ⟨rfl, rfl⟩
      go_wp2
      go_ret2
      exact ⟨_, by rw [h1, h2']; rfl, by rw [HM.out]; exact OwnAdjusts.none_ _ _, Below.refl _ _⟩
  · have h1' : Fares.dueOk us = false := by simpa using h1
    have HM := Lib.hid (show Fares.adjustments us vs = [] by unfold Fares.adjustments; rw [h1', Bool.false_and]; rfl)
    go_enter Try.func28, Try.ntmps28
    go_wp2_with fail
    refine (validAmounts_any A _ c us _ ha rfl (by omega)).mono ?_
    rw [h1']
    rintro e w' ⟨rfl, rfl⟩
    go_wp2
    go_ret2
    exact ⟨_, by rw [h1']; rfl, by rw [HM.out]; exact OwnAdjusts.none_ _ _, Below.refl _ _⟩
set_option maxHeartbeats 1000000 in
theorem implAdjustments_any (A B : Option Addr) (n m c d : Nat) (us vs : List Int) (w : World) (ha : Ints w w.heap.size A us) (hb : Ints w w.heap.size B vs) (hn : us.length = n) (hm : vs.length = m) (hl : n ≤ 1000000000) (hl2 : m ≤ 1000000000) :
    Calls Try.prog 9 #[.slice A n c, .slice B m d] w fun e w' => ∃ v, e = .returned v ∧ OwnAdjusts w' w.heap.size v (Fares.adjustments us vs) ∧ Below w.heap.size w w' := by
  go_enter Try.func9, Try.ntmps9
  go_wp2_with fail
  refine (changesBetween_any A B n m c d us vs w ha hb hn hm hl hl2).mono ?_
  rintro e w1 ⟨v, rfl, ho, hb1⟩
  have Ho := Lib.hid ho; clear ho
  go_wp2
  go_ret
  exact ⟨_, rfl, Ho.out, hb1⟩
set_option maxRecDepth 100000 in
set_option maxHeartbeats 2000000 in
theorem specAdjustments_any (A B : Option Addr) (n m c d : Nat) (us vs : List Int) (w : World) (ha : Ints w w.heap.size A us) (hb : Ints w w.heap.size B vs) (hn : us.length = n) (hm : vs.length = m) (hl : n ≤ 1000000000) (hl2 : m ≤ 1000000000) :
    Calls Try.prog 11 #[.slice A n c, .slice B m d] w fun e w' => ∃ v, e = .returned v ∧ OwnAdjusts w' w.heap.size v (Fares.adjustments us vs) ∧ Below w.heap.size w w' := by
  subst hn
  subst hm
  obtain ⟨ti, hi0, hz0, hz1, hz2⟩ := info_parts info_adjust
  have HIAdjust := Lib.hid hi0; clear hi0
  have HZ0Adjust := Lib.hid hz0; clear hz0
  have HZ1Adjust := Lib.hid hz1; clear hz1
  have HZ2Adjust := Lib.hid hz2; clear hz2
  have Hnew := Lib.hid (World.ownsRow_lit (base := w.heap.size) (e := 34) (size := 2) w #[] 0 (Nat.le_refl _) (by unfold maxLen; omega) rfl)
  have ha' := readsUp ha (.cells #[] 34)
  have hb' := readsUp hb (.cells #[] 34)
  by_cases h1 : Fares.dueOk us = true
  · by_cases h2 : Fares.dueOk vs = true
    · obtain ⟨a29, ain⟩ := Fares.dueOk_iff.1 h1
      obtain ⟨b29, bin⟩ := Fares.dueOk_iff.1 h2
      have Ha29 := Lib.hid a29; clear a29
      have Hb29 := Lib.hid b29; clear b29
      have Hain := Lib.hid ain; clear ain
      have Hbin := Lib.hid bin; clear bin
      have HM := Lib.hid (show Fares.adjustments us vs = Fares.diffs us vs 29 by unfold Fares.adjustments; rw [h1, h2]; rfl)
      go_enter Try.func11, Try.ntmps11
      go_wp2_with fail
      refine (validDue_any A _ c us _ ha' rfl (by omega)).mono ?_
      rw [h1]
      rintro e w' ⟨rfl, rfl⟩
      go_wp2_with fail
      refine (validDue_any B _ d vs _ hb' rfl (by omega)).mono ?_
      rw [h2]
      rintro e w' ⟨rfl, rfl⟩
      go_wp2
      clear ha' hb'
      go_loopw [5, 6] (fun v i wr => ∃ k : Nat, k ≤ 29 ∧ i = .int .i64 k ∧ OwnAdjusts wr w.heap.size v (Fares.diffs us vs k) ∧ Below w.heap.size w wr) (fun _ i _ => 29 - (intOf i).toNat)
      case atStart => exact ⟨0, by omega, rfl, Hnew.out, bA (Below.refl _ _) _⟩
      case round =>
        obtain ⟨k, hk, rfl, hown, hB⟩ := hrel
        have HB := Lib.hid hB; clear hB
        have hyl := Fares.diffs_length us vs k
        obtain ⟨ys, hys⟩ : ∃ ys, Fares.diffs us vs k = ys := ⟨_, rfl⟩
        rw [hys] at hown hyl
        have Hys := Lib.hid hys; clear hys
        obtain ⟨Av, cv, rfl, hcv1, hcv2, hrs⟩ := hown.form
        clear hrs
        unfold maxLen at hcv2
        have Hown := Lib.hid hown; clear hown
        have hBs := HB.out.size
        by_cases hlt : k < 29
        · obtain ⟨x, hx⟩ : ∃ x, us[k]? = some x := ⟨_, List.getElem?_eq_getElem (by have := Ha29.out; omega)⟩
          obtain ⟨y, hy⟩ : ∃ y, vs[k]? = some y := ⟨_, List.getElem?_eq_getElem (by have := Hb29.out; omega)⟩
          have hnx := Fares.nth_of hx
          have hny := Fares.nth_of hy
          have hx01 : 0 ≤ x ∧ x ≤ 100000 := hnx ▸ Hain.out k hlt
          have hy01 : 0 ≤ y ∧ y ≤ 100000 := hny ▸ Hbin.out k hlt
          obtain ⟨x0, x1⟩ := hx01
          obtain ⟨y0, y1⟩ := hy01
          obtain ⟨b1, o1, rfl, hb1, hr1⟩ := ha.row (by have := Ha29.out; omega)
          obtain ⟨b2, o2, rfl, hb2, hr2⟩ := hb.row (by have := Hb29.out; omega)
          have p0 := (HB.out.cell (p := ⟨b1, o1 + k, none⟩) hb1).trans (hr1 k x hx)
          have q0 := (HB.out.cell (p := ⟨b2, o2 + k, none⟩) hb2).trans (hr2 k y hy)
          have i0 : (0 : Int) ≤ (k : Int) := by omega
          have i1 : (k : Int) < (us.length : Int) := by have := Ha29.out; omega
          have i2 : (k : Int) < (vs.length : Int) := by have := Hb29.out; omega
          have i3 : (k : Int) ≤ 28 := by omega
          by_cases hne : x = y
          · have Hn := Lib.hid (show Fares.diffs us vs (k + 1) = ys by rw [Fares.diffs_same (by rw [hnx, hny]; exact hne), Hys.out])
            have d0 : (y != x) = false := by simp; omega
            have d1 : (x != y) = false := by simp; omega
            clear hne hnx hny hr1 hr2 hx hy ha hb
            go_wp2
            go_quiet (fail)
            go_wp2
            go_roundw
            case rel => exact ⟨k + 1, by omega, by go_num, by rw [Hn.out]; exact Hown.out, by first | exact HB.out | exact bD1 HB.out | exact bD HB.out _⟩
            case measure => simp [intOf]; omega
          · have Hn := Lib.hid (show Fares.diffs us vs (k + 1) = ys ++ [⟨k, y - x⟩] by rw [Fares.diffs_other (by rw [hnx, hny]; exact hne), Hys.out, hnx, hny])
            have d0 : (y != x) = true := by simp; omega
            have d1 : (x != y) = true := by simp; omega
            have Hr1 := Lib.hid (hr1 k x hx); clear hr1
            have Hr2 := Lib.hid (hr2 k y hy); clear hr2
            clear hne hnx hny hx hy ha hb
            go_wp2
            go_quiet (fail)
            generalize hwq : wr.drewN nq = wq
            have p0 : wq.cell? ⟨b1, o1 + k, none⟩ = some (.int .i64 x) := by rw [← hwq]; exact p0
            have q0 : wq.cell? ⟨b2, o2 + k, none⟩ = some (.int .i64 y) := by rw [← hwq]; exact q0
            have HBq := Lib.hid (show Below w.heap.size w wq by rw [← hwq]; exact bD HB.out nq)
            have Hownq := Lib.hid (show OwnAdjusts wq w.heap.size (.slice Av ys.length cv) ys by rw [← hwq]; exact Hown.out)
            have hBq := HBq.out.size
            clear hwq
            have W9 : IntKind.i64.wrap (y - x) = y - x := IntWalk.i64_in _ (by omega)
            go_wp2
            refine wp_region_held_drew (S := fun w' => w'.cell? ⟨b1, o1 + k, none⟩ = some (.int .i64 x) ∧ w'.cell? ⟨b2, o2 + k, none⟩ = some (.int .i64 y)) (by kernel_rfl) (by exact ⟨p0, q0⟩) (fun hS => ?_)
            refine take_at 0 29 (v := ?_) rfl rfl (by kernel_rfl) (by kernel_rfl) (by kernel_rfl) (fun _ _ _ h => h) (by rfl) ?_ hS ?_
            rotate_left 1
            · (intro w hSw; (try dsimp only at hSw); (try go_split_ands); go_simp; try with_reducible rfl)
            simp only [List.setIfInBounds_toArray, List.set_cons_zero, List.set_cons_succ]
            refine take_at 1 30 (v := ?_) rfl rfl (by kernel_rfl) (by kernel_rfl) (by kernel_rfl) (fun _ _ _ h => h) (by rfl) ?_ hS ?_
            rotate_left 1
            · (intro w hSw; (try dsimp only at hSw); (try go_split_ands); go_simp; try with_reducible rfl)
            simp only [List.setIfInBounds_toArray, List.set_cons_zero, List.set_cons_succ]
            refine take_at 2 31 (v := ?_) rfl rfl (by kernel_rfl) (by kernel_rfl) (by kernel_rfl) (fun _ _ _ h => h) (by rfl) ?_ hS ?_
            rotate_left 1
            · (intro w hSw; (try dsimp only at hSw); (try go_split_ands); go_simp; try with_reducible rfl)
            simp only [List.setIfInBounds_toArray, List.set_cons_zero, List.set_cons_succ]
            refine take_at 3 32 (v := ?_) rfl rfl (by kernel_rfl) (by kernel_rfl) (by kernel_rfl) (fun _ _ _ h => h) (by rfl) ?_ hS ?_
            rotate_left 1
            · (intro w hSw; (try dsimp only at hSw); (try go_split_ands); go_simp; try with_reducible rfl)
            simp only [List.setIfInBounds_toArray, List.set_cons_zero, List.set_cons_succ]
            refine take_at 4 33 (v := ?_) rfl rfl (by kernel_rfl) (by kernel_rfl) (by kernel_rfl) (fun _ _ _ h => h) (by rfl) ?_ hS ?_
            rotate_left 1
            · (intro w hSw; (try dsimp only at hSw); (try go_split_ands); go_simp; try with_reducible rfl)
            simp only [List.setIfInBounds_toArray, List.set_cons_zero, List.set_cons_succ]
            refine take_at 5 34 (v := ?_) rfl rfl (by kernel_rfl) (by kernel_rfl) (by kernel_rfl) (fun _ _ _ h => h) (by rfl) ?_ hS ?_
            rotate_left 1
            · (intro w hSw; (try dsimp only at hSw); (try go_split_ands); go_simp; try with_reducible rfl)
            simp only [List.setIfInBounds_toArray, List.set_cons_zero, List.set_cons_succ]
            refine take_at 6 35 (v := ?_) rfl rfl (by kernel_rfl) (by kernel_rfl) (by kernel_rfl) (fun _ _ _ h => h) (by rfl) ?_ hS ?_
            rotate_left 1
            · (intro w hSw; (try dsimp only at hSw); (try go_split_ands); go_simp; try with_reducible rfl)
            simp only [List.setIfInBounds_toArray, List.set_cons_zero, List.set_cons_succ]
            refine take_at 7 36 (v := ?_) rfl rfl (by kernel_rfl) (by kernel_rfl) (by kernel_rfl) (fun _ _ _ h => h) (by rfl) ?_ hS ?_
            rotate_left 1
            · (intro w hSw; (try dsimp only at hSw); (try go_split_ands); go_simp; try with_reducible rfl)
            simp only [List.setIfInBounds_toArray, List.set_cons_zero, List.set_cons_succ]
            refine take_at 8 37 (v := ?_) rfl rfl (by kernel_rfl) (by kernel_rfl) (by kernel_rfl) (fun _ _ _ h => h) (by rfl) ?_ hS ?_
            rotate_left 1
            · (intro w hSw; (try dsimp only at hSw); (try go_split_ands); go_simp; try with_reducible rfl)
            simp only [List.setIfInBounds_toArray, List.set_cons_zero, List.set_cons_succ]
            refine take_at 9 38 (v := ?_) rfl rfl (by kernel_rfl) (by kernel_rfl) (by kernel_rfl) (fun _ _ _ h => h) (by rfl) ?_ hS ?_
            rotate_left 1
            · (intro w hSw; (try dsimp only at hSw); (try go_split_ands); go_simp; try with_reducible rfl)
            simp only [List.setIfInBounds_toArray, List.set_cons_zero, List.set_cons_succ]
            refine take_at 10 39 (v := ?_) rfl rfl (by kernel_rfl) (by kernel_rfl) (by kernel_rfl) (fun _ _ _ h => h) (by rfl) ?_ hS ?_
            rotate_left 1
            · (intro w hSw; (try dsimp only at hSw); (try go_split_ands); go_simp; try with_reducible rfl)
            simp only [List.setIfInBounds_toArray, List.set_cons_zero, List.set_cons_succ]
            refine take_at 11 40 (v := ?_) rfl rfl (by kernel_rfl) (by kernel_rfl) (by kernel_rfl) (fun _ _ _ h => h) (by rfl) ?_ hS ?_
            rotate_left 1
            · (intro w hSw; (try dsimp only at hSw); (try go_split_ands); go_simp; try with_reducible rfl)
            simp only [List.setIfInBounds_toArray, List.set_cons_zero, List.set_cons_succ]
            refine wpAnyH_ready (rs := [12]) (by kernel_rfl) (by simp) ?_
            refine AllReadyH.cons rfl (fun K hK => ?_) (AllReadyH.nil)
            go_simp
            refine hK.out _ _ (by exact ⟨(Below.cell (bA (bD1 HBq.out) _) (p := ⟨b1, o1 + k, none⟩) hb1).trans Hr1.out, (Below.cell (bA (bD1 HBq.out) _) (p := ⟨b2, o2 + k, none⟩) hb2).trans Hr2.out⟩) (fun hS => ?_)
            clear hK K
            refine wpAnyH_ready (rs := [13]) (by kernel_rfl) (by simp) ?_
            refine AllReadyH.cons rfl (fun K hK => ?_) (AllReadyH.nil)
            have hsz3 := (HBq.out).size
            refine step_append_lies _ rfl (.tmp 29) (.tmp 41) _ rfl (w.heap.size) 34 ti _ 2 16 Try.underlying26 HIAdjust.out HZ0Adjust.out HZ1Adjust.out HZ2Adjust.out rfl (by omega) _ _ _ rfl (World.ownsRow.alloc (ownDrew Hownq.out) _) ⟨wq.heap.size, 0, none⟩ 1 1 (adjustCells ⟨(k : Int), y - x⟩) rfl rfl ?c1 ?c2 (by omega) ?c3 ?c4 ?c5 _ rfl ?_
            case c1 => exact World.news_of_block (Blk.new' (t := 34) (cs := #[.int .i64 (k : Int), .int .i64 (y - x)]) (by simp))
            case c2 => simp [adjustCells, Value.oneCell']
            case c3 => unfold maxLen; omega
            case c4 => omega
            case c5 => first | omega | (simp; omega) | simp
            intro gb3 cap3 w3 hown3 hgrow3 hat3 hlt3
            have HX3 := Lib.hid (OwnAdjusts.snoc hown3); clear hown3 hat3
            have HB3 := Lib.hid (Below.grown (bA (bD1 HBq.out) _) hgrow3 (Below.size (bA (bD1 HBq.out) _)) (fun r hr => (World.ownsRow.lt Hownq.out r hr).1))
            clear HBq
            clear hgrow3
            go_simp
            refine hK.out _ _ (by exact ⟨(Below.cell HB3.out (p := ⟨b1, o1 + k, none⟩) hb1).trans Hr1.out, (Below.cell HB3.out (p := ⟨b2, o2 + k, none⟩) hb2).trans Hr2.out⟩) (fun hS => ?_)
            clear hK K
            refine take_at 14 5 (v := ?_) rfl rfl (by kernel_rfl) (by kernel_rfl) (by kernel_rfl) (fun _ _ _ h => h) (by rfl) ?_ hS ?_
            rotate_left 1
            · (intro w hSw; (try dsimp only at hSw); (try go_split_ands); go_simp; try with_reducible rfl)
            simp only [List.setIfInBounds_toArray, List.set_cons_zero, List.set_cons_succ]
            refine wpAnyH_done (by kernel_rfl) ?_ _
            go_wp2
            go_roundw
            case rel => exact ⟨k + 1, by omega, by go_num, by rw [Hn.out]; exact HX3.out, HB3.out⟩
            case measure => simp [intOf]; omega
        · have hk29 : k = 29 := by omega
          have i9 : ¬ (k < vs.length) := by have := Hb29.out; omega
          have i8 : decide ((k : Int) ≤ 28) = false := by simp; omega
          rw [hk29] at Hys
          clear hk29
          go_wp2
          go_ret
          exact ⟨_, rfl, by rw [HM.out, Hys.out]; exact Hown.out, HB.out⟩
    · have h2' : Fares.dueOk vs = false := by simpa using h2
      have HM := Lib.hid (show Fares.adjustments us vs = [] by unfold Fares.adjustments; rw [h2', Bool.and_false]; rfl)
      go_enter Try.func11, Try.ntmps11
      go_wp2_with fail
      refine (validDue_any A _ c us _ ha' rfl (by omega)).mono ?_
      rw [h1]
      rintro e w' ⟨rfl, rfl⟩
      go_wp2_with fail
      refine (validDue_any B _ d vs _ hb' rfl (by omega)).mono ?_
      rw [h2']
      rintro e w' ⟨rfl, rfl⟩
      go_wp2
      go_ret
      exact ⟨_, rfl, by rw [HM.out]; exact OwnAdjusts.none_ _ _, bA (Below.refl _ _) _⟩
  · have h1' : Fares.dueOk us = false := by simpa using h1
    have HM := Lib.hid (show Fares.adjustments us vs = [] by unfold Fares.adjustments; rw [h1', Bool.false_and]; rfl)
    go_enter Try.func11, Try.ntmps11
    go_wp2_with fail
    refine (validDue_any A _ c us _ ha' rfl (by omega)).mono ?_
    rw [h1']
    rintro e w' ⟨rfl, rfl⟩
    go_wp2
    go_ret
    exact ⟨_, rfl, by rw [HM.out]; exact OwnAdjusts.none_ _ _, bA (Below.refl _ _) _⟩
end Go.Proofs.Ytnlnlcllnbggdaa
