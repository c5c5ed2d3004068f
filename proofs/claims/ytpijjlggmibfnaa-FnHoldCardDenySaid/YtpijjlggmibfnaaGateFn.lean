/-
  Validators that are valid: the model's check.
-/
import Derived.Test.YtpijjlggmibfnaaGateOwn
import Derived.Test.YtpijjlggmibfnaaSubQuiet
set_option linter.unusedSimpArgs false
namespace Go.Proofs.Ytpijjlggmibfnaa
open Go.RowKit Go.Deep
set_option linter.unusedVariables false

set_option maxRecDepth 100000 in
set_option maxHeartbeats 4000000 in
theorem specvalidGate_any (v : GateR) (w : World) (hi : GateIn w w.heap.size v) (hs : GateSmall v) :
    Calls Try.prog 67 #[gateV v] w fun e w' => e = .returned (.bool (Fares.validGate v.of)) ∧ Below w.heap.size w w' := by
  have hl : v.kept.length ≤ 1048576 := hs.2
  have Hi := Lib.hid hi; clear hi
  have hR : Fares.validGate v.of = (Fares.keptOk v.val v.nxt v.kept && decide (0 ≤ v.val ∧ v.val ≤ 9 ∧ 0 ≤ v.nxt ∧ v.nxt ≤ 1000) && Fares.validDeny v.deny.of && decide (v.kept.length ≤ 10)) := by
      show (decide (0 ≤ v.val ∧ v.val ≤ 9 ∧ 0 ≤ v.nxt ∧ v.nxt ≤ 1000) && Fares.validDeny v.deny.of && decide (v.kept.length ≤ 10) && Fares.keptOk v.val v.nxt v.kept) = _
      cases decide (0 ≤ v.val ∧ v.val ≤ 9 ∧ 0 ≤ v.nxt ∧ v.nxt ≤ 1000) <;> cases Fares.validDeny v.deny.of <;> cases decide (v.kept.length ≤ 10) <;> cases Fares.keptOk v.val v.nxt v.kept <;> rfl
  rw [hR]
  clear hR
  unfold gateV
  go_enter Try.func67, Try.ntmps67
  go_wp2
  go_loopw [3] (fun i wr => ∃ k : Nat, k ≤ v.kept.length ∧ i = .int .i64 k ∧ Below w.heap.size w wr ∧ Blk wr w.heap.size 40 v.cells ∧ Hid (Fares.KeptOk v.val v.nxt (v.kept.take k))) (fun i _ => v.kept.length - (intOf i).toNat)
  case atStart => exact ⟨0, Nat.zero_le _, rfl, bA (Below.refl _ _) _, Blk.new w _ _, Lib.hid (Fares.KeptOk.nil _ _)⟩
  case round =>
    obtain ⟨k, hk, rfl, hb, hg, Ho⟩ := hrel
    have HB0 := Lib.hid hb; clear hb
    have Hbx0 := Lib.hid hg; clear hg
    obtain ⟨cP0_0, cP0_1, cP0_2, cP0_3, cP0_4⟩ := gateCells (t := 40) (v := v) Hbx0.out
    by_cases hlt : k < v.kept.length
    · obtain ⟨x, hxk⟩ : ∃ x, v.kept[k]? = some x := ⟨v.kept[k], List.getElem?_eq_getElem hlt⟩
      obtain ⟨b1, o1, eA, hb1, hr1⟩ := Taps.row (Hi.out.over HB0.out).2.1 (by omega)
      have Htk := Lib.hid (show TapAt wr b1 (o1 + k * 6) x ∧ b1 < wr.heap.size from ⟨hr1 k x hxk, hb1⟩)
      have Hx := Lib.hid hxk; clear hxk
      have hlc := (Hi.out).2.2.1
      have i0 : (0 : Int) ≤ (k : Int) := by omega
      have i1 : (k : Int) < (v.kept.length : Int) := by omega
      obtain ⟨l, Hl⟩ : ∃ l, Hid (Fares.LastN v.kept k l) := by
            cases k with
            | zero => exact ⟨-1, Lib.hid (.inl ⟨rfl, rfl⟩)⟩
            | succ j => exact ⟨_, Lib.hid (Fares.LastN.next (List.getElem?_eq_getElem (show j < v.kept.length by omega)))⟩
      simp only [eA] at cP0_0 cP0_1 cP0_2 cP0_3 cP0_4
      have eA' := eA
      clear eA
      cases hv : Fares.validTap x
      · have hgt : w.heap.size < wr.heap.size := Hbx0.out.lt
        have htl : b1 < wr.heap.size := Htk.out.2
        obtain ⟨y0, y1, y2, y3, y4, y5⟩ := Htk.out.1
        have m0 := fun x0 : WIn (fun w' => Below wr.heap.size wr w') => x0.cell cP0_0 hgt
        have m1 := fun x0 : WIn (fun w' => Below wr.heap.size wr w') => x0.cell cP0_1 hgt
        have m2 := fun x0 : WIn (fun w' => Below wr.heap.size wr w') => x0.cell cP0_2 hgt
        have m3 := fun x0 : WIn (fun w' => Below wr.heap.size wr w') => x0.cell cP0_3 hgt
        have m4 := fun x0 : WIn (fun w' => Below wr.heap.size wr w') => x0.cell cP0_4 hgt
        have m6 := fun x0 : WIn (fun w' => Below wr.heap.size wr w') => x0.cell y0 htl
        have m7 := fun x0 : WIn (fun w' => Below wr.heap.size wr w') => x0.cell y1 htl
        have m8 := fun x0 : WIn (fun w' => Below wr.heap.size wr w') => x0.cell y2 htl
        have m9 := fun x0 : WIn (fun w' => Below wr.heap.size wr w') => x0.cell y3 htl
        have m10 := fun x0 : WIn (fun w' => Below wr.heap.size wr w') => x0.cell y4 htl
        have m11 := fun x0 : WIn (fun w' => Below wr.heap.size wr w') => x0.cell y5 htl
        clear y0 y1 y2 y3 y4 y5
        go_wp2
        clear cP0_0 cP0_1 cP0_2 cP0_3 cP0_4
        refine wp_region_win (B := fun w' => Below wr.heap.size wr w') (by kernel_rfl) (by kernel_rfl) (bD1 (Below.refl _ _)) ?_
        repeat (go_big_quiet_step ((rename_i x0; refine WIn.calls (v := .bool false) ((specvalidTap_any x _).mono fun e w' he => ⟨by rw [he.1, hv], he.2⟩) (fun w' hb => bT x0.h hb))))
        refine wpQuiet_nil ?_
        intro w1 hw'
        obtain ⟨⟨wq, hb1⟩, e1⟩ := hw'
        dsimp only at e1
        subst wq
        clear m0 m1 m2 m3 m4 m6 m7 m8 m9 m10 m11
        have hz1 : wr.heap.size ≤ w1.heap.size := by have := hb1.size; (try simp at this); omega
        have HB1 := Lib.hid (bT HB0.out hb1)
        clear HB0
        have HP1 := Lib.hid (Blk.belowAll Hbx0.out hb1)
        clear Hbx0
        have Ht1 := Lib.hid (TapAt.over Htk.out hb1)
        clear Htk
        clear hb1
        go_wp2
        go_ret
        exact ⟨ret_bool (by rw [Fares.keptOk_false (Fares.KeptOk.not_tap Hx.out (fun e => by rw [hv] at e; exact absurd e.1 (by simp)))]; rfl), HB1.out⟩
      · by_cases h0 : x.v = v.val
        · have d0 : (x.v != v.val) = false := by simpa using h0
          have H0 := Lib.hid h0; clear h0
          by_cases h2 : v.nxt ≤ x.n
          · have d2 : decide (v.nxt ≤ x.n) = true := by simpa using h2
            have hgt : w.heap.size < wr.heap.size := Hbx0.out.lt
            have htl : b1 < wr.heap.size := Htk.out.2
            obtain ⟨y0, y1, y2, y3, y4, y5⟩ := Htk.out.1
            have m0 := fun x0 : WIn (fun w' => Below wr.heap.size wr w') => x0.cell cP0_0 hgt
            have m1 := fun x0 : WIn (fun w' => Below wr.heap.size wr w') => x0.cell cP0_1 hgt
            have m2 := fun x0 : WIn (fun w' => Below wr.heap.size wr w') => x0.cell cP0_2 hgt
            have m3 := fun x0 : WIn (fun w' => Below wr.heap.size wr w') => x0.cell cP0_3 hgt
            have m4 := fun x0 : WIn (fun w' => Below wr.heap.size wr w') => x0.cell cP0_4 hgt
            have m6 := fun x0 : WIn (fun w' => Below wr.heap.size wr w') => x0.cell y0 htl
            have m7 := fun x0 : WIn (fun w' => Below wr.heap.size wr w') => x0.cell y1 htl
            have m8 := fun x0 : WIn (fun w' => Below wr.heap.size wr w') => x0.cell y2 htl
            have m9 := fun x0 : WIn (fun w' => Below wr.heap.size wr w') => x0.cell y3 htl
            have m10 := fun x0 : WIn (fun w' => Below wr.heap.size wr w') => x0.cell y4 htl
            have m11 := fun x0 : WIn (fun w' => Below wr.heap.size wr w') => x0.cell y5 htl
            clear y0 y1 y2 y3 y4 y5
            go_wp2
            clear cP0_0 cP0_1 cP0_2 cP0_3 cP0_4
            refine wp_region_win (B := fun w' => Below wr.heap.size wr w') (by kernel_rfl) (by kernel_rfl) (bD1 (Below.refl _ _)) ?_
            repeat (go_big_quiet_step ((rename_i x0; refine WIn.calls (v := .bool true) ((specvalidTap_any x _).mono fun e w' he => ⟨by rw [he.1, hv], he.2⟩) (fun w' hb => bT x0.h hb))))
            refine wpQuiet_nil ?_
            intro w1 hw'
            obtain ⟨⟨wq, hb1⟩, e1⟩ := hw'
            dsimp only at e1
            subst wq
            clear m0 m1 m2 m3 m4 m6 m7 m8 m9 m10 m11
            have hz1 : wr.heap.size ≤ w1.heap.size := by have := hb1.size; (try simp at this); omega
            have HB1 := Lib.hid (bT HB0.out hb1)
            clear HB0
            have HP1 := Lib.hid (Blk.belowAll Hbx0.out hb1)
            clear Hbx0
            have Ht1 := Lib.hid (TapAt.over Htk.out hb1)
            clear Htk
            clear hb1
            go_wp2
            go_ret
            exact ⟨ret_bool (by rw [Fares.keptOk_false (Fares.KeptOk.not_tap Hx.out (fun e => by have := e.2.2; omega))]; rfl), HB1.out⟩
          · have d2 : decide (v.nxt ≤ x.n) = false := by simpa using h2
            by_cases hk0 : k = 0
            · have dk : decide ((0 : Int) < (k : Int)) = false := by rw [decide_eq_false_iff_not]; omega
              have dk2 : decide (0 < k) = false := by rw [decide_eq_false_iff_not]; omega
              have hln : l < x.n := by
                      rcases Hl.out with ⟨_, h⟩ | ⟨j, t, h, _⟩
                      · have := Fares.valid_num hv; omega
                      · omega
              clear hk0
              have hgt : w.heap.size < wr.heap.size := Hbx0.out.lt
              have htl : b1 < wr.heap.size := Htk.out.2
              obtain ⟨y0, y1, y2, y3, y4, y5⟩ := Htk.out.1
              have m0 := fun x0 : WIn (fun w' => Below wr.heap.size wr w') => x0.cell cP0_0 hgt
              have m1 := fun x0 : WIn (fun w' => Below wr.heap.size wr w') => x0.cell cP0_1 hgt
              have m2 := fun x0 : WIn (fun w' => Below wr.heap.size wr w') => x0.cell cP0_2 hgt
              have m3 := fun x0 : WIn (fun w' => Below wr.heap.size wr w') => x0.cell cP0_3 hgt
              have m4 := fun x0 : WIn (fun w' => Below wr.heap.size wr w') => x0.cell cP0_4 hgt
              have m6 := fun x0 : WIn (fun w' => Below wr.heap.size wr w') => x0.cell y0 htl
              have m7 := fun x0 : WIn (fun w' => Below wr.heap.size wr w') => x0.cell y1 htl
              have m8 := fun x0 : WIn (fun w' => Below wr.heap.size wr w') => x0.cell y2 htl
              have m9 := fun x0 : WIn (fun w' => Below wr.heap.size wr w') => x0.cell y3 htl
              have m10 := fun x0 : WIn (fun w' => Below wr.heap.size wr w') => x0.cell y4 htl
              have m11 := fun x0 : WIn (fun w' => Below wr.heap.size wr w') => x0.cell y5 htl
              clear y0 y1 y2 y3 y4 y5
              go_wp2
              clear cP0_0 cP0_1 cP0_2 cP0_3 cP0_4
              refine wp_region_win (B := fun w' => Below wr.heap.size wr w') (by kernel_rfl) (by kernel_rfl) (bD1 (Below.refl _ _)) ?_
              repeat (go_big_quiet_step ((rename_i x0; refine WIn.calls (v := .bool true) ((specvalidTap_any x _).mono fun e w' he => ⟨by rw [he.1, hv], he.2⟩) (fun w' hb => bT x0.h hb))))
              refine wpQuiet_nil ?_
              intro w1 hw'
              obtain ⟨⟨wq, hb1⟩, e1⟩ := hw'
              dsimp only at e1
              subst wq
              clear m0 m1 m2 m3 m4 m6 m7 m8 m9 m10 m11
              have hz1 : wr.heap.size ≤ w1.heap.size := by have := hb1.size; (try simp at this); omega
              have HB1 := Lib.hid (bT HB0.out hb1)
              clear HB0
              have HP1 := Lib.hid (Blk.belowAll Hbx0.out hb1)
              clear Hbx0
              have Ht1 := Lib.hid (TapAt.over Htk.out hb1)
              clear Htk
              clear hb1
              have Hn := Lib.hid (Ho.out.succ Hl.out Hx.out hv H0.out (by omega) (hln))
              clear h2 hv
              go_wp2
              (try rw [← eA'])
              clear eA'
              go_roundw
              case rel => exact ⟨k + 1, by omega, by go_num, HB1.out, HP1.out, Hn⟩
              case measure => simp [intOf]; omega
            · have dk : decide ((0 : Int) < (k : Int)) = true := by rw [decide_eq_true_eq]; omega
              have dk2 : decide (0 < k) = true := by rw [decide_eq_true_eq]; omega
              obtain ⟨y, hyk⟩ : ∃ y, v.kept[k - 1]? = some y := ⟨v.kept[k - 1], List.getElem?_eq_getElem (by omega)⟩
              have Hyt := Lib.hid (show TapAt wr b1 (o1 + (k - 1) * 6) y ∧ b1 < wr.heap.size from ⟨hr1 (k - 1) y hyk, hb1⟩)
              have hly : l = y.n := by
                      rcases Hl.out with ⟨h, _⟩ | ⟨j, t, h, ht, htl⟩
                      · omega
                      · have ej : j = k - 1 := by omega
                        rw [ej, hyk] at ht
                        injection ht with ht
                        rw [← htl, ht]
              have Hly := Lib.hid hly; clear hly hyk
              have j0 : (0 : Int) ≤ (k : Int) - 1 := by omega
              have j1 : (k : Int) - 1 < (v.kept.length : Int) := by omega
              have j2 : ((k : Int) - 1).toNat = k - 1 := by omega
              clear hk0
              skip
              have hgt : w.heap.size < wr.heap.size := Hbx0.out.lt
              have htl : b1 < wr.heap.size := Htk.out.2
              obtain ⟨y0, y1, y2, y3, y4, y5⟩ := Htk.out.1
              have m0 := fun x0 : WIn (fun w' => Below wr.heap.size wr w') => x0.cell cP0_0 hgt
              have m1 := fun x0 : WIn (fun w' => Below wr.heap.size wr w') => x0.cell cP0_1 hgt
              have m2 := fun x0 : WIn (fun w' => Below wr.heap.size wr w') => x0.cell cP0_2 hgt
              have m3 := fun x0 : WIn (fun w' => Below wr.heap.size wr w') => x0.cell cP0_3 hgt
              have m4 := fun x0 : WIn (fun w' => Below wr.heap.size wr w') => x0.cell cP0_4 hgt
              have m6 := fun x0 : WIn (fun w' => Below wr.heap.size wr w') => x0.cell y0 htl
              have m7 := fun x0 : WIn (fun w' => Below wr.heap.size wr w') => x0.cell y1 htl
              have m8 := fun x0 : WIn (fun w' => Below wr.heap.size wr w') => x0.cell y2 htl
              have m9 := fun x0 : WIn (fun w' => Below wr.heap.size wr w') => x0.cell y3 htl
              have m10 := fun x0 : WIn (fun w' => Below wr.heap.size wr w') => x0.cell y4 htl
              have m11 := fun x0 : WIn (fun w' => Below wr.heap.size wr w') => x0.cell y5 htl
              have m12 := fun x0 : WIn (fun w' => Below wr.heap.size wr w') => x0.cell Hyt.out.1.2.1 htl
              clear y0 y1 y2 y3 y4 y5
              go_wp2
              clear cP0_0 cP0_1 cP0_2 cP0_3 cP0_4
              refine wp_region_win (B := fun w' => Below wr.heap.size wr w') (by kernel_rfl) (by kernel_rfl) (bD1 (Below.refl _ _)) ?_
              repeat (go_big_quiet_step ((rename_i x0; refine WIn.calls (v := .bool true) ((specvalidTap_any x _).mono fun e w' he => ⟨by rw [he.1, hv], he.2⟩) (fun w' hb => bT x0.h hb))))
              refine wpQuiet_nil ?_
              intro w1 hw'
              obtain ⟨⟨wq, hb1⟩, e1⟩ := hw'
              dsimp only at e1
              subst wq
              clear m0 m1 m2 m3 m4 m6 m7 m8 m9 m10 m11 m12
              have hz1 : wr.heap.size ≤ w1.heap.size := by have := hb1.size; (try simp at this); omega
              have HB1 := Lib.hid (bT HB0.out hb1)
              clear HB0
              have HP1 := Lib.hid (Blk.belowAll Hbx0.out hb1)
              clear Hbx0
              have Ht1 := Lib.hid (TapAt.over Htk.out hb1)
              clear Htk
              have Hty1 := Lib.hid (TapAt.over Hyt.out hb1)
              clear Hyt
              clear hb1
              by_cases h3 : x.n ≤ y.n
              · have d3 : decide (x.n ≤ y.n) = true := by simpa using h3
                go_wp2
                go_ret
                exact ⟨ret_bool (by rw [Fares.keptOk_false (Fares.KeptOk.not_last Hl.out Hx.out (by have := Hly.out; omega))]; rfl), HB1.out⟩
              · have d3 : decide (x.n ≤ y.n) = false := by simpa using h3
                have hln : l < x.n := by have := Hly.out; omega
                have Hn := Lib.hid (Ho.out.succ Hl.out Hx.out hv H0.out (by omega) hln)
                clear h2 hv
                go_wp2
                all_goals first | (exfalso; omega) | skip
                (try rw [← eA'])
                clear eA'
                go_roundw
                case rel => exact ⟨k + 1, by omega, by go_num, HB1.out, HP1.out, Hn⟩
                case measure => simp [intOf]; omega
        · have d0 : (x.v != v.val) = true := by simpa using h0
          have H0 := Lib.hid h0; clear h0
          have hgt : w.heap.size < wr.heap.size := Hbx0.out.lt
          have htl : b1 < wr.heap.size := Htk.out.2
          obtain ⟨y0, y1, y2, y3, y4, y5⟩ := Htk.out.1
          have m0 := fun x0 : WIn (fun w' => Below wr.heap.size wr w') => x0.cell cP0_0 hgt
          have m1 := fun x0 : WIn (fun w' => Below wr.heap.size wr w') => x0.cell cP0_1 hgt
          have m2 := fun x0 : WIn (fun w' => Below wr.heap.size wr w') => x0.cell cP0_2 hgt
          have m3 := fun x0 : WIn (fun w' => Below wr.heap.size wr w') => x0.cell cP0_3 hgt
          have m4 := fun x0 : WIn (fun w' => Below wr.heap.size wr w') => x0.cell cP0_4 hgt
          have m6 := fun x0 : WIn (fun w' => Below wr.heap.size wr w') => x0.cell y0 htl
          have m7 := fun x0 : WIn (fun w' => Below wr.heap.size wr w') => x0.cell y1 htl
          have m8 := fun x0 : WIn (fun w' => Below wr.heap.size wr w') => x0.cell y2 htl
          have m9 := fun x0 : WIn (fun w' => Below wr.heap.size wr w') => x0.cell y3 htl
          have m10 := fun x0 : WIn (fun w' => Below wr.heap.size wr w') => x0.cell y4 htl
          have m11 := fun x0 : WIn (fun w' => Below wr.heap.size wr w') => x0.cell y5 htl
          clear y0 y1 y2 y3 y4 y5
          go_wp2
          clear cP0_0 cP0_1 cP0_2 cP0_3 cP0_4
          refine wp_region_win (B := fun w' => Below wr.heap.size wr w') (by kernel_rfl) (by kernel_rfl) (bD1 (Below.refl _ _)) ?_
          repeat (go_big_quiet_step ((rename_i x0; refine WIn.calls (v := .bool true) ((specvalidTap_any x _).mono fun e w' he => ⟨by rw [he.1, hv], he.2⟩) (fun w' hb => bT x0.h hb))))
          refine wpQuiet_nil ?_
          intro w1 hw'
          obtain ⟨⟨wq, hb1⟩, e1⟩ := hw'
          dsimp only at e1
          subst wq
          clear m0 m1 m2 m3 m4 m6 m7 m8 m9 m10 m11
          have hz1 : wr.heap.size ≤ w1.heap.size := by have := hb1.size; (try simp at this); omega
          have HB1 := Lib.hid (bT HB0.out hb1)
          clear HB0
          have HP1 := Lib.hid (Blk.belowAll Hbx0.out hb1)
          clear Hbx0
          have Ht1 := Lib.hid (TapAt.over Htk.out hb1)
          clear Htk
          clear hb1
          go_wp2
          go_ret
          exact ⟨ret_bool (by rw [Fares.keptOk_false (Fares.KeptOk.not_tap Hx.out (fun e => H0.out e.2.1))]; rfl), HB1.out⟩
    · have HK := Lib.hid (Fares.keptOk_true (Ho.out.all (by omega)))
      by_cases h0 : 0 ≤ v.val ∧ v.val ≤ 9
      · by_cases h1 : 0 ≤ v.nxt ∧ v.nxt ≤ 1000
        · have HD := Lib.hid (decide_eq_true (show 0 ≤ v.val ∧ v.val ≤ 9 ∧ 0 ≤ v.nxt ∧ v.nxt ≤ 1000 by omega))
          go_wp2_with (go_at_call 58; first | (refine (inRange_yes _ _ _ _ (by omega) (by omega)).mono ?_; rintro e w' ⟨rfl, rfl⟩) | (refine (inRange_no _ _ _ _ (by omega)).mono ?_; rintro e w' ⟨rfl, rfl⟩))
          refine (specvalidDeny_any v.deny _ (Hi.out.over HB0.out).1 hs.1).mono ?_
          rintro e w1 ⟨rfl, hb1⟩
          have hz1 : wr.heap.size ≤ w1.heap.size := by have := hb1.size; (try simp at this); omega
          have HB1 := Lib.hid (bT HB0.out hb1)
          clear HB0
          have HP1 := Lib.hid (Blk.belowAll Hbx0.out hb1)
          clear Hbx0
          clear hb1
          obtain ⟨cP1_0, cP1_1, cP1_2, cP1_3, cP1_4⟩ := gateCells (t := 40) (v := v) HP1.out
          cases hv : Fares.validDeny v.deny.of
          · go_wp2
            go_ret
            exact ⟨ret_bool (by rw [HK.out, HD.out, hv]; rfl), HB1.out⟩
          · by_cases hk : v.kept.length ≤ 10
            · have dk : decide ((v.kept.length : Int) ≤ 10) = true := by simp; omega
              go_wp2
              go_ret
              exact ⟨ret_bool (by rw [HK.out, HD.out, hv, decide_eq_true hk]; rfl), HB1.out⟩
            · have dk : decide ((v.kept.length : Int) ≤ 10) = false := by simp; omega
              go_wp2
              go_ret
              exact ⟨ret_bool (by rw [HK.out, HD.out, hv, decide_eq_false hk]; rfl), HB1.out⟩
        · have HD := Lib.hid (decide_eq_false (show ¬ (0 ≤ v.val ∧ v.val ≤ 9 ∧ 0 ≤ v.nxt ∧ v.nxt ≤ 1000) by omega))
          go_wp2_with (go_at_call 58; first | (refine (inRange_yes _ _ _ _ (by omega) (by omega)).mono ?_; rintro e w' ⟨rfl, rfl⟩) | (refine (inRange_no _ _ _ _ (by omega)).mono ?_; rintro e w' ⟨rfl, rfl⟩))
          go_ret
          exact ⟨ret_bool (by rw [HK.out, HD.out]; rfl), HB0.out⟩
      · have HD := Lib.hid (decide_eq_false (show ¬ (0 ≤ v.val ∧ v.val ≤ 9 ∧ 0 ≤ v.nxt ∧ v.nxt ≤ 1000) by omega))
        go_wp2_with (go_at_call 58; first | (refine (inRange_yes _ _ _ _ (by omega) (by omega)).mono ?_; rintro e w' ⟨rfl, rfl⟩) | (refine (inRange_no _ _ _ _ (by omega)).mono ?_; rintro e w' ⟨rfl, rfl⟩))
        go_ret
        exact ⟨ret_bool (by rw [HK.out, HD.out]; rfl), HB0.out⟩
set_option maxHeartbeats 1000000 in
theorem specValidGate_any (v : GateR) (w : World) (hi : GateIn w w.heap.size v) (hs : GateSmall v) :
    Calls Try.prog 32 #[gateV v] w fun e w' => e = .returned (.bool (Fares.validGate v.of)) ∧ Below w.heap.size w w' := by
  have Hi := Lib.hid hi; clear hi
  unfold gateV
  go_enter Try.func32, Try.ntmps32
  go_wp2_with fail
  refine (specvalidGate_any v _ (Hi.out.up _) hs).mono ?_
  rintro e w' ⟨rfl, hb⟩
  have hc := bT (bA (Below.refl _ _) _) hb
  go_wp2
  go_ret
  exact ⟨rfl, hc⟩
end Go.Proofs.Ytpijjlggmibfnaa
