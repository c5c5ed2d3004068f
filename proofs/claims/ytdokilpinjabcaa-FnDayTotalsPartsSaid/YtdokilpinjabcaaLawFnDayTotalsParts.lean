/-
  Totals add up: for every code, with the charges drawn from it, the law FnDayTotalsParts returns true and leaves the code as it was. No conditions.
-/
import Derived.Test.YtdokilpinjabcaaCapLaw
import Derived.Test.YtdokilpinjabcaaLiftBytes
namespace Go.Proofs.Ytdokilpinjabcaa.fnDayTotalsParts
open Go.ChangeShapes Go.WideShapes Go.ChangeAt Go.RowKit
set_option linter.unusedVariables false

set_option maxRecDepth 100000 in
set_option maxHeartbeats 1500000 in
theorem walk (A : Option Addr) (n c : Nat) (w : World) (h : Bytes w w.heap.size A n c) : Calls Try.prog 11 #[.slice A n c] w (TrueBelow w) := by
  by_cases hn : 1048576 < n
  · go_enter Try.func11, Try.ntmps11
    go_wp2
    go_ret
    exact ⟨rfl, Below.refl _ _⟩
  · go_enter Try.func11, Try.ntmps11
    go_wp2_with fail
    refine (drawDayTotals_any A n c w h).mono ?_
    rintro e w1 ⟨v, ys, rfl, hown1, hlen, hsm, hb1⟩
    obtain ⟨Av, cv, rfl, hcv1, hcv2, hrs1⟩ := hown1.form
    unfold maxLen at hcv2
    have Hrs1 := Lib.hid hrs1; clear hrs1
    have Hsm := Lib.hid hsm; clear hsm hown1
    obtain ⟨R, hR⟩ : ∃ R, R = Fares.dayTotals ys := ⟨_, rfl⟩
    have hRl : R.length ≤ 29 := by rw [hR]; exact Fares.dayTotals_length ys
    have HR := Lib.hid hR; clear hR
    go_wp2_with fail
    refine (implDayTotals_any Av _ cv ys _ Hrs1.out rfl (by omega)).mono ?_
    rintro e w2 ⟨vo, rfl, hown2, hb2⟩
    rw [← HR.out] at hown2
    have hc2 : Below w.heap.size w w2 := bT hb1 hb2
    have Hrs2 := Lib.hid ((Hrs1.out.below hb2 (Nat.le_refl _)).more hb2.size)
    obtain ⟨Ao, co, rfl, hco1, hco2, hro2⟩ := hown2.form
    unfold maxLen at hco2
    have Hro2 := Lib.hid hro2; clear hro2 hown2 hb2
    go_wp2_with fail
    refine (specDayTotals_any Av _ cv ys _ Hrs2.out rfl (by omega)).mono ?_
    rintro e w3 ⟨vs, rfl, hown3, hb3⟩
    rw [← HR.out] at hown3
    have hc3 : Below w.heap.size w w3 := bT hc2 hb3
    have Hrs3 := Lib.hid ((Hrs2.out.below hb3 (Nat.le_refl _)).more hb3.size)
    have Hro3 := Lib.hid ((Hro2.out.below hb3 (Nat.le_refl _)).more hb3.size)
    obtain ⟨As, cs, rfl, _, _, hrp3⟩ := hown3.form
    have Hrp3 := Lib.hid hrp3; clear hrp3 hown3 hb3
    go_wp2_with fail
    refine (equalInts_any Ao As _ _ co cs R R _ Hro3.out Hrp3.out rfl rfl (by omega) (by omega)).mono ?_
    rintro e w4 ⟨rfl, hb4⟩
    rw [decide_eq_true (rfl : R = R)]
    have hc4 : Below w.heap.size w w4 := bT hc3 hb4
    have Hrs4 := Lib.hid ((Hrs3.out.below hb4 (Nat.le_refl _)).more hb4.size)
    have Hro4 := Lib.hid ((Hro3.out.below hb4 (Nat.le_refl _)).more hb4.size)
    clear hb4
    clear Hrs1 Hrs2 Hro2 Hrs3 Hro3 Hrp3
    by_cases hv : Fares.validCharges ys = true
    · have hRv : R = Fares.totals ys := by rw [HR.out]; unfold Fares.dayTotals; rw [if_pos hv]
      have hRl2 : R.length = 29 := by rw [hRv]; exact Fares.totals_length ys
      have l1 : ((R.length : Int) == 0) = false := by rw [beq_eq_false_iff_ne]; omega
      have hylen := Fares.length_of_validCharges hv
      have hmem := Fares.chargeOk_mem hv
      have hmem2 : ∀ c ∈ ys, 0 ≤ c.a ∧ c.a ≤ 4000 := fun c h => ⟨(hmem c h).2.2.1, (hmem c h).2.2.2⟩
      have hsumR : Fares.sumI R = Fares.amountSum ys := by rw [HR.out]; exact Fares.sumI_dayTotals hv
      have htb : ∀ x ∈ R, 0 ≤ x ∧ x ≤ 96000 := fun x hx => by
        rw [hRv] at hx
        unfold Fares.totals at hx
        rw [List.mem_map] at hx
        obtain ⟨i, _, rfl⟩ := hx
        have := Fares.dayTotal_bounds i ys hmem2
        omega
      have HV := Lib.hid hv; clear hv
      have Hmem := Lib.hid hmem; clear hmem
      have Hmem2 := Lib.hid hmem2; clear hmem2
      have Htb := Lib.hid htb; clear htb
      have HsumR := Lib.hid hsumR; clear hsumR
      have HRv := Lib.hid hRv; clear hRv
      rw [hRl2]
      by_cases hy0 : ys.length = 0
      · obtain rfl : ys = [] := List.eq_nil_of_length_eq_zero hy0
        cases Av with
        | none =>
          go_wp2_with fail
          refine (implDayTotals_any _ 0 _ ([]) _ (Reads.nil _ _ _) (rfl) (by omega)).mono ?_
          rintro e w5 ⟨va, rfl, howna, hb5⟩
          rw [show Fares.dayTotals ([]) = Fares.totals ([]) by unfold Fares.dayTotals; rw [if_pos (by decide)]] at howna
          have hc5 : Below w.heap.size w w5 := bT hc4 hb5
          obtain ⟨Aa, ca, rfl, _, _, hra5⟩ := howna.form
          have Hra5 := Lib.hid hra5; clear hra5 howna
          have Hrs5 := Lib.hid ((Hrs4.out.below hb5 (Nat.le_refl _)).more hb5.size)
          have Hro5 := Lib.hid ((Hro4.out.below hb5 (Nat.le_refl _)).more hb5.size)
          clear hb5
          go_wp2_with fail
          refine (implDayTotals_any _ 0 _ ([]) _ (Reads.nil _ _ _) (rfl) (by omega)).mono ?_
          rintro e w6 ⟨vb, rfl, hownb, hb6⟩
          rw [show Fares.dayTotals ([]) = Fares.totals ([]) by unfold Fares.dayTotals; rw [if_pos (by decide)]] at hownb
          have hc6 : Below w.heap.size w w6 := bT hc5 hb6
          obtain ⟨Ab, cb, rfl, _, _, hrb6⟩ := hownb.form
          have Hrb6 := Lib.hid hrb6; clear hrb6 hownb
          have Hra6 := Lib.hid ((Hra5.out.below hb6 (Nat.le_refl _)).more hb6.size)
          have Hro6 := Lib.hid ((Hro5.out.below hb6 (Nat.le_refl _)).more hb6.size)
          clear hb6
          have HRl2 := Lib.hid hRl2
          (repeat rw [Fares.totals_length])
          go_wp2
          go_loopw [8] (fun i wr => ∃ (j q : Nat), j ≤ 29 ∧ i = .int .i64 j ∧ w6.drewN q = wr) (fun i _ => 29 - (intOf i).toNat)
          case atStart => exact ⟨0, 0, Nat.zero_le _, rfl, rfl⟩
          case round =>
            obtain ⟨j, q, hj, rfl, rfl⟩ := hrel
            by_cases hlt : j < 29
            · obtain ⟨ba, oa, rfl, hba, hra⟩ := Hra6.out.row (by rw [Fares.totals_length]; omega)
              obtain ⟨bb, ob, rfl, hbb, hrb⟩ := Hrb6.out.row (by rw [Fares.totals_length]; omega)
              obtain ⟨bo, oo, rfl, hbo, hro⟩ := Hro6.out.row (by rw [HRl2.out]; omega)
              obtain ⟨x, hx⟩ : ∃ x, x = Fares.dayTotal j (([] : List Fares.Charge)) := ⟨_, rfl⟩
              obtain ⟨y, hy⟩ : ∃ y, y = Fares.dayTotal j (([] : List Fares.Charge)) := ⟨_, rfl⟩
              have p0 := hra j x (by rw [Fares.totals_get _ hlt, hx])
              have q0 := hrb j y (by rw [Fares.totals_get _ hlt, hy])
              have r0 := hro j (x + y) (by rw [HRv.out, Fares.totals_get _ hlt, hx, hy]; exact congrArg some (Fares.dayTotal_parts j 0 []).symm)
              have hxb := Fares.dayTotal_bounds j (([] : List Fares.Charge)) (fun c hc => Hmem2.out c (by cases hc))
              have hyb := Fares.dayTotal_bounds j (([] : List Fares.Charge)) (fun c hc => Hmem2.out c (by cases hc))
              have hl1 : (([] : List Fares.Charge)).length ≤ 25 := by first | (simp; done) | (simp; omega)
              have hl2 : (([] : List Fares.Charge)).length ≤ 25 := by first | (simp; done) | (simp; omega)
              rw [← hx] at hxb
              rw [← hy] at hyb
              clear hra hrb hro hx hy
              have i0 : (0 : Int) ≤ (j : Int) := by omega
              have i1 : (j : Int) < 29 := by omega
              have g1 : decide ((29 : Int) ≤ (j : Int)) = false := by rw [decide_eq_false_iff_not]; omega
              have g2 : decide (29 ≤ j) = false := by rw [decide_eq_false_iff_not]; omega
              have g3 : ((x + y) != (x + y)) = false := by simp
              have W1 : IntKind.i64.wrap (x + y) = x + y := IntWalk.i64_in _ (by omega)
              clear hxb hyb hl1 hl2
              go_wp2
              go_quiet (fail)
              go_wp2
              clear g1 g2 g3 W1
              go_roundw
              case rel => exact ⟨j + 1, _, by omega, by go_num, rfl⟩
              case measure => simp [intOf]; omega
            · go_wp2
              go_ret
              exact ⟨rfl, bD hc6 _⟩
        | some av =>
          go_wp2_with fail
          refine (implDayTotals_any _ 0 _ ([]) _ (Reads.nil _ _ _) (rfl) (by omega)).mono ?_
          rintro e w5 ⟨va, rfl, howna, hb5⟩
          rw [show Fares.dayTotals ([]) = Fares.totals ([]) by unfold Fares.dayTotals; rw [if_pos (by decide)]] at howna
          have hc5 : Below w.heap.size w w5 := bT hc4 hb5
          obtain ⟨Aa, ca, rfl, _, _, hra5⟩ := howna.form
          have Hra5 := Lib.hid hra5; clear hra5 howna
          have Hrs5 := Lib.hid ((Hrs4.out.below hb5 (Nat.le_refl _)).more hb5.size)
          have Hro5 := Lib.hid ((Hro4.out.below hb5 (Nat.le_refl _)).more hb5.size)
          clear hb5
          go_wp2_with fail
          refine (implDayTotals_any _ 0 _ ([]) _ (Reads.nil _ _ _) (rfl) (by omega)).mono ?_
          rintro e w6 ⟨vb, rfl, hownb, hb6⟩
          rw [show Fares.dayTotals ([]) = Fares.totals ([]) by unfold Fares.dayTotals; rw [if_pos (by decide)]] at hownb
          have hc6 : Below w.heap.size w w6 := bT hc5 hb6
          obtain ⟨Ab, cb, rfl, _, _, hrb6⟩ := hownb.form
          have Hrb6 := Lib.hid hrb6; clear hrb6 hownb
          have Hra6 := Lib.hid ((Hra5.out.below hb6 (Nat.le_refl _)).more hb6.size)
          have Hro6 := Lib.hid ((Hro5.out.below hb6 (Nat.le_refl _)).more hb6.size)
          clear hb6
          have HRl2 := Lib.hid hRl2
          (repeat rw [Fares.totals_length])
          go_wp2
          go_loopw [8] (fun i wr => ∃ (j q : Nat), j ≤ 29 ∧ i = .int .i64 j ∧ w6.drewN q = wr) (fun i _ => 29 - (intOf i).toNat)
          case atStart => exact ⟨0, 0, Nat.zero_le _, rfl, rfl⟩
          case round =>
            obtain ⟨j, q, hj, rfl, rfl⟩ := hrel
            by_cases hlt : j < 29
            · obtain ⟨ba, oa, rfl, hba, hra⟩ := Hra6.out.row (by rw [Fares.totals_length]; omega)
              obtain ⟨bb, ob, rfl, hbb, hrb⟩ := Hrb6.out.row (by rw [Fares.totals_length]; omega)
              obtain ⟨bo, oo, rfl, hbo, hro⟩ := Hro6.out.row (by rw [HRl2.out]; omega)
              obtain ⟨x, hx⟩ : ∃ x, x = Fares.dayTotal j (([] : List Fares.Charge)) := ⟨_, rfl⟩
              obtain ⟨y, hy⟩ : ∃ y, y = Fares.dayTotal j (([] : List Fares.Charge)) := ⟨_, rfl⟩
              have p0 := hra j x (by rw [Fares.totals_get _ hlt, hx])
              have q0 := hrb j y (by rw [Fares.totals_get _ hlt, hy])
              have r0 := hro j (x + y) (by rw [HRv.out, Fares.totals_get _ hlt, hx, hy]; exact congrArg some (Fares.dayTotal_parts j 0 []).symm)
              have hxb := Fares.dayTotal_bounds j (([] : List Fares.Charge)) (fun c hc => Hmem2.out c (by cases hc))
              have hyb := Fares.dayTotal_bounds j (([] : List Fares.Charge)) (fun c hc => Hmem2.out c (by cases hc))
              have hl1 : (([] : List Fares.Charge)).length ≤ 25 := by first | (simp; done) | (simp; omega)
              have hl2 : (([] : List Fares.Charge)).length ≤ 25 := by first | (simp; done) | (simp; omega)
              rw [← hx] at hxb
              rw [← hy] at hyb
              clear hra hrb hro hx hy
              have i0 : (0 : Int) ≤ (j : Int) := by omega
              have i1 : (j : Int) < 29 := by omega
              have g1 : decide ((29 : Int) ≤ (j : Int)) = false := by rw [decide_eq_false_iff_not]; omega
              have g2 : decide (29 ≤ j) = false := by rw [decide_eq_false_iff_not]; omega
              have g3 : ((x + y) != (x + y)) = false := by simp
              have W1 : IntKind.i64.wrap (x + y) = x + y := IntWalk.i64_in _ (by omega)
              clear hxb hyb hl1 hl2
              go_wp2
              go_quiet (fail)
              go_wp2
              clear g1 g2 g3 W1
              go_roundw
              case rel => exact ⟨j + 1, _, by omega, by go_num, rfl⟩
              case measure => simp [intOf]; omega
            · go_wp2
              go_ret
              exact ⟨rfl, bD hc6 _⟩
      · obtain ⟨k, hk⟩ : ∃ k, k = ys.length / 2 := ⟨_, rfl⟩
        have hk1 : k < ys.length := by omega
        have hkt : (ys.length : Int).tdiv 2 = (k : Int) := by rw [Int.tdiv_eq_ediv_of_nonneg (by omega)]; omega
        have hkd : (ys.length : Int) / 2 = (k : Int) := by omega
        clear hk
        have i0 : (0 : Int) ≤ (k : Int) := by omega
        have i1 : (k : Int) + 1 ≤ (cv : Int) := by omega
        have i2 : ¬ cv = k := by omega
        have i3 : (k : Int) ≤ (ys.length : Int) := by omega
        have i4 : (ys.length : Int) ≤ (cv : Int) := by omega
        obtain ⟨b0, o0, rfl, hb0, _⟩ := Hrs4.out.row (by omega)
        go_wp2_with fail
        clear hkt hkd
        refine (implDayTotals_any _ k _ (ys.take k) _ (Hrs4.out.take k) (by rw [List.length_take]; omega) (by omega)).mono ?_
        rintro e w5 ⟨va, rfl, howna, hb5⟩
        rw [show Fares.dayTotals (ys.take k) = Fares.totals (ys.take k) by unfold Fares.dayTotals; rw [if_pos (Fares.validCharges_take k HV.out)]] at howna
        have hc5 : Below w.heap.size w w5 := bT hc4 hb5
        obtain ⟨Aa, ca, rfl, _, _, hra5⟩ := howna.form
        have Hra5 := Lib.hid hra5; clear hra5 howna
        have Hrs5 := Lib.hid ((Hrs4.out.below hb5 (Nat.le_refl _)).more hb5.size)
        have Hro5 := Lib.hid ((Hro4.out.below hb5 (Nat.le_refl _)).more hb5.size)
        clear hb5
        go_wp2_with fail
        refine (implDayTotals_any _ (ys.length - k) _ (ys.drop k) _ (Hrs5.out.drop k (by omega)) (by rw [List.length_drop]) (by omega)).mono ?_
        rintro e w6 ⟨vb, rfl, hownb, hb6⟩
        rw [show Fares.dayTotals (ys.drop k) = Fares.totals (ys.drop k) by unfold Fares.dayTotals; rw [if_pos (Fares.validCharges_drop k HV.out)]] at hownb
        have hc6 : Below w.heap.size w w6 := bT hc5 hb6
        obtain ⟨Ab, cb, rfl, _, _, hrb6⟩ := hownb.form
        have Hrb6 := Lib.hid hrb6; clear hrb6 hownb
        have Hra6 := Lib.hid ((Hra5.out.below hb6 (Nat.le_refl _)).more hb6.size)
        have Hro6 := Lib.hid ((Hro5.out.below hb6 (Nat.le_refl _)).more hb6.size)
        clear hb6
        have HRl2 := Lib.hid hRl2
        (repeat rw [Fares.totals_length])
        go_wp2
        go_loopw [8] (fun i wr => ∃ (j q : Nat), j ≤ 29 ∧ i = .int .i64 j ∧ w6.drewN q = wr) (fun i _ => 29 - (intOf i).toNat)
        case atStart => exact ⟨0, 0, Nat.zero_le _, rfl, rfl⟩
        case round =>
          obtain ⟨j, q, hj, rfl, rfl⟩ := hrel
          by_cases hlt : j < 29
          · obtain ⟨ba, oa, rfl, hba, hra⟩ := Hra6.out.row (by rw [Fares.totals_length]; omega)
            obtain ⟨bb, ob, rfl, hbb, hrb⟩ := Hrb6.out.row (by rw [Fares.totals_length]; omega)
            obtain ⟨bo, oo, rfl, hbo, hro⟩ := Hro6.out.row (by rw [HRl2.out]; omega)
            obtain ⟨x, hx⟩ : ∃ x, x = Fares.dayTotal j (ys.take k) := ⟨_, rfl⟩
            obtain ⟨y, hy⟩ : ∃ y, y = Fares.dayTotal j (ys.drop k) := ⟨_, rfl⟩
            have p0 := hra j x (by rw [Fares.totals_get _ hlt, hx])
            have q0 := hrb j y (by rw [Fares.totals_get _ hlt, hy])
            have r0 := hro j (x + y) (by rw [HRv.out, Fares.totals_get _ hlt, hx, hy]; exact congrArg some (Fares.dayTotal_parts j k ys).symm)
            have hxb := Fares.dayTotal_bounds j (ys.take k) (fun c hc => Hmem2.out c (List.mem_of_mem_take hc))
            have hyb := Fares.dayTotal_bounds j (ys.drop k) (fun c hc => Hmem2.out c (List.mem_of_mem_drop hc))
            have hl1 : (ys.take k).length ≤ 25 := by first | (simp; done) | (simp; omega)
            have hl2 : (ys.drop k).length ≤ 25 := by first | (simp; done) | (simp; omega)
            rw [← hx] at hxb
            rw [← hy] at hyb
            clear hra hrb hro hx hy
            have i0 : (0 : Int) ≤ (j : Int) := by omega
            have i1 : (j : Int) < 29 := by omega
            have g1 : decide ((29 : Int) ≤ (j : Int)) = false := by rw [decide_eq_false_iff_not]; omega
            have g2 : decide (29 ≤ j) = false := by rw [decide_eq_false_iff_not]; omega
            have g3 : ((x + y) != (x + y)) = false := by simp
            have W1 : IntKind.i64.wrap (x + y) = x + y := IntWalk.i64_in _ (by omega)
            clear hxb hyb hl1 hl2
            go_wp2
            go_quiet (fail)
            go_wp2
            clear g1 g2 g3 W1
            go_roundw
            case rel => exact ⟨j + 1, _, by omega, by go_num, rfl⟩
            case measure => simp [intOf]; omega
          · go_wp2
            go_ret
            exact ⟨rfl, bD hc6 _⟩
    · obtain rfl : R = [] := by rw [HR.out]; unfold Fares.dayTotals; rw [if_neg hv]
      clear hv
      go_wp2_with fail
      refine (specDayTotals_any Av _ cv ys _ Hrs4.out rfl (by omega)).mono ?_
      rintro e w5 ⟨vs5, rfl, hown5, hb5⟩
      rw [← HR.out] at hown5
      have hc5 : Below w.heap.size w w5 := bT hc4 hb5
      have Hro5 := Lib.hid ((Hro4.out.below hb5 (Nat.le_refl _)).more hb5.size)
      obtain ⟨As5, cs5, rfl, _, _, hrp5⟩ := hown5.form
      have Hrp5 := Lib.hid hrp5; clear hrp5 hown5 hb5
      go_wp2_with fail
      refine (equalInts_any Ao As5 0 0 co cs5 [] [] _ Hro5.out Hrp5.out rfl rfl (by omega) (by omega)).mono ?_
      rintro e w6 ⟨rfl, hb6⟩
      rw [decide_eq_true (rfl : ([] : List Int) = [])]
      go_wp2
      go_ret
      exact ⟨rfl, bT hc5 hb6⟩

set_option maxRecDepth 100000 in
theorem lifted (os : Os) (started : os.Started) (H : Type) (enc : TypeId × Value → H) :
    ReturnsInHanded {} Try.checked os 11 .any (Rows.fnDayTotalsPartsSpec.pre6 enc Try.prog Try.f11 Rows.fnDayTotalsPartsRow.domain false) (Rows.fnDayTotalsPartsSpec.post enc Try.prog Try.f11 false true false false) := by
  refine returnsInHanded_of_change (C := Try.checked) Cells.own started (by kernel_rfl) Try.func11
    (ChangeSpec.witness6 (enc := enc) (C := Try.checked) false ⟨#[], #[.slice none 0 0], []⟩ 8 (by kernel_rfl) (by kernel_rfl) (by kernel_rfl) (by kernel_rfl)) ?_
  intro W base args ds gs before hval0 hW _ _
  have hval : ∀ (j : Nat) t v, Try.f11.params[j]? = some t → args[j]? = some v → Value.okWide Try.prog W .any base t v := hval0
  have hW' := hW
  obtain ⟨p, q, hA0, hV, rfl, _, _⟩ := hW
  have hA : DataW.TrodAll enc Try.prog W 0 (fun _ => true) true Try.f11.params.toList args.toList ds p := hA0
  rw [Try.params11] at hA hval
  obtain ⟨v0, d0, rfl, rfl, h0⟩ := trodAll_one hA
  obtain ⟨rfl, rfl⟩ := trodVars_none hV
  obtain ⟨a0, len, cap, rfl⟩ := okWide_slice Try.underlying22 (hval 0 22 v0 rfl rfl)
  clear hA0 hval0
  simp only [List.append_nil] at hW'
  obtain ⟨hb, hargs⟩ := opened h0 (fun x hx => by simpa using hW'.lt x hx)
  refine (walk a0 len cap W hb).mono fun e W' ⟨he, hnx⟩ => ?_
  subst he
  exact ⟨_, rfl, _, _, _, [], _, [], hW', trodAll_mk1 (shut_bool Try.underlying4 _), trodAll_mk1 (hargs _ hnx), rfl, hnx.frame _, fun h => by cases h⟩

theorem closed : joinedFacts Try.prog 11 Try.f11 Rows.fnDayTotalsPartsSpec Rows.fnDayTotalsPartsRow = true := by
  unfold joinedFacts
  rw [Cells.laidOut, Cells.mapsRowed_, Cells.stops, Cells.stopKnobs, Cells.plainKeys, Cells.stopsHeard, Cells.mayEnter, Cells.liftsFinal, Cells.make]
  kernel_rfl

theorem over : Rows.fnDayTotalsPartsRow.holds Try.pinned (OpenSpec.ofChange Rows.fnDayTotalsPartsSpec) :=
  OpenClaim.holds_of_wide 11 Try.f11 rfl rfl rfl rfl rfl rfl rfl ⟨rfl, rfl, rfl, rfl, rfl⟩ rfl rfl rfl rfl rfl (by kernel_rfl) Try.func11 closed
    (of_decide_eq_true (by kernel_rfl)) (by unfold Func.isWrapper; first | (rw [if_pos (by decide +kernel)]; kernel_rfl) | (rw [if_neg (by decide +kernel)]; exact ⟨rfl, rfl⟩))
    (fun os started H enc _ => lifted os started H enc)

/-- THE STATEMENT -/
theorem proved : Rows.FnDayTotalsPartsSaid := over
#print axioms proved
end Go.Proofs.Ytdokilpinjabcaa.fnDayTotalsParts
