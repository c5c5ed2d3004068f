/-
  Days have sums: for every code, with the charges drawn from it, the law FnDayTotals returns true and leaves the code as it was. No conditions.
-/
import Derived.Test.YtdokilpinjabcaaCapLaw
import Derived.Test.YtdokilpinjabcaaLiftBytes
namespace Go.Proofs.Ytdokilpinjabcaa.fnDayTotals
open Go.ChangeShapes Go.WideShapes Go.ChangeAt Go.RowKit
set_option linter.unusedVariables false

set_option maxRecDepth 100000 in
set_option maxHeartbeats 1500000 in
theorem walk (A : Option Addr) (n c : Nat) (w : World) (h : Bytes w w.heap.size A n c) : Calls Try.prog 7 #[.slice A n c] w (TrueBelow w) := by
  by_cases hn : 1048576 < n
  · go_enter Try.func7, Try.ntmps7
    go_wp2
    go_ret
    exact ⟨rfl, Below.refl _ _⟩
  · go_enter Try.func7, Try.ntmps7
    go_wp2_with fail
    refine (drawDayTotals_any A n c w h).mono ?_
    rintro e w1 ⟨v, ys, rfl, hown1, hlen, hsm, hb1⟩
    obtain ⟨Av, cv, rfl, hcv1, hcv2, hrs1⟩ := hown1.form
    unfold maxLen at hcv2
    have Hrs1 := Lib.hid hrs1; clear hrs1
    have Hsm := Lib.hid hsm; clear hsm hown1
    obtain ⟨R, hR⟩ : ∃ R, R = Fares.dayTotals ys := ⟨_, rfl⟩
    have hRl : R.length ≤ 29 := by rw [hR]; exact Fares.dayTotals_length ys
    have HR := Lib.hid hR; clear hR
    go_wp2_with fail
    refine (implDayTotals_any Av _ cv ys _ Hrs1.out rfl (by omega)).mono ?_
    rintro e w2 ⟨vo, rfl, hown2, hb2⟩
    rw [← HR.out] at hown2
    have hc2 : Below w.heap.size w w2 := bT hb1 hb2
    have Hrs2 := Lib.hid ((Hrs1.out.below hb2 (Nat.le_refl _)).more hb2.size)
    obtain ⟨Ao, co, rfl, hco1, hco2, hro2⟩ := hown2.form
    unfold maxLen at hco2
    have Hro2 := Lib.hid hro2; clear hro2 hown2 hb2
    go_wp2_with fail
    refine (specDayTotals_any Av _ cv ys _ Hrs2.out rfl (by omega)).mono ?_
    rintro e w3 ⟨vs, rfl, hown3, hb3⟩
    rw [← HR.out] at hown3
    have hc3 : Below w.heap.size w w3 := bT hc2 hb3
    have Hrs3 := Lib.hid ((Hrs2.out.below hb3 (Nat.le_refl _)).more hb3.size)
    have Hro3 := Lib.hid ((Hro2.out.below hb3 (Nat.le_refl _)).more hb3.size)
    obtain ⟨As, cs, rfl, _, _, hrp3⟩ := hown3.form
    have Hrp3 := Lib.hid hrp3; clear hrp3 hown3 hb3
    go_wp2_with fail
    refine (equalInts_any Ao As _ _ co cs R R _ Hro3.out Hrp3.out rfl rfl (by omega) (by omega)).mono ?_
    rintro e w4 ⟨rfl, hb4⟩
    rw [decide_eq_true (rfl : R = R)]
    have hc4 : Below w.heap.size w w4 := bT hc3 hb4
    have Hrs4 := Lib.hid ((Hrs3.out.below hb4 (Nat.le_refl _)).more hb4.size)
    have Hro4 := Lib.hid ((Hro3.out.below hb4 (Nat.le_refl _)).more hb4.size)
    clear hb4
    clear Hrs1 Hrs2 Hro2 Hrs3 Hro3 Hrp3
    by_cases hv : Fares.validCharges ys = true
    · have hRv : R = Fares.totals ys := by rw [HR.out]; unfold Fares.dayTotals; rw [if_pos hv]
      have hRl2 : R.length = 29 := by rw [hRv]; exact Fares.totals_length ys
      have l1 : ((R.length : Int) == 0) = false := by rw [beq_eq_false_iff_ne]; omega
      have hylen := Fares.length_of_validCharges hv
      have hmem := Fares.chargeOk_mem hv
      have hmem2 : ∀ c ∈ ys, 0 ≤ c.a ∧ c.a ≤ 4000 := fun c h => ⟨(hmem c h).2.2.1, (hmem c h).2.2.2⟩
      have hsumR : Fares.sumI R = Fares.amountSum ys := by rw [HR.out]; exact Fares.sumI_dayTotals hv
      have htb : ∀ x ∈ R, 0 ≤ x ∧ x ≤ 96000 := fun x hx => by
        rw [hRv] at hx
        unfold Fares.totals at hx
        rw [List.mem_map] at hx
        obtain ⟨i, _, rfl⟩ := hx
        have := Fares.dayTotal_bounds i ys hmem2
        omega
      have HV := Lib.hid hv; clear hv
      have Hmem := Lib.hid hmem; clear hmem
      have Hmem2 := Lib.hid hmem2; clear hmem2
      have Htb := Lib.hid htb; clear htb
      have HsumR := Lib.hid hsumR; clear hsumR
      have HRv := Lib.hid hRv; clear hRv
      rw [hRl2]
      go_wp2
      go_loop [6, 5] (fun i v => ∃ (k : Nat) (s : Int), k ≤ ys.length ∧ i = .int .i64 k ∧ v = .int .i64 s ∧ 0 ≤ s ∧ s ≤ 4000 * k ∧ s = Fares.amountSum (ys.take k)) (fun i _ => ys.length - (intOf i).toNat)
      case atStart => exact ⟨0, 0, Nat.zero_le _, rfl, rfl, by omega, by omega, by simp [Fares.amountSum]⟩
      case round =>
        obtain ⟨k, s, hk, rfl, rfl, s0, s1, hs⟩ := hrel
        have Hs := Lib.hid hs; clear hs
        by_cases hlt : k < ys.length
        · obtain ⟨x, hxk⟩ : ∃ x, ys[k]? = some x := ⟨ys[k], List.getElem?_eq_getElem hlt⟩
          obtain ⟨x0, x1⟩ := Hmem2.out x (List.mem_of_getElem? hxk)
          obtain ⟨bb, oo, rfl, hbb, hr1⟩ := Hrs4.out.row (by omega)
          obtain ⟨p0, p1⟩ := hr1 k x hxk
          have Hnx := Lib.hid (Fares.amountSum_next hxk)
          clear hxk hr1
          have i0 : (0 : Int) ≤ (k : Int) := by omega
          have i1 : (k : Int) < (ys.length : Int) := by omega
          go_wp2
          go_round
          case rel => exact ⟨k + 1, s + x.a, by omega, by go_num, by go_num, by omega, by push_cast; omega, by rw [Hnx.out, ← Hs.out]⟩
          case measure => simp [intOf]; omega
        · have hfin : s = Fares.amountSum ys := by have := Hs.out; rwa [List.take_of_length_le (by omega)] at this
          have hf : (Fares.amountSum ys == s) = true := by rw [beq_iff_eq]; exact hfin.symm
          clear hfin
          go_wp2_with fail
          refine (lawsum_any Ao _ co R 96000 _ Hro4.out hRl2 (by omega) (by omega) Htb.out).mono ?_
          rintro e w' ⟨rfl, rfl⟩
          rw [HsumR.out]
          go_wp2
          go_ret
          exact ⟨rfl, hc4⟩
    · obtain rfl : R = [] := by rw [HR.out]; unfold Fares.dayTotals; rw [if_neg hv]
      clear hv
      go_wp2_with fail
      refine (specDayTotals_any Av _ cv ys _ Hrs4.out rfl (by omega)).mono ?_
      rintro e w5 ⟨vs5, rfl, hown5, hb5⟩
      rw [← HR.out] at hown5
      have hc5 : Below w.heap.size w w5 := bT hc4 hb5
      have Hro5 := Lib.hid ((Hro4.out.below hb5 (Nat.le_refl _)).more hb5.size)
      obtain ⟨As5, cs5, rfl, _, _, hrp5⟩ := hown5.form
      have Hrp5 := Lib.hid hrp5; clear hrp5 hown5 hb5
      go_wp2_with fail
      refine (equalInts_any Ao As5 0 0 co cs5 [] [] _ Hro5.out Hrp5.out rfl rfl (by omega) (by omega)).mono ?_
      rintro e w6 ⟨rfl, hb6⟩
      rw [decide_eq_true (rfl : ([] : List Int) = [])]
      go_wp2
      go_ret
      exact ⟨rfl, bT hc5 hb6⟩

set_option maxRecDepth 100000 in
theorem lifted (os : Os) (started : os.Started) (H : Type) (enc : TypeId × Value → H) :
    ReturnsInHanded {} Try.checked os 7 .any (Rows.fnDayTotalsSpec.pre6 enc Try.prog Try.f7 Rows.fnDayTotalsRow.domain false) (Rows.fnDayTotalsSpec.post enc Try.prog Try.f7 false true false false) := by
  refine returnsInHanded_of_change (C := Try.checked) Cells.own started (by kernel_rfl) Try.func7
    (ChangeSpec.witness6 (enc := enc) (C := Try.checked) false ⟨#[], #[.slice none 0 0], []⟩ 8 (by kernel_rfl) (by kernel_rfl) (by kernel_rfl) (by kernel_rfl)) ?_
  intro W base args ds gs before hval0 hW _ _
  have hval : ∀ (j : Nat) t v, Try.f7.params[j]? = some t → args[j]? = some v → Value.okWide Try.prog W .any base t v := hval0
  have hW' := hW
  obtain ⟨p, q, hA0, hV, rfl, _, _⟩ := hW
  have hA : DataW.TrodAll enc Try.prog W 0 (fun _ => true) true Try.f7.params.toList args.toList ds p := hA0
  rw [Try.params7] at hA hval
  obtain ⟨v0, d0, rfl, rfl, h0⟩ := trodAll_one hA
  obtain ⟨rfl, rfl⟩ := trodVars_none hV
  obtain ⟨a0, len, cap, rfl⟩ := okWide_slice Try.underlying22 (hval 0 22 v0 rfl rfl)
  clear hA0 hval0
  simp only [List.append_nil] at hW'
  obtain ⟨hb, hargs⟩ := opened h0 (fun x hx => by simpa using hW'.lt x hx)
  refine (walk a0 len cap W hb).mono fun e W' ⟨he, hnx⟩ => ?_
  subst he
  exact ⟨_, rfl, _, _, _, [], _, [], hW', trodAll_mk1 (shut_bool Try.underlying4 _), trodAll_mk1 (hargs _ hnx), rfl, hnx.frame _, fun h => by cases h⟩

theorem closed : joinedFacts Try.prog 7 Try.f7 Rows.fnDayTotalsSpec Rows.fnDayTotalsRow = true := by
  unfold joinedFacts
  rw [Cells.laidOut, Cells.mapsRowed_, Cells.stops, Cells.stopKnobs, Cells.plainKeys, Cells.stopsHeard, Cells.mayEnter, Cells.liftsFinal, Cells.make]
  kernel_rfl

theorem over : Rows.fnDayTotalsRow.holds Try.pinned (OpenSpec.ofChange Rows.fnDayTotalsSpec) :=
  OpenClaim.holds_of_wide 7 Try.f7 rfl rfl rfl rfl rfl rfl rfl ⟨rfl, rfl, rfl, rfl, rfl⟩ rfl rfl rfl rfl rfl (by kernel_rfl) Try.func7 closed
    (of_decide_eq_true (by kernel_rfl)) (by unfold Func.isWrapper; first | (rw [if_pos (by decide +kernel)]; kernel_rfl) | (rw [if_neg (by decide +kernel)]; exact ⟨rfl, rfl⟩))
    (fun os started H enc _ => lifted os started H enc)

/-- THE STATEMENT -/
theorem proved : Rows.FnDayTotalsSaid := over
#print axioms proved
end Go.Proofs.Ytdokilpinjabcaa.fnDayTotals
