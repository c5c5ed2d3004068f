/-
  Weeks pay what their days may pay: for every code, with the charges and caps drawn from it, the law FnCapChargesTotal returns true and leaves the code as it was. No conditions.
-/
import Derived.Test.YtdokilpinjabcaaCapLaw
import Derived.Test.YtdokilpinjabcaaLiftBytes
namespace Go.Proofs.Ytdokilpinjabcaa.fnCapChargesTotal
open Go.ChangeShapes Go.WideShapes Go.ChangeAt Go.RowKit
set_option linter.unusedVariables false

set_option maxRecDepth 100000 in
set_option maxHeartbeats 1500000 in
theorem walk (A : Option Addr) (n c : Nat) (w : World) (h : Bytes w w.heap.size A n c) : Calls Try.prog 10 #[.slice A n c] w (TrueBelow w) := by
  by_cases hn : 1048576 < n
  · go_enter Try.func10, Try.ntmps10
    go_wp2
    go_ret
    exact ⟨rfl, Below.refl _ _⟩
  · go_enter Try.func10, Try.ntmps10
    go_wp2_with fail
    refine (drawCapCharges_any A n c w h).mono ?_
    rintro e w1 ⟨v, ys, a, b, rfl, hown1, hlen, hsm, a0, a1, b0, b1, hb1⟩
    obtain ⟨Av, cv, rfl, hcv1, hcv2, hrs1⟩ := hown1.form
    unfold maxLen at hcv2
    have Hrs1 := Lib.hid hrs1; clear hrs1
    have Hsm := Lib.hid hsm; clear hsm hown1
    obtain ⟨R, hR⟩ : ∃ R, R = Fares.capCharges ys a b := ⟨_, rfl⟩
    have hRl : R.length ≤ 24 := by rw [hR]; exact Fares.capCharges_length ys a b
    have HR := Lib.hid hR; clear hR
    go_wp2_with fail
    refine (implCapCharges_any Av _ cv ys a b _ Hrs1.out rfl (by omega)).mono ?_
    rintro e w2 ⟨vo, rfl, hown2, hb2⟩
    rw [← HR.out] at hown2
    have hc2 : Below w.heap.size w w2 := bT hb1 hb2
    have Hrs2 := Lib.hid ((Hrs1.out.below hb2 (Nat.le_refl _)).more hb2.size)
    obtain ⟨Ao, co, rfl, hco1, hco2, hro2⟩ := hown2.form
    unfold maxLen at hco2
    have Hro2 := Lib.hid hro2; clear hro2 hown2 hb2
    go_wp2_with fail
    refine (specCapCharges_any Av _ cv ys a b _ Hrs2.out rfl (by omega)).mono ?_
    rintro e w3 ⟨vs, rfl, hown3, hb3⟩
    rw [← HR.out] at hown3
    have hc3 : Below w.heap.size w w3 := bT hc2 hb3
    have Hrs3 := Lib.hid ((Hrs2.out.below hb3 (Nat.le_refl _)).more hb3.size)
    have Hro3 := Lib.hid ((Hro2.out.below hb3 (Nat.le_refl _)).more hb3.size)
    obtain ⟨As, cs, rfl, _, _, hrp3⟩ := hown3.form
    have Hrp3 := Lib.hid hrp3; clear hrp3 hown3 hb3
    go_wp2_with fail
    refine (equalInts_any Ao As _ _ co cs R R _ Hro3.out Hrp3.out rfl rfl (by omega) (by omega)).mono ?_
    rintro e w4 ⟨rfl, hb4⟩
    rw [decide_eq_true (rfl : R = R)]
    have hc4 : Below w.heap.size w w4 := bT hc3 hb4
    have Hrs4 := Lib.hid ((Hrs3.out.below hb4 (Nat.le_refl _)).more hb4.size)
    have Hro4 := Lib.hid ((Hro3.out.below hb4 (Nat.le_refl _)).more hb4.size)
    clear hb4
    clear Hrs1 Hrs2 Hro2 Hrs3 Hro3 Hrp3
    by_cases hl0 : R.length = 0
    · skip
      obtain rfl : R = [] := List.eq_nil_of_length_eq_zero hl0
      go_wp2_with fail
      refine (specCapCharges_any Av _ cv ys a b _ Hrs4.out rfl (by omega)).mono ?_
      rintro e w5 ⟨vs5, rfl, hown5, hb5⟩
      rw [← HR.out] at hown5
      have hc5 : Below w.heap.size w w5 := bT hc4 hb5
      have Hro5 := Lib.hid ((Hro4.out.below hb5 (Nat.le_refl _)).more hb5.size)
      obtain ⟨As5, cs5, rfl, _, _, hrp5⟩ := hown5.form
      have Hrp5 := Lib.hid hrp5; clear hrp5 hown5 hb5
      go_wp2_with fail
      refine (equalInts_any Ao As5 0 0 co cs5 [] [] _ Hro5.out Hrp5.out rfl rfl (by omega) (by omega)).mono ?_
      rintro e w6 ⟨rfl, hb6⟩
      rw [decide_eq_true (rfl : ([] : List Int) = [])]
      go_wp2
      go_ret
      exact ⟨rfl, bT hc5 hb6⟩
    · have hl1 : 0 < R.length := by omega
      have l1 : ((R.length : Int) == 0) = false := by rw [beq_eq_false_iff_ne]; omega
      have hfacts := Fares.capCharges_some (xs := ys) (D := a) (W := b) (by rw [← HR.out]; omega)
      obtain ⟨hv, hda, hwb, hrun⟩ := hfacts
      have HR2 := Lib.hid (show R = Fares.capRun ys a b ys.length by rw [HR.out]; exact hrun)
      have hRl2 : R.length = ys.length := by rw [HR2.out]; exact Fares.capRun_length ys a b _ (Nat.le_refl _)
      obtain ⟨a2, a3⟩ := Fares.capOk_iff.1 hda
      obtain ⟨b2, b3⟩ := Fares.capOk_iff.1 hwb
      have hmem := Fares.chargeOk_mem hv
      have hmem2 : ∀ c ∈ ys, 0 ≤ c.a ∧ c.a ≤ 4000 := fun c h => ⟨(hmem c h).2.2.1, (hmem c h).2.2.2⟩
      have hbd : ∀ o ∈ R, 0 ≤ o ∧ o ≤ 4000 := by rw [HR2.out]; exact Fares.capRun_bounds a b hmem2 _
      have HV := Lib.hid hv; clear hv hrun
      have HDA := Lib.hid hda; clear hda
      have HWB := Lib.hid hwb; clear hwb
      have Hmem := Lib.hid hmem; clear hmem
      have Hmem2 := Lib.hid hmem2; clear hmem2
      have Hbd := Lib.hid hbd; clear hbd
      have Hl2 := Lib.hid hRl2; clear hRl2
      have hylen : ys.length ≤ 24 := by have := Hl2.out; omega
      have HT := Lib.hid (show Fares.dayTotals ys = Fares.totals ys by unfold Fares.dayTotals; rw [if_pos HV.out])
      have hct := Fares.capRun_total ys a b a2 b2 Hmem.out
      rw [← HR2.out] at hct
      have Hct := Lib.hid hct; clear hct
      obtain ⟨F, hF⟩ : ∃ F : Nat → Int, F = fun i => min a (Fares.dayTotal i ys) := ⟨_, rfl⟩
      have hFb : ∀ i, 0 ≤ F i ∧ F i ≤ 50000 := fun i => by
        have := Fares.dayTotal_bounds i ys Hmem2.out
        rw [hF]
        dsimp only
        omega
      have Hct2 := Lib.hid (show Fares.sumI R = Fares.sumR 5 (fun w => min b (Fares.weekPart 29 F w)) by rw [Hct.out, hF]; rfl)
      have HF := Lib.hid hF; clear hF
      have HFb := Lib.hid hFb; clear hFb
      obtain ⟨Z, hZ, hZ0, hmk0⟩ := run_make_ints 5 (by omega)
      have hmk : ∀ w : World, (Instr.makeSlice 26 (.int .i64 5) (.int .i64 5)).run Try.prog w = .ok (.slice (some ⟨w.heap.size, 0, none⟩) 5 5) (w.alloc (.cells Z 3)) := hmk0
      have HZ := Lib.hid hZ; clear hZ
      have HZ0 := Lib.hid hZ0; clear hZ0 hmk0
      go_wp2_with fail
      refine (implDayTotals_any Av _ cv ys _ Hrs4.out rfl (by omega)).mono ?_
      rintro e w5 ⟨v5, rfl, hown5, hb5⟩
      rw [HT.out] at hown5
      have hc5 : Below w.heap.size w w5 := bT hc4 hb5
      have Hro5 := Lib.hid ((Hro4.out.below hb5 (Nat.le_refl _)).more hb5.size)
      obtain ⟨A5, c5, rfl, _, _, hri5⟩ := hown5.form
      have hs5 := hc5.size
      rw [Fares.totals_length]
      clear hown5 hb5
      go_wp2
      clear hmk
      obtain ⟨bt, ot, rfl, hbt, hrt⟩ := hri5.row (by rw [Fares.totals_length]; omega)
      have Hrt := Lib.hid hrt; clear hrt hri5
      go_loopw [9] (fun i wr => ∃ (k : Nat), k ≤ 29 ∧ i = .int .i64 k ∧ Starts wr w5.heap.size 3 5 ((Fares.weekSums k F).flatMap intCells) ∧ Below w5.heap.size w5 wr) (fun i _ => 29 - (intOf i).toNat)
      case atStart => exact ⟨0, Nat.zero_le _, rfl, (by
        have h := zeros_starts (Blk.new w5 3 Z) HZ.out HZ0.out
        have e : Fares.weekSums 0 F = List.replicate 5 (0 : Int) := rfl
        rw [e]
        exact h), bA (Below.refl _ _) _⟩
      case round =>
        obtain ⟨k, hk, rfl, hst, hb⟩ := hrel
        have hz1 := hst.lt
        by_cases hlt : k < 29
        · have k0 : (0 : Int) ≤ (k : Int) := by omega
          have k1 : (k : Int) ≤ 28 := by omega
          have k2 : (k : Int) < 29 := by omega
          obtain ⟨y, hy⟩ : ∃ y, y = Fares.dayTotal k ys := ⟨_, rfl⟩
          have hyb := Fares.dayTotal_bounds k ys Hmem2.out
          rw [← hy] at hyb
          have q0 := (hb.cell (p := ⟨bt, ot + k, none⟩) hbt).trans (Hrt.out k y (by rw [Fares.totals_get ys hlt, hy]))
          obtain ⟨qk, hqk⟩ : ∃ qk, qk = k / 7 := ⟨_, rfl⟩
          have hq5 : qk < 5 := by omega
          obtain ⟨t, ht⟩ : ∃ t, t = Fares.weekPart k F qk := ⟨_, rfl⟩
          have htb := Fares.weekPart_bounds (by omega) HFb.out qk k
          rw [← ht] at htb
          have r0 : wr.cell? ⟨w5.heap.size, qk, none⟩ = some (.int .i64 t) := by
            obtain ⟨cs, h1, h2, h3⟩ := hst
            rw [h1.cell]
            refine h3 _ _ ?_
            rw [flat_ints, List.getElem?_map, Fares.weekSums_get _ _ hq5, ht]
            rfl
          have f0 := hst.free qk
          obtain ⟨m, E1⟩ : ∃ m, (if y < a then y else a) = m := ⟨_, rfl⟩
          have hm0 : 0 ≤ m := by split at E1 <;> omega
          have hm1 : m ≤ 50000 := by split at E1 <;> omega
          have HFk := Lib.hid (show F k = m by rw [HF.out]; dsimp only; rw [← hy]; split at E1 <;> omega)
          have Hws := Lib.hid (Fares.weekSums_succ k F hlt)
          have Ht := Lib.hid ht; clear ht
          have Hst := Lib.hid hst; clear hst
          have Hqk := Lib.hid hqk
          have d1 : (k : Int) / 7 = (qk : Int) := by omega
          have d2 : (k : Int).tdiv 7 = (qk : Int) := by rw [Int.tdiv_eq_ediv_of_nonneg k0]; exact d1
          have j0 : (0 : Int) ≤ (qk : Int) := by omega
          have j1 : (qk : Int) < 5 := by omega
          have W1 : IntKind.i64.wrap (t + m) = t + m := IntWalk.i64_in _ (by omega)
          have W0 : IntKind.i64.wrap (qk : Int) = (qk : Int) := IntWalk.i64_in _ (by omega)
          clear hqk hy
          go_wp2
          go_still_tail 16, (by kernel_rfl)
          change wpList _ _ _ _ _ _
          go_wp2
          clear d1 d2 E1 W1 W0
          go_roundw
          case rel => exact ⟨k + 1, by omega, by go_num, (by
            rw [Hws.out, HFk.out, ← Hqk.out, ← Ht.out]
            exact Starts.setInt Hst.out), bS (bD1 hb) (Nat.le_refl _) _⟩
          case measure => simp [intOf]; omega
        · have hk29 : k = 29 := by omega
          subst hk29
          have g1 : decide ((29 : Int) < 29) = false := by decide
          go_wp2
          go_loop [11, 10] (fun i v => ∃ (j : Nat) (s : Int), j ≤ 5 ∧ i = .int .i64 j ∧ v = .int .i64 s ∧ 0 ≤ s ∧ s ≤ 50000 * j ∧ s = Fares.sumR j (fun w => min b (Fares.weekPart 29 F w))) (fun i _ => 5 - (intOf i).toNat)
          case atStart => exact ⟨0, 0, Nat.zero_le _, rfl, rfl, by omega, by omega, rfl⟩
          case round =>
            obtain ⟨j, s, hj, rfl, rfl, s0, s1, hs⟩ := hrel
            have Hs := Lib.hid hs; clear hs
            by_cases hltj : j < 5
            · obtain ⟨t, ht⟩ : ∃ t, t = Fares.weekPart 29 F j := ⟨_, rfl⟩
              have htb := (Fares.weekPart_bounds (by omega) HFb.out j 29).1
              rw [← ht] at htb
              have r0 : wr.cell? ⟨w5.heap.size, j, none⟩ = some (.int .i64 t) := by
                obtain ⟨cs, h1, h2, h3⟩ := hst
                rw [h1.cell]
                refine h3 _ _ ?_
                rw [flat_ints, List.getElem?_map, Fares.weekSums_get _ _ hltj, ht]
                rfl
              obtain ⟨m, E1⟩ : ∃ m, (if t < b then t else b) = m := ⟨_, rfl⟩
              have hm0 : 0 ≤ m := by split at E1 <;> omega
              have hm1 : m ≤ 50000 := by split at E1 <;> omega
              have Hm := Lib.hid (show min b (Fares.weekPart 29 F j) = m by rw [← ht]; split at E1 <;> omega)
              have Hst := Lib.hid hst; clear hst
              have j0 : (0 : Int) ≤ (j : Int) := by omega
              have j1 : (j : Int) < 5 := by omega
              clear ht
              go_wp2
              clear E1
              go_round
              case rel => exact ⟨j + 1, s + m, by omega, by go_num, by go_num, by omega, by push_cast; omega, by
                show s + m = Fares.sumR j (fun w => min b (Fares.weekPart 29 F w)) + min b (Fares.weekPart 29 F j)
                rw [← Hs.out, Hm.out]⟩
              case measure => simp [intOf]; omega
            · have hj5 : j = 5 := by omega
              subst hj5
              have Hfin := Lib.hid (show (s == Fares.sumI R) = true ∧ (Fares.sumI R == s) = true by rw [Hct2.out, ← Hs.out]; simp)
              obtain ⟨f1, f2⟩ := Hfin.out
              rw [Hl2.out]
              go_wp2_with fail
              refine (lawsum_any Ao _ co R 4000 _ ((Hro5.out.below hb (Nat.le_refl _)).more hb.size) Hl2.out (by omega) (by omega) Hbd.out).mono ?_
              rintro e w' ⟨rfl, rfl⟩
              go_wp2
              go_ret
              exact ⟨rfl, bT hc5 hb⟩

set_option maxRecDepth 100000 in
theorem lifted (os : Os) (started : os.Started) (H : Type) (enc : TypeId × Value → H) :
    ReturnsInHanded {} Try.checked os 10 .any (Rows.fnCapChargesTotalSpec.pre6 enc Try.prog Try.f10 Rows.fnCapChargesTotalRow.domain false) (Rows.fnCapChargesTotalSpec.post enc Try.prog Try.f10 false true false false) := by
  refine returnsInHanded_of_change (C := Try.checked) Cells.own started (by kernel_rfl) Try.func10
    (ChangeSpec.witness6 (enc := enc) (C := Try.checked) false ⟨#[], #[.slice none 0 0], []⟩ 8 (by kernel_rfl) (by kernel_rfl) (by kernel_rfl) (by kernel_rfl)) ?_
  intro W base args ds gs before hval0 hW _ _
  have hval : ∀ (j : Nat) t v, Try.f10.params[j]? = some t → args[j]? = some v → Value.okWide Try.prog W .any base t v := hval0
  have hW' := hW
  obtain ⟨p, q, hA0, hV, rfl, _, _⟩ := hW
  have hA : DataW.TrodAll enc Try.prog W 0 (fun _ => true) true Try.f10.params.toList args.toList ds p := hA0
  rw [Try.params10] at hA hval
  obtain ⟨v0, d0, rfl, rfl, h0⟩ := trodAll_one hA
  obtain ⟨rfl, rfl⟩ := trodVars_none hV
  obtain ⟨a0, len, cap, rfl⟩ := okWide_slice Try.underlying22 (hval 0 22 v0 rfl rfl)
  clear hA0 hval0
  simp only [List.append_nil] at hW'
  obtain ⟨hb, hargs⟩ := opened h0 (fun x hx => by simpa using hW'.lt x hx)
  refine (walk a0 len cap W hb).mono fun e W' ⟨he, hnx⟩ => ?_
  subst he
  exact ⟨_, rfl, _, _, _, [], _, [], hW', trodAll_mk1 (shut_bool Try.underlying4 _), trodAll_mk1 (hargs _ hnx), rfl, hnx.frame _, fun h => by cases h⟩

theorem closed : joinedFacts Try.prog 10 Try.f10 Rows.fnCapChargesTotalSpec Rows.fnCapChargesTotalRow = true := by
  unfold joinedFacts
  rw [Cells.laidOut, Cells.mapsRowed_, Cells.stops, Cells.stopKnobs, Cells.plainKeys, Cells.stopsHeard, Cells.mayEnter, Cells.liftsFinal, Cells.make]
  kernel_rfl

theorem over : Rows.fnCapChargesTotalRow.holds Try.pinned (OpenSpec.ofChange Rows.fnCapChargesTotalSpec) :=
  OpenClaim.holds_of_wide 10 Try.f10 rfl rfl rfl rfl rfl rfl rfl ⟨rfl, rfl, rfl, rfl, rfl⟩ rfl rfl rfl rfl rfl (by kernel_rfl) Try.func10 closed
    (of_decide_eq_true (by kernel_rfl)) (by unfold Func.isWrapper; first | (rw [if_pos (by decide +kernel)]; kernel_rfl) | (rw [if_neg (by decide +kernel)]; exact ⟨rfl, rfl⟩))
    (fun os started H enc _ => lifted os started H enc)

/-- THE STATEMENT -/
theorem proved : Rows.FnCapChargesTotalSaid := over
#print axioms proved
end Go.Proofs.Ytdokilpinjabcaa.fnCapChargesTotal
