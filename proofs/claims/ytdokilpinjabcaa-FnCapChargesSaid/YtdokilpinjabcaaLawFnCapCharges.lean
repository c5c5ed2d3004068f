/-
  Caps are kept: for every code, with the charges and caps drawn from it, the law FnCapCharges returns true and leaves the code as it was. No conditions.
-/
import Derived.Test.YtdokilpinjabcaaCapLaw
import Derived.Test.YtdokilpinjabcaaLiftBytes
namespace Go.Proofs.Ytdokilpinjabcaa.fnCapCharges
open Go.ChangeShapes Go.WideShapes Go.ChangeAt Go.RowKit
set_option linter.unusedVariables false

set_option maxRecDepth 100000 in
set_option maxHeartbeats 1500000 in
theorem walk (A : Option Addr) (n c : Nat) (w : World) (h : Bytes w w.heap.size A n c) : Calls Try.prog 3 #[.slice A n c] w (TrueBelow w) := by
  by_cases hn : 1048576 < n
  · go_enter Try.func3, Try.ntmps3
    go_wp2
    go_ret
    exact ⟨rfl, Below.refl _ _⟩
  · go_enter Try.func3, Try.ntmps3
    go_wp2_with fail
    refine (drawCapCharges_any A n c w h).mono ?_
    rintro e w1 ⟨v, ys, a, b, rfl, hown1, hlen, hsm, a0, a1, b0, b1, hb1⟩
    obtain ⟨Av, cv, rfl, hcv1, hcv2, hrs1⟩ := hown1.form
    unfold maxLen at hcv2
    have Hrs1 := Lib.hid hrs1; clear hrs1
    have Hsm := Lib.hid hsm; clear hsm hown1
    obtain ⟨R, hR⟩ : ∃ R, R = Fares.capCharges ys a b := ⟨_, rfl⟩
    have hRl : R.length ≤ 24 := by rw [hR]; exact Fares.capCharges_length ys a b
    have HR := Lib.hid hR; clear hR
    go_wp2_with fail
    refine (implCapCharges_any Av _ cv ys a b _ Hrs1.out rfl (by omega)).mono ?_
    rintro e w2 ⟨vo, rfl, hown2, hb2⟩
    rw [← HR.out] at hown2
    have hc2 : Below w.heap.size w w2 := bT hb1 hb2
    have Hrs2 := Lib.hid ((Hrs1.out.below hb2 (Nat.le_refl _)).more hb2.size)
    obtain ⟨Ao, co, rfl, hco1, hco2, hro2⟩ := hown2.form
    unfold maxLen at hco2
    have Hro2 := Lib.hid hro2; clear hro2 hown2 hb2
    go_wp2_with fail
    refine (specCapCharges_any Av _ cv ys a b _ Hrs2.out rfl (by omega)).mono ?_
    rintro e w3 ⟨vs, rfl, hown3, hb3⟩
    rw [← HR.out] at hown3
    have hc3 : Below w.heap.size w w3 := bT hc2 hb3
    have Hrs3 := Lib.hid ((Hrs2.out.below hb3 (Nat.le_refl _)).more hb3.size)
    have Hro3 := Lib.hid ((Hro2.out.below hb3 (Nat.le_refl _)).more hb3.size)
    obtain ⟨As, cs, rfl, _, _, hrp3⟩ := hown3.form
    have Hrp3 := Lib.hid hrp3; clear hrp3 hown3 hb3
    go_wp2_with fail
    refine (equalInts_any Ao As _ _ co cs R R _ Hro3.out Hrp3.out rfl rfl (by omega) (by omega)).mono ?_
    rintro e w4 ⟨rfl, hb4⟩
    rw [decide_eq_true (rfl : R = R)]
    have hc4 : Below w.heap.size w w4 := bT hc3 hb4
    have Hrs4 := Lib.hid ((Hrs3.out.below hb4 (Nat.le_refl _)).more hb4.size)
    have Hro4 := Lib.hid ((Hro3.out.below hb4 (Nat.le_refl _)).more hb4.size)
    clear hb4
    clear Hrs1 Hrs2 Hro2 Hrs3 Hro3 Hrp3
    by_cases hl0 : R.length = 0
    · skip
      obtain rfl : R = [] := List.eq_nil_of_length_eq_zero hl0
      go_wp2_with fail
      refine (specCapCharges_any Av _ cv ys a b _ Hrs4.out rfl (by omega)).mono ?_
      rintro e w5 ⟨vs5, rfl, hown5, hb5⟩
      rw [← HR.out] at hown5
      have hc5 : Below w.heap.size w w5 := bT hc4 hb5
      have Hro5 := Lib.hid ((Hro4.out.below hb5 (Nat.le_refl _)).more hb5.size)
      obtain ⟨As5, cs5, rfl, _, _, hrp5⟩ := hown5.form
      have Hrp5 := Lib.hid hrp5; clear hrp5 hown5 hb5
      go_wp2_with fail
      refine (equalInts_any Ao As5 0 0 co cs5 [] [] _ Hro5.out Hrp5.out rfl rfl (by omega) (by omega)).mono ?_
      rintro e w6 ⟨rfl, hb6⟩
      rw [decide_eq_true (rfl : ([] : List Int) = [])]
      go_wp2
      go_ret
      exact ⟨rfl, bT hc5 hb6⟩
    · have hl1 : 0 < R.length := by omega
      have l1 : ((R.length : Int) == 0) = false := by rw [beq_eq_false_iff_ne]; omega
      have hfacts := Fares.capCharges_some (xs := ys) (D := a) (W := b) (by rw [← HR.out]; omega)
      obtain ⟨hv, hda, hwb, hrun⟩ := hfacts
      have HR2 := Lib.hid (show R = Fares.capRun ys a b ys.length by rw [HR.out]; exact hrun)
      have hRl2 : R.length = ys.length := by rw [HR2.out]; exact Fares.capRun_length ys a b _ (Nat.le_refl _)
      obtain ⟨a2, a3⟩ := Fares.capOk_iff.1 hda
      obtain ⟨b2, b3⟩ := Fares.capOk_iff.1 hwb
      have hmem := Fares.chargeOk_mem hv
      have hmem2 : ∀ c ∈ ys, 0 ≤ c.a ∧ c.a ≤ 4000 := fun c h => ⟨(hmem c h).2.2.1, (hmem c h).2.2.2⟩
      have hbd : ∀ o ∈ R, 0 ≤ o ∧ o ≤ 4000 := by rw [HR2.out]; exact Fares.capRun_bounds a b hmem2 _
      have HV := Lib.hid hv; clear hv hrun
      have HDA := Lib.hid hda; clear hda
      have HWB := Lib.hid hwb; clear hwb
      have Hmem := Lib.hid hmem; clear hmem
      have Hmem2 := Lib.hid hmem2; clear hmem2
      have Hbd := Lib.hid hbd; clear hbd
      have Hl2 := Lib.hid hRl2; clear hRl2
      have hl2 : R.length ≤ 24 := by omega
      have hleb := fun i => Fares.leftOf_bounds ys a b a2 b2 Hmem.out ys.length (Nat.le_refl _) i
      rw [← HR2.out] at hleb
      have Hleb := Lib.hid hleb; clear hleb
      have Hamt := Lib.hid (fun (j : Nat) (x : Fares.Charge) (hx : ys[j]? = some x) (y : Int) (hy : R[j]? = some y) => (show y ≤ x.a by
        rw [HR2.out, Fares.capRun_get a b hx] at hy
        injection hy with hy
        rw [← hy]
        exact (Fares.capPay_bounds ys _ a b x (Hmem2.out x (List.mem_of_getElem? hx)).1).2))
      go_wp2
      go_loopw [7] (fun i wr => ∃ (k q : Nat), k ≤ 29 ∧ i = .int .i64 k ∧ w4.drewN q = wr) (fun i _ => 29 - (intOf i).toNat)
      case atStart => exact ⟨0, 0, Nat.zero_le _, rfl, rfl⟩
      case round =>
        obtain ⟨k, q, hk, rfl, rfl⟩ := hrel
        by_cases hlt : k < 29
        · have k0 : (0 : Int) ≤ (k : Int) := by omega
          have k1 : (k : Int) ≤ 28 := by omega
          obtain ⟨qk, hqk⟩ : ∃ qk, qk = k / 7 := ⟨_, rfl⟩
          have Hk := Lib.hid hqk; clear hqk
          go_wp2
          go_loopw [10, 8, 9] (fun i u v wq => ∃ (j q2 : Nat) (sa sb : Int), j ≤ ys.length ∧ i = .int .i64 j ∧ u = .int .i64 sa ∧ v = .int .i64 sb ∧ 0 ≤ sa ∧ sa ≤ 4000 * j ∧ 0 ≤ sb ∧ sb ≤ 4000 * j ∧ sa = Fares.paidBy (Fares.inSpan (k : Int) 1) ys (R.take j) ∧ sb = Fares.paidBy (Fares.inSpan (k : Int) 7) ys (R.take j) ∧ w4.drewN q2 = wq) (fun i _ _ _ => ys.length - (intOf i).toNat)
          case atStart => exact ⟨0, q, 0, 0, Nat.zero_le _, rfl, rfl, rfl, by omega, by omega, by omega, by omega, by simp [Fares.paidBy_nil], by simp [Fares.paidBy_nil], rfl⟩
          case round =>
            obtain ⟨j, q2, sa, sb, hj, rfl, rfl, rfl, sa0, sa1, sb0, sb1, hsa, hsb, rfl⟩ := hrel
            have Hsa := Lib.hid hsa; clear hsa
            have Hsb := Lib.hid hsb; clear hsb
            by_cases hltj : j < ys.length
            · obtain ⟨x, hxk⟩ : ∃ x, ys[j]? = some x := ⟨ys[j], List.getElem?_eq_getElem hltj⟩
              obtain ⟨y, hyk⟩ : ∃ y, R[j]? = some y := ⟨_, List.getElem?_eq_getElem (by rw [Hl2.out]; exact hltj)⟩
              obtain ⟨x0, x1, xa0, xa1⟩ := Hmem.out x (List.mem_of_getElem? hxk)
              obtain ⟨y0, y1⟩ := Hbd.out y (List.mem_of_getElem? hyk)
              have hya := Hamt.out j x hxk y hyk
              obtain ⟨xd, xa⟩ := x
              dsimp only at x0 x1 xa0 xa1 hya
              obtain ⟨e, rfl⟩ := Int.eq_ofNat_of_zero_le x0
              obtain ⟨bb, oo, rfl, hbb, hr1⟩ := Hrs4.out.row (by omega)
              obtain ⟨bb2, oo2, rfl, hbb2, hr2⟩ := Hro4.out.row (by rw [Hl2.out]; omega)
              obtain ⟨p0, p1⟩ := hr1 j _ hxk
              dsimp only at p0 p1
              have q0 := hr2 j y hyk
              have Hn1 := Lib.hid (Fares.paidBy_next (Fares.inSpan (k : Int) 1) ys R j _ y hxk hyk)
              have Hn7 := Lib.hid (Fares.paidBy_next (Fares.inSpan (k : Int) 7) ys R j _ y hxk hyk)
              clear hxk hyk hr1 hr2
              obtain ⟨qe, hqe⟩ : ∃ qe, qe = e / 7 := ⟨_, rfl⟩
              have He := Lib.hid hqe; clear hqe
              have i0 : (0 : Int) ≤ (j : Int) := by omega
              have i1 : (j : Int) < (ys.length : Int) := by omega
              have i2 : (j : Int) < (R.length : Int) := by have := Hl2.out; omega
              have hjr : j < R.length := by have := Hl2.out; omega
              have e0 : (0 : Int) ≤ (e : Int) := by omega
              have g1 : decide (y < 0) = false := by rw [decide_eq_false_iff_not]; omega
              have g2 : decide (xa < y) = false := by rw [decide_eq_false_iff_not]; omega
              have g3 : decide ((j : Int) < (R.length : Int)) = true := by rw [decide_eq_true_eq]; exact i2
              have g4 : decide (j < R.length) = true := by rw [decide_eq_true_eq]; exact hjr
              by_cases hce : e = k
              · by_cases hcw : qe = qk
                have f1 : ((e : Int) == (k : Int)) = true := by simp; omega
                have f2 : (e == k) = true := by simp; omega
                have f3 : ((qe : Int) == (qk : Int)) = true := by simp; omega
                have f4 : (qe == qk) = true := by simp; omega
                have Hp1 := Lib.hid (show Fares.inSpan (k : Int) 1 ⟨(e : Int), xa⟩ = true by unfold Fares.inSpan; simp; omega)
                have Hp7 := Lib.hid (show Fares.inSpan (k : Int) 7 ⟨(e : Int), xa⟩ = true by have h1 := He.out; have h2 := Hk.out; unfold Fares.inSpan; simp; omega)
                clear hce hcw
                go_wp2_with (go_at_call 21; ((first | (with_reducible refine (weekOf_in e qe _ (by omega) He.out).mono ?_) | (with_reducible refine (weekOf_in k qk _ (by omega) Hk.out).mono ?_)); rintro e' w' ⟨rfl, rfl⟩))
                clear f1 f2 f3 f4
                go_quiet (fail)
                go_wp2
                clear g1 g2 g3 g4
                go_roundw
                case rel => exact ⟨j + 1, _, sa + y, sb + y, by omega, by go_num, by go_num, by go_num, by omega, by push_cast; omega, by omega, by push_cast; omega, by rw [Hn1.out, Hp1.out, ← Hsa.out]; simp, by rw [Hn7.out, Hp7.out, ← Hsb.out]; simp, rfl⟩
                case measure => simp [intOf]; omega
                · exact absurd (by have h1 := He.out; have h2 := Hk.out; omega) hcw
              · by_cases hcw : qe = qk
                have f1 : ((e : Int) == (k : Int)) = false := by simp; omega
                have f2 : (e == k) = false := by simp; omega
                have f3 : ((qe : Int) == (qk : Int)) = true := by simp; omega
                have f4 : (qe == qk) = true := by simp; omega
                have Hp1 := Lib.hid (show Fares.inSpan (k : Int) 1 ⟨(e : Int), xa⟩ = false by unfold Fares.inSpan; simp; omega)
                have Hp7 := Lib.hid (show Fares.inSpan (k : Int) 7 ⟨(e : Int), xa⟩ = true by have h1 := He.out; have h2 := Hk.out; unfold Fares.inSpan; simp; omega)
                clear hce hcw
                go_wp2_with (go_at_call 21; ((first | (with_reducible refine (weekOf_in e qe _ (by omega) He.out).mono ?_) | (with_reducible refine (weekOf_in k qk _ (by omega) Hk.out).mono ?_)); rintro e' w' ⟨rfl, rfl⟩))
                clear f1 f2 f3 f4
                go_quiet (fail)
                go_wp2
                clear g1 g2 g3 g4
                go_roundw
                case rel => exact ⟨j + 1, _, sa, sb + y, by omega, by go_num, by go_num, by go_num, by omega, by push_cast; omega, by omega, by push_cast; omega, by rw [Hn1.out, Hp1.out, ← Hsa.out]; simp, by rw [Hn7.out, Hp7.out, ← Hsb.out]; simp, rfl⟩
                case measure => simp [intOf]; omega
                · skip
                  have f1 : ((e : Int) == (k : Int)) = false := by simp; omega
                  have f2 : (e == k) = false := by simp; omega
                  have f3 : ((qe : Int) == (qk : Int)) = false := by simp; omega
                  have f4 : (qe == qk) = false := by simp; omega
                  have Hp1 := Lib.hid (show Fares.inSpan (k : Int) 1 ⟨(e : Int), xa⟩ = false by unfold Fares.inSpan; simp; omega)
                  have Hp7 := Lib.hid (show Fares.inSpan (k : Int) 7 ⟨(e : Int), xa⟩ = false by have h1 := He.out; have h2 := Hk.out; unfold Fares.inSpan; simp; omega)
                  clear hce hcw
                  go_wp2_with (go_at_call 21; ((first | (with_reducible refine (weekOf_in e qe _ (by omega) He.out).mono ?_) | (with_reducible refine (weekOf_in k qk _ (by omega) Hk.out).mono ?_)); rintro e' w' ⟨rfl, rfl⟩))
                  clear f1 f2 f3 f4
                  go_quiet (fail)
                  go_wp2
                  clear g1 g2 g3 g4
                  go_roundw
                  case rel => exact ⟨j + 1, _, sa, sb, by omega, by go_num, by go_num, by go_num, by omega, by push_cast; omega, by omega, by push_cast; omega, by rw [Hn1.out, Hp1.out, ← Hsa.out]; simp, by rw [Hn7.out, Hp7.out, ← Hsb.out]; simp, rfl⟩
                  case measure => simp [intOf]; omega
            · have hfa : sa ≤ a := by
                have h1 := Hsa.out
                rw [List.take_of_length_le (by rw [Hl2.out]; omega)] at h1
                have h2 := (Hleb.out k).1
                rw [Fares.leftOf_day (by omega), ← h1] at h2
                omega
              have hfb : sb ≤ b := by
                have h1 := Hsb.out
                rw [List.take_of_length_le (by rw [Hl2.out]; omega)] at h1
                have h2 := (Hleb.out (29 + k / 7)).1
                rw [Fares.leftOf_week, ← h1] at h2
                omega
              have g1 : decide (a < sa) = false := by rw [decide_eq_false_iff_not]; omega
              have g2 : decide (b < sb) = false := by rw [decide_eq_false_iff_not]; omega
              clear Hsa Hsb
              go_wp2
              clear g1 g2
              go_roundw
              case rel => exact ⟨k + 1, q2, by omega, by go_num, rfl⟩
              case measure => simp [intOf]; omega
        · rw [Hl2.out]
          go_wp2
          go_ret
          exact ⟨rfl, bD hc4 _⟩

set_option maxRecDepth 100000 in
theorem lifted (os : Os) (started : os.Started) (H : Type) (enc : TypeId × Value → H) :
    ReturnsInHanded {} Try.checked os 3 .any (Rows.fnCapChargesSpec.pre6 enc Try.prog Try.f3 Rows.fnCapChargesRow.domain false) (Rows.fnCapChargesSpec.post enc Try.prog Try.f3 false true false false) := by
  refine returnsInHanded_of_change (C := Try.checked) Cells.own started (by kernel_rfl) Try.func3
    (ChangeSpec.witness6 (enc := enc) (C := Try.checked) false ⟨#[], #[.slice none 0 0], []⟩ 8 (by kernel_rfl) (by kernel_rfl) (by kernel_rfl) (by kernel_rfl)) ?_
  intro W base args ds gs before hval0 hW _ _
  have hval : ∀ (j : Nat) t v, Try.f3.params[j]? = some t → args[j]? = some v → Value.okWide Try.prog W .any base t v := hval0
  have hW' := hW
  obtain ⟨p, q, hA0, hV, rfl, _, _⟩ := hW
  have hA : DataW.TrodAll enc Try.prog W 0 (fun _ => true) true Try.f3.params.toList args.toList ds p := hA0
  rw [Try.params3] at hA hval
  obtain ⟨v0, d0, rfl, rfl, h0⟩ := trodAll_one hA
  obtain ⟨rfl, rfl⟩ := trodVars_none hV
  obtain ⟨a0, len, cap, rfl⟩ := okWide_slice Try.underlying22 (hval 0 22 v0 rfl rfl)
  clear hA0 hval0
  simp only [List.append_nil] at hW'
  obtain ⟨hb, hargs⟩ := opened h0 (fun x hx => by simpa using hW'.lt x hx)
  refine (walk a0 len cap W hb).mono fun e W' ⟨he, hnx⟩ => ?_
  subst he
  exact ⟨_, rfl, _, _, _, [], _, [], hW', trodAll_mk1 (shut_bool Try.underlying4 _), trodAll_mk1 (hargs _ hnx), rfl, hnx.frame _, fun h => by cases h⟩

theorem closed : joinedFacts Try.prog 3 Try.f3 Rows.fnCapChargesSpec Rows.fnCapChargesRow = true := by
  unfold joinedFacts
  rw [Cells.laidOut, Cells.mapsRowed_, Cells.stops, Cells.stopKnobs, Cells.plainKeys, Cells.stopsHeard, Cells.mayEnter, Cells.liftsFinal, Cells.make]
  kernel_rfl

theorem over : Rows.fnCapChargesRow.holds Try.pinned (OpenSpec.ofChange Rows.fnCapChargesSpec) :=
  OpenClaim.holds_of_wide 3 Try.f3 rfl rfl rfl rfl rfl rfl rfl ⟨rfl, rfl, rfl, rfl, rfl⟩ rfl rfl rfl rfl rfl (by kernel_rfl) Try.func3 closed
    (of_decide_eq_true (by kernel_rfl)) (by unfold Func.isWrapper; first | (rw [if_pos (by decide +kernel)]; kernel_rfl) | (rw [if_neg (by decide +kernel)]; exact ⟨rfl, rfl⟩))
    (fun os started H enc _ => lifted os started H enc)

/-- THE STATEMENT -/
theorem proved : Rows.FnCapChargesSaid := over
#print axioms proved
end Go.Proofs.Ytdokilpinjabcaa.fnCapCharges
