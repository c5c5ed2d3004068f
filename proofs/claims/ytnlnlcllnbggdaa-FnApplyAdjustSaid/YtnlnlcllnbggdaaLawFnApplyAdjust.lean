/-
  Adjustments change their days: at every code, with the amounts and adjustments drawn from it, the law FnApplyAdjust returns true and leaves the code as it was. No conditions.
-/
import Derived.Test.YtnlnlcllnbggdaaAdjApply
import Derived.Test.YtnlnlcllnbggdaaAdjApplySpec
import Derived.Test.YtnlnlcllnbggdaaAdjLaw
import Derived.Test.YtnlnlcllnbggdaaEqualAdjust
import Derived.Test.YtnlnlcllnbggdaaDrawsAdj
import Derived.Test.YtnlnlcllnbggdaaLiftBytes
set_option linter.unusedSimpArgs false
namespace Go.Proofs.Ytnlnlcllnbggdaa.fnApplyAdjust
open Go.ChangeShapes Go.WideShapes Go.ChangeAt Go.RowKit
set_option linter.unusedVariables false

set_option maxRecDepth 100000 in
set_option maxHeartbeats 2000000 in
theorem walk (A : Option Addr) (n c : Nat) (w : World) (h : Bytes w w.heap.size A n c) : Calls Try.prog 5 #[.slice A n c] w (TrueBelow w) := by
  by_cases hn : 1048576 < n
  · go_enter Try.func5, Try.ntmps5
    go_wp2
    go_ret
    exact ⟨rfl, Below.refl _ _⟩
  · go_enter Try.func5, Try.ntmps5
    go_wp2_with fail
    refine (drawApplyAdjust_any A n c w h).mono ?_
    rintro e w1 ⟨Aa, Ab, na, nb, ca, cb, us, cs, rfl, ha, hb, la, lb, ka, kb, hc1⟩
    have hcode : n ≤ 1048576 := by omega
    clear h
    subst la lb
    have Ha1 := Lib.hid ha; clear ha
    have Hb1 := Lib.hid hb; clear hb
    skip
    obtain ⟨out, ok, hP⟩ : ∃ out ok, Fares.applyAdjust us cs = (out, ok) := ⟨_, _, rfl⟩
    have hol : out.length ≤ 29 := by have := Fares.applyAdjust_length us cs; rw [hP] at this; exact this
    go_wp2_with fail
    refine (implApplyAdjust_any Aa Ab _ _ ca cb us cs _ (Ha1.out) (Hb1.out) rfl rfl (by omega) (by omega)).mono ?_
    unfold AppliesAdjust
    rw [hP]
    rintro e w2 ⟨v, rfl, ho, hb2⟩
    obtain ⟨AO, cO, rfl, lO1, lO2, hr⟩ := ho.form
    have oO := ho.nilOk
    clear ho
    have Hn2 := Lib.hid hr; clear hr
    have hc2 : Below w.heap.size w w2 := bT hc1 hb2
    have Hka2 := Lib.hid (readsOver Ha1.out hb2)
    clear Ha1
    have Hkb2 := Lib.hid (readsOver Hb1.out hb2)
    clear Hb1
    clear hb2
    go_wp2_with fail
    refine (specApplyAdjust_any Aa Ab _ _ ca cb us cs _ (Hka2.out) (Hkb2.out) rfl rfl (by omega) (by omega)).mono ?_
    unfold AppliesAdjust
    rw [hP]
    rintro e w3 ⟨v, rfl, ho, hb3⟩
    obtain ⟨AW, cW, rfl, lW1, lW2, hr⟩ := ho.form
    have oW := ho.nilOk
    clear ho
    have Hn3 := Lib.hid hr; clear hr
    have hc3 : Below w.heap.size w w3 := bT hc2 hb3
    have Hka3 := Lib.hid (readsOver Hka2.out hb3)
    clear Hka2
    have Hkb3 := Lib.hid (readsOver Hkb2.out hb3)
    clear Hkb2
    have HkO3 := Lib.hid (readsOver Hn2.out hb3)
    clear Hn2
    clear hb3
    go_wp2_with fail
    refine (equalInts_any AO AW _ _ cO cW out out _ (HkO3.out) (Hn3.out) rfl rfl (by omega) (by omega)).mono ?_
    rw [decide_eq_true (rfl : out = out)]
    rintro e w4 ⟨rfl, hb4⟩
    have hc4 : Below w.heap.size w w4 := bT hc3 hb4
    have Hka4 := Lib.hid (readsOver Hka3.out hb4)
    clear Hka3
    have Hkb4 := Lib.hid (readsOver Hkb3.out hb4)
    clear Hkb3
    have HkO4 := Lib.hid (readsOver HkO3.out hb4)
    clear HkO3
    have HkW4 := Lib.hid (readsOver Hn3.out hb4)
    clear Hn3
    clear hb4
    cases ok
    · go_wp2_with fail
      refine (equalInts_any AO AW _ _ cO cW out out _ (HkO4.out) (HkW4.out) rfl rfl (by omega) (by omega)).mono ?_
      rw [decide_eq_true (rfl : out = out)]
      rintro e w5 ⟨rfl, hb5⟩
      have hc5 : Below w.heap.size w w5 := bT hc4 hb5
      have Hka5 := Lib.hid (readsOver Hka4.out hb5)
      clear Hka4
      have Hkb5 := Lib.hid (readsOver Hkb4.out hb5)
      clear Hkb4
      have HkO5 := Lib.hid (readsOver HkO4.out hb5)
      clear HkO4
      have HkW5 := Lib.hid (readsOver HkW4.out hb5)
      clear HkW4
      clear hb5
      go_wp2
      go_ret
      exact ⟨ret_bool (by first | rfl | (simp; done) | (simp; omega)), hc5⟩
    · obtain ⟨f1, f2, f3, f4, f5, f6⟩ := Fares.apply_law hP
      obtain ⟨j, hJ⟩ : ∃ j, Fares.adjustments us out = j := ⟨_, rfl⟩
      have hjl : j.length ≤ 29 := hJ ▸ Fares.adjustments_length us out
      rw [hJ] at f4
      have Hf5 := Lib.hid f5; clear f5
      have Hf4 := Lib.hid f4; clear f4
      have Hf3 := Lib.hid f3; clear f3
      have Hdu := Lib.hid (Fares.due_all f1)
      have Hdo := Lib.hid (Fares.due_all f2)
      have Hsu := Lib.hid (Fares.sum_in f1)
      have Hso := Lib.hid (Fares.sum_in f2)
      go_wp2
      go_loopw [10, 9] (fun i t wr => ∃ k : Nat, k ≤ cs.length ∧ i = .int .i64 k ∧ t = .int .i64 (Fares.amounts (cs.take k)) ∧ Below w4.heap.size w4 wr) (fun i _ _ => cs.length - (intOf i).toNat)
      case atStart => exact ⟨0, Nat.zero_le _, rfl, rfl, Below.refl _ _⟩
      case round =>
        obtain ⟨k, hk, rfl, rfl, hb⟩ := hrel
        have hin := Fares.amounts_in Hf5.out k hk
        by_cases hlt : k < cs.length
        · obtain ⟨x, hxk⟩ : ∃ x, cs[k]? = some x := ⟨_, List.getElem?_eq_getElem hlt⟩
          have HN := Lib.hid (Fares.amounts_next hxk)
          have hxa := Hf5.out x (List.mem_of_getElem? hxk)
          obtain ⟨xa0, xa1⟩ := hxa
          obtain ⟨b1, o1, rfl, hb1, hr1⟩ := Adjusts.row Hkb4.out (by omega)
          obtain ⟨p0, p1⟩ := (hr1 k x hxk).below hb hb1
          clear hr1 hxk
          obtain ⟨t, ht⟩ : ∃ t, Fares.amounts (cs.take k) = t := ⟨_, rfl⟩
          skip
          have i0 : (0 : Int) ≤ (k : Int) := by omega
          have i1 : (k : Int) < (cs.length : Int) := by omega
          go_wp2
          go_roundw
          case rel => exact ⟨k + 1, by omega, by go_num, by rw [HN.out, ht], by first | exact hb | exact bD1 hb⟩
          case measure => simp [intOf]; omega
        · obtain rfl : k = cs.length := by omega
          rw [List.take_length] at hin
          rw [List.take_length]
          obtain ⟨t, ht⟩ : ∃ t, Fares.amounts cs = t := ⟨_, rfl⟩
          rw [ht] at hin
          rw [ht]
          have HT := Lib.hid ht; clear ht
          obtain ⟨w5, hw5⟩ : ∃ w5, w5 = wr := ⟨_, rfl⟩
          subst hw5
          have hc5 : Below w.heap.size w w5 := bT hc4 hb
          have Hka5 := Lib.hid (readsOver Hka4.out hb)
          clear Hka4
          have Hkb5 := Lib.hid (readsOver Hkb4.out hb)
          clear Hkb4
          have HkO5 := Lib.hid (readsOver HkO4.out hb)
          clear HkO4
          have HkW5 := Lib.hid (readsOver HkW4.out hb)
          clear HkW4
          clear hb
          go_wp2_with fail
          refine (implAdjustments_any Aa AO _ _ ca cO us out _ (Hka5.out) (HkO5.out) rfl rfl (by omega) (by omega)).mono ?_
          rw [hJ]
          rintro e w6 ⟨v, rfl, ho, hb6⟩
          obtain ⟨AJ, cJ, rfl, lJ1, lJ2, hr⟩ := ho.form
          have oJ := ho.nilOk
          clear ho
          have Hn6 := Lib.hid hr; clear hr
          have hc6 : Below w.heap.size w w6 := bT hc5 hb6
          have Hka6 := Lib.hid (readsOver Hka5.out hb6)
          clear Hka5
          have Hkb6 := Lib.hid (readsOver Hkb5.out hb6)
          clear Hkb5
          have HkO6 := Lib.hid (readsOver HkO5.out hb6)
          clear HkO5
          have HkW6 := Lib.hid (readsOver HkW5.out hb6)
          clear HkW5
          clear hb6
          go_wp2_with fail
          refine (implApplyAdjust_any Aa AJ _ _ ca cJ us j _ (Hka6.out) (Hn6.out) rfl rfl (by omega) (by omega)).mono ?_
          unfold AppliesAdjust
          rw [Hf4.out]
          rintro e w7 ⟨v, rfl, ho, hb7⟩
          obtain ⟨AC, cC, rfl, lC1, lC2, hr⟩ := ho.form
          have oC := ho.nilOk
          clear ho
          have Hn7 := Lib.hid hr; clear hr
          have hc7 : Below w.heap.size w w7 := bT hc6 hb7
          have Hka7 := Lib.hid (readsOver Hka6.out hb7)
          clear Hka6
          have Hkb7 := Lib.hid (readsOver Hkb6.out hb7)
          clear Hkb6
          have HkO7 := Lib.hid (readsOver HkO6.out hb7)
          clear HkO6
          have HkW7 := Lib.hid (readsOver HkW6.out hb7)
          clear HkW6
          have HkJ7 := Lib.hid (readsOver Hn6.out hb7)
          clear Hn6
          clear hb7
          go_wp2_with fail
          refine (equalInts_any AC AO _ _ cC cO out out _ (Hn7.out) (HkO7.out) rfl rfl (by omega) (by omega)).mono ?_
          rw [decide_eq_true (rfl : out = out)]
          rintro e w8 ⟨rfl, hb8⟩
          have hc8 : Below w.heap.size w w8 := bT hc7 hb8
          have Hka8 := Lib.hid (readsOver Hka7.out hb8)
          clear Hka7
          have Hkb8 := Lib.hid (readsOver Hkb7.out hb8)
          clear Hkb7
          have HkO8 := Lib.hid (readsOver HkO7.out hb8)
          clear HkO7
          have HkW8 := Lib.hid (readsOver HkW7.out hb8)
          clear HkW7
          have HkJ8 := Lib.hid (readsOver HkJ7.out hb8)
          clear HkJ7
          have HkC8 := Lib.hid (readsOver Hn7.out hb8)
          clear Hn7
          clear hb8
          obtain ⟨su, hsu⟩ : ∃ su, Fares.sumI us = su := ⟨_, rfl⟩
          obtain ⟨so, hso⟩ : ∃ so, Fares.sumI out = so := ⟨_, rfl⟩
          have hsub := Hsu.out
          have hsob := Hso.out
          rw [hsu] at hsub
          rw [hso] at hsob
          have hsum : so = su + t := by rw [← hsu, ← hso, ← HT.out]; exact Hf3.out
          go_wp2_with fail
          refine (lawsum_any AO out.length cO out 100000 _ (HkO8.out) rfl (by omega) (by omega) (Hdo.out).2).mono ?_
          rw [hso]
          rintro e w' ⟨rfl, rfl⟩
          go_wp2_with fail
          refine (lawsum_any Aa us.length ca us 100000 _ (Hka8.out) rfl (by omega) (by omega) (Hdu.out).2).mono ?_
          rw [hsu]
          rintro e w' ⟨rfl, rfl⟩
          have g9 : (so == su + t) = true := by simpa using hsum
          subst hsum
          go_wp2
          go_ret
          exact ⟨ret_bool (by first | rfl | (simp; done) | (simp; omega)), hc8⟩

set_option maxRecDepth 100000 in
theorem lifted (os : Os) (started : os.Started) (H : Type) (enc : TypeId × Value → H) :
    ReturnsInHanded {} Try.checked os 5 .any (Rows.fnApplyAdjustSpec.pre6 enc Try.prog Try.f5 Rows.fnApplyAdjustRow.domain false) (Rows.fnApplyAdjustSpec.post enc Try.prog Try.f5 false true false false) := by
  refine returnsInHanded_of_change (C := Try.checked) Cells.own started (by kernel_rfl) Try.func5
    (ChangeSpec.witness6 (enc := enc) (C := Try.checked) false ⟨#[], #[.slice none 0 0], []⟩ 8 (by kernel_rfl) (by kernel_rfl) (by kernel_rfl) (by kernel_rfl)) ?_
  intro W base args ds gs before hval0 hW _ _
  have hval : ∀ (j : Nat) t v, Try.f5.params[j]? = some t → args[j]? = some v → Value.okWide Try.prog W .any base t v := hval0
  have hW' := hW
  obtain ⟨p, q, hA0, hV, rfl, _, _⟩ := hW
  have hA : DataW.TrodAll enc Try.prog W 0 (fun _ => true) true Try.f5.params.toList args.toList ds p := hA0
  rw [Try.params5] at hA hval
  obtain ⟨v0, d0, rfl, rfl, h0⟩ := trodAll_one hA
  obtain ⟨rfl, rfl⟩ := trodVars_none hV
  obtain ⟨a0, len, cap, rfl⟩ := okWide_slice Try.underlying22 (hval 0 22 v0 rfl rfl)
  clear hA0 hval0
  simp only [List.append_nil] at hW'
  obtain ⟨hb, hargs⟩ := opened h0 (fun x hx => by simpa using hW'.lt x hx)
  refine (walk a0 len cap W hb).mono fun e W' ⟨he, hnx⟩ => ?_
  subst he
  exact ⟨_, rfl, _, _, _, [], _, [], hW', trodAll_mk1 (shut_bool Try.underlying4 _), trodAll_mk1 (hargs _ hnx), rfl, hnx.frame _, fun h => by cases h⟩

theorem closed : joinedFacts Try.prog 5 Try.f5 Rows.fnApplyAdjustSpec Rows.fnApplyAdjustRow = true := by
  unfold joinedFacts
  rw [Cells.laidOut, Cells.mapsRowed_, Cells.stops, Cells.stopKnobs, Cells.plainKeys, Cells.stopsHeard, Cells.mayEnter, Cells.liftsFinal, Cells.make]
  kernel_rfl

theorem over : Rows.fnApplyAdjustRow.holds Try.pinned (OpenSpec.ofChange Rows.fnApplyAdjustSpec) :=
  OpenClaim.holds_of_wide 5 Try.f5 rfl rfl rfl rfl rfl rfl rfl ⟨rfl, rfl, rfl, rfl, rfl⟩ rfl rfl rfl rfl rfl (by kernel_rfl) Try.func5 closed
    (of_decide_eq_true (by kernel_rfl)) (by unfold Func.isWrapper; first | (rw [if_pos (by decide +kernel)]; kernel_rfl) | (rw [if_neg (by decide +kernel)]; exact ⟨rfl, rfl⟩))
    (fun os started H enc _ => lifted os started H enc)

/-- THE STATEMENT -/
theorem proved : Rows.FnApplyAdjustSaid := over
#print axioms proved
end Go.Proofs.Ytnlnlcllnbggdaa.fnApplyAdjust
