/-
  Adjustments can be turned around: at every code, with both lists of amounts drawn from it, the law FnAdjustmentsBack returns true and leaves the code as it was. No conditions.
-/
import Derived.Test.YtnlnlcllnbggdaaAdjApply
import Derived.Test.YtnlnlcllnbggdaaAdjApplySpec
import Derived.Test.YtnlnlcllnbggdaaAdjLaw
import Derived.Test.YtnlnlcllnbggdaaEqualAdjust
import Derived.Test.YtnlnlcllnbggdaaDrawsAdj
import Derived.Test.YtnlnlcllnbggdaaLiftBytes
set_option linter.unusedSimpArgs false
namespace Go.Proofs.Ytnlnlcllnbggdaa.fnAdjustmentsBack
open Go.ChangeShapes Go.WideShapes Go.ChangeAt Go.RowKit
set_option linter.unusedVariables false

set_option maxRecDepth 100000 in
set_option maxHeartbeats 2000000 in
theorem walk (A : Option Addr) (n c : Nat) (w : World) (h : Bytes w w.heap.size A n c) : Calls Try.prog 4 #[.slice A n c] w (TrueBelow w) := by
  by_cases hn : 1048576 < n
  · go_enter Try.func4, Try.ntmps4
    go_wp2
    go_ret
    exact ⟨rfl, Below.refl _ _⟩
  · go_enter Try.func4, Try.ntmps4
    go_wp2_with fail
    refine (drawAdjustments_any A n c w h).mono ?_
    rintro e w1 ⟨Aa, Ab, na, nb, ca, cb, us, vs, rfl, ha, hb, la, lb, ka, kb, hc1⟩
    have hcode : n ≤ 1048576 := by omega
    clear h
    subst la lb
    have Ha1 := Lib.hid ha; clear ha
    have Hb1 := Lib.hid hb; clear hb
    skip
    obtain ⟨l, hP⟩ : ∃ l, Fares.adjustments us vs = l := ⟨_, rfl⟩
    have hol : l.length ≤ 29 := hP ▸ Fares.adjustments_length us vs
    obtain ⟨bk, hK⟩ : ∃ bk, Fares.adjustments vs us = bk := ⟨_, rfl⟩
    have hbk : bk = l.map fun c => ⟨c.d, -c.a⟩ := by rw [← hK, ← hP]; exact Fares.adjust_back us vs
    have hkl : bk.length ≤ 29 := hK ▸ Fares.adjustments_length vs us
    have Hkl := Lib.hid (show bk.length = l.length by rw [hbk, List.length_map])
    have Hne : Hid (∀ (k : Nat) (c : Fares.Adjust), l[k]? = some c → c.a ≠ 0 ∧ -100000 ≤ c.a ∧ c.a ≤ 100000 ∧ 0 ≤ c.d ∧ c.d ≤ 28) := Lib.hid (fun k c h => Fares.adjust_ne (by rw [hP]; exact h))
    have Hbk := Lib.hid hbk; clear hbk
    go_wp2_with fail
    refine (implAdjustments_any Aa Ab _ _ ca cb us vs _ (Ha1.out) (Hb1.out) rfl rfl (by omega) (by omega)).mono ?_
    rw [hP]
    rintro e w2 ⟨v, rfl, ho, hb2⟩
    obtain ⟨AO, cO, rfl, lO1, lO2, hr⟩ := ho.form
    have oO := ho.nilOk
    clear ho
    have Hn2 := Lib.hid hr; clear hr
    have hc2 : Below w.heap.size w w2 := bT hc1 hb2
    have Hka2 := Lib.hid (readsOver Ha1.out hb2)
    clear Ha1
    have Hkb2 := Lib.hid (readsOver Hb1.out hb2)
    clear Hb1
    clear hb2
    go_wp2_with fail
    refine (specAdjustments_any Aa Ab _ _ ca cb us vs _ (Hka2.out) (Hkb2.out) rfl rfl (by omega) (by omega)).mono ?_
    rw [hP]
    rintro e w3 ⟨v, rfl, ho, hb3⟩
    obtain ⟨AW, cW, rfl, lW1, lW2, hr⟩ := ho.form
    have oW := ho.nilOk
    clear ho
    have Hn3 := Lib.hid hr; clear hr
    have hc3 : Below w.heap.size w w3 := bT hc2 hb3
    have Hka3 := Lib.hid (readsOver Hka2.out hb3)
    clear Hka2
    have Hkb3 := Lib.hid (readsOver Hkb2.out hb3)
    clear Hkb2
    have HkO3 := Lib.hid (readsOver Hn2.out hb3)
    clear Hn2
    clear hb3
    go_wp2_with fail
    refine (equalAdjusts_any AO AW _ _ cO cW l l _ (HkO3.out) (Hn3.out) rfl rfl (by omega) (by omega)).mono ?_
    rw [decide_eq_true (rfl : l = l)]
    rintro e w4 ⟨rfl, hb4⟩
    have hc4 : Below w.heap.size w w4 := bT hc3 hb4
    have Hka4 := Lib.hid (readsOver Hka3.out hb4)
    clear Hka3
    have Hkb4 := Lib.hid (readsOver Hkb3.out hb4)
    clear Hkb3
    have HkO4 := Lib.hid (readsOver HkO3.out hb4)
    clear HkO3
    have HkW4 := Lib.hid (readsOver Hn3.out hb4)
    clear Hn3
    clear hb4
    go_wp2_with fail
    refine (implAdjustments_any Ab Aa _ _ cb ca vs us _ (Hkb4.out) (Hka4.out) rfl rfl (by omega) (by omega)).mono ?_
    rw [hK]
    rintro e w5 ⟨v, rfl, ho, hb5⟩
    obtain ⟨AK, cK, rfl, lK1, lK2, hr⟩ := ho.form
    have oK := ho.nilOk
    clear ho
    have Hn5 := Lib.hid hr; clear hr
    have hc5 : Below w.heap.size w w5 := bT hc4 hb5
    have Hka5 := Lib.hid (readsOver Hka4.out hb5)
    clear Hka4
    have Hkb5 := Lib.hid (readsOver Hkb4.out hb5)
    clear Hkb4
    have HkO5 := Lib.hid (readsOver HkO4.out hb5)
    clear HkO4
    have HkW5 := Lib.hid (readsOver HkW4.out hb5)
    clear HkW4
    clear hb5
    go_wp2
    go_loopw [7] (fun i wr => ∃ k : Nat, k ≤ l.length ∧ i = .int .i64 k ∧ Below w5.heap.size w5 wr) (fun i _ => l.length - (intOf i).toNat)
    case atStart => exact ⟨0, Nat.zero_le _, rfl, Below.refl _ _⟩
    case round =>
      obtain ⟨k, hk, rfl, hb⟩ := hrel
      by_cases hlt : k < l.length
      · obtain ⟨x, hxk⟩ : ∃ x, l[k]? = some x := ⟨_, List.getElem?_eq_getElem hlt⟩
        have hyk : bk[k]? = some ⟨x.d, -x.a⟩ := by rw [Hbk.out, List.getElem?_map, hxk]; rfl
        obtain ⟨n0, n1, n2, n3, n4⟩ := Hne.out k x hxk
        obtain ⟨b1, o1, rfl, hb1, hr1⟩ := Adjusts.row HkO5.out (by omega)
        obtain ⟨b2, o2, rfl, hb2, hr2⟩ := Adjusts.row Hn5.out (by have := Hkl.out; omega)
        obtain ⟨p0, p1⟩ := (hr1 k x hxk).below hb hb1
        obtain ⟨q0, q1⟩ := (hr2 k _ hyk).below hb hb2
        dsimp only at q0 q1
        clear hr1 hr2 hxk hyk
        have i0 : (0 : Int) ≤ (k : Int) := by omega
        have i1 : (k : Int) < (l.length : Int) := by omega
        have i2 : (k : Int) < (bk.length : Int) := by have := Hkl.out; omega
        have g0 : decide ((bk.length : Int) ≤ (k : Int)) = false := decide_eq_false (by omega)
        have g0n : decide (bk.length ≤ k) = false := decide_eq_false (by omega)
        have g1 : (x.d != x.d) = false := by simp
        have g2 : (-x.a != -x.a) = false := by simp
        have g3 : (x.a == 0) = false := by simpa using n0
        have W9 : IntKind.i64.wrap (-x.a) = -x.a := IntWalk.i64_in _ (by omega)
        go_wp2
        go_quiet (fail)
        go_wp2
        go_roundw
        case rel => exact ⟨k + 1, by omega, by go_num, by first | exact hb | exact bD hb _⟩
        case measure => simp [intOf]; omega
      · have hs0 : Below w5.heap.size w5 wr := hb
        obtain ⟨w6, hw6⟩ : ∃ w6, w6 = wr := ⟨_, rfl⟩
        subst hw6
        have hc6 : Below w.heap.size w w6 := bT hc5 hb
        have Hka6 := Lib.hid (readsOver Hka5.out hb)
        clear Hka5
        have Hkb6 := Lib.hid (readsOver Hkb5.out hb)
        clear Hkb5
        have HkO6 := Lib.hid (readsOver HkO5.out hb)
        clear HkO5
        have HkW6 := Lib.hid (readsOver HkW5.out hb)
        clear HkW5
        have HkK6 := Lib.hid (readsOver Hn5.out hb)
        clear Hn5
        clear hb
        have z0 : Fares.adjustments us us = [] := Fares.adjust_same us
        have g5 : ((bk.length : Int) == (l.length : Int)) = true := by simp; have := Hkl.out; omega
        have g6 : (bk.length == l.length) = true := by simp; have := Hkl.out; omega
        go_wp2_with fail
        refine (implAdjustments_any Aa Aa _ _ ca ca us us _ (Hka6.out) (Hka6.out) rfl rfl (by omega) (by omega)).mono ?_
        rw [z0]
        rintro e w7 ⟨v, rfl, ho, hb7⟩
        obtain ⟨AZ, cZ, rfl, lZ1, lZ2, hr⟩ := ho.form
        have oZ := ho.nilOk
        clear ho
        have Hn7 := Lib.hid hr; clear hr
        have hc7 : Below w.heap.size w w7 := bT hc6 hb7
        have Hka7 := Lib.hid (readsOver Hka6.out hb7)
        clear Hka6
        have Hkb7 := Lib.hid (readsOver Hkb6.out hb7)
        clear Hkb6
        have HkO7 := Lib.hid (readsOver HkO6.out hb7)
        clear HkO6
        have HkW7 := Lib.hid (readsOver HkW6.out hb7)
        clear HkW6
        have HkK7 := Lib.hid (readsOver HkK6.out hb7)
        clear HkK6
        clear hb7
        go_wp2
        go_ret
        exact ⟨ret_bool (by first | rfl | (simp; done) | (simp; omega)), hc7⟩

set_option maxRecDepth 100000 in
theorem lifted (os : Os) (started : os.Started) (H : Type) (enc : TypeId × Value → H) :
    ReturnsInHanded {} Try.checked os 4 .any (Rows.fnAdjustmentsBackSpec.pre6 enc Try.prog Try.f4 Rows.fnAdjustmentsBackRow.domain false) (Rows.fnAdjustmentsBackSpec.post enc Try.prog Try.f4 false true false false) := by
  refine returnsInHanded_of_change (C := Try.checked) Cells.own started (by kernel_rfl) Try.func4
    (ChangeSpec.witness6 (enc := enc) (C := Try.checked) false ⟨#[], #[.slice none 0 0], []⟩ 8 (by kernel_rfl) (by kernel_rfl) (by kernel_rfl) (by kernel_rfl)) ?_
  intro W base args ds gs before hval0 hW _ _
  have hval : ∀ (j : Nat) t v, Try.f4.params[j]? = some t → args[j]? = some v → Value.okWide Try.prog W .any base t v := hval0
  have hW' := hW
  obtain ⟨p, q, hA0, hV, rfl, _, _⟩ := hW
  have hA : DataW.TrodAll enc Try.prog W 0 (fun _ => true) true Try.f4.params.toList args.toList ds p := hA0
  rw [Try.params4] at hA hval
  obtain ⟨v0, d0, rfl, rfl, h0⟩ := trodAll_one hA
  obtain ⟨rfl, rfl⟩ := trodVars_none hV
  obtain ⟨a0, len, cap, rfl⟩ := okWide_slice Try.underlying22 (hval 0 22 v0 rfl rfl)
  clear hA0 hval0
  simp only [List.append_nil] at hW'
  obtain ⟨hb, hargs⟩ := opened h0 (fun x hx => by simpa using hW'.lt x hx)
  refine (walk a0 len cap W hb).mono fun e W' ⟨he, hnx⟩ => ?_
  subst he
  exact ⟨_, rfl, _, _, _, [], _, [], hW', trodAll_mk1 (shut_bool Try.underlying4 _), trodAll_mk1 (hargs _ hnx), rfl, hnx.frame _, fun h => by cases h⟩

theorem closed : joinedFacts Try.prog 4 Try.f4 Rows.fnAdjustmentsBackSpec Rows.fnAdjustmentsBackRow = true := by
  unfold joinedFacts
  rw [Cells.laidOut, Cells.mapsRowed_, Cells.stops, Cells.stopKnobs, Cells.plainKeys, Cells.stopsHeard, Cells.mayEnter, Cells.liftsFinal, Cells.make]
  kernel_rfl

theorem over : Rows.fnAdjustmentsBackRow.holds Try.pinned (OpenSpec.ofChange Rows.fnAdjustmentsBackSpec) :=
  OpenClaim.holds_of_wide 4 Try.f4 rfl rfl rfl rfl rfl rfl rfl ⟨rfl, rfl, rfl, rfl, rfl⟩ rfl rfl rfl rfl rfl (by kernel_rfl) Try.func4 closed
    (of_decide_eq_true (by kernel_rfl)) (by unfold Func.isWrapper; first | (rw [if_pos (by decide +kernel)]; kernel_rfl) | (rw [if_neg (by decide +kernel)]; exact ⟨rfl, rfl⟩))
    (fun os started H enc _ => lifted os started H enc)

/-- THE STATEMENT -/
theorem proved : Rows.FnAdjustmentsBackSaid := over
#print axioms proved
end Go.Proofs.Ytnlnlcllnbggdaa.fnAdjustmentsBack
