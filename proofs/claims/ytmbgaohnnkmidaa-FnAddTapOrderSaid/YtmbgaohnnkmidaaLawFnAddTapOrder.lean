/-
  The order of taps does not matter: at every code, with the taps and the tap drawn from it, the law FnAddTapOrder returns true and leaves the code as it was. No conditions.
-/
import Derived.Test.YtmbgaohnnkmidaaAddTapImpl
import Derived.Test.YtmbgaohnnkmidaaCollectLaw
import Derived.Test.YtmbgaohnnkmidaaEqualTap
import Derived.Test.YtmbgaohnnkmidaaDrawAddTap
import Derived.Test.YtmbgaohnnkmidaaLiftBytes
set_option linter.unusedSimpArgs false
namespace Go.Proofs.Ytmbgaohnnkmidaa.fnAddTapOrder
open Go.ChangeShapes Go.WideShapes Go.ChangeAt Go.RowKit
set_option linter.unusedVariables false

set_option maxRecDepth 100000 in
set_option maxHeartbeats 2000000 in
theorem walk (A : Option Addr) (n c : Nat) (w : World) (h : Bytes w w.heap.size A n c) : Calls Try.prog 6 #[.slice A n c] w (TrueBelow w) := by
  by_cases hn : 1048576 < n
  · go_enter Try.func6, Try.ntmps6
    go_wp2
    go_ret
    exact ⟨rfl, Below.refl _ _⟩
  · go_enter Try.func6, Try.ntmps6
    go_wp2_with fail
    refine (drawAddTap_any A n c w h).mono ?_
    rintro e w1 ⟨v, xs, t, rfl, ho, hlen, hsm, hts, hc1⟩
    have hcode : n ≤ 1048576 := by omega
    clear h hsm
    obtain ⟨AL, cL, rfl, lL1, lL2, hr⟩ := ho.form
    have oL := ho.nilOk
    clear ho
    have HL1 := Lib.hid hr; clear hr
    unfold maxLen at lL2
    obtain ⟨out, ok, hP⟩ : ∃ out ok, Fares.addTap xs t = (out, ok) := ⟨_, _, rfl⟩
    have hol : out.length ≤ 49 := by have := Fares.addTap_length xs t; rw [hP] at this; exact this
    unfold tapV
    go_wp2_with fail
    generalize hW : World.alloc _ _ = w2
    have hb2 : Below w1.heap.size w1 w2 := by rw [← hW]; exact bA (Below.refl _ _) _
    have HXp2 := Lib.hid (show TapBox w2 w1.heap.size t by rw [← hW]; exact TapBox.new w1 t _)
    clear hW
    have hc2 : Below w.heap.size w w2 := bT hc1 hb2
    have HkL2 := Lib.hid (readsOver HL1.out hb2)
    clear HL1
    clear hb2
    obtain ⟨_, p0, p1, p2, p3, p4, p5⟩ := HXp2.out
    refine (implAddTap_any AL xs.length cL xs t _ (HkL2.out) rfl (by omega) oL lL1 (by omega)).mono ?_
    unfold AddsTap
    rw [hP]
    rintro e w3 ⟨v, rfl, ho, hb3⟩
    obtain ⟨AO, cO, rfl, lO1, lO2, hr⟩ := ho.form
    have oO := ho.nilOk
    clear ho
    have Hn3 := Lib.hid hr; clear hr
    clear p0 p1 p2 p3 p4 p5
    have HXp3 := Lib.hid (HXp2.out.below hb3 HXp2.out.1)
    clear HXp2
    have hc3 : Below w.heap.size w w3 := bT hc2 hb3
    have HkL3 := Lib.hid (readsOver HkL2.out hb3)
    clear HkL2
    clear hb3
    unfold maxLen at lO2
    obtain ⟨_, p0, p1, p2, p3, p4, p5⟩ := HXp3.out
    go_wp2_with fail
    refine (specAddTap_any AL xs.length cL xs t _ (HkL3.out) rfl (by omega)).mono ?_
    unfold AddsTap
    rw [hP]
    rintro e w4 ⟨v, rfl, ho, hb4⟩
    obtain ⟨AW, cW, rfl, lW1, lW2, hr⟩ := ho.form
    have oW := ho.nilOk
    clear ho
    have Hn4 := Lib.hid hr; clear hr
    clear p0 p1 p2 p3 p4 p5
    have HXp4 := Lib.hid (HXp3.out.below hb4 HXp3.out.1)
    clear HXp3
    have hc4 : Below w.heap.size w w4 := bT hc3 hb4
    have HkL4 := Lib.hid (readsOver HkL3.out hb4)
    clear HkL3
    have HkO4 := Lib.hid (readsOver Hn3.out hb4)
    clear Hn3
    clear hb4
    unfold maxLen at lW2
    go_wp2_with fail
    refine (equalTaps_any AO AW _ _ cO cW out out _ (HkO4.out) (Hn4.out) rfl rfl (by omega) (by omega)).mono ?_
    rw [decide_eq_true (rfl : out = out)]
    rintro e w5 ⟨rfl, hb5⟩
    have HXp5 := Lib.hid (HXp4.out.below hb5 HXp4.out.1)
    clear HXp4
    have hc5 : Below w.heap.size w w5 := bT hc4 hb5
    have HkL5 := Lib.hid (readsOver HkL4.out hb5)
    clear HkL4
    have HkO5 := Lib.hid (readsOver HkO4.out hb5)
    clear HkO4
    have HkW5 := Lib.hid (readsOver Hn4.out hb5)
    clear Hn4
    clear hb5
    by_cases hk : ok = true
    · subst hk
      by_cases hl2 : xs.length + 2 ≤ 24
      · have e24 : decide ((24 : Int) < (xs.length : Int) + 2) = false := by rw [decide_eq_false_iff_not]; omega
        have e24n : decide (24 < xs.length + 2) = false := by rw [decide_eq_false_iff_not]; omega
        obtain ⟨hvx, hvt, _⟩ := Fares.add_ok (xs := xs) (t := t) (by rw [hP])
        have hvt2 := hvt
        unfold Fares.validTap at hvt2
        rw [decide_eq_true_eq] at hvt2
        obtain ⟨v0, v1, n0, n1, _⟩ := hvt2
        have W1 : IntKind.i64.wrap (t.n + 1) = t.n + 1 := IntWalk.i64_in _ (by omega)
        obtain ⟨m9, hm9⟩ : ∃ m9, (t.n + 1).tmod 999 = m9 := ⟨_, rfl⟩
        have hm9' : (t.n + 1) % 999 = m9 := by rw [← hm9, Int.tmod_eq_emod_of_nonneg (by omega)]
        have g9 : 0 ≤ m9 ∧ m9 ≤ 998 ∧ m9 ≠ t.n := by omega
        clear hm9'
        obtain ⟨u, hu⟩ : ∃ u : Fares.Tap, u = ⟨t.v, m9, 3, 700, 0, false⟩ := ⟨_, rfl⟩
        have hvu : Fares.validTap u = true := by rw [hu]; unfold Fares.validTap; rw [decide_eq_true_eq]; dsimp only; omega
        have hsu : Fares.sameTap t u = false := by rw [hu]; exact Fares.same_false.2 (fun h => g9.2.2 h.2.symm)
        obtain ⟨o1, o2, o3, o4⟩ := Fares.add_order (xs := xs) (t := t) (u := u) (by rw [hP]) hvu hsu hl2
        rw [hP] at o1 o4
        dsimp only at o1 o4
        obtain ⟨a, h1⟩ : ∃ a, Fares.addTap out u = (a, true) := ⟨(Fares.addTap out u).1, Prod.ext rfl o1⟩
        obtain ⟨b, h2⟩ : ∃ b, Fares.addTap xs u = (b, true) := ⟨(Fares.addTap xs u).1, Prod.ext rfl o2⟩
        rw [h2] at o3 o4
        rw [h1] at o4
        dsimp only at o3 o4
        have h3 : Fares.addTap b t = (a, true) := Prod.ext o4.symm o3
        have la : a.length ≤ 49 := by have := Fares.addTap_length out u; rw [h1] at this; exact this
        have lb : b.length ≤ 49 := by have := Fares.addTap_length xs u; rw [h2] at this; exact this
        clear o1 o2 o3 o4 hP hvu hsu hvt hvx v0 v1 n0 n1 g9
        have HU := Lib.hid hu
        rw [hu] at h1 h2
        obtain ⟨_, p0, p1, p2, p3, p4, p5⟩ := HXp5.out
        go_wp2_with fail
        generalize hW : World.alloc _ _ = w6
        have hb6 : Below w5.heap.size w5 w6 := by rw [← hW]; exact bA (Below.refl _ _) _
        have HXu6 := Lib.hid (show TapBox w6 w5.heap.size ⟨t.v, m9, 3, 700, 0, false⟩ by rw [← hW]; exact TapBox.new w5 ⟨t.v, m9, 3, 700, 0, false⟩ _)
        clear hW
        clear p0 p1 p2 p3 p4 p5
        have HXp6 := Lib.hid (HXp5.out.below hb6 HXp5.out.1)
        clear HXp5
        have hc6 : Below w.heap.size w w6 := bT hc5 hb6
        have HkL6 := Lib.hid (readsOver HkL5.out hb6)
        clear HkL5
        have HkO6 := Lib.hid (readsOver HkO5.out hb6)
        clear HkO5
        have HkW6 := Lib.hid (readsOver HkW5.out hb6)
        clear HkW5
        clear hb6
        obtain ⟨_, u0, u1, u2, u3, u4, u5⟩ := HXu6.out
        refine (implAddTap_any AO out.length cO out ⟨t.v, m9, 3, 700, 0, false⟩ _ (HkO6.out) rfl (by omega) oO lO1 (by omega)).mono ?_
        unfold AddsTap
        rw [h1]
        rintro e w7 ⟨v, rfl, ho, hb7⟩
        obtain ⟨AQ, cQ, rfl, lQ1, lQ2, hr⟩ := ho.form
        have oQ := ho.nilOk
        clear ho
        have Hn7 := Lib.hid hr; clear hr
        clear u0 u1 u2 u3 u4 u5
        have HXp7 := Lib.hid (HXp6.out.below hb7 HXp6.out.1)
        clear HXp6
        have HXu7 := Lib.hid (HXu6.out.below hb7 HXu6.out.1)
        clear HXu6
        have hc7 : Below w.heap.size w w7 := bT hc6 hb7
        have HkL7 := Lib.hid (readsOver HkL6.out hb7)
        clear HkL6
        have HkO7 := Lib.hid (readsOver HkO6.out hb7)
        clear HkO6
        have HkW7 := Lib.hid (readsOver HkW6.out hb7)
        clear HkW6
        clear hb7
        unfold maxLen at lQ2
        obtain ⟨_, u0, u1, u2, u3, u4, u5⟩ := HXu7.out
        go_wp2_with fail
        refine (implAddTap_any AL xs.length cL xs ⟨t.v, m9, 3, 700, 0, false⟩ _ (HkL7.out) rfl (by omega) oL lL1 (by omega)).mono ?_
        unfold AddsTap
        rw [h2]
        rintro e w8 ⟨v, rfl, ho, hb8⟩
        obtain ⟨AB, cB, rfl, lB1, lB2, hr⟩ := ho.form
        have oB := ho.nilOk
        clear ho
        have Hn8 := Lib.hid hr; clear hr
        clear u0 u1 u2 u3 u4 u5
        have HXp8 := Lib.hid (HXp7.out.below hb8 HXp7.out.1)
        clear HXp7
        have HXu8 := Lib.hid (HXu7.out.below hb8 HXu7.out.1)
        clear HXu7
        have hc8 : Below w.heap.size w w8 := bT hc7 hb8
        have HkL8 := Lib.hid (readsOver HkL7.out hb8)
        clear HkL7
        have HkO8 := Lib.hid (readsOver HkO7.out hb8)
        clear HkO7
        have HkW8 := Lib.hid (readsOver HkW7.out hb8)
        clear HkW7
        have HkQ8 := Lib.hid (readsOver Hn7.out hb8)
        clear Hn7
        clear hb8
        unfold maxLen at lB2
        obtain ⟨_, p0, p1, p2, p3, p4, p5⟩ := HXp8.out
        go_wp2_with fail
        refine (implAddTap_any AB b.length cB b t _ (Hn8.out) rfl (by omega) oB lB1 (by omega)).mono ?_
        unfold AddsTap
        rw [h3]
        rintro e w9 ⟨v, rfl, ho, hb9⟩
        obtain ⟨AD, cD, rfl, lD1, lD2, hr⟩ := ho.form
        have oD := ho.nilOk
        clear ho
        have Hn9 := Lib.hid hr; clear hr
        clear p0 p1 p2 p3 p4 p5
        have HXp9 := Lib.hid (HXp8.out.below hb9 HXp8.out.1)
        clear HXp8
        have HXu9 := Lib.hid (HXu8.out.below hb9 HXu8.out.1)
        clear HXu8
        have hc9 : Below w.heap.size w w9 := bT hc8 hb9
        have HkL9 := Lib.hid (readsOver HkL8.out hb9)
        clear HkL8
        have HkO9 := Lib.hid (readsOver HkO8.out hb9)
        clear HkO8
        have HkW9 := Lib.hid (readsOver HkW8.out hb9)
        clear HkW8
        have HkQ9 := Lib.hid (readsOver HkQ8.out hb9)
        clear HkQ8
        have HkB9 := Lib.hid (readsOver Hn8.out hb9)
        clear Hn8
        clear hb9
        unfold maxLen at lD2
        go_wp2_with fail
        refine (equalTaps_any AQ AD _ _ cQ cD a a _ (HkQ9.out) (Hn9.out) rfl rfl (by omega) (by omega)).mono ?_
        rw [decide_eq_true (rfl : a = a)]
        rintro e w10 ⟨rfl, hb10⟩
        have HXp10 := Lib.hid (HXp9.out.below hb10 HXp9.out.1)
        clear HXp9
        have HXu10 := Lib.hid (HXu9.out.below hb10 HXu9.out.1)
        clear HXu9
        have hc10 : Below w.heap.size w w10 := bT hc9 hb10
        have HkL10 := Lib.hid (readsOver HkL9.out hb10)
        clear HkL9
        have HkO10 := Lib.hid (readsOver HkO9.out hb10)
        clear HkO9
        have HkW10 := Lib.hid (readsOver HkW9.out hb10)
        clear HkW9
        have HkQ10 := Lib.hid (readsOver HkQ9.out hb10)
        clear HkQ9
        have HkB10 := Lib.hid (readsOver HkB9.out hb10)
        clear HkB9
        have HkD10 := Lib.hid (readsOver Hn9.out hb10)
        clear Hn9
        clear hb10
        go_wp2
        go_ret
        exact ⟨ret_bool (by simp), hc10⟩
      · have e24 : decide ((24 : Int) < (xs.length : Int) + 2) = true := by rw [decide_eq_true_eq]; omega
        have e24n : decide (24 < xs.length + 2) = true := by rw [decide_eq_true_eq]; omega
        go_wp2_with fail
        refine (equalTaps_any AO AW _ _ cO cW out out _ (HkO5.out) (HkW5.out) rfl rfl (by omega) (by omega)).mono ?_
        rw [decide_eq_true (rfl : out = out)]
        rintro e w6 ⟨rfl, hb6⟩
        have HXp6 := Lib.hid (HXp5.out.below hb6 HXp5.out.1)
        clear HXp5
        have hc6 : Below w.heap.size w w6 := bT hc5 hb6
        have HkL6 := Lib.hid (readsOver HkL5.out hb6)
        clear HkL5
        have HkO6 := Lib.hid (readsOver HkO5.out hb6)
        clear HkO5
        have HkW6 := Lib.hid (readsOver HkW5.out hb6)
        clear HkW5
        clear hb6
        go_wp2
        go_ret
        exact ⟨ret_bool (by simp), hc6⟩
    · obtain rfl : ok = false := by simpa using hk
      go_wp2_with fail
      refine (equalTaps_any AO AW _ _ cO cW out out _ (HkO5.out) (HkW5.out) rfl rfl (by omega) (by omega)).mono ?_
      rw [decide_eq_true (rfl : out = out)]
      rintro e w6 ⟨rfl, hb6⟩
      have HXp6 := Lib.hid (HXp5.out.below hb6 HXp5.out.1)
      clear HXp5
      have hc6 : Below w.heap.size w w6 := bT hc5 hb6
      have HkL6 := Lib.hid (readsOver HkL5.out hb6)
      clear HkL5
      have HkO6 := Lib.hid (readsOver HkO5.out hb6)
      clear HkO5
      have HkW6 := Lib.hid (readsOver HkW5.out hb6)
      clear HkW5
      clear hb6
      go_wp2
      go_ret
      exact ⟨ret_bool (by simp), hc6⟩

set_option maxRecDepth 100000 in
theorem lifted (os : Os) (started : os.Started) (H : Type) (enc : TypeId × Value → H) :
    ReturnsInHanded {} Try.checked os 6 .any (Rows.fnAddTapOrderSpec.pre6 enc Try.prog Try.f6 Rows.fnAddTapOrderRow.domain false) (Rows.fnAddTapOrderSpec.post enc Try.prog Try.f6 false true false false) := by
  refine returnsInHanded_of_change (C := Try.checked) Cells.own started (by kernel_rfl) Try.func6
    (ChangeSpec.witness6 (enc := enc) (C := Try.checked) false ⟨#[], #[.slice none 0 0], []⟩ 8 (by kernel_rfl) (by kernel_rfl) (by kernel_rfl) (by kernel_rfl)) ?_
  intro W base args ds gs before hval0 hW _ _
  have hval : ∀ (j : Nat) t v, Try.f6.params[j]? = some t → args[j]? = some v → Value.okWide Try.prog W .any base t v := hval0
  have hW' := hW
  obtain ⟨p, q, hA0, hV, rfl, _, _⟩ := hW
  have hA : DataW.TrodAll enc Try.prog W 0 (fun _ => true) true Try.f6.params.toList args.toList ds p := hA0
  rw [Try.params6] at hA hval
  obtain ⟨v0, d0, rfl, rfl, h0⟩ := trodAll_one hA
  obtain ⟨rfl, rfl⟩ := trodVars_none hV
  obtain ⟨a0, len, cap, rfl⟩ := okWide_slice Try.underlying37 (hval 0 37 v0 rfl rfl)
  clear hA0 hval0
  simp only [List.append_nil] at hW'
  obtain ⟨hb, hargs⟩ := opened h0 (fun x hx => by simpa using hW'.lt x hx)
  refine (walk a0 len cap W hb).mono fun e W' ⟨he, hnx⟩ => ?_
  subst he
  exact ⟨_, rfl, _, _, _, [], _, [], hW', trodAll_mk1 (shut_bool Try.underlying4 _), trodAll_mk1 (hargs _ hnx), rfl, hnx.frame _, fun h => by cases h⟩

theorem closed : joinedFacts Try.prog 6 Try.f6 Rows.fnAddTapOrderSpec Rows.fnAddTapOrderRow = true := by
  unfold joinedFacts
  rw [Cells.laidOut, Cells.mapsRowed_, Cells.stops, Cells.stopKnobs, Cells.plainKeys, Cells.stopsHeard, Cells.mayEnter, Cells.liftsFinal, Cells.make]
  kernel_rfl

theorem over : Rows.fnAddTapOrderRow.holds Try.pinned (OpenSpec.ofChange Rows.fnAddTapOrderSpec) :=
  OpenClaim.holds_of_wide 6 Try.f6 rfl rfl rfl rfl rfl rfl rfl ⟨rfl, rfl, rfl, rfl, rfl⟩ rfl rfl rfl rfl rfl (by kernel_rfl) Try.func6 closed
    (of_decide_eq_true (by kernel_rfl)) (by unfold Func.isWrapper; first | (rw [if_pos (by decide +kernel)]; kernel_rfl) | (rw [if_neg (by decide +kernel)]; exact ⟨rfl, rfl⟩))
    (fun os started H enc _ => lifted os started H enc)

/-- THE STATEMENT -/
theorem proved : Rows.FnAddTapOrderSaid := over
#print axioms proved
end Go.Proofs.Ytmbgaohnnkmidaa.fnAddTapOrder
