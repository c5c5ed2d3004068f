/-
  A tap changes no other card's: at every code, with the taps and the tap drawn from it, the law FnAddTapCard returns true and leaves the code as it was. No conditions.
-/
import Derived.Test.YtmbgaohnnkmidaaAddTapImpl
import Derived.Test.YtmbgaohnnkmidaaCollectLaw
import Derived.Test.YtmbgaohnnkmidaaEqualTap
import Derived.Test.YtmbgaohnnkmidaaDrawAddTap
import Derived.Test.YtmbgaohnnkmidaaCardLaw
import Derived.Test.YtmbgaohnnkmidaaLiftBytes
set_option linter.unusedSimpArgs false
namespace Go.Proofs.Ytmbgaohnnkmidaa.fnAddTapCard
open Go.ChangeShapes Go.WideShapes Go.ChangeAt Go.RowKit
set_option linter.unusedVariables false

set_option maxRecDepth 100000 in
set_option maxHeartbeats 2000000 in
theorem walk (A : Option Addr) (n c : Nat) (w : World) (h : Bytes w w.heap.size A n c) : Calls Try.prog 7 #[.slice A n c] w (TrueBelow w) := by
  by_cases hn : 1048576 < n
  · go_enter Try.func7, Try.ntmps7
    go_wp2
    go_ret
    exact ⟨rfl, Below.refl _ _⟩
  · go_enter Try.func7, Try.ntmps7
    go_wp2_with fail
    refine (drawAddTap_any A n c w h).mono ?_
    rintro e w1 ⟨v, xs, t, rfl, ho, hlen, hsm, hts, hc1⟩
    have hcode : n ≤ 1048576 := by omega
    clear h hsm
    obtain ⟨AL, cL, rfl, lL1, lL2, hr⟩ := ho.form
    have oL := ho.nilOk
    clear ho
    have HL1 := Lib.hid hr; clear hr
    unfold maxLen at lL2
    obtain ⟨out, ok, hP⟩ : ∃ out ok, Fares.addTap xs t = (out, ok) := ⟨_, _, rfl⟩
    have hol : out.length ≤ 49 := by have := Fares.addTap_length xs t; rw [hP] at this; exact this
    unfold tapV
    go_wp2_with fail
    generalize hW : World.alloc _ _ = w2
    have hb2 : Below w1.heap.size w1 w2 := by rw [← hW]; exact bA (Below.refl _ _) _
    have HXp2 := Lib.hid (show TapBox w2 w1.heap.size t by rw [← hW]; exact TapBox.new w1 t _)
    clear hW
    have hc2 : Below w.heap.size w w2 := bT hc1 hb2
    have HkL2 := Lib.hid (readsOver HL1.out hb2)
    clear HL1
    clear hb2
    obtain ⟨_, p0, p1, p2, p3, p4, p5⟩ := HXp2.out
    refine (implAddTap_any AL xs.length cL xs t _ (HkL2.out) rfl (by omega) oL lL1 (by omega)).mono ?_
    unfold AddsTap
    rw [hP]
    rintro e w3 ⟨v, rfl, ho, hb3⟩
    obtain ⟨AO, cO, rfl, lO1, lO2, hr⟩ := ho.form
    have oO := ho.nilOk
    clear ho
    have Hn3 := Lib.hid hr; clear hr
    clear p0 p1 p2 p3 p4 p5
    have HXp3 := Lib.hid (HXp2.out.below hb3 HXp2.out.1)
    clear HXp2
    have hc3 : Below w.heap.size w w3 := bT hc2 hb3
    have HkL3 := Lib.hid (readsOver HkL2.out hb3)
    clear HkL2
    clear hb3
    unfold maxLen at lO2
    obtain ⟨_, p0, p1, p2, p3, p4, p5⟩ := HXp3.out
    go_wp2_with fail
    refine (specAddTap_any AL xs.length cL xs t _ (HkL3.out) rfl (by omega)).mono ?_
    unfold AddsTap
    rw [hP]
    rintro e w4 ⟨v, rfl, ho, hb4⟩
    obtain ⟨AW, cW, rfl, lW1, lW2, hr⟩ := ho.form
    have oW := ho.nilOk
    clear ho
    have Hn4 := Lib.hid hr; clear hr
    clear p0 p1 p2 p3 p4 p5
    have HXp4 := Lib.hid (HXp3.out.below hb4 HXp3.out.1)
    clear HXp3
    have hc4 : Below w.heap.size w w4 := bT hc3 hb4
    have HkL4 := Lib.hid (readsOver HkL3.out hb4)
    clear HkL3
    have HkO4 := Lib.hid (readsOver Hn3.out hb4)
    clear Hn3
    clear hb4
    unfold maxLen at lW2
    go_wp2_with fail
    refine (equalTaps_any AO AW _ _ cO cW out out _ (HkO4.out) (Hn4.out) rfl rfl (by omega) (by omega)).mono ?_
    rw [decide_eq_true (rfl : out = out)]
    rintro e w5 ⟨rfl, hb5⟩
    have HXp5 := Lib.hid (HXp4.out.below hb5 HXp4.out.1)
    clear HXp4
    have hc5 : Below w.heap.size w w5 := bT hc4 hb5
    have HkL5 := Lib.hid (readsOver HkL4.out hb5)
    clear HkL4
    have HkO5 := Lib.hid (readsOver HkO4.out hb5)
    clear HkO4
    have HkW5 := Lib.hid (readsOver Hn4.out hb5)
    clear Hn4
    clear hb5
    by_cases hk : ok = true
    · subst hk
      have HC := Lib.hid (fun (card : Int) (hc : card ≠ t.c) => (show Fares.cardTaps out card = Fares.cardTaps xs card by have h := Fares.card_add (xs := xs) (t := t) (by rw [hP]) hc; rw [hP] at h; exact h))
      clear hP
      have hbx := (HXp5.out).1
      go_wp2
      go_loopw [9] (fun i wr => ∃ k : Nat, k ≤ 100 ∧ i = .int .i64 k ∧ Below w5.heap.size w5 wr) (fun i _ => 100 - (intOf i).toNat)
      case atStart => exact ⟨0, by omega, rfl, Below.refl _ _⟩
      case round =>
        obtain ⟨k, hk, rfl, hb⟩ := hrel
        by_cases hlt : k ≤ 99
        · have d99 : decide ((k : Int) ≤ 99) = true := by rw [decide_eq_true_eq]; omega
          have d99n : decide (k ≤ 99) = true := by rw [decide_eq_true_eq]; omega
          obtain ⟨w6, hw6⟩ : ∃ w6, w6 = wr := ⟨_, rfl⟩
          subst hw6
          have hBN6 := hb
          have HXp6 := Lib.hid (HXp5.out.below hb HXp5.out.1)
          clear HXp5
          have hc6 : Below w.heap.size w w6 := bT hc5 hb
          have HkL6 := Lib.hid (readsOver HkL5.out hb)
          clear HkL5
          have HkO6 := Lib.hid (readsOver HkO5.out hb)
          clear HkO5
          have HkW6 := Lib.hid (readsOver HkW5.out hb)
          clear HkW5
          clear hb
          obtain ⟨_, p0, p1, p2, p3, p4, p5⟩ := HXp6.out
          by_cases hc : (k : Int) = t.c
          · have z1 : ((k : Int) == t.c) = true := by simpa using hc
            have z2 : ((k : Int) != t.c) = false := by simpa using hc
            clear hc
            go_wp2
            go_roundw
            case rel => exact ⟨k + 1, by omega, by go_num, hBN6⟩
            case measure => simp [intOf]; omega
          · have z1 : ((k : Int) == t.c) = false := by simpa using hc
            have z2 : ((k : Int) != t.c) = true := by simpa using hc
            obtain ⟨ct, hct⟩ : ∃ ct, Fares.cardTaps xs (k : Int) = ct := ⟨_, rfl⟩
            have hcu : Fares.cardTaps out (k : Int) = ct := (HC.out _ hc).trans hct
            have hcl : ct.length ≤ 25 := by have := Fares.cardTaps_length xs (k : Int); rw [hct] at this; omega
            clear hc
            go_wp2_with fail
            refine (implCardTaps_any AO out.length cO out (k : Int) _ (HkO6.out) rfl lO1 (by omega)).mono ?_
            rw [hcu]
            rintro e w7 ⟨v, rfl, ho, hb7⟩
            obtain ⟨AR, cR, rfl, lR1, lR2, hr⟩ := ho.form
            have oR := ho.nilOk
            clear ho
            have Hn7 := Lib.hid hr; clear hr
            clear p0 p1 p2 p3 p4 p5
            have HXp7 := Lib.hid (HXp6.out.below hb7 HXp6.out.1)
            clear HXp6
            have hBN7 := bT hBN6 hb7
            have hc7 : Below w.heap.size w w7 := bT hc6 hb7
            have HkL7 := Lib.hid (readsOver HkL6.out hb7)
            clear HkL6
            have HkO7 := Lib.hid (readsOver HkO6.out hb7)
            clear HkO6
            have HkW7 := Lib.hid (readsOver HkW6.out hb7)
            clear HkW6
            clear hb7
            unfold maxLen at lR2
            go_wp2_with fail
            refine (implCardTaps_any AL xs.length cL xs (k : Int) _ (HkL7.out) rfl lL1 (by omega)).mono ?_
            rw [hct]
            rintro e w8 ⟨v, rfl, ho, hb8⟩
            obtain ⟨AS, cS, rfl, lS1, lS2, hr⟩ := ho.form
            have oS := ho.nilOk
            clear ho
            have Hn8 := Lib.hid hr; clear hr
            have HXp8 := Lib.hid (HXp7.out.below hb8 HXp7.out.1)
            clear HXp7
            have hBN8 := bT hBN7 hb8
            have hc8 : Below w.heap.size w w8 := bT hc7 hb8
            have HkL8 := Lib.hid (readsOver HkL7.out hb8)
            clear HkL7
            have HkO8 := Lib.hid (readsOver HkO7.out hb8)
            clear HkO7
            have HkW8 := Lib.hid (readsOver HkW7.out hb8)
            clear HkW7
            have HkR8 := Lib.hid (readsOver Hn7.out hb8)
            clear Hn7
            clear hb8
            unfold maxLen at lS2
            go_wp2_with fail
            refine (equalTaps_any AR AS _ _ cR cS ct ct _ (HkR8.out) (Hn8.out) rfl rfl (by omega) (by omega)).mono ?_
            rw [decide_eq_true (rfl : ct = ct)]
            rintro e w9 ⟨rfl, hb9⟩
            have HXp9 := Lib.hid (HXp8.out.below hb9 HXp8.out.1)
            clear HXp8
            have hBN9 := bT hBN8 hb9
            have hc9 : Below w.heap.size w w9 := bT hc8 hb9
            have HkL9 := Lib.hid (readsOver HkL8.out hb9)
            clear HkL8
            have HkO9 := Lib.hid (readsOver HkO8.out hb9)
            clear HkO8
            have HkW9 := Lib.hid (readsOver HkW8.out hb9)
            clear HkW8
            have HkR9 := Lib.hid (readsOver HkR8.out hb9)
            clear HkR8
            have HkS9 := Lib.hid (readsOver Hn8.out hb9)
            clear Hn8
            clear hb9
            clear z1 z2
            go_wp2
            go_roundw
            case rel => exact ⟨k + 1, by omega, by go_num, hBN9⟩
            case measure => simp [intOf]; omega
        · have d99 : decide ((k : Int) ≤ 99) = false := by rw [decide_eq_false_iff_not]; omega
          have d99n : decide (k ≤ 99) = false := by rw [decide_eq_false_iff_not]; omega
          go_wp2
          go_ret
          exact ⟨ret_bool (by simp), bT hc5 hb⟩
    · obtain rfl : ok = false := by simpa using hk
      go_wp2_with fail
      refine (equalTaps_any AO AW _ _ cO cW out out _ (HkO5.out) (HkW5.out) rfl rfl (by omega) (by omega)).mono ?_
      rw [decide_eq_true (rfl : out = out)]
      rintro e w6 ⟨rfl, hb6⟩
      have HXp6 := Lib.hid (HXp5.out.below hb6 HXp5.out.1)
      clear HXp5
      have hc6 : Below w.heap.size w w6 := bT hc5 hb6
      have HkL6 := Lib.hid (readsOver HkL5.out hb6)
      clear HkL5
      have HkO6 := Lib.hid (readsOver HkO5.out hb6)
      clear HkO5
      have HkW6 := Lib.hid (readsOver HkW5.out hb6)
      clear HkW5
      clear hb6
      go_wp2
      go_ret
      exact ⟨ret_bool (by simp), hc6⟩

set_option maxRecDepth 100000 in
theorem lifted (os : Os) (started : os.Started) (H : Type) (enc : TypeId × Value → H) :
    ReturnsInHanded {} Try.checked os 7 .any (Rows.fnAddTapCardSpec.pre6 enc Try.prog Try.f7 Rows.fnAddTapCardRow.domain false) (Rows.fnAddTapCardSpec.post enc Try.prog Try.f7 false true false false) := by
  refine returnsInHanded_of_change (C := Try.checked) Cells.own started (by kernel_rfl) Try.func7
    (ChangeSpec.witness6 (enc := enc) (C := Try.checked) false ⟨#[], #[.slice none 0 0], []⟩ 8 (by kernel_rfl) (by kernel_rfl) (by kernel_rfl) (by kernel_rfl)) ?_
  intro W base args ds gs before hval0 hW _ _
  have hval : ∀ (j : Nat) t v, Try.f7.params[j]? = some t → args[j]? = some v → Value.okWide Try.prog W .any base t v := hval0
  have hW' := hW
  obtain ⟨p, q, hA0, hV, rfl, _, _⟩ := hW
  have hA : DataW.TrodAll enc Try.prog W 0 (fun _ => true) true Try.f7.params.toList args.toList ds p := hA0
  rw [Try.params7] at hA hval
  obtain ⟨v0, d0, rfl, rfl, h0⟩ := trodAll_one hA
  obtain ⟨rfl, rfl⟩ := trodVars_none hV
  obtain ⟨a0, len, cap, rfl⟩ := okWide_slice Try.underlying37 (hval 0 37 v0 rfl rfl)
  clear hA0 hval0
  simp only [List.append_nil] at hW'
  obtain ⟨hb, hargs⟩ := opened h0 (fun x hx => by simpa using hW'.lt x hx)
  refine (walk a0 len cap W hb).mono fun e W' ⟨he, hnx⟩ => ?_
  subst he
  exact ⟨_, rfl, _, _, _, [], _, [], hW', trodAll_mk1 (shut_bool Try.underlying4 _), trodAll_mk1 (hargs _ hnx), rfl, hnx.frame _, fun h => by cases h⟩

theorem closed : joinedFacts Try.prog 7 Try.f7 Rows.fnAddTapCardSpec Rows.fnAddTapCardRow = true := by
  unfold joinedFacts
  rw [Cells.laidOut, Cells.mapsRowed_, Cells.stops, Cells.stopKnobs, Cells.plainKeys, Cells.stopsHeard, Cells.mayEnter, Cells.liftsFinal, Cells.make]
  kernel_rfl

theorem over : Rows.fnAddTapCardRow.holds Try.pinned (OpenSpec.ofChange Rows.fnAddTapCardSpec) :=
  OpenClaim.holds_of_wide 7 Try.f7 rfl rfl rfl rfl rfl rfl rfl ⟨rfl, rfl, rfl, rfl, rfl⟩ rfl rfl rfl rfl rfl (by kernel_rfl) Try.func7 closed
    (of_decide_eq_true (by kernel_rfl)) (by unfold Func.isWrapper; first | (rw [if_pos (by decide +kernel)]; kernel_rfl) | (rw [if_neg (by decide +kernel)]; exact ⟨rfl, rfl⟩))
    (fun os started H enc _ => lifted os started H enc)

/-- THE STATEMENT -/
theorem proved : Rows.FnAddTapCardSaid := over
#print axioms proved
end Go.Proofs.Ytmbgaohnnkmidaa.fnAddTapCard
