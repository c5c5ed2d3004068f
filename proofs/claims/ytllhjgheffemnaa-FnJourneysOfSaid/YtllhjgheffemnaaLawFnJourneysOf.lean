/-
  Every tap is in one journey: at every code, with the taps and the card drawn from it, the law FnJourneysOf returns true and leaves the code as it was. No conditions.
-/
import Derived.Test.YtllhjgheffemnaaJoursImpl
import Derived.Test.YtllhjgheffemnaaJoursSpec
import Derived.Test.YtllhjgheffemnaaJoursLaw
import Derived.Test.YtllhjgheffemnaaDrawsJours
import Derived.Test.YtllhjgheffemnaaEqualJourney
import Derived.Test.YtllhjgheffemnaaJourSum
import Derived.Test.YtllhjgheffemnaaOwnCell
import Derived.Test.YtllhjgheffemnaaLiftBytes
set_option linter.unusedSimpArgs false
namespace Go.Proofs.Ytllhjgheffemnaa.fnJourneysOf
open Go.ChangeShapes Go.WideShapes Go.ChangeAt Go.RowKit
set_option linter.unusedVariables false

set_option maxRecDepth 100000 in
set_option maxHeartbeats 4000000 in
theorem walk (A : Option Addr) (n c : Nat) (w : World) (h : Bytes w w.heap.size A n c) : Calls Try.prog 3 #[.slice A n c] w (TrueBelow w) := by
  by_cases hn : 1048576 < n
  · go_enter Try.func3, Try.ntmps3
    go_wp2
    go_ret
    exact ⟨rfl, Below.refl _ _⟩
  · go_enter Try.func3, Try.ntmps3
    go_wp2_with fail
    refine (drawJourneysOf_any A n c w h).mono ?_
    rintro e w1 ⟨vv, xs, m, rfl, ho, hlen, hsm, m0, m1, hc1⟩
    have hcode : n ≤ 1048576 := by omega
    clear h hsm
    obtain ⟨AL, cL, rfl, lL1, lL2, hr⟩ := OwnTaps.form ho
    have oL := OwnTaps.nilOk ho
    clear ho
    have HL1 := Lib.hid hr; clear hr
    unfold maxLen at lL2
    obtain ⟨out, hP⟩ : ∃ out, Fares.journeysOf (Fares.cardTaps xs m) = out := ⟨_, rfl⟩
    have hol : out.length ≤ 24 := hP ▸ Fares.journeysOf_card xs m
    go_wp2_with fail
    refine (implJourneysOf_any AL xs.length cL xs m _ (HL1.out) rfl lL1 (by omega)).mono ?_
    rw [hP]
    rintro e w2 ⟨v, rfl, ho, hb2⟩
    obtain ⟨AO, cO, rfl, lO1, lO2, hr⟩ := ho.form
    have oO := ho.nilOk
    clear ho
    have Hn2 := Lib.hid hr; clear hr
    have hc2 : Below w.heap.size w w2 := bT hc1 hb2
    have HkL2 := Lib.hid (readsOver HL1.out hb2)
    clear HL1
    clear hb2
    unfold maxLen at lO2
    go_wp2_with fail
    refine (specJourneysOf_any AL xs.length cL xs m _ (HkL2.out) rfl (by omega)).mono ?_
    rw [hP]
    rintro e w3 ⟨v, rfl, ho, hb3⟩
    obtain ⟨AW, cW, rfl, lW1, lW2, hr⟩ := ho.form
    have oW := ho.nilOk
    clear ho
    have Hn3 := Lib.hid hr; clear hr
    have hc3 : Below w.heap.size w w3 := bT hc2 hb3
    have HkL3 := Lib.hid (readsOver HkL2.out hb3)
    clear HkL2
    have HkO3 := Lib.hid (readsOver Hn2.out hb3)
    clear Hn2
    clear hb3
    unfold maxLen at lW2
    go_wp2_with fail
    refine (equalJourneys_any AO AW _ _ cO cW out out _ (HkO3.out) (Hn3.out) rfl rfl (by omega) (by omega)).mono ?_
    rw [decide_eq_true (rfl : out = out)]
    rintro e w4 ⟨rfl, hb4⟩
    have hc4 : Below w.heap.size w w4 := bT hc3 hb4
    have HkL4 := Lib.hid (readsOver HkL3.out hb4)
    clear HkL3
    have HkO4 := Lib.hid (readsOver HkO3.out hb4)
    clear HkO3
    have HkW4 := Lib.hid (readsOver Hn3.out hb4)
    clear Hn3
    clear hb4
    obtain ⟨vl, hV⟩ : ∃ vl, Fares.validTaps xs = vl := ⟨_, rfl⟩
    go_wp2_with fail
    refine (implValidTaps_any AL xs.length cL xs _ (HkL4.out) rfl lL1 (by omega)).mono ?_
    rw [hV]
    rintro e w5 ⟨rfl, hb5⟩
    have hc5 : Below w.heap.size w w5 := bT hc4 hb5
    have HkL5 := Lib.hid (readsOver HkL4.out hb5)
    clear HkL4
    have HkO5 := Lib.hid (readsOver HkO4.out hb5)
    clear HkO4
    have HkW5 := Lib.hid (readsOver HkW4.out hb5)
    clear HkW4
    clear hb5
    cases vl
    · go_wp2_with fail
      refine (specJourneysOf_any AL xs.length cL xs m _ (HkL5.out) rfl (by omega)).mono ?_
      rw [hP]
      rintro e w6 ⟨v, rfl, ho, hb6⟩
      obtain ⟨AZ, cZ, rfl, lZ1, lZ2, hr⟩ := ho.form
      have oZ := ho.nilOk
      clear ho
      have Hn6 := Lib.hid hr; clear hr
      have hc6 : Below w.heap.size w w6 := bT hc5 hb6
      have HkL6 := Lib.hid (readsOver HkL5.out hb6)
      clear HkL5
      have HkO6 := Lib.hid (readsOver HkO5.out hb6)
      clear HkO5
      have HkW6 := Lib.hid (readsOver HkW5.out hb6)
      clear HkW5
      clear hb6
      unfold maxLen at lZ2
      go_wp2_with fail
      refine (equalJourneys_any AO AZ _ _ cO cZ out out _ (HkO6.out) (Hn6.out) rfl rfl (by omega) (by omega)).mono ?_
      rw [decide_eq_true (rfl : out = out)]
      rintro e w7 ⟨rfl, hb7⟩
      have hc7 : Below w.heap.size w w7 := bT hc6 hb7
      have HkL7 := Lib.hid (readsOver HkL6.out hb7)
      clear HkL6
      have HkO7 := Lib.hid (readsOver HkO6.out hb7)
      clear HkO6
      have HkW7 := Lib.hid (readsOver HkW6.out hb7)
      clear HkW6
      have HkZ7 := Lib.hid (readsOver Hn6.out hb7)
      clear Hn6
      clear hb7
      go_wp2
      all_goals first | (go_ret; exact ⟨ret_bool (by first | rfl | (simp; done) | (simp; omega) | omega), hc7⟩) | (exfalso; omega)
    · have hval : Fares.validJourneys out = true := hP ▸ Fares.valid_journeys (Fares.valid_card m hV)
      have hcnt : Fares.tapCount out = ((Fares.cardTaps xs m).length : Int) := hP ▸ Fares.tapCount_all _
      obtain ⟨cs, hC⟩ : ∃ cs, Fares.cardTaps xs m = cs := ⟨_, rfl⟩
      have hcl : cs.length ≤ 24 := hC ▸ Fares.cardTaps_length xs m
      rw [hC] at hcnt
      have HVAL := Lib.hid hval; clear hval
      have HCNT := Lib.hid hcnt; clear hcnt
      have HC := Lib.hid hC; clear hC
      go_wp2
      go_loopw [6, 7] (fun sm i wr => ∃ k : Nat, k ≤ out.length ∧ sm = .int .i64 (Fares.tapCount (out.take k)) ∧ i = .int .i64 k ∧ Below w5.heap.size w5 wr) (fun _ i _ => out.length - (intOf i).toNat)
      case atStart => exact ⟨0, by omega, rfl, rfl, Below.refl _ _⟩
      case round =>
        obtain ⟨k, hk, rfl, rfl, hb⟩ := hrel
        obtain ⟨w6, hw6⟩ : ∃ w6, w6 = wr := ⟨_, rfl⟩
        subst hw6
        have HB := Lib.hid hb
        have hc6 : Below w.heap.size w w6 := bT hc5 hb
        have HkL6 := Lib.hid (readsOver HkL5.out hb)
        clear HkL5
        have HkO6 := Lib.hid (readsOver HkO5.out hb)
        clear HkO5
        have HkW6 := Lib.hid (readsOver HkW5.out hb)
        clear HkW5
        clear hb
        have hin := Fares.tapCount_in out k hk
        by_cases hlt : k < out.length
        · obtain ⟨j, hj⟩ : ∃ j, out[k]? = some j := ⟨_, List.getElem?_eq_getElem hlt⟩
          have HN := Lib.hid (Fares.tapCount_next hj)
          obtain ⟨t, ht⟩ : ∃ t, Fares.tapCount (out.take k) = t := ⟨_, rfl⟩
          rw [ht] at hin HN
          rw [ht]
          clear ht
          obtain ⟨b1, o1, eA, hbb, hr1⟩ := Journeys.row HkO6.out (by omega)
          obtain ⟨p0, p1, p2, p3, p4⟩ := hr1 k j hj
          clear hr1 hj p0 p1 p2 p3
          subst eA
          have i1 : (k : Int) < (out.length : Int) := by omega
          have i0 : (0 : Int) ≤ (k : Int) := by omega
          have W1 : IntKind.i64.wrap (t + 1) = t + 1 := IntWalk.i64_in _ (by omega)
          have W2 : IntKind.i64.wrap (t + 1 + 1) = t + 1 + 1 := IntWalk.i64_in _ (by omega)
          cases hf : j.f
          · rw [hf] at p4
            have HN2 := Lib.hid (HN.out.trans (by rw [hf]; rfl : _ = t + 1))
            go_wp2
            go_roundw
            case rel => exact ⟨k + 1, by omega, by first | (rw [HN2.out]; done) | (rw [HN2.out]; congr 1; omega), by go_num, HB.out⟩
            case measure => simp [intOf]; omega
          · rw [hf] at p4
            have HN2 := Lib.hid (HN.out.trans (by rw [hf]; rfl : _ = t + 2))
            go_wp2
            go_roundw
            case rel => exact ⟨k + 1, by omega, by first | (rw [HN2.out]; done) | (rw [HN2.out]; congr 1; omega), by go_num, HB.out⟩
            case measure => simp [intOf]; omega
        · obtain rfl : k = out.length := by omega
          rw [List.take_length, HCNT.out]
          go_wp2_with fail
          refine (implCardTaps_any AL xs.length cL xs m _ (HkL6.out) rfl lL1 (by omega)).mono ?_
          rw [HC.out]
          rintro e w7 ⟨v, rfl, ho, hb7⟩
          obtain ⟨AC, cC, rfl, lC1, lC2, hr⟩ := ho.form
          have oC := ho.nilOk
          clear ho
          have Hn7 := Lib.hid hr; clear hr
          have hc7 : Below w.heap.size w w7 := bT hc6 hb7
          have HkL7 := Lib.hid (readsOver HkL6.out hb7)
          clear HkL6
          have HkO7 := Lib.hid (readsOver HkO6.out hb7)
          clear HkO6
          have HkW7 := Lib.hid (readsOver HkW6.out hb7)
          clear HkW6
          clear hb7
          unfold maxLen at lC2
          go_wp2_with fail
          refine (implValidJourneys_any AO out.length cO out _ (HkO7.out) rfl (by omega)).mono ?_
          rw [HVAL.out]
          rintro e w8 ⟨rfl, hb8⟩
          have hc8 : Below w.heap.size w w8 := bT hc7 hb8
          have HkL8 := Lib.hid (readsOver HkL7.out hb8)
          clear HkL7
          have HkO8 := Lib.hid (readsOver HkO7.out hb8)
          clear HkO7
          have HkW8 := Lib.hid (readsOver HkW7.out hb8)
          clear HkW7
          have HkC8 := Lib.hid (readsOver Hn7.out hb8)
          clear Hn7
          clear hb8
          go_wp2
          all_goals first | (go_ret; exact ⟨ret_bool (by first | rfl | (simp; done) | (simp; omega) | omega), hc8⟩) | (exfalso; omega)

set_option maxRecDepth 100000 in
theorem lifted (os : Os) (started : os.Started) (H : Type) (enc : TypeId × Value → H) :
    ReturnsInHanded {} Try.checked os 3 .any (Rows.fnJourneysOfSpec.pre6 enc Try.prog Try.f3 Rows.fnJourneysOfRow.domain false) (Rows.fnJourneysOfSpec.post enc Try.prog Try.f3 false true false false) := by
  refine returnsInHanded_of_change (C := Try.checked) Cells.own started (by kernel_rfl) Try.func3
    (ChangeSpec.witness6 (enc := enc) (C := Try.checked) false ⟨#[], #[.slice none 0 0], []⟩ 8 (by kernel_rfl) (by kernel_rfl) (by kernel_rfl) (by kernel_rfl)) ?_
  intro W base args ds gs before hval0 hW _ _
  have hval : ∀ (j : Nat) t v, Try.f3.params[j]? = some t → args[j]? = some v → Value.okWide Try.prog W .any base t v := hval0
  have hW' := hW
  obtain ⟨p, q, hA0, hV, rfl, _, _⟩ := hW
  have hA : DataW.TrodAll enc Try.prog W 0 (fun _ => true) true Try.f3.params.toList args.toList ds p := hA0
  rw [Try.params3] at hA hval
  obtain ⟨v0, d0, rfl, rfl, h0⟩ := trodAll_one hA
  obtain ⟨rfl, rfl⟩ := trodVars_none hV
  obtain ⟨a0, len, cap, rfl⟩ := okWide_slice Try.underlying22 (hval 0 22 v0 rfl rfl)
  clear hA0 hval0
  simp only [List.append_nil] at hW'
  obtain ⟨hb, hargs⟩ := opened h0 (fun x hx => by simpa using hW'.lt x hx)
  refine (walk a0 len cap W hb).mono fun e W' ⟨he, hnx⟩ => ?_
  subst he
  exact ⟨_, rfl, _, _, _, [], _, [], hW', trodAll_mk1 (shut_bool Try.underlying4 _), trodAll_mk1 (hargs _ hnx), rfl, hnx.frame _, fun h => by cases h⟩

theorem closed : joinedFacts Try.prog 3 Try.f3 Rows.fnJourneysOfSpec Rows.fnJourneysOfRow = true := by
  unfold joinedFacts
  rw [Cells.laidOut, Cells.mapsRowed_, Cells.stops, Cells.stopKnobs, Cells.plainKeys, Cells.stopsHeard, Cells.mayEnter, Cells.liftsFinal, Cells.make]
  kernel_rfl

theorem over : Rows.fnJourneysOfRow.holds Try.pinned (OpenSpec.ofChange Rows.fnJourneysOfSpec) :=
  OpenClaim.holds_of_wide 3 Try.f3 rfl rfl rfl rfl rfl rfl rfl ⟨rfl, rfl, rfl, rfl, rfl⟩ rfl rfl rfl rfl rfl (by kernel_rfl) Try.func3 closed
    (of_decide_eq_true (by kernel_rfl)) (by unfold Func.isWrapper; first | (rw [if_pos (by decide +kernel)]; kernel_rfl) | (rw [if_neg (by decide +kernel)]; exact ⟨rfl, rfl⟩))
    (fun os started H enc _ => lifted os started H enc)

/-- THE STATEMENT -/
theorem proved : Rows.FnJourneysOfSaid := over
#print axioms proved
end Go.Proofs.Ytllhjgheffemnaa.fnJourneysOf
