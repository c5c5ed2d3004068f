/-
  Collected taps are there once: at every code, with the taps drawn from it, the law FnCollectTaps returns true and leaves the code as it was. No conditions.
-/
import Derived.Test.YtmbgaohnnkmidaaCollect
import Derived.Test.YtmbgaohnnkmidaaCollectLaw
import Derived.Test.YtmbgaohnnkmidaaEqualTap
import Derived.Test.YtmbgaohnnkmidaaDrawCollect
import Derived.Test.YtmbgaohnnkmidaaLiftBytes
set_option linter.unusedSimpArgs false
namespace Go.Proofs.Ytmbgaohnnkmidaa.fnCollectTaps
open Go.ChangeShapes Go.WideShapes Go.ChangeAt Go.RowKit
set_option linter.unusedVariables false

set_option maxRecDepth 100000 in
set_option maxHeartbeats 2000000 in
theorem walk (A : Option Addr) (n c : Nat) (w : World) (h : Bytes w w.heap.size A n c) : Calls Try.prog 8 #[.slice A n c] w (TrueBelow w) := by
  by_cases hn : 1048576 < n
  · go_enter Try.func8, Try.ntmps8
    go_wp2
    go_ret
    exact ⟨rfl, Below.refl _ _⟩
  · go_enter Try.func8, Try.ntmps8
    go_wp2_with fail
    refine (drawCollect_any A n c w h).mono ?_
    rintro e w1 ⟨v, xs, rfl, ho, hlen, hsm, hc1⟩
    have hcode : n ≤ 1048576 := by omega
    clear h hsm
    obtain ⟨AL, cL, rfl, lL1, lL2, hr⟩ := ho.form
    have oL := ho.nilOk
    clear ho
    have HL1 := Lib.hid hr; clear hr
    unfold maxLen at lL2
    obtain ⟨out, hP⟩ : ∃ out, Fares.collectTaps xs = out := ⟨_, rfl⟩
    have hol : out.length ≤ 49 := by have := Fares.collectTaps_length xs; rw [hP] at this; exact this
    go_wp2_with fail
    refine (implCollectTaps_any AL xs.length cL xs _ (HL1.out) rfl (by omega)).mono ?_
    rw [hP]
    rintro e w2 ⟨v, rfl, ho, hb2⟩
    obtain ⟨AO, cO, rfl, lO1, lO2, hr⟩ := ho.form
    have oO := ho.nilOk
    clear ho
    have Hn2 := Lib.hid hr; clear hr
    have hc2 : Below w.heap.size w w2 := bT hc1 hb2
    have HkL2 := Lib.hid (readsOver HL1.out hb2)
    clear HL1
    clear hb2
    unfold maxLen at lO2
    go_wp2_with fail
    refine (specCollectTaps_any AL xs.length cL xs _ (HkL2.out) rfl (by omega)).mono ?_
    rw [hP]
    rintro e w3 ⟨v, rfl, ho, hb3⟩
    obtain ⟨AW, cW, rfl, lW1, lW2, hr⟩ := ho.form
    have oW := ho.nilOk
    clear ho
    have Hn3 := Lib.hid hr; clear hr
    have hc3 : Below w.heap.size w w3 := bT hc2 hb3
    have HkL3 := Lib.hid (readsOver HkL2.out hb3)
    clear HkL2
    have HkO3 := Lib.hid (readsOver Hn2.out hb3)
    clear Hn2
    clear hb3
    unfold maxLen at lW2
    go_wp2_with fail
    refine (equalTaps_any AO AW _ _ cO cW out out _ (HkO3.out) (Hn3.out) rfl rfl (by omega) (by omega)).mono ?_
    rw [decide_eq_true (rfl : out = out)]
    rintro e w4 ⟨rfl, hb4⟩
    have hc4 : Below w.heap.size w w4 := bT hc3 hb4
    have HkL4 := Lib.hid (readsOver HkL3.out hb4)
    clear HkL3
    have HkO4 := Lib.hid (readsOver HkO3.out hb4)
    clear HkO3
    have HkW4 := Lib.hid (readsOver Hn3.out hb4)
    clear Hn3
    clear hb4
    by_cases hl : xs.length ≤ 24
    · have e24 : decide ((24 : Int) < (xs.length : Int)) = false := by rw [decide_eq_false_iff_not]; omega
      have e24n : decide (24 < xs.length) = false := by rw [decide_eq_false_iff_not]; omega
      have hQ : ∀ k x, xs[k]? = some x → Fares.validTap x = true → Fares.sames out x = 1 := fun k x hx hv => by rw [← hP]; exact Fares.collect_sames hl (List.mem_of_getElem? hx) hv
      have HQ := Lib.hid hQ; clear hQ
      have hvo : Fares.validTaps out = true := by rw [← hP]; exact Fares.collect_valid xs
      have HV := Lib.hid hvo; clear hvo hP
      go_wp2
      go_loopw [5] (fun i wr => ∃ k : Nat, k ≤ xs.length ∧ i = .int .i64 k ∧ Below w4.heap.size w4 wr) (fun i _ => xs.length - (intOf i).toNat)
      case atStart => exact ⟨0, Nat.zero_le _, rfl, Below.refl _ _⟩
      case round =>
        obtain ⟨k, hk, rfl, hb⟩ := hrel
        obtain ⟨wo, hwo⟩ : ∃ wo, wo = wr := ⟨_, rfl⟩
        subst hwo
        by_cases hlt : k < xs.length
        · obtain ⟨x, hxk⟩ : ∃ x, xs[k]? = some x := ⟨xs[k], List.getElem?_eq_getElem hlt⟩
          have HX := Lib.hid (HQ.out k x hxk)
          obtain ⟨b0, o0, rfl, hb0, hr0⟩ := Taps.row HkL4.out (by omega)
          have Hx0 := Lib.hid ((hr0 k x hxk).below hb hb0)
          clear hr0 hxk
          have k0 : (0 : Int) ≤ (k : Int) := by omega
          have k1 : (k : Int) < (xs.length : Int) := by omega
          go_wp2
          go_loopw [7, 6] (fun j c wq => ∃ m : Nat, m ≤ out.length ∧ j = .int .i64 m ∧ c = .int .i64 (Fares.sames (out.take m) x : Nat) ∧ Below wo.heap.size wo wq) (fun j _ _ => out.length - (intOf j).toNat)
          case atStart => exact ⟨0, Nat.zero_le _, rfl, rfl, Below.refl _ _⟩
          case round =>
            obtain ⟨m, hm, rfl, rfl, hbq⟩ := hrel
            have hsl := Fares.sames_le out m x
            have hbw := bT hb hbq
            have hb0r : b0 < wo.heap.size := by have := hb.size; omega
            obtain ⟨p0, p1, p2, p3, p4, p5⟩ := Hx0.out.below hbq hb0r
            by_cases hmt : m < out.length
            · obtain ⟨y, hym⟩ : ∃ y, out[m]? = some y := ⟨out[m], List.getElem?_eq_getElem hmt⟩
              have HN := Lib.hid (Fares.sames_next hym x)
              obtain ⟨b1, o1, rfl, hb1, hr1⟩ := Taps.row HkO4.out (by omega)
              obtain ⟨q0, q1, q2, q3, q4, q5⟩ := (hr1 m y hym).below hbw hb1
              clear hr1 hym
              have m0 : (0 : Int) ≤ (m : Int) := by omega
              have m1 : (m : Int) < (out.length : Int) := by omega
              have hsm : Fares.sameTap y x = decide (y.v = x.v ∧ y.n = x.n) := rfl
              by_cases e1 : y.v = x.v
              · by_cases e2 : y.n = x.n
                · have HR := Lib.hid (show Fares.sames (out.take (m + 1)) x = Fares.sames (out.take m) x + 1 by rw [HN.out, hsm]; simp [e1, e2])
                  clear hsm
                  have z1 : (y.v == x.v) = true := by simpa using e1
                  have z2 : (y.n == x.n) = true := by simpa using e2
                  clear e1 e2
                  go_wp2
                  go_quiet (fail)
                  go_wp2
                  go_roundw
                  case rel => exact ⟨m + 1, by omega, by go_num, by rw [show Fares.sames (List.take (m + 1) out) x = _ from HR.out]; go_num, bD hbq _⟩
                  case measure => simp [intOf]; omega
                · have HR := Lib.hid (show Fares.sames (out.take (m + 1)) x = Fares.sames (out.take m) x + 0 by rw [HN.out, hsm]; simp [e1, e2])
                  clear hsm
                  have z1 : (y.v == x.v) = true := by simpa using e1
                  have z2 : (y.n == x.n) = false := by simpa using e2
                  clear e1 e2
                  go_wp2
                  go_quiet (fail)
                  go_wp2
                  go_roundw
                  case rel => exact ⟨m + 1, by omega, by go_num, by rw [show Fares.sames (List.take (m + 1) out) x = _ from HR.out]; go_num, bD hbq _⟩
                  case measure => simp [intOf]; omega
              · have e2 : True := trivial
                have HR := Lib.hid (show Fares.sames (out.take (m + 1)) x = Fares.sames (out.take m) x + 0 by rw [HN.out, hsm]; simp [e1, e2])
                clear hsm
                have z1 : (y.v == x.v) = false := by simpa using e1
                clear e1 e2
                go_wp2
                go_quiet (fail)
                go_wp2
                go_roundw
                case rel => exact ⟨m + 1, by omega, by go_num, by rw [show Fares.sames (List.take (m + 1) out) x = _ from HR.out]; go_num, bD hbq _⟩
                case measure => simp [intOf]; omega
            · obtain rfl : m = out.length := by omega
              rw [List.take_length] at hsl ⊢
              go_wp2_with fail
              refine (implValidTap_any x _).mono ?_
              rintro e wv ⟨rfl, hbv⟩
              have hbz : Below w4.heap.size w4 wv := bT hbw hbv
              cases hv : Fares.validTap x
              · go_wp2
                go_roundw
                case rel => exact ⟨k + 1, by omega, by go_num, hbz⟩
                case measure => simp [intOf]; omega
              · rw [show Fares.sames out x = 1 from HX.out hv]
                go_wp2
                go_roundw
                case rel => exact ⟨k + 1, by omega, by go_num, hbz⟩
                case measure => simp [intOf]; omega
        · obtain rfl : k = xs.length := by omega
          obtain ⟨w5, hw5⟩ : ∃ w5, w5 = wo := ⟨_, rfl⟩
          subst hw5
          have hc5 : Below w.heap.size w w5 := bT hc4 hb
          have HkL5 := Lib.hid (readsOver HkL4.out hb)
          clear HkL4
          have HkO5 := Lib.hid (readsOver HkO4.out hb)
          clear HkO4
          have HkW5 := Lib.hid (readsOver HkW4.out hb)
          clear HkW4
          clear hb
          go_wp2_with fail
          refine (implValidTaps_any AO _ cO out _ (HkO5.out) rfl lO1 (by omega)).mono ?_
          rw [show Fares.validTaps out = true from HV.out]
          rintro e w6 ⟨rfl, hb6⟩
          have hc6 : Below w.heap.size w w6 := bT hc5 hb6
          have HkL6 := Lib.hid (readsOver HkL5.out hb6)
          clear HkL5
          have HkO6 := Lib.hid (readsOver HkO5.out hb6)
          clear HkO5
          have HkW6 := Lib.hid (readsOver HkW5.out hb6)
          clear HkW5
          clear hb6
          go_wp2
          go_ret
          exact ⟨ret_bool (by simp), hc6⟩
    · have e24 : decide ((24 : Int) < (xs.length : Int)) = true := by rw [decide_eq_true_eq]; omega
      have e24n : decide (24 < xs.length) = true := by rw [decide_eq_true_eq]; omega
      go_wp2_with fail
      refine (specCollectTaps_any AL xs.length cL xs _ (HkL4.out) rfl (by omega)).mono ?_
      rw [hP]
      rintro e w5 ⟨v, rfl, ho, hb5⟩
      obtain ⟨AZ, cZ, rfl, lZ1, lZ2, hr⟩ := ho.form
      have oZ := ho.nilOk
      clear ho
      have Hn5 := Lib.hid hr; clear hr
      have hc5 : Below w.heap.size w w5 := bT hc4 hb5
      have HkL5 := Lib.hid (readsOver HkL4.out hb5)
      clear HkL4
      have HkO5 := Lib.hid (readsOver HkO4.out hb5)
      clear HkO4
      have HkW5 := Lib.hid (readsOver HkW4.out hb5)
      clear HkW4
      clear hb5
      unfold maxLen at lZ2
      go_wp2_with fail
      refine (equalTaps_any AO AZ _ _ cO cZ out out _ (HkO5.out) (Hn5.out) rfl rfl (by omega) (by omega)).mono ?_
      rw [decide_eq_true (rfl : out = out)]
      rintro e w6 ⟨rfl, hb6⟩
      have hc6 : Below w.heap.size w w6 := bT hc5 hb6
      have HkL6 := Lib.hid (readsOver HkL5.out hb6)
      clear HkL5
      have HkO6 := Lib.hid (readsOver HkO5.out hb6)
      clear HkO5
      have HkW6 := Lib.hid (readsOver HkW5.out hb6)
      clear HkW5
      have HkZ6 := Lib.hid (readsOver Hn5.out hb6)
      clear Hn5
      clear hb6
      go_wp2
      go_ret
      exact ⟨ret_bool (by simp), hc6⟩

set_option maxRecDepth 100000 in
theorem lifted (os : Os) (started : os.Started) (H : Type) (enc : TypeId × Value → H) :
    ReturnsInHanded {} Try.checked os 8 .any (Rows.fnCollectTapsSpec.pre6 enc Try.prog Try.f8 Rows.fnCollectTapsRow.domain false) (Rows.fnCollectTapsSpec.post enc Try.prog Try.f8 false true false false) := by
  refine returnsInHanded_of_change (C := Try.checked) Cells.own started (by kernel_rfl) Try.func8
    (ChangeSpec.witness6 (enc := enc) (C := Try.checked) false ⟨#[], #[.slice none 0 0], []⟩ 8 (by kernel_rfl) (by kernel_rfl) (by kernel_rfl) (by kernel_rfl)) ?_
  intro W base args ds gs before hval0 hW _ _
  have hval : ∀ (j : Nat) t v, Try.f8.params[j]? = some t → args[j]? = some v → Value.okWide Try.prog W .any base t v := hval0
  have hW' := hW
  obtain ⟨p, q, hA0, hV, rfl, _, _⟩ := hW
  have hA : DataW.TrodAll enc Try.prog W 0 (fun _ => true) true Try.f8.params.toList args.toList ds p := hA0
  rw [Try.params8] at hA hval
  obtain ⟨v0, d0, rfl, rfl, h0⟩ := trodAll_one hA
  obtain ⟨rfl, rfl⟩ := trodVars_none hV
  obtain ⟨a0, len, cap, rfl⟩ := okWide_slice Try.underlying37 (hval 0 37 v0 rfl rfl)
  clear hA0 hval0
  simp only [List.append_nil] at hW'
  obtain ⟨hb, hargs⟩ := opened h0 (fun x hx => by simpa using hW'.lt x hx)
  refine (walk a0 len cap W hb).mono fun e W' ⟨he, hnx⟩ => ?_
  subst he
  exact ⟨_, rfl, _, _, _, [], _, [], hW', trodAll_mk1 (shut_bool Try.underlying4 _), trodAll_mk1 (hargs _ hnx), rfl, hnx.frame _, fun h => by cases h⟩

theorem closed : joinedFacts Try.prog 8 Try.f8 Rows.fnCollectTapsSpec Rows.fnCollectTapsRow = true := by
  unfold joinedFacts
  rw [Cells.laidOut, Cells.mapsRowed_, Cells.stops, Cells.stopKnobs, Cells.plainKeys, Cells.stopsHeard, Cells.mayEnter, Cells.liftsFinal, Cells.make]
  kernel_rfl

theorem over : Rows.fnCollectTapsRow.holds Try.pinned (OpenSpec.ofChange Rows.fnCollectTapsSpec) :=
  OpenClaim.holds_of_wide 8 Try.f8 rfl rfl rfl rfl rfl rfl rfl ⟨rfl, rfl, rfl, rfl, rfl⟩ rfl rfl rfl rfl rfl (by kernel_rfl) Try.func8 closed
    (of_decide_eq_true (by kernel_rfl)) (by unfold Func.isWrapper; first | (rw [if_pos (by decide +kernel)]; kernel_rfl) | (rw [if_neg (by decide +kernel)]; exact ⟨rfl, rfl⟩))
    (fun os started H enc _ => lifted os started H enc)

/-- THE STATEMENT -/
theorem proved : Rows.FnCollectTapsSaid := over
#print axioms proved
end Go.Proofs.Ytmbgaohnnkmidaa.fnCollectTaps
