/-
  One leg has the whole fare: at every code, with the legs and the amount drawn from it, the law FnShareFareOne returns true and leaves the code as it was. No conditions.
-/
import Derived.Test.YtgecgjndbaeahaaShareSpec
import Derived.Test.YtgecgjndbaeahaaShareImpl
import Derived.Test.YtgecgjndbaeahaaShareLaw
import Derived.Test.YtgecgjndbaeahaaJoinSpec
import Derived.Test.YtgecgjndbaeahaaDrawsLeg
import Derived.Test.YtgecgjndbaeahaaEqualLeg
import Derived.Test.YtgecgjndbaeahaaSubQuiet
import Derived.Test.YtgecgjndbaeahaaOwnCell
import Derived.Test.YtgecgjndbaeahaaLiftBytes
set_option linter.unusedSimpArgs false
namespace Go.Proofs.Ytgecgjndbaeahaa.fnShareFareOne
open Go.ChangeShapes Go.WideShapes Go.ChangeAt Go.RowKit
set_option linter.unusedVariables false

set_option maxRecDepth 100000 in
set_option maxHeartbeats 2000000 in
theorem walk (A : Option Addr) (n c : Nat) (w : World) (h : Bytes w w.heap.size A n c) : Calls Try.prog 5 #[.slice A n c] w (TrueBelow w) := by
  by_cases hn : 1048576 < n
  · go_enter Try.func5, Try.ntmps5
    go_wp2
    go_ret
    exact ⟨rfl, Below.refl _ _⟩
  · go_enter Try.func5, Try.ntmps5
    go_wp2_with fail
    refine (drawShareFare_any A n c w h).mono ?_
    rintro e w1 ⟨vv, xs, m, rfl, ho, hlen, m0, m1, hc1⟩
    have hcode : n ≤ 1048576 := by omega
    clear h
    obtain ⟨AL, cL, rfl, lL1, lL2, hr⟩ := OwnLegs.form ho
    have oL := OwnLegs.nilOk ho
    clear ho
    have HL1 := Lib.hid hr; clear hr
    unfold maxLen at lL2
    obtain ⟨out, hP⟩ : ∃ out, Fares.shareFare xs m = out := ⟨_, rfl⟩
    have hol : out.length ≤ 4 := hP ▸ Fares.share_length xs m
    go_wp2_with fail
    refine (implShareFare_any AL xs.length cL xs m _ (HL1.out) rfl (by omega)).mono ?_
    rw [hP]
    rintro e w2 ⟨v, rfl, ho, hb2⟩
    obtain ⟨AO, cO, rfl, lO1, lO2, hr⟩ := ho.form
    have oO := ho.nilOk
    clear ho
    have Hn2 := Lib.hid hr; clear hr
    have hc2 : Below w.heap.size w w2 := bT hc1 hb2
    have HkL2 := Lib.hid (readsOver HL1.out hb2)
    clear HL1
    clear hb2
    unfold maxLen at lO2
    go_wp2_with fail
    refine (specShareFare_any AL xs.length cL xs m _ (HkL2.out) rfl (by omega)).mono ?_
    rw [hP]
    rintro e w3 ⟨v, rfl, ho, hb3⟩
    obtain ⟨AW, cW, rfl, lW1, lW2, hr⟩ := ho.form
    have oW := ho.nilOk
    clear ho
    have Hn3 := Lib.hid hr; clear hr
    have hc3 : Below w.heap.size w w3 := bT hc2 hb3
    have HkL3 := Lib.hid (readsOver HkL2.out hb3)
    clear HkL2
    have HkO3 := Lib.hid (readsOver Hn2.out hb3)
    clear Hn2
    clear hb3
    unfold maxLen at lW2
    go_wp2_with fail
    refine (equalInts_any AO AW _ _ cO cW out out _ (HkO3.out) (Hn3.out) rfl rfl (by omega) (by omega)).mono ?_
    rw [decide_eq_true (rfl : out = out)]
    rintro e w4 ⟨rfl, hb4⟩
    have hc4 : Below w.heap.size w w4 := bT hc3 hb4
    have HkL4 := Lib.hid (readsOver HkL3.out hb4)
    clear HkL3
    have HkO4 := Lib.hid (readsOver HkO3.out hb4)
    clear HkO3
    have HkW4 := Lib.hid (readsOver Hn3.out hb4)
    clear Hn3
    clear hb4
    by_cases hl : 0 < out.length
    · have hk := Fares.share_ok hP hl
      obtain ⟨h4, hsum, hall⟩ := Fares.share_law hk
      rw [hP] at h4 hsum hall
      have HS := Lib.hid (Fares.shared_of hk)
      have HK := Lib.hid hk; clear hk
      have HBO := Lib.hid (Fares.share_bounds HK.out hP)
      have e0 : ((out.length : Int) == 0) = false := beq_eq_false_iff_ne.2 (by omega)
      have o4 : (out.length : Int) = 4 := by omega
      have HALL := Lib.hid hall; clear hall
      have HSUM := Lib.hid hsum; clear hsum
      have H4 := Lib.hid h4; clear h4
      have HO4 := Lib.hid o4; clear o4
      obtain ⟨g, rest, one, hx, h1, h14, g0, g1, hone⟩ := Fares.share_head HK.out
      have h15 : one.length ≤ 4 := by omega
      have H14 := Lib.hid h14; clear h14
      have HONE := Lib.hid hone; clear hone
      have H1 := Lib.hid h1; clear h1
      have ht1 : xs.take 1 = [g] := by rw [hx]; rfl
      have hx0 : xs[0]? = some g := by rw [hx]; rfl
      have hxl : 0 < xs.length := by rw [hx]; simp
      clear hx
      have HX0 := Lib.hid hx0; clear hx0
      have HT1 := Lib.hid ht1; clear ht1
      have Hm1 : Hid (Fares.Shared xs m) := HS
      obtain ⟨b1, o1, rfl, hb1, hr1⟩ := Legs.row HkL4.out (by omega)
      clear hr1
      have Q1 : Hid (Legs w4 w4.heap.size (some ⟨b1, o1, none⟩) [g]) := (HT1.out ▸ Reads.take_of (HkL4.out) 1)
      have l1 : (1 : Int) ≤ (xs.length : Int) := by omega
      have l2 : (1 : Int) ≤ (cL : Int) := by omega
      go_wp2_with fail
      refine (implShareFare_any (some ⟨b1, o1, none⟩) 1 cL [g] m _ (Q1.out) rfl (by omega)).mono ?_
      rw [H1.out]
      rintro e w5 ⟨v, rfl, ho, hb5⟩
      obtain ⟨AU, cU, rfl, lU1, lU2, hr⟩ := ho.form
      have oU := ho.nilOk
      clear ho
      have Hn5 := Lib.hid hr; clear hr
      have hc5 : Below w.heap.size w w5 := bT hc4 hb5
      have HkL5 := Lib.hid (readsOver HkL4.out hb5)
      clear HkL4
      have HkO5 := Lib.hid (readsOver HkO4.out hb5)
      clear HkO4
      have HkW5 := Lib.hid (readsOver HkW4.out hb5)
      clear HkW4
      have HkT5 := Lib.hid (readsOver Q1.out hb5)
      clear Q1
      clear hb5
      unfold maxLen at lU2
      go_wp2
      go_loopw [7] (fun i wr => ∃ k : Nat, k ≤ one.length ∧ i = .int .i64 k ∧ Below w5.heap.size w5 wr) (fun i _ => one.length - (intOf i).toNat)
      case atStart => exact ⟨0, by omega, rfl, Below.refl _ _⟩
      case round =>
        obtain ⟨k, hk, rfl, hb⟩ := hrel
        obtain ⟨w6, hw6⟩ : ∃ w6, w6 = wr := ⟨_, rfl⟩
        subst hw6
        have HB := Lib.hid hb
        have hc6 : Below w.heap.size w w6 := bT hc5 hb
        have HkL6 := Lib.hid (readsOver HkL5.out hb)
        clear HkL5
        have HkO6 := Lib.hid (readsOver HkO5.out hb)
        clear HkO5
        have HkW6 := Lib.hid (readsOver HkW5.out hb)
        clear HkW5
        have HkT6 := Lib.hid (readsOver HkT5.out hb)
        clear HkT5
        have HkU6 := Lib.hid (readsOver Hn5.out hb)
        clear Hn5
        clear hb
        by_cases hlt : k < one.length
        · obtain ⟨v, hv⟩ : ∃ v, one[k]? = some v := ⟨_, List.getElem?_eq_getElem hlt⟩
          have hvv := HONE.out k v hv
          obtain ⟨b2, o2, eU, hbb, hr2⟩ := Ints.row HkU6.out (by omega)
          have p0 := hr2 k v hv
          clear hr2 hv
          subst eU
          obtain ⟨b3, o3, eL, hb3, hr3⟩ := Legs.row HkL6.out (by omega)
          injection eL with eL; injection eL with e3 e4; subst e3 e4
          obtain ⟨p1, p2⟩ := hr3 0 g HX0.out
          simp only [Nat.zero_mul, Nat.add_zero] at p1 p2
          clear hr3 p2
          have i1 : (k : Int) < (one.length : Int) := by omega
          have i0 : (0 : Int) ≤ (k : Int) := by omega
          have i2 : (0 : Int) < (xs.length : Int) := by omega
          by_cases hz : (k : Int) = g.o
          · rw [if_pos hz] at hvv
            subst hvv
            have ez : ((k : Int) == g.o) = true := by simpa using hz
            clear hz
            go_wp2
            go_roundw
            case rel => exact ⟨k + 1, by omega, by go_num, HB.out⟩
            case measure => simp [intOf]; omega
          · rw [if_neg hz] at hvv
            subst hvv
            have ez : ((k : Int) == g.o) = false := by simpa using hz
            clear hz
            go_wp2
            go_roundw
            case rel => exact ⟨k + 1, by omega, by go_num, HB.out⟩
            case measure => simp [intOf]; omega
        · obtain rfl : k = one.length := by omega
          have q4 : one.length = out.length := by have := H14.out; have := H4.out; omega
          have q5 : ((one.length : Int) == (out.length : Int)) = true := by rw [q4]; simp
          have q6 : decide (one.length = out.length) = true := decide_eq_true q4
          clear q4
          go_wp2
          all_goals first | (go_ret; exact ⟨ret_bool (by first | rfl | (simp; done) | (simp; omega) | omega), hc6⟩) | (exfalso; omega)
    · obtain rfl : out = [] := List.eq_nil_of_length_eq_zero (by omega)
      go_wp2_with fail
      refine (specShareFare_any AL xs.length cL xs m _ (HkL4.out) rfl (by omega)).mono ?_
      rw [hP]
      rintro e w5 ⟨v, rfl, ho, hb5⟩
      obtain ⟨AZ, cZ, rfl, lZ1, lZ2, hr⟩ := ho.form
      have oZ := ho.nilOk
      clear ho
      have Hn5 := Lib.hid hr; clear hr
      have hc5 : Below w.heap.size w w5 := bT hc4 hb5
      have HkL5 := Lib.hid (readsOver HkL4.out hb5)
      clear HkL4
      have HkO5 := Lib.hid (readsOver HkO4.out hb5)
      clear HkO4
      have HkW5 := Lib.hid (readsOver HkW4.out hb5)
      clear HkW4
      clear hb5
      unfold maxLen at lZ2
      go_wp2_with fail
      refine (equalInts_any AO AZ _ _ cO cZ ([] : List Int) ([] : List Int) _ (HkO5.out) (Hn5.out) rfl rfl (by omega) (by omega)).mono ?_
      rw [decide_eq_true (rfl : ([] : List Int) = ([] : List Int))]
      rintro e w6 ⟨rfl, hb6⟩
      have hc6 : Below w.heap.size w w6 := bT hc5 hb6
      have HkL6 := Lib.hid (readsOver HkL5.out hb6)
      clear HkL5
      have HkO6 := Lib.hid (readsOver HkO5.out hb6)
      clear HkO5
      have HkW6 := Lib.hid (readsOver HkW5.out hb6)
      clear HkW5
      have HkZ6 := Lib.hid (readsOver Hn5.out hb6)
      clear Hn5
      clear hb6
      go_wp2
      all_goals first | (go_ret; exact ⟨ret_bool (by first | rfl | (simp; done) | (simp; omega) | omega), hc6⟩) | (exfalso; omega)

set_option maxRecDepth 100000 in
theorem lifted (os : Os) (started : os.Started) (H : Type) (enc : TypeId × Value → H) :
    ReturnsInHanded {} Try.checked os 5 .any (Rows.fnShareFareOneSpec.pre6 enc Try.prog Try.f5 Rows.fnShareFareOneRow.domain false) (Rows.fnShareFareOneSpec.post enc Try.prog Try.f5 false true false false) := by
  refine returnsInHanded_of_change (C := Try.checked) Cells.own started (by kernel_rfl) Try.func5
    (ChangeSpec.witness6 (enc := enc) (C := Try.checked) false ⟨#[], #[.slice none 0 0], []⟩ 8 (by kernel_rfl) (by kernel_rfl) (by kernel_rfl) (by kernel_rfl)) ?_
  intro W base args ds gs before hval0 hW _ _
  have hval : ∀ (j : Nat) t v, Try.f5.params[j]? = some t → args[j]? = some v → Value.okWide Try.prog W .any base t v := hval0
  have hW' := hW
  obtain ⟨p, q, hA0, hV, rfl, _, _⟩ := hW
  have hA : DataW.TrodAll enc Try.prog W 0 (fun _ => true) true Try.f5.params.toList args.toList ds p := hA0
  rw [Try.params5] at hA hval
  obtain ⟨v0, d0, rfl, rfl, h0⟩ := trodAll_one hA
  obtain ⟨rfl, rfl⟩ := trodVars_none hV
  obtain ⟨a0, len, cap, rfl⟩ := okWide_slice Try.underlying22 (hval 0 22 v0 rfl rfl)
  clear hA0 hval0
  simp only [List.append_nil] at hW'
  obtain ⟨hb, hargs⟩ := opened h0 (fun x hx => by simpa using hW'.lt x hx)
  refine (walk a0 len cap W hb).mono fun e W' ⟨he, hnx⟩ => ?_
  subst he
  exact ⟨_, rfl, _, _, _, [], _, [], hW', trodAll_mk1 (shut_bool Try.underlying4 _), trodAll_mk1 (hargs _ hnx), rfl, hnx.frame _, fun h => by cases h⟩

theorem closed : joinedFacts Try.prog 5 Try.f5 Rows.fnShareFareOneSpec Rows.fnShareFareOneRow = true := by
  unfold joinedFacts
  rw [Cells.laidOut, Cells.mapsRowed_, Cells.stops, Cells.stopKnobs, Cells.plainKeys, Cells.stopsHeard, Cells.mayEnter, Cells.liftsFinal, Cells.make]
  kernel_rfl

theorem over : Rows.fnShareFareOneRow.holds Try.pinned (OpenSpec.ofChange Rows.fnShareFareOneSpec) :=
  OpenClaim.holds_of_wide 5 Try.f5 rfl rfl rfl rfl rfl rfl rfl ⟨rfl, rfl, rfl, rfl, rfl⟩ rfl rfl rfl rfl rfl (by kernel_rfl) Try.func5 closed
    (of_decide_eq_true (by kernel_rfl)) (by unfold Func.isWrapper; first | (rw [if_pos (by decide +kernel)]; kernel_rfl) | (rw [if_neg (by decide +kernel)]; exact ⟨rfl, rfl⟩))
    (fun os started H enc _ => lifted os started H enc)

/-- THE STATEMENT -/
theorem proved : Rows.FnShareFareOneSaid := over
#print axioms proved
end Go.Proofs.Ytgecgjndbaeahaa.fnShareFareOne
