/-
  Who carried nobody has no share: at every code, with the legs and the amount drawn from it, the law FnShareFareNone returns true and leaves the code as it was. No conditions.
-/
import Derived.Test.YtgecgjndbaeahaaShareSpec
import Derived.Test.YtgecgjndbaeahaaShareImpl
import Derived.Test.YtgecgjndbaeahaaShareLaw
import Derived.Test.YtgecgjndbaeahaaJoinSpec
import Derived.Test.YtgecgjndbaeahaaDrawsLeg
import Derived.Test.YtgecgjndbaeahaaEqualLeg
import Derived.Test.YtgecgjndbaeahaaSubQuiet
import Derived.Test.YtgecgjndbaeahaaOwnCell
import Derived.Test.YtgecgjndbaeahaaLiftBytes
set_option linter.unusedSimpArgs false
namespace Go.Proofs.Ytgecgjndbaeahaa.fnShareFareNone
open Go.ChangeShapes Go.WideShapes Go.ChangeAt Go.RowKit
set_option linter.unusedVariables false

set_option maxRecDepth 100000 in
set_option maxHeartbeats 2000000 in
theorem walk (A : Option Addr) (n c : Nat) (w : World) (h : Bytes w w.heap.size A n c) : Calls Try.prog 6 #[.slice A n c] w (TrueBelow w) := by
  by_cases hn : 1048576 < n
  · go_enter Try.func6, Try.ntmps6
    go_wp2
    go_ret
    exact ⟨rfl, Below.refl _ _⟩
  · go_enter Try.func6, Try.ntmps6
    go_wp2_with fail
    refine (drawShareFare_any A n c w h).mono ?_
    rintro e w1 ⟨vv, xs, m, rfl, ho, hlen, m0, m1, hc1⟩
    have hcode : n ≤ 1048576 := by omega
    clear h
    obtain ⟨AL, cL, rfl, lL1, lL2, hr⟩ := OwnLegs.form ho
    have oL := OwnLegs.nilOk ho
    clear ho
    have HL1 := Lib.hid hr; clear hr
    unfold maxLen at lL2
    obtain ⟨out, hP⟩ : ∃ out, Fares.shareFare xs m = out := ⟨_, rfl⟩
    have hol : out.length ≤ 4 := hP ▸ Fares.share_length xs m
    go_wp2_with fail
    refine (implShareFare_any AL xs.length cL xs m _ (HL1.out) rfl (by omega)).mono ?_
    rw [hP]
    rintro e w2 ⟨v, rfl, ho, hb2⟩
    obtain ⟨AO, cO, rfl, lO1, lO2, hr⟩ := ho.form
    have oO := ho.nilOk
    clear ho
    have Hn2 := Lib.hid hr; clear hr
    have hc2 : Below w.heap.size w w2 := bT hc1 hb2
    have HkL2 := Lib.hid (readsOver HL1.out hb2)
    clear HL1
    clear hb2
    unfold maxLen at lO2
    go_wp2_with fail
    refine (specShareFare_any AL xs.length cL xs m _ (HkL2.out) rfl (by omega)).mono ?_
    rw [hP]
    rintro e w3 ⟨v, rfl, ho, hb3⟩
    obtain ⟨AW, cW, rfl, lW1, lW2, hr⟩ := ho.form
    have oW := ho.nilOk
    clear ho
    have Hn3 := Lib.hid hr; clear hr
    have hc3 : Below w.heap.size w w3 := bT hc2 hb3
    have HkL3 := Lib.hid (readsOver HkL2.out hb3)
    clear HkL2
    have HkO3 := Lib.hid (readsOver Hn2.out hb3)
    clear Hn2
    clear hb3
    unfold maxLen at lW2
    go_wp2_with fail
    refine (equalInts_any AO AW _ _ cO cW out out _ (HkO3.out) (Hn3.out) rfl rfl (by omega) (by omega)).mono ?_
    rw [decide_eq_true (rfl : out = out)]
    rintro e w4 ⟨rfl, hb4⟩
    have hc4 : Below w.heap.size w w4 := bT hc3 hb4
    have HkL4 := Lib.hid (readsOver HkL3.out hb4)
    clear HkL3
    have HkO4 := Lib.hid (readsOver HkO3.out hb4)
    clear HkO3
    have HkW4 := Lib.hid (readsOver Hn3.out hb4)
    clear Hn3
    clear hb4
    by_cases hl : 0 < out.length
    · have hk := Fares.share_ok hP hl
      obtain ⟨h4, hsum, hall⟩ := Fares.share_law hk
      rw [hP] at h4 hsum hall
      have HS := Lib.hid (Fares.shared_of hk)
      have HK := Lib.hid hk; clear hk
      have HBO := Lib.hid (Fares.share_bounds HK.out hP)
      have e0 : ((out.length : Int) == 0) = false := beq_eq_false_iff_ne.2 (by omega)
      have o4 : (out.length : Int) = 4 := by omega
      have HALL := Lib.hid hall; clear hall
      have HSUM := Lib.hid hsum; clear hsum
      have H4 := Lib.hid h4; clear h4
      have HO4 := Lib.hid o4; clear o4
      go_wp2
      go_loopw [6] (fun i wr => ∃ k : Nat, k ≤ out.length ∧ i = .int .i64 k ∧ Below w4.heap.size w4 wr) (fun i _ => out.length - (intOf i).toNat)
      case atStart => exact ⟨0, by omega, rfl, Below.refl _ _⟩
      case round =>
        obtain ⟨k, hk, rfl, hb⟩ := hrel
        obtain ⟨w5, hw5⟩ : ∃ w5, w5 = wr := ⟨_, rfl⟩
        subst hw5
        have HB := Lib.hid hb
        have hc5 : Below w.heap.size w w5 := bT hc4 hb
        have HkL5 := Lib.hid (readsOver HkL4.out hb)
        clear HkL4
        have HkO5 := Lib.hid (readsOver HkO4.out hb)
        clear HkO4
        have HkW5 := Lib.hid (readsOver HkW4.out hb)
        clear HkW4
        clear hb
        by_cases hlt : k < out.length
        · obtain ⟨v, hv⟩ : ∃ v, out[k]? = some v := ⟨_, List.getElem?_eq_getElem hlt⟩
          obtain ⟨v0, v1, v2, v3, v4, _⟩ := HALL.out k v hv
          have hle := HS.out.len k
          have hvl := Fares.length_at (Fares.shareOk_iff.1 HK.out).1 (k : Int)
          clear v2 v3
          obtain ⟨l, hl'⟩ : ∃ l, Fares.legSum k xs = l := ⟨_, rfl⟩
          rw [hl'] at v4 hle hvl
          clear hl'
          have HV := Lib.hid hvl; clear hvl
          have HVo := Lib.hid hv; clear hv
          have HV4 := Lib.hid v4; clear v4
          by_cases hz : l = 0
          · subst hz
            have hv0 := HV4.out rfl
            subst hv0
            go_wp2_with fail
            refine (implLengthOf_any AL xs.length cL xs (k : Int) _ (HkL5.out) rfl (by omega)).mono ?_
            rw [HV.out]
            rintro e w6 ⟨rfl, hb6⟩
            have HF1 := Lib.hid hb6
            have hc6 : Below w.heap.size w w6 := bT hc5 hb6
            have HkL6 := Lib.hid (readsOver HkL5.out hb6)
            clear HkL5
            have HkO6 := Lib.hid (readsOver HkO5.out hb6)
            clear HkO5
            have HkW6 := Lib.hid (readsOver HkW5.out hb6)
            clear HkW5
            clear hb6
            obtain ⟨b1, o1, eA, hbb, hr1⟩ := Ints.row HkO6.out (by omega)
            have p0 := hr1 k 0 HVo.out
            clear hr1
            subst eA
            have i1 : (k : Int) < (out.length : Int) := by omega
            have i0 : (0 : Int) ≤ (k : Int) := by omega
            go_wp2
            go_roundw
            case rel => exact ⟨k + 1, by omega, by go_num, bT HB.out HF1.out⟩
            case measure => simp [intOf]; omega
          · have ez : (l == 0) = false := by simpa using hz
            go_wp2_with fail
            refine (implLengthOf_any AL xs.length cL xs (k : Int) _ (HkL5.out) rfl (by omega)).mono ?_
            rw [HV.out]
            rintro e w6 ⟨rfl, hb6⟩
            have HF1 := Lib.hid hb6
            have hc6 : Below w.heap.size w w6 := bT hc5 hb6
            have HkL6 := Lib.hid (readsOver HkL5.out hb6)
            clear HkL5
            have HkO6 := Lib.hid (readsOver HkO5.out hb6)
            clear HkO5
            have HkW6 := Lib.hid (readsOver HkW5.out hb6)
            clear HkW5
            clear hb6
            obtain ⟨b1, o1, eA, hbb, hr1⟩ := Ints.row HkO6.out (by omega)
            have p0 := hr1 k v HVo.out
            clear hr1
            subst eA
            have i1 : (k : Int) < (out.length : Int) := by omega
            have i0 : (0 : Int) ≤ (k : Int) := by omega
            go_wp2
            go_roundw
            case rel => exact ⟨k + 1, by omega, by go_num, bT HB.out HF1.out⟩
            case measure => simp [intOf]; omega
        · obtain rfl : k = out.length := by omega
          obtain ⟨z, hz, hz4, hzb, hz0⟩ := Fares.share_zero HK.out
          have hz5 : z.length ≤ 4 := by omega
          have HZ4 := Lib.hid hz4; clear hz4
          have HZB := Lib.hid hzb; clear hzb
          have HZ := Lib.hid hz; clear hz
          have HZ0 := Lib.hid hz0; clear hz0
          go_wp2_with fail
          refine (implShareFare_any AL xs.length cL xs 0 _ (HkL5.out) rfl (by omega)).mono ?_
          rw [HZ.out]
          rintro e w6 ⟨v, rfl, ho, hb6⟩
          obtain ⟨AZ, cZ, rfl, lZ1, lZ2, hr⟩ := ho.form
          have oZ := ho.nilOk
          clear ho
          have Hn6 := Lib.hid hr; clear hr
          have hc6 : Below w.heap.size w w6 := bT hc5 hb6
          have HkL6 := Lib.hid (readsOver HkL5.out hb6)
          clear HkL5
          have HkO6 := Lib.hid (readsOver HkO5.out hb6)
          clear HkO5
          have HkW6 := Lib.hid (readsOver HkW5.out hb6)
          clear HkW5
          clear hb6
          unfold maxLen at lZ2
          go_wp2_with fail
          refine (lawsum_below AZ z.length cZ z 100001 0 _ (Hn6.out) rfl (by omega) (by omega) HZB.out HZ0.out).mono ?_
          rintro e w7 ⟨rfl, hb7⟩
          have hc7 : Below w.heap.size w w7 := bT hc6 hb7
          have HkL7 := Lib.hid (readsOver HkL6.out hb7)
          clear HkL6
          have HkO7 := Lib.hid (readsOver HkO6.out hb7)
          clear HkO6
          have HkW7 := Lib.hid (readsOver HkW6.out hb7)
          clear HkW6
          have HkZ7 := Lib.hid (readsOver Hn6.out hb7)
          clear Hn6
          clear hb7
          go_wp2
          all_goals first | (go_ret; exact ⟨ret_bool (by first | rfl | (simp; done) | (simp; omega) | omega), hc7⟩) | (exfalso; omega)
    · obtain rfl : out = [] := List.eq_nil_of_length_eq_zero (by omega)
      go_wp2_with fail
      refine (specShareFare_any AL xs.length cL xs m _ (HkL4.out) rfl (by omega)).mono ?_
      rw [hP]
      rintro e w5 ⟨v, rfl, ho, hb5⟩
      obtain ⟨AZ, cZ, rfl, lZ1, lZ2, hr⟩ := ho.form
      have oZ := ho.nilOk
      clear ho
      have Hn5 := Lib.hid hr; clear hr
      have hc5 : Below w.heap.size w w5 := bT hc4 hb5
      have HkL5 := Lib.hid (readsOver HkL4.out hb5)
      clear HkL4
      have HkO5 := Lib.hid (readsOver HkO4.out hb5)
      clear HkO4
      have HkW5 := Lib.hid (readsOver HkW4.out hb5)
      clear HkW4
      clear hb5
      unfold maxLen at lZ2
      go_wp2_with fail
      refine (equalInts_any AO AZ _ _ cO cZ ([] : List Int) ([] : List Int) _ (HkO5.out) (Hn5.out) rfl rfl (by omega) (by omega)).mono ?_
      rw [decide_eq_true (rfl : ([] : List Int) = ([] : List Int))]
      rintro e w6 ⟨rfl, hb6⟩
      have hc6 : Below w.heap.size w w6 := bT hc5 hb6
      have HkL6 := Lib.hid (readsOver HkL5.out hb6)
      clear HkL5
      have HkO6 := Lib.hid (readsOver HkO5.out hb6)
      clear HkO5
      have HkW6 := Lib.hid (readsOver HkW5.out hb6)
      clear HkW5
      have HkZ6 := Lib.hid (readsOver Hn5.out hb6)
      clear Hn5
      clear hb6
      go_wp2
      all_goals first | (go_ret; exact ⟨ret_bool (by first | rfl | (simp; done) | (simp; omega) | omega), hc6⟩) | (exfalso; omega)

set_option maxRecDepth 100000 in
theorem lifted (os : Os) (started : os.Started) (H : Type) (enc : TypeId × Value → H) :
    ReturnsInHanded {} Try.checked os 6 .any (Rows.fnShareFareNoneSpec.pre6 enc Try.prog Try.f6 Rows.fnShareFareNoneRow.domain false) (Rows.fnShareFareNoneSpec.post enc Try.prog Try.f6 false true false false) := by
  refine returnsInHanded_of_change (C := Try.checked) Cells.own started (by kernel_rfl) Try.func6
    (ChangeSpec.witness6 (enc := enc) (C := Try.checked) false ⟨#[], #[.slice none 0 0], []⟩ 8 (by kernel_rfl) (by kernel_rfl) (by kernel_rfl) (by kernel_rfl)) ?_
  intro W base args ds gs before hval0 hW _ _
  have hval : ∀ (j : Nat) t v, Try.f6.params[j]? = some t → args[j]? = some v → Value.okWide Try.prog W .any base t v := hval0
  have hW' := hW
  obtain ⟨p, q, hA0, hV, rfl, _, _⟩ := hW
  have hA : DataW.TrodAll enc Try.prog W 0 (fun _ => true) true Try.f6.params.toList args.toList ds p := hA0
  rw [Try.params6] at hA hval
  obtain ⟨v0, d0, rfl, rfl, h0⟩ := trodAll_one hA
  obtain ⟨rfl, rfl⟩ := trodVars_none hV
  obtain ⟨a0, len, cap, rfl⟩ := okWide_slice Try.underlying22 (hval 0 22 v0 rfl rfl)
  clear hA0 hval0
  simp only [List.append_nil] at hW'
  obtain ⟨hb, hargs⟩ := opened h0 (fun x hx => by simpa using hW'.lt x hx)
  refine (walk a0 len cap W hb).mono fun e W' ⟨he, hnx⟩ => ?_
  subst he
  exact ⟨_, rfl, _, _, _, [], _, [], hW', trodAll_mk1 (shut_bool Try.underlying4 _), trodAll_mk1 (hargs _ hnx), rfl, hnx.frame _, fun h => by cases h⟩

theorem closed : joinedFacts Try.prog 6 Try.f6 Rows.fnShareFareNoneSpec Rows.fnShareFareNoneRow = true := by
  unfold joinedFacts
  rw [Cells.laidOut, Cells.mapsRowed_, Cells.stops, Cells.stopKnobs, Cells.plainKeys, Cells.stopsHeard, Cells.mayEnter, Cells.liftsFinal, Cells.make]
  kernel_rfl

theorem over : Rows.fnShareFareNoneRow.holds Try.pinned (OpenSpec.ofChange Rows.fnShareFareNoneSpec) :=
  OpenClaim.holds_of_wide 6 Try.f6 rfl rfl rfl rfl rfl rfl rfl ⟨rfl, rfl, rfl, rfl, rfl⟩ rfl rfl rfl rfl rfl (by kernel_rfl) Try.func6 closed
    (of_decide_eq_true (by kernel_rfl)) (by unfold Func.isWrapper; first | (rw [if_pos (by decide +kernel)]; kernel_rfl) | (rw [if_neg (by decide +kernel)]; exact ⟨rfl, rfl⟩))
    (fun os started H enc _ => lifted os started H enc)

/-- THE STATEMENT -/
theorem proved : Rows.FnShareFareNoneSaid := over
#print axioms proved
end Go.Proofs.Ytgecgjndbaeahaa.fnShareFareNone
