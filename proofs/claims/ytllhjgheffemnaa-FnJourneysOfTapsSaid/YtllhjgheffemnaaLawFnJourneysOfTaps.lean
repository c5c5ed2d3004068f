/-
  Each whole journey's begin and end are the card's own taps: at every code, with the taps and the card drawn from it, the law FnJourneysOfTaps returns true and leaves the code as it was. No conditions.
-/
import Derived.Test.YtllhjgheffemnaaJoursImpl
import Derived.Test.YtllhjgheffemnaaJoursSpec
import Derived.Test.YtllhjgheffemnaaJoursLaw
import Derived.Test.YtllhjgheffemnaaDrawsJours
import Derived.Test.YtllhjgheffemnaaEqualJourney
import Derived.Test.YtllhjgheffemnaaJourSum
import Derived.Test.YtllhjgheffemnaaOwnCell
import Derived.Test.YtllhjgheffemnaaLiftBytes
set_option linter.unusedSimpArgs false
namespace Go.Proofs.Ytllhjgheffemnaa.fnJourneysOfTaps
open Go.ChangeShapes Go.WideShapes Go.ChangeAt Go.RowKit
set_option linter.unusedVariables false

set_option maxRecDepth 100000 in
set_option maxHeartbeats 4000000 in
theorem walk (A : Option Addr) (n c : Nat) (w : World) (h : Bytes w w.heap.size A n c) : Calls Try.prog 5 #[.slice A n c] w (TrueBelow w) := by
  by_cases hn : 1048576 < n
  · go_enter Try.func5, Try.ntmps5
    go_wp2
    go_ret
    exact ⟨rfl, Below.refl _ _⟩
  · go_enter Try.func5, Try.ntmps5
    go_wp2_with fail
    refine (drawJourneysOf_any A n c w h).mono ?_
    rintro e w1 ⟨vv, xs, m, rfl, ho, hlen, hsm, m0, m1, hc1⟩
    have hcode : n ≤ 1048576 := by omega
    clear h hsm
    obtain ⟨AL, cL, rfl, lL1, lL2, hr⟩ := OwnTaps.form ho
    have oL := OwnTaps.nilOk ho
    clear ho
    have HL1 := Lib.hid hr; clear hr
    unfold maxLen at lL2
    obtain ⟨out, hP⟩ : ∃ out, Fares.journeysOf (Fares.cardTaps xs m) = out := ⟨_, rfl⟩
    have hol : out.length ≤ 24 := hP ▸ Fares.journeysOf_card xs m
    go_wp2_with fail
    refine (implJourneysOf_any AL xs.length cL xs m _ (HL1.out) rfl lL1 (by omega)).mono ?_
    rw [hP]
    rintro e w2 ⟨v, rfl, ho, hb2⟩
    obtain ⟨AO, cO, rfl, lO1, lO2, hr⟩ := ho.form
    have oO := ho.nilOk
    clear ho
    have Hn2 := Lib.hid hr; clear hr
    have hc2 : Below w.heap.size w w2 := bT hc1 hb2
    have HkL2 := Lib.hid (readsOver HL1.out hb2)
    clear HL1
    clear hb2
    unfold maxLen at lO2
    go_wp2_with fail
    refine (specJourneysOf_any AL xs.length cL xs m _ (HkL2.out) rfl (by omega)).mono ?_
    rw [hP]
    rintro e w3 ⟨v, rfl, ho, hb3⟩
    obtain ⟨AW, cW, rfl, lW1, lW2, hr⟩ := ho.form
    have oW := ho.nilOk
    clear ho
    have Hn3 := Lib.hid hr; clear hr
    have hc3 : Below w.heap.size w w3 := bT hc2 hb3
    have HkL3 := Lib.hid (readsOver HkL2.out hb3)
    clear HkL2
    have HkO3 := Lib.hid (readsOver Hn2.out hb3)
    clear Hn2
    clear hb3
    unfold maxLen at lW2
    go_wp2_with fail
    refine (equalJourneys_any AO AW _ _ cO cW out out _ (HkO3.out) (Hn3.out) rfl rfl (by omega) (by omega)).mono ?_
    rw [decide_eq_true (rfl : out = out)]
    rintro e w4 ⟨rfl, hb4⟩
    have hc4 : Below w.heap.size w w4 := bT hc3 hb4
    have HkL4 := Lib.hid (readsOver HkL3.out hb4)
    clear HkL3
    have HkO4 := Lib.hid (readsOver HkO3.out hb4)
    clear HkO3
    have HkW4 := Lib.hid (readsOver Hn3.out hb4)
    clear Hn3
    clear hb4
    have HJT := Lib.hid (fun j (hj : j ∈ out) => Fares.journey_taps (xs := xs) (card := m) (j := j) (by rw [hP]; exact hj))
    go_wp2
    go_loopw [6] (fun i wr => ∃ k : Nat, k ≤ out.length ∧ i = .int .i64 k ∧ Below w4.heap.size w4 wr) (fun i _ => out.length - (intOf i).toNat)
    case atStart => exact ⟨0, by omega, rfl, Below.refl _ _⟩
    case round =>
      obtain ⟨k, hk, rfl, hb⟩ := hrel
      obtain ⟨w5, hw5⟩ : ∃ w5, w5 = wr := ⟨_, rfl⟩
      subst hw5
      have HBa := Lib.hid hb
      have hc5 : Below w.heap.size w w5 := bT hc4 hb
      have HkL5 := Lib.hid (readsOver HkL4.out hb)
      clear HkL4
      have HkO5 := Lib.hid (readsOver HkO4.out hb)
      clear HkO4
      have HkW5 := Lib.hid (readsOver HkW4.out hb)
      clear HkW4
      clear hb
      by_cases hlt : k < out.length
      · obtain ⟨j, hj⟩ : ∃ j, out[k]? = some j := ⟨_, List.getElem?_eq_getElem hlt⟩
        obtain ⟨hjb, hje⟩ := HJT.out j (List.mem_of_getElem? hj)
        have HJB := Lib.hid hjb; clear hjb
        have HJE := Lib.hid hje; clear hje
        obtain ⟨b1, o1, eA, hbb, hr1⟩ := Journeys.row HkO5.out (by omega)
        have hjat := hr1 k j hj
        have HJA := Lib.hid hjat; clear hjat
        obtain ⟨p0, p1, p2, p3, p4⟩ := HJA.out
        clear hr1 hj p0 p1 p2 p3
        subst eA
        have i1 : (k : Int) < (out.length : Int) := by omega
        have i0 : (0 : Int) ≤ (k : Int) := by omega
        go_wp2
        go_loopw [7, 8, 9] (fun vb ve q wr => ∃ q' : Nat, q' ≤ xs.length ∧ vb = .bool (!j.f || (xs.take q').any (Fares.begins m j)) ∧ ve = .bool (!j.f || (xs.take q').any (Fares.endsAt m j)) ∧ q = .int .i64 q' ∧ Below w5.heap.size w5 wr) (fun _ _ q _ => xs.length - (intOf q).toNat)
        case atStart => exact ⟨0, by omega, by simp, by simp, rfl, Below.refl _ _⟩
        case round =>
          obtain ⟨q, hq, rfl, rfl, rfl, hb⟩ := hrel
          have HJ9 := Lib.hid (JourneyAt.below HJA.out hb hbb)
          have hbz := hb.size
          clear p4
          obtain ⟨w6, hw6⟩ : ∃ w6, w6 = wr := ⟨_, rfl⟩
          subst hw6
          have HBb := Lib.hid hb
          have hc6 : Below w.heap.size w w6 := bT hc5 hb
          have HkL6 := Lib.hid (readsOver HkL5.out hb)
          clear HkL5
          have HkO6 := Lib.hid (readsOver HkO5.out hb)
          clear HkO5
          have HkW6 := Lib.hid (readsOver HkW5.out hb)
          clear HkW5
          clear hb
          by_cases hql : q < xs.length
          · obtain ⟨t, ht⟩ : ∃ t, xs[q]? = some t := ⟨_, List.getElem?_eq_getElem hql⟩
            have hn1 : (!j.f || (xs.take (q + 1)).any (Fares.begins m j)) = ((!j.f || (xs.take q).any (Fares.begins m j)) || Fares.begins m j t) := by rw [take_next ht, List.any_append]; simp [Bool.or_assoc]
            have hn2 : (!j.f || (xs.take (q + 1)).any (Fares.endsAt m j)) = ((!j.f || (xs.take q).any (Fares.endsAt m j)) || Fares.endsAt m j t) := by rw [take_next ht, List.any_append]; simp [Bool.or_assoc]
            obtain ⟨vb, hvb⟩ : ∃ vb, (!j.f || (xs.take q).any (Fares.begins m j)) = vb := ⟨_, rfl⟩
            obtain ⟨ve, hve⟩ : ∃ ve, (!j.f || (xs.take q).any (Fares.endsAt m j)) = ve := ⟨_, rfl⟩
            rw [hvb] at hn1 ⊢
            rw [hve] at hn2 ⊢
            have HN1 := Lib.hid hn1; clear hn1
            have HN2 := Lib.hid hn2; clear hn2
            clear hvb hve
            obtain ⟨b2, o2, eL, hb2, hr2⟩ := Taps.row HkL6.out (by omega)
            obtain ⟨y0, y1, y2, y3, y4, y5⟩ := hr2 q t ht
            clear hr2 ht
            subst eL
            have i2 : (q : Int) < (xs.length : Int) := by omega
            have i3 : (0 : Int) ≤ (q : Int) := by omega
            obtain ⟨lx, x0, x1, x2, x3, x4, x5⟩ := TapBox.new w6 t 36
            obtain ⟨z0, z1, z2, z3, z4⟩ := JourneyAt.below HJ9.out (bA (Below.refl w6.heap.size w6) (.cells #[.int .i64 t.v, .int .i64 t.n, .int .i64 t.c, .int .i64 t.m, .int .i64 t.s, .bool t.o] 36)) (show b1 < w6.heap.size by omega)
            have HBL : Hid (∀ a, Below w5.heap.size w5 ((w6.alloc (.cells #[.int .i64 t.v, .int .i64 t.n, .int .i64 t.c, .int .i64 t.m, .int .i64 t.s, .bool t.o] 36)).drewN a)) := fun a => bD (bA HBb.out _) a
            have HBg : Fares.begins m j t = (decide (t.c = m) && !t.o && decide (t.m = j.x) && decide (t.s = j.a)) := rfl
            have HEg : Fares.endsAt m j t = (decide (t.c = m) && t.o && decide (t.m = j.y) && decide (t.s = j.b)) := rfl
            have HBG := Lib.hid HBg; clear HBg
            have HEG := Lib.hid HEg; clear HEg
            cases vb
            · cases ve
              · by_cases hc : t.c = m
                · have ehc : (t.c == m) = true := by simpa using hc
                  have Hhc := Lib.hid hc; clear hc
                  cases hto : t.o
                  · replace x5 := x5.trans (congrArg (fun b => some (Value.bool b)) hto)
                    have Hhto := Lib.hid hto; clear hto
                    by_cases hm : t.m = j.x
                    · have ehm : (t.m == j.x) = true := by simpa using hm
                      have Hhm := Lib.hid hm; clear hm
                      by_cases hs : t.s = j.a
                      · have ehs : (t.s == j.a) = true := by simpa using hs
                        have Hhs := Lib.hid hs; clear hs
                        go_wp2
                        go_quiet (fail)
                        go_wp2
                        go_quiet (fail)
                        go_wp2
                        go_roundw
                        case rel => exact ⟨q + 1, by omega, by rw [HN1.out, HBG.out]; simp [Hhc.out, Hhto.out, Hhm.out, Hhs.out], by rw [HN2.out, HEG.out]; simp [Hhc.out, Hhto.out, Hhm.out, Hhs.out], by go_num, HBL.out _⟩
                        case measure => simp [intOf]; omega
                      · have ehs : (t.s == j.a) = false := by simpa using hs
                        have Hhs := Lib.hid hs; clear hs
                        go_wp2
                        go_quiet (fail)
                        go_wp2
                        go_quiet (fail)
                        go_wp2
                        go_roundw
                        case rel => exact ⟨q + 1, by omega, by rw [HN1.out, HBG.out]; simp [Hhc.out, Hhto.out, Hhm.out, Hhs.out], by rw [HN2.out, HEG.out]; simp [Hhc.out, Hhto.out, Hhm.out, Hhs.out], by go_num, HBL.out _⟩
                        case measure => simp [intOf]; omega
                    · have ehm : (t.m == j.x) = false := by simpa using hm
                      have Hhm := Lib.hid hm; clear hm
                      go_wp2
                      go_quiet (fail)
                      go_wp2
                      go_quiet (fail)
                      go_wp2
                      go_roundw
                      case rel => exact ⟨q + 1, by omega, by rw [HN1.out, HBG.out]; simp [Hhc.out, Hhto.out, Hhm.out], by rw [HN2.out, HEG.out]; simp [Hhc.out, Hhto.out, Hhm.out], by go_num, HBL.out _⟩
                      case measure => simp [intOf]; omega
                  · replace x5 := x5.trans (congrArg (fun b => some (Value.bool b)) hto)
                    have Hhto := Lib.hid hto; clear hto
                    by_cases hm : t.m = j.y
                    · have ehm : (t.m == j.y) = true := by simpa using hm
                      have Hhm := Lib.hid hm; clear hm
                      by_cases hs : t.s = j.b
                      · have ehs : (t.s == j.b) = true := by simpa using hs
                        have Hhs := Lib.hid hs; clear hs
                        go_wp2
                        go_quiet (fail)
                        go_wp2
                        go_quiet (fail)
                        go_wp2
                        go_roundw
                        case rel => exact ⟨q + 1, by omega, by rw [HN1.out, HBG.out]; simp [Hhc.out, Hhto.out, Hhm.out, Hhs.out], by rw [HN2.out, HEG.out]; simp [Hhc.out, Hhto.out, Hhm.out, Hhs.out], by go_num, HBL.out _⟩
                        case measure => simp [intOf]; omega
                      · have ehs : (t.s == j.b) = false := by simpa using hs
                        have Hhs := Lib.hid hs; clear hs
                        go_wp2
                        go_quiet (fail)
                        go_wp2
                        go_quiet (fail)
                        go_wp2
                        go_roundw
                        case rel => exact ⟨q + 1, by omega, by rw [HN1.out, HBG.out]; simp [Hhc.out, Hhto.out, Hhm.out, Hhs.out], by rw [HN2.out, HEG.out]; simp [Hhc.out, Hhto.out, Hhm.out, Hhs.out], by go_num, HBL.out _⟩
                        case measure => simp [intOf]; omega
                    · have ehm : (t.m == j.y) = false := by simpa using hm
                      have Hhm := Lib.hid hm; clear hm
                      go_wp2
                      go_quiet (fail)
                      go_wp2
                      go_quiet (fail)
                      go_wp2
                      go_roundw
                      case rel => exact ⟨q + 1, by omega, by rw [HN1.out, HBG.out]; simp [Hhc.out, Hhto.out, Hhm.out], by rw [HN2.out, HEG.out]; simp [Hhc.out, Hhto.out, Hhm.out], by go_num, HBL.out _⟩
                      case measure => simp [intOf]; omega
                · have ehc : (t.c == m) = false := by simpa using hc
                  have Hhc := Lib.hid hc; clear hc
                  go_wp2
                  go_quiet (fail)
                  go_wp2
                  go_quiet (fail)
                  go_wp2
                  go_roundw
                  case rel => exact ⟨q + 1, by omega, by rw [HN1.out, HBG.out]; simp [Hhc.out], by rw [HN2.out, HEG.out]; simp [Hhc.out], by go_num, HBL.out _⟩
                  case measure => simp [intOf]; omega
              · by_cases hc : t.c = m
                · have ehc : (t.c == m) = true := by simpa using hc
                  have Hhc := Lib.hid hc; clear hc
                  cases hto : t.o
                  · replace x5 := x5.trans (congrArg (fun b => some (Value.bool b)) hto)
                    have Hhto := Lib.hid hto; clear hto
                    by_cases hm : t.m = j.x
                    · have ehm : (t.m == j.x) = true := by simpa using hm
                      have Hhm := Lib.hid hm; clear hm
                      by_cases hs : t.s = j.a
                      · have ehs : (t.s == j.a) = true := by simpa using hs
                        have Hhs := Lib.hid hs; clear hs
                        go_wp2
                        go_quiet (fail)
                        go_wp2
                        go_quiet (fail)
                        go_wp2
                        go_roundw
                        case rel => exact ⟨q + 1, by omega, by rw [HN1.out, HBG.out]; simp [Hhc.out, Hhto.out, Hhm.out, Hhs.out], by rw [HN2.out, HEG.out]; simp [Hhc.out, Hhto.out, Hhm.out, Hhs.out], by go_num, HBL.out _⟩
                        case measure => simp [intOf]; omega
                      · have ehs : (t.s == j.a) = false := by simpa using hs
                        have Hhs := Lib.hid hs; clear hs
                        go_wp2
                        go_quiet (fail)
                        go_wp2
                        go_quiet (fail)
                        go_wp2
                        go_roundw
                        case rel => exact ⟨q + 1, by omega, by rw [HN1.out, HBG.out]; simp [Hhc.out, Hhto.out, Hhm.out, Hhs.out], by rw [HN2.out, HEG.out]; simp [Hhc.out, Hhto.out, Hhm.out, Hhs.out], by go_num, HBL.out _⟩
                        case measure => simp [intOf]; omega
                    · have ehm : (t.m == j.x) = false := by simpa using hm
                      have Hhm := Lib.hid hm; clear hm
                      go_wp2
                      go_quiet (fail)
                      go_wp2
                      go_quiet (fail)
                      go_wp2
                      go_roundw
                      case rel => exact ⟨q + 1, by omega, by rw [HN1.out, HBG.out]; simp [Hhc.out, Hhto.out, Hhm.out], by rw [HN2.out, HEG.out]; simp [Hhc.out, Hhto.out, Hhm.out], by go_num, HBL.out _⟩
                      case measure => simp [intOf]; omega
                  · replace x5 := x5.trans (congrArg (fun b => some (Value.bool b)) hto)
                    have Hhto := Lib.hid hto; clear hto
                    go_wp2
                    go_quiet (fail)
                    go_wp2
                    go_quiet (fail)
                    go_wp2
                    go_roundw
                    case rel => exact ⟨q + 1, by omega, by rw [HN1.out, HBG.out]; simp [Hhc.out, Hhto.out], by rw [HN2.out, HEG.out]; simp [Hhc.out, Hhto.out], by go_num, HBL.out _⟩
                    case measure => simp [intOf]; omega
                · have ehc : (t.c == m) = false := by simpa using hc
                  have Hhc := Lib.hid hc; clear hc
                  go_wp2
                  go_quiet (fail)
                  go_wp2
                  go_quiet (fail)
                  go_wp2
                  go_roundw
                  case rel => exact ⟨q + 1, by omega, by rw [HN1.out, HBG.out]; simp [Hhc.out], by rw [HN2.out, HEG.out]; simp [Hhc.out], by go_num, HBL.out _⟩
                  case measure => simp [intOf]; omega
            · cases ve
              · by_cases hc : t.c = m
                · have ehc : (t.c == m) = true := by simpa using hc
                  have Hhc := Lib.hid hc; clear hc
                  cases hto : t.o
                  · replace x5 := x5.trans (congrArg (fun b => some (Value.bool b)) hto)
                    have Hhto := Lib.hid hto; clear hto
                    go_wp2
                    go_quiet (fail)
                    go_wp2
                    go_quiet (fail)
                    go_wp2
                    go_roundw
                    case rel => exact ⟨q + 1, by omega, by rw [HN1.out, HBG.out]; simp [Hhc.out, Hhto.out], by rw [HN2.out, HEG.out]; simp [Hhc.out, Hhto.out], by go_num, HBL.out _⟩
                    case measure => simp [intOf]; omega
                  · replace x5 := x5.trans (congrArg (fun b => some (Value.bool b)) hto)
                    have Hhto := Lib.hid hto; clear hto
                    by_cases hm : t.m = j.y
                    · have ehm : (t.m == j.y) = true := by simpa using hm
                      have Hhm := Lib.hid hm; clear hm
                      by_cases hs : t.s = j.b
                      · have ehs : (t.s == j.b) = true := by simpa using hs
                        have Hhs := Lib.hid hs; clear hs
                        go_wp2
                        go_quiet (fail)
                        go_wp2
                        go_quiet (fail)
                        go_wp2
                        go_roundw
                        case rel => exact ⟨q + 1, by omega, by rw [HN1.out, HBG.out]; simp [Hhc.out, Hhto.out, Hhm.out, Hhs.out], by rw [HN2.out, HEG.out]; simp [Hhc.out, Hhto.out, Hhm.out, Hhs.out], by go_num, HBL.out _⟩
                        case measure => simp [intOf]; omega
                      · have ehs : (t.s == j.b) = false := by simpa using hs
                        have Hhs := Lib.hid hs; clear hs
                        go_wp2
                        go_quiet (fail)
                        go_wp2
                        go_quiet (fail)
                        go_wp2
                        go_roundw
                        case rel => exact ⟨q + 1, by omega, by rw [HN1.out, HBG.out]; simp [Hhc.out, Hhto.out, Hhm.out, Hhs.out], by rw [HN2.out, HEG.out]; simp [Hhc.out, Hhto.out, Hhm.out, Hhs.out], by go_num, HBL.out _⟩
                        case measure => simp [intOf]; omega
                    · have ehm : (t.m == j.y) = false := by simpa using hm
                      have Hhm := Lib.hid hm; clear hm
                      go_wp2
                      go_quiet (fail)
                      go_wp2
                      go_quiet (fail)
                      go_wp2
                      go_roundw
                      case rel => exact ⟨q + 1, by omega, by rw [HN1.out, HBG.out]; simp [Hhc.out, Hhto.out, Hhm.out], by rw [HN2.out, HEG.out]; simp [Hhc.out, Hhto.out, Hhm.out], by go_num, HBL.out _⟩
                      case measure => simp [intOf]; omega
                · have ehc : (t.c == m) = false := by simpa using hc
                  have Hhc := Lib.hid hc; clear hc
                  go_wp2
                  go_quiet (fail)
                  go_wp2
                  go_quiet (fail)
                  go_wp2
                  go_roundw
                  case rel => exact ⟨q + 1, by omega, by rw [HN1.out, HBG.out]; simp [Hhc.out], by rw [HN2.out, HEG.out]; simp [Hhc.out], by go_num, HBL.out _⟩
                  case measure => simp [intOf]; omega
              · go_wp2
                go_quiet (fail)
                go_wp2
                go_quiet (fail)
                go_wp2
                go_roundw
                case rel => exact ⟨q + 1, by omega, by rw [HN1.out, HBG.out]; simp, by rw [HN2.out, HEG.out]; simp, by go_num, HBL.out _⟩
                case measure => simp [intOf]; omega
          · obtain rfl : q = xs.length := by omega
            rw [List.take_length, HJB.out, HJE.out]
            go_wp2
            go_roundw
            case rel => exact ⟨k + 1, by omega, by go_num, bT HBa.out HBb.out⟩
            case measure => simp [intOf]; omega
      · obtain rfl : k = out.length := by omega
        go_wp2
        all_goals first | (go_ret; exact ⟨ret_bool (by first | rfl | (simp; done) | (simp; omega) | omega), hc5⟩) | (exfalso; omega)

set_option maxRecDepth 100000 in
theorem lifted (os : Os) (started : os.Started) (H : Type) (enc : TypeId × Value → H) :
    ReturnsInHanded {} Try.checked os 5 .any (Rows.fnJourneysOfTapsSpec.pre6 enc Try.prog Try.f5 Rows.fnJourneysOfTapsRow.domain false) (Rows.fnJourneysOfTapsSpec.post enc Try.prog Try.f5 false true false false) := by
  refine returnsInHanded_of_change (C := Try.checked) Cells.own started (by kernel_rfl) Try.func5
    (ChangeSpec.witness6 (enc := enc) (C := Try.checked) false ⟨#[], #[.slice none 0 0], []⟩ 8 (by kernel_rfl) (by kernel_rfl) (by kernel_rfl) (by kernel_rfl)) ?_
  intro W base args ds gs before hval0 hW _ _
  have hval : ∀ (j : Nat) t v, Try.f5.params[j]? = some t → args[j]? = some v → Value.okWide Try.prog W .any base t v := hval0
  have hW' := hW
  obtain ⟨p, q, hA0, hV, rfl, _, _⟩ := hW
  have hA : DataW.TrodAll enc Try.prog W 0 (fun _ => true) true Try.f5.params.toList args.toList ds p := hA0
  rw [Try.params5] at hA hval
  obtain ⟨v0, d0, rfl, rfl, h0⟩ := trodAll_one hA
  obtain ⟨rfl, rfl⟩ := trodVars_none hV
  obtain ⟨a0, len, cap, rfl⟩ := okWide_slice Try.underlying22 (hval 0 22 v0 rfl rfl)
  clear hA0 hval0
  simp only [List.append_nil] at hW'
  obtain ⟨hb, hargs⟩ := opened h0 (fun x hx => by simpa using hW'.lt x hx)
  refine (walk a0 len cap W hb).mono fun e W' ⟨he, hnx⟩ => ?_
  subst he
  exact ⟨_, rfl, _, _, _, [], _, [], hW', trodAll_mk1 (shut_bool Try.underlying4 _), trodAll_mk1 (hargs _ hnx), rfl, hnx.frame _, fun h => by cases h⟩

theorem closed : joinedFacts Try.prog 5 Try.f5 Rows.fnJourneysOfTapsSpec Rows.fnJourneysOfTapsRow = true := by
  unfold joinedFacts
  rw [Cells.laidOut, Cells.mapsRowed_, Cells.stops, Cells.stopKnobs, Cells.plainKeys, Cells.stopsHeard, Cells.mayEnter, Cells.liftsFinal, Cells.make]
  kernel_rfl

theorem over : Rows.fnJourneysOfTapsRow.holds Try.pinned (OpenSpec.ofChange Rows.fnJourneysOfTapsSpec) :=
  OpenClaim.holds_of_wide 5 Try.f5 rfl rfl rfl rfl rfl rfl rfl ⟨rfl, rfl, rfl, rfl, rfl⟩ rfl rfl rfl rfl rfl (by kernel_rfl) Try.func5 closed
    (of_decide_eq_true (by kernel_rfl)) (by unfold Func.isWrapper; first | (rw [if_pos (by decide +kernel)]; kernel_rfl) | (rw [if_neg (by decide +kernel)]; exact ⟨rfl, rfl⟩))
    (fun os started H enc _ => lifted os started H enc)

/-- THE STATEMENT -/
theorem proved : Rows.FnJourneysOfTapsSaid := over
#print axioms proved
end Go.Proofs.Ytllhjgheffemnaa.fnJourneysOfTaps
