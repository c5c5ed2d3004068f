/-
  The order of the legs does not matter, nor whether they are joined: at every code, with the legs and the amount drawn from it, the law FnShareFareOrder returns true and leaves the code as it was. No conditions.
-/
import Derived.Test.YtgecgjndbaeahaaShareSpec
import Derived.Test.YtgecgjndbaeahaaShareImpl
import Derived.Test.YtgecgjndbaeahaaShareLaw
import Derived.Test.YtgecgjndbaeahaaJoinSpec
import Derived.Test.YtgecgjndbaeahaaDrawsLeg
import Derived.Test.YtgecgjndbaeahaaEqualLeg
import Derived.Test.YtgecgjndbaeahaaSubQuiet
import Derived.Test.YtgecgjndbaeahaaOwnCell
import Derived.Test.YtgecgjndbaeahaaLiftBytes
set_option linter.unusedSimpArgs false
namespace Go.Proofs.Ytgecgjndbaeahaa.fnShareFareOrder
open Go.ChangeShapes Go.WideShapes Go.ChangeAt Go.RowKit
set_option linter.unusedVariables false

set_option maxRecDepth 100000 in
set_option maxHeartbeats 2000000 in
theorem walk (A : Option Addr) (n c : Nat) (w : World) (h : Bytes w w.heap.size A n c) : Calls Try.prog 4 #[.slice A n c] w (TrueBelow w) := by
  by_cases hn : 1048576 < n
  · go_enter Try.func4, Try.ntmps4
    go_wp2
    go_ret
    exact ⟨rfl, Below.refl _ _⟩
  · go_enter Try.func4, Try.ntmps4
    go_wp2_with fail
    refine (drawShareFare_any A n c w h).mono ?_
    rintro e w1 ⟨vv, xs, m, rfl, ho, hlen, m0, m1, hc1⟩
    have hcode : n ≤ 1048576 := by omega
    clear h
    obtain ⟨AL, cL, rfl, lL1, lL2, hr⟩ := OwnLegs.form ho
    have oL := OwnLegs.nilOk ho
    clear ho
    have HL1 := Lib.hid hr; clear hr
    unfold maxLen at lL2
    obtain ⟨out, hP⟩ : ∃ out, Fares.shareFare xs m = out := ⟨_, rfl⟩
    have hol : out.length ≤ 4 := hP ▸ Fares.share_length xs m
    go_wp2_with fail
    refine (implShareFare_any AL xs.length cL xs m _ (HL1.out) rfl (by omega)).mono ?_
    rw [hP]
    rintro e w2 ⟨v, rfl, ho, hb2⟩
    obtain ⟨AO, cO, rfl, lO1, lO2, hr⟩ := ho.form
    have oO := ho.nilOk
    clear ho
    have Hn2 := Lib.hid hr; clear hr
    have hc2 : Below w.heap.size w w2 := bT hc1 hb2
    have HkL2 := Lib.hid (readsOver HL1.out hb2)
    clear HL1
    clear hb2
    unfold maxLen at lO2
    go_wp2_with fail
    refine (specShareFare_any AL xs.length cL xs m _ (HkL2.out) rfl (by omega)).mono ?_
    rw [hP]
    rintro e w3 ⟨v, rfl, ho, hb3⟩
    obtain ⟨AW, cW, rfl, lW1, lW2, hr⟩ := ho.form
    have oW := ho.nilOk
    clear ho
    have Hn3 := Lib.hid hr; clear hr
    have hc3 : Below w.heap.size w w3 := bT hc2 hb3
    have HkL3 := Lib.hid (readsOver HkL2.out hb3)
    clear HkL2
    have HkO3 := Lib.hid (readsOver Hn2.out hb3)
    clear Hn2
    clear hb3
    unfold maxLen at lW2
    go_wp2_with fail
    refine (equalInts_any AO AW _ _ cO cW out out _ (HkO3.out) (Hn3.out) rfl rfl (by omega) (by omega)).mono ?_
    rw [decide_eq_true (rfl : out = out)]
    rintro e w4 ⟨rfl, hb4⟩
    have hc4 : Below w.heap.size w w4 := bT hc3 hb4
    have HkL4 := Lib.hid (readsOver HkL3.out hb4)
    clear HkL3
    have HkO4 := Lib.hid (readsOver HkO3.out hb4)
    clear HkO3
    have HkW4 := Lib.hid (readsOver Hn3.out hb4)
    clear Hn3
    clear hb4
    by_cases hl : 0 < out.length
    · have hk := Fares.share_ok hP hl
      obtain ⟨h4, hsum, hall⟩ := Fares.share_law hk
      rw [hP] at h4 hsum hall
      have HS := Lib.hid (Fares.shared_of hk)
      have HK := Lib.hid hk; clear hk
      have HBO := Lib.hid (Fares.share_bounds HK.out hP)
      have e0 : ((out.length : Int) == 0) = false := beq_eq_false_iff_ne.2 (by omega)
      have o4 : (out.length : Int) = 4 := by omega
      have HALL := Lib.hid hall; clear hall
      have HSUM := Lib.hid hsum; clear hsum
      have H4 := Lib.hid h4; clear h4
      have HO4 := Lib.hid o4; clear o4
      obtain ⟨so1, so2, so3⟩ := Fares.share_order HK.out
      rw [hP] at so1 so2
      have HR := Lib.hid so1; clear so1
      obtain ⟨jl, hJ⟩ : ∃ jl, Fares.joinLegs xs = jl := ⟨_, rfl⟩
      rw [hJ] at so2 so3
      have HJ := Lib.hid hJ; clear hJ
      have HJ2 := Lib.hid so2; clear so2
      obtain ⟨ti, hi0, hz0, hz1, hz2⟩ := info_parts info_legD
      have HILeg := Lib.hid hi0; clear hi0
      have HZ0Leg := Lib.hid hz0; clear hz0
      have HZ1Leg := Lib.hid hz1; clear hz1
      have HZ2Leg := Lib.hid hz2; clear hz2
      have hown0 : OwnLegs (w4.alloc (.cells #[] 33)) w4.heap.size (.slice (some ⟨w4.heap.size, 0, none⟩) 0 0) [] := World.ownsRow_lit (base := w4.heap.size) w4 #[] 0 (Nat.le_refl _) (by unfold maxLen; omega) rfl
      have Hown0 := Lib.hid hown0; clear hown0
      have Hrow0 : Hid (Below w4.heap.size w4 (w4.alloc (.cells #[] 33))) := bA (Below.refl _ _) _
      have HLN := HkL4
      go_wp2
      go_loopw [6, 7] (fun bk i wr => ∃ (ys : List Fares.Leg) (q gb cap : Nat), ys.length + q = xs.length ∧ ys = xs.reverse.take ys.length ∧ bk = .slice (some ⟨gb, 0, none⟩) ys.length cap ∧ i = .int .i64 ((q : Int) - 1) ∧ OwnLegs wr w4.heap.size (.slice (some ⟨gb, 0, none⟩) ys.length cap) ys ∧ Below w4.heap.size w4 wr) (fun _ i _ => (intOf i + 1).toNat)
      case atStart => exact ⟨[], xs.length, w4.heap.size, 0, by simp, rfl, rfl, rfl, Hown0.out, Hrow0.out⟩
      case round =>
        obtain ⟨ys, q, gb, cap, hq, hy, rfl, rfl, hown, hb⟩ := hrel
        have HY := Lib.hid hy; clear hy
        have Hown := Lib.hid hown; clear hown
        obtain ⟨w5, hw5⟩ : ∃ w5, w5 = wr := ⟨_, rfl⟩
        subst hw5
        have HB := Lib.hid hb
        have hc5 : Below w.heap.size w w5 := bT hc4 hb
        have HkL5 := Lib.hid (readsOver HkL4.out hb)
        clear HkL4
        have HkO5 := Lib.hid (readsOver HkO4.out hb)
        clear HkO4
        have HkW5 := Lib.hid (readsOver HkW4.out hb)
        clear HkW4
        clear hb
        by_cases hlt : 0 < q
        · obtain ⟨p, rfl⟩ : ∃ p, q = p + 1 := ⟨q - 1, by omega⟩
          obtain ⟨g, hg⟩ : ∃ g, xs[p]? = some g := ⟨_, List.getElem?_eq_getElem (by omega)⟩
          have hgr : xs.reverse[ys.length]? = some g := by rw [List.getElem?_reverse (by omega), ← hg]; congr 1; omega
          have HN := Lib.hid (show ys ++ [g] = xs.reverse.take (ys.length + 1) by rw [take_next hgr, ← HY.out])
          clear hgr
          have e1 : ((p + 1 : Nat) : Int) - 1 = (p : Int) := by omega
          rw [e1]
          clear e1
          have hy8 : ys.length ≤ 9 := by omega
          have i1 : (p : Int) < (xs.length : Int) := by omega
          have i0 : (0 : Int) ≤ (p : Int) := by omega
          have HQ := Lib.hid hq; clear hq
          have hz9 := HB.out.size
          obtain ⟨b1, o1, rfl, hb1, hr1⟩ := Legs.row HkL5.out (by omega)
          obtain ⟨p0, p1⟩ := hr1 p g hg
          clear hr1 hg
          go_wp2_with (at_builtin; refine wpList_append_lies _ rfl (.tmp 43) (.tmp 48) _ rfl (w4.heap.size) 33 ti _ 2 16 Try.underlying23 HILeg.out HZ0Leg.out HZ1Leg.out HZ2Leg.out rfl (by omega) _ _ _ rfl (World.ownsRow.alloc Hown.out _) ⟨w5.heap.size, 0, none⟩ 1 1 (legCells g) rfl rfl ?c1 ?c2 (by omega) ?c3 ?c4 ?c5 _ rfl ?_)
          case c1 => exact World.news_of_block (Blk.new' (t := 33) (cs := #[.int .i64 g.o, .int .i64 g.l]) (by simp))
          case c2 => simp [legCells, Value.oneCell']
          case c3 => unfold maxLen; omega
          case c4 => omega
          case c5 => first | omega | (simp; omega) | simp
          intro gb9 cap9 w9 hown9 hgrow9 hat9 hlt9
          have hgrow9 : (w5.alloc (.cells #[.int .i64 g.o, .int .i64 g.l] 33)).grownBy w9 (some gb) := hgrow9
          have Hown9 := Lib.hid (show OwnLegs w9 w4.heap.size (.slice (some ⟨gb9, 0, none⟩) (ys ++ [g]).length cap9) (ys ++ [g]) by
            rw [List.length_append]
            exact OwnLegs.snoc hown9)
          have hb9 : Below w4.heap.size w4 w9 := Below.grown (bA HB.out _) hgrow9 (by have := HB.out.size; simp; omega) (fun r hr => by injection hr with hr; have := (World.ownsRow.lt Hown.out gb rfl).1; omega)
          clear hown9 hgrow9 hat9
          go_wp2
          go_roundw
          case rel => exact ⟨ys ++ [g], p, gb9, cap9, by have := HQ.out; simp; omega, by rw [List.length_append]; exact HN.out, by first | rfl | simp, rfl, Hown9.out, hb9⟩
          case measure => first | (simp [intOf]; done) | (simp [intOf]; omega)
        · obtain rfl : q = 0 := by omega
          have HYR := Lib.hid (show ys = xs.reverse by have h := HY.out; rw [show ys.length = xs.reverse.length by rw [List.length_reverse]; omega, List.take_length] at h; exact h)
          clear HY
          have hy8 : ys.length ≤ 9 := by omega
          have HYS := Lib.hid (show Fares.shareFare ys m = out by rw [HYR.out]; exact HR.out)
          clear hq HYR
          obtain ⟨_, _, eb, lY1, lY2, hrB⟩ := OwnLegs.form Hown.out
          injection eb with eb1 eb2 eb3; subst eb1 eb3
          have HkY := Lib.hid hrB; clear hrB eb2
          unfold maxLen at lY2
          go_wp2_with fail
          refine (implShareFare_any (some ⟨gb, 0, none⟩) ys.length cap ys m _ (HkY.out) rfl (by omega)).mono ?_
          rw [HYS.out]
          rintro e w6 ⟨v, rfl, ho, hb6⟩
          obtain ⟨AP, cP, rfl, lP1, lP2, hr⟩ := ho.form
          have oP := ho.nilOk
          clear ho
          have Hn6 := Lib.hid hr; clear hr
          have hc6 : Below w.heap.size w w6 := bT hc5 hb6
          have HkL6 := Lib.hid (readsOver HkL5.out hb6)
          clear HkL5
          have HkO6 := Lib.hid (readsOver HkO5.out hb6)
          clear HkO5
          have HkW6 := Lib.hid (readsOver HkW5.out hb6)
          clear HkW5
          have HkY6 := Lib.hid (readsOver HkY.out hb6)
          clear HkY
          clear hb6
          unfold maxLen at lP2
          go_wp2_with fail
          refine (equalInts_any AP AO _ _ cP cO out out _ (Hn6.out) (HkO6.out) rfl rfl (by omega) (by omega)).mono ?_
          rw [decide_eq_true (rfl : out = out)]
          rintro e w7 ⟨rfl, hb7⟩
          have hc7 : Below w.heap.size w w7 := bT hc6 hb7
          have HkL7 := Lib.hid (readsOver HkL6.out hb7)
          clear HkL6
          have HkO7 := Lib.hid (readsOver HkO6.out hb7)
          clear HkO6
          have HkW7 := Lib.hid (readsOver HkW6.out hb7)
          clear HkW6
          have HkY7 := Lib.hid (readsOver HkY6.out hb7)
          clear HkY6
          have HkP7 := Lib.hid (readsOver Hn6.out hb7)
          clear Hn6
          clear hb7
          go_wp2_with fail
          refine (implJoinLegs_any AL xs.length cL xs _ (HkL7.out) rfl (by omega) lL1 (by omega)).mono ?_
          unfold JoinsLegs
          rw [HJ.out]
          rintro e w8 ⟨v, rfl, ho, hb8⟩
          obtain ⟨AJ, cJ, rfl, lJ1, lJ2, hr⟩ := ho.form
          have oJ := ho.nilOk
          clear ho
          have Hn8 := Lib.hid hr; clear hr
          have hc8 : Below w.heap.size w w8 := bT hc7 hb8
          have HkL8 := Lib.hid (readsOver HkL7.out hb8)
          clear HkL7
          have HkO8 := Lib.hid (readsOver HkO7.out hb8)
          clear HkO7
          have HkW8 := Lib.hid (readsOver HkW7.out hb8)
          clear HkW7
          have HkY8 := Lib.hid (readsOver HkY7.out hb8)
          clear HkY7
          have HkP8 := Lib.hid (readsOver HkP7.out hb8)
          clear HkP7
          clear hb8
          unfold maxLen at lJ2
          go_wp2_with fail
          refine (implShareFare_any AJ jl.length cJ jl m _ (Hn8.out) rfl (by omega)).mono ?_
          rw [HJ2.out]
          rintro e w9 ⟨v, rfl, ho, hb9⟩
          obtain ⟨AQ, cQ, rfl, lQ1, lQ2, hr⟩ := ho.form
          have oQ := ho.nilOk
          clear ho
          have Hn9 := Lib.hid hr; clear hr
          have hc9 : Below w.heap.size w w9 := bT hc8 hb9
          have HkL9 := Lib.hid (readsOver HkL8.out hb9)
          clear HkL8
          have HkO9 := Lib.hid (readsOver HkO8.out hb9)
          clear HkO8
          have HkW9 := Lib.hid (readsOver HkW8.out hb9)
          clear HkW8
          have HkY9 := Lib.hid (readsOver HkY8.out hb9)
          clear HkY8
          have HkP9 := Lib.hid (readsOver HkP8.out hb9)
          clear HkP8
          have HkJ9 := Lib.hid (readsOver Hn8.out hb9)
          clear Hn8
          clear hb9
          unfold maxLen at lQ2
          go_wp2_with fail
          refine (equalInts_any AQ AO _ _ cQ cO out out _ (Hn9.out) (HkO9.out) rfl rfl (by omega) (by omega)).mono ?_
          rw [decide_eq_true (rfl : out = out)]
          rintro e w10 ⟨rfl, hb10⟩
          have hc10 : Below w.heap.size w w10 := bT hc9 hb10
          have HkL10 := Lib.hid (readsOver HkL9.out hb10)
          clear HkL9
          have HkO10 := Lib.hid (readsOver HkO9.out hb10)
          clear HkO9
          have HkW10 := Lib.hid (readsOver HkW9.out hb10)
          clear HkW9
          have HkY10 := Lib.hid (readsOver HkY9.out hb10)
          clear HkY9
          have HkP10 := Lib.hid (readsOver HkP9.out hb10)
          clear HkP9
          have HkJ10 := Lib.hid (readsOver HkJ9.out hb10)
          clear HkJ9
          have HkQ10 := Lib.hid (readsOver Hn9.out hb10)
          clear Hn9
          clear hb10
          go_wp2
          all_goals first | (go_ret; exact ⟨ret_bool (by first | rfl | (simp; done) | (simp; omega) | omega), hc10⟩) | (exfalso; omega)
    · obtain rfl : out = [] := List.eq_nil_of_length_eq_zero (by omega)
      go_wp2_with fail
      refine (specShareFare_any AL xs.length cL xs m _ (HkL4.out) rfl (by omega)).mono ?_
      rw [hP]
      rintro e w5 ⟨v, rfl, ho, hb5⟩
      obtain ⟨AZ, cZ, rfl, lZ1, lZ2, hr⟩ := ho.form
      have oZ := ho.nilOk
      clear ho
      have Hn5 := Lib.hid hr; clear hr
      have hc5 : Below w.heap.size w w5 := bT hc4 hb5
      have HkL5 := Lib.hid (readsOver HkL4.out hb5)
      clear HkL4
      have HkO5 := Lib.hid (readsOver HkO4.out hb5)
      clear HkO4
      have HkW5 := Lib.hid (readsOver HkW4.out hb5)
      clear HkW4
      clear hb5
      unfold maxLen at lZ2
      go_wp2_with fail
      refine (equalInts_any AO AZ _ _ cO cZ ([] : List Int) ([] : List Int) _ (HkO5.out) (Hn5.out) rfl rfl (by omega) (by omega)).mono ?_
      rw [decide_eq_true (rfl : ([] : List Int) = ([] : List Int))]
      rintro e w6 ⟨rfl, hb6⟩
      have hc6 : Below w.heap.size w w6 := bT hc5 hb6
      have HkL6 := Lib.hid (readsOver HkL5.out hb6)
      clear HkL5
      have HkO6 := Lib.hid (readsOver HkO5.out hb6)
      clear HkO5
      have HkW6 := Lib.hid (readsOver HkW5.out hb6)
      clear HkW5
      have HkZ6 := Lib.hid (readsOver Hn5.out hb6)
      clear Hn5
      clear hb6
      go_wp2
      all_goals first | (go_ret; exact ⟨ret_bool (by first | rfl | (simp; done) | (simp; omega) | omega), hc6⟩) | (exfalso; omega)

set_option maxRecDepth 100000 in
theorem lifted (os : Os) (started : os.Started) (H : Type) (enc : TypeId × Value → H) :
    ReturnsInHanded {} Try.checked os 4 .any (Rows.fnShareFareOrderSpec.pre6 enc Try.prog Try.f4 Rows.fnShareFareOrderRow.domain false) (Rows.fnShareFareOrderSpec.post enc Try.prog Try.f4 false true false false) := by
  refine returnsInHanded_of_change (C := Try.checked) Cells.own started (by kernel_rfl) Try.func4
    (ChangeSpec.witness6 (enc := enc) (C := Try.checked) false ⟨#[], #[.slice none 0 0], []⟩ 8 (by kernel_rfl) (by kernel_rfl) (by kernel_rfl) (by kernel_rfl)) ?_
  intro W base args ds gs before hval0 hW _ _
  have hval : ∀ (j : Nat) t v, Try.f4.params[j]? = some t → args[j]? = some v → Value.okWide Try.prog W .any base t v := hval0
  have hW' := hW
  obtain ⟨p, q, hA0, hV, rfl, _, _⟩ := hW
  have hA : DataW.TrodAll enc Try.prog W 0 (fun _ => true) true Try.f4.params.toList args.toList ds p := hA0
  rw [Try.params4] at hA hval
  obtain ⟨v0, d0, rfl, rfl, h0⟩ := trodAll_one hA
  obtain ⟨rfl, rfl⟩ := trodVars_none hV
  obtain ⟨a0, len, cap, rfl⟩ := okWide_slice Try.underlying22 (hval 0 22 v0 rfl rfl)
  clear hA0 hval0
  simp only [List.append_nil] at hW'
  obtain ⟨hb, hargs⟩ := opened h0 (fun x hx => by simpa using hW'.lt x hx)
  refine (walk a0 len cap W hb).mono fun e W' ⟨he, hnx⟩ => ?_
  subst he
  exact ⟨_, rfl, _, _, _, [], _, [], hW', trodAll_mk1 (shut_bool Try.underlying4 _), trodAll_mk1 (hargs _ hnx), rfl, hnx.frame _, fun h => by cases h⟩

theorem closed : joinedFacts Try.prog 4 Try.f4 Rows.fnShareFareOrderSpec Rows.fnShareFareOrderRow = true := by
  unfold joinedFacts
  rw [Cells.laidOut, Cells.mapsRowed_, Cells.stops, Cells.stopKnobs, Cells.plainKeys, Cells.stopsHeard, Cells.mayEnter, Cells.liftsFinal, Cells.make]
  kernel_rfl

theorem over : Rows.fnShareFareOrderRow.holds Try.pinned (OpenSpec.ofChange Rows.fnShareFareOrderSpec) :=
  OpenClaim.holds_of_wide 4 Try.f4 rfl rfl rfl rfl rfl rfl rfl ⟨rfl, rfl, rfl, rfl, rfl⟩ rfl rfl rfl rfl rfl (by kernel_rfl) Try.func4 closed
    (of_decide_eq_true (by kernel_rfl)) (by unfold Func.isWrapper; first | (rw [if_pos (by decide +kernel)]; kernel_rfl) | (rw [if_neg (by decide +kernel)]; exact ⟨rfl, rfl⟩))
    (fun os started H enc _ => lifted os started H enc)

/-- THE STATEMENT -/
theorem proved : Rows.FnShareFareOrderSaid := over
#print axioms proved
end Go.Proofs.Ytgecgjndbaeahaa.fnShareFareOrder
