/-
  Taps on the way out alone make half journeys: at every code, with the taps and the card drawn from it, the law FnJourneysOfOut returns true and leaves the code as it was. No conditions.
-/
import Derived.Test.YtllhjgheffemnaaJoursImpl
import Derived.Test.YtllhjgheffemnaaJoursSpec
import Derived.Test.YtllhjgheffemnaaJoursLaw
import Derived.Test.YtllhjgheffemnaaDrawsJours
import Derived.Test.YtllhjgheffemnaaEqualJourney
import Derived.Test.YtllhjgheffemnaaJourSum
import Derived.Test.YtllhjgheffemnaaOwnCell
import Derived.Test.YtllhjgheffemnaaLiftBytes
set_option linter.unusedSimpArgs false
namespace Go.Proofs.Ytllhjgheffemnaa.fnJourneysOfOut
open Go.ChangeShapes Go.WideShapes Go.ChangeAt Go.RowKit
set_option linter.unusedVariables false

set_option maxRecDepth 100000 in
set_option maxHeartbeats 4000000 in
theorem walk (A : Option Addr) (n c : Nat) (w : World) (h : Bytes w w.heap.size A n c) : Calls Try.prog 7 #[.slice A n c] w (TrueBelow w) := by
  by_cases hn : 1048576 < n
  · go_enter Try.func7, Try.ntmps7
    go_wp2
    go_ret
    exact ⟨rfl, Below.refl _ _⟩
  · go_enter Try.func7, Try.ntmps7
    go_wp2_with fail
    refine (drawJourneysOf_any A n c w h).mono ?_
    rintro e w1 ⟨vv, xs, m, rfl, ho, hlen, hsm, m0, m1, hc1⟩
    have hcode : n ≤ 1048576 := by omega
    clear h hsm
    obtain ⟨AL, cL, rfl, lL1, lL2, hr⟩ := OwnTaps.form ho
    have oL := OwnTaps.nilOk ho
    clear ho
    have HL1 := Lib.hid hr; clear hr
    unfold maxLen at lL2
    obtain ⟨out, hP⟩ : ∃ out, Fares.journeysOf (Fares.cardTaps xs m) = out := ⟨_, rfl⟩
    have hol : out.length ≤ 24 := hP ▸ Fares.journeysOf_card xs m
    go_wp2_with fail
    refine (implJourneysOf_any AL xs.length cL xs m _ (HL1.out) rfl lL1 (by omega)).mono ?_
    rw [hP]
    rintro e w2 ⟨v, rfl, ho, hb2⟩
    obtain ⟨AO, cO, rfl, lO1, lO2, hr⟩ := ho.form
    have oO := ho.nilOk
    clear ho
    have Hn2 := Lib.hid hr; clear hr
    have hc2 : Below w.heap.size w w2 := bT hc1 hb2
    have HkL2 := Lib.hid (readsOver HL1.out hb2)
    clear HL1
    clear hb2
    unfold maxLen at lO2
    go_wp2_with fail
    refine (specJourneysOf_any AL xs.length cL xs m _ (HkL2.out) rfl (by omega)).mono ?_
    rw [hP]
    rintro e w3 ⟨v, rfl, ho, hb3⟩
    obtain ⟨AW, cW, rfl, lW1, lW2, hr⟩ := ho.form
    have oW := ho.nilOk
    clear ho
    have Hn3 := Lib.hid hr; clear hr
    have hc3 : Below w.heap.size w w3 := bT hc2 hb3
    have HkL3 := Lib.hid (readsOver HkL2.out hb3)
    clear HkL2
    have HkO3 := Lib.hid (readsOver Hn2.out hb3)
    clear Hn2
    clear hb3
    unfold maxLen at lW2
    go_wp2_with fail
    refine (equalJourneys_any AO AW _ _ cO cW out out _ (HkO3.out) (Hn3.out) rfl rfl (by omega) (by omega)).mono ?_
    rw [decide_eq_true (rfl : out = out)]
    rintro e w4 ⟨rfl, hb4⟩
    have hc4 : Below w.heap.size w w4 := bT hc3 hb4
    have HkL4 := Lib.hid (readsOver HkL3.out hb4)
    clear HkL3
    have HkO4 := Lib.hid (readsOver HkO3.out hb4)
    clear HkO3
    have HkW4 := Lib.hid (readsOver Hn3.out hb4)
    clear Hn3
    clear hb4
    obtain ⟨vl, hV⟩ : ∃ vl, Fares.validTaps xs = vl := ⟨_, rfl⟩
    go_wp2_with fail
    refine (implValidTaps_any AL xs.length cL xs _ (HkL4.out) rfl lL1 (by omega)).mono ?_
    rw [hV]
    rintro e w5 ⟨rfl, hb5⟩
    have hc5 : Below w.heap.size w w5 := bT hc4 hb5
    have HkL5 := Lib.hid (readsOver HkL4.out hb5)
    clear HkL4
    have HkO5 := Lib.hid (readsOver HkO4.out hb5)
    clear HkO4
    have HkW5 := Lib.hid (readsOver HkW4.out hb5)
    clear HkW4
    clear hb5
    cases vl
    · go_wp2_with fail
      refine (specJourneysOf_any AL xs.length cL xs m _ (HkL5.out) rfl (by omega)).mono ?_
      rw [hP]
      rintro e w6 ⟨v, rfl, ho, hb6⟩
      obtain ⟨AZ, cZ, rfl, lZ1, lZ2, hr⟩ := ho.form
      have oZ := ho.nilOk
      clear ho
      have Hn6 := Lib.hid hr; clear hr
      have hc6 : Below w.heap.size w w6 := bT hc5 hb6
      have HkL6 := Lib.hid (readsOver HkL5.out hb6)
      clear HkL5
      have HkO6 := Lib.hid (readsOver HkO5.out hb6)
      clear HkO5
      have HkW6 := Lib.hid (readsOver HkW5.out hb6)
      clear HkW5
      clear hb6
      unfold maxLen at lZ2
      go_wp2_with fail
      refine (equalJourneys_any AO AZ _ _ cO cZ out out _ (HkO6.out) (Hn6.out) rfl rfl (by omega) (by omega)).mono ?_
      rw [decide_eq_true (rfl : out = out)]
      rintro e w7 ⟨rfl, hb7⟩
      have hc7 : Below w.heap.size w w7 := bT hc6 hb7
      have HkL7 := Lib.hid (readsOver HkL6.out hb7)
      clear HkL6
      have HkO7 := Lib.hid (readsOver HkO6.out hb7)
      clear HkO6
      have HkW7 := Lib.hid (readsOver HkW6.out hb7)
      clear HkW6
      have HkZ7 := Lib.hid (readsOver Hn6.out hb7)
      clear Hn6
      clear hb7
      go_wp2
      all_goals first | (go_ret; exact ⟨ret_bool (by first | rfl | (simp; done) | (simp; omega) | omega), hc7⟩) | (exfalso; omega)
    · obtain ⟨hs, hH, hHl, hHc⟩ := Fares.out_halves m hV
      obtain ⟨cs, hC⟩ : ∃ cs, Fares.cardTaps xs m = cs := ⟨_, rfl⟩
      have hcl : cs.length ≤ 24 := hC ▸ Fares.cardTaps_length xs m
      rw [hC] at hHl
      have hhl : hs.length ≤ 24 := by omega
      have HC := Lib.hid hC; clear hC
      have HH := Lib.hid hH; clear hH
      have HHL := Lib.hid hHl; clear hHl
      have HHC := Lib.hid hHc; clear hHc
      obtain ⟨ti, hi0, hz0, hz1, hz2⟩ := info_parts info_tap
      have HITap := Lib.hid hi0; clear hi0
      have HZ0Tap := Lib.hid hz0; clear hz0
      have HZ1Tap := Lib.hid hz1; clear hz1
      have HZ2Tap := Lib.hid hz2; clear hz2
      have Hown0 := Lib.hid (show OwnTaps (w5.alloc (.cells #[] 36)) w5.heap.size (.slice (some ⟨w5.heap.size, 0, none⟩) 0 0) [] from World.ownsRow_lit (base := w5.heap.size) w5 #[] 0 (Nat.le_refl _) (by unfold maxLen; omega) rfl)
      have Hrow0 : Hid (Below w5.heap.size w5 (w5.alloc (.cells #[] 36))) := bA (Below.refl _ _) _
      go_wp2
      go_loopw [6, 7] (fun al i wr => ∃ (ys : List Fares.Tap) (gb cap : Nat), ys.length ≤ xs.length ∧ ys = (xs.map Fares.outTap).take ys.length ∧ al = .slice (some ⟨gb, 0, none⟩) ys.length cap ∧ i = .int .i64 (ys.length : Nat) ∧ OwnTaps wr w5.heap.size (.slice (some ⟨gb, 0, none⟩) ys.length cap) ys ∧ Below w5.heap.size w5 wr) (fun _ i _ => xs.length - (intOf i).toNat)
      case atStart => exact ⟨[], w5.heap.size, 0, by simp, rfl, rfl, rfl, Hown0.out, Hrow0.out⟩
      case round =>
        obtain ⟨ys, gb, cap, hq, hy, rfl, rfl, hown, hb⟩ := hrel
        have HY := Lib.hid hy; clear hy
        have Hown := Lib.hid hown; clear hown
        obtain ⟨w6, hw6⟩ : ∃ w6, w6 = wr := ⟨_, rfl⟩
        subst hw6
        have HB := Lib.hid hb
        have hc6 : Below w.heap.size w w6 := bT hc5 hb
        have HkL6 := Lib.hid (readsOver HkL5.out hb)
        clear HkL5
        have HkO6 := Lib.hid (readsOver HkO5.out hb)
        clear HkO5
        have HkW6 := Lib.hid (readsOver HkW5.out hb)
        clear HkW5
        clear hb
        by_cases hlt : ys.length < xs.length
        · obtain ⟨g, hg⟩ : ∃ g, xs[ys.length]? = some g := ⟨_, List.getElem?_eq_getElem hlt⟩
          have HN := Lib.hid (show ys ++ [Fares.outTap g] = (xs.map Fares.outTap).take (ys.length + 1) by rw [take_next (show (xs.map Fares.outTap)[ys.length]? = some (Fares.outTap g) by rw [List.getElem?_map, hg]; rfl), ← HY.out])
          have hy9 : ys.length ≤ 25 := by omega
          have i1 : (ys.length : Int) < (xs.length : Int) := by omega
          have i0 : (0 : Int) ≤ (ys.length : Int) := by omega
          have hz9 := HB.out.size
          have W1 : IntKind.i64.wrap ((ys.length : Int) + 1) = (ys.length : Int) + 1 := IntWalk.i64_in _ (by omega)
          obtain ⟨b1, o1, rfl, hb1, hr1⟩ := Taps.row HkL6.out (by omega)
          obtain ⟨p0, p1, p2, p3, p4, p5⟩ := hr1 ys.length g hg
          clear hr1 hg
          obtain ⟨lx, x0, x1, x2, x3, x4, x5⟩ := TapBox.new w6 g 36
          go_wp2_with (at_builtin; refine wpList_append_lies _ rfl (.tmp 48) (.tmp 60) _ rfl (w5.heap.size) 36 ti _ 6 48 Try.underlying23 HITap.out HZ0Tap.out HZ1Tap.out HZ2Tap.out rfl (by omega) _ _ _ rfl (World.ownsRow.alloc (World.ownsRow.alloc Hown.out (.cells #[.int .i64 g.v, .int .i64 g.n, .int .i64 g.c, .int .i64 g.m, .int .i64 g.s, .bool g.o] 36)) _) ⟨w6.heap.size + 1, 0, none⟩ 1 1 (tapCells (Fares.outTap g)) rfl rfl ?c1 ?c2 (by omega) ?c3 ?c4 ?c5 _ rfl ?_)
          case c1 =>
            have h := World.news_of_block (heap_alloc_new (w6.alloc (.cells #[.int .i64 g.v, .int .i64 g.n, .int .i64 g.c, .int .i64 g.m, .int .i64 g.s, .bool g.o] 36)) (.cells #[.int .i64 g.v, .int .i64 g.n, .int .i64 g.c, .int .i64 g.m, .int .i64 g.s, .bool true] 36))
            simp only [World.size_alloc] at h
            exact h
          case c2 => simp [tapCells, Value.oneCell']
          case c3 => unfold maxLen; omega
          case c4 => omega
          case c5 => first | omega | (simp; omega) | simp
          intro gb9 cap9 w9 hown9 hgrow9 hat9 hlt9
          have hgrow9 : ((w6.alloc (.cells #[.int .i64 g.v, .int .i64 g.n, .int .i64 g.c, .int .i64 g.m, .int .i64 g.s, .bool g.o] 36)).alloc (.cells #[.int .i64 g.v, .int .i64 g.n, .int .i64 g.c, .int .i64 g.m, .int .i64 g.s, .bool true] 36)).grownBy w9 (some gb) := hgrow9
          have Hown9 := Lib.hid (show OwnTaps w9 w5.heap.size (.slice (some ⟨gb9, 0, none⟩) (ys ++ [Fares.outTap g]).length cap9) (ys ++ [Fares.outTap g]) by
            rw [List.length_append]
            exact OwnTaps.snoc hown9)
          have hb9 : Below w5.heap.size w5 w9 := Below.grown (bA (bA HB.out _) _) hgrow9 (by simp; omega) (fun r hr => by injection hr with hr; have := (World.ownsRow.lt Hown.out gb rfl).1; omega)
          clear hown9 hgrow9 hat9 x0 x1 x2 x3 x4 x5
          go_wp2
          go_roundw
          case rel => exact ⟨ys ++ [Fares.outTap g], gb9, cap9, by simp; omega, by rw [List.length_append]; exact HN.out, by first | rfl | simp, by simp, Hown9.out, hb9⟩
          case measure => first | (simp [intOf]; done) | (simp [intOf]; omega)
        · have HYX := Lib.hid (show ys = xs.map Fares.outTap by have h := HY.out; rwa [show ys.length = (xs.map Fares.outTap).length by rw [List.length_map]; omega, List.take_length] at h)
          clear HY
          have hy8 : ys.length ≤ 25 := by omega
          have hyl : ys.length = xs.length := by omega
          have HYS := Lib.hid (show Fares.journeysOf (Fares.cardTaps ys m) = hs by rw [HYX.out]; exact HH.out)
          clear HYX
          obtain ⟨_, _, eb, lY1, lY2, hrB⟩ := OwnTaps.form Hown.out
          injection eb with eb1 eb2 eb3; subst eb1 eb3
          have HkY := Lib.hid hrB; clear hrB eb2
          unfold maxLen at lY2
          have i2 : ¬ ((ys.length : Int) < (xs.length : Int)) := by omega
          have HYL := Lib.hid hyl; clear hyl
          go_wp2_with fail
          refine (implJourneysOf_any (some ⟨gb, 0, none⟩) ys.length cap ys m _ (HkY.out) rfl lY1 (by omega)).mono ?_
          rw [HYS.out]
          rintro e w7 ⟨v, rfl, ho, hb7⟩
          obtain ⟨AH, cH, rfl, lH1, lH2, hr⟩ := ho.form
          have oH := ho.nilOk
          clear ho
          have Hn7 := Lib.hid hr; clear hr
          have hc7 : Below w.heap.size w w7 := bT hc6 hb7
          have HkL7 := Lib.hid (readsOver HkL6.out hb7)
          clear HkL6
          have HkO7 := Lib.hid (readsOver HkO6.out hb7)
          clear HkO6
          have HkW7 := Lib.hid (readsOver HkW6.out hb7)
          clear HkW6
          have HkY7 := Lib.hid (readsOver HkY.out hb7)
          clear HkY
          clear hb7
          unfold maxLen at lH2
          go_wp2_with fail
          refine (implCardTaps_any AL xs.length cL xs m _ (HkL7.out) rfl lL1 (by omega)).mono ?_
          rw [HC.out]
          rintro e w8 ⟨v, rfl, ho, hb8⟩
          obtain ⟨AC, cC, rfl, lC1, lC2, hr⟩ := ho.form
          have oC := ho.nilOk
          clear ho
          have Hn8 := Lib.hid hr; clear hr
          have hc8 : Below w.heap.size w w8 := bT hc7 hb8
          have HkL8 := Lib.hid (readsOver HkL7.out hb8)
          clear HkL7
          have HkO8 := Lib.hid (readsOver HkO7.out hb8)
          clear HkO7
          have HkW8 := Lib.hid (readsOver HkW7.out hb8)
          clear HkW7
          have HkY8 := Lib.hid (readsOver HkY7.out hb8)
          clear HkY7
          have HkH8 := Lib.hid (readsOver Hn7.out hb8)
          clear Hn7
          clear hb8
          unfold maxLen at lC2
          go_wp2_with fail
          refine (implHalfCount_any AH hs.length cH hs _ (HkH8.out) rfl (by omega)).mono ?_
          rw [HHC.out]
          rintro e w9 ⟨rfl, hb9⟩
          have hc9 : Below w.heap.size w w9 := bT hc8 hb9
          have HkL9 := Lib.hid (readsOver HkL8.out hb9)
          clear HkL8
          have HkO9 := Lib.hid (readsOver HkO8.out hb9)
          clear HkO8
          have HkW9 := Lib.hid (readsOver HkW8.out hb9)
          clear HkW8
          have HkY9 := Lib.hid (readsOver HkY8.out hb9)
          clear HkY8
          have HkH9 := Lib.hid (readsOver HkH8.out hb9)
          clear HkH8
          have HkC9 := Lib.hid (readsOver Hn8.out hb9)
          clear Hn8
          clear hb9
          have e1 : decide (hs.length = cs.length) = true := decide_eq_true HHL.out
          have e2 : ((hs.length : Int) == (cs.length : Int)) = true := by rw [HHL.out]; simp
          go_wp2
          all_goals first | (go_ret; exact ⟨ret_bool (by first | rfl | (simp; done) | (simp; omega) | omega), hc9⟩) | (exfalso; have := HHL.out; omega)

set_option maxRecDepth 100000 in
theorem lifted (os : Os) (started : os.Started) (H : Type) (enc : TypeId × Value → H) :
    ReturnsInHanded {} Try.checked os 7 .any (Rows.fnJourneysOfOutSpec.pre6 enc Try.prog Try.f7 Rows.fnJourneysOfOutRow.domain false) (Rows.fnJourneysOfOutSpec.post enc Try.prog Try.f7 false true false false) := by
  refine returnsInHanded_of_change (C := Try.checked) Cells.own started (by kernel_rfl) Try.func7
    (ChangeSpec.witness6 (enc := enc) (C := Try.checked) false ⟨#[], #[.slice none 0 0], []⟩ 8 (by kernel_rfl) (by kernel_rfl) (by kernel_rfl) (by kernel_rfl)) ?_
  intro W base args ds gs before hval0 hW _ _
  have hval : ∀ (j : Nat) t v, Try.f7.params[j]? = some t → args[j]? = some v → Value.okWide Try.prog W .any base t v := hval0
  have hW' := hW
  obtain ⟨p, q, hA0, hV, rfl, _, _⟩ := hW
  have hA : DataW.TrodAll enc Try.prog W 0 (fun _ => true) true Try.f7.params.toList args.toList ds p := hA0
  rw [Try.params7] at hA hval
  obtain ⟨v0, d0, rfl, rfl, h0⟩ := trodAll_one hA
  obtain ⟨rfl, rfl⟩ := trodVars_none hV
  obtain ⟨a0, len, cap, rfl⟩ := okWide_slice Try.underlying22 (hval 0 22 v0 rfl rfl)
  clear hA0 hval0
  simp only [List.append_nil] at hW'
  obtain ⟨hb, hargs⟩ := opened h0 (fun x hx => by simpa using hW'.lt x hx)
  refine (walk a0 len cap W hb).mono fun e W' ⟨he, hnx⟩ => ?_
  subst he
  exact ⟨_, rfl, _, _, _, [], _, [], hW', trodAll_mk1 (shut_bool Try.underlying4 _), trodAll_mk1 (hargs _ hnx), rfl, hnx.frame _, fun h => by cases h⟩

theorem closed : joinedFacts Try.prog 7 Try.f7 Rows.fnJourneysOfOutSpec Rows.fnJourneysOfOutRow = true := by
  unfold joinedFacts
  rw [Cells.laidOut, Cells.mapsRowed_, Cells.stops, Cells.stopKnobs, Cells.plainKeys, Cells.stopsHeard, Cells.mayEnter, Cells.liftsFinal, Cells.make]
  kernel_rfl

theorem over : Rows.fnJourneysOfOutRow.holds Try.pinned (OpenSpec.ofChange Rows.fnJourneysOfOutSpec) :=
  OpenClaim.holds_of_wide 7 Try.f7 rfl rfl rfl rfl rfl rfl rfl ⟨rfl, rfl, rfl, rfl, rfl⟩ rfl rfl rfl rfl rfl (by kernel_rfl) Try.func7 closed
    (of_decide_eq_true (by kernel_rfl)) (by unfold Func.isWrapper; first | (rw [if_pos (by decide +kernel)]; kernel_rfl) | (rw [if_neg (by decide +kernel)]; exact ⟨rfl, rfl⟩))
    (fun os started H enc _ => lifted os started H enc)

/-- THE STATEMENT -/
theorem proved : Rows.FnJourneysOfOutSaid := over
#print axioms proved
end Go.Proofs.Ytllhjgheffemnaa.fnJourneysOfOut
