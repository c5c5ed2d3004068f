/-
  A tap in and a tap out within the longest ride are one journey, else two halves: at every code, with the taps and the card drawn from it, the law FnJourneysOfPair returns true and leaves the code as it was. No conditions.
-/
import Derived.Test.YtllhjgheffemnaaJoursImpl
import Derived.Test.YtllhjgheffemnaaJoursSpec
import Derived.Test.YtllhjgheffemnaaJoursLaw
import Derived.Test.YtllhjgheffemnaaDrawsJours
import Derived.Test.YtllhjgheffemnaaEqualJourney
import Derived.Test.YtllhjgheffemnaaJourSum
import Derived.Test.YtllhjgheffemnaaOwnCell
import Derived.Test.YtllhjgheffemnaaJoursPair
import Derived.Test.YtllhjgheffemnaaLiftBytes
set_option linter.unusedSimpArgs false
namespace Go.Proofs.Ytllhjgheffemnaa.fnJourneysOfPair
open Go.ChangeShapes Go.WideShapes Go.ChangeAt Go.RowKit
set_option linter.unusedVariables false

set_option maxRecDepth 100000 in
set_option maxHeartbeats 4000000 in
theorem walk (A : Option Addr) (n c : Nat) (w : World) (h : Bytes w w.heap.size A n c) : Calls Try.prog 6 #[.slice A n c] w (TrueBelow w) := by
  by_cases hn : 1048576 < n
  · go_enter Try.func6, Try.ntmps6
    go_wp2
    go_ret
    exact ⟨rfl, Below.refl _ _⟩
  · go_enter Try.func6, Try.ntmps6
    go_wp2_with fail
    refine (drawJourneysOf_any A n c w h).mono ?_
    rintro e w1 ⟨vv, xs, m, rfl, ho, hlen, hsm, m0, m1, hc1⟩
    have hcode : n ≤ 1048576 := by omega
    clear h hsm
    obtain ⟨AL, cL, rfl, lL1, lL2, hr⟩ := OwnTaps.form ho
    have oL := OwnTaps.nilOk ho
    clear ho
    have HL1 := Lib.hid hr; clear hr
    unfold maxLen at lL2
    obtain ⟨out, hP⟩ : ∃ out, Fares.journeysOf (Fares.cardTaps xs m) = out := ⟨_, rfl⟩
    have hol : out.length ≤ 24 := hP ▸ Fares.journeysOf_card xs m
    go_wp2_with fail
    refine (implJourneysOf_any AL xs.length cL xs m _ (HL1.out) rfl lL1 (by omega)).mono ?_
    rw [hP]
    rintro e w2 ⟨v, rfl, ho, hb2⟩
    obtain ⟨AO, cO, rfl, lO1, lO2, hr⟩ := ho.form
    have oO := ho.nilOk
    clear ho
    have Hn2 := Lib.hid hr; clear hr
    have hc2 : Below w.heap.size w w2 := bT hc1 hb2
    have HkL2 := Lib.hid (readsOver HL1.out hb2)
    clear HL1
    clear hb2
    unfold maxLen at lO2
    go_wp2_with fail
    refine (specJourneysOf_any AL xs.length cL xs m _ (HkL2.out) rfl (by omega)).mono ?_
    rw [hP]
    rintro e w3 ⟨v, rfl, ho, hb3⟩
    obtain ⟨AW, cW, rfl, lW1, lW2, hr⟩ := ho.form
    have oW := ho.nilOk
    clear ho
    have Hn3 := Lib.hid hr; clear hr
    have hc3 : Below w.heap.size w w3 := bT hc2 hb3
    have HkL3 := Lib.hid (readsOver HkL2.out hb3)
    clear HkL2
    have HkO3 := Lib.hid (readsOver Hn2.out hb3)
    clear Hn2
    clear hb3
    unfold maxLen at lW2
    go_wp2_with fail
    refine (equalJourneys_any AO AW _ _ cO cW out out _ (HkO3.out) (Hn3.out) rfl rfl (by omega) (by omega)).mono ?_
    rw [decide_eq_true (rfl : out = out)]
    rintro e w4 ⟨rfl, hb4⟩
    have hc4 : Below w.heap.size w w4 := bT hc3 hb4
    have HkL4 := Lib.hid (readsOver HkL3.out hb4)
    clear HkL3
    have HkO4 := Lib.hid (readsOver HkO3.out hb4)
    clear HkO3
    have HkW4 := Lib.hid (readsOver Hn3.out hb4)
    clear Hn3
    clear hb4
    obtain ⟨r, hr⟩ : ∃ r, (n : Int).tmod 180 = r := ⟨_, rfl⟩
    have r0 : 0 ≤ r := hr ▸ Int.tmod_nonneg _ (by omega)
    have r1 : r < 180 := hr ▸ Int.tmod_lt_of_pos _ (by omega)
    have W1 : IntKind.i64.wrap (501 + r) = 501 + r := IntWalk.i64_in _ (by omega)
    have HP1 := Lib.hid (Fares.pair_ride (m := 501 + r) (by omega) (by omega))
    have HP2 := Lib.hid Fares.pair_halves
    skip
    have tA := TapBox.new w4 Fares.tapA 36
    have tB := TapBox.new (w4.alloc (.cells #[.int .i64 1, .int .i64 1, .int .i64 5, .int .i64 500, .int .i64 2, .bool false] 36)) (Fares.tapB (501 + r)) 36
    have tC := TapBox.new ((w4.alloc (.cells #[.int .i64 1, .int .i64 1, .int .i64 5, .int .i64 500, .int .i64 2, .bool false] 36)).alloc (.cells #[.int .i64 2, .int .i64 2, .int .i64 5, .int .i64 (501 + r), .int .i64 3, .bool true] 36)) (Fares.tapB 681) 36
    replace tA := (tA.below (bA (Below.refl _ _) (.cells #[.int .i64 2, .int .i64 2, .int .i64 5, .int .i64 (501 + r), .int .i64 3, .bool true] 36)) tA.1)
    replace tA := (tA.below (bA (Below.refl _ _) (.cells #[.int .i64 2, .int .i64 2, .int .i64 5, .int .i64 681, .int .i64 3, .bool true] 36)) tA.1)
    replace tB := (tB.below (bA (Below.refl _ _) (.cells #[.int .i64 2, .int .i64 2, .int .i64 5, .int .i64 681, .int .i64 3, .bool true] 36)) tB.1)
    have HTA := Lib.hid (tA.below (bA (Below.refl _ _) (.cells #[.int .i64 1, .int .i64 1, .int .i64 5, .int .i64 500, .int .i64 2, .bool false, .int .i64 2, .int .i64 2, .int .i64 5, .int .i64 (501 + r), .int .i64 3, .bool true] 36)) tA.1)
    have HTB := Lib.hid (tB.below (bA (Below.refl _ _) (.cells #[.int .i64 1, .int .i64 1, .int .i64 5, .int .i64 500, .int .i64 2, .bool false, .int .i64 2, .int .i64 2, .int .i64 5, .int .i64 (501 + r), .int .i64 3, .bool true] 36)) tB.1)
    have HTC := Lib.hid (tC.below (bA (Below.refl _ _) (.cells #[.int .i64 1, .int .i64 1, .int .i64 5, .int .i64 500, .int .i64 2, .bool false, .int .i64 2, .int .i64 2, .int .i64 5, .int .i64 (501 + r), .int .i64 3, .bool true] 36)) tC.1)
    obtain ⟨_, x0, x1, x2, x3, x4, x5⟩ := tA
    obtain ⟨_, y0, y1, y2, y3, y4, y5⟩ := tB
    clear tC
    simp only [World.size_alloc, Fares.tapA, Fares.tapB] at x0 x1 x2 x3 x4 x5 y0 y1 y2 y3 y4 y5
    go_wp2_with fail
    clear x0 x1 x2 x3 x4 x5 y0 y1 y2 y3 y4 y5
    have hR1 : OwnTaps ((((w4.alloc (.cells #[.int .i64 1, .int .i64 1, .int .i64 5, .int .i64 500, .int .i64 2, .bool false] 36)).alloc (.cells #[.int .i64 2, .int .i64 2, .int .i64 5, .int .i64 (501 + r), .int .i64 3, .bool true] 36)).alloc (.cells #[.int .i64 2, .int .i64 2, .int .i64 5, .int .i64 681, .int .i64 3, .bool true] 36)).alloc (.cells #[.int .i64 1, .int .i64 1, .int .i64 5, .int .i64 500, .int .i64 2, .bool false, .int .i64 2, .int .i64 2, .int .i64 5, .int .i64 (501 + r), .int .i64 3, .bool true] 36)) 0 (.slice (some ⟨(((w4.alloc (.cells #[.int .i64 1, .int .i64 1, .int .i64 5, .int .i64 500, .int .i64 2, .bool false] 36)).alloc (.cells #[.int .i64 2, .int .i64 2, .int .i64 5, .int .i64 (501 + r), .int .i64 3, .bool true] 36)).alloc (.cells #[.int .i64 2, .int .i64 2, .int .i64 5, .int .i64 681, .int .i64 3, .bool true] 36)).heap.size, 0, none⟩) 2 2) [Fares.tapA, Fares.tapB (501 + r)] := World.ownsRow_lit (base := 0) (((w4.alloc (.cells #[.int .i64 1, .int .i64 1, .int .i64 5, .int .i64 500, .int .i64 2, .bool false] 36)).alloc (.cells #[.int .i64 2, .int .i64 2, .int .i64 5, .int .i64 (501 + r), .int .i64 3, .bool true] 36)).alloc (.cells #[.int .i64 2, .int .i64 2, .int .i64 5, .int .i64 681, .int .i64 3, .bool true] 36)) #[.int .i64 1, .int .i64 1, .int .i64 5, .int .i64 500, .int .i64 2, .bool false, .int .i64 2, .int .i64 2, .int .i64 5, .int .i64 (501 + r), .int .i64 3, .bool true] 2 (Nat.zero_le _) (by unfold maxLen; omega) rfl
    obtain ⟨_, _, eR1, _, _, hrR1⟩ := OwnTaps.form hR1
    injection eR1 with eR11 eR12 eR13
    subst eR11 eR13
    clear hR1 eR12
    simp only [World.size_alloc] at hrR1
    refine (implJourneysOf_any (some ⟨w4.heap.size + 1 + 1 + 1, 0, none⟩) 2 2 [Fares.tapA, Fares.tapB (501 + r)] 5 _ (by simpa only [World.size_alloc] using hrR1) rfl (by omega) (by omega)).mono ?_
    rw [HP1.out]
    rintro e w5 ⟨v, rfl, ho, hbx⟩
    have hx5 : Below w4.heap.size w4 w5 := bT (bA (bA (bA (bA (Below.refl _ _) _) _) _) _) hbx
    obtain ⟨AP, cP, rfl, lP1, lP2, hr⟩ := OwnJourneys.form ho
    have oP := OwnJourneys.nilOk ho
    clear ho
    have Hn5 := Lib.hid hr; clear hr
    skip
    have hc5 : Below w.heap.size w w5 := bT hc4 hx5
    have HkL5 := Lib.hid (readsOver HkL4.out hx5)
    clear HkL4
    have HkO5 := Lib.hid (readsOver HkO4.out hx5)
    clear HkO4
    have HkW5 := Lib.hid (readsOver HkW4.out hx5)
    clear HkW4
    clear hx5
    unfold maxLen at lP2
    have TA := HTA.out.below hbx HTA.out.1
    have TB := HTB.out.below hbx HTB.out.1
    have TC := HTC.out.below hbx HTC.out.1
    clear hbx
    simp only [World.size_alloc] at TA TB TC
    have HTA2 := Lib.hid (TA.below (bA (Below.refl _ _) (.cells #[.int .i64 1, .int .i64 1, .int .i64 5, .int .i64 500, .int .i64 2, .bool false, .int .i64 2, .int .i64 2, .int .i64 5, .int .i64 681, .int .i64 3, .bool true] 36)) TA.1)
    have HTB2 := Lib.hid (TB.below (bA (Below.refl _ _) (.cells #[.int .i64 1, .int .i64 1, .int .i64 5, .int .i64 500, .int .i64 2, .bool false, .int .i64 2, .int .i64 2, .int .i64 5, .int .i64 681, .int .i64 3, .bool true] 36)) TB.1)
    obtain ⟨_, x0, x1, x2, x3, x4, x5⟩ := TA
    obtain ⟨_, z0, z1, z2, z3, z4, z5⟩ := TC
    clear TB
    simp only [Fares.tapA, Fares.tapB] at x0 x1 x2 x3 x4 x5 z0 z1 z2 z3 z4 z5
    go_wp2_with fail
    clear x0 x1 x2 x3 x4 x5 z0 z1 z2 z3 z4 z5
    have hR2 : OwnTaps (w5.alloc (.cells #[.int .i64 1, .int .i64 1, .int .i64 5, .int .i64 500, .int .i64 2, .bool false, .int .i64 2, .int .i64 2, .int .i64 5, .int .i64 681, .int .i64 3, .bool true] 36)) 0 (.slice (some ⟨w5.heap.size, 0, none⟩) 2 2) [Fares.tapA, Fares.tapB 681] := World.ownsRow_lit (base := 0) w5 #[.int .i64 1, .int .i64 1, .int .i64 5, .int .i64 500, .int .i64 2, .bool false, .int .i64 2, .int .i64 2, .int .i64 5, .int .i64 681, .int .i64 3, .bool true] 2 (Nat.zero_le _) (by unfold maxLen; omega) rfl
    obtain ⟨_, _, eR2, _, _, hrR2⟩ := OwnTaps.form hR2
    injection eR2 with eR21 eR22 eR23
    subst eR21 eR23
    clear hR2 eR22
    simp only [World.size_alloc] at hrR2
    refine (implJourneysOf_any (some ⟨w5.heap.size, 0, none⟩) 2 2 [Fares.tapA, Fares.tapB 681] 5 _ (by simpa only [World.size_alloc] using hrR2) rfl (by omega) (by omega)).mono ?_
    rw [HP2.out]
    rintro e w6 ⟨v, rfl, ho, hbx⟩
    have hx6 : Below w5.heap.size w5 w6 := bT (bA (Below.refl _ _) _) hbx
    obtain ⟨AQ, cQ, rfl, lQ1, lQ2, hr⟩ := OwnJourneys.form ho
    have oQ := OwnJourneys.nilOk ho
    clear ho
    have Hn6 := Lib.hid hr; clear hr
    skip
    have hc6 : Below w.heap.size w w6 := bT hc5 hx6
    have HkL6 := Lib.hid (readsOver HkL5.out hx6)
    clear HkL5
    have HkO6 := Lib.hid (readsOver HkO5.out hx6)
    clear HkO5
    have HkW6 := Lib.hid (readsOver HkW5.out hx6)
    clear HkW5
    have HkP6 := Lib.hid (readsOver Hn5.out hx6)
    clear Hn5
    clear hx6
    unfold maxLen at lQ2
    have TA := HTA2.out.below hbx HTA2.out.1
    have TB := HTB2.out.below hbx HTB2.out.1
    clear hbx
    obtain ⟨_, _, _, _, x3, _, _⟩ := TA
    obtain ⟨_, _, _, _, y3, _, _⟩ := TB
    simp only [Fares.tapA, Fares.tapB] at x3 y3
    go_wp2_with fail
    clear x3 y3
    have hR3 : OwnJourneys (w6.alloc (.cells #[.int .i64 2, .int .i64 3, .int .i64 500, .int .i64 (501 + r), .bool true] 31)) 0 (.slice (some ⟨w6.heap.size, 0, none⟩) 1 1) [⟨2, 3, 500, 501 + r, true⟩] := World.ownsRow_lit (base := 0) w6 #[.int .i64 2, .int .i64 3, .int .i64 500, .int .i64 (501 + r), .bool true] 1 (Nat.zero_le _) (by unfold maxLen; omega) rfl
    obtain ⟨_, _, eR3, _, _, hrR3⟩ := OwnJourneys.form hR3
    injection eR3 with eR31 eR32 eR33
    subst eR31 eR33
    clear hR3 eR32
    simp only [World.size_alloc] at hrR3
    obtain ⟨bq, oq, eQ, hbq, hrq⟩ := Journeys.row Hn6.out (by simp)
    obtain ⟨_, _, _, _, q0⟩ := hrq 0 _ rfl
    obtain ⟨_, _, _, _, q1⟩ := hrq 1 _ rfl
    clear hrq
    subst eQ
    refine (equalJourneys_any AP (some ⟨w6.heap.size, 0, none⟩) 1 1 cP 1 [⟨2, 3, 500, 501 + r, true⟩] [⟨2, 3, 500, 501 + r, true⟩] _ (readsOver HkP6.out (bA (Below.refl _ _) _)) (by simpa only [World.size_alloc] using hrR3) rfl rfl (by omega) (by omega)).mono ?_
    rw [decide_eq_true rfl]
    rintro e w7 ⟨rfl, hbx⟩
    have hx7 : Below w6.heap.size w6 w7 := bT (bA (Below.refl _ _) _) hbx
    clear hbx
    replace q0 := (hx7.cell (p := ⟨bq, _, none⟩) hbq).trans q0
    replace q1 := (hx7.cell (p := ⟨bq, _, none⟩) hbq).trans q1
    have hc7 : Below w.heap.size w w7 := bT hc6 hx7
    have HkL7 := Lib.hid (readsOver HkL6.out hx7)
    clear HkL6
    have HkO7 := Lib.hid (readsOver HkO6.out hx7)
    clear HkO6
    have HkW7 := Lib.hid (readsOver HkW6.out hx7)
    clear HkW6
    have HkP7 := Lib.hid (readsOver HkP6.out hx7)
    clear HkP6
    have HkQ7 := Lib.hid (readsOver Hn6.out hx7)
    clear Hn6
    clear hx7
    dsimp only [List.length] at lQ1
    simp only [Nat.zero_mul, Nat.one_mul, Nat.add_zero] at q0 q1
    go_wp2
    all_goals first | (go_ret; exact ⟨ret_bool (by first | rfl | (simp; done) | (simp; omega) | omega), hc7⟩) | (exfalso; omega)

set_option maxRecDepth 100000 in
theorem lifted (os : Os) (started : os.Started) (H : Type) (enc : TypeId × Value → H) :
    ReturnsInHanded {} Try.checked os 6 .any (Rows.fnJourneysOfPairSpec.pre6 enc Try.prog Try.f6 Rows.fnJourneysOfPairRow.domain false) (Rows.fnJourneysOfPairSpec.post enc Try.prog Try.f6 false true false false) := by
  refine returnsInHanded_of_change (C := Try.checked) Cells.own started (by kernel_rfl) Try.func6
    (ChangeSpec.witness6 (enc := enc) (C := Try.checked) false ⟨#[], #[.slice none 0 0], []⟩ 8 (by kernel_rfl) (by kernel_rfl) (by kernel_rfl) (by kernel_rfl)) ?_
  intro W base args ds gs before hval0 hW _ _
  have hval : ∀ (j : Nat) t v, Try.f6.params[j]? = some t → args[j]? = some v → Value.okWide Try.prog W .any base t v := hval0
  have hW' := hW
  obtain ⟨p, q, hA0, hV, rfl, _, _⟩ := hW
  have hA : DataW.TrodAll enc Try.prog W 0 (fun _ => true) true Try.f6.params.toList args.toList ds p := hA0
  rw [Try.params6] at hA hval
  obtain ⟨v0, d0, rfl, rfl, h0⟩ := trodAll_one hA
  obtain ⟨rfl, rfl⟩ := trodVars_none hV
  obtain ⟨a0, len, cap, rfl⟩ := okWide_slice Try.underlying22 (hval 0 22 v0 rfl rfl)
  clear hA0 hval0
  simp only [List.append_nil] at hW'
  obtain ⟨hb, hargs⟩ := opened h0 (fun x hx => by simpa using hW'.lt x hx)
  refine (walk a0 len cap W hb).mono fun e W' ⟨he, hnx⟩ => ?_
  subst he
  exact ⟨_, rfl, _, _, _, [], _, [], hW', trodAll_mk1 (shut_bool Try.underlying4 _), trodAll_mk1 (hargs _ hnx), rfl, hnx.frame _, fun h => by cases h⟩

theorem closed : joinedFacts Try.prog 6 Try.f6 Rows.fnJourneysOfPairSpec Rows.fnJourneysOfPairRow = true := by
  unfold joinedFacts
  rw [Cells.laidOut, Cells.mapsRowed_, Cells.stops, Cells.stopKnobs, Cells.plainKeys, Cells.stopsHeard, Cells.mayEnter, Cells.liftsFinal, Cells.make]
  kernel_rfl

theorem over : Rows.fnJourneysOfPairRow.holds Try.pinned (OpenSpec.ofChange Rows.fnJourneysOfPairSpec) :=
  OpenClaim.holds_of_wide 6 Try.f6 rfl rfl rfl rfl rfl rfl rfl ⟨rfl, rfl, rfl, rfl, rfl⟩ rfl rfl rfl rfl rfl (by kernel_rfl) Try.func6 closed
    (of_decide_eq_true (by kernel_rfl)) (by unfold Func.isWrapper; first | (rw [if_pos (by decide +kernel)]; kernel_rfl) | (rw [if_neg (by decide +kernel)]; exact ⟨rfl, rfl⟩))
    (fun os started H enc _ => lifted os started H enc)

/-- THE STATEMENT -/
theorem proved : Rows.FnJourneysOfPairSaid := over
#print axioms proved
end Go.Proofs.Ytllhjgheffemnaa.fnJourneysOfPair
