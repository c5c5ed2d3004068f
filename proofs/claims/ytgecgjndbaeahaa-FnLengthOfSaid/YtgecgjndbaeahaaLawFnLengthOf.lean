/-
  Lengths add up: at every code, with the legs and the operator drawn from it, the law FnLengthOf returns true and leaves the code as it was. No conditions.
-/
import Derived.Test.YtgecgjndbaeahaaJoinFn
import Derived.Test.YtgecgjndbaeahaaDrawsLeg
import Derived.Test.YtgecgjndbaeahaaSubQuiet
import Derived.Test.YtgecgjndbaeahaaOwnCell
import Derived.Test.YtgecgjndbaeahaaLiftBytes
set_option linter.unusedSimpArgs false
namespace Go.Proofs.Ytgecgjndbaeahaa.fnLengthOf
open Go.ChangeShapes Go.WideShapes Go.ChangeAt Go.RowKit
set_option linter.unusedVariables false

set_option maxRecDepth 100000 in
set_option maxHeartbeats 2000000 in
theorem walk (A : Option Addr) (n c : Nat) (w : World) (h : Bytes w w.heap.size A n c) : Calls Try.prog 7 #[.slice A n c] w (TrueBelow w) := by
  by_cases hn : 1048576 < n
  · go_enter Try.func7, Try.ntmps7
    go_wp2
    go_ret
    exact ⟨rfl, Below.refl _ _⟩
  · go_enter Try.func7, Try.ntmps7
    go_wp2_with fail
    refine (drawLengthOf_any A n c w h).mono ?_
    rintro e w1 ⟨vv, xs, op, rfl, ho, hlen, op0, op1, hc1⟩
    have hcode : n ≤ 1048576 := by omega
    clear h
    obtain ⟨AL, cL, rfl, lL1, lL2, hr⟩ := OwnLegs.form ho
    have oL := OwnLegs.nilOk ho
    clear ho
    have HL1 := Lib.hid hr; clear hr
    unfold maxLen at lL2
    obtain ⟨v, hv⟩ : ∃ v, Fares.lengthOf xs op = v := ⟨_, rfl⟩
    have hr : v = -1 ∨ 0 ≤ v ∧ v ≤ 4000 := hv ▸ Fares.lengthOf_range xs op
    go_wp2_with fail
    refine (implLengthOf_any AL xs.length cL xs op _ (HL1.out) rfl (by omega)).mono ?_
    rw [hv]
    rintro e w2 ⟨rfl, hb2⟩
    have hc2 : Below w.heap.size w w2 := bT hc1 hb2
    have HkL2 := Lib.hid (readsOver HL1.out hb2)
    clear HL1
    clear hb2
    go_wp2_with fail
    refine (specLengthOf_any AL xs.length cL xs op _ (HkL2.out) rfl (by omega)).mono ?_
    rw [hv]
    rintro e w3 ⟨rfl, hb3⟩
    have hc3 : Below w.heap.size w w3 := bT hc2 hb3
    have HkL3 := Lib.hid (readsOver HkL2.out hb3)
    clear HkL2
    clear hb3
    by_cases hp : 0 ≤ v ∧ 2 ≤ xs.length
    · obtain ⟨hp0, hl2⟩ := hp
      obtain ⟨q1, q2, q3, q4, q5⟩ := Fares.length_law hv hp0 hl2
      obtain ⟨x, hx⟩ : ∃ x, Fares.lengthOf (xs.take 1) op = x := ⟨_, rfl⟩
      obtain ⟨y, hy⟩ : ∃ y, Fares.lengthOf (xs.drop 1) op = y := ⟨_, rfl⟩
      rw [hx, hy] at q1
      rw [hx] at q2 q4
      rw [hy] at q3 q5
      obtain ⟨b1, o1, rfl, hb1, hr1⟩ := Legs.row HkL3.out (by omega)
      clear hr1
      have hck : ¬ cL = 1 := by omega
      have Q1 : Hid (∀ wq, Below w3.heap.size w3 wq → Legs wq wq.heap.size (some ⟨b1, o1, none⟩) (xs.take 1)) := fun wq hq => Reads.take_of (readsOver (HkL3.out) hq) 1
      have Q2 : Hid (∀ wq, Below w3.heap.size w3 wq → Legs wq wq.heap.size (some ⟨b1, o1 + 2, none⟩) (xs.drop 1)) := fun wq hq => Reads.drop_at (f := legCells) (s := 2) (fun _ => rfl) (readsOver (HkL3.out) hq) 1 (by omega)
      have HX := Lib.hid hx; clear hx
      have HY := Lib.hid hy; clear hy
      have W1 : IntKind.i64.wrap (x + y) = x + y := IntWalk.i64_in _ (by omega)
      have e9 : (x + y == v) = true := by simpa using q1
      have l1 : (1 : Int) ≤ (xs.length : Int) := by omega
      have l2 : (1 : Int) ≤ (cL : Int) := by omega
      have l3 : ¬ (xs.length : Int) < 2 := by omega
      have t1 : (xs.take 1).length = 1 := by rw [List.length_take]; omega
      have T1 := Lib.hid t1; clear t1
      have T2 := Lib.hid (show (xs.drop 1).length = xs.length - 1 from List.length_drop)
      go_wp2
      refine wp_region_win (B := fun w' => Below w3.heap.size w3 w') (by kernel_rfl) (by kernel_rfl) (bD1 (Below.refl _ _)) ?_
      repeat (go_big_quiet_step (fail))
      go_big_quiet_step ((rename_i x0; refine WIn.calls (v := .int .i64 x) ((implLengthOf_any (some ⟨b1, o1, none⟩) 1 cL (xs.take 1) op _ (Q1.out x0.w x0.h) T1.out (by omega)).mono fun e w' he => ⟨by rw [he.1, HX.out], he.2⟩) (fun w' hb => bT x0.h hb)))
      repeat (go_big_quiet_step (fail))
      go_big_quiet_step ((rename_i x0; refine WIn.calls (v := .int .i64 y) ((implLengthOf_any (some ⟨b1, o1 + 2, none⟩) (xs.length - 1) (cL - 1) (xs.drop 1) op _ (Q2.out x0.w x0.h) T2.out (by omega)).mono fun e w' he => ⟨by rw [he.1, HY.out], he.2⟩) (fun w' hb => bT x0.h hb)))
      repeat (go_big_quiet_step (fail))
      refine wpQuiet_nil ?_
      intro w9 hw'
      obtain ⟨⟨wq, hb9⟩, e8⟩ := hw'
      dsimp only at e8
      subst wq
      go_wp2
      go_ret
      exact ⟨ret_bool (by first | rfl | (simp; done) | (simp; omega)), bT hc3 hb9⟩
    · rcases (show v < 0 ∨ (0 ≤ v ∧ xs.length < 2) by omega) with hneg | ⟨hpos, hsh⟩
      · obtain rfl : v = -1 := by omega
        go_wp2_with fail
        refine (specLengthOf_any AL xs.length cL xs op _ (HkL3.out) rfl (by omega)).mono ?_
        rw [hv]
        rintro e w4 ⟨rfl, hb4⟩
        have hc4 : Below w.heap.size w w4 := bT hc3 hb4
        have HkL4 := Lib.hid (readsOver HkL3.out hb4)
        clear HkL3
        clear hb4
        go_wp2
        all_goals first | (go_ret; exact ⟨ret_bool (by first | rfl | (simp; done) | (simp; omega) | omega), hc4⟩) | (exfalso; omega)
      · have l3 : (xs.length : Int) < 2 := by omega
        go_wp2_with fail
        refine (specLengthOf_any AL xs.length cL xs op _ (HkL3.out) rfl (by omega)).mono ?_
        rw [hv]
        rintro e w4 ⟨rfl, hb4⟩
        have hc4 : Below w.heap.size w w4 := bT hc3 hb4
        have HkL4 := Lib.hid (readsOver HkL3.out hb4)
        clear HkL3
        clear hb4
        go_wp2
        all_goals first | (go_ret; exact ⟨ret_bool (by first | rfl | (simp; done) | (simp; omega) | omega), hc4⟩) | (exfalso; omega)

set_option maxRecDepth 100000 in
theorem lifted (os : Os) (started : os.Started) (H : Type) (enc : TypeId × Value → H) :
    ReturnsInHanded {} Try.checked os 7 .any (Rows.fnLengthOfSpec.pre6 enc Try.prog Try.f7 Rows.fnLengthOfRow.domain false) (Rows.fnLengthOfSpec.post enc Try.prog Try.f7 false true false false) := by
  refine returnsInHanded_of_change (C := Try.checked) Cells.own started (by kernel_rfl) Try.func7
    (ChangeSpec.witness6 (enc := enc) (C := Try.checked) false ⟨#[], #[.slice none 0 0], []⟩ 8 (by kernel_rfl) (by kernel_rfl) (by kernel_rfl) (by kernel_rfl)) ?_
  intro W base args ds gs before hval0 hW _ _
  have hval : ∀ (j : Nat) t v, Try.f7.params[j]? = some t → args[j]? = some v → Value.okWide Try.prog W .any base t v := hval0
  have hW' := hW
  obtain ⟨p, q, hA0, hV, rfl, _, _⟩ := hW
  have hA : DataW.TrodAll enc Try.prog W 0 (fun _ => true) true Try.f7.params.toList args.toList ds p := hA0
  rw [Try.params7] at hA hval
  obtain ⟨v0, d0, rfl, rfl, h0⟩ := trodAll_one hA
  obtain ⟨rfl, rfl⟩ := trodVars_none hV
  obtain ⟨a0, len, cap, rfl⟩ := okWide_slice Try.underlying22 (hval 0 22 v0 rfl rfl)
  clear hA0 hval0
  simp only [List.append_nil] at hW'
  obtain ⟨hb, hargs⟩ := opened h0 (fun x hx => by simpa using hW'.lt x hx)
  refine (walk a0 len cap W hb).mono fun e W' ⟨he, hnx⟩ => ?_
  subst he
  exact ⟨_, rfl, _, _, _, [], _, [], hW', trodAll_mk1 (shut_bool Try.underlying4 _), trodAll_mk1 (hargs _ hnx), rfl, hnx.frame _, fun h => by cases h⟩

theorem closed : joinedFacts Try.prog 7 Try.f7 Rows.fnLengthOfSpec Rows.fnLengthOfRow = true := by
  unfold joinedFacts
  rw [Cells.laidOut, Cells.mapsRowed_, Cells.stops, Cells.stopKnobs, Cells.plainKeys, Cells.stopsHeard, Cells.mayEnter, Cells.liftsFinal, Cells.make]
  kernel_rfl

theorem over : Rows.fnLengthOfRow.holds Try.pinned (OpenSpec.ofChange Rows.fnLengthOfSpec) :=
  OpenClaim.holds_of_wide 7 Try.f7 rfl rfl rfl rfl rfl rfl rfl ⟨rfl, rfl, rfl, rfl, rfl⟩ rfl rfl rfl rfl rfl (by kernel_rfl) Try.func7 closed
    (of_decide_eq_true (by kernel_rfl)) (by unfold Func.isWrapper; first | (rw [if_pos (by decide +kernel)]; kernel_rfl) | (rw [if_neg (by decide +kernel)]; exact ⟨rfl, rfl⟩))
    (fun os started H enc _ => lifted os started H enc)

/-- THE STATEMENT -/
theorem proved : Rows.FnLengthOfSaid := over
#print axioms proved
end Go.Proofs.Ytgecgjndbaeahaa.fnLengthOf
