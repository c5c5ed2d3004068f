/-
  Later beginnings have later tries: at every code, the law FnTriesOfLater returns true and leaves the code as it was. No conditions.
-/
import Derived.Test.YtfeeofablnjjdaaTryNext
import Derived.Test.YtfeeofablnjjdaaTryLaw
import Derived.Test.YtfeeofablnjjdaaDrawsTries
import Derived.Test.YtfeeofablnjjdaaLiftBytes
set_option linter.unusedSimpArgs false
namespace Go.Proofs.Ytfeeofablnjjdaa.fnTriesOfLater
open Go.ChangeShapes Go.WideShapes Go.ChangeAt Go.RowKit
set_option linter.unusedVariables false

set_option maxRecDepth 100000 in
set_option maxHeartbeats 2000000 in
theorem walk (A : Option Addr) (n c : Nat) (w : World) (h : Bytes w w.heap.size A n c) : Calls Try.prog 5 #[.slice A n c] w (TrueBelow w) := by
  by_cases hn : 1048576 < n
  · go_enter Try.func5, Try.ntmps5
    go_wp2
    go_ret
    exact ⟨rfl, Below.refl _ _⟩
  · go_enter Try.func5, Try.ntmps5
    go_wp2_with fail
    refine (drawTriesOf_any A n c w h).mono ?_
    rintro e w1 ⟨b, f, rfl, b0, b1, f0, f1, hb1⟩
    clear h
    obtain ⟨xs, hX⟩ : ∃ xs, Fares.triesOf b f = xs := ⟨_, rfl⟩
    have hl : xs.length ≤ 4 := hX ▸ Fares.triesOf_length b f
    have hc1 : Below w.heap.size w w1 := hb1
    go_wp2_with fail
    refine (implTriesOf_any b f _).mono ?_
    rw [hX]
    rintro e wA ⟨v, rfl, ho, hbA⟩
    obtain ⟨A1, c1, rfl, hcc1, hcc2, hxA⟩ := ho.form
    clear ho
    have hcA : Below w.heap.size w wA := bT hc1 hbA
    clear hbA
    have HxA := Lib.hid hxA; clear hxA
    go_wp2_with fail
    refine (specTriesOf_any b f _).mono ?_
    rw [hX]
    rintro e wB ⟨v, rfl, ho, hbB⟩
    obtain ⟨A2, c2, rfl, hcd1, hcd2, hxB⟩ := ho.form
    clear ho
    have hcB : Below w.heap.size w wB := bT hcA hbB
    have HyA := Lib.hid ((HxA.out.below hbB (Nat.le_refl _)).more hbB.size)
    clear hbB HxA
    have HxB := Lib.hid hxB; clear hxB
    go_wp2_with fail
    refine (equalInts_any _ _ _ _ _ _ xs xs _ HyA.out HxB.out rfl rfl (by omega) (by omega)).mono ?_
    rw [decide_eq_true (rfl : xs = xs)]
    rintro e wC ⟨rfl, hbC⟩
    have hcC : Below w.heap.size w wC := bT hcB hbC
    have HxC := Lib.hid ((HyA.out.below hbC (Nat.le_refl _)).more hbC.size)
    clear hbC HyA HxB
    by_cases h0 : xs.length = 0 ∨ b = 40319
    · by_cases h1 : xs.length = 0
      · obtain rfl : xs = [] := List.eq_nil_of_length_eq_zero h1
        clear h0 h1
        go_wp2_with fail
        refine (specTriesOf_any b f _).mono ?_
        rw [hX]
        rintro e wD ⟨v, rfl, ho, hbD⟩
        obtain ⟨A3, c3, rfl, hce1, hce2, hxD⟩ := ho.form
        clear ho
        have hcD : Below w.heap.size w wD := bT hcC hbD
        have HyC := Lib.hid ((HxC.out.below hbD (Nat.le_refl _)).more hbD.size)
        clear hbD HxC
        go_wp2_with fail
        refine (equalInts_any _ _ 0 0 _ _ [] [] _ HyC.out hxD rfl rfl (by omega) (by omega)).mono ?_
        rw [decide_eq_true (rfl : ([] : List Int) = [])]
        rintro e wE ⟨rfl, hbE⟩
        go_wp2
        go_ret
        exact ⟨rfl, bT hcD hbE⟩
      · have z1 : ((xs.length : Int) == 0) = false := by simp [h1]
        have z2 : (b == 40319) = true := by simp; omega
        go_wp2_with fail
        refine (specTriesOf_any b f _).mono ?_
        rw [hX]
        rintro e wD ⟨v, rfl, ho, hbD⟩
        obtain ⟨A3, c3, rfl, hce1, hce2, hxD⟩ := ho.form
        clear ho
        have hcD : Below w.heap.size w wD := bT hcC hbD
        have HyC := Lib.hid ((HxC.out.below hbD (Nat.le_refl _)).more hbD.size)
        clear hbD HxC
        go_wp2_with fail
        refine (equalInts_any _ _ _ _ _ _ xs xs _ HyC.out hxD rfl rfl (by omega) (by omega)).mono ?_
        rw [decide_eq_true (rfl : xs = xs)]
        rintro e wE ⟨rfl, hbE⟩
        go_wp2
        go_ret
        exact ⟨rfl, bT hcD hbE⟩
    · have hne : xs.length ≠ 0 := fun e => h0 (.inl e)
      have z1 : ((xs.length : Int) == 0) = false := by simpa using fun e => hne (by rw [e]; rfl)
      have z2 : (b == 40319) = false := by simp; omega
      obtain ⟨L1, L2, L3⟩ := Fares.later_law (b := b) (f := f) (by rw [hX]; intro e; subst e; simp at h0) (by omega)
      rw [hX] at L1 L2 L3
      obtain ⟨ys, hY⟩ : ∃ ys, Fares.triesOf (b + 1) f = ys := ⟨_, rfl⟩
      rw [hY] at L1 L2 L3
      have hin : ∀ x ∈ xs, 0 < x ∧ x ≤ 40319 := fun x hx => Fares.triesOf_in x (hX ▸ hx)
      go_wp2_with fail
      refine (implTriesOf_any (b + 1) f _).mono ?_
      rw [hY]
      rintro e wD ⟨v, rfl, ho, hbD⟩
      obtain ⟨A3, c3, rfl, hce1, hce2, hxD⟩ := ho.form
      clear ho
      have hcD : Below w.heap.size w wD := bT hcC hbD
      have HyC := Lib.hid ((HxC.out.below hbD (Nat.le_refl _)).more hbD.size)
      clear hbD HxC hX hY
      have Hin := Lib.hid hin; clear hin
      have HL := Lib.hid L3; clear L3
      have HxD := Lib.hid hxD; clear hxD
      go_wp2
      clear z1 z2
      go_loopw [7] (fun i wr => ∃ k q : Nat, k ≤ ys.length ∧ i = .int .i64 k ∧ wr = wD.drewN q) (fun i _ => ys.length - (intOf i).toNat)
      case atStart => exact ⟨0, 0, Nat.zero_le _, rfl, rfl⟩
      case round =>
        obtain ⟨k, q, hk, rfl, rfl⟩ := hrel
        by_cases hlt : k < ys.length
        · obtain ⟨y, hyk⟩ : ∃ y, ys[k]? = some y := ⟨ys[k], List.getElem?_eq_getElem hlt⟩
          have hxk := HL.out k y hyk
          obtain ⟨p0, p1⟩ := Hin.out _ (List.mem_of_getElem? hxk)
          obtain ⟨x, Ex⟩ : ∃ x, y - 1 = x := ⟨_, rfl⟩
          rw [Ex] at hxk p0 p1
          obtain rfl : y = x + 1 := by omega
          clear Ex
          obtain ⟨b1', o1, rfl, hb1', hr1⟩ := Ints.row HyC.out (by omega)
          have q0 : (wD.drewN q).cell? ⟨b1', o1 + k, none⟩ = some (.int .i64 x) := hr1 k x hxk
          obtain ⟨b2', o2, rfl, hb2', hr2⟩ := Ints.row HxD.out (by omega)
          have q1 : (wD.drewN q).cell? ⟨b2', o2 + k, none⟩ = some (.int .i64 (x + 1)) := hr2 k _ hyk
          have q0' := hr1 k x hxk
          have q1' := hr2 k _ hyk
          clear hr1 hr2 hxk hyk
          have i0 : (0 : Int) ≤ (k : Int) := by omega
          have i1 : (k : Int) < (ys.length : Int) := by omega
          have i2 : (k : Int) < (xs.length : Int) := by omega
          have d0 : decide ((xs.length : Int) ≤ (k : Int)) = false := by rw [decide_eq_false_iff_not]; omega
          have d0n : decide (xs.length ≤ k) = false := by rw [decide_eq_false_iff_not]; omega
          have d2 : (x + 1 != x + 1) = false := by simp
          go_wp2
          go_quiet (fail)
          go_wp2
          go_roundw
          case rel => exact ⟨k + 1, _, by omega, by go_num, by first | rfl | (rw [World.drewN_drewN])⟩
          case measure => simp [intOf]; omega
        · have i1 : ¬ (k : Int) < (ys.length : Int) := by omega
          have d0 : decide ((ys.length : Int) ≤ (xs.length : Int)) = true := by rw [decide_eq_true_eq]; omega
          have d0n : decide (ys.length ≤ xs.length) = true := by rw [decide_eq_true_eq]; omega
          have d1 : decide ((xs.length : Int) - 1 ≤ (ys.length : Int)) = true := by rw [decide_eq_true_eq]; omega
          go_wp2
          go_ret
          exact ⟨rfl, bD hcD q⟩

set_option maxRecDepth 100000 in
theorem lifted (os : Os) (started : os.Started) (H : Type) (enc : TypeId × Value → H) :
    ReturnsInHanded {} Try.checked os 5 .any (Rows.fnTriesOfLaterSpec.pre6 enc Try.prog Try.f5 Rows.fnTriesOfLaterRow.domain false) (Rows.fnTriesOfLaterSpec.post enc Try.prog Try.f5 false true false false) := by
  refine returnsInHanded_of_change (C := Try.checked) Cells.own started (by kernel_rfl) Try.func5
    (ChangeSpec.witness6 (enc := enc) (C := Try.checked) false ⟨#[], #[.slice none 0 0], []⟩ 8 (by kernel_rfl) (by kernel_rfl) (by kernel_rfl) (by kernel_rfl)) ?_
  intro W base args ds gs before hval0 hW _ _
  have hval : ∀ (j : Nat) t v, Try.f5.params[j]? = some t → args[j]? = some v → Value.okWide Try.prog W .any base t v := hval0
  have hW' := hW
  obtain ⟨p, q, hA0, hV, rfl, _, _⟩ := hW
  have hA : DataW.TrodAll enc Try.prog W 0 (fun _ => true) true Try.f5.params.toList args.toList ds p := hA0
  rw [Try.params5] at hA hval
  obtain ⟨v0, d0, rfl, rfl, h0⟩ := trodAll_one hA
  obtain ⟨rfl, rfl⟩ := trodVars_none hV
  obtain ⟨a0, len, cap, rfl⟩ := okWide_slice Try.underlying22 (hval 0 22 v0 rfl rfl)
  clear hA0 hval0
  simp only [List.append_nil] at hW'
  obtain ⟨hb, hargs⟩ := opened h0 (fun x hx => by simpa using hW'.lt x hx)
  refine (walk a0 len cap W hb).mono fun e W' ⟨he, hnx⟩ => ?_
  subst he
  exact ⟨_, rfl, _, _, _, [], _, [], hW', trodAll_mk1 (shut_bool Try.underlying4 _), trodAll_mk1 (hargs _ hnx), rfl, hnx.frame _, fun h => by cases h⟩

theorem closed : joinedFacts Try.prog 5 Try.f5 Rows.fnTriesOfLaterSpec Rows.fnTriesOfLaterRow = true := by
  unfold joinedFacts
  rw [Cells.laidOut, Cells.mapsRowed_, Cells.stops, Cells.stopKnobs, Cells.plainKeys, Cells.stopsHeard, Cells.mayEnter, Cells.liftsFinal, Cells.make]
  kernel_rfl

theorem over : Rows.fnTriesOfLaterRow.holds Try.pinned (OpenSpec.ofChange Rows.fnTriesOfLaterSpec) :=
  OpenClaim.holds_of_wide 5 Try.f5 rfl rfl rfl rfl rfl rfl rfl ⟨rfl, rfl, rfl, rfl, rfl⟩ rfl rfl rfl rfl rfl (by kernel_rfl) Try.func5 closed
    (of_decide_eq_true (by kernel_rfl)) (by unfold Func.isWrapper; first | (rw [if_pos (by decide +kernel)]; kernel_rfl) | (rw [if_neg (by decide +kernel)]; exact ⟨rfl, rfl⟩))
    (fun os started H enc _ => lifted os started H enc)

/-- THE STATEMENT -/
theorem proved : Rows.FnTriesOfLaterSaid := over
#print axioms proved
end Go.Proofs.Ytfeeofablnjjdaa.fnTriesOfLater
