/-
  Tries are waits apart: at every code, with the begin and the first number drawn from it, the law FnTriesOf returns true and leaves the code as it was. No conditions.
-/
import Derived.Test.YtfeeofablnjjdaaTryNext
import Derived.Test.YtfeeofablnjjdaaTryLaw
import Derived.Test.YtfeeofablnjjdaaDrawsTries
import Derived.Test.YtfeeofablnjjdaaSubQuiet
import Derived.Test.YtfeeofablnjjdaaLiftBytes
set_option linter.unusedSimpArgs false
namespace Go.Proofs.Ytfeeofablnjjdaa.fnTriesOf
open Go.ChangeShapes Go.WideShapes Go.ChangeAt Go.RowKit
set_option linter.unusedVariables false

set_option maxRecDepth 100000 in
set_option maxHeartbeats 2000000 in
theorem walk (A : Option Addr) (n c : Nat) (w : World) (h : Bytes w w.heap.size A n c) : Calls Try.prog 4 #[.slice A n c] w (TrueBelow w) := by
  by_cases hn : 1048576 < n
  · go_enter Try.func4, Try.ntmps4
    go_wp2
    go_ret
    exact ⟨rfl, Below.refl _ _⟩
  · go_enter Try.func4, Try.ntmps4
    go_wp2_with fail
    refine (drawTriesOf_any A n c w h).mono ?_
    rintro e w1 ⟨b, f, rfl, b0, b1, f0, f1, hb1⟩
    clear h
    obtain ⟨xs, hX⟩ : ∃ xs, Fares.triesOf b f = xs := ⟨_, rfl⟩
    have hl : xs.length ≤ 4 := hX ▸ Fares.triesOf_length b f
    have hc1 : Below w.heap.size w w1 := hb1
    go_wp2_with fail
    refine (implTriesOf_any b f _).mono ?_
    rw [hX]
    rintro e wA ⟨v, rfl, ho, hbA⟩
    obtain ⟨A1, c1, rfl, hcc1, hcc2, hxA⟩ := ho.form
    clear ho
    have hcA : Below w.heap.size w wA := bT hc1 hbA
    clear hbA
    have HxA := Lib.hid hxA; clear hxA
    go_wp2_with fail
    refine (specTriesOf_any b f _).mono ?_
    rw [hX]
    rintro e wB ⟨v, rfl, ho, hbB⟩
    obtain ⟨A2, c2, rfl, hcd1, hcd2, hxB⟩ := ho.form
    clear ho
    have hcB : Below w.heap.size w wB := bT hcA hbB
    have HyA := Lib.hid ((HxA.out.below hbB (Nat.le_refl _)).more hbB.size)
    clear hbB HxA
    have HxB := Lib.hid hxB; clear hxB
    go_wp2_with fail
    refine (equalInts_any _ _ _ _ _ _ xs xs _ HyA.out HxB.out rfl rfl (by omega) (by omega)).mono ?_
    rw [decide_eq_true (rfl : xs = xs)]
    rintro e wC ⟨rfl, hbC⟩
    have hcC : Below w.heap.size w wC := bT hcB hbC
    have HxC := Lib.hid ((HyA.out.below hbC (Nat.le_refl _)).more hbC.size)
    clear hbC HyA HxB
    by_cases h0 : xs.length = 0
    · obtain rfl : xs = [] := List.eq_nil_of_length_eq_zero h0
      go_wp2_with fail
      refine (specTriesOf_any b f _).mono ?_
      rw [hX]
      rintro e wD ⟨v, rfl, ho, hbD⟩
      obtain ⟨A3, c3, rfl, hce1, hce2, hxD⟩ := ho.form
      clear ho
      have hcD : Below w.heap.size w wD := bT hcC hbD
      have HyC := Lib.hid ((HxC.out.below hbD (Nat.le_refl _)).more hbD.size)
      clear hbD HxC
      go_wp2_with fail
      refine (equalInts_any _ _ 0 0 _ _ [] [] _ HyC.out hxD rfl rfl (by omega) (by omega)).mono ?_
      rw [decide_eq_true (rfl : ([] : List Int) = [])]
      rintro e wE ⟨rfl, hbE⟩
      go_wp2
      go_ret
      exact ⟨rfl, bT hcD hbE⟩
    · have z0 : ((xs.length : Int) == 0) = false := by simp [h0]
      have HX := Lib.hid hX; clear hX
      go_wp2
      clear z0
      go_loopw [7, 6] (fun i a wr => ∃ k : Nat, k ≤ xs.length ∧ i = .int .i64 k ∧ a = .int .i64 (Fares.behind b f k) ∧ Below w.heap.size w wr ∧ Below wC.heap.size wC wr) (fun i _ _ => xs.length - (intOf i).toNat)
      case atStart => exact ⟨0, Nat.zero_le _, rfl, rfl, hcC, Below.refl _ _⟩
      case round =>
        obtain ⟨k, hk, rfl, rfl, hB, hC⟩ := hrel
        by_cases hlt : k < xs.length
        · obtain ⟨x, hxk⟩ : ∃ x, xs[k]? = some x := ⟨xs[k], List.getElem?_eq_getElem hlt⟩
          obtain ⟨⟨g0, g1, g2, g3⟩, g4, g5⟩ := Fares.triesOf_get (b := b) (f := f) (k := k) (x := x) (by rw [HX.out]; exact hxk)
          have gp := (Fares.triesOf_in x (b := b) (f := f) (by rw [HX.out]; exact List.mem_of_getElem? hxk)).1
          obtain ⟨n0, n1⟩ := Fares.waitN_in g0 g1 k
          have hv := Fares.waitBefore_at g0 g1 g2
          have Hg5 := Lib.hid g5; clear g5
          obtain ⟨s, Es⟩ : ∃ s, Fares.behind b f k = s := ⟨_, rfl⟩
          obtain ⟨m, Em⟩ : ∃ m, Fares.waitN f k = m := ⟨_, rfl⟩
          rw [Es, Em] at g4
          rw [Em] at n0 n1 hv
          rw [Es]
          have HV := Lib.hid hv; clear hv
          obtain ⟨b1', o1, rfl, hb1', hr1⟩ := Ints.row (HxC.out.below hC (Nat.le_refl _)) (by omega)
          have q0 := hr1 k x hxk
          have HXK := Lib.hid hxk
          clear hr1 hxk Es Em
          have hgt : b1' < wr.heap.size := Nat.lt_of_lt_of_le hb1' hC.size
          have m0 := fun x0 : WIn (fun w' => Below wr.heap.size wr w') => x0.cell q0 hgt
          clear hgt
          have i0 : (0 : Int) ≤ (k : Int) := by omega
          have i1 : (k : Int) < (xs.length : Int) := by omega
          have d0 : (x != s + m) = false := by simp [g4]
          have d1 : decide (40319 < x) = false := by rw [decide_eq_false_iff_not]; omega
          have s0 : -2000 ≤ s := by omega
          have s1 : s ≤ 50000 := by omega
          clear g4
          go_wp2
          clear q0
          refine wp_region_win (B := fun w' => Below wr.heap.size wr w') (by kernel_rfl) (by kernel_rfl) (bD1 (Below.refl _ _)) ?_
          repeat (go_big_quiet_step ((rename_i x0; refine WIn.calls (v := .int .i64 m) ((implWaitBefore_any f ((k : Int) + 1) _).mono fun e w' he => ⟨by rw [he.1, HV.out], he.2⟩) (fun w' hb => bT x0.h hb))))
          refine wpQuiet_nil ?_
          intro w5 hw'
          obtain ⟨⟨wq, hb5⟩, e1⟩ := hw'
          dsimp only at e1
          subst wq
          clear m0
          have hB5 : Below w.heap.size w w5 := bT hB hb5
          have hC5 : Below wC.heap.size wC w5 := bT hC hb5
          have q5 : w5.cell? ⟨b1', o1 + k, none⟩ = some (.int .i64 x) := by
            obtain ⟨bq, oq, eq, _, hr⟩ := Ints.row (HxC.out.below hC5 (Nat.le_refl _)) (by omega)
            injection eq with eq
            injection eq with e1 e2
            subst e1 e2
            exact hr k x HXK.out
          go_wp2
          go_roundw
          case rel => exact ⟨k + 1, by omega, by go_num, by rw [Hg5.out], hB5, hC5⟩
          case measure => simp [intOf]; omega
        · have i1 : ¬ (k : Int) < (xs.length : Int) := by omega
          go_wp2
          go_ret
          exact ⟨ret_bool (by simp; omega), hB⟩

set_option maxRecDepth 100000 in
theorem lifted (os : Os) (started : os.Started) (H : Type) (enc : TypeId × Value → H) :
    ReturnsInHanded {} Try.checked os 4 .any (Rows.fnTriesOfSpec.pre6 enc Try.prog Try.f4 Rows.fnTriesOfRow.domain false) (Rows.fnTriesOfSpec.post enc Try.prog Try.f4 false true false false) := by
  refine returnsInHanded_of_change (C := Try.checked) Cells.own started (by kernel_rfl) Try.func4
    (ChangeSpec.witness6 (enc := enc) (C := Try.checked) false ⟨#[], #[.slice none 0 0], []⟩ 8 (by kernel_rfl) (by kernel_rfl) (by kernel_rfl) (by kernel_rfl)) ?_
  intro W base args ds gs before hval0 hW _ _
  have hval : ∀ (j : Nat) t v, Try.f4.params[j]? = some t → args[j]? = some v → Value.okWide Try.prog W .any base t v := hval0
  have hW' := hW
  obtain ⟨p, q, hA0, hV, rfl, _, _⟩ := hW
  have hA : DataW.TrodAll enc Try.prog W 0 (fun _ => true) true Try.f4.params.toList args.toList ds p := hA0
  rw [Try.params4] at hA hval
  obtain ⟨v0, d0, rfl, rfl, h0⟩ := trodAll_one hA
  obtain ⟨rfl, rfl⟩ := trodVars_none hV
  obtain ⟨a0, len, cap, rfl⟩ := okWide_slice Try.underlying22 (hval 0 22 v0 rfl rfl)
  clear hA0 hval0
  simp only [List.append_nil] at hW'
  obtain ⟨hb, hargs⟩ := opened h0 (fun x hx => by simpa using hW'.lt x hx)
  refine (walk a0 len cap W hb).mono fun e W' ⟨he, hnx⟩ => ?_
  subst he
  exact ⟨_, rfl, _, _, _, [], _, [], hW', trodAll_mk1 (shut_bool Try.underlying4 _), trodAll_mk1 (hargs _ hnx), rfl, hnx.frame _, fun h => by cases h⟩

theorem closed : joinedFacts Try.prog 4 Try.f4 Rows.fnTriesOfSpec Rows.fnTriesOfRow = true := by
  unfold joinedFacts
  rw [Cells.laidOut, Cells.mapsRowed_, Cells.stops, Cells.stopKnobs, Cells.plainKeys, Cells.stopsHeard, Cells.mayEnter, Cells.liftsFinal, Cells.make]
  kernel_rfl

theorem over : Rows.fnTriesOfRow.holds Try.pinned (OpenSpec.ofChange Rows.fnTriesOfSpec) :=
  OpenClaim.holds_of_wide 4 Try.f4 rfl rfl rfl rfl rfl rfl rfl ⟨rfl, rfl, rfl, rfl, rfl⟩ rfl rfl rfl rfl rfl (by kernel_rfl) Try.func4 closed
    (of_decide_eq_true (by kernel_rfl)) (by unfold Func.isWrapper; first | (rw [if_pos (by decide +kernel)]; kernel_rfl) | (rw [if_neg (by decide +kernel)]; exact ⟨rfl, rfl⟩))
    (fun os started H enc _ => lifted os started H enc)

/-- THE STATEMENT -/
theorem proved : Rows.FnTriesOfSaid := over
#print axioms proved
end Go.Proofs.Ytfeeofablnjjdaa.fnTriesOf
