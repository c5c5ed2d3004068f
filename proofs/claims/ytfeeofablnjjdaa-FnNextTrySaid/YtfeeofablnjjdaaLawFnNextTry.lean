/-
  The next try is the first one: at every code, the law FnNextTry returns true and leaves the code as it was. No conditions.
-/
import Derived.Test.YtfeeofablnjjdaaTryNext
import Derived.Test.YtfeeofablnjjdaaTryLaw
import Derived.Test.YtfeeofablnjjdaaDrawsTries
import Derived.Test.YtfeeofablnjjdaaIsIn
import Derived.Test.YtfeeofablnjjdaaLiftBytes
set_option linter.unusedSimpArgs false
namespace Go.Proofs.Ytfeeofablnjjdaa.fnNextTry
open Go.ChangeShapes Go.WideShapes Go.ChangeAt Go.RowKit
set_option linter.unusedVariables false

set_option maxRecDepth 100000 in
set_option maxHeartbeats 2000000 in
theorem walk (A : Option Addr) (n c : Nat) (w : World) (h : Bytes w w.heap.size A n c) : Calls Try.prog 6 #[.slice A n c] w (TrueBelow w) := by
  by_cases hn : 1048576 < n
  · go_enter Try.func6, Try.ntmps6
    go_wp2
    go_ret
    exact ⟨rfl, Below.refl _ _⟩
  · go_enter Try.func6, Try.ntmps6
    go_wp2_with fail
    refine (drawNextTry_any A n c w h).mono ?_
    rintro e w1 ⟨b, f, m, rfl, b0, b1, f0, f1, m0, m1, hb1⟩
    clear h
    go_wp2_with fail
    refine (implNextTry_any b f m _).mono ?_
    rintro e w2 ⟨rfl, hb2⟩
    have hc2 : Below w.heap.size w w2 := bT hb1 hb2
    go_wp2_with fail
    refine (specNextTry_any b f m _).mono ?_
    rintro e w3 ⟨rfl, hb3⟩
    have hc3 : Below w.heap.size w w3 := bT hc2 hb3
    obtain ⟨v, hv⟩ : ∃ v, Fares.nextTry b f m = v := ⟨_, rfl⟩
    obtain ⟨xs, hX⟩ : ∃ xs, Fares.triesOf b f = xs := ⟨_, rfl⟩
    have hlaw := Fares.next_law b f m
    have hr := Fares.nextTry_range b f m
    have hl : xs.length ≤ 4 := hX ▸ Fares.triesOf_length b f
    rw [hv, hX] at hlaw
    rw [hv] at hr ⊢
    go_wp2_with fail
    refine (implTriesOf_any b f _).mono ?_
    rw [hX]
    rintro e w4 ⟨u, rfl, ho, hb4⟩
    obtain ⟨A1, c1, rfl, hcc1, hcc2, hx4⟩ := ho.form
    clear ho
    have hc4 : Below w.heap.size w w4 := bT hc3 hb4
    clear hb4 hv hX
    rcases hlaw with ⟨rfl, hall⟩ | ⟨hmem, hge, hpos, hleast⟩
    · clear hr
      by_cases h0 : xs.length = 0
      · have z0 : ((xs.length : Int) == 0) = true := by simp [h0]
        go_wp2
        go_ret
        exact ⟨rfl, hc4⟩
      · have z0 : ((xs.length : Int) == 0) = false := by simp [h0]
        obtain ⟨x, hxk⟩ : ∃ x, xs[xs.length - 1]? = some x := ⟨xs[xs.length - 1], List.getElem?_eq_getElem (by omega)⟩
        have hlt := hall x (List.mem_of_getElem? hxk)
        obtain ⟨b1', o1, rfl, hb1', hr1⟩ := Ints.row hx4 (by omega)
        have q0 := hr1 _ x hxk
        have i0 : (0 : Int) ≤ (xs.length : Int) - 1 := by omega
        have i1 : (xs.length : Int) - 1 < (xs.length : Int) := by omega
        have i2 : ((xs.length : Int) - 1).toNat = xs.length - 1 := by omega
        have hx4' := Lib.hid hx4
        clear hx4 hr1 hxk hall
        go_wp2
        go_ret
        exact ⟨rfl, hc4⟩
    · have n0 : ¬ v < 0 := by omega
      have Hm := Lib.hid hmem; clear hmem
      have Hl := Lib.hid hleast; clear hleast
      have Hx := Lib.hid hx4; clear hx4
      go_wp2
      go_loop [8] (fun i => ∃ k : Nat, k ≤ xs.length ∧ i = .int .i64 k) (fun i => xs.length - (intOf i).toNat)
      case atStart => exact ⟨0, Nat.zero_le _, rfl⟩
      case round =>
        obtain ⟨k, hk, rfl⟩ := hrel
        by_cases hlt : k < xs.length
        · obtain ⟨x, hxk⟩ : ∃ x, xs[k]? = some x := ⟨xs[k], List.getElem?_eq_getElem hlt⟩
          have hle := Hl.out x (List.mem_of_getElem? hxk)
          obtain ⟨b1', o1, rfl, hb1', hr1⟩ := Ints.row Hx.out (by omega)
          have q0 := hr1 k x hxk
          clear hr1 hxk
          have i0 : (0 : Int) ≤ (k : Int) := by omega
          have i1 : (k : Int) < (xs.length : Int) := by omega
          by_cases hm : m ≤ x
          · have d1 : ¬ x < v := by have := hle hm; omega
            clear hle
            go_wp2
            go_roundw
            case rel => exact ⟨k + 1, by omega, by go_num⟩
            case measure => simp [intOf]; omega
          · clear hle
            go_wp2
            go_roundw
            case rel => exact ⟨k + 1, by omega, by go_num⟩
            case measure => simp [intOf]; omega
        · have i1 : ¬ (k : Int) < (xs.length : Int) := by omega
          go_wp2_with fail
          refine (isIn_any A1 xs.length c1 xs v _ Hx.out rfl (by omega)).mono ?_
          rw [decide_eq_true Hm.out]
          rintro e w' ⟨rfl, rfl⟩
          go_wp2
          go_ret
          exact ⟨rfl, hc4⟩

set_option maxRecDepth 100000 in
theorem lifted (os : Os) (started : os.Started) (H : Type) (enc : TypeId × Value → H) :
    ReturnsInHanded {} Try.checked os 6 .any (Rows.fnNextTrySpec.pre6 enc Try.prog Try.f6 Rows.fnNextTryRow.domain false) (Rows.fnNextTrySpec.post enc Try.prog Try.f6 false true false false) := by
  refine returnsInHanded_of_change (C := Try.checked) Cells.own started (by kernel_rfl) Try.func6
    (ChangeSpec.witness6 (enc := enc) (C := Try.checked) false ⟨#[], #[.slice none 0 0], []⟩ 8 (by kernel_rfl) (by kernel_rfl) (by kernel_rfl) (by kernel_rfl)) ?_
  intro W base args ds gs before hval0 hW _ _
  have hval : ∀ (j : Nat) t v, Try.f6.params[j]? = some t → args[j]? = some v → Value.okWide Try.prog W .any base t v := hval0
  have hW' := hW
  obtain ⟨p, q, hA0, hV, rfl, _, _⟩ := hW
  have hA : DataW.TrodAll enc Try.prog W 0 (fun _ => true) true Try.f6.params.toList args.toList ds p := hA0
  rw [Try.params6] at hA hval
  obtain ⟨v0, d0, rfl, rfl, h0⟩ := trodAll_one hA
  obtain ⟨rfl, rfl⟩ := trodVars_none hV
  obtain ⟨a0, len, cap, rfl⟩ := okWide_slice Try.underlying22 (hval 0 22 v0 rfl rfl)
  clear hA0 hval0
  simp only [List.append_nil] at hW'
  obtain ⟨hb, hargs⟩ := opened h0 (fun x hx => by simpa using hW'.lt x hx)
  refine (walk a0 len cap W hb).mono fun e W' ⟨he, hnx⟩ => ?_
  subst he
  exact ⟨_, rfl, _, _, _, [], _, [], hW', trodAll_mk1 (shut_bool Try.underlying4 _), trodAll_mk1 (hargs _ hnx), rfl, hnx.frame _, fun h => by cases h⟩

theorem closed : joinedFacts Try.prog 6 Try.f6 Rows.fnNextTrySpec Rows.fnNextTryRow = true := by
  unfold joinedFacts
  rw [Cells.laidOut, Cells.mapsRowed_, Cells.stops, Cells.stopKnobs, Cells.plainKeys, Cells.stopsHeard, Cells.mayEnter, Cells.liftsFinal, Cells.make]
  kernel_rfl

theorem over : Rows.fnNextTryRow.holds Try.pinned (OpenSpec.ofChange Rows.fnNextTrySpec) :=
  OpenClaim.holds_of_wide 6 Try.f6 rfl rfl rfl rfl rfl rfl rfl ⟨rfl, rfl, rfl, rfl, rfl⟩ rfl rfl rfl rfl rfl (by kernel_rfl) Try.func6 closed
    (of_decide_eq_true (by kernel_rfl)) (by unfold Func.isWrapper; first | (rw [if_pos (by decide +kernel)]; kernel_rfl) | (rw [if_neg (by decide +kernel)]; exact ⟨rfl, rfl⟩))
    (fun os started H enc _ => lifted os started H enc)

/-- THE STATEMENT -/
theorem proved : Rows.FnNextTrySaid := over
#print axioms proved
end Go.Proofs.Ytfeeofablnjjdaa.fnNextTry
