/-
  More trust at first is not less later: at every code, the law FnTrustOfFirst returns true and leaves the code as it was. No conditions.
-/
import Derived.Test.YtomjnepchffkgaaRiskFn
import Derived.Test.YtomjnepchffkgaaRiskLaw
import Derived.Test.YtomjnepchffkgaaDrawsRisk
import Derived.Test.YtomjnepchffkgaaLiftBytes
set_option linter.unusedSimpArgs false
namespace Go.Proofs.Ytomjnepchffkgaa.fnTrustOfFirst
open Go.ChangeShapes Go.WideShapes Go.ChangeAt Go.RowKit
set_option linter.unusedVariables false

set_option maxRecDepth 100000 in
set_option maxHeartbeats 2000000 in
theorem walk (A : Option Addr) (n c : Nat) (w : World) (h : Bytes w w.heap.size A n c) : Calls Try.prog 4 #[.slice A n c] w (TrueBelow w) := by
  by_cases hn : 1048576 < n
  · go_enter Try.func4, Try.ntmps4
    go_wp2
    go_ret
    exact ⟨rfl, Below.refl _ _⟩
  · go_enter Try.func4, Try.ntmps4
    go_wp2_with fail
    refine (drawTrustOf_any A n c w h).mono ?_
    rintro e w1 ⟨vv, xs, f, t, rfl, ho, hlen, f0, f1, t0, t1, hc1⟩
    have hcode : n ≤ 1048576 := by omega
    clear h
    obtain ⟨AL, cL, rfl, lL1, lL2, hr⟩ := ho.form
    have oL := ho.nilOk
    clear ho
    have HL1 := Lib.hid hr; clear hr
    unfold maxLen at lL2
    obtain ⟨v, hv⟩ : ∃ v, Fares.trustOf xs f t = v := ⟨_, rfl⟩
    have hr : v = -1 ∨ (0 ≤ v ∧ v ≤ 5000) := hv ▸ Fares.trustOf_range xs f t
    go_wp2_with fail
    refine (implTrustOf_any AL xs.length cL xs f t _ (HL1.out) rfl (by omega)).mono ?_
    rw [hv]
    rintro e w2 ⟨rfl, hb2⟩
    have hc2 : Below w.heap.size w w2 := bT hc1 hb2
    have HkL2 := Lib.hid (readsOver HL1.out hb2)
    clear HL1
    clear hb2
    go_wp2_with fail
    refine (specTrustOf_any AL xs.length cL xs f t _ (HkL2.out) rfl (by omega)).mono ?_
    rw [hv]
    rintro e w3 ⟨rfl, hb3⟩
    have hc3 : Below w.heap.size w w3 := bT hc2 hb3
    have HkL3 := Lib.hid (readsOver HkL2.out hb3)
    clear HkL2
    clear hb3
    by_cases hp : 0 ≤ v
    · obtain ⟨q1, q2⟩ := Fares.trust_first hv hp
      obtain ⟨f', Ef⟩ : ∃ f', (if (5000 : Int) < f + 100 then 5000 else f + 100) = f' := ⟨_, rfl⟩
      rw [Ef] at q1
      obtain ⟨v1, hv1⟩ : ∃ v1, Fares.trustOf xs f' t = v1 := ⟨_, rfl⟩
      rw [hv1] at q1
      go_wp2_with fail
      refine (implTrustOf_any AL xs.length cL xs f' t _ (HkL3.out) rfl (by omega)).mono ?_
      rw [hv1]
      rintro e w4 ⟨rfl, hb4⟩
      have hc4 : Below w.heap.size w w4 := bT hc3 hb4
      have HkL4 := Lib.hid (readsOver HkL3.out hb4)
      clear HkL3
      clear hb4
      go_wp2_with fail
      refine (implTrustOf_any none 0 0 [] f t _ (Reads.nil _ _ _) rfl (by omega)).mono ?_
      rw [q2]
      rintro e w5 ⟨rfl, hb5⟩
      have hc5 : Below w.heap.size w w5 := bT hc4 hb5
      have HkL5 := Lib.hid (readsOver HkL4.out hb5)
      clear HkL4
      clear hb5
      go_wp2
      all_goals first | (go_ret; exact ⟨ret_bool (by first | rfl | (simp; done) | (simp; omega) | omega), hc5⟩) | (exfalso; omega)
    · obtain rfl : v = -1 := by omega
      go_wp2_with fail
      refine (specTrustOf_any AL xs.length cL xs f t _ (HkL3.out) rfl (by omega)).mono ?_
      rw [hv]
      rintro e w4 ⟨rfl, hb4⟩
      have hc4 : Below w.heap.size w w4 := bT hc3 hb4
      have HkL4 := Lib.hid (readsOver HkL3.out hb4)
      clear HkL3
      clear hb4
      go_wp2
      all_goals first | (go_ret; exact ⟨ret_bool (by first | rfl | (simp; done) | (simp; omega) | omega), hc4⟩) | (exfalso; omega)

set_option maxRecDepth 100000 in
theorem lifted (os : Os) (started : os.Started) (H : Type) (enc : TypeId × Value → H) :
    ReturnsInHanded {} Try.checked os 4 .any (Rows.fnTrustOfFirstSpec.pre6 enc Try.prog Try.f4 Rows.fnTrustOfFirstRow.domain false) (Rows.fnTrustOfFirstSpec.post enc Try.prog Try.f4 false true false false) := by
  refine returnsInHanded_of_change (C := Try.checked) Cells.own started (by kernel_rfl) Try.func4
    (ChangeSpec.witness6 (enc := enc) (C := Try.checked) false ⟨#[], #[.slice none 0 0], []⟩ 8 (by kernel_rfl) (by kernel_rfl) (by kernel_rfl) (by kernel_rfl)) ?_
  intro W base args ds gs before hval0 hW _ _
  have hval : ∀ (j : Nat) t v, Try.f4.params[j]? = some t → args[j]? = some v → Value.okWide Try.prog W .any base t v := hval0
  have hW' := hW
  obtain ⟨p, q, hA0, hV, rfl, _, _⟩ := hW
  have hA : DataW.TrodAll enc Try.prog W 0 (fun _ => true) true Try.f4.params.toList args.toList ds p := hA0
  rw [Try.params4] at hA hval
  obtain ⟨v0, d0, rfl, rfl, h0⟩ := trodAll_one hA
  obtain ⟨rfl, rfl⟩ := trodVars_none hV
  obtain ⟨a0, len, cap, rfl⟩ := okWide_slice Try.underlying22 (hval 0 22 v0 rfl rfl)
  clear hA0 hval0
  simp only [List.append_nil] at hW'
  obtain ⟨hb, hargs⟩ := opened h0 (fun x hx => by simpa using hW'.lt x hx)
  refine (walk a0 len cap W hb).mono fun e W' ⟨he, hnx⟩ => ?_
  subst he
  exact ⟨_, rfl, _, _, _, [], _, [], hW', trodAll_mk1 (shut_bool Try.underlying4 _), trodAll_mk1 (hargs _ hnx), rfl, hnx.frame _, fun h => by cases h⟩

theorem closed : joinedFacts Try.prog 4 Try.f4 Rows.fnTrustOfFirstSpec Rows.fnTrustOfFirstRow = true := by
  unfold joinedFacts
  rw [Cells.laidOut, Cells.mapsRowed_, Cells.stops, Cells.stopKnobs, Cells.plainKeys, Cells.stopsHeard, Cells.mayEnter, Cells.liftsFinal, Cells.make]
  kernel_rfl

theorem over : Rows.fnTrustOfFirstRow.holds Try.pinned (OpenSpec.ofChange Rows.fnTrustOfFirstSpec) :=
  OpenClaim.holds_of_wide 4 Try.f4 rfl rfl rfl rfl rfl rfl rfl ⟨rfl, rfl, rfl, rfl, rfl⟩ rfl rfl rfl rfl rfl (by kernel_rfl) Try.func4 closed
    (of_decide_eq_true (by kernel_rfl)) (by unfold Func.isWrapper; first | (rw [if_pos (by decide +kernel)]; kernel_rfl) | (rw [if_neg (by decide +kernel)]; exact ⟨rfl, rfl⟩))
    (fun os started H enc _ => lifted os started H enc)

/-- THE STATEMENT -/
theorem proved : Rows.FnTrustOfFirstSaid := over
#print axioms proved
end Go.Proofs.Ytomjnepchffkgaa.fnTrustOfFirst
