/-
  Who may ride may ride with less owed, with more trust and for less: at every code, the law FnMayRide returns true and leaves the code as it was. No conditions.
-/
import Derived.Test.YtomjnepchffkgaaRiskFn
import Derived.Test.YtomjnepchffkgaaRiskLaw
import Derived.Test.YtomjnepchffkgaaDrawsRisk
import Derived.Test.YtomjnepchffkgaaLiftBytes
set_option linter.unusedSimpArgs false
namespace Go.Proofs.Ytomjnepchffkgaa.fnMayRide
open Go.ChangeShapes Go.WideShapes Go.ChangeAt Go.RowKit
set_option linter.unusedVariables false

set_option maxRecDepth 100000 in
set_option maxHeartbeats 2000000 in
theorem walk (A : Option Addr) (n c : Nat) (w : World) (h : Bytes w w.heap.size A n c) : Calls Try.prog 5 #[.slice A n c] w (TrueBelow w) := by
  by_cases hn : 1048576 < n
  · go_enter Try.func5, Try.ntmps5
    go_wp2
    go_ret
    exact ⟨rfl, Below.refl _ _⟩
  · go_enter Try.func5, Try.ntmps5
    go_wp2_with fail
    refine (drawMayRide_any A n c w h).mono ?_
    rintro e w1 ⟨o, t, p, rfl, o0, o1, t0, t1, p0, p1, hc1⟩
    have hcode : n ≤ 1048576 := by omega
    clear h
    obtain ⟨v, hv⟩ : ∃ v, Fares.mayRide o t p = v := ⟨_, rfl⟩
    cases v
    · go_wp2_with fail
      refine (implMayRide_any o t p _).mono ?_
      rw [hv]
      rintro e w2 ⟨rfl, hb2⟩
      have hc2 : Below w.heap.size w w2 := bT hc1 hb2
      clear hb2
      go_wp2_with fail
      refine (specMayRide_any o t p _).mono ?_
      rw [hv]
      rintro e w' ⟨rfl, rfl⟩
      go_wp2_with fail
      refine (specMayRide_any o t p _).mono ?_
      rw [hv]
      rintro e w' ⟨rfl, rfl⟩
      go_wp2
      all_goals first | (go_ret; exact ⟨ret_bool (by first | rfl | (simp; done) | (simp; omega) | omega), hc2⟩) | (exfalso; omega)
    · obtain ⟨q0, q1, q2, q3, q4, q5, q6, q7, q8, q9⟩ := Fares.may_law hv
      have HV := Lib.hid hv; clear hv
      have Q7 := Lib.hid q7; clear q7
      have Q8 := Lib.hid q8; clear q8
      have Q9 := Lib.hid q9; clear q9
      obtain ⟨t', Et⟩ : ∃ t', (if (100000 : Int) < t + 1 then 100000 else t + 1) = t' := ⟨_, rfl⟩
      rw [Et] at Q8
      go_wp2_with fail
      refine (implMayRide_any o t p _).mono ?_
      rw [HV.out]
      rintro e w2 ⟨rfl, hb2⟩
      have hc2 : Below w.heap.size w w2 := bT hc1 hb2
      clear hb2
      go_wp2_with fail
      refine (specMayRide_any o t p _).mono ?_
      rw [HV.out]
      rintro e w' ⟨rfl, rfl⟩
      go_wp2_with fail
      refine (implMayRide_any (o / 2) t p _).mono ?_
      rw [Q7.out]
      rintro e w3 ⟨rfl, hb3⟩
      have hc3 : Below w.heap.size w w3 := bT hc2 hb3
      clear hb3
      go_wp2_with fail
      refine (implMayRide_any o t' p _).mono ?_
      rw [Q8.out]
      rintro e w4 ⟨rfl, hb4⟩
      have hc4 : Below w.heap.size w w4 := bT hc3 hb4
      clear hb4
      go_wp2_with fail
      refine (implMayRide_any o t (p / 2) _).mono ?_
      rw [Q9.out]
      rintro e w5 ⟨rfl, hb5⟩
      have hc5 : Below w.heap.size w w5 := bT hc4 hb5
      clear hb5
      go_wp2
      all_goals first | (go_ret; exact ⟨ret_bool (by first | rfl | (simp; done) | (simp; omega) | omega), hc5⟩) | (exfalso; omega)

set_option maxRecDepth 100000 in
theorem lifted (os : Os) (started : os.Started) (H : Type) (enc : TypeId × Value → H) :
    ReturnsInHanded {} Try.checked os 5 .any (Rows.fnMayRideSpec.pre6 enc Try.prog Try.f5 Rows.fnMayRideRow.domain false) (Rows.fnMayRideSpec.post enc Try.prog Try.f5 false true false false) := by
  refine returnsInHanded_of_change (C := Try.checked) Cells.own started (by kernel_rfl) Try.func5
    (ChangeSpec.witness6 (enc := enc) (C := Try.checked) false ⟨#[], #[.slice none 0 0], []⟩ 8 (by kernel_rfl) (by kernel_rfl) (by kernel_rfl) (by kernel_rfl)) ?_
  intro W base args ds gs before hval0 hW _ _
  have hval : ∀ (j : Nat) t v, Try.f5.params[j]? = some t → args[j]? = some v → Value.okWide Try.prog W .any base t v := hval0
  have hW' := hW
  obtain ⟨p, q, hA0, hV, rfl, _, _⟩ := hW
  have hA : DataW.TrodAll enc Try.prog W 0 (fun _ => true) true Try.f5.params.toList args.toList ds p := hA0
  rw [Try.params5] at hA hval
  obtain ⟨v0, d0, rfl, rfl, h0⟩ := trodAll_one hA
  obtain ⟨rfl, rfl⟩ := trodVars_none hV
  obtain ⟨a0, len, cap, rfl⟩ := okWide_slice Try.underlying22 (hval 0 22 v0 rfl rfl)
  clear hA0 hval0
  simp only [List.append_nil] at hW'
  obtain ⟨hb, hargs⟩ := opened h0 (fun x hx => by simpa using hW'.lt x hx)
  refine (walk a0 len cap W hb).mono fun e W' ⟨he, hnx⟩ => ?_
  subst he
  exact ⟨_, rfl, _, _, _, [], _, [], hW', trodAll_mk1 (shut_bool Try.underlying4 _), trodAll_mk1 (hargs _ hnx), rfl, hnx.frame _, fun h => by cases h⟩

theorem closed : joinedFacts Try.prog 5 Try.f5 Rows.fnMayRideSpec Rows.fnMayRideRow = true := by
  unfold joinedFacts
  rw [Cells.laidOut, Cells.mapsRowed_, Cells.stops, Cells.stopKnobs, Cells.plainKeys, Cells.stopsHeard, Cells.mayEnter, Cells.liftsFinal, Cells.make]
  kernel_rfl

theorem over : Rows.fnMayRideRow.holds Try.pinned (OpenSpec.ofChange Rows.fnMayRideSpec) :=
  OpenClaim.holds_of_wide 5 Try.f5 rfl rfl rfl rfl rfl rfl rfl ⟨rfl, rfl, rfl, rfl, rfl⟩ rfl rfl rfl rfl rfl (by kernel_rfl) Try.func5 closed
    (of_decide_eq_true (by kernel_rfl)) (by unfold Func.isWrapper; first | (rw [if_pos (by decide +kernel)]; kernel_rfl) | (rw [if_neg (by decide +kernel)]; exact ⟨rfl, rfl⟩))
    (fun os started H enc _ => lifted os started H enc)

/-- THE STATEMENT -/
theorem proved : Rows.FnMayRideSaid := over
#print axioms proved
end Go.Proofs.Ytomjnepchffkgaa.fnMayRide
