/-
  Rides are left exactly if the card may ride, and one less behind a ride: at every code, the law FnRidesLeft returns true and leaves the code as it was. No conditions.
-/
import Derived.Test.YtomjnepchffkgaaRiskFn
import Derived.Test.YtomjnepchffkgaaRiskLaw
import Derived.Test.YtomjnepchffkgaaDrawsRisk
import Derived.Test.YtomjnepchffkgaaLiftBytes
set_option linter.unusedSimpArgs false
namespace Go.Proofs.Ytomjnepchffkgaa.fnRidesLeft
open Go.ChangeShapes Go.WideShapes Go.ChangeAt Go.RowKit
set_option linter.unusedVariables false

set_option maxRecDepth 100000 in
set_option maxHeartbeats 2000000 in
theorem walk (A : Option Addr) (n c : Nat) (w : World) (h : Bytes w w.heap.size A n c) : Calls Try.prog 6 #[.slice A n c] w (TrueBelow w) := by
  by_cases hn : 1048576 < n
  · go_enter Try.func6, Try.ntmps6
    go_wp2
    go_ret
    exact ⟨rfl, Below.refl _ _⟩
  · go_enter Try.func6, Try.ntmps6
    go_wp2_with fail
    refine (drawRidesLeft_any A n c w h).mono ?_
    rintro e w1 ⟨o, t, p, rfl, o0, o1, t0, t1, p0, p1, hc1⟩
    have hcode : n ≤ 1048576 := by omega
    clear h
    obtain ⟨v, hv⟩ : ∃ v, Fares.ridesLeft o t p = v := ⟨_, rfl⟩
    have hr : v = -1 ∨ 0 ≤ v ∧ v ≤ 100000 := hv ▸ Fares.ridesLeft_range o t p
    go_wp2_with fail
    refine (implRidesLeft_any o t p _).mono ?_
    rw [hv]
    rintro e w2 ⟨rfl, hb2⟩
    have hc2 : Below w.heap.size w w2 := bT hc1 hb2
    clear hb2
    go_wp2_with fail
    refine (specRidesLeft_any o t p _).mono ?_
    rw [hv]
    rintro e w' ⟨rfl, rfl⟩
    by_cases hp : 0 ≤ v
    · obtain ⟨m, hm⟩ : ∃ m, Fares.mayRide o t p = m := ⟨_, rfl⟩
      obtain ⟨q1, q2, q3, q4⟩ := Fares.left_law hv hp
      rw [hm] at q1 q2
      cases m
      · have qv : decide (0 < v) = false := q1.symm
        have qv' : ¬ 0 < v := of_decide_eq_false qv
        clear q1 q2
        go_wp2_with fail
        refine (implMayRide_any o t p _).mono ?_
        rw [hm]
        rintro e w3 ⟨rfl, hb3⟩
        have hc3 : Below w.heap.size w w3 := bT hc2 hb3
        clear hb3
        go_wp2
        all_goals first | (go_ret; exact ⟨ret_bool (by first | rfl | (simp; done) | (simp; omega) | omega), hc3⟩) | (exfalso; omega)
      · have qv : decide (0 < v) = true := q1.symm
        have qv' : 0 < v := of_decide_eq_true qv
        have Q2 := Lib.hid (q2 rfl); clear q2 q1
        go_wp2_with fail
        refine (implMayRide_any o t p _).mono ?_
        rw [hm]
        rintro e w3 ⟨rfl, hb3⟩
        have hc3 : Below w.heap.size w w3 := bT hc2 hb3
        clear hb3
        go_wp2_with fail
        refine (implRidesLeft_any (o + p) t p _).mono ?_
        rw [Q2.out]
        rintro e w4 ⟨rfl, hb4⟩
        have hc4 : Below w.heap.size w w4 := bT hc3 hb4
        clear hb4
        go_wp2
        all_goals first | (go_ret; exact ⟨ret_bool (by first | rfl | (simp; done) | (simp; omega) | omega), hc4⟩) | (exfalso; omega)
    · obtain rfl : v = -1 := by omega
      go_wp2_with fail
      refine (specRidesLeft_any o t p _).mono ?_
      rw [hv]
      rintro e w' ⟨rfl, rfl⟩
      go_wp2
      all_goals first | (go_ret; exact ⟨ret_bool (by first | rfl | (simp; done) | (simp; omega) | omega), hc2⟩) | (exfalso; omega)

set_option maxRecDepth 100000 in
theorem lifted (os : Os) (started : os.Started) (H : Type) (enc : TypeId × Value → H) :
    ReturnsInHanded {} Try.checked os 6 .any (Rows.fnRidesLeftSpec.pre6 enc Try.prog Try.f6 Rows.fnRidesLeftRow.domain false) (Rows.fnRidesLeftSpec.post enc Try.prog Try.f6 false true false false) := by
  refine returnsInHanded_of_change (C := Try.checked) Cells.own started (by kernel_rfl) Try.func6
    (ChangeSpec.witness6 (enc := enc) (C := Try.checked) false ⟨#[], #[.slice none 0 0], []⟩ 8 (by kernel_rfl) (by kernel_rfl) (by kernel_rfl) (by kernel_rfl)) ?_
  intro W base args ds gs before hval0 hW _ _
  have hval : ∀ (j : Nat) t v, Try.f6.params[j]? = some t → args[j]? = some v → Value.okWide Try.prog W .any base t v := hval0
  have hW' := hW
  obtain ⟨p, q, hA0, hV, rfl, _, _⟩ := hW
  have hA : DataW.TrodAll enc Try.prog W 0 (fun _ => true) true Try.f6.params.toList args.toList ds p := hA0
  rw [Try.params6] at hA hval
  obtain ⟨v0, d0, rfl, rfl, h0⟩ := trodAll_one hA
  obtain ⟨rfl, rfl⟩ := trodVars_none hV
  obtain ⟨a0, len, cap, rfl⟩ := okWide_slice Try.underlying22 (hval 0 22 v0 rfl rfl)
  clear hA0 hval0
  simp only [List.append_nil] at hW'
  obtain ⟨hb, hargs⟩ := opened h0 (fun x hx => by simpa using hW'.lt x hx)
  refine (walk a0 len cap W hb).mono fun e W' ⟨he, hnx⟩ => ?_
  subst he
  exact ⟨_, rfl, _, _, _, [], _, [], hW', trodAll_mk1 (shut_bool Try.underlying4 _), trodAll_mk1 (hargs _ hnx), rfl, hnx.frame _, fun h => by cases h⟩

theorem closed : joinedFacts Try.prog 6 Try.f6 Rows.fnRidesLeftSpec Rows.fnRidesLeftRow = true := by
  unfold joinedFacts
  rw [Cells.laidOut, Cells.mapsRowed_, Cells.stops, Cells.stopKnobs, Cells.plainKeys, Cells.stopsHeard, Cells.mayEnter, Cells.liftsFinal, Cells.make]
  kernel_rfl

theorem over : Rows.fnRidesLeftRow.holds Try.pinned (OpenSpec.ofChange Rows.fnRidesLeftSpec) :=
  OpenClaim.holds_of_wide 6 Try.f6 rfl rfl rfl rfl rfl rfl rfl ⟨rfl, rfl, rfl, rfl, rfl⟩ rfl rfl rfl rfl rfl (by kernel_rfl) Try.func6 closed
    (of_decide_eq_true (by kernel_rfl)) (by unfold Func.isWrapper; first | (rw [if_pos (by decide +kernel)]; kernel_rfl) | (rw [if_neg (by decide +kernel)]; exact ⟨rfl, rfl⟩))
    (fun os started H enc _ => lifted os started H enc)

/-- THE STATEMENT -/
theorem proved : Rows.FnRidesLeftSaid := over
#print axioms proved
end Go.Proofs.Ytomjnepchffkgaa.fnRidesLeft
