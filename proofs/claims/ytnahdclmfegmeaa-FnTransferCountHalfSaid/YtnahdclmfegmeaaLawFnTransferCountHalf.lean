/-
  Halves are no transfers: for every code, with the journeys and the window drawn from it, the law FnTransferCountHalf returns true and leaves the code as it was. No conditions.
-/
import Derived.Test.YtnahdclmfegmeaaDrawsJour
import Derived.Test.YtnahdclmfegmeaaJourSum
import Derived.Test.YtnahdclmfegmeaaJourLaw
import Derived.Test.YtnahdclmfegmeaaLinkLaw
import Derived.Test.YtnahdclmfegmeaaOver2
import Derived.Test.YtnahdclmfegmeaaAppendSrc
import Derived.Test.YtnahdclmfegmeaaLiftBytes
import Derived.Test.YtnahdclmfegmeaaLinkFold
import Derived.Test.YtnahdclmfegmeaaLiftBytes
namespace Go.Proofs.Ytnahdclmfegmeaa.fnTransferCountHalf
open Go.ChangeShapes Go.WideShapes Go.ChangeAt Go.RowKit
set_option linter.unusedVariables false

set_option maxRecDepth 100000 in
set_option maxHeartbeats 2000000 in
theorem walk (A : Option Addr) (n c : Nat) (w : World) (h : Bytes w w.heap.size A n c) : Calls Try.prog 21 #[.slice A n c] w (TrueBelow w) := by
  by_cases hn : 1048576 < n
  · go_enter Try.func21, Try.ntmps21
    go_wp2
    go_ret
    exact ⟨rfl, Below.refl _ _⟩
  · go_enter Try.func21, Try.ntmps21
    have Hh := Lib.hid h; clear h
    go_wp2_with fail
    refine (drawTransferCount_any A n c w Hh.out).mono ?_
    rintro e w1 ⟨v, ys, m1, rfl, hown1, hlen, hsm, m1l, m1h, hb1⟩
    obtain ⟨Av, cv, rfl, hcv1, hcv2, hrs1⟩ := OwnJourneys.form hown1
    unfold maxLen at hcv2
    have HB1 := Lib.hid hb1; clear hb1
    have Hxs1 := Lib.hid hrs1; clear hrs1
    have Hsm := Lib.hid hsm; clear hsm hown1
    obtain ⟨R, hR⟩ : ∃ R, R = Fares.transferCount ys m1 := ⟨_, rfl⟩
    have HR := Lib.hid hR; clear hR
    go_wp2_with fail
    refine (implTransferCount_any Av _ cv ys m1 _ Hxs1.out rfl (by omega)).mono ?_
    rintro e w2 ⟨rfl, hb2⟩
    rw [← HR.out]
    have HB2 := Lib.hid (bT HB1.out hb2)
    clear HB1
    have Hxs2 := Lib.hid (readsOver Hxs1.out hb2)
    clear Hxs1
    clear hb2
    go_wp2_with fail
    refine (specTransferCount_any Av _ cv ys m1 _ Hxs2.out rfl (by omega)).mono ?_
    rintro e w3 ⟨rfl, hb3⟩
    rw [← HR.out]
    have HB3 := Lib.hid (bT HB2.out hb3)
    clear HB2
    have Hxs3 := Lib.hid (readsOver Hxs2.out hb3)
    clear Hxs2
    clear hb3
    by_cases hr : 0 ≤ R
    · obtain ⟨hv, w0, w1, hs⟩ := Fares.transferCount_ok (xs := ys) (w := m1) (by rw [← HR.out]; exact hr)
      have hRs : R = Fares.transferSum ys m1 ys.length := by rw [HR.out]; exact hs
      have hlv := Fares.length_of_valid hv
      obtain ⟨Q, hQ⟩ : ∃ Q, Q = Fares.halfSum ys := ⟨_, rfl⟩
      have hb := Fares.transferSum_bound ys m1
      rw [← hRs, ← hQ] at hb
      have hq := Fares.halfSum_bounds ys
      rw [← hQ] at hq
      have HQ := Lib.hid (show Fares.halfCount ys = Q by rw [hQ]; exact Fares.halfCount_of hv)
      have H1 := Lib.hid (show Fares.transferCount (ys.take 1) m1 = 0 from Fares.transferCount_one hv w0 w1)
      have hrn : decide (R < 0) = false := by rw [decide_eq_false_iff_not]; omega
      clear hQ hs hRs hv
      have Hl1 := Lib.hid (show 0 < ys.length → (ys.take 1).length = 1 by intro h; rw [List.length_take]; omega)
      by_cases hl : ys.length = 0
      · have hl1 : ((ys.length : Int) == 0) = true := by rw [beq_iff_eq]; omega
        have hz : R = 0 := by omega
        have hz1 : (R == 0) = true := by simpa using hz
        have hq1 : decide (Q < (ys.length : Int)) = false := by rw [decide_eq_false_iff_not]; omega
        have Hl := Lib.hid hl; clear hl
        have Hz := Lib.hid hz; clear hz
        go_wp2_with fail
        refine (implHalfCount_any Av _ cv ys _ Hxs3.out rfl (by omega)).mono ?_
        rintro e w4 ⟨rfl, hb4⟩
        rw [HQ.out]
        have HB4 := Lib.hid (bT HB3.out hb4)
        clear HB3
        have Hxs4 := Lib.hid (readsOver Hxs3.out hb4)
        clear Hxs3
        clear hb4
        go_wp2
        go_ret
        exact ⟨rfl, HB4.out⟩
      · have hl1 : ((ys.length : Int) == 0) = false := by rw [beq_eq_false_iff_ne]; omega
        have i1 : (1 : Int) ≤ (cv : Int) := by omega
        by_cases hq2 : Q < (ys.length : Int)
        · have hq1 : decide (Q < (ys.length : Int)) = true := decide_eq_true hq2
          go_wp2_with fail
          refine (implHalfCount_any Av _ cv ys _ Hxs3.out rfl (by omega)).mono ?_
          rintro e w4 ⟨rfl, hb4⟩
          rw [HQ.out]
          have HB4 := Lib.hid (bT HB3.out hb4)
          clear HB3
          have Hxs4 := Lib.hid (readsOver Hxs3.out hb4)
          clear Hxs3
          clear hb4
          go_wp2_with fail
          refine (implTransferCount_any Av 1 cv (ys.take 1) m1 _ (reads_take journeyCells 5 (fun _ => rfl) Hxs4.out 1) (Hl1.out (by omega)) (by omega)).mono ?_
          rintro e w5 ⟨rfl, hb5⟩
          rw [H1.out]
          have HB5 := Lib.hid (bT HB4.out hb5)
          clear HB4
          have Hxs5 := Lib.hid (readsOver Hxs4.out hb5)
          clear Hxs4
          clear hb5
          go_wp2
          go_ret
          exact ⟨rfl, HB5.out⟩
        · have hq1 : decide (Q < (ys.length : Int)) = false := decide_eq_false hq2
          have hz1 : (R == 0) = true := by rw [beq_iff_eq]; omega
          go_wp2_with fail
          refine (implHalfCount_any Av _ cv ys _ Hxs3.out rfl (by omega)).mono ?_
          rintro e w4 ⟨rfl, hb4⟩
          rw [HQ.out]
          have HB4 := Lib.hid (bT HB3.out hb4)
          clear HB3
          have Hxs4 := Lib.hid (readsOver Hxs3.out hb4)
          clear Hxs3
          clear hb4
          go_wp2_with fail
          refine (implTransferCount_any Av 1 cv (ys.take 1) m1 _ (reads_take journeyCells 5 (fun _ => rfl) Hxs4.out 1) (Hl1.out (by omega)) (by omega)).mono ?_
          rintro e w5 ⟨rfl, hb5⟩
          rw [H1.out]
          have HB5 := Lib.hid (bT HB4.out hb5)
          clear HB4
          have Hxs5 := Lib.hid (readsOver Hxs4.out hb5)
          clear Hxs4
          clear hb5
          go_wp2
          go_ret
          exact ⟨rfl, HB5.out⟩
    · have hr1 : R < 0 := by omega
      clear hr
      go_wp2_with fail
      refine (specTransferCount_any Av _ cv ys m1 _ Hxs3.out rfl (by omega)).mono ?_
      rintro e w4 ⟨rfl, hb4⟩
      rw [← HR.out]
      have HB4 := Lib.hid (bT HB3.out hb4)
      clear HB3
      have Hxs4 := Lib.hid (readsOver Hxs3.out hb4)
      clear Hxs3
      clear hb4
      go_wp2
      go_ret
      exact ⟨rfl, HB4.out⟩

set_option maxRecDepth 100000 in
theorem lifted (os : Os) (started : os.Started) (H : Type) (enc : TypeId × Value → H) :
    ReturnsInHanded {} Try.checked os 21 .any (Rows.fnTransferCountHalfSpec.pre6 enc Try.prog Try.f21 Rows.fnTransferCountHalfRow.domain false) (Rows.fnTransferCountHalfSpec.post enc Try.prog Try.f21 false true false false) := by
  refine returnsInHanded_of_change (C := Try.checked) Cells.own started (by kernel_rfl) Try.func21
    (ChangeSpec.witness6 (enc := enc) (C := Try.checked) false ⟨#[], #[.slice none 0 0], []⟩ 8 (by kernel_rfl) (by kernel_rfl) (by kernel_rfl) (by kernel_rfl)) ?_
  intro W base args ds gs before hval0 hW _ _
  have hval : ∀ (j : Nat) t v, Try.f21.params[j]? = some t → args[j]? = some v → Value.okWide Try.prog W .any base t v := hval0
  have hW' := hW
  obtain ⟨p, q, hA0, hV, rfl, _, _⟩ := hW
  have hA : DataW.TrodAll enc Try.prog W 0 (fun _ => true) true Try.f21.params.toList args.toList ds p := hA0
  rw [Try.params21] at hA hval
  obtain ⟨v0, d0, rfl, rfl, h0⟩ := trodAll_one hA
  obtain ⟨rfl, rfl⟩ := trodVars_none hV
  obtain ⟨a0, len, cap, rfl⟩ := okWide_slice Try.underlying22 (hval 0 22 v0 rfl rfl)
  clear hA0 hval0
  simp only [List.append_nil] at hW'
  obtain ⟨hb, hargs⟩ := opened h0 (fun x hx => by simpa using hW'.lt x hx)
  refine (walk a0 len cap W hb).mono fun e W' ⟨he, hnx⟩ => ?_
  subst he
  exact ⟨_, rfl, _, _, _, [], _, [], hW', trodAll_mk1 (shut_bool Try.underlying4 _), trodAll_mk1 (hargs _ hnx), rfl, hnx.frame _, fun h => by cases h⟩

theorem closed : joinedFacts Try.prog 21 Try.f21 Rows.fnTransferCountHalfSpec Rows.fnTransferCountHalfRow = true := by
  unfold joinedFacts
  rw [Cells.laidOut, Cells.mapsRowed_, Cells.stops, Cells.stopKnobs, Cells.plainKeys, Cells.stopsHeard, Cells.mayEnter, Cells.liftsFinal, Cells.make]
  kernel_rfl

theorem over : Rows.fnTransferCountHalfRow.holds Try.pinned (OpenSpec.ofChange Rows.fnTransferCountHalfSpec) :=
  OpenClaim.holds_of_wide 21 Try.f21 rfl rfl rfl rfl rfl rfl rfl ⟨rfl, rfl, rfl, rfl, rfl⟩ rfl rfl rfl rfl rfl (by kernel_rfl) Try.func21 closed
    (of_decide_eq_true (by kernel_rfl)) (by unfold Func.isWrapper; first | (rw [if_pos (by decide +kernel)]; kernel_rfl) | (rw [if_neg (by decide +kernel)]; exact ⟨rfl, rfl⟩))
    (fun os started H enc _ => lifted os started H enc)

/-- THE STATEMENT -/
theorem proved : Rows.FnTransferCountHalfSaid := over
#print axioms proved
end Go.Proofs.Ytnahdclmfegmeaa.fnTransferCountHalf
