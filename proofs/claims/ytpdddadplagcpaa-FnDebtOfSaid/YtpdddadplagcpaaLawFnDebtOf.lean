/-
  Debts add up: at every code, with the debts drawn from it, the law FnDebtOf returns true and leaves the code as it was. No conditions.
-/
import Derived.Test.YtpdddadplagcpaaDebtFn3
import Derived.Test.YtpdddadplagcpaaDebtLaw
import Derived.Test.YtpdddadplagcpaaDrawDebt
import Derived.Test.YtpdddadplagcpaaOwnCell
import Derived.Test.YtpdddadplagcpaaSubQuiet
import Derived.Test.YtpdddadplagcpaaLiftBytes
set_option linter.unusedSimpArgs false
namespace Go.Proofs.Ytpdddadplagcpaa.fnDebtOf
open Go.ChangeShapes Go.WideShapes Go.ChangeAt Go.RowKit
set_option linter.unusedVariables false

set_option maxRecDepth 100000 in
set_option maxHeartbeats 2000000 in
theorem walk (A : Option Addr) (n c : Nat) (w : World) (h : Bytes w w.heap.size A n c) : Calls Try.prog 4 #[.slice A n c] w (TrueBelow w) := by
  by_cases hn : 1048576 < n
  · go_enter Try.func4, Try.ntmps4
    go_wp2
    go_ret
    exact ⟨rfl, Below.refl _ _⟩
  · go_enter Try.func4, Try.ntmps4
    go_wp2_with fail
    refine (drawDebtOf_any A n c w h).mono ?_
    rintro e w1 ⟨v, xs, rfl, ho, hlen, hsm, hc1⟩
    have hcode : n ≤ 1048576 := by omega
    clear h hsm
    obtain ⟨AL, cL, rfl, lL1, lL2, hr⟩ := ho.form
    have oL := ho.nilOk
    clear ho
    have HL1 := Lib.hid hr; clear hr
    unfold maxLen at lL2
    obtain ⟨R, hR⟩ : ∃ R, Fares.debtOf xs = R := ⟨_, rfl⟩
    go_wp2_with fail
    refine (implDebtOf_any AL xs.length cL xs _ (HL1.out) rfl (by omega)).mono ?_
    rw [hR]
    rintro e w2 ⟨rfl, hb2⟩
    have hc2 : Below w.heap.size w w2 := bT hc1 hb2
    have HkL2 := Lib.hid (readsOver HL1.out hb2)
    clear HL1
    clear hb2
    go_wp2_with fail
    refine (specDebtOf_any AL xs.length cL xs _ (HkL2.out) rfl (by omega)).mono ?_
    rw [hR]
    rintro e w3 ⟨rfl, hb3⟩
    have hc3 : Below w.heap.size w w3 := bT hc2 hb3
    have HkL3 := Lib.hid (readsOver HkL2.out hb3)
    clear HkL2
    clear hb3
    by_cases hneg : R < 0
    · have b1 : decide (R < 0) = true := decide_eq_true hneg
      go_wp2_with fail
      refine (specDebtOf_any AL xs.length cL xs _ (HkL3.out) rfl (by omega)).mono ?_
      rw [hR]
      rintro e w4 ⟨rfl, hb4⟩
      have hc4 : Below w.heap.size w w4 := bT hc3 hb4
      have HkL4 := Lib.hid (readsOver HkL3.out hb4)
      clear HkL3
      clear hb4
      go_wp2
      go_ret
      exact ⟨ret_bool (by simp), hc4⟩
    · have b1 : decide (R < 0) = false := decide_eq_false hneg
      have hv : Fares.validDebts xs = true := by
        by_cases h : Fares.validDebts xs = true
        · exact h
        · exfalso; rw [Fares.debtOf, if_neg h] at hR; omega
      have hok := (Fares.validDebts_iff xs).1 hv
      have eR : Fares.debtSum xs = R := by rw [Fares.debtOf, hv, if_pos rfl] at hR; exact hR
      obtain ⟨k, hk⟩ : ∃ k, xs.length / 2 = k := ⟨_, rfl⟩
      have hkl : k ≤ xs.length := by omega
      have hkt : ((xs.length : Int)).tdiv 2 = (k : Int) := by rw [← hk, Int.tdiv_eq_ediv_of_nonneg (by omega)]; omega
      obtain ⟨t1, t2, t3, t4, t5, t6, t7⟩ := Fares.debtOf_halves hok k
      rw [eR] at t3 t4 t5
      have f1 : Fares.debtOf (xs.take k) = Fares.debtSum (xs.take k) := by rw [Fares.debtOf, t1, if_pos rfl]
      have f2 : Fares.debtOf (xs.drop k) = Fares.debtSum (xs.drop k) := by rw [Fares.debtOf, t2, if_pos rfl]
      obtain ⟨sa, Ea⟩ : ∃ sa, Fares.debtSum (xs.take k) = sa := ⟨_, rfl⟩
      obtain ⟨sb, Eb⟩ : ∃ sb, Fares.debtSum (xs.drop k) = sb := ⟨_, rfl⟩
      rw [Ea] at t3 t7 f1
      rw [Eb] at t3 t6 f2
      have i0 : (0 : Int) ≤ (k : Int) := by omega
      have i1 : (k : Int) ≤ (cL : Int) := by omega
      have i2 : (k : Int) ≤ (xs.length : Int) := by omega
      obtain ⟨lt, Elt⟩ : ∃ lt, xs.take k = lt := ⟨_, rfl⟩
      obtain ⟨ld, Eld⟩ : ∃ ld, xs.drop k = ld := ⟨_, rfl⟩
      have hlt : lt.length = k := by rw [← Elt, List.length_take]; omega
      have hld : ld.length = xs.length - k := by rw [← Eld, List.length_drop]
      rw [Elt] at f1
      rw [Eld] at f2
      have Q1 : Hid (∀ wq, Below w3.heap.size w3 wq → Debts wq wq.heap.size AL lt) := fun wq hq => by rw [← Elt]; exact Reads.take_of (readsOver (HkL3.out) hq) k
      by_cases h0 : xs.length = 0
      · obtain rfl : xs = [] := List.eq_nil_of_length_eq_zero h0
        obtain rfl : k = 0 := by simpa using hk.symm
        obtain rfl : lt = [] := List.eq_nil_of_length_eq_zero hlt
        obtain rfl : ld = [] := List.eq_nil_of_length_eq_zero (by simpa using hld)
        obtain rfl : sa = 0 := by rw [← Ea]; rfl
        obtain rfl : sb = 0 := by rw [← Eb]; rfl
        obtain rfl : R = 0 := by omega
        have fe : Fares.debtOf [] = 0 := f1
        clear f1 f2 hkt hk h0
        cases AL with
        | none =>
          obtain ⟨h1, h2⟩ := oL rfl
          subst h2
          go_wp2
          refine wp_region_win (B := fun w' => Below w3.heap.size w3 w') (by kernel_rfl) (by kernel_rfl) (bD1 (Below.refl _ _)) ?_
          repeat (go_big_quiet_step (fail))
          go_big_quiet_step ((rename_i x0; refine WIn.calls (v := .int .i64 0) ((implDebtOf_any none 0 0 [] _ (Reads.nil _ _ _) rfl (by omega)).mono fun e w' he => ⟨by rw [he.1, fe], he.2⟩) (fun w' hb => bT x0.h hb)))
          repeat (go_big_quiet_step (fail))
          go_big_quiet_step ((rename_i x0; refine WIn.calls (v := .int .i64 0) ((implDebtOf_any none 0 0 [] _ (Reads.nil _ _ _) rfl (by omega)).mono fun e w' he => ⟨by rw [he.1, fe], he.2⟩) (fun w' hb => bT x0.h hb)))
          repeat (go_big_quiet_step (fail))
          refine wpQuiet_nil ?_
          intro w5 hw'
          obtain ⟨⟨wq, hb5⟩, e1⟩ := hw'
          dsimp only at e1
          subst wq
          go_wp2
          go_ret
          exact ⟨ret_bool (by simp), bT hc3 hb5⟩
        | some ad =>
          go_wp2
          refine wp_region_win (B := fun w' => Below w3.heap.size w3 w') (by kernel_rfl) (by kernel_rfl) (bD1 (Below.refl _ _)) ?_
          repeat (go_big_quiet_step (fail))
          go_big_quiet_step ((rename_i x0; refine WIn.calls (v := .int .i64 0) ((implDebtOf_any (some ad) 0 cL [] _ (Reads.nil _ _ _) rfl (by omega)).mono fun e w' he => ⟨by rw [he.1, fe], he.2⟩) (fun w' hb => bT x0.h hb)))
          repeat (go_big_quiet_step (fail))
          go_big_quiet_step ((rename_i x0; refine WIn.calls (v := .int .i64 0) ((implDebtOf_any (some ad) 0 cL [] _ (Reads.nil _ _ _) rfl (by omega)).mono fun e w' he => ⟨by rw [he.1, fe], he.2⟩) (fun w' hb => bT x0.h hb)))
          repeat (go_big_quiet_step (fail))
          refine wpQuiet_nil ?_
          intro w5 hw'
          obtain ⟨⟨wq, hb5⟩, e1⟩ := hw'
          dsimp only at e1
          subst wq
          go_wp2
          go_ret
          exact ⟨ret_bool (by simp), bT hc3 hb5⟩
      · obtain ⟨b1, o1, rfl, hb1', hr1⟩ := Debts.row HkL3.out (by omega)
        clear hr1
        have hck : ¬ cL = k := by omega
        have Q2 : Hid (∀ wq, Below w3.heap.size w3 wq → Debts wq wq.heap.size (some ⟨b1, o1 + k * 2, none⟩) ld) := fun wq hq => by rw [← Eld]; exact Reads.drop_at (f := debtCells) (s := 2) (fun _ => rfl) (readsOver (HkL3.out) hq) k hkl
        have T3 := Lib.hid t3
        have e9 : (sa + sb == R) = true := by simp [t3]
        clear Ea Eb Elt Eld hk h0 t1 t2 eR hR
        go_wp2
        refine wp_region_win (B := fun w' => Below w3.heap.size w3 w') (by kernel_rfl) (by kernel_rfl) (bD1 (Below.refl _ _)) ?_
        repeat (go_big_quiet_step (fail))
        go_big_quiet_step ((rename_i x0; refine WIn.calls (v := .int .i64 sa) ((implDebtOf_any (some ⟨b1, o1, none⟩) k cL lt _ (Q1.out x0.w x0.h) hlt (by omega)).mono fun e w' he => ⟨by rw [he.1, f1], he.2⟩) (fun w' hb => bT x0.h hb)))
        repeat (go_big_quiet_step (fail))
        go_big_quiet_step ((rename_i x0; refine WIn.calls (v := .int .i64 sb) ((implDebtOf_any (some ⟨b1, o1 + k * 2, none⟩) (xs.length - k) (cL - k) ld _ (Q2.out x0.w x0.h) hld (by omega)).mono fun e w' he => ⟨by rw [he.1, f2], he.2⟩) (fun w' hb => bT x0.h hb)))
        repeat (go_big_quiet_step (fail))
        refine wpQuiet_nil ?_
        intro w5 hw'
        obtain ⟨⟨wq, hb5⟩, e1⟩ := hw'
        dsimp only at e1
        subst wq
        go_wp2
        go_ret
        exact ⟨ret_bool (by simp), bT hc3 hb5⟩

set_option maxRecDepth 100000 in
theorem lifted (os : Os) (started : os.Started) (H : Type) (enc : TypeId × Value → H) :
    ReturnsInHanded {} Try.checked os 4 .any (Rows.fnDebtOfSpec.pre6 enc Try.prog Try.f4 Rows.fnDebtOfRow.domain false) (Rows.fnDebtOfSpec.post enc Try.prog Try.f4 false true false false) := by
  refine returnsInHanded_of_change (C := Try.checked) Cells.own started (by kernel_rfl) Try.func4
    (ChangeSpec.witness6 (enc := enc) (C := Try.checked) false ⟨#[], #[.slice none 0 0], []⟩ 8 (by kernel_rfl) (by kernel_rfl) (by kernel_rfl) (by kernel_rfl)) ?_
  intro W base args ds gs before hval0 hW _ _
  have hval : ∀ (j : Nat) t v, Try.f4.params[j]? = some t → args[j]? = some v → Value.okWide Try.prog W .any base t v := hval0
  have hW' := hW
  obtain ⟨p, q, hA0, hV, rfl, _, _⟩ := hW
  have hA : DataW.TrodAll enc Try.prog W 0 (fun _ => true) true Try.f4.params.toList args.toList ds p := hA0
  rw [Try.params4] at hA hval
  obtain ⟨v0, d0, rfl, rfl, h0⟩ := trodAll_one hA
  obtain ⟨rfl, rfl⟩ := trodVars_none hV
  obtain ⟨a0, len, cap, rfl⟩ := okWide_slice Try.underlying22 (hval 0 22 v0 rfl rfl)
  clear hA0 hval0
  simp only [List.append_nil] at hW'
  obtain ⟨hb, hargs⟩ := opened h0 (fun x hx => by simpa using hW'.lt x hx)
  refine (walk a0 len cap W hb).mono fun e W' ⟨he, hnx⟩ => ?_
  subst he
  exact ⟨_, rfl, _, _, _, [], _, [], hW', trodAll_mk1 (shut_bool Try.underlying4 _), trodAll_mk1 (hargs _ hnx), rfl, hnx.frame _, fun h => by cases h⟩

theorem closed : joinedFacts Try.prog 4 Try.f4 Rows.fnDebtOfSpec Rows.fnDebtOfRow = true := by
  unfold joinedFacts
  rw [Cells.laidOut, Cells.mapsRowed_, Cells.stops, Cells.stopKnobs, Cells.plainKeys, Cells.stopsHeard, Cells.mayEnter, Cells.liftsFinal, Cells.make]
  kernel_rfl

theorem over : Rows.fnDebtOfRow.holds Try.pinned (OpenSpec.ofChange Rows.fnDebtOfSpec) :=
  OpenClaim.holds_of_wide 4 Try.f4 rfl rfl rfl rfl rfl rfl rfl ⟨rfl, rfl, rfl, rfl, rfl⟩ rfl rfl rfl rfl rfl (by kernel_rfl) Try.func4 closed
    (of_decide_eq_true (by kernel_rfl)) (by unfold Func.isWrapper; first | (rw [if_pos (by decide +kernel)]; kernel_rfl) | (rw [if_neg (by decide +kernel)]; exact ⟨rfl, rfl⟩))
    (fun os started H enc _ => lifted os started H enc)

/-- THE STATEMENT -/
theorem proved : Rows.FnDebtOfSaid := over
#print axioms proved
end Go.Proofs.Ytpdddadplagcpaa.fnDebtOf
