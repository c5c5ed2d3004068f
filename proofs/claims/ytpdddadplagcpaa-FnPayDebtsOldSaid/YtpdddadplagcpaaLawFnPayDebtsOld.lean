/-
  Old debts are paid first: at every code, with the debts and the amount drawn from it, the law FnPayDebtsOld returns true and leaves the code as it was. No conditions.
-/
import Derived.Test.YtpdddadplagcpaaDebtFn6
import Derived.Test.YtpdddadplagcpaaDebtLaw
import Derived.Test.YtpdddadplagcpaaEqualDebt
import Derived.Test.YtpdddadplagcpaaDrawDebt
import Derived.Test.YtpdddadplagcpaaOwnCell
import Derived.Test.YtpdddadplagcpaaSubQuiet
import Derived.Test.YtpdddadplagcpaaLiftBytes
set_option linter.unusedSimpArgs false
namespace Go.Proofs.Ytpdddadplagcpaa.fnPayDebtsOld
open Go.ChangeShapes Go.WideShapes Go.ChangeAt Go.RowKit
set_option linter.unusedVariables false

set_option maxRecDepth 100000 in
set_option maxHeartbeats 2000000 in
theorem walk (A : Option Addr) (n c : Nat) (w : World) (h : Bytes w w.heap.size A n c) : Calls Try.prog 8 #[.slice A n c] w (TrueBelow w) := by
  by_cases hn : 1048576 < n
  · go_enter Try.func8, Try.ntmps8
    go_wp2
    go_ret
    exact ⟨rfl, Below.refl _ _⟩
  · go_enter Try.func8, Try.ntmps8
    go_wp2_with fail
    refine (drawPayDebts_any A n c w h).mono ?_
    rintro e w1 ⟨v, xs, m, rfl, ho, hlen, hsm, m0, m1, hc1⟩
    have hcode : n ≤ 1048576 := by omega
    clear h hsm
    obtain ⟨AL, cL, rfl, lL1, lL2, hr⟩ := ho.form
    have oL := ho.nilOk
    clear ho
    have HL1 := Lib.hid hr; clear hr
    unfold maxLen at lL2
    obtain ⟨out, left, hP⟩ : ∃ out left, Fares.payDebts xs m = (out, left) := ⟨_, _, rfl⟩
    have hol : out.length ≤ 8 := by have := Fares.payDebts_length xs m; rw [hP] at this; exact Nat.le_trans this hlen
    go_wp2_with fail
    refine (implPayDebts_any AL xs.length cL xs m _ (HL1.out) rfl (by omega) (by omega) lL1 (by unfold maxLen; omega)).mono ?_
    rw [hP]
    rintro e w2 ⟨v, rfl, ho, hb2⟩
    obtain ⟨AO, cO, rfl, lO1, lO2, hr⟩ := ho.form
    have oO := ho.nilOk
    clear ho
    have Hn2 := Lib.hid hr; clear hr
    have hc2 : Below w.heap.size w w2 := bT hc1 hb2
    have HkL2 := Lib.hid (readsOver HL1.out hb2)
    clear HL1
    clear hb2
    go_wp2_with fail
    refine (specPayDebts_any AL xs.length cL xs m _ (HkL2.out) rfl (by omega) (by omega)).mono ?_
    rw [hP]
    rintro e w3 ⟨v, rfl, ho, hb3⟩
    obtain ⟨AW, cW, rfl, lW1, lW2, hr⟩ := ho.form
    have oW := ho.nilOk
    clear ho
    have Hn3 := Lib.hid hr; clear hr
    have hc3 : Below w.heap.size w w3 := bT hc2 hb3
    have HkL3 := Lib.hid (readsOver HkL2.out hb3)
    clear HkL2
    have HkO3 := Lib.hid (readsOver Hn2.out hb3)
    clear Hn2
    clear hb3
    go_wp2_with fail
    refine (equalDebts_any AO AW _ _ cO cW out out _ (HkO3.out) (Hn3.out) rfl rfl (by omega) (by omega)).mono ?_
    rw [decide_eq_true (rfl : out = out)]
    rintro e w4 ⟨rfl, hb4⟩
    have hc4 : Below w.heap.size w w4 := bT hc3 hb4
    have HkL4 := Lib.hid (readsOver HkL3.out hb4)
    clear HkL3
    have HkO4 := Lib.hid (readsOver HkO3.out hb4)
    clear HkO3
    have HkW4 := Lib.hid (readsOver Hn3.out hb4)
    clear Hn3
    clear hb4
    by_cases hneg : left < 0
    · have b1 : decide (left < 0) = true := decide_eq_true hneg
      go_wp2_with fail
      refine (equalDebts_any AO AW _ _ cO cW out out _ (HkO4.out) (HkW4.out) rfl rfl (by omega) (by omega)).mono ?_
      rw [decide_eq_true (rfl : out = out)]
      rintro e w5 ⟨rfl, hb5⟩
      have hc5 : Below w.heap.size w w5 := bT hc4 hb5
      have HkL5 := Lib.hid (readsOver HkL4.out hb5)
      clear HkL4
      have HkO5 := Lib.hid (readsOver HkO4.out hb5)
      clear HkO4
      have HkW5 := Lib.hid (readsOver HkW4.out hb5)
      clear HkW4
      clear hb5
      go_wp2
      go_ret
      exact ⟨ret_bool (by simp), hc5⟩
    · have b1 : decide (left < 0) = false := decide_eq_false hneg
      have hv : Fares.validDebts xs = true ∧ 0 ≤ m := by
        by_cases h : Fares.validDebts xs = true ∧ 0 ≤ m
        · exact h
        · exfalso
          rw [Fares.payDebts, if_neg h] at hP
          injection hP with _ h2
          omega
      have hQ : Fares.payRun xs m = (out, left) := by rw [Fares.payDebts, if_pos hv] at hP; exact hP
      have hok := (Fares.validDebts_iff xs).1 hv.1
      obtain ⟨g1, g2, g3, g4, g5⟩ := Fares.pay_law hok hv.2
      rw [hQ] at g1 g2 g3 g4 g5
      dsimp only at g1 g2 g3 g4 g5
      by_cases h0 : out.length = 0
      · obtain rfl : out = [] := List.eq_nil_of_length_eq_zero h0
        go_wp2_with fail
        refine (equalDebts_any AO AW 0 0 cO cW [] [] _ (HkO4.out) (HkW4.out) rfl rfl (by omega) (by omega)).mono ?_
        rw [decide_eq_true (rfl : ([] : List Fares.Debt) = [])]
        rintro e w5 ⟨rfl, hb5⟩
        have hc5 : Below w.heap.size w w5 := bT hc4 hb5
        have HkL5 := Lib.hid (readsOver HkL4.out hb5)
        clear HkL4
        have HkO5 := Lib.hid (readsOver HkO4.out hb5)
        clear HkO4
        have HkW5 := Lib.hid (readsOver HkW4.out hb5)
        clear HkW4
        clear hb5
        go_wp2
        go_ret
        exact ⟨ret_bool (by simp), hc5⟩
      · have z0 : ((out.length : Int) == 0) = false := by simpa using fun e => h0 (by rw [e]; rfl)
        obtain ⟨k, x, r, ek, hx, eo, er1, er2⟩ := Fares.pay_old hok hv.2 (by rw [hQ]; intro e; apply h0; show out.length = 0; rw [show out = [] from e]; rfl)
        rw [hQ] at ek eo
        dsimp only at ek eo
        have hkk : (xs.length : Int) - (out.length : Int) = (k : Int) := by omega
        have hkl : k < xs.length := by omega
        obtain ⟨tl, Etl⟩ : ∃ tl, xs.drop (k + 1) = tl := ⟨_, rfl⟩
        rw [Etl] at eo
        have htl : tl.length = xs.length - (k + 1) := by rw [← Etl, List.length_drop]
        have hot : out.length = tl.length + 1 := by rw [eo]; rfl
        clear g1 g2 hQ hok hP
        obtain ⟨bo, oo, rfl, hbo, hro⟩ := Debts.row HkO4.out (by omega)
        obtain ⟨bl, ol, rfl, hbl, hrl⟩ := Debts.row HkL4.out (by omega)
        obtain ⟨p0, p1⟩ := hro 0 ⟨x.d, r⟩ (by rw [eo]; rfl)
        obtain ⟨q0, q1⟩ := hrl k x hx
        simp only [Nat.zero_mul, Nat.add_zero] at p0 p1
        clear hro hrl
        have m0' := fun x0 : WIn (fun w' => Below w4.heap.size w4 w') => x0.cell p0 hbo
        have m1' := fun x0 : WIn (fun w' => Below w4.heap.size w4 w') => x0.cell p1 hbo
        have m2' := fun x0 : WIn (fun w' => Below w4.heap.size w4 w') => x0.cell q0 hbl
        have m3' := fun x0 : WIn (fun w' => Below w4.heap.size w4 w') => x0.cell q1 hbl
        obtain ⟨AP, eP⟩ : ∃ A, (if cO = 1 then some (⟨bo, oo, none⟩ : Addr) else some ⟨bo, oo + 2, none⟩) = A := ⟨_, rfl⟩
        obtain ⟨AQ, eQ⟩ : ∃ A, (if cL = k + 1 then some (⟨bl, ol, none⟩ : Addr) else some ⟨bl, ol + (k + 1) * 2, none⟩) = A := ⟨_, rfl⟩
        have Q1 : Hid (∀ wq, Below w4.heap.size w4 wq → Debts wq wq.heap.size AP tl) := fun wq hq => by
          have h := reads_from_if debtCells 2 (fun _ => rfl) (k := 1) (readsOver (HkO4.out) hq) (by omega) lO1 eP
          have e : out.drop 1 = tl := by rw [eo]; rfl
          rw [e] at h
          exact h
        have Q2 : Hid (∀ wq, Below w4.heap.size w4 wq → Debts wq wq.heap.size AQ tl) := fun wq hq => by
          have h := reads_from_if debtCells 2 (fun _ => rfl) (k := k + 1) (readsOver (HkL4.out) hq) (by omega) lL1 eQ
          rw [Etl] at h
          exact h
        have e1 : IntKind.i64.wrap ((k : Int) + 1) = (k : Int) + 1 := IntWalk.i64_in _ (by omega)
        have e2 : (0 : Int) ≤ (k : Int) + 1 := by omega
        have e3 : ((k : Int) + 1).toNat = k + 1 := by omega
        have e4 : (k : Int) + 1 ≤ (xs.length : Int) := by omega
        have e6 : (1 : Int) ≤ (out.length : Int) := by omega
        have i0 : (0 : Int) ≤ (k : Int) := by omega
        have i1 : (k : Int) < (xs.length : Int) := by omega
        have i2 : (0 : Int) < (out.length : Int) := by omega
        have d0 : decide ((0 : Int) ≤ (k : Int)) = true := decide_eq_true i0
        have d1 : (x.d == x.d) = true := by simp
        have d2 : decide (r ≤ x.a) = true := decide_eq_true er2
        have Htl := Lib.hid htl
        have hol1 : tl.length = out.length - 1 := by omega
        have hol2 : tl.length = xs.length - (k + 1) := htl
        have Hol1 := Lib.hid hol1
        have Hol2 := Lib.hid hol2
        clear hx eo Etl htl hot hol1 hol2 ek p0 p1 q0 q1 h0 er1
        go_wp2
        refine wp_region_win (B := fun w' => Below w4.heap.size w4 w') (by kernel_rfl) (by kernel_rfl) (bD1 (Below.refl _ _)) ?_
        repeat (go_big_quiet_step (fail))
        go_big_quiet_step ((rename_i x0; refine WIn.calls (v := .bool true) ((equalDebts_any AP AQ (out.length - 1) (xs.length - (k + 1)) (cO - 1) (cL - (k + 1)) tl tl _ (Q1.out x0.w x0.h) (Q2.out x0.w x0.h) Hol1.out Hol2.out (by omega) (by omega)).mono fun e w' he => ⟨by rw [he.1, decide_eq_true (rfl : tl = tl)], he.2⟩) (fun w' hb => bT x0.h hb)))
        repeat (go_big_quiet_step (fail))
        refine wpQuiet_nil ?_
        intro w9 hw'
        obtain ⟨⟨wq, hb9⟩, e9⟩ := hw'
        dsimp only at e9
        subst wq
        go_wp2
        go_ret
        exact ⟨ret_bool (by simp), bT hc4 hb9⟩

set_option maxRecDepth 100000 in
theorem lifted (os : Os) (started : os.Started) (H : Type) (enc : TypeId × Value → H) :
    ReturnsInHanded {} Try.checked os 8 .any (Rows.fnPayDebtsOldSpec.pre6 enc Try.prog Try.f8 Rows.fnPayDebtsOldRow.domain false) (Rows.fnPayDebtsOldSpec.post enc Try.prog Try.f8 false true false false) := by
  refine returnsInHanded_of_change (C := Try.checked) Cells.own started (by kernel_rfl) Try.func8
    (ChangeSpec.witness6 (enc := enc) (C := Try.checked) false ⟨#[], #[.slice none 0 0], []⟩ 8 (by kernel_rfl) (by kernel_rfl) (by kernel_rfl) (by kernel_rfl)) ?_
  intro W base args ds gs before hval0 hW _ _
  have hval : ∀ (j : Nat) t v, Try.f8.params[j]? = some t → args[j]? = some v → Value.okWide Try.prog W .any base t v := hval0
  have hW' := hW
  obtain ⟨p, q, hA0, hV, rfl, _, _⟩ := hW
  have hA : DataW.TrodAll enc Try.prog W 0 (fun _ => true) true Try.f8.params.toList args.toList ds p := hA0
  rw [Try.params8] at hA hval
  obtain ⟨v0, d0, rfl, rfl, h0⟩ := trodAll_one hA
  obtain ⟨rfl, rfl⟩ := trodVars_none hV
  obtain ⟨a0, len, cap, rfl⟩ := okWide_slice Try.underlying22 (hval 0 22 v0 rfl rfl)
  clear hA0 hval0
  simp only [List.append_nil] at hW'
  obtain ⟨hb, hargs⟩ := opened h0 (fun x hx => by simpa using hW'.lt x hx)
  refine (walk a0 len cap W hb).mono fun e W' ⟨he, hnx⟩ => ?_
  subst he
  exact ⟨_, rfl, _, _, _, [], _, [], hW', trodAll_mk1 (shut_bool Try.underlying4 _), trodAll_mk1 (hargs _ hnx), rfl, hnx.frame _, fun h => by cases h⟩

theorem closed : joinedFacts Try.prog 8 Try.f8 Rows.fnPayDebtsOldSpec Rows.fnPayDebtsOldRow = true := by
  unfold joinedFacts
  rw [Cells.laidOut, Cells.mapsRowed_, Cells.stops, Cells.stopKnobs, Cells.plainKeys, Cells.stopsHeard, Cells.mayEnter, Cells.liftsFinal, Cells.make]
  kernel_rfl

theorem over : Rows.fnPayDebtsOldRow.holds Try.pinned (OpenSpec.ofChange Rows.fnPayDebtsOldSpec) :=
  OpenClaim.holds_of_wide 8 Try.f8 rfl rfl rfl rfl rfl rfl rfl ⟨rfl, rfl, rfl, rfl, rfl⟩ rfl rfl rfl rfl rfl (by kernel_rfl) Try.func8 closed
    (of_decide_eq_true (by kernel_rfl)) (by unfold Func.isWrapper; first | (rw [if_pos (by decide +kernel)]; kernel_rfl) | (rw [if_neg (by decide +kernel)]; exact ⟨rfl, rfl⟩))
    (fun os started H enc _ => lifted os started H enc)

/-- THE STATEMENT -/
theorem proved : Rows.FnPayDebtsOldSaid := over
#print axioms proved
end Go.Proofs.Ytpdddadplagcpaa.fnPayDebtsOld
