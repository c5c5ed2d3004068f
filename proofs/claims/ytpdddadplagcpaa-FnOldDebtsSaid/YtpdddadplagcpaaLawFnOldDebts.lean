/-
  Old debts are a beginning: at every code, with the debts and the day drawn from it, the law FnOldDebts returns true and leaves the code as it was. No conditions.
-/
import Derived.Test.YtpdddadplagcpaaDebtFn4
import Derived.Test.YtpdddadplagcpaaDebtLaw
import Derived.Test.YtpdddadplagcpaaEqualDebt
import Derived.Test.YtpdddadplagcpaaDrawDebt
import Derived.Test.YtpdddadplagcpaaOwnCell
import Derived.Test.YtpdddadplagcpaaLiftBytes
set_option linter.unusedSimpArgs false
namespace Go.Proofs.Ytpdddadplagcpaa.fnOldDebts
open Go.ChangeShapes Go.WideShapes Go.ChangeAt Go.RowKit
set_option linter.unusedVariables false

set_option maxRecDepth 100000 in
set_option maxHeartbeats 2000000 in
theorem walk (A : Option Addr) (n c : Nat) (w : World) (h : Bytes w w.heap.size A n c) : Calls Try.prog 10 #[.slice A n c] w (TrueBelow w) := by
  by_cases hn : 1048576 < n
  · go_enter Try.func10, Try.ntmps10
    go_wp2
    go_ret
    exact ⟨rfl, Below.refl _ _⟩
  · go_enter Try.func10, Try.ntmps10
    go_wp2_with fail
    refine (drawOldDebts_any A n c w h).mono ?_
    rintro e w1 ⟨v, xs, m, rfl, ho, hlen, hsm, m0, m1, hc1⟩
    have hcode : n ≤ 1048576 := by omega
    clear h hsm
    obtain ⟨AL, cL, rfl, lL1, lL2, hr⟩ := ho.form
    have oL := ho.nilOk
    clear ho
    have HL1 := Lib.hid hr; clear hr
    unfold maxLen at lL2
    obtain ⟨out, hP⟩ : ∃ out, Fares.oldDebts xs m = out := ⟨_, rfl⟩
    have hol : out.length ≤ 8 := by have := Fares.oldDebts_length xs m; rw [hP] at this; exact Nat.le_trans this hlen
    go_wp2_with fail
    refine (implOldDebts_any AL xs.length cL xs m _ (HL1.out) rfl (by omega) oL lL1 (by unfold maxLen; omega)).mono ?_
    rw [hP]
    rintro e w2 ⟨v, rfl, ho, hb2⟩
    obtain ⟨AO, cO, rfl, lO1, lO2, hr⟩ := ho.form
    have oO := ho.nilOk
    clear ho
    have Hn2 := Lib.hid hr; clear hr
    have hc2 : Below w.heap.size w w2 := bT hc1 hb2
    have HkL2 := Lib.hid (readsOver HL1.out hb2)
    clear HL1
    clear hb2
    go_wp2_with fail
    refine (specOldDebts_any AL xs.length cL xs m _ (HkL2.out) rfl (by omega)).mono ?_
    rw [hP]
    rintro e w3 ⟨v, rfl, ho, hb3⟩
    obtain ⟨AW, cW, rfl, lW1, lW2, hr⟩ := ho.form
    have oW := ho.nilOk
    clear ho
    have Hn3 := Lib.hid hr; clear hr
    have hc3 : Below w.heap.size w w3 := bT hc2 hb3
    have HkL3 := Lib.hid (readsOver HkL2.out hb3)
    clear HkL2
    have HkO3 := Lib.hid (readsOver Hn2.out hb3)
    clear Hn2
    clear hb3
    go_wp2_with fail
    refine (equalDebts_any AO AW _ _ cO cW out out _ (HkO3.out) (Hn3.out) rfl rfl (by omega) (by omega)).mono ?_
    rw [decide_eq_true (rfl : out = out)]
    rintro e w4 ⟨rfl, hb4⟩
    have hc4 : Below w.heap.size w w4 := bT hc3 hb4
    have HkL4 := Lib.hid (readsOver HkL3.out hb4)
    clear HkL3
    have HkO4 := Lib.hid (readsOver HkO3.out hb4)
    clear HkO3
    have HkW4 := Lib.hid (readsOver Hn3.out hb4)
    clear Hn3
    clear hb4
    obtain ⟨V, hV⟩ : ∃ V, Fares.validDebts xs = V := ⟨_, rfl⟩
    go_wp2_with fail
    refine (implValidDebts_any AL xs.length cL xs _ (HkL4.out) rfl (by omega)).mono ?_
    rw [hV]
    rintro e w5 ⟨rfl, hb5⟩
    have hc5 : Below w.heap.size w w5 := bT hc4 hb5
    have HkL5 := Lib.hid (readsOver HkL4.out hb5)
    clear HkL4
    have HkO5 := Lib.hid (readsOver HkO4.out hb5)
    clear HkO4
    have HkW5 := Lib.hid (readsOver HkW4.out hb5)
    clear HkW4
    clear hb5
    by_cases hv : V = true
    · subst hv
      have hok := (Fares.validDebts_iff xs).1 hV
      obtain ⟨k, k1, k2, k3, k4⟩ := Fares.oldDebts_form hok m
      rw [hP] at k2
      have hol2 : out.length = k := by rw [k2, List.length_take]; omega
      have Ht := Lib.hid (show Debts w5 w5.heap.size AL out from by rw [k2]; exact Reads.take_of (HkL5.out) k)
      have i0 : (0 : Int) ≤ (out.length : Int) := by omega
      have i1 : (out.length : Int) ≤ (cL : Int) := by omega
      have d1 : decide ((out.length : Int) ≤ (xs.length : Int)) = true := by rw [decide_eq_true_eq]; omega
      have d1n : decide (out.length ≤ xs.length) = true := by rw [decide_eq_true_eq]; omega
      have K2 := Lib.hid k2; clear k2
      have Hol2 := Lib.hid hol2; clear hol2
      cases AL with
      | none =>
        obtain ⟨h1, h2⟩ := oL rfl
        obtain rfl : out = [] := List.eq_nil_of_length_eq_zero (by omega)
        obtain rfl : xs = [] := List.eq_nil_of_length_eq_zero h1
        subst h2
        clear d1 d1n i0 i1 hol k3 k4
        go_wp2_with fail
        refine (equalDebts_any AO none 0 0 cO 0 [] [] _ (HkO5.out) (Ht.out) rfl rfl (by omega) (by omega)).mono ?_
        rw [decide_eq_true (rfl : ([] : List Fares.Debt) = [])]
        rintro e w6 ⟨rfl, hb6⟩
        have hc6 : Below w.heap.size w w6 := bT hc5 hb6
        have HkL6 := Lib.hid (readsOver HkL5.out hb6)
        clear HkL5
        have HkO6 := Lib.hid (readsOver HkO5.out hb6)
        clear HkO5
        have HkW6 := Lib.hid (readsOver HkW5.out hb6)
        clear HkW5
        have HkT6 := Lib.hid (readsOver Ht.out hb6)
        clear Ht
        clear hb6
        go_wp2
        go_ret
        exact ⟨ret_bool (by simp), hc6⟩
      | some ad =>
        go_wp2_with fail
        refine (equalDebts_any AO (some ad) _ _ cO cL out out _ (HkO5.out) (Ht.out) rfl rfl (by omega) (by omega)).mono ?_
        rw [decide_eq_true (rfl : out = out)]
        rintro e w6 ⟨rfl, hb6⟩
        have hc6 : Below w.heap.size w w6 := bT hc5 hb6
        have HkL6 := Lib.hid (readsOver HkL5.out hb6)
        clear HkL5
        have HkO6 := Lib.hid (readsOver HkO5.out hb6)
        clear HkO5
        have HkW6 := Lib.hid (readsOver HkW5.out hb6)
        clear HkW5
        have HkT6 := Lib.hid (readsOver Ht.out hb6)
        clear Ht
        clear hb6
        by_cases hlt : k < xs.length
        · by_cases hpos : 0 < k
          · have hol2 := Hol2.out
            obtain ⟨y, hy⟩ : ∃ y, xs[k]? = some y := ⟨xs[k], List.getElem?_eq_getElem hlt⟩
            have gy := k4 k y (Nat.le_refl _) hy
            have z1 : ((out.length : Int) == (xs.length : Int)) = false := by simp; omega
            have z1n : (out.length == xs.length) = false := by simp; omega
            obtain ⟨x, hx⟩ : ∃ x, xs[k - 1]? = some x := ⟨xs[k - 1], List.getElem?_eq_getElem (by omega)⟩
            have gx := k3 (k - 1) x (by omega) hx
            have z2 : ((out.length : Int) == 0) = false := by simp; intro e; subst e; simp at hol2; omega
            have z2n : (out.length == 0) = false := by simp; intro e; subst e; simp at hol2; omega
            obtain ⟨b1, o1, eA, hb1, hr1⟩ := Debts.row HkL6.out (by omega)
            injection eA with eA
            subst eA
            have p0 := (hr1 k y hy).1
            rw [← hol2] at p0
            have g1 : decide (m ≤ y.d) = true := decide_eq_true gy
            have j0 : (0 : Int) ≤ (out.length : Int) := by omega
            have j1 : (out.length : Int) < (xs.length : Int) := by omega
            have q0 := (hr1 (k - 1) x hx).1
            rw [← hol2] at q0
            have g2 : decide (x.d < m) = true := decide_eq_true gx
            have j2 : (0 : Int) ≤ (out.length : Int) - 1 := by omega
            have j3 : (out.length : Int) - 1 < (xs.length : Int) := by omega
            have j4 : ((out.length : Int) - 1).toNat = out.length - 1 := by omega
            clear hr1
            clear k3 k4 hol2
            go_wp2
            go_ret
            exact ⟨ret_bool (by simp), hc6⟩
          · have hol2 := Hol2.out
            obtain ⟨y, hy⟩ : ∃ y, xs[k]? = some y := ⟨xs[k], List.getElem?_eq_getElem hlt⟩
            have gy := k4 k y (Nat.le_refl _) hy
            have z1 : ((out.length : Int) == (xs.length : Int)) = false := by simp; omega
            have z1n : (out.length == xs.length) = false := by simp; omega
            have z2 : ((out.length : Int) == 0) = true := by simp; exact List.eq_nil_of_length_eq_zero (by omega)
            have z2n : (out.length == 0) = true := by simp; exact List.eq_nil_of_length_eq_zero (by omega)
            obtain ⟨b1, o1, eA, hb1, hr1⟩ := Debts.row HkL6.out (by omega)
            injection eA with eA
            subst eA
            have p0 := (hr1 k y hy).1
            rw [← hol2] at p0
            have g1 : decide (m ≤ y.d) = true := decide_eq_true gy
            have j0 : (0 : Int) ≤ (out.length : Int) := by omega
            have j1 : (out.length : Int) < (xs.length : Int) := by omega
            clear hr1
            clear k3 k4 hol2
            go_wp2
            go_ret
            exact ⟨ret_bool (by simp), hc6⟩
        · by_cases hpos : 0 < k
          · have hol2 := Hol2.out
            have z1 : ((out.length : Int) == (xs.length : Int)) = true := by simp; omega
            have z1n : (out.length == xs.length) = true := by simp; omega
            obtain ⟨x, hx⟩ : ∃ x, xs[k - 1]? = some x := ⟨xs[k - 1], List.getElem?_eq_getElem (by omega)⟩
            have gx := k3 (k - 1) x (by omega) hx
            have z2 : ((out.length : Int) == 0) = false := by simp; intro e; subst e; simp at hol2; omega
            have z2n : (out.length == 0) = false := by simp; intro e; subst e; simp at hol2; omega
            obtain ⟨b1, o1, eA, hb1, hr1⟩ := Debts.row HkL6.out (by omega)
            injection eA with eA
            subst eA
            have q0 := (hr1 (k - 1) x hx).1
            rw [← hol2] at q0
            have g2 : decide (x.d < m) = true := decide_eq_true gx
            have j2 : (0 : Int) ≤ (out.length : Int) - 1 := by omega
            have j3 : (out.length : Int) - 1 < (xs.length : Int) := by omega
            have j4 : ((out.length : Int) - 1).toNat = out.length - 1 := by omega
            clear hr1
            clear k3 k4 hol2
            go_wp2
            go_ret
            exact ⟨ret_bool (by simp), hc6⟩
          · have hol2 := Hol2.out
            have z1 : ((out.length : Int) == (xs.length : Int)) = true := by simp; omega
            have z1n : (out.length == xs.length) = true := by simp; omega
            have z2 : ((out.length : Int) == 0) = true := by simp; exact List.eq_nil_of_length_eq_zero (by omega)
            have z2n : (out.length == 0) = true := by simp; exact List.eq_nil_of_length_eq_zero (by omega)
            clear k3 k4 hol2
            go_wp2
            go_ret
            exact ⟨ret_bool (by simp), hc6⟩
    · obtain rfl : V = false := by simpa using hv
      go_wp2_with fail
      refine (specOldDebts_any AL xs.length cL xs m _ (HkL5.out) rfl (by omega)).mono ?_
      rw [hP]
      rintro e w6 ⟨v, rfl, ho, hb6⟩
      obtain ⟨AZ, cZ, rfl, lZ1, lZ2, hr⟩ := ho.form
      have oZ := ho.nilOk
      clear ho
      have Hn6 := Lib.hid hr; clear hr
      have hc6 : Below w.heap.size w w6 := bT hc5 hb6
      have HkL6 := Lib.hid (readsOver HkL5.out hb6)
      clear HkL5
      have HkO6 := Lib.hid (readsOver HkO5.out hb6)
      clear HkO5
      have HkW6 := Lib.hid (readsOver HkW5.out hb6)
      clear HkW5
      clear hb6
      go_wp2_with fail
      refine (equalDebts_any AO AZ _ _ cO cZ out out _ (HkO6.out) (Hn6.out) rfl rfl (by omega) (by omega)).mono ?_
      rw [decide_eq_true (rfl : out = out)]
      rintro e w7 ⟨rfl, hb7⟩
      have hc7 : Below w.heap.size w w7 := bT hc6 hb7
      have HkL7 := Lib.hid (readsOver HkL6.out hb7)
      clear HkL6
      have HkO7 := Lib.hid (readsOver HkO6.out hb7)
      clear HkO6
      have HkW7 := Lib.hid (readsOver HkW6.out hb7)
      clear HkW6
      have HkZ7 := Lib.hid (readsOver Hn6.out hb7)
      clear Hn6
      clear hb7
      go_wp2
      go_ret
      exact ⟨ret_bool (by simp), hc7⟩

set_option maxRecDepth 100000 in
theorem lifted (os : Os) (started : os.Started) (H : Type) (enc : TypeId × Value → H) :
    ReturnsInHanded {} Try.checked os 10 .any (Rows.fnOldDebtsSpec.pre6 enc Try.prog Try.f10 Rows.fnOldDebtsRow.domain false) (Rows.fnOldDebtsSpec.post enc Try.prog Try.f10 false true false false) := by
  refine returnsInHanded_of_change (C := Try.checked) Cells.own started (by kernel_rfl) Try.func10
    (ChangeSpec.witness6 (enc := enc) (C := Try.checked) false ⟨#[], #[.slice none 0 0], []⟩ 8 (by kernel_rfl) (by kernel_rfl) (by kernel_rfl) (by kernel_rfl)) ?_
  intro W base args ds gs before hval0 hW _ _
  have hval : ∀ (j : Nat) t v, Try.f10.params[j]? = some t → args[j]? = some v → Value.okWide Try.prog W .any base t v := hval0
  have hW' := hW
  obtain ⟨p, q, hA0, hV, rfl, _, _⟩ := hW
  have hA : DataW.TrodAll enc Try.prog W 0 (fun _ => true) true Try.f10.params.toList args.toList ds p := hA0
  rw [Try.params10] at hA hval
  obtain ⟨v0, d0, rfl, rfl, h0⟩ := trodAll_one hA
  obtain ⟨rfl, rfl⟩ := trodVars_none hV
  obtain ⟨a0, len, cap, rfl⟩ := okWide_slice Try.underlying22 (hval 0 22 v0 rfl rfl)
  clear hA0 hval0
  simp only [List.append_nil] at hW'
  obtain ⟨hb, hargs⟩ := opened h0 (fun x hx => by simpa using hW'.lt x hx)
  refine (walk a0 len cap W hb).mono fun e W' ⟨he, hnx⟩ => ?_
  subst he
  exact ⟨_, rfl, _, _, _, [], _, [], hW', trodAll_mk1 (shut_bool Try.underlying4 _), trodAll_mk1 (hargs _ hnx), rfl, hnx.frame _, fun h => by cases h⟩

theorem closed : joinedFacts Try.prog 10 Try.f10 Rows.fnOldDebtsSpec Rows.fnOldDebtsRow = true := by
  unfold joinedFacts
  rw [Cells.laidOut, Cells.mapsRowed_, Cells.stops, Cells.stopKnobs, Cells.plainKeys, Cells.stopsHeard, Cells.mayEnter, Cells.liftsFinal, Cells.make]
  kernel_rfl

theorem over : Rows.fnOldDebtsRow.holds Try.pinned (OpenSpec.ofChange Rows.fnOldDebtsSpec) :=
  OpenClaim.holds_of_wide 10 Try.f10 rfl rfl rfl rfl rfl rfl rfl ⟨rfl, rfl, rfl, rfl, rfl⟩ rfl rfl rfl rfl rfl (by kernel_rfl) Try.func10 closed
    (of_decide_eq_true (by kernel_rfl)) (by unfold Func.isWrapper; first | (rw [if_pos (by decide +kernel)]; kernel_rfl) | (rw [if_neg (by decide +kernel)]; exact ⟨rfl, rfl⟩))
    (fun os started H enc _ => lifted os started H enc)

/-- THE STATEMENT -/
theorem proved : Rows.FnOldDebtsSaid := over
#print axioms proved
end Go.Proofs.Ytpdddadplagcpaa.fnOldDebts
