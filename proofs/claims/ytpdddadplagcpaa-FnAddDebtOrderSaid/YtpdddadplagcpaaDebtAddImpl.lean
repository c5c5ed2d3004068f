/-
  Chapter 16: the program's AddDebt.
-/
import Derived.Test.YtpdddadplagcpaaDebtAdd
import Derived.Test.YtpdddadplagcpaaInsDebt
set_option linter.unusedSimpArgs false
namespace Go.Proofs.Ytpdddadplagcpaa
open Go.RowKit Go.Deep
set_option linter.unusedVariables false

theorem debts_set (a' : Int) : ∀ (xs : List Fares.Debt) (i : Nat) (y : Fares.Debt), xs[i]? = some y → (xs.flatMap debtCells).set (i * 2 + 1) (.int .i64 a') = (xs.set i ⟨y.d, a'⟩).flatMap debtCells
  | [], i, y, h => by simp at h
  | x :: xs, 0, y, h => by
    simp at h
    subst h
    simp [debtCells]
  | x :: xs, i + 1, y, h => by
    have ih := debts_set a' xs i y (by simpa using h)
    rw [List.flatMap_cons, List.set_cons_succ, List.flatMap_cons, ← ih]
    rw [show (i + 1) * 2 + 1 = (debtCells x).length + (i * 2 + 1) by show (i + 1) * 2 + 1 = 2 + (i * 2 + 1); omega]
    rw [List.set_append_right _ _ (by omega), Nat.add_sub_cancel_left]

set_option maxRecDepth 100000 in
set_option maxHeartbeats 4000000 in
theorem implAddDebt_any (A : Option Addr) (n c : Nat) (xs : List Fares.Debt) (day m : Int) (w : World) (hx : Debts w w.heap.size A xs) (hn : xs.length = n) (hl : n ≤ 1000000000) (hA : NilOk A n c) (hnc : n ≤ c) (hcm : c ≤ maxLen) :
    Calls Try.prog 25 #[.slice A n c, .int .i64 day, .int .i64 m] w (AddsDebt xs day m w) := by
  subst hn
  have Hx := Lib.hid hx; clear hx
  have Hbad : Hid (¬ (Fares.validDebts xs = true ∧ Fares.debtOk ⟨day, m⟩ = true) → Fares.addDebt xs day m = ([], false)) := fun h => by
    unfold Fares.addDebt
    exact if_neg (fun g => h ⟨g.1, g.2.1⟩)
  go_enter Try.func25, Try.ntmps25
  go_wp2_with fail
  generalize hW : World.alloc _ _ = w0
  have hb0 : Below w.heap.size w w0 := by rw [← hW]; exact bA (Below.refl _ _) _
  have hbx0 : Blk w0 w.heap.size 37 #[.int .i64 day, .int .i64 m] := by rw [← hW]; exact Blk.new w _ _
  clear hW
  refine (implValidDebts_any A _ c xs _ (readsOver Hx.out hb0) rfl (by omega)).mono ?_
  rintro e w1 ⟨rfl, hb1⟩
  have hb : Below w.heap.size w w1 := bT hb0 hb1
  have Hbx := Lib.hid (hbx0.below hb1 hbx0.lt)
  clear hb1 hb0 hbx0
  cases hv : Fares.validDebts xs
  · have hE := Hbad.out (fun h => by rw [hv] at h; exact absurd h.1 (by simp))
    have HE := Lib.hid hE; clear hE
    go_wp2
    go_ret2
    exact ⟨_, by rw [HE.out]; rfl, by rw [HE.out]; exact OwnDebts.none_ _ _, hb⟩
  · have c0 := Hbx.out.cell 0
    have c1 := Hbx.out.cell 1
    go_wp2_with fail
    refine (implDebtvalid_any ⟨day, m⟩ _).mono ?_
    rintro e w2 ⟨rfl, hb2⟩
    have hc2 : Below w.heap.size w w2 := bT hb hb2
    have Hbx2 := Lib.hid (Hbx.out.below hb2 Hbx.out.lt)
    clear hb2 c0 c1 Hbx
    cases ho : Fares.debtOk ⟨day, m⟩
    · have hE := Hbad.out (fun h => by rw [ho] at h; exact absurd h.2 (by simp))
      have HE := Lib.hid hE; clear hE
      go_wp2
      go_ret2
      exact ⟨_, by rw [HE.out]; rfl, by rw [HE.out]; exact OwnDebts.none_ _ _, hc2⟩
    · have hok := (Fares.validDebts_iff xs).1 hv
      have hlen := hok.length
      have Hok := Lib.hid hok; clear hok
      have Hgood : Hid (Fares.addDebt xs day m = if Fares.validDebts (Fares.addRes xs day m) = true then (Fares.addRes xs day m, true) else ([], false)) := by
        show _ = _
        unfold Fares.addDebt
        by_cases hr : Fares.validDebts (Fares.addRes xs day m) = true
        · rw [if_pos ⟨hv, ho, hr⟩, if_pos hr]
        · rw [if_neg (fun h => hr h.2.2), if_neg hr]
      have hm : 1 ≤ m ∧ m ≤ 100000 := by
        unfold Fares.debtOk at ho
        rw [decide_eq_true_eq] at ho
        exact ho.2.2
      obtain ⟨m0, m1⟩ := hm
      clear Hbad
      have hcb : w.heap.size ≤ w2.heap.size := hc2.size
      go_wp2_with fail
      refine (cloneDebts_any A xs.length c xs _ (readsOver Hx.out hc2) rfl hA (by omega)).mono ?_
      rintro e w3 ⟨v, rfl, hown, hb3⟩
      have hc3 : Below w.heap.size w w3 := bT hc2 hb3
      have Hbx3 := Lib.hid (Hbx2.out.below hb3 Hbx2.out.lt)
      have hown' := hown.base hcb
      clear hown
      obtain ⟨Av, cv, rfl, hcv1, hcv2, hr3⟩ := hown'.form
      have Hr3 := Lib.hid hr3; clear hr3
      have Hown3 := Lib.hid hown'; clear hown' hb3
      go_wp2_with fail
      refine (placeOf_any Av xs.length cv xs day _ Hr3.out rfl (by omega) Hok.out.2).mono ?_
      rintro e w4 ⟨i, rfl, hi, hs, hb4⟩
      have hc4 : Below w.heap.size w w4 := bT hc3 hb4
      have Hbx4 := Lib.hid (Hbx3.out.below hb4 Hbx3.out.lt)
      have Hown4 := Lib.hid (Hown3.out.below hb4)
      clear hb4 Hr3
      have i0 : (0 : Int) ≤ (i : Int) := by omega
      cases hf : foundAt xs day i
      · have hnew : Fares.addRes xs day m = xs.take i ++ ⟨day, m⟩ :: xs.drop i := Fares.addRes_new Hok.out.2 hi hs.1 hs.2 (fun x hx => by
          unfold foundAt at hf
          rw [hx] at hf
          simpa using hf)
        have Hnew := Lib.hid hnew; clear hnew hs
        have c0 := Hbx4.out.cell 0
        have c1 := Hbx4.out.cell 1
        go_wp2_with fail
        generalize hW : World.alloc _ _ = w5
        have hb5 : Below w4.heap.size w4 w5 := by rw [← hW]; exact bA (Below.refl _ _) _
        have hvb : Blk w5 w4.heap.size 37 #[.int .i64 day, .int .i64 m] := by rw [← hW]; exact Blk.new w4 _ _
        have hc5 : Below w.heap.size w w5 := bT hc4 hb5
        have Hown5 := Lib.hid (Hown4.out.below hb5)
        clear hW c0 c1
        refine (insDebt_any w.heap.size w4.heap.size Av xs.length cv i xs ⟨day, m⟩ w5 Hown5.out rfl hvb (fun a ha e => by
          subst ha
          have := (World.ownsRow.lt Hown4.out a.block rfl).2
          omega) hi (by omega) hc5.size).mono ?_
        rintro e w6 ⟨v, rfl, hown6, hb6⟩
        have hc6 : Below w.heap.size w w6 := hc5.trans hb6
        rw [← Hnew.out] at hown6
        have hrl := Fares.addRes_length xs day m
        obtain ⟨R, hR⟩ : ∃ R, Fares.addRes xs day m = R := ⟨_, rfl⟩
        have Hg2 : Hid (Fares.addDebt xs day m = if Fares.validDebts R = true then (R, true) else ([], false)) := by rw [← hR]; exact Hgood
        rw [hR] at hown6 hrl
        obtain ⟨Aw, cw, rfl, hcw1, hcw2, hrr⟩ := hown6.form
        have Hown6 := Lib.hid hown6; clear hown6
        have Hrr := Lib.hid hrr; clear hrr hb5 hb6 hvb
        go_wp2_with fail
        refine (implValidDebts_any Aw R.length cw R _ Hrr.out rfl (by omega)).mono ?_
        rintro e w7 ⟨rfl, hb7⟩
        cases hq : Fares.validDebts R
        · have hE : Fares.addDebt xs day m = ([], false) := by rw [show Fares.addDebt xs day m = _ from Hg2.out, hq]; rfl
          have HE := Lib.hid hE; clear hE
          go_wp2
          go_ret2
          exact ⟨_, by rw [HE.out]; rfl, by rw [HE.out]; exact OwnDebts.none_ _ _, bT hc6 hb7⟩
        · have hE : Fares.addDebt xs day m = (R, true) := by rw [show Fares.addDebt xs day m = _ from Hg2.out, hq]; rfl
          have HE := Lib.hid hE; clear hE
          go_wp2
          go_ret2
          exact ⟨_, by rw [HE.out]; rfl, by rw [HE.out]; exact Hown6.out.below hb7, bT hc6 hb7⟩
      · obtain ⟨y, hy, hyd⟩ : ∃ y, xs[i]? = some y ∧ y.d = day := by
          unfold foundAt at hf
          cases hq : xs[i]? with
          | none => rw [hq] at hf; cases hf
          | some y => rw [hq] at hf; exact ⟨y, rfl, by simpa using hf⟩
        have hil : i < xs.length := (List.getElem?_eq_some_iff.1 hy).1
        obtain ⟨_, _, a0, a1⟩ := Hok.out.1 y (List.mem_of_getElem? hy)
        have hold := Fares.addRes_old (m := m) Hok.out.2 hy hyd
        have Hold := Lib.hid hold; clear hold hs
        have hown := Hown4.out
        unfold OwnDebts at hown
        obtain ⟨g, cap, e, hg1, hg2, hg3⟩ := own_some hown (by omega)
        injection e with e1 e2 e3
        subst e1 e3
        obtain ⟨cs, hblk⟩ := own_blk hown
        have f0 := hblk.free (i * 2 + 1)
        have q1 : w4.cell? ⟨g, i * 2 + 1, none⟩ = some (.int .i64 y.a) := by
          have h := World.ownsRow.cells hown (g := g) rfl
          have h1 := h (i * 2 + 1) (.int .i64 y.a) (by rw [flat_get debtCells 2 (fun _ => rfl) xs i 1 (by omega), hy]; rfl)
          rw [Addr.add_mid, Nat.zero_add] at h1
          exact h1
        have Hset := Lib.hid (own_setCell (i := i * 2 + 1) (.int .i64 (y.a + m)) hown (by rw [debtFlat_length]; omega))
        have Hds := Lib.hid (debts_set (y.a + m) xs i y hy)
        clear hown hblk hy hyd
        have i1 : (i : Int) < (xs.length : Int) := by omega
        have W1 : IntKind.i64.wrap (y.a + m) = y.a + m := IntWalk.i64_in _ (by omega)
        go_wp2_with fail
        generalize hW : World.setCell _ _ _ = w5
        have hown5 : OwnDebts w5 w.heap.size (.slice (some ⟨g, 0, none⟩) xs.length cv) (Fares.addRes xs day m) := by
          rw [Hold.out]
          unfold OwnDebts
          rw [← Hds.out, List.length_set, ← hW]
          exact Hset.out
        have hc5 : Below w.heap.size w w5 := by rw [← hW]; exact bS hc4 (by show w.heap.size ≤ g; omega) _
        clear hW
        have hrl := Fares.addRes_length xs day m
        have hrl2 : (Fares.addRes xs day m).length = xs.length := by rw [Hold.out, List.length_set]
        obtain ⟨R, hR⟩ : ∃ R, Fares.addRes xs day m = R := ⟨_, rfl⟩
        have Hg2 : Hid (Fares.addDebt xs day m = if Fares.validDebts R = true then (R, true) else ([], false)) := by rw [← hR]; exact Hgood
        rw [hR] at hown5 hrl hrl2
        obtain ⟨_, _, e9, _, _, hrr⟩ := hown5.form
        injection e9 with e91 e92 e93
        subst e91 e93
        have Hown5 := Lib.hid hown5; clear hown5 e92
        have Hrr := Lib.hid hrr; clear hrr
        refine (implValidDebts_any _ xs.length cv R _ Hrr.out hrl2 (by omega)).mono ?_
        rintro e w7 ⟨rfl, hb7⟩
        cases hq : Fares.validDebts R
        · have hE : Fares.addDebt xs day m = ([], false) := by rw [show Fares.addDebt xs day m = _ from Hg2.out, hq]; rfl
          have HE := Lib.hid hE; clear hE
          go_wp2
          go_ret2
          exact ⟨_, by rw [HE.out]; rfl, by rw [HE.out]; exact OwnDebts.none_ _ _, bT hc5 hb7⟩
        · have hE : Fares.addDebt xs day m = (R, true) := by rw [show Fares.addDebt xs day m = _ from Hg2.out, hq]; rfl
          have HE := Lib.hid hE; clear hE
          go_wp2
          go_ret2
          exact ⟨_, by rw [HE.out]; rfl, by rw [HE.out]; exact Hown5.out.below hb7, bT hc5 hb7⟩
end Go.Proofs.Ytpdddadplagcpaa
