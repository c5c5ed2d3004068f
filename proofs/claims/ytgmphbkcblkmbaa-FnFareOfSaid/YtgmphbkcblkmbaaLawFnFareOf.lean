/-
  At every code the law FnFareOf returns true: FareOf of the program answers as its model, and peaks cost as the extra asks. No conditions.
-/
import Derived.Test.YtgmphbkcblkmbaaFareFn
import Derived.Test.YtgmphbkcblkmbaaDrawsFare
import Derived.Test.YtgmphbkcblkmbaaLiftBytes
set_option linter.unusedSimpArgs false
namespace Go.Proofs.Ytgmphbkcblkmbaa.fnFareOf
open Go.ChangeShapes Go.WideShapes Go.ChangeAt Go.RowKit Go.Deep
set_option linter.unusedVariables false

theorem fareOf_some {t : Fares.Tariff} {a b m : Int} (h : ¬ Fares.fareOf t a b m < 0) : ∃ x y : Nat, a = x ∧ b = y ∧ x < t.z.length ∧ y < t.z.length ∧ Fares.validTariff t = true ∧ Fares.minuteOk m = true ∧ Fares.fareOf t a b m = Fares.fare t x y m := by
  by_cases hh : (Fares.validTariff t && Fares.hasStop t a && Fares.hasStop t b && Fares.minuteOk m) = true
  · have h2 := hh
    simp only [Bool.and_eq_true, Fares.hasStop, decide_eq_true_eq] at h2
    refine ⟨a.toNat, b.toNat, by omega, by omega, by omega, by omega, h2.1.1.1, h2.2, ?_⟩
    unfold Fares.fareOf
    rw [hh]; rfl
  · exfalso
    unfold Fares.fareOf at h
    rw [if_neg hh] at h
    omega
theorem drewn {w : World} {v : TariffR} (h : TariffIn w w.heap.size v) : TariffIn w.drew w.drew.heap.size v := h.over (bD1 (Below.refl _ _))
set_option maxRecDepth 100000 in
set_option maxHeartbeats 2000000 in
theorem walk (A : Option Addr) (n c : Nat) (w : World) (h : Bytes w w.heap.size A n c) : Calls Try.prog 5 #[.slice A n c] w (TrueBelow w) := by
  by_cases hn : 1048576 < n
  · go_enter Try.func5, Try.ntmps5
    go_wp2
    go_ret
    exact ⟨rfl, Below.refl _ _⟩
  · go_enter Try.func5, Try.ntmps5
    have Hh := Lib.hid h; clear h
    go_wp2_with fail
    refine (drawFareOf_any A n c w Hh.out).mono ?_
    rintro e w0 ⟨u, f, t, m, rfl, hin0, hsm, h3, hc0⟩
    rw [if_pos rfl]
    have Hsm := Lib.hid hsm; clear hsm
    have hk := Hsm.out.2.2.2
    have Hin0 := Lib.hid hin0; clear hin0
    unfold tariffV
    go_wp2_with fail
    generalize hW : World.alloc _ _ = w1
    have hT1 : Blk w1 w0.heap.size 27 u.cells := by rw [← hW]; exact Blk.new w0 _ _
    have HB1 : Hid (Below w.heap.size w w1) := Lib.hid (by rw [← hW]; exact bA hc0 _)
    have Hin1 : Hid (TariffIn w1 w1.heap.size u) := Lib.hid (by rw [← hW]; exact Hin0.out.up _)
    clear hW hc0 Hin0
    have Htv1 := Lib.hid hT1; clear hT1
    obtain ⟨N, hN⟩ : ∃ N, N = Fares.fareOf u.of f t m := ⟨_, rfl⟩
    have HN := Lib.hid hN; clear hN
    refine (implFareOf_any u f t m _ Hin1.out Hsm.out).mono ?_
    rintro e w2 ⟨rfl, hb2⟩
    rw [← HN.out]
    have HB2 := Lib.hid (bT HB1.out hb2)
    clear HB1
    have Htv2 := Lib.hid (Blk.belowAll Htv1.out hb2)
    clear Htv1
    have Hin2 := Lib.hid (TariffIn.over Hin1.out hb2)
    clear Hin1
    clear hb2
    obtain ⟨t2_0, t2_1, t2_2, t2_3, t2_4⟩ := tariffCells (t := 27) (Htv2.out)
    go_wp2_with fail
    refine (specFareOf_any u f t m _ Hin2.out Hsm.out).mono ?_
    rintro e w3 ⟨rfl, hb3⟩
    rw [← HN.out]
    have HB3 := Lib.hid (bT HB2.out hb3)
    clear HB2
    have Htv3 := Lib.hid (Blk.belowAll Htv2.out hb3)
    clear Htv2
    have Hin3 := Lib.hid (TariffIn.over Hin2.out hb3)
    clear Hin2
    clear hb3
    clear t2_0 t2_1 t2_2 t2_3 t2_4
    obtain ⟨t3_0, t3_1, t3_2, t3_3, t3_4⟩ := tariffCells (t := 27) (Htv3.out)
    by_cases hneg : N < 0
    · have hneg' : decide (N < 0) = true := by simpa using hneg
      go_wp2_with fail
      refine (specFareOf_any u f t m _ Hin3.out Hsm.out).mono ?_
      rintro e w4 ⟨rfl, hb4⟩
      rw [← HN.out]
      have HB4 := Lib.hid (bT HB3.out hb4)
      clear HB3
      have Htv4 := Lib.hid (Blk.belowAll Htv3.out hb4)
      clear Htv3
      have Hin4 := Lib.hid (TariffIn.over Hin3.out hb4)
      clear Hin3
      clear hb4
      clear t3_0 t3_1 t3_2 t3_3 t3_4
      obtain ⟨t4_0, t4_1, t4_2, t4_3, t4_4⟩ := tariffCells (t := 27) (Htv4.out)
      go_wp2
      go_ret
      exact ⟨rfl, HB4.out⟩
    · have hneg' : decide (N < 0) = false := by simpa using hneg
      obtain ⟨x, y, rfl, rfl, hx, hy, hv, hm, hf⟩ := fareOf_some (t := u.of) (a := f) (b := t) (m := m) (by rw [← HN.out]; exact hneg)
      have Hb := Lib.hid (Fares.basePrice_yes hv hx hy)
      have Hpk := Lib.hid (Fares.isPeak_of (xs := u.k) (m := m) (Fares.validTariff_iff.1 hv).2.2.1 hm)
      obtain ⟨p, hp⟩ : ∃ p, p = Fares.base u.of x y := ⟨_, rfl⟩
      obtain ⟨x0, x1⟩ := Fares.base_bounds hv hx hy
      obtain ⟨e0, e1⟩ : 0 ≤ u.e ∧ u.e ≤ 100 := Fares.extra_bounds hv
      rw [← hp] at x0 x1 Hb
      obtain ⟨m2, m3, m4⟩ := Fares.mul_bounds x0 x1 e0 e1
      have Hf := Lib.hid (HN.out.trans hf)
      have Hp := Lib.hid hp; clear hp hf
      have Hv := Lib.hid hv
      have Hx := Lib.hid (show x < u.z.length from hx)
      have Hy := Lib.hid (show y < u.z.length from hy)
      have Hm := Lib.hid hm
      clear hv hx hy hm
      clear hneg
      go_wp2_with fail
      refine (implBasePrice_any u (x : Int) (y : Int) _ Hin3.out Hsm.out).mono ?_
      rintro e w4 ⟨rfl, hb4⟩
      rw [Hb.out]
      have HB4 := Lib.hid (bT HB3.out hb4)
      clear HB3
      have Htv4 := Lib.hid (Blk.belowAll Htv3.out hb4)
      clear Htv3
      have Hin4 := Lib.hid (TariffIn.over Hin3.out hb4)
      clear Hin3
      clear hb4
      clear t3_0 t3_1 t3_2 t3_3 t3_4
      obtain ⟨t4_0, t4_1, t4_2, t4_3, t4_4⟩ := tariffCells (t := 27) (Htv4.out)
      cases hq : Fares.peakAt u.k m
      · have hN : N = p := by rw [Hf.out]; unfold Fares.fare; rw [show Fares.peakAt u.of.k m = false from hq, ← Hp.out]; simp
        have Hq := Lib.hid hq; clear hq
        subst hN
        go_wp2_with fail
        refine (implIsPeak_any u.kA u.k.length u.kc u.k m _ (Hin4.out).2.2.1 rfl (by omega)).mono ?_
        rintro e w5 ⟨rfl, hb5⟩
        rw [Hpk.out, Hq.out]
        have HB5 := Lib.hid (bT HB4.out hb5)
        clear HB4
        have Htv5 := Lib.hid (Blk.belowAll Htv4.out hb5)
        clear Htv4
        have Hin5 := Lib.hid (TariffIn.over Hin4.out hb5)
        clear Hin4
        clear hb5
        clear t4_0 t4_1 t4_2 t4_3 t4_4
        obtain ⟨t5_0, t5_1, t5_2, t5_3, t5_4⟩ := tariffCells (t := 27) (Htv5.out)
        go_wp2
        go_ret
        exact ⟨ret_bool (by first | rfl | simp_all | (simp; omega)), HB5.out⟩
      · have hN : N = p + p * u.e / 100 := by rw [Hf.out]; unfold Fares.fare; rw [show Fares.peakAt u.of.k m = true from hq, ← Hp.out]; first | rfl | (simp only [if_true]; rfl)
        have Hq := Lib.hid hq; clear hq
        obtain ⟨P, hP⟩ : ∃ P, P = p * u.e := ⟨_, rfl⟩
        obtain ⟨dd, hdd⟩ : ∃ dd, dd = P / 100 := ⟨_, rfl⟩
        rw [← hP] at m2 m3 m4
        rw [← hP, ← hdd] at hN
        have d0 : 0 ≤ dd := by omega
        have d1 : 100 * dd ≤ P := by omega
        have d2 : P < 100 * (dd + 1) := by omega
        have d3 : dd ≤ 2000 := by omega
        have HP := Lib.hid hP
        subst hN
        have k1 : p ≤ p + dd := by omega
        have k2 : p + dd - p = dd := by omega
        have k3 : decide (100 * dd ≤ P) = true := by simpa using d1
        have k4 : decide (P < 100 * (dd + 1)) = true := by simpa using d2
        have wP : IntKind.i64.wrap P = P := IntWalk.i64_in _ (by omega)
        have hPe : p * u.e = P := HP.out.symm
        clear hP hdd m4
        go_wp2_with fail
        refine (implIsPeak_any u.kA u.k.length u.kc u.k m _ (Hin4.out).2.2.1 rfl (by omega)).mono ?_
        rintro e w5 ⟨rfl, hb5⟩
        rw [Hpk.out, Hq.out]
        have HB5 := Lib.hid (bT HB4.out hb5)
        clear HB4
        have Htv5 := Lib.hid (Blk.belowAll Htv4.out hb5)
        clear Htv4
        have Hin5 := Lib.hid (TariffIn.over Hin4.out hb5)
        clear Hin4
        clear hb5
        clear t4_0 t4_1 t4_2 t4_3 t4_4
        obtain ⟨t5_0, t5_1, t5_2, t5_3, t5_4⟩ := tariffCells (t := 27) (Htv5.out)
        go_wp2
        go_ret
        exact ⟨ret_bool (by first | rfl | simp_all | (simp; omega)), HB5.out⟩

set_option maxRecDepth 100000 in
theorem lifted (os : Os) (started : os.Started) (H : Type) (enc : TypeId × Value → H) :
    ReturnsInHanded {} Try.checked os 5 .any (Rows.fnFareOfSpec.pre6 enc Try.prog Try.f5 Rows.fnFareOfRow.domain false) (Rows.fnFareOfSpec.post enc Try.prog Try.f5 false true false false) := by
  refine returnsInHanded_of_change (C := Try.checked) Cells.own started (by kernel_rfl) Try.func5
    (ChangeSpec.witness6 (enc := enc) (C := Try.checked) false ⟨#[], #[.slice none 0 0], []⟩ 8 (by kernel_rfl) (by kernel_rfl) (by kernel_rfl) (by kernel_rfl)) ?_
  intro W base args ds gs before hval0 hW _ _
  have hval : ∀ (j : Nat) t v, Try.f5.params[j]? = some t → args[j]? = some v → Value.okWide Try.prog W .any base t v := hval0
  have hW' := hW
  obtain ⟨p, q, hA0, hV, rfl, _, _⟩ := hW
  have hA : DataW.TrodAll enc Try.prog W 0 (fun _ => true) true Try.f5.params.toList args.toList ds p := hA0
  rw [Try.params5] at hA hval
  obtain ⟨v0, d0, rfl, rfl, h0⟩ := trodAll_one hA
  obtain ⟨rfl, rfl⟩ := trodVars_none hV
  obtain ⟨a0, len, cap, rfl⟩ := okWide_slice Try.underlying22 (hval 0 22 v0 rfl rfl)
  clear hA0 hval0
  simp only [List.append_nil] at hW'
  obtain ⟨hb, hargs⟩ := opened h0 (fun x hx => by simpa using hW'.lt x hx)
  refine (walk a0 len cap W hb).mono fun e W' ⟨he, hnx⟩ => ?_
  subst he
  exact ⟨_, rfl, _, _, _, [], _, [], hW', trodAll_mk1 (shut_bool Try.underlying4 _), trodAll_mk1 (hargs _ hnx), rfl, hnx.frame _, fun h => by cases h⟩

theorem closed : joinedFacts Try.prog 5 Try.f5 Rows.fnFareOfSpec Rows.fnFareOfRow = true := by
  unfold joinedFacts
  rw [Cells.laidOut, Cells.mapsRowed_, Cells.stops, Cells.stopKnobs, Cells.plainKeys, Cells.stopsHeard, Cells.mayEnter, Cells.liftsFinal, Cells.make]
  kernel_rfl

theorem over : Rows.fnFareOfRow.holds Try.pinned (OpenSpec.ofChange Rows.fnFareOfSpec) :=
  OpenClaim.holds_of_wide 5 Try.f5 rfl rfl rfl rfl rfl rfl rfl ⟨rfl, rfl, rfl, rfl, rfl⟩ rfl rfl rfl rfl rfl (by kernel_rfl) Try.func5 closed
    (of_decide_eq_true (by kernel_rfl)) (by unfold Func.isWrapper; first | (rw [if_pos (by decide +kernel)]; kernel_rfl) | (rw [if_neg (by decide +kernel)]; exact ⟨rfl, rfl⟩))
    (fun os started H enc _ => lifted os started H enc)

/-- THE STATEMENT -/
theorem proved : Rows.FnFareOfSaid := over
#print axioms proved
end Go.Proofs.Ytgmphbkcblkmbaa.fnFareOf
