/-
  Charges have days: for every code, with the journeys and amounts drawn from it, the law FnChargesOf returns true and leaves the code as it was. No conditions.
-/
import Derived.Test.YtnahdclmfegmeaaDrawChargesOf
import Derived.Test.YtnahdclmfegmeaaChargesOf
import Derived.Test.YtnahdclmfegmeaaChargesLaw
import Derived.Test.YtnahdclmfegmeaaEqualCharge
import Derived.Test.YtnahdclmfegmeaaCapImpl
import Derived.Test.YtnahdclmfegmeaaCapLaw
import Derived.Test.YtnahdclmfegmeaaOver2
import Derived.Test.YtnahdclmfegmeaaLiftBytes
import Derived.Test.YtnahdclmfegmeaaLiftBytes
namespace Go.Proofs.Ytnahdclmfegmeaa.fnChargesOf
open Go.ChangeShapes Go.WideShapes Go.ChangeAt Go.RowKit
set_option linter.unusedVariables false

set_option maxRecDepth 100000 in
set_option maxHeartbeats 2000000 in
theorem walk (A : Option Addr) (n c : Nat) (w : World) (h : Bytes w w.heap.size A n c) : Calls Try.prog 22 #[.slice A n c] w (TrueBelow w) := by
  by_cases hn : 1048576 < n
  · go_enter Try.func22, Try.ntmps22
    go_wp2
    go_ret
    exact ⟨rfl, Below.refl _ _⟩
  · go_enter Try.func22, Try.ntmps22
    have Hh := Lib.hid h; clear h
    go_wp2_with fail
    refine (drawChargesOf_any A n c w Hh.out).mono ?_
    rintro e w1 ⟨v, ys, Aa, na, ca, am, rfl, hown1, hlen, hsm, hia, hna, hnl, hb1⟩
    obtain ⟨Av, cv, rfl, hcv1, hcv2, hrs1⟩ := OwnJourneys.form hown1
    unfold maxLen at hcv2
    have HB1 := Lib.hid hb1; clear hb1
    have Hxs1 := Lib.hid hrs1; clear hrs1
    have Ham1 := Lib.hid hia; clear hia
    have Hna := Lib.hid hna; clear hna
    clear hsm hown1
    obtain ⟨C, hC⟩ : ∃ C, C = (Fares.chargesOf ys am).1 := ⟨_, rfl⟩
    obtain ⟨ok, hok⟩ : ∃ ok, ok = (Fares.chargesOf ys am).2 := ⟨_, rfl⟩
    have hCl : C.length ≤ 24 := by rw [hC]; exact Fares.chargesOf_length ys am
    have HC := Lib.hid hC; clear hC
    have HO := Lib.hid hok; clear hok
    go_wp2_with fail
    refine (implChargesOf_any Av Aa _ cv na ca ys am _ Hxs1.out Ham1.out rfl Hna.out (by omega) (by omega)).mono ?_
    rintro e w2 ⟨vout, rfl, hown, hb2⟩
    rw [← HC.out] at hown
    rw [← HO.out]
    obtain ⟨Aout, cout, rfl, hcout1, hcout2, hrout⟩ := OwnCharges.form hown
    unfold maxLen at hcout2
    have Hout0 := Lib.hid hrout; clear hrout hown
    have HB2 := Lib.hid (bT HB1.out hb2)
    clear HB1
    have Hxs2 := Lib.hid (readsOver Hxs1.out hb2)
    clear Hxs1
    have Ham2 := Lib.hid (readsOver Ham1.out hb2)
    clear Ham1
    clear hb2
    go_wp2_with fail
    refine (specChargesOf_any Av Aa _ cv na ca ys am _ Hxs2.out Ham2.out rfl Hna.out (by omega) (by omega)).mono ?_
    rintro e w3 ⟨vwant, rfl, hown, hb3⟩
    rw [← HC.out] at hown
    rw [← HO.out]
    obtain ⟨Awant, cwant, rfl, hcwant1, hcwant2, hrwant⟩ := OwnCharges.form hown
    unfold maxLen at hcwant2
    have Hwant0 := Lib.hid hrwant; clear hrwant hown
    have HB3 := Lib.hid (bT HB2.out hb3)
    clear HB2
    have Hxs3 := Lib.hid (readsOver Hxs2.out hb3)
    clear Hxs2
    have Ham3 := Lib.hid (readsOver Ham2.out hb3)
    clear Ham2
    have Hout3 := Lib.hid (readsOver Hout0.out hb3)
    clear Hout0
    clear hb3
    go_wp2_with fail
    refine (equalCharges_any Aout Awant _ _ cout cwant C C _ Hout3.out Hwant0.out rfl rfl (by omega) (by omega)).mono ?_
    rintro e w4 ⟨rfl, hb4⟩
    rw [decide_eq_true (rfl : C = C)]
    have HB4 := Lib.hid (bT HB3.out hb4)
    clear HB3
    have Hxs4 := Lib.hid (readsOver Hxs3.out hb4)
    clear Hxs3
    have Ham4 := Lib.hid (readsOver Ham3.out hb4)
    clear Ham3
    have Hout4 := Lib.hid (readsOver Hout3.out hb4)
    clear Hout3
    have Hwant4 := Lib.hid (readsOver Hwant0.out hb4)
    clear Hwant0
    clear hb4
    by_cases hk : ok = true
    · obtain ⟨hv, hal, hao, hCe⟩ := Fares.chargesOf_ok (xs := ys) (am := am) (by rw [← HO.out]; exact hk)
      rw [← HC.out] at hCe
      clear HO
      subst hk
      have hlv := Fares.length_of_valid hv
      have hCl2 : C.length = ys.length := by rw [hCe, Fares.chargeList_length]; omega
      have hvc : Fares.validCharges C = true := by rw [hCe]; exact Fares.chargeList_valid hv hal hao
      have HR := Lib.hid (show (Fares.capCharges C 50000 50000).length = ys.length by rw [Fares.capCharges_valid hvc (by decide) (by decide), Fares.capRun_length C _ _ _ (Nat.le_refl _)]; exact hCl2)
      have HV := Lib.hid hv; clear hv
      have hal1 : am.length ≤ ys.length := by omega
      have hal2 : ys.length ≤ am.length := by omega
      clear hal hao hvc HC
      have hc1 : ((C.length : Int) == (ys.length : Int)) = true := by rw [beq_iff_eq]; omega
      have HCl2 := Lib.hid hCl2
      have hcl3 : C.length ≤ ys.length := by omega
      have hcl4 : ys.length ≤ C.length := by omega
      clear hCl2
      have HCe := Lib.hid hCe; clear hCe
      have HBo := Lib.hid (Below.refl w4.heap.size w4)
      go_wp2
      go_loopw [9] (fun i wr => ∃ k : Nat, k ≤ C.length ∧ i = .int .i64 k ∧ Below w4.heap.size w4 wr) (fun i _ => C.length - (intOf i).toNat)
      case atStart => exact ⟨0, Nat.zero_le _, rfl, Below.refl _ _⟩
      case round =>
        obtain ⟨k, hk, rfl, hb⟩ := hrel
        have hszr := hb.size
        clear HBo
        have HBo := Lib.hid hb; clear hb
        by_cases hlt : k < C.length
        · obtain ⟨x, hx⟩ : ∃ x, ys[k]? = some x := ⟨_, List.getElem?_eq_getElem (show k < ys.length by omega)⟩
          obtain ⟨a, ha⟩ : ∃ a, am[k]? = some a := ⟨_, List.getElem?_eq_getElem (show k < am.length by omega)⟩
          have hc := Fares.chargeList_get hx ha
          rw [← HCe.out] at hc
          have hxj := Fares.journey_in (Fares.validJourney_of HV.out hx)
          obtain ⟨x0, x01, x02, _, _⟩ := hxj
          have x1 : x.x ≤ 40319 := by omega
          obtain ⟨b1, o1, rfl, hb1, hr1⟩ := Journeys.row (readsOver Hxs4.out HBo.out) (by omega)
          obtain ⟨b2, o2, rfl, hb2, hr2⟩ := Ints.row (readsOver Ham4.out HBo.out) (by omega)
          obtain ⟨b3, o3, rfl, hb3, hr3⟩ := Charges.row (readsOver Hout4.out HBo.out) (by omega)
          have HF1 := Lib.hid (show CF wr b1 (o1 + k * 5 + 2) (.int .i64 x.x) from ⟨(hr1 k x hx).2.2.1, hb1⟩)
          have HF2 := Lib.hid (show CF wr b2 (o2 + k) (.int .i64 a) from ⟨hr2 k a ha, hb2⟩)
          have HF3 := Lib.hid (show CF wr b3 (o3 + k * 2) (.int .i64 ((x.x + 1200) / 1440)) from ⟨(hr3 k _ hc).1, hb3⟩)
          have HF4 := Lib.hid (show CF wr b3 (o3 + k * 2 + 1) (.int .i64 a) from ⟨(hr3 k _ hc).2, hb3⟩)
          clear hr1 hr2 hr3 hx ha hc
          have i0 : (0 : Int) ≤ (k : Int) := by omega
          have i1 : (k : Int) < (ys.length : Int) := by omega
          have i2 : (k : Int) < (am.length : Int) := by omega
          have i3 : (k : Int) < (C.length : Int) := by omega
          have n1 := Hna.out
          clear n1
          obtain rfl : am.length = na := Hna.out
          go_wp2
          refine wp_region_held_drew (S := fun w' => w'.cell? ⟨b1, o1 + k * 5 + 2, none⟩ = some (.int .i64 x.x) ∧ w'.cell? ⟨b2, o2 + k, none⟩ = some (.int .i64 a) ∧ w'.cell? ⟨b3, o3 + k * 2, none⟩ = some (.int .i64 ((x.x + 1200) / 1440)) ∧ w'.cell? ⟨b3, o3 + k * 2 + 1, none⟩ = some (.int .i64 a)) (by kernel_rfl) (by exact ⟨(HF1.out).1, (HF2.out).1, (HF3.out).1, (HF4.out).1⟩) (fun hS => ?_)
          refine take_at 0 57 (v := ?_) rfl rfl (by kernel_rfl) (by kernel_rfl) (by kernel_rfl) (fun _ _ _ h => h) (by rfl) ?_ hS ?_
          rotate_left 1
          · (intro w hSw; (try dsimp only at hSw); (try go_split_ands); go_simp; try with_reducible rfl)
          simp only [List.setIfInBounds_toArray, List.set_cons_zero, List.set_cons_succ]
          refine take_at 1 58 (v := ?_) rfl rfl (by kernel_rfl) (by kernel_rfl) (by kernel_rfl) (fun _ _ _ h => h) (by rfl) ?_ hS ?_
          rotate_left 1
          · (intro w hSw; (try dsimp only at hSw); (try go_split_ands); go_simp; try with_reducible rfl)
          simp only [List.setIfInBounds_toArray, List.set_cons_zero, List.set_cons_succ]
          refine take_at 2 59 (v := ?_) rfl rfl (by kernel_rfl) (by kernel_rfl) (by kernel_rfl) (fun _ _ _ h => h) (by rfl) ?_ hS ?_
          rotate_left 1
          · (intro w hSw; (try dsimp only at hSw); (try go_split_ands); go_simp; try with_reducible rfl)
          simp only [List.setIfInBounds_toArray, List.set_cons_zero, List.set_cons_succ]
          refine take_at 3 60 (v := ?_) rfl rfl (by kernel_rfl) (by kernel_rfl) (by kernel_rfl) (fun _ _ _ h => h) (by rfl) ?_ hS ?_
          rotate_left 1
          · (intro w hSw; (try dsimp only at hSw); (try go_split_ands); go_simp; try with_reducible rfl)
          simp only [List.setIfInBounds_toArray, List.set_cons_zero, List.set_cons_succ]
          refine take_at 4 61 (v := ?_) rfl rfl (by kernel_rfl) (by kernel_rfl) (by kernel_rfl) (fun _ _ _ h => h) (by rfl) ?_ hS ?_
          rotate_left 1
          · (intro w hSw; (try dsimp only at hSw); (try go_split_ands); go_simp; try with_reducible rfl)
          simp only [List.setIfInBounds_toArray, List.set_cons_zero, List.set_cons_succ]
          refine take_at 5 62 (v := ?_) rfl rfl (by kernel_rfl) (by kernel_rfl) (by kernel_rfl) (fun _ _ _ h => h) (by rfl) ?_ hS ?_
          rotate_left 1
          · (intro w hSw; (try dsimp only at hSw); (try go_split_ands); go_simp; try with_reducible rfl)
          simp only [List.setIfInBounds_toArray, List.set_cons_zero, List.set_cons_succ]
          refine take_at 6 63 (v := ?_) rfl rfl (by kernel_rfl) (by kernel_rfl) (by kernel_rfl) (fun _ _ _ h => h) (by rfl) ?_ hS ?_
          rotate_left 1
          · (intro w hSw; (try dsimp only at hSw); (try go_split_ands); go_simp; try with_reducible rfl)
          simp only [List.setIfInBounds_toArray, List.set_cons_zero, List.set_cons_succ]
          refine take_at 7 64 (v := ?_) rfl rfl (by kernel_rfl) (by kernel_rfl) (by kernel_rfl) (fun _ _ _ h => h) (by rfl) ?_ hS ?_
          rotate_left 1
          · (intro w hSw; (try dsimp only at hSw); (try go_split_ands); go_simp; try with_reducible rfl)
          simp only [List.setIfInBounds_toArray, List.set_cons_zero, List.set_cons_succ]
          refine take_at 8 65 (v := ?_) rfl rfl (by kernel_rfl) (by kernel_rfl) (by kernel_rfl) (fun _ _ _ h => h) (by rfl) ?_ hS ?_
          rotate_left 1
          · (intro w hSw; (try dsimp only at hSw); (try go_split_ands); go_simp; try with_reducible rfl)
          simp only [List.setIfInBounds_toArray, List.set_cons_zero, List.set_cons_succ]
          refine take_at 9 66 (v := ?_) rfl rfl (by kernel_rfl) (by kernel_rfl) (by kernel_rfl) (fun _ _ _ h => h) (by rfl) ?_ hS ?_
          rotate_left 1
          · (intro w hSw; (try dsimp only at hSw); (try go_split_ands); go_simp; try with_reducible rfl)
          simp only [List.setIfInBounds_toArray, List.set_cons_zero, List.set_cons_succ]
          refine take_at 10 67 (v := ?_) rfl rfl (by kernel_rfl) (by kernel_rfl) (by kernel_rfl) (fun _ _ _ h => h) (by rfl) ?_ hS ?_
          rotate_left 1
          · (intro w hSw; (try dsimp only at hSw); (try go_split_ands); go_simp; try with_reducible rfl)
          simp only [List.setIfInBounds_toArray, List.set_cons_zero, List.set_cons_succ]
          refine take_at 11 68 (v := ?_) rfl rfl (by kernel_rfl) (by kernel_rfl) (by kernel_rfl) (fun _ _ _ h => h) (by rfl) ?_ hS ?_
          rotate_left 1
          · (intro w hSw; (try dsimp only at hSw); (try go_split_ands); go_simp; try with_reducible rfl)
          simp only [List.setIfInBounds_toArray, List.set_cons_zero, List.set_cons_succ]
          refine take_at 12 69 (v := ?_) rfl rfl (by kernel_rfl) (by kernel_rfl) (by kernel_rfl) (fun _ _ _ h => h) (by rfl) ?_ hS ?_
          rotate_left 1
          · (intro w hSw; (try dsimp only at hSw); (try go_split_ands); go_simp; try with_reducible rfl)
          simp only [List.setIfInBounds_toArray, List.set_cons_zero, List.set_cons_succ]
          refine take_at 13 70 (v := ?_) rfl rfl (by kernel_rfl) (by kernel_rfl) (by kernel_rfl) (fun _ _ _ h => h) (by rfl) ?_ hS ?_
          rotate_left 1
          · (intro w hSw; (try dsimp only at hSw); (try go_split_ands); go_simp; try with_reducible rfl)
          simp only [List.setIfInBounds_toArray, List.set_cons_zero, List.set_cons_succ]
          refine take_at 14 71 (v := ?_) rfl rfl (by kernel_rfl) (by kernel_rfl) (by kernel_rfl) (fun _ _ _ h => h) (by rfl) ?_ hS ?_
          rotate_left 1
          · (intro w hSw; (try dsimp only at hSw); (try go_split_ands); go_simp; try with_reducible rfl)
          simp only [List.setIfInBounds_toArray, List.set_cons_zero, List.set_cons_succ]
          refine take_at 15 72 (v := ?_) rfl rfl (by kernel_rfl) (by kernel_rfl) (by kernel_rfl) (fun _ _ _ h => h) (by rfl) ?_ hS ?_
          rotate_left 1
          · (intro w hSw; (try dsimp only at hSw); (try go_split_ands); go_simp; try with_reducible rfl)
          simp only [List.setIfInBounds_toArray, List.set_cons_zero, List.set_cons_succ]
          refine take_at 16 73 (v := ?_) rfl rfl (by kernel_rfl) (by kernel_rfl) (by kernel_rfl) (fun _ _ _ h => h) (by rfl) ?_ hS ?_
          rotate_left 1
          · (intro w hSw; (try dsimp only at hSw); (try go_split_ands); go_simp; try with_reducible rfl)
          simp only [List.setIfInBounds_toArray, List.set_cons_zero, List.set_cons_succ]
          refine take_at 17 74 (v := ?_) rfl rfl (by kernel_rfl) (by kernel_rfl) (by kernel_rfl) (fun _ _ _ h => h) (by rfl) ?_ hS ?_
          rotate_left 1
          · (intro w hSw; (try dsimp only at hSw); (try go_split_ands); go_simp; try with_reducible rfl)
          simp only [List.setIfInBounds_toArray, List.set_cons_zero, List.set_cons_succ]
          refine take_at 18 75 (v := ?_) rfl rfl (by kernel_rfl) (by kernel_rfl) (by kernel_rfl) (fun _ _ _ h => h) (by rfl) ?_ hS ?_
          rotate_left 1
          · (intro w hSw; (try dsimp only at hSw); (try go_split_ands); go_simp; try with_reducible rfl)
          simp only [List.setIfInBounds_toArray, List.set_cons_zero, List.set_cons_succ]
          refine take_at 19 76 (v := ?_) rfl rfl (by kernel_rfl) (by kernel_rfl) (by kernel_rfl) (fun _ _ _ h => h) (by rfl) ?_ hS ?_
          rotate_left 1
          · (intro w hSw; (try dsimp only at hSw); (try go_split_ands); go_simp; try with_reducible rfl)
          simp only [List.setIfInBounds_toArray, List.set_cons_zero, List.set_cons_succ]
          refine take_at 20 77 (v := ?_) rfl rfl (by kernel_rfl) (by kernel_rfl) (by kernel_rfl) (fun _ _ _ h => h) (by rfl) ?_ hS ?_
          rotate_left 1
          · (intro w hSw; (try dsimp only at hSw); (try go_split_ands); go_simp; try with_reducible rfl)
          simp only [List.setIfInBounds_toArray, List.set_cons_zero, List.set_cons_succ]
          refine wpAnyH_ready (rs := [21]) (by kernel_rfl) (by simp) ?_
          refine AllReadyH.cons rfl (fun K hK => ?_) (AllReadyH.nil)
          go_simp
          go_wp2_with fail
          refine (serviceDay_in x.x _ x0 x1).mono ?_
          rintro e w' ⟨rfl, rfl⟩
          go_simp
          refine hK.out _ _ (by exact ⟨((CF.drew HF1.out)).1, ((CF.drew HF2.out)).1, ((CF.drew HF3.out)).1, ((CF.drew HF4.out)).1⟩) (fun hS => ?_)
          clear hK K
          refine take_at 22 79 (v := ?_) rfl rfl (by kernel_rfl) (by kernel_rfl) (by kernel_rfl) (fun _ _ _ h => h) (by rfl) ?_ hS ?_
          rotate_left 1
          · (intro w hSw; (try dsimp only at hSw); (try go_split_ands); go_simp; try with_reducible rfl)
          simp only [List.setIfInBounds_toArray, List.set_cons_zero, List.set_cons_succ]
          refine take_at 23 80 (v := ?_) rfl rfl (by kernel_rfl) (by kernel_rfl) (by kernel_rfl) (fun _ _ _ h => h) (by rfl) ?_ hS ?_
          rotate_left 1
          · (intro w hSw; (try dsimp only at hSw); (try go_split_ands); go_simp; try with_reducible rfl)
          simp only [List.setIfInBounds_toArray, List.set_cons_zero, List.set_cons_succ]
          refine wpAnyH_done (by kernel_rfl) ?_ _
          go_wp2
          go_roundw
          case rel => exact ⟨k + 1, by omega, by go_num, (bD1 HBo.out)⟩
          case measure => simp [intOf]; omega
        · have HL := Lib.hid (show k = C.length by omega)
          go_wp2_with fail
          refine (implCapCharges_any Aout _ cout C 50000 50000 _ (readsOver Hout4.out HBo.out) rfl (by omega)).mono ?_
          rintro e w16 ⟨vr, rfl, hownr, hb16⟩
          obtain ⟨Ar, cr, rfl, hcr1, hcr2, hrr⟩ := OwnInts.form hownr
          clear hrr hownr
          rw [HR.out]
          have HBo16 := Lib.hid (bT HBo.out hb16)
          clear HBo
          clear hb16
          go_wp2
          go_ret
          exact ⟨ret_bool (by simp), bT HB4.out HBo16.out⟩
    · obtain rfl : ok = false := by simpa using hk
      clear hk
      go_wp2_with fail
      refine (equalCharges_any Aout Awant _ _ cout cwant C C _ Hout4.out Hwant4.out rfl rfl (by omega) (by omega)).mono ?_
      rintro e w5 ⟨rfl, hb5⟩
      rw [decide_eq_true (rfl : C = C)]
      have HB5 := Lib.hid (bT HB4.out hb5)
      clear HB4
      have Hxs5 := Lib.hid (readsOver Hxs4.out hb5)
      clear Hxs4
      have Ham5 := Lib.hid (readsOver Ham4.out hb5)
      clear Ham4
      have Hout5 := Lib.hid (readsOver Hout4.out hb5)
      clear Hout4
      have Hwant5 := Lib.hid (readsOver Hwant4.out hb5)
      clear Hwant4
      clear hb5
      go_wp2
      go_ret
      exact ⟨rfl, HB5.out⟩

set_option maxRecDepth 100000 in
theorem lifted (os : Os) (started : os.Started) (H : Type) (enc : TypeId × Value → H) :
    ReturnsInHanded {} Try.checked os 22 .any (Rows.fnChargesOfSpec.pre6 enc Try.prog Try.f22 Rows.fnChargesOfRow.domain false) (Rows.fnChargesOfSpec.post enc Try.prog Try.f22 false true false false) := by
  refine returnsInHanded_of_change (C := Try.checked) Cells.own started (by kernel_rfl) Try.func22
    (ChangeSpec.witness6 (enc := enc) (C := Try.checked) false ⟨#[], #[.slice none 0 0], []⟩ 8 (by kernel_rfl) (by kernel_rfl) (by kernel_rfl) (by kernel_rfl)) ?_
  intro W base args ds gs before hval0 hW _ _
  have hval : ∀ (j : Nat) t v, Try.f22.params[j]? = some t → args[j]? = some v → Value.okWide Try.prog W .any base t v := hval0
  have hW' := hW
  obtain ⟨p, q, hA0, hV, rfl, _, _⟩ := hW
  have hA : DataW.TrodAll enc Try.prog W 0 (fun _ => true) true Try.f22.params.toList args.toList ds p := hA0
  rw [Try.params22] at hA hval
  obtain ⟨v0, d0, rfl, rfl, h0⟩ := trodAll_one hA
  obtain ⟨rfl, rfl⟩ := trodVars_none hV
  obtain ⟨a0, len, cap, rfl⟩ := okWide_slice Try.underlying22 (hval 0 22 v0 rfl rfl)
  clear hA0 hval0
  simp only [List.append_nil] at hW'
  obtain ⟨hb, hargs⟩ := opened h0 (fun x hx => by simpa using hW'.lt x hx)
  refine (walk a0 len cap W hb).mono fun e W' ⟨he, hnx⟩ => ?_
  subst he
  exact ⟨_, rfl, _, _, _, [], _, [], hW', trodAll_mk1 (shut_bool Try.underlying4 _), trodAll_mk1 (hargs _ hnx), rfl, hnx.frame _, fun h => by cases h⟩

theorem closed : joinedFacts Try.prog 22 Try.f22 Rows.fnChargesOfSpec Rows.fnChargesOfRow = true := by
  unfold joinedFacts
  rw [Cells.laidOut, Cells.mapsRowed_, Cells.stops, Cells.stopKnobs, Cells.plainKeys, Cells.stopsHeard, Cells.mayEnter, Cells.liftsFinal, Cells.make]
  kernel_rfl

theorem over : Rows.fnChargesOfRow.holds Try.pinned (OpenSpec.ofChange Rows.fnChargesOfSpec) :=
  OpenClaim.holds_of_wide 22 Try.f22 rfl rfl rfl rfl rfl rfl rfl ⟨rfl, rfl, rfl, rfl, rfl⟩ rfl rfl rfl rfl rfl (by kernel_rfl) Try.func22 closed
    (of_decide_eq_true (by kernel_rfl)) (by unfold Func.isWrapper; first | (rw [if_pos (by decide +kernel)]; kernel_rfl) | (rw [if_neg (by decide +kernel)]; exact ⟨rfl, rfl⟩))
    (fun os started H enc _ => lifted os started H enc)

/-- THE STATEMENT -/
theorem proved : Rows.FnChargesOfSaid := over
#print axioms proved
end Go.Proofs.Ytnahdclmfegmeaa.fnChargesOf
