/-
  Minutes add up: for every code, with the journeys drawn from it, the law FnRideMinutes returns true and leaves the code as it was. No conditions.
-/
import Derived.Test.YtnahdclmfegmeaaDrawsJour
import Derived.Test.YtnahdclmfegmeaaJourSum
import Derived.Test.YtnahdclmfegmeaaJourLaw
import Derived.Test.YtnahdclmfegmeaaLinkLaw
import Derived.Test.YtnahdclmfegmeaaOver2
import Derived.Test.YtnahdclmfegmeaaAppendSrc
import Derived.Test.YtnahdclmfegmeaaLiftBytes
import Derived.Test.YtnahdclmfegmeaaLiftBytes
namespace Go.Proofs.Ytnahdclmfegmeaa.fnRideMinutes
open Go.ChangeShapes Go.WideShapes Go.ChangeAt Go.RowKit
set_option linter.unusedVariables false

set_option maxRecDepth 100000 in
set_option maxHeartbeats 2000000 in
theorem walk (A : Option Addr) (n c : Nat) (w : World) (h : Bytes w w.heap.size A n c) : Calls Try.prog 17 #[.slice A n c] w (TrueBelow w) := by
  by_cases hn : 1048576 < n
  · go_enter Try.func17, Try.ntmps17
    go_wp2
    go_ret
    exact ⟨rfl, Below.refl _ _⟩
  · go_enter Try.func17, Try.ntmps17
    have Hh := Lib.hid h; clear h
    go_wp2_with fail
    refine (drawRideMinutes_any A n c w Hh.out).mono ?_
    rintro e w1 ⟨v, ys, rfl, hown1, hlen, hsm, hb1⟩
    obtain ⟨Av, cv, rfl, hcv1, hcv2, hrs1⟩ := OwnJourneys.form hown1
    unfold maxLen at hcv2
    have HB1 := Lib.hid hb1; clear hb1
    have Hxs1 := Lib.hid hrs1; clear hrs1
    have Hsm := Lib.hid hsm; clear hsm hown1
    obtain ⟨R, hR⟩ : ∃ R, R = Fares.rideMinutes ys := ⟨_, rfl⟩
    have HR := Lib.hid hR; clear hR
    go_wp2_with fail
    refine (implRideMinutes_any Av _ cv ys _ Hxs1.out rfl (by omega)).mono ?_
    rintro e w2 ⟨rfl, hb2⟩
    rw [← HR.out]
    have HB2 := Lib.hid (bT HB1.out hb2)
    clear HB1
    have Hxs2 := Lib.hid (readsOver Hxs1.out hb2)
    clear Hxs1
    clear hb2
    go_wp2_with fail
    refine (specRideMinutes_any Av _ cv ys _ Hxs2.out rfl (by omega)).mono ?_
    rintro e w3 ⟨rfl, hb3⟩
    rw [← HR.out]
    have HB3 := Lib.hid (bT HB2.out hb3)
    clear HB2
    have Hxs3 := Lib.hid (readsOver Hxs2.out hb3)
    clear Hxs2
    clear hb3
    by_cases hr : 0 ≤ R
    · have hrd : decide (R < 0) = false := by rw [decide_eq_false_iff_not]; omega
      by_cases hl : ys.length = 0
      · have hl1 : ((ys.length : Int) == 0) = true := by rw [beq_iff_eq]; omega
        have Hl := Lib.hid hl; clear hl
        go_wp2_with fail
        refine (specRideMinutes_any Av _ cv ys _ Hxs3.out rfl (by omega)).mono ?_
        rintro e w4 ⟨rfl, hb4⟩
        rw [← HR.out]
        have HB4 := Lib.hid (bT HB3.out hb4)
        clear HB3
        have Hxs4 := Lib.hid (readsOver Hxs3.out hb4)
        clear Hxs3
        clear hb4
        go_wp2
        go_ret
        exact ⟨rfl, HB4.out⟩
      · have hl1 : ((ys.length : Int) == 0) = false := by rw [beq_eq_false_iff_ne]; omega
        obtain ⟨hv, hs⟩ := Fares.rideMinutes_ok (xs := ys) (by rw [← HR.out]; exact hr)
        have hRs : R = Fares.rideSum ys := by rw [HR.out]; exact hs
        clear hs
        obtain ⟨m, hm⟩ : ∃ m, ys.length = m + 1 := ⟨ys.length - 1, by omega⟩
        obtain ⟨x0, hx0⟩ : ∃ x, ys[0]? = some x := ⟨_, List.getElem?_eq_getElem (show 0 < ys.length by omega)⟩
        obtain ⟨xl, hxl⟩ : ∃ x, ys[m]? = some x := ⟨_, List.getElem?_eq_getElem (show m < ys.length by omega)⟩
        have hspan := Fares.rideSum_first hv hx0 (show ys[ys.length - 1]? = some xl by rw [hm]; exact hxl)
        rw [← hRs] at hspan
        have b0 := Fares.journey_in (Fares.validJourney_of hv hx0)
        have bl := Fares.journey_in (Fares.validJourney_of hv hxl)
        obtain ⟨b01, b02, b03, _, _⟩ := b0
        obtain ⟨bl1, bl2, bl3, _, _⟩ := bl
        obtain ⟨k, hk⟩ : ∃ k, k = ys.length / 2 := ⟨_, rfl⟩
        have hkl : k < ys.length := by omega
        obtain ⟨p1, hp1⟩ : ∃ p, p = Fares.rideSum (ys.take k) := ⟨_, rfl⟩
        obtain ⟨p2, hp2⟩ : ∃ p, p = Fares.rideSum (ys.drop k) := ⟨_, rfl⟩
        have hp : p1 + p2 = R := by rw [hp1, hp2, hRs]; exact Fares.rideSum_parts ys k
        have hw : IntKind.i64.wrap (p1 + p2) = R := by rw [hp]; exact IntWalk.i64_in _ (by omega)
        have HP1 := Lib.hid (show Fares.rideMinutes (ys.take k) = p1 by rw [hp1]; exact Fares.rideMinutes_of (Fares.valid_take hv k))
        have HP2 := Lib.hid (show Fares.rideMinutes (ys.drop k) = p2 by rw [hp2]; exact Fares.rideMinutes_of (Fares.valid_drop hv k))
        clear hp1 hp2 hp hRs hv
        have Hk2 := Lib.hid (show (ys.take k).length = k by rw [List.length_take]; omega)
        have Hk3 := Lib.hid (show (ys.drop k).length = ys.length - k by rw [List.length_drop])
        have hkd : (ys.length : Int) / 2 = (k : Int) := by omega
        have hkt : (ys.length : Int).tdiv 2 = (k : Int) := by rw [Int.tdiv_eq_ediv_of_nonneg (by omega)]; omega
        have i0 : (0 : Int) ≤ (k : Int) := by omega
        have i1 : (k : Int) ≤ (cv : Int) := by omega
        have i3 : (k : Int) ≤ (ys.length : Int) := by omega
        have hck : ¬ cv = k := by omega
        clear hk
        obtain ⟨bx, ox, rfl, hbx, hrow⟩ := Journeys.row Hxs3.out (by omega)
        obtain ⟨_, _, q2, _, _⟩ := hrow 0 x0 hx0
        obtain ⟨_, _, _, q3, _⟩ := hrow m xl hxl
        clear hrow
        have Hx0 := Lib.hid hx0; clear hx0
        have Hxl := Lib.hid hxl; clear hxl
        have hcf0 : CF w3 bx (ox + 2) (.int .i64 x0.x) := ⟨by simpa using q2, hbx⟩
        have Hcf0 := Lib.hid hcf0; clear hcf0 q2
        have hcf1 : CF w3 bx (ox + m * 5 + 3) (.int .i64 xl.y) := ⟨q3, hbx⟩
        have Hcf1 := Lib.hid hcf1; clear hcf1 q3
        have Hm := Lib.hid hm
        have w1e : IntKind.i64.wrap ((ys.length : Int) - 1) = (m : Int) := by rw [IntWalk.i64_in _ (by omega)]; omega
        have w2e : IntKind.i64.wrap (xl.y - x0.x) = xl.y - x0.x := IntWalk.i64_in _ (by omega)
        have i5 : (0 : Int) ≤ (m : Int) := by omega
        have i6 : (m : Int) < (ys.length : Int) := by omega
        have hle : decide (R ≤ xl.y - x0.x) = true := decide_eq_true hspan
        have hlp : 0 < ys.length := by omega
        clear hm
        go_wp2
        clear hkd hkt
        refine wp_region_held_drew (S := fun w' => w'.cell? ⟨bx, ox + 2, none⟩ = some (.int .i64 x0.x) ∧ w'.cell? ⟨bx, ox + m * 5 + 3, none⟩ = some (.int .i64 xl.y)) (by kernel_rfl) (by exact ⟨(Hcf0.out).1, (Hcf1.out).1⟩) (fun hS => ?_)
        refine take_at 0 33 (v := ?_) rfl rfl (by kernel_rfl) (by kernel_rfl) (by kernel_rfl) (fun _ _ _ h => h) (by rfl) ?_ hS ?_
        rotate_left 1
        · (intro w hSw; (try dsimp only at hSw); (try go_split_ands); go_simp; try with_reducible rfl)
        simp only [List.setIfInBounds_toArray, List.set_cons_zero, List.set_cons_succ]
        refine take_at 1 34 (v := ?_) rfl rfl (by kernel_rfl) (by kernel_rfl) (by kernel_rfl) (fun _ _ _ h => h) (by rfl) ?_ hS ?_
        rotate_left 1
        · (intro w hSw; (try dsimp only at hSw); (try go_split_ands); go_simp; try with_reducible rfl)
        simp only [List.setIfInBounds_toArray, List.set_cons_zero, List.set_cons_succ]
        refine take_at 2 35 (v := ?_) rfl rfl (by kernel_rfl) (by kernel_rfl) (by kernel_rfl) (fun _ _ _ h => h) (by rfl) ?_ hS ?_
        rotate_left 1
        · (intro w hSw; (try dsimp only at hSw); (try go_split_ands); go_simp; try with_reducible rfl)
        simp only [List.setIfInBounds_toArray, List.set_cons_zero, List.set_cons_succ]
        refine take_at 4 37 (v := ?_) rfl rfl (by kernel_rfl) (by kernel_rfl) (by kernel_rfl) (fun _ _ _ h => h) (by rfl) ?_ hS ?_
        rotate_left 1
        · (intro w hSw; (try dsimp only at hSw); (try go_split_ands); go_simp; try with_reducible rfl)
        simp only [List.setIfInBounds_toArray, List.set_cons_zero, List.set_cons_succ]
        refine take_at 5 38 (v := ?_) rfl rfl (by kernel_rfl) (by kernel_rfl) (by kernel_rfl) (fun _ _ _ h => h) (by rfl) ?_ hS ?_
        rotate_left 1
        · (intro w hSw; (try dsimp only at hSw); (try go_split_ands); go_simp; try with_reducible rfl)
        simp only [List.setIfInBounds_toArray, List.set_cons_zero, List.set_cons_succ]
        refine take_at 6 39 (v := ?_) rfl rfl (by kernel_rfl) (by kernel_rfl) (by kernel_rfl) (fun _ _ _ h => h) (by rfl) ?_ hS ?_
        rotate_left 1
        · (intro w hSw; (try dsimp only at hSw); (try go_split_ands); go_simp; try with_reducible rfl)
        simp only [List.setIfInBounds_toArray, List.set_cons_zero, List.set_cons_succ]
        refine take_at 9 42 (v := ?_) rfl rfl (by kernel_rfl) (by kernel_rfl) (by kernel_rfl) (fun _ _ _ h => h) (by rfl) ?_ hS ?_
        rotate_left 1
        · (intro w hSw; (try dsimp only at hSw); (try go_split_ands); go_simp; try with_reducible rfl)
        simp only [List.setIfInBounds_toArray, List.set_cons_zero, List.set_cons_succ]
        refine wpAnyH_ready (rs := [3]) (by kernel_rfl) (by simp) ?_
        refine AllReadyH.cons rfl (fun K hK => ?_) (AllReadyH.nil)
        go_simp
        go_wp2_with fail
        refine (implRideMinutes_any (some ⟨bx, ox, none⟩) k cv (ys.take k) _ (reads_take journeyCells 5 (fun _ => rfl) (readsDrew Hxs3.out) k) Hk2.out (by omega)).mono ?_
        rintro e w4 ⟨rfl, hb4⟩
        rw [HP1.out]
        have HB4 := Lib.hid (bT (bD1 HB3.out) hb4)
        clear HB3
        have Hxs4 := Lib.hid (readsOver (readsDrew Hxs3.out) hb4)
        clear Hxs3
        have Hc04 := Lib.hid (CF.over (CF.drew Hcf0.out) hb4)
        clear Hcf0
        have Hc14 := Lib.hid (CF.over (CF.drew Hcf1.out) hb4)
        clear Hcf1
        clear hb4
        go_simp
        refine hK.out _ _ (by exact ⟨(Hc04.out).1, (Hc14.out).1⟩) (fun hS => ?_)
        clear hK K
        refine wpAnyH_ready (rs := [7]) (by kernel_rfl) (by simp) ?_
        refine AllReadyH.cons rfl (fun K hK => ?_) (AllReadyH.nil)
        go_simp
        go_wp2_with fail
        refine (implRideMinutes_any (some ⟨bx, ox + k * 5, none⟩) _ _ (ys.drop k) _ (reads_from journeyCells 5 (fun _ => rfl) Hxs4.out k (by omega)) Hk3.out (by omega)).mono ?_
        rintro e w5 ⟨rfl, hb5⟩
        rw [HP2.out]
        have HB5 := Lib.hid (bT HB4.out hb5)
        clear HB4
        have Hxs5 := Lib.hid (readsOver Hxs4.out hb5)
        clear Hxs4
        have Hc05 := Lib.hid (CF.over Hc04.out hb5)
        clear Hc04
        have Hc15 := Lib.hid (CF.over Hc14.out hb5)
        clear Hc14
        clear hb5
        go_simp
        refine hK.out _ _ (by exact ⟨(Hc05.out).1, (Hc15.out).1⟩) (fun hS => ?_)
        clear hK K
        refine take_at 8 41 (v := ?_) rfl rfl (by kernel_rfl) (by kernel_rfl) (by kernel_rfl) (fun _ _ _ h => h) (by rfl) ?_ hS ?_
        rotate_left 1
        · (intro w hSw; (try dsimp only at hSw); (try go_split_ands); go_simp; try with_reducible rfl)
        simp only [List.setIfInBounds_toArray, List.set_cons_zero, List.set_cons_succ]
        refine take_at 10 43 (v := ?_) rfl rfl (by kernel_rfl) (by kernel_rfl) (by kernel_rfl) (fun _ _ _ h => h) (by rfl) ?_ hS ?_
        rotate_left 1
        · (intro w hSw; (try dsimp only at hSw); (try go_split_ands); go_simp; try with_reducible rfl)
        simp only [List.setIfInBounds_toArray, List.set_cons_zero, List.set_cons_succ]
        refine take_at 11 44 (v := ?_) rfl rfl (by kernel_rfl) (by kernel_rfl) (by kernel_rfl) (fun _ _ _ h => h) (by rfl) ?_ hS ?_
        rotate_left 1
        · (intro w hSw; (try dsimp only at hSw); (try go_split_ands); go_simp; try with_reducible rfl)
        simp only [List.setIfInBounds_toArray, List.set_cons_zero, List.set_cons_succ]
        refine take_at 12 45 (v := ?_) rfl rfl (by kernel_rfl) (by kernel_rfl) (by kernel_rfl) (fun _ _ _ h => h) (by rfl) ?_ hS ?_
        rotate_left 1
        · (intro w hSw; (try dsimp only at hSw); (try go_split_ands); go_simp; try with_reducible rfl)
        simp only [List.setIfInBounds_toArray, List.set_cons_zero, List.set_cons_succ]
        refine take_at 13 46 (v := ?_) rfl rfl (by kernel_rfl) (by kernel_rfl) (by kernel_rfl) (fun _ _ _ h => h) (by rfl) ?_ hS ?_
        rotate_left 1
        · (intro w hSw; (try dsimp only at hSw); (try go_split_ands); go_simp; try with_reducible rfl)
        simp only [List.setIfInBounds_toArray, List.set_cons_zero, List.set_cons_succ]
        refine take_at 14 47 (v := ?_) rfl rfl (by kernel_rfl) (by kernel_rfl) (by kernel_rfl) (fun _ _ _ h => h) (by rfl) ?_ hS ?_
        rotate_left 1
        · (intro w hSw; (try dsimp only at hSw); (try go_split_ands); go_simp; try with_reducible rfl)
        simp only [List.setIfInBounds_toArray, List.set_cons_zero, List.set_cons_succ]
        refine take_at 15 48 (v := ?_) rfl rfl (by kernel_rfl) (by kernel_rfl) (by kernel_rfl) (fun _ _ _ h => h) (by rfl) ?_ hS ?_
        rotate_left 1
        · (intro w hSw; (try dsimp only at hSw); (try go_split_ands); go_simp; try with_reducible rfl)
        simp only [List.setIfInBounds_toArray, List.set_cons_zero, List.set_cons_succ]
        refine take_at 16 49 (v := ?_) rfl rfl (by kernel_rfl) (by kernel_rfl) (by kernel_rfl) (fun _ _ _ h => h) (by rfl) ?_ hS ?_
        rotate_left 1
        · (intro w hSw; (try dsimp only at hSw); (try go_split_ands); go_simp; try with_reducible rfl)
        simp only [List.setIfInBounds_toArray, List.set_cons_zero, List.set_cons_succ]
        refine take_at 17 50 (v := ?_) rfl rfl (by kernel_rfl) (by kernel_rfl) (by kernel_rfl) (fun _ _ _ h => h) (by rfl) ?_ hS ?_
        rotate_left 1
        · (intro w hSw; (try dsimp only at hSw); (try go_split_ands); go_simp; try with_reducible rfl)
        simp only [List.setIfInBounds_toArray, List.set_cons_zero, List.set_cons_succ]
        refine take_at 18 51 (v := ?_) rfl rfl (by kernel_rfl) (by kernel_rfl) (by kernel_rfl) (fun _ _ _ h => h) (by rfl) ?_ hS ?_
        rotate_left 1
        · (intro w hSw; (try dsimp only at hSw); (try go_split_ands); go_simp; try with_reducible rfl)
        simp only [List.setIfInBounds_toArray, List.set_cons_zero, List.set_cons_succ]
        refine take_at 19 52 (v := ?_) rfl rfl (by kernel_rfl) (by kernel_rfl) (by kernel_rfl) (fun _ _ _ h => h) (by rfl) ?_ hS ?_
        rotate_left 1
        · (intro w hSw; (try dsimp only at hSw); (try go_split_ands); go_simp; try with_reducible rfl)
        simp only [List.setIfInBounds_toArray, List.set_cons_zero, List.set_cons_succ]
        refine take_at 20 53 (v := ?_) rfl rfl (by kernel_rfl) (by kernel_rfl) (by kernel_rfl) (fun _ _ _ h => h) (by rfl) ?_ hS ?_
        rotate_left 1
        · (intro w hSw; (try dsimp only at hSw); (try go_split_ands); go_simp; try with_reducible rfl)
        simp only [List.setIfInBounds_toArray, List.set_cons_zero, List.set_cons_succ]
        refine take_at 21 54 (v := ?_) rfl rfl (by kernel_rfl) (by kernel_rfl) (by kernel_rfl) (fun _ _ _ h => h) (by rfl) ?_ hS ?_
        rotate_left 1
        · (intro w hSw; (try dsimp only at hSw); (try go_split_ands); go_simp; try with_reducible rfl)
        simp only [List.setIfInBounds_toArray, List.set_cons_zero, List.set_cons_succ]
        refine take_at 22 55 (v := ?_) rfl rfl (by kernel_rfl) (by kernel_rfl) (by kernel_rfl) (fun _ _ _ h => h) (by rfl) ?_ hS ?_
        rotate_left 1
        · (intro w hSw; (try dsimp only at hSw); (try go_split_ands); go_simp; try with_reducible rfl)
        simp only [List.setIfInBounds_toArray, List.set_cons_zero, List.set_cons_succ]
        refine take_at 23 56 (v := ?_) rfl rfl (by kernel_rfl) (by kernel_rfl) (by kernel_rfl) (fun _ _ _ h => h) (by rfl) ?_ hS ?_
        rotate_left 1
        · (intro w hSw; (try dsimp only at hSw); (try go_split_ands); go_simp; try with_reducible rfl)
        simp only [List.setIfInBounds_toArray, List.set_cons_zero, List.set_cons_succ]
        refine take_at 24 57 (v := ?_) rfl rfl (by kernel_rfl) (by kernel_rfl) (by kernel_rfl) (fun _ _ _ h => h) (by rfl) ?_ hS ?_
        rotate_left 1
        · (intro w hSw; (try dsimp only at hSw); (try go_split_ands); go_simp; try with_reducible rfl)
        simp only [List.setIfInBounds_toArray, List.set_cons_zero, List.set_cons_succ]
        refine take_at 25 58 (v := ?_) rfl rfl (by kernel_rfl) (by kernel_rfl) (by kernel_rfl) (fun _ _ _ h => h) (by rfl) ?_ hS ?_
        rotate_left 1
        · (intro w hSw; (try dsimp only at hSw); (try go_split_ands); go_simp; try with_reducible rfl)
        simp only [List.setIfInBounds_toArray, List.set_cons_zero, List.set_cons_succ]
        refine take_at 26 59 (v := ?_) rfl rfl (by kernel_rfl) (by kernel_rfl) (by kernel_rfl) (fun _ _ _ h => h) (by rfl) ?_ hS ?_
        rotate_left 1
        · (intro w hSw; (try dsimp only at hSw); (try go_split_ands); go_simp; try with_reducible rfl)
        simp only [List.setIfInBounds_toArray, List.set_cons_zero, List.set_cons_succ]
        refine take_at 27 2 (v := ?_) rfl rfl (by kernel_rfl) (by kernel_rfl) (by kernel_rfl) (fun _ _ _ h => h) (by rfl) ?_ hS ?_
        rotate_left 1
        · (intro w hSw; (try dsimp only at hSw); (try go_split_ands); go_simp; try with_reducible rfl)
        simp only [List.setIfInBounds_toArray, List.set_cons_zero, List.set_cons_succ]
        refine wpAnyH_done (by kernel_rfl) ?_ _
        go_wp2
        go_ret
        exact ⟨ret_bool (by simp), HB5.out⟩
    · have hr1 : R < 0 := by omega
      clear hr
      go_wp2_with fail
      refine (specRideMinutes_any Av _ cv ys _ Hxs3.out rfl (by omega)).mono ?_
      rintro e w4 ⟨rfl, hb4⟩
      rw [← HR.out]
      have HB4 := Lib.hid (bT HB3.out hb4)
      clear HB3
      have Hxs4 := Lib.hid (readsOver Hxs3.out hb4)
      clear Hxs3
      clear hb4
      go_wp2
      go_ret
      exact ⟨rfl, HB4.out⟩

set_option maxRecDepth 100000 in
theorem lifted (os : Os) (started : os.Started) (H : Type) (enc : TypeId × Value → H) :
    ReturnsInHanded {} Try.checked os 17 .any (Rows.fnRideMinutesSpec.pre6 enc Try.prog Try.f17 Rows.fnRideMinutesRow.domain false) (Rows.fnRideMinutesSpec.post enc Try.prog Try.f17 false true false false) := by
  refine returnsInHanded_of_change (C := Try.checked) Cells.own started (by kernel_rfl) Try.func17
    (ChangeSpec.witness6 (enc := enc) (C := Try.checked) false ⟨#[], #[.slice none 0 0], []⟩ 8 (by kernel_rfl) (by kernel_rfl) (by kernel_rfl) (by kernel_rfl)) ?_
  intro W base args ds gs before hval0 hW _ _
  have hval : ∀ (j : Nat) t v, Try.f17.params[j]? = some t → args[j]? = some v → Value.okWide Try.prog W .any base t v := hval0
  have hW' := hW
  obtain ⟨p, q, hA0, hV, rfl, _, _⟩ := hW
  have hA : DataW.TrodAll enc Try.prog W 0 (fun _ => true) true Try.f17.params.toList args.toList ds p := hA0
  rw [Try.params17] at hA hval
  obtain ⟨v0, d0, rfl, rfl, h0⟩ := trodAll_one hA
  obtain ⟨rfl, rfl⟩ := trodVars_none hV
  obtain ⟨a0, len, cap, rfl⟩ := okWide_slice Try.underlying22 (hval 0 22 v0 rfl rfl)
  clear hA0 hval0
  simp only [List.append_nil] at hW'
  obtain ⟨hb, hargs⟩ := opened h0 (fun x hx => by simpa using hW'.lt x hx)
  refine (walk a0 len cap W hb).mono fun e W' ⟨he, hnx⟩ => ?_
  subst he
  exact ⟨_, rfl, _, _, _, [], _, [], hW', trodAll_mk1 (shut_bool Try.underlying4 _), trodAll_mk1 (hargs _ hnx), rfl, hnx.frame _, fun h => by cases h⟩

theorem closed : joinedFacts Try.prog 17 Try.f17 Rows.fnRideMinutesSpec Rows.fnRideMinutesRow = true := by
  unfold joinedFacts
  rw [Cells.laidOut, Cells.mapsRowed_, Cells.stops, Cells.stopKnobs, Cells.plainKeys, Cells.stopsHeard, Cells.mayEnter, Cells.liftsFinal, Cells.make]
  kernel_rfl

theorem over : Rows.fnRideMinutesRow.holds Try.pinned (OpenSpec.ofChange Rows.fnRideMinutesSpec) :=
  OpenClaim.holds_of_wide 17 Try.f17 rfl rfl rfl rfl rfl rfl rfl ⟨rfl, rfl, rfl, rfl, rfl⟩ rfl rfl rfl rfl rfl (by kernel_rfl) Try.func17 closed
    (of_decide_eq_true (by kernel_rfl)) (by unfold Func.isWrapper; first | (rw [if_pos (by decide +kernel)]; kernel_rfl) | (rw [if_neg (by decide +kernel)]; exact ⟨rfl, rfl⟩))
    (fun os started H enc _ => lifted os started H enc)

/-- THE STATEMENT -/
theorem proved : Rows.FnRideMinutesSaid := over
#print axioms proved
end Go.Proofs.Ytnahdclmfegmeaa.fnRideMinutes
