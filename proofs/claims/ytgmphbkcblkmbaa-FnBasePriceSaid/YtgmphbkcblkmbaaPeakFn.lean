/-
  Peaks: the program's function and its model.
-/
import Derived.Test.YtgmphbkcblkmbaaBandFn
set_option linter.unusedSimpArgs false
namespace Go.Proofs.Ytgmphbkcblkmbaa
open Go.RowKit
set_option linter.unusedVariables false

theorem Fares.any_false_at {xs : List Fares.Band} {p : Fares.Band → Bool} (h : ∀ (j : Nat) (b : Fares.Band), j < xs.length → xs[j]? = some b → p b = false) : xs.any p = false := by
  rw [List.any_eq_false]
  intro b hb
  obtain ⟨j, hj⟩ := List.getElem?_of_mem hb
  simp [h j b (List.getElem?_eq_some_iff.1 hj).1 hj]

set_option maxRecDepth 100000 in
set_option maxHeartbeats 2000000 in
theorem implIsPeak_any (A : Option Addr) (n c : Nat) (xs : List Fares.Band) (m : Int) (w : World) (hx : Bands w w.heap.size A xs) (hn : xs.length = n) (hl : n ≤ 4611686018427387904) :
    Calls Try.prog 33 #[.slice A n c, .int .i64 m] w fun e w' => e = .returned (.bool (Fares.isPeak xs m)) ∧ Below w.heap.size w w' := by
  have hn1 := hn
  subst hn
  by_cases hm : Fares.minuteOk m = true
  · have hm2 : 0 ≤ m ∧ m ≤ 40319 := by simpa [Fares.minuteOk] using hm
    obtain ⟨m0, m1⟩ := hm2
    have dd : 0 ≤ Fares.dayOf m ∧ Fares.dayOf m ≤ 28 := by unfold Fares.dayOf; omega
    obtain ⟨dd0, dd1⟩ := dd
    by_cases hv : Fares.validBands xs = true
    · have hlen := Fares.length_of_validBands hv
      by_cases hwd : Fares.workday (Fares.dayOf m) = true
      · have hany : Fares.isPeak xs m = xs.any (fun b => Fares.inBand b (m % 1440)) := by unfold Fares.isPeak; rw [hm, hv, hwd]; rfl
        have Hany := Lib.hid hany; clear hany
        go_enter Try.func33, Try.ntmps33
        go_wp2_with (first | (go_at_call 75; refine (momentValid_any _ _).mono ?_; rintro e w' ⟨rfl, rfl⟩) | (go_at_call 77; refine (momentDay_any _ _ (by omega) (by omega)).mono ?_; rintro e w' ⟨rfl, rfl⟩) | (go_at_call 78; refine (isWorkday_any _ _ (by omega) (by omega)).mono ?_; rintro e w' ⟨rfl, rfl⟩) | (go_at_call 68; refine (implvalidBands_any A _ c xs _ hx rfl hl).mono ?_; rintro e w1 ⟨rfl, hb1⟩))
        go_loopw [25] (fun i wr => ∃ k : Nat, k ≤ xs.length ∧ i = .int .i64 k ∧ Below w.heap.size w wr ∧ ∀ (j : Nat) (b : Fares.Band), j < k → xs[j]? = some b → Fares.inBand b (m % 1440) = false) (fun i _ => xs.length - (intOf i).toNat)
        case atStart => exact ⟨0, Nat.zero_le _, rfl, hb1, fun j b hj => absurd hj (by omega)⟩
        case round =>
          obtain ⟨k, hk, rfl, hb, he⟩ := hrel
          have He := Lib.hid he; clear he
          clear hb1
          by_cases hlt : k < xs.length
          · obtain ⟨x, hxk⟩ : ∃ x, xs[k]? = some x := ⟨xs[k], List.getElem?_eq_getElem hlt⟩
            obtain ⟨b1, o1, rfl, hbb, hr1⟩ := hx.row (by omega)
            obtain ⟨p0, p1⟩ := (hr1 k x hxk).below hb hbb
            have Hx := Lib.hid hxk; clear hxk
            clear hr1 hx
            have i0 : (0 : Int) ≤ (k : Int) := by omega
            have i1 : (k : Int) < (xs.length : Int) := by omega
            by_cases hin : Fares.inBand x (m % 1440) = true
            · have HQ := Lib.hid (BandBox.new wr x 86)
              go_wp2
              refine wp_region_held_drew (S := fun w' => w'.cell? ⟨wr.heap.size, 0, none⟩ = some (.int .i64 x.lo) ∧ w'.cell? ⟨wr.heap.size, 1, none⟩ = some (.int .i64 x.hi)) (by kernel_rfl) (by exact ⟨HQ.out.2.1, HQ.out.2.2⟩) (fun hS => ?_)
              refine take_at 0 29 (v := ?_) rfl rfl (by kernel_rfl) (by kernel_rfl) (by kernel_rfl) (fun _ _ _ h => h) (by rfl) ?_ hS ?_
              rotate_left 1
              · (intro w hSw; (try dsimp only at hSw); (try go_split_ands); go_simp; try with_reducible rfl)
              simp only [List.setIfInBounds_toArray, List.set_cons_zero, List.set_cons_succ]
              refine take_at 1 30 (v := ?_) rfl rfl (by kernel_rfl) (by kernel_rfl) (by kernel_rfl) (fun _ _ _ h => h) (by rfl) ?_ hS ?_
              rotate_left 1
              · (intro w hSw; (try dsimp only at hSw); (try go_split_ands); go_simp; try with_reducible rfl)
              simp only [List.setIfInBounds_toArray, List.set_cons_zero, List.set_cons_succ]
              refine wpAnyH_ready (rs := [2]) (by kernel_rfl) (by simp) ?_
              refine AllReadyH.cons rfl (fun K hK => ?_) AllReadyH.nil
              go_simp
              go_wp2_with fail
              refine (momentClock_any _ _ (by omega) (by omega)).mono ?_
              rintro e w' ⟨rfl, rfl⟩
              go_simp
              refine hK.out _ _ (by exact hS) (fun hS => ?_)
              clear hK K
              refine wpAnyH_ready (rs := [3]) (by kernel_rfl) (by simp) ?_
              refine AllReadyH.cons rfl (fun K hK => ?_) AllReadyH.nil
              go_simp
              go_wp2_with fail
              refine (bandHas_any x _ _).mono ?_
              rintro e w3 ⟨rfl, hb3⟩
              have hb4 : Below w.heap.size w w3 := bT (bD1 (bA hb _)) hb3
              go_simp
              refine hK.out _ _ (by exact ⟨(hb3.cell (by simp)).trans hS.1, (hb3.cell (by simp)).trans hS.2⟩) (fun hS => ?_)
              clear hK K
              refine wpAnyH_done (by kernel_rfl) ?_ _
              go_wp2
              go_ret
              exact ⟨ret_bool (by rw [Hany.out]; exact (List.any_eq_true.2 ⟨x, List.mem_of_getElem? Hx.out, hin⟩).symm), hb4⟩
            · have hin' : Fares.inBand x (m % 1440) = false := by simpa using hin
              clear hin
              have HQ := Lib.hid (BandBox.new wr x 86)
              go_wp2
              refine wp_region_held_drew (S := fun w' => w'.cell? ⟨wr.heap.size, 0, none⟩ = some (.int .i64 x.lo) ∧ w'.cell? ⟨wr.heap.size, 1, none⟩ = some (.int .i64 x.hi)) (by kernel_rfl) (by exact ⟨HQ.out.2.1, HQ.out.2.2⟩) (fun hS => ?_)
              refine take_at 0 29 (v := ?_) rfl rfl (by kernel_rfl) (by kernel_rfl) (by kernel_rfl) (fun _ _ _ h => h) (by rfl) ?_ hS ?_
              rotate_left 1
              · (intro w hSw; (try dsimp only at hSw); (try go_split_ands); go_simp; try with_reducible rfl)
              simp only [List.setIfInBounds_toArray, List.set_cons_zero, List.set_cons_succ]
              refine take_at 1 30 (v := ?_) rfl rfl (by kernel_rfl) (by kernel_rfl) (by kernel_rfl) (fun _ _ _ h => h) (by rfl) ?_ hS ?_
              rotate_left 1
              · (intro w hSw; (try dsimp only at hSw); (try go_split_ands); go_simp; try with_reducible rfl)
              simp only [List.setIfInBounds_toArray, List.set_cons_zero, List.set_cons_succ]
              refine wpAnyH_ready (rs := [2]) (by kernel_rfl) (by simp) ?_
              refine AllReadyH.cons rfl (fun K hK => ?_) AllReadyH.nil
              go_simp
              go_wp2_with fail
              refine (momentClock_any _ _ (by omega) (by omega)).mono ?_
              rintro e w' ⟨rfl, rfl⟩
              go_simp
              refine hK.out _ _ (by exact hS) (fun hS => ?_)
              clear hK K
              refine wpAnyH_ready (rs := [3]) (by kernel_rfl) (by simp) ?_
              refine AllReadyH.cons rfl (fun K hK => ?_) AllReadyH.nil
              go_simp
              go_wp2_with fail
              refine (bandHas_any x _ _).mono ?_
              rintro e w3 ⟨rfl, hb3⟩
              have hb4 : Below w.heap.size w w3 := bT (bD1 (bA hb _)) hb3
              go_simp
              refine hK.out _ _ (by exact ⟨(hb3.cell (by simp)).trans hS.1, (hb3.cell (by simp)).trans hS.2⟩) (fun hS => ?_)
              clear hK K
              refine wpAnyH_done (by kernel_rfl) ?_ _
              go_wp2
              go_roundw
              case rel => exact ⟨k + 1, by omega, by go_num, hb4, fun j b hj hjb => by
                rcases Nat.lt_or_ge j k with h | h
                · exact He.out j b h hjb
                · have e : j = k := by omega
                  subst e
                  have := Hx.out
                  rw [hjb] at this
                  injection this with this
                  rw [this]; exact hin'⟩
              case measure => simp [intOf]; omega
          · go_wp2
            go_ret
            exact ⟨ret_bool (by rw [Hany.out]; exact (Fares.any_false_at (fun j b hj hjb => He.out j b (by omega) hjb)).symm), hb⟩
      · have hwd' : Fares.workday (Fares.dayOf m) = false := by simpa using hwd
        have hany : Fares.isPeak xs m = false := by unfold Fares.isPeak; rw [hm, hv, hwd']; rfl
        have Hany := Lib.hid hany; clear hany hwd
        go_enter Try.func33, Try.ntmps33
        go_wp2_with (first | (go_at_call 75; refine (momentValid_any _ _).mono ?_; rintro e w' ⟨rfl, rfl⟩) | (go_at_call 77; refine (momentDay_any _ _ (by omega) (by omega)).mono ?_; rintro e w' ⟨rfl, rfl⟩) | (go_at_call 78; refine (isWorkday_any _ _ (by omega) (by omega)).mono ?_; rintro e w' ⟨rfl, rfl⟩) | (go_at_call 68; refine (implvalidBands_any A _ c xs _ hx rfl hl).mono ?_; rintro e w1 ⟨rfl, hb1⟩))
        go_ret
        exact ⟨ret_bool (by rw [Hany.out]), hb1⟩
    · have hv' : Fares.validBands xs = false := by simpa using hv
      have hany : Fares.isPeak xs m = false := by unfold Fares.isPeak; rw [hv']; simp
      have Hany := Lib.hid hany; clear hany hv
      go_enter Try.func33, Try.ntmps33
      go_wp2_with (first | (go_at_call 75; refine (momentValid_any _ _).mono ?_; rintro e w' ⟨rfl, rfl⟩) | (go_at_call 68; refine (implvalidBands_any A _ c xs _ hx rfl hl).mono ?_; rintro e w1 ⟨rfl, hb1⟩))
      go_ret
      exact ⟨ret_bool (by rw [Hany.out]), hb1⟩
  · have hm' : Fares.minuteOk m = false := by simpa using hm
    have hany : Fares.isPeak xs m = false := by unfold Fares.isPeak; rw [hm']; rfl
    have Hany := Lib.hid hany; clear hany hm
    go_enter Try.func33, Try.ntmps33
    go_wp2_with (first | (go_at_call 75; refine (momentValid_any _ _).mono ?_; rintro e w' ⟨rfl, rfl⟩))
    go_ret
    exact ⟨ret_bool (by rw [Hany.out]), Below.refl _ _⟩

set_option maxRecDepth 100000 in
set_option maxHeartbeats 2000000 in
theorem specpeak_any (A : Option Addr) (n c : Nat) (xs : List Fares.Band) (m : Int) (w : World) (hx : Bands w w.heap.size A xs) (hn : xs.length = n) (hl : n ≤ 1000000000) (m0 : 0 ≤ m) (m1 : m ≤ 40319) :
    Calls Try.prog 119 #[.slice A n c, .int .i64 m] w fun e w' => e = .returned (.bool (Fares.workday (Fares.dayOf m) && xs.any (fun b => Fares.inBand b (m % 1440)))) ∧ w = w' := by
  subst hn
  have dd : 0 ≤ Fares.dayOf m ∧ Fares.dayOf m ≤ 28 := by unfold Fares.dayOf; omega
  obtain ⟨dd0, dd1⟩ := dd
  obtain ⟨tot, htot⟩ : ∃ tot, tot = (Fares.workday (Fares.dayOf m) && xs.any (fun b => Fares.inBand b (m % 1440))) := ⟨_, rfl⟩
  rw [← htot]
  have Htot := Lib.hid htot; clear htot
  go_enter Try.func119, Try.ntmps119
  go_wp2_with (first | (go_at_call 127; refine (specdayOfB_any _ _ m0 m1).mono ?_; rintro e w' ⟨rfl, rfl⟩))
  go_loop [7] (fun i => ∃ k : Nat, k ≤ xs.length ∧ i = .int .i64 k ∧ ∀ (j : Nat) (b : Fares.Band), j < k → xs[j]? = some b → (Fares.workday (Fares.dayOf m) && Fares.inBand b (m % 1440)) = false) (fun i => xs.length - (intOf i).toNat)
  case atStart => exact ⟨0, Nat.zero_le _, rfl, fun j b hj => absurd hj (by omega)⟩
  case round =>
    obtain ⟨k, hk, rfl, he⟩ := hrel
    have He := Lib.hid he; clear he
    by_cases hlt : k < xs.length
    · obtain ⟨x, hxk⟩ : ∃ x, xs[k]? = some x := ⟨xs[k], List.getElem?_eq_getElem hlt⟩
      obtain ⟨b1, o1, rfl, hbb, hr1⟩ := hx.row (by omega)
      obtain ⟨p0, p1⟩ := hr1 k x hxk
      have Hx := Lib.hid hxk; clear hxk
      clear hr1 hx
      have i0 : (0 : Int) ≤ (k : Int) := by omega
      have i1 : (k : Int) < (xs.length : Int) := by omega
      have Hnext : Hid ((Fares.workday (Fares.dayOf m) && Fares.inBand x (m % 1440)) = false → ∀ (j : Nat) (b : Fares.Band), j < k + 1 → xs[j]? = some b → (Fares.workday (Fares.dayOf m) && Fares.inBand b (m % 1440)) = false) := by
        intro hin j b hj hjb
        rcases Nat.lt_or_ge j k with h | h
        · exact He.out j b h hjb
        · have e : j = k := by omega
          subst e
          have := Hx.out
          rw [hjb] at this
          injection this with this
          rw [this]; exact hin
      have Hyes : Hid ((Fares.workday (Fares.dayOf m) && Fares.inBand x (m % 1440)) = true → tot = true) := by
        intro hin
        rw [Htot.out]
        simp only [Bool.and_eq_true] at hin ⊢
        exact ⟨hin.1, List.any_eq_true.2 ⟨x, List.mem_of_getElem? Hx.out, hin.2⟩⟩
      by_cases hwd : Fares.dayOf m % 7 < 5
      · have Hw := Lib.hid (show Fares.workday (Fares.dayOf m) = true by unfold Fares.workday; simpa using hwd)
        by_cases h1 : x.lo ≤ m % 1440
        · by_cases h2 : m % 1440 < x.hi
          · go_wp2
            go_ret
            exact ⟨ret_bool (by rw [Hyes.out (by rw [Hw.out]; unfold Fares.inBand; simp; exact ⟨h1, h2⟩)]), rfl⟩
          · have d2 : decide (m % 1440 < x.hi) = false := by simpa using h2
            go_wp2
            go_round
            case rel => exact ⟨k + 1, by omega, by go_num, Hnext.out (by unfold Fares.inBand; simp; intro _ _; omega)⟩
            case measure => simp [intOf]; omega
        · have d1 : decide (x.lo ≤ m % 1440) = false := by simpa using h1
          go_wp2
          go_round
          case rel => exact ⟨k + 1, by omega, by go_num, Hnext.out (by unfold Fares.inBand; simp; intro _ _; omega)⟩
          case measure => simp [intOf]; omega
      · have d0 : decide (Fares.dayOf m % 7 < 5) = false := by simpa using hwd
        have Hw := Lib.hid (show Fares.workday (Fares.dayOf m) = false by unfold Fares.workday; exact d0)
        go_wp2
        go_round
        case rel => exact ⟨k + 1, by omega, by go_num, Hnext.out (by rw [Hw.out]; rfl)⟩
        case measure => simp [intOf]; omega
    · go_wp2
      go_ret
      exact ⟨ret_bool (by
        rw [Htot.out]
        cases hw : Fares.workday (Fares.dayOf m) with
        | false => rfl
        | true =>
          rw [Bool.true_and]
          refine (Fares.any_false_at (fun j b hj hjb => ?_)).symm
          have := He.out j b (by omega) hjb
          rw [hw] at this
          simpa using this), rfl⟩

end Go.Proofs.Ytgmphbkcblkmbaa
