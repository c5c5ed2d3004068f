/-
  Journeys that belong to the one before them: the program's fold.
-/
import Derived.Test.YtnahdclmfegmeaaLinkFn
namespace Go.Proofs.Ytnahdclmfegmeaa
open Go.RowKit
set_option linter.unusedVariables false

set_option maxRecDepth 100000 in
set_option maxHeartbeats 400000 in
theorem step_any (s : Int) (x : Fares.Journey) (b : Bool) (w : World) (h0 : 0 ≤ s) (h1 : s ≤ 1000000) :
    Calls Try.prog 101 #[.int .i64 s, journeyV x, .bool b] w fun e w' => e = .returned (.int .i64 (s + (if b then 1 else 0))) ∧ Below w.heap.size w w' := by
  unfold journeyV
  cases b
  · go_enter Try.func101, Try.ntmps101
    go_wp2
    go_ret
    exact ⟨ret_int (by simp), (by repeat (first | exact Below.refl _ _ | refine bA ?_ _ | refine bD ?_ _ | refine bD1 ?_ | refine bS ?_ (by simp) _))⟩
  · go_enter Try.func101, Try.ntmps101
    go_wp2
    go_ret
    exact ⟨ret_int (by simp), (by repeat (first | exact Below.refl _ _ | refine bA ?_ _ | refine bD ?_ _ | refine bD1 ?_ | refine bS ?_ (by simp) _))⟩

set_option maxRecDepth 100000 in
set_option maxHeartbeats 1000000 in
theorem foldInt_any (A : Option Addr) (n c : Nat) (xs : List Fares.Journey) (win : Int) (w : World) (hx : Journeys w w.heap.size A xs) (hn : xs.length = n) (hl : n ≤ 24)
    (hok : ∀ {k : Nat} {j : Fares.Journey}, xs[k]? = some j → 0 ≤ j.x ∧ j.x ≤ 40319 ∧ 0 ≤ j.y ∧ j.y ≤ 40319) :
    Calls Try.prog 100 #[.slice A n c, .int .i64 win, .int .i64 0, .func (.func 101) #[] #[]] w fun e w' => e = .returned (.int .i64 (Fares.transferSum xs win n)) ∧ Below w.heap.size w w' := by
  subst hn
  have Hok : Hid (∀ {k : Nat} {j : Fares.Journey}, xs[k]? = some j → 0 ≤ j.x ∧ j.x ≤ 40319 ∧ 0 ≤ j.y ∧ j.y ≤ 40319) := hok
  clear hok
  go_enter Try.func100, Try.ntmps100
  go_wp2
  go_loopw [14, 2] (fun i v wr => ∃ (k : Nat) (s : Int), k ≤ xs.length ∧ i = .int .i64 k ∧ v = .int .i64 s ∧ 0 ≤ s ∧ s ≤ k ∧ s = Fares.transferSum xs win k ∧ Below w.heap.size w wr) (fun i _ _ => xs.length - (intOf i).toNat)
  case atStart => exact ⟨0, 0, Nat.zero_le _, rfl, rfl, by omega, by omega, rfl, Below.refl _ _⟩
  case round =>
    obtain ⟨k, s, hk, rfl, rfl, t0, t1, hs, hb⟩ := hrel
    have Hs := Lib.hid hs; clear hs
    have hsz := hb.size
    by_cases hlt : k < xs.length
    · obtain ⟨x, hxk⟩ : ∃ x, xs[k]? = some x := ⟨_, List.getElem?_eq_getElem hlt⟩
      obtain ⟨x0, x1, _, _⟩ := Hok.out hxk
      obtain ⟨b1, o1, rfl, hb1, hr1⟩ := hx.row (by omega)
      obtain ⟨p0, p1, p2, p3, p4⟩ := (hr1 k x hxk).below hb hb1
      have HBX0 := Lib.hid (JourneyBox.new wr x 45)
      obtain ⟨_, q0, q1, q2, q3, q4⟩ := HBX0.out
      have Hts := Lib.hid (show Fares.transferSum xs win (k + 1) = Fares.transferSum xs win k + (if Fares.belongsAt xs win k then 1 else 0) from rfl)
      have i0 : (0 : Int) ≤ (k : Int) := by omega
      have i1 : (k : Int) < (xs.length : Int) := by omega
      by_cases hk0 : 0 < k
      · obtain ⟨m, hm⟩ : ∃ m, k = m + 1 := ⟨k - 1, by omega⟩
        obtain ⟨y, hyk⟩ : ∃ y, xs[m]? = some y := ⟨xs[m], List.getElem?_eq_getElem (by omega)⟩
        obtain ⟨_, _, y0, y1⟩ := Hok.out hyk
        obtain ⟨r0, r1, r2, r3, r4⟩ := (hr1 m y hyk).below (bA hb (.cells #[.int .i64 x.a, .int .i64 x.b, .int .i64 x.x, .int .i64 x.y, .bool x.f] 45)) hb1
        have Hb := Lib.hid (show Fares.belongsAt xs win k = Fares.belongs y x win by rw [hm] at hxk ⊢; exact Fares.belongsAt_of (w := win) hyk hxk)
        clear hxk hyk hr1 hx
        have wk1 : IntKind.i64.wrap ((k : Int) - 1) = (m : Int) := by rw [IntKind.wrap_i64]; omega
        have j0 : (0 : Int) ≤ (m : Int) := by omega
        have j1 : (m : Int) < (xs.length : Int) := by omega
        have hk1 : (0 : Int) < (k : Int) := by omega
        have Hm := Lib.hid hm; clear hm
        go_wp2
        refine wp_region_held_drew (S := fun w' => w'.cell? ⟨wr.heap.size, 0, none⟩ = some (.int .i64 x.a) ∧ w'.cell? ⟨wr.heap.size, 1, none⟩ = some (.int .i64 x.b) ∧ w'.cell? ⟨wr.heap.size, 2, none⟩ = some (.int .i64 x.x) ∧ w'.cell? ⟨wr.heap.size, 3, none⟩ = some (.int .i64 x.y) ∧ w'.cell? ⟨wr.heap.size, 4, none⟩ = some (.bool x.f) ∧ w'.cell? ⟨b1, o1 + m * 5, none⟩ = some (.int .i64 y.a) ∧ w'.cell? ⟨b1, o1 + m * 5 + 1, none⟩ = some (.int .i64 y.b) ∧ w'.cell? ⟨b1, o1 + m * 5 + 2, none⟩ = some (.int .i64 y.x) ∧ w'.cell? ⟨b1, o1 + m * 5 + 3, none⟩ = some (.int .i64 y.y) ∧ w'.cell? ⟨b1, o1 + m * 5 + 4, none⟩ = some (.bool y.f)) (by kernel_rfl) (by exact ⟨q0, q1, q2, q3, q4, r0, r1, r2, r3, r4⟩) (fun hS => ?_)
        refine take_at 0 19 (v := ?_) rfl rfl (by kernel_rfl) (by kernel_rfl) (by kernel_rfl) (fun _ _ _ h => h) (by rfl) ?_ hS ?_
        rotate_left 1
        · (intro w hSw; (try dsimp only at hSw); (try go_split_ands); go_simp; try with_reducible rfl)
        simp only [List.setIfInBounds_toArray, List.set_cons_zero, List.set_cons_succ]
        refine take_at 1 20 (v := ?_) rfl rfl (by kernel_rfl) (by kernel_rfl) (by kernel_rfl) (fun _ _ _ h => h) (by rfl) ?_ hS ?_
        rotate_left 1
        · (intro w hSw; (try dsimp only at hSw); (try go_split_ands); go_simp; try with_reducible rfl)
        simp only [List.setIfInBounds_toArray, List.set_cons_zero, List.set_cons_succ]
        refine take_at 2 21 (v := ?_) rfl rfl (by kernel_rfl) (by kernel_rfl) (by kernel_rfl) (fun _ _ _ h => h) (by rfl) ?_ hS ?_
        rotate_left 1
        · (intro w hSw; (try dsimp only at hSw); (try go_split_ands); go_simp; try with_reducible rfl)
        simp only [List.setIfInBounds_toArray, List.set_cons_zero, List.set_cons_succ]
        refine take_at 3 22 (v := ?_) rfl rfl (by kernel_rfl) (by kernel_rfl) (by kernel_rfl) (fun _ _ _ h => h) (by rfl) ?_ hS ?_
        rotate_left 1
        · (intro w hSw; (try dsimp only at hSw); (try go_split_ands); go_simp; try with_reducible rfl)
        simp only [List.setIfInBounds_toArray, List.set_cons_zero, List.set_cons_succ]
        refine take_at 4 23 (v := ?_) rfl rfl (by kernel_rfl) (by kernel_rfl) (by kernel_rfl) (fun _ _ _ h => h) (by rfl) ?_ hS ?_
        rotate_left 1
        · (intro w hSw; (try dsimp only at hSw); (try go_split_ands); go_simp; try with_reducible rfl)
        simp only [List.setIfInBounds_toArray, List.set_cons_zero, List.set_cons_succ]
        refine take_at 5 24 (v := ?_) rfl rfl (by kernel_rfl) (by kernel_rfl) (by kernel_rfl) (fun _ _ _ h => h) (by rfl) ?_ hS ?_
        rotate_left 1
        · (intro w hSw; (try dsimp only at hSw); (try go_split_ands); go_simp; try with_reducible rfl)
        simp only [List.setIfInBounds_toArray, List.set_cons_zero, List.set_cons_succ]
        refine take_at 6 25 (v := ?_) rfl rfl (by kernel_rfl) (by kernel_rfl) (by kernel_rfl) (fun _ _ _ h => h) (by rfl) ?_ hS ?_
        rotate_left 1
        · (intro w hSw; (try dsimp only at hSw); (try go_split_ands); go_simp; try with_reducible rfl)
        simp only [List.setIfInBounds_toArray, List.set_cons_zero, List.set_cons_succ]
        refine take_at 7 26 (v := ?_) rfl rfl (by kernel_rfl) (by kernel_rfl) (by kernel_rfl) (fun _ _ _ h => h) (by rfl) ?_ hS ?_
        rotate_left 1
        · (intro w hSw; (try dsimp only at hSw); (try go_split_ands); go_simp; try with_reducible rfl)
        simp only [List.setIfInBounds_toArray, List.set_cons_zero, List.set_cons_succ]
        refine take_at 8 27 (v := ?_) rfl rfl (by kernel_rfl) (by kernel_rfl) (by kernel_rfl) (fun _ _ _ h => h) (by rfl) ?_ hS ?_
        rotate_left 1
        · (intro w hSw; (try dsimp only at hSw); (try go_split_ands); go_simp; try with_reducible rfl)
        simp only [List.setIfInBounds_toArray, List.set_cons_zero, List.set_cons_succ]
        refine take_at 9 28 (v := ?_) rfl rfl (by kernel_rfl) (by kernel_rfl) (by kernel_rfl) (fun _ _ _ h => h) (by rfl) ?_ hS ?_
        rotate_left 1
        · (intro w hSw; (try dsimp only at hSw); (try go_split_ands); go_simp; try with_reducible rfl)
        simp only [List.setIfInBounds_toArray, List.set_cons_zero, List.set_cons_succ]
        refine wpAnyH_ready (rs := [10]) (by kernel_rfl) (by simp) ?_
        refine AllReadyH.cons rfl (fun K hK => ?_) AllReadyH.nil
        go_simp
        go_wp2_with fail
        refine (follows_any x y win _ x0 x1 y0 y1).mono ?_
        rintro e w1 ⟨rfl, hb3⟩
        have hb4 : Below w.heap.size w w1 := bT (bD1 (bA hb _)) hb3
        have HBX := Lib.hid ((show JourneyBox ((wr.alloc (.cells #[.int .i64 x.a, .int .i64 x.b, .int .i64 x.x, .int .i64 x.y, .bool x.f] 45)).drew) wr.heap.size x from HBX0.out).below hb3 (by simp))
        go_simp
        refine hK.out _ _ (by refine ⟨?_, ?_, ?_, ?_, ?_, ?_, ?_, ?_, ?_, ?_⟩ <;> (exact (hb3.cell (by first | (simp; done) | (simp; omega))).trans (by assumption))) (fun hS => ?_)
        clear hK K
        refine take_at 11 30 (v := ?_) rfl rfl (by kernel_rfl) (by kernel_rfl) (by kernel_rfl) (fun _ _ _ h => h) (by rfl) ?_ hS ?_
        rotate_left 1
        · (intro w hSw; (try dsimp only at hSw); (try go_split_ands); go_simp; try with_reducible rfl)
        simp only [List.setIfInBounds_toArray, List.set_cons_zero, List.set_cons_succ]
        refine take_at 12 11 (v := ?_) rfl rfl (by kernel_rfl) (by kernel_rfl) (by kernel_rfl) (fun _ _ _ h => h) (by rfl) ?_ hS ?_
        rotate_left 1
        · (intro w hSw; (try dsimp only at hSw); (try go_split_ands); go_simp; try with_reducible rfl)
        simp only [List.setIfInBounds_toArray, List.set_cons_zero, List.set_cons_succ]
        refine wpAnyH_done (by kernel_rfl) ?_ _
        clear wk1
        obtain ⟨_, s0_, s1_, s2_, s3_, s4_⟩ := HBX.out
        go_wp2_with fail
        refine (step_any s x (Fares.belongs y x win) _ t0 (by omega)).mono ?_
        rintro e w2 ⟨rfl, hb5⟩
        have hb6 : Below w.heap.size w w2 := bT hb4 hb5
        clear hb5
        go_wp2
        go_roundw
        case rel => exact ⟨k + 1, s + (if (Fares.belongs y x win) then 1 else 0), by omega, by go_num, by first | (simp; done) | go_num, by split <;> omega, by push_cast; split <;> omega, by rw [Hts.out, Hb.out, ← Hs.out], hb6⟩
        case measure => simp [intOf]; omega
      · have hk1 : decide ((0 : Int) < (k : Int)) = false := by simp; omega
        have Hb := Lib.hid (show Fares.belongsAt xs win k = false by rw [show k = 0 by omega]; rfl)
        clear hxk hr1 hx
        go_wp2
        refine wp_region_held_drew (S := fun w' => w'.cell? ⟨wr.heap.size, 0, none⟩ = some (.int .i64 x.a) ∧ w'.cell? ⟨wr.heap.size, 1, none⟩ = some (.int .i64 x.b) ∧ w'.cell? ⟨wr.heap.size, 2, none⟩ = some (.int .i64 x.x) ∧ w'.cell? ⟨wr.heap.size, 3, none⟩ = some (.int .i64 x.y) ∧ w'.cell? ⟨wr.heap.size, 4, none⟩ = some (.bool x.f)) (by kernel_rfl) (by exact ⟨q0, q1, q2, q3, q4⟩) (fun hS => ?_)
        refine take_at 0 19 (v := ?_) rfl rfl (by kernel_rfl) (by kernel_rfl) (by kernel_rfl) (fun _ _ _ h => h) (by rfl) ?_ hS ?_
        rotate_left 1
        · (intro w hSw; (try dsimp only at hSw); (try go_split_ands); go_simp; try with_reducible rfl)
        simp only [List.setIfInBounds_toArray, List.set_cons_zero, List.set_cons_succ]
        refine take_at 1 20 (v := ?_) rfl rfl (by kernel_rfl) (by kernel_rfl) (by kernel_rfl) (fun _ _ _ h => h) (by rfl) ?_ hS ?_
        rotate_left 1
        · (intro w hSw; (try dsimp only at hSw); (try go_split_ands); go_simp; try with_reducible rfl)
        simp only [List.setIfInBounds_toArray, List.set_cons_zero, List.set_cons_succ]
        refine take_at 2 21 (v := ?_) rfl rfl (by kernel_rfl) (by kernel_rfl) (by kernel_rfl) (fun _ _ _ h => h) (by rfl) ?_ hS ?_
        rotate_left 1
        · (intro w hSw; (try dsimp only at hSw); (try go_split_ands); go_simp; try with_reducible rfl)
        simp only [List.setIfInBounds_toArray, List.set_cons_zero, List.set_cons_succ]
        refine skip_at 3 22 rfl rfl (by kernel_rfl) (by kernel_rfl) (by kernel_rfl) (fun _ _ _ h => h) (by rfl) hS ?_
        simp only [List.setIfInBounds_toArray, List.set_cons_zero, List.set_cons_succ]
        refine skip_at 4 23 rfl rfl (by kernel_rfl) (by kernel_rfl) (by kernel_rfl) (fun _ _ _ h => h) (by rfl) hS ?_
        simp only [List.setIfInBounds_toArray, List.set_cons_zero, List.set_cons_succ]
        refine skip_at 5 24 rfl rfl (by kernel_rfl) (by kernel_rfl) (by kernel_rfl) (fun _ _ _ h => h) (by rfl) hS ?_
        simp only [List.setIfInBounds_toArray, List.set_cons_zero, List.set_cons_succ]
        refine skip_at 6 25 rfl rfl (by kernel_rfl) (by kernel_rfl) (by kernel_rfl) (fun _ _ _ h => h) (by rfl) hS ?_
        simp only [List.setIfInBounds_toArray, List.set_cons_zero, List.set_cons_succ]
        refine skip_at 7 26 rfl rfl (by kernel_rfl) (by kernel_rfl) (by kernel_rfl) (fun _ _ _ h => h) (by rfl) hS ?_
        simp only [List.setIfInBounds_toArray, List.set_cons_zero, List.set_cons_succ]
        refine skip_at 8 27 rfl rfl (by kernel_rfl) (by kernel_rfl) (by kernel_rfl) (fun _ _ _ h => h) (by rfl) hS ?_
        simp only [List.setIfInBounds_toArray, List.set_cons_zero, List.set_cons_succ]
        refine skip_at 9 28 rfl rfl (by kernel_rfl) (by kernel_rfl) (by kernel_rfl) (fun _ _ _ h => h) (by rfl) hS ?_
        simp only [List.setIfInBounds_toArray, List.set_cons_zero, List.set_cons_succ]
        refine wpAnyH_ready (rs := [10]) (by kernel_rfl) (by simp) ?_
        refine AllReadyH.cons rfl (fun K hK => ?_) AllReadyH.nil
        go_simp
        refine hK.out _ _ (by assumption) (fun hS => ?_)
        clear hK K
        refine take_at 11 30 (v := ?_) rfl rfl (by kernel_rfl) (by kernel_rfl) (by kernel_rfl) (fun _ _ _ h => h) (by rfl) ?_ hS ?_
        rotate_left 1
        · (intro w hSw; (try dsimp only at hSw); (try go_split_ands); go_simp; try with_reducible rfl)
        simp only [List.setIfInBounds_toArray, List.set_cons_zero, List.set_cons_succ]
        refine take_at 12 11 (v := ?_) rfl rfl (by kernel_rfl) (by kernel_rfl) (by kernel_rfl) (fun _ _ _ h => h) (by rfl) ?_ hS ?_
        rotate_left 1
        · (intro w hSw; (try dsimp only at hSw); (try go_split_ands); go_simp; try with_reducible rfl)
        simp only [List.setIfInBounds_toArray, List.set_cons_zero, List.set_cons_succ]
        refine wpAnyH_done (by kernel_rfl) ?_ _
        have hb4 := bD1 (bA hb (.cells #[.int .i64 x.a, .int .i64 x.b, .int .i64 x.x, .int .i64 x.y, .bool x.f] 45))
        have HBX := HBX0
        obtain ⟨_, s0_, s1_, s2_, s3_, s4_⟩ := HBX.out
        go_wp2_with fail
        refine (step_any s x false _ t0 (by omega)).mono ?_
        rintro e w2 ⟨rfl, hb5⟩
        have hb6 : Below w.heap.size w w2 := bT hb4 hb5
        clear hb5
        go_wp2
        go_roundw
        case rel => exact ⟨k + 1, s + (if false then 1 else 0), by omega, by go_num, by first | (simp; done) | go_num, by first | (simp; done) | (simp; omega), by first | (simp; done) | (simp; omega), by rw [Hts.out, Hb.out, ← Hs.out], hb6⟩
        case measure => simp [intOf]; omega
    · go_wp2
      go_ret
      exact ⟨ret_int (by rw [Hs.out, show k = xs.length by omega]), hb⟩

set_option maxRecDepth 100000 in
set_option maxHeartbeats 1000000 in
theorem implTransferCount_any (A : Option Addr) (n c : Nat) (xs : List Fares.Journey) (win : Int) (w : World) (hx : Journeys w w.heap.size A xs) (hn : xs.length = n) (hl : n ≤ 4611686018427387904) :
    Calls Try.prog 55 #[.slice A n c, .int .i64 win] w fun e w' => e = .returned (.int .i64 (Fares.transferCount xs win)) ∧ Below w.heap.size w w' := by
  subst hn
  have HE : Hid (Fares.transferCount xs win = if Fares.validJourneys xs && Fares.windowOk win then Fares.transferSum xs win xs.length else -1) := rfl
  by_cases hv : Fares.validJourneys xs = true
  · have hlen := Fares.length_of_valid hv
    by_cases hw : Fares.windowOk win = true
    · have HE2 := Lib.hid (show Fares.transferCount xs win = Fares.transferSum xs win xs.length by rw [HE.out, hv, hw]; rfl)
      go_enter Try.func55, Try.ntmps55
      go_wp2_with fail
      refine (implValidJourneys_any A _ c xs _ hx rfl hl).mono ?_
      rintro e wx ⟨rfl, hbx⟩
      go_wp2_with (go_at_call 99; refine (validWindow_any _ _).mono ?_; rintro e w' ⟨rfl, rfl⟩)
      refine (foldInt_any A _ c xs win _ ((hx.below hbx (Nat.le_refl _)).more hbx.size) rfl hlen (fun h => Fares.journey_bounds hv h)).mono ?_
      rintro e w2 ⟨rfl, hb2⟩
      go_wp2
      go_ret
      exact ⟨ret_int (by rw [HE2.out]), bT hbx hb2⟩
    · have hw' : Fares.windowOk win = false := by simpa using hw
      have HE2 := Lib.hid (show Fares.transferCount xs win = -1 by rw [HE.out, hv, hw']; rfl)
      clear hw
      go_enter Try.func55, Try.ntmps55
      go_wp2_with fail
      refine (implValidJourneys_any A _ c xs _ hx rfl hl).mono ?_
      rintro e wx ⟨rfl, hbx⟩
      go_wp2_with (go_at_call 99; refine (validWindow_any _ _).mono ?_; rintro e w' ⟨rfl, rfl⟩)
      go_ret
      exact ⟨ret_int (by rw [HE2.out]), hbx⟩
  · have hv' : Fares.validJourneys xs = false := by simpa using hv
    have HE2 := Lib.hid (show Fares.transferCount xs win = -1 by rw [HE.out, hv']; rfl)
    clear hv
    go_enter Try.func55, Try.ntmps55
    go_wp2_with fail
    refine (implValidJourneys_any A _ c xs _ hx rfl hl).mono ?_
    rintro e wx ⟨rfl, hbx⟩
    go_wp2
    go_ret
    exact ⟨ret_int (by rw [HE2.out]), hbx⟩
end Go.Proofs.Ytnahdclmfegmeaa
