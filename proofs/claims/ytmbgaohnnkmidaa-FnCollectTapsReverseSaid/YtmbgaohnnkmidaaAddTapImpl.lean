/-
  Chapter 3: the program's AddTap.
-/
import Derived.Test.YtmbgaohnnkmidaaAddTap
import Derived.Test.YtmbgaohnnkmidaaTapPut
import Derived.Test.YtmbgaohnnkmidaaTapValid
set_option linter.unusedSimpArgs false
namespace Go.Proofs.Ytmbgaohnnkmidaa
open Go.RowKit Go.Deep
set_option linter.unusedVariables false

theorem OwnTaps.base' {w : World} {b b' : Nat} {v : Value} {ys : List Fares.Tap} (h : OwnTaps w b v ys) (hb : b' ≤ b) : OwnTaps w b' v ys := ownBase h hb
theorem OwnTaps.nilOk {w : World} {base : Nat} {A : Option Addr} {n c : Nat} {ys : List Fares.Tap} (h : OwnTaps w base (.slice A n c) ys) : NilOk A n c := by
  rcases h.2 with ⟨e, _⟩ | ⟨g, cap, cur, e, _⟩
  · injection e with e1 e2 e3
    exact fun _ => ⟨e2, e3⟩
  · injection e with e1
    exact fun h => by rw [h] at e1; cases e1

set_option maxRecDepth 100000 in
set_option maxHeartbeats 4000000 in
theorem implAddTap_any (A : Option Addr) (n c : Nat) (xs : List Fares.Tap) (t : Fares.Tap) (w : World) (hx : Taps w w.heap.size A xs) (hn : xs.length = n) (hl : n ≤ 1000000000) (hA : NilOk A n c) (hnc : n ≤ c) (hcm : c ≤ 9223372036854775807) :
    Calls Try.prog 21 #[.slice A n c, tapV t] w (AddsTap xs t w) := by
  subst hn
  have Hx := Lib.hid hx; clear hx
  have HE : Hid (Fares.addTap xs t = if !Fares.validTaps xs || !Fares.validTap t then ([], false) else if Fares.known xs t then (xs, true) else if xs.length = 24 then ([], false) else (Fares.insertTap xs t, true)) := rfl
  have HV : Hid (tapV t = .agg #[.int .i64 t.v, .int .i64 t.n, .int .i64 t.c, .int .i64 t.m, .int .i64 t.s, .bool t.o]) := rfl
  rw [HV.out]
  go_enter Try.func21, Try.ntmps21
  go_wp2_with fail
  generalize hW : World.alloc _ _ = w0
  have hb0 : Below w.heap.size w w0 := by rw [← hW]; exact bA (Below.refl _ _) _
  have hbx0 : TapBox w0 w.heap.size t := by rw [← hW]; exact TapBox.new w t _
  clear hW
  refine (implValidTaps_any A _ c xs _ (readsOver Hx.out hb0) rfl hnc hcm).mono ?_
  rintro e w1 ⟨rfl, hb1⟩
  have hc1 : Below w.heap.size w w1 := bT hb0 hb1
  have Hbx1 := Lib.hid (hbx0.below hb1 hbx0.1)
  clear hb1 hb0 hbx0
  cases hv : Fares.validTaps xs
  · have hE : Fares.addTap xs t = ([], false) := by rw [show Fares.addTap xs t = _ from HE.out, hv]; rfl
    have HE2 := Lib.hid hE; clear hE
    go_wp2
    go_ret2
    exact ⟨_, by rw [HE2.out]; rfl, by rw [HE2.out]; exact OwnTaps.none_ _ _, hc1⟩
  · have hlen := Fares.length_of_validTaps' hv
    have Hord := Lib.hid (Fares.inOrder_of hv)
    obtain ⟨l1, q0, q1, q2, q3, q4, q5⟩ := Hbx1.out
    go_wp2_with fail
    refine (implValidTap_any t _).mono ?_
    rintro e w2 ⟨rfl, hb2⟩
    have hc2 : Below w.heap.size w w2 := bT hc1 hb2
    have Hbx2 := Lib.hid (Hbx1.out.below hb2 l1)
    clear hb2 q0 q1 q2 q3 q4 q5 l1 Hbx1
    cases ht : Fares.validTap t
    · have hE : Fares.addTap xs t = ([], false) := by rw [show Fares.addTap xs t = _ from HE.out, ht]; simp
      have HE2 := Lib.hid hE; clear hE
      go_wp2
      go_ret2
      exact ⟨_, by rw [HE2.out]; rfl, by rw [HE2.out]; exact OwnTaps.none_ _ _, hc2⟩
    · obtain ⟨l1, q0, q1, q2, q3, q4, q5⟩ := Hbx2.out
      go_wp2_with fail
      refine (hasNumber_any A _ c xs t _ (readsOver Hx.out hc2) rfl hl).mono ?_
      rintro e w3 ⟨rfl, hb3⟩
      have hc3 : Below w.heap.size w w3 := bT hc2 hb3
      have Hbx3 := Lib.hid (Hbx2.out.below hb3 l1)
      clear hb3 q0 q1 q2 q3 q4 q5 l1 Hbx2
      cases hk : Fares.known xs t
      · by_cases h24 : xs.length = 24
        · have hE : Fares.addTap xs t = ([], false) := by rw [show Fares.addTap xs t = _ from HE.out, hv, ht, hk, if_pos h24]; rfl
          have HE2 := Lib.hid hE; clear hE
          have l1 : ((xs.length : Int) == 24) = true := by rw [beq_iff_eq]; omega
          have H24 := Lib.hid h24; clear h24
          go_wp2
          go_ret2
          exact ⟨_, by rw [HE2.out]; rfl, by rw [HE2.out]; exact OwnTaps.none_ _ _, hc3⟩
        · have hE : Fares.addTap xs t = (Fares.insertTap xs t, true) := by rw [show Fares.addTap xs t = _ from HE.out, hv, ht, hk, if_neg h24]; rfl
          have HE2 := Lib.hid hE; clear hE
          have e1 : ((xs.length : Int) == 24) = false := by rw [beq_eq_false_iff_ne]; omega
          have H24 := Lib.hid h24; clear h24
          obtain ⟨l1, q0, q1, q2, q3, q4, q5⟩ := Hbx3.out
          go_wp2_with fail
          refine (searchTap_any A _ c xs t _ (readsOver Hx.out hc3) rfl (by omega) Hord.out).mono ?_
          rintro e w4 ⟨i, b, rfl, hi, hs, hb4⟩
          have hc4 : Below w.heap.size w w4 := bT hc3 hb4
          have Hbx4 := Lib.hid (Hbx3.out.below hb4 l1)
          clear q0 q1 q2 q3 q4 q5 l1 Hbx3
          have HI := Lib.hid (Fares.insertTap_at hi hs hk)
          clear hb4 hs
          have i0 : (0 : Int) ≤ (i : Int) := by omega
          have hcb := hc4.size
          obtain ⟨l1, q0, q1, q2, q3, q4, q5⟩ := Hbx4.out
          -- region 8
          go_wp2
          refine wp_region_held_drew (S := fun w' => w'.cell? ⟨w.heap.size, 0, none⟩ = some (.int .i64 t.v) ∧ w'.cell? ⟨w.heap.size, 1, none⟩ = some (.int .i64 t.n) ∧ w'.cell? ⟨w.heap.size, 2, none⟩ = some (.int .i64 t.c) ∧ w'.cell? ⟨w.heap.size, 3, none⟩ = some (.int .i64 t.m) ∧ w'.cell? ⟨w.heap.size, 4, none⟩ = some (.int .i64 t.s) ∧ w'.cell? ⟨w.heap.size, 5, none⟩ = some (.bool t.o)) (by kernel_rfl) (by exact ⟨q0, q1, q2, q3, q4, q5⟩) (fun hS => ?_)
          refine take_at 0 30 (v := ?_) rfl rfl (by kernel_rfl) (by kernel_rfl) (by kernel_rfl) (fun _ _ _ h => h) (by rfl) ?_ hS ?_
          rotate_left 1
          · (intro w hSw; (try dsimp only at hSw); (try go_split_ands); go_simp; try with_reducible rfl)
          simp only [List.setIfInBounds_toArray, List.set_cons_zero, List.set_cons_succ]
          refine take_at 2 32 (v := ?_) rfl rfl (by kernel_rfl) (by kernel_rfl) (by kernel_rfl) (fun _ _ _ h => h) (by rfl) ?_ hS ?_
          rotate_left 1
          · (intro w hSw; (try dsimp only at hSw); (try go_split_ands); go_simp; try with_reducible rfl)
          simp only [List.setIfInBounds_toArray, List.set_cons_zero, List.set_cons_succ]
          refine take_at 3 33 (v := ?_) rfl rfl (by kernel_rfl) (by kernel_rfl) (by kernel_rfl) (fun _ _ _ h => h) (by rfl) ?_ hS ?_
          rotate_left 1
          · (intro w hSw; (try dsimp only at hSw); (try go_split_ands); go_simp; try with_reducible rfl)
          simp only [List.setIfInBounds_toArray, List.set_cons_zero, List.set_cons_succ]
          refine wpAnyH_ready (rs := [1, 4]) (by kernel_rfl) (by simp) ?_
          refine AllReadyH.cons rfl (fun K hK => ?_) (AllReadyH.cons rfl (fun K hK => ?_) (AllReadyH.nil))
          · go_simp
            go_wp2_with fail
            refine (cloneTaps2_any A xs.length c xs _ (readsOver Hx.out (bD1 hc4)) rfl hA (by omega)).mono ?_
            rintro e w5 ⟨v, rfl, hown, hb5⟩
            have hc5 : Below w.heap.size w w5 := bT (bD1 hc4) hb5
            have hz5 := hb5.size
            obtain ⟨Av, cv, rfl, hcv1, hcv2, _⟩ := OwnTaps.form hown
            have Hown5 := Lib.hid hown
            clear hown
            go_simp
            refine hK.out _ _ (by exact ⟨(hb5.cell (show w.heap.size < w4.drew.heap.size from l1)).trans q0, (hb5.cell (show w.heap.size < w4.drew.heap.size from l1)).trans q1, (hb5.cell (show w.heap.size < w4.drew.heap.size from l1)).trans q2, (hb5.cell (show w.heap.size < w4.drew.heap.size from l1)).trans q3, (hb5.cell (show w.heap.size < w4.drew.heap.size from l1)).trans q4, (hb5.cell (show w.heap.size < w4.drew.heap.size from l1)).trans q5⟩) (fun hS => ?_)
            clear hK K
            refine wpAnyH_ready (rs := [4]) (by kernel_rfl) (by simp) ?_
            refine AllReadyH.cons rfl (fun K hK => ?_) AllReadyH.nil
            go_simp
            refine hK.out _ _ (by exact ⟨(((bA (Below.refl w5.heap.size w5) _).cell (show w.heap.size < w5.heap.size by have : w4.heap.size ≤ w5.heap.size := hz5; omega)).trans (hb5.cell (show w.heap.size < w4.drew.heap.size from l1))).trans q0, (((bA (Below.refl w5.heap.size w5) _).cell (show w.heap.size < w5.heap.size by have : w4.heap.size ≤ w5.heap.size := hz5; omega)).trans (hb5.cell (show w.heap.size < w4.drew.heap.size from l1))).trans q1, (((bA (Below.refl w5.heap.size w5) _).cell (show w.heap.size < w5.heap.size by have : w4.heap.size ≤ w5.heap.size := hz5; omega)).trans (hb5.cell (show w.heap.size < w4.drew.heap.size from l1))).trans q2, (((bA (Below.refl w5.heap.size w5) _).cell (show w.heap.size < w5.heap.size by have : w4.heap.size ≤ w5.heap.size := hz5; omega)).trans (hb5.cell (show w.heap.size < w4.drew.heap.size from l1))).trans q3, (((bA (Below.refl w5.heap.size w5) _).cell (show w.heap.size < w5.heap.size by have : w4.heap.size ≤ w5.heap.size := hz5; omega)).trans (hb5.cell (show w.heap.size < w4.drew.heap.size from l1))).trans q4, (((bA (Below.refl w5.heap.size w5) _).cell (show w.heap.size < w5.heap.size by have : w4.heap.size ≤ w5.heap.size := hz5; omega)).trans (hb5.cell (show w.heap.size < w4.drew.heap.size from l1))).trans q5⟩) (fun hS => ?_)
            clear hK K
            refine wpAnyH_ready (rs := [5]) (by kernel_rfl) (by simp) ?_
            refine AllReadyH.cons rfl (fun K hK => ?_) AllReadyH.nil
            go_simp
            go_wp2_with fail
            refine (insTap_any (w.heap.size + 1) w5.heap.size Av xs.length cv i xs t _ ((Hown5.out.base' (show w.heap.size + 1 ≤ w4.drew.heap.size from l1)).below (bA (Below.refl _ _) _)) rfl (Blk.new w5 _ _) (fun a ha e => by subst ha; have h9 := World.ownsRow.lt Hown5.out a.block rfl; omega) hi (by omega) (by have h1 : w4.heap.size ≤ w5.heap.size := hz5; have h2 := (bA (Below.refl w5.heap.size w5) (.cells #[.int .i64 t.v, .int .i64 t.n, .int .i64 t.c, .int .i64 t.m, .int .i64 t.s, .bool t.o] 30)).size; omega)).mono ?_
            rintro e w7 ⟨v, rfl, hown7, hb7⟩
            have hc7 : Below w.heap.size w w7 := (bA hc5 _).trans (hb7.mono (by omega))
            have Hown7 := Lib.hid hown7; clear hown7
            go_simp
            refine hK.out _ _ (by exact ⟨((hb7.cell (show w.heap.size < w.heap.size + 1 by omega)).trans (((bA (Below.refl w5.heap.size w5) _).cell (show w.heap.size < w5.heap.size by have : w4.heap.size ≤ w5.heap.size := hz5; omega)).trans (hb5.cell (show w.heap.size < w4.drew.heap.size from l1)))).trans q0, ((hb7.cell (show w.heap.size < w.heap.size + 1 by omega)).trans (((bA (Below.refl w5.heap.size w5) _).cell (show w.heap.size < w5.heap.size by have : w4.heap.size ≤ w5.heap.size := hz5; omega)).trans (hb5.cell (show w.heap.size < w4.drew.heap.size from l1)))).trans q1, ((hb7.cell (show w.heap.size < w.heap.size + 1 by omega)).trans (((bA (Below.refl w5.heap.size w5) _).cell (show w.heap.size < w5.heap.size by have : w4.heap.size ≤ w5.heap.size := hz5; omega)).trans (hb5.cell (show w.heap.size < w4.drew.heap.size from l1)))).trans q2, ((hb7.cell (show w.heap.size < w.heap.size + 1 by omega)).trans (((bA (Below.refl w5.heap.size w5) _).cell (show w.heap.size < w5.heap.size by have : w4.heap.size ≤ w5.heap.size := hz5; omega)).trans (hb5.cell (show w.heap.size < w4.drew.heap.size from l1)))).trans q3, ((hb7.cell (show w.heap.size < w.heap.size + 1 by omega)).trans (((bA (Below.refl w5.heap.size w5) _).cell (show w.heap.size < w5.heap.size by have : w4.heap.size ≤ w5.heap.size := hz5; omega)).trans (hb5.cell (show w.heap.size < w4.drew.heap.size from l1)))).trans q4, ((hb7.cell (show w.heap.size < w.heap.size + 1 by omega)).trans (((bA (Below.refl w5.heap.size w5) _).cell (show w.heap.size < w5.heap.size by have : w4.heap.size ≤ w5.heap.size := hz5; omega)).trans (hb5.cell (show w.heap.size < w4.drew.heap.size from l1)))).trans q5⟩) (fun hS => ?_)
            clear hK K
            refine take_at 6 4 (v := ?_) rfl rfl (by kernel_rfl) (by kernel_rfl) (by kernel_rfl) (fun _ _ _ h => h) (by rfl) ?_ hS ?_
            rotate_left 1
            · (intro w hSw; (try dsimp only at hSw); (try go_split_ands); go_simp; try with_reducible rfl)
            simp only [List.setIfInBounds_toArray, List.set_cons_zero, List.set_cons_succ]
            refine take_at 7 5 (v := ?_) rfl rfl (by kernel_rfl) (by kernel_rfl) (by kernel_rfl) (fun _ _ _ h => h) (by rfl) ?_ hS ?_
            rotate_left 1
            · (intro w hSw; (try dsimp only at hSw); (try go_split_ands); go_simp; try with_reducible rfl)
            simp only [List.setIfInBounds_toArray, List.set_cons_zero, List.set_cons_succ]
            refine wpAnyH_done (by kernel_rfl) ?_ _
            go_wp2
            go_ret2
            exact ⟨_, by rw [HE2.out]; rfl, by rw [HE2.out]; show OwnTaps _ _ _ (Fares.insertTap xs t); rw [HI.out]; exact Hown7.out.base' (by omega), hc7⟩
          · go_simp
            refine hK.out _ _ (by exact ⟨((bA (Below.refl w4.drew.heap.size w4.drew) _).cell (show w.heap.size < w4.drew.heap.size from l1)).trans q0, ((bA (Below.refl w4.drew.heap.size w4.drew) _).cell (show w.heap.size < w4.drew.heap.size from l1)).trans q1, ((bA (Below.refl w4.drew.heap.size w4.drew) _).cell (show w.heap.size < w4.drew.heap.size from l1)).trans q2, ((bA (Below.refl w4.drew.heap.size w4.drew) _).cell (show w.heap.size < w4.drew.heap.size from l1)).trans q3, ((bA (Below.refl w4.drew.heap.size w4.drew) _).cell (show w.heap.size < w4.drew.heap.size from l1)).trans q4, ((bA (Below.refl w4.drew.heap.size w4.drew) _).cell (show w.heap.size < w4.drew.heap.size from l1)).trans q5⟩) (fun hS => ?_)
            clear hK K
            refine wpAnyH_ready (rs := [1]) (by kernel_rfl) (by simp) ?_
            refine AllReadyH.cons rfl (fun K hK => ?_) AllReadyH.nil
            go_simp
            go_wp2_with fail
            refine (cloneTaps2_any A xs.length c xs _ (readsOver Hx.out (bA (bD1 hc4) _)) rfl hA (by omega)).mono ?_
            rintro e w5 ⟨v, rfl, hown, hb5⟩
            have hc5 : Below w.heap.size w w5 := bT (bA (bD1 hc4) _) hb5
            have hz5 := hb5.size
            obtain ⟨Av, cv, rfl, hcv1, hcv2, _⟩ := OwnTaps.form hown
            have Hown5 := Lib.hid hown
            clear hown
            go_simp
            refine hK.out _ _ (by exact ⟨((hb5.cell (show w.heap.size < (w4.drew.alloc _).heap.size from Nat.lt_of_lt_of_le l1 (bA (Below.refl w4.drew.heap.size w4.drew) _).size)).trans ((bA (Below.refl w4.drew.heap.size w4.drew) _).cell (show w.heap.size < w4.drew.heap.size from l1))).trans q0, ((hb5.cell (show w.heap.size < (w4.drew.alloc _).heap.size from Nat.lt_of_lt_of_le l1 (bA (Below.refl w4.drew.heap.size w4.drew) _).size)).trans ((bA (Below.refl w4.drew.heap.size w4.drew) _).cell (show w.heap.size < w4.drew.heap.size from l1))).trans q1, ((hb5.cell (show w.heap.size < (w4.drew.alloc _).heap.size from Nat.lt_of_lt_of_le l1 (bA (Below.refl w4.drew.heap.size w4.drew) _).size)).trans ((bA (Below.refl w4.drew.heap.size w4.drew) _).cell (show w.heap.size < w4.drew.heap.size from l1))).trans q2, ((hb5.cell (show w.heap.size < (w4.drew.alloc _).heap.size from Nat.lt_of_lt_of_le l1 (bA (Below.refl w4.drew.heap.size w4.drew) _).size)).trans ((bA (Below.refl w4.drew.heap.size w4.drew) _).cell (show w.heap.size < w4.drew.heap.size from l1))).trans q3, ((hb5.cell (show w.heap.size < (w4.drew.alloc _).heap.size from Nat.lt_of_lt_of_le l1 (bA (Below.refl w4.drew.heap.size w4.drew) _).size)).trans ((bA (Below.refl w4.drew.heap.size w4.drew) _).cell (show w.heap.size < w4.drew.heap.size from l1))).trans q4, ((hb5.cell (show w.heap.size < (w4.drew.alloc _).heap.size from Nat.lt_of_lt_of_le l1 (bA (Below.refl w4.drew.heap.size w4.drew) _).size)).trans ((bA (Below.refl w4.drew.heap.size w4.drew) _).cell (show w.heap.size < w4.drew.heap.size from l1))).trans q5⟩) (fun hS => ?_)
            clear hK K
            refine wpAnyH_ready (rs := [5]) (by kernel_rfl) (by simp) ?_
            refine AllReadyH.cons rfl (fun K hK => ?_) AllReadyH.nil
            go_simp
            go_wp2_with fail
            refine (insTap_any (w.heap.size + 1) w4.heap.size Av xs.length cv i xs t _ (Hown5.out.base' (show w.heap.size < (w4.drew.alloc _).heap.size from Nat.lt_of_lt_of_le l1 (bA (Below.refl w4.drew.heap.size w4.drew) _).size)) rfl ((Blk.new w4.drew _ _).below hb5 (Blk.new w4.drew _ _).lt) (fun a ha e => by subst ha; have h9 := World.ownsRow.lt Hown5.out a.block rfl; have h8 := (Blk.new w4.drew 30 #[.int .i64 t.v, .int .i64 t.n, .int .i64 t.c, .int .i64 t.m, .int .i64 t.s, .bool t.o]).lt; have h7 : w4.drew.heap.size = w4.heap.size := rfl; omega) hi (by omega) (Nat.le_trans (show w.heap.size < (w4.drew.alloc _).heap.size from Nat.lt_of_lt_of_le l1 (bA (Below.refl w4.drew.heap.size w4.drew) _).size) hz5)).mono ?_
            rintro e w7 ⟨v, rfl, hown7, hb7⟩
            have hc7 : Below w.heap.size w w7 := (hc5).trans (hb7.mono (by omega))
            have Hown7 := Lib.hid hown7; clear hown7
            go_simp
            refine hK.out _ _ (by exact ⟨((hb7.cell (show w.heap.size < w.heap.size + 1 by omega)).trans ((hb5.cell (show w.heap.size < (w4.drew.alloc _).heap.size from Nat.lt_of_lt_of_le l1 (bA (Below.refl w4.drew.heap.size w4.drew) _).size)).trans ((bA (Below.refl w4.drew.heap.size w4.drew) _).cell (show w.heap.size < w4.drew.heap.size from l1)))).trans q0, ((hb7.cell (show w.heap.size < w.heap.size + 1 by omega)).trans ((hb5.cell (show w.heap.size < (w4.drew.alloc _).heap.size from Nat.lt_of_lt_of_le l1 (bA (Below.refl w4.drew.heap.size w4.drew) _).size)).trans ((bA (Below.refl w4.drew.heap.size w4.drew) _).cell (show w.heap.size < w4.drew.heap.size from l1)))).trans q1, ((hb7.cell (show w.heap.size < w.heap.size + 1 by omega)).trans ((hb5.cell (show w.heap.size < (w4.drew.alloc _).heap.size from Nat.lt_of_lt_of_le l1 (bA (Below.refl w4.drew.heap.size w4.drew) _).size)).trans ((bA (Below.refl w4.drew.heap.size w4.drew) _).cell (show w.heap.size < w4.drew.heap.size from l1)))).trans q2, ((hb7.cell (show w.heap.size < w.heap.size + 1 by omega)).trans ((hb5.cell (show w.heap.size < (w4.drew.alloc _).heap.size from Nat.lt_of_lt_of_le l1 (bA (Below.refl w4.drew.heap.size w4.drew) _).size)).trans ((bA (Below.refl w4.drew.heap.size w4.drew) _).cell (show w.heap.size < w4.drew.heap.size from l1)))).trans q3, ((hb7.cell (show w.heap.size < w.heap.size + 1 by omega)).trans ((hb5.cell (show w.heap.size < (w4.drew.alloc _).heap.size from Nat.lt_of_lt_of_le l1 (bA (Below.refl w4.drew.heap.size w4.drew) _).size)).trans ((bA (Below.refl w4.drew.heap.size w4.drew) _).cell (show w.heap.size < w4.drew.heap.size from l1)))).trans q4, ((hb7.cell (show w.heap.size < w.heap.size + 1 by omega)).trans ((hb5.cell (show w.heap.size < (w4.drew.alloc _).heap.size from Nat.lt_of_lt_of_le l1 (bA (Below.refl w4.drew.heap.size w4.drew) _).size)).trans ((bA (Below.refl w4.drew.heap.size w4.drew) _).cell (show w.heap.size < w4.drew.heap.size from l1)))).trans q5⟩) (fun hS => ?_)
            clear hK K
            refine take_at 6 4 (v := ?_) rfl rfl (by kernel_rfl) (by kernel_rfl) (by kernel_rfl) (fun _ _ _ h => h) (by rfl) ?_ hS ?_
            rotate_left 1
            · (intro w hSw; (try dsimp only at hSw); (try go_split_ands); go_simp; try with_reducible rfl)
            simp only [List.setIfInBounds_toArray, List.set_cons_zero, List.set_cons_succ]
            refine take_at 7 5 (v := ?_) rfl rfl (by kernel_rfl) (by kernel_rfl) (by kernel_rfl) (fun _ _ _ h => h) (by rfl) ?_ hS ?_
            rotate_left 1
            · (intro w hSw; (try dsimp only at hSw); (try go_split_ands); go_simp; try with_reducible rfl)
            simp only [List.setIfInBounds_toArray, List.set_cons_zero, List.set_cons_succ]
            refine wpAnyH_done (by kernel_rfl) ?_ _
            go_wp2
            go_ret2
            exact ⟨_, by rw [HE2.out]; rfl, by rw [HE2.out]; show OwnTaps _ _ _ (Fares.insertTap xs t); rw [HI.out]; exact Hown7.out.base' (by omega), hc7⟩
      · have hE : Fares.addTap xs t = (xs, true) := by rw [show Fares.addTap xs t = _ from HE.out, hv, ht, hk]; rfl
        have HE2 := Lib.hid hE; clear hE
        have hcb := hc3.size
        go_wp2_with fail
        refine (cloneTaps2_any A xs.length c xs _ (readsOver Hx.out hc3) rfl hA (by omega)).mono ?_
        rintro e w5 ⟨v, rfl, hown, hb5⟩
        have hc5 : Below w.heap.size w w5 := bT hc3 hb5
        go_wp2
        go_ret2
        exact ⟨_, by rw [HE2.out]; rfl, by rw [HE2.out]; exact OwnTaps.base' hown hcb, hc5⟩
end Go.Proofs.Ytmbgaohnnkmidaa
