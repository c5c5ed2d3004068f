/-
  Taps in order: the program's check and its model's.
-/
import Derived.Test.YtllhjgheffemnaaTapFn
import Derived.Deep.RegionWith
set_option linter.unusedSimpArgs false
namespace Go.Proofs.Ytllhjgheffemnaa
open Go.RowKit
set_option linter.unusedVariables false

set_option maxRecDepth 100000 in
set_option maxHeartbeats 2000000 in
theorem implValidTaps_any (A : Option Addr) (n c : Nat) (xs : List Fares.Tap) (w : World) (hx : Taps w w.heap.size A xs) (hn : xs.length = n) (hc : n ≤ c) (hl : c ≤ 9223372036854775807) :
    Calls Try.prog 13 #[.slice A n c] w fun e w' => e = .returned (.bool (Fares.validTaps xs)) ∧ Below w.heap.size w w' := by
  subst hn
  by_cases hlong : 24 < xs.length
  · have hd : decide ((xs.length : Int) > 24) = true := by simp; omega
    go_enter Try.func13, Try.ntmps13
    go_wp2
    go_ret
    exact ⟨ret_bool (by unfold Fares.validTaps; simp; omega), Below.refl _ _⟩
  · go_enter Try.func13, Try.ntmps13
    go_wp2
    go_loopw [10] (fun i wr => ∃ k : Nat, k ≤ xs.length ∧ i = .int .i64 k ∧ Below w.heap.size w wr ∧ ∀ j, j < k → Fares.tapOkAt xs j = true) (fun i _ => xs.length - (intOf i).toNat)
    case atStart => exact ⟨0, Nat.zero_le _, rfl, Below.refl _ _, fun j hj => absurd hj (by omega)⟩
    case round =>
      obtain ⟨k, hk, rfl, hb, he⟩ := hrel
      have He := Lib.hid he; clear he
      have hs1 := hb.size
      by_cases hlt : k < xs.length
      · obtain ⟨x, hxk⟩ : ∃ x, xs[k]? = some x := ⟨xs[k], List.getElem?_eq_getElem hlt⟩
        have Hend : Hid (Fares.tapOkAt xs k = false → Fares.validTaps xs = false) := fun h => by
          unfold Fares.validTaps; rw [Fares.all_range_false hlt h]; simp
        obtain ⟨b1, o1, rfl, hb1, hr1⟩ := hx.row (by omega)
        obtain ⟨p0, p1, p2, p3, p4, p5⟩ := (hr1 k x hxk).below hb hb1
        have Hx := Lib.hid hxk; clear hxk
        have Hr := Lib.hid hr1; clear hr1
        have Hxs := Lib.hid hx; clear hx
        have i0 : (0 : Int) ≤ (k : Int) := by omega
        have i1 : (k : Int) < (xs.length : Int) := by omega
        have i2 : (k : Int) ≤ (c : Int) := by omega
        have hbx : Below w.heap.size w (wr.alloc (.cells #[.int .i64 x.v, .int .i64 x.n, .int .i64 x.c, .int .i64 x.m, .int .i64 x.s, .bool x.o] 36)) := bA hb _
        by_cases hv : Fares.validTap x = true
        · have htk : (xs.take k).length = k := by rw [List.length_take]; omega
          have Htk := Lib.hid htk; clear htk
          by_cases hkn : Fares.known (xs.take k) x = true
          · go_wp2
            go_region_held3 (fun w' => w'.cell? ⟨wr.heap.size, 0, none⟩ = some (.int .i64 x.v) ∧ w'.cell? ⟨wr.heap.size, 1, none⟩ = some (.int .i64 x.n) ∧ w'.cell? ⟨wr.heap.size, 2, none⟩ = some (.int .i64 x.c) ∧ w'.cell? ⟨wr.heap.size, 3, none⟩ = some (.int .i64 x.m) ∧ w'.cell? ⟨wr.heap.size, 4, none⟩ = some (.int .i64 x.s) ∧ w'.cell? ⟨wr.heap.size, 5, none⟩ = some (.bool x.o))
              (first | go_keep | (go_split_ands; refine ⟨?_, ?_, ?_, ?_, ?_, ?_⟩ <;> (exact (hb5.cell (by omega)).trans (by assumption))) | (go_split_ands; refine ⟨?_, ?_, ?_, ?_, ?_, ?_⟩ <;> (exact (hb3.cell (by simp)).trans (by first | assumption | go_simp))))
              (first | (go_at_call 30; refine (implValidTap_any x _).mono ?_; rintro e w1 ⟨rfl, hb3⟩; have hb4 : Below w.heap.size w w1 := bT (bD1 hbx) hb3; have hs2 : wr.heap.size < w1.heap.size := (by have := hb3.size; simp at this; omega)) | (go_at_call 31; refine (hasNumber_any _ _ _ (xs.take k) x _ (((Hxs.out.below hb4 (Nat.le_refl _)).take k).more hb4.size) Htk.out (by omega)).mono ?_; rintro e w2 ⟨rfl, hb5⟩; have hb6 : Below w.heap.size w w2 := bT hb4 hb5))
            go_wp2
            go_ret
            exact ⟨ret_bool (by rw [Hend.out]; unfold Fares.tapOkAt; rw [Hx.out]; simp [hkn]), hb6⟩
          · have hkn' : Fares.known (xs.take k) x = false := by simpa using hkn
            clear hkn
            go_wp2
            go_region_held3 (fun w' => w'.cell? ⟨wr.heap.size, 0, none⟩ = some (.int .i64 x.v) ∧ w'.cell? ⟨wr.heap.size, 1, none⟩ = some (.int .i64 x.n) ∧ w'.cell? ⟨wr.heap.size, 2, none⟩ = some (.int .i64 x.c) ∧ w'.cell? ⟨wr.heap.size, 3, none⟩ = some (.int .i64 x.m) ∧ w'.cell? ⟨wr.heap.size, 4, none⟩ = some (.int .i64 x.s) ∧ w'.cell? ⟨wr.heap.size, 5, none⟩ = some (.bool x.o))
              (first | go_keep | (go_split_ands; refine ⟨?_, ?_, ?_, ?_, ?_, ?_⟩ <;> (exact (hb5.cell (by omega)).trans (by assumption))) | (go_split_ands; refine ⟨?_, ?_, ?_, ?_, ?_, ?_⟩ <;> (exact (hb3.cell (by simp)).trans (by first | assumption | go_simp))))
              (first | (go_at_call 30; refine (implValidTap_any x _).mono ?_; rintro e w1 ⟨rfl, hb3⟩; have hb4 : Below w.heap.size w w1 := bT (bD1 hbx) hb3; have hs2 : wr.heap.size < w1.heap.size := (by have := hb3.size; simp at this; omega)) | (go_at_call 31; refine (hasNumber_any _ _ _ (xs.take k) x _ (((Hxs.out.below hb4 (Nat.le_refl _)).take k).more hb4.size) Htk.out (by omega)).mono ?_; rintro e w2 ⟨rfl, hb5⟩; have hb6 : Below w.heap.size w w2 := bT hb4 hb5))
            go_wp2
            go_split_ands
            by_cases hk0 : 0 < k
            · obtain ⟨j, hj⟩ : ∃ j, k = j + 1 := ⟨k - 1, by omega⟩
              obtain ⟨y, hyj⟩ : ∃ y, xs[j]? = some y := ⟨xs[j], List.getElem?_eq_getElem (by omega)⟩
              have hs3 := hb6.size
              have hs4 := hb5.size
              obtain ⟨r0, r1, r2, r3, r4, r5⟩ := (Hr.out j y hyj).below hb6 hb1
              have w1 : IntKind.i64.wrap ((k : Int) - 1) = (j : Int) := by rw [IntKind.wrap_i64]; omega
              have j0 : (0 : Int) ≤ (j : Int) := by omega
              have j1 : (j : Int) < (xs.length : Int) := by omega
              have hk1 : (0 : Int) < (k : Int) := by omega
              have Hyj := Lib.hid hyj; clear hyj
              have Hj := Lib.hid hj; clear hj
              have Hok : Hid (Fares.tapOkAt xs k = Fares.earlier y x) := by
                have h1 := Hx.out
                rw [Hj.out] at h1 hkn' ⊢
                rw [Fares.tapOkAt_succ h1 Hyj.out, hv, hkn']; rfl
              by_cases hcmp : Fares.compareTaps y x ≥ 0
              · have hc1 : decide ((0 : Int) ≤ Fares.compareTaps y x) = true := by simpa using hcmp
                have hearl : Fares.earlier y x = false := by have := Fares.compare_earlier y x; rw [decide_eq_true hcmp] at this; simpa using this.symm
                have Hearl := Lib.hid hearl; clear hearl
                go_region_held3 (fun w' => w'.cell? ⟨b1, o1 + j * 6, none⟩ = some (.int .i64 y.v) ∧ w'.cell? ⟨b1, o1 + j * 6 + 1, none⟩ = some (.int .i64 y.n) ∧ w'.cell? ⟨b1, o1 + j * 6 + 2, none⟩ = some (.int .i64 y.c) ∧ w'.cell? ⟨b1, o1 + j * 6 + 3, none⟩ = some (.int .i64 y.m) ∧ w'.cell? ⟨b1, o1 + j * 6 + 4, none⟩ = some (.int .i64 y.s) ∧ w'.cell? ⟨b1, o1 + j * 6 + 5, none⟩ = some (.bool y.o) ∧ w'.cell? ⟨wr.heap.size, 0, none⟩ = some (.int .i64 x.v) ∧ w'.cell? ⟨wr.heap.size, 1, none⟩ = some (.int .i64 x.n) ∧ w'.cell? ⟨wr.heap.size, 2, none⟩ = some (.int .i64 x.c) ∧ w'.cell? ⟨wr.heap.size, 3, none⟩ = some (.int .i64 x.m) ∧ w'.cell? ⟨wr.heap.size, 4, none⟩ = some (.int .i64 x.s) ∧ w'.cell? ⟨wr.heap.size, 5, none⟩ = some (.bool x.o))
                  (first | go_keep | (go_split_ands; refine ⟨?_, ?_, ?_, ?_, ?_, ?_, ?_, ?_, ?_, ?_, ?_, ?_⟩ <;> (first | (exact (hb7.cell (show b1 < w2.heap.size by omega)).trans (by assumption)) | (exact (hb7.cell (show wr.heap.size < w2.heap.size by omega)).trans (by assumption)))))
                  (first | (go_at_call 32; refine (compareTaps_any y x _).mono ?_; rintro e w3 ⟨rfl, hb7⟩; have hb8 : Below w.heap.size w w3 := bT (bD1 hb6) hb7))
                go_wp2
                go_ret
                exact ⟨ret_bool (by rw [Hend.out (by rw [Hok.out, Hearl.out])]), hb8⟩
              · have hc1 : decide ((0 : Int) ≤ Fares.compareTaps y x) = false := by simpa using hcmp
                have hearl : Fares.earlier y x = true := by have := Fares.compare_earlier y x; rw [decide_eq_false hcmp] at this; simpa using this.symm
                have Hearl := Lib.hid hearl; clear hearl
                go_region_held3 (fun w' => w'.cell? ⟨b1, o1 + j * 6, none⟩ = some (.int .i64 y.v) ∧ w'.cell? ⟨b1, o1 + j * 6 + 1, none⟩ = some (.int .i64 y.n) ∧ w'.cell? ⟨b1, o1 + j * 6 + 2, none⟩ = some (.int .i64 y.c) ∧ w'.cell? ⟨b1, o1 + j * 6 + 3, none⟩ = some (.int .i64 y.m) ∧ w'.cell? ⟨b1, o1 + j * 6 + 4, none⟩ = some (.int .i64 y.s) ∧ w'.cell? ⟨b1, o1 + j * 6 + 5, none⟩ = some (.bool y.o) ∧ w'.cell? ⟨wr.heap.size, 0, none⟩ = some (.int .i64 x.v) ∧ w'.cell? ⟨wr.heap.size, 1, none⟩ = some (.int .i64 x.n) ∧ w'.cell? ⟨wr.heap.size, 2, none⟩ = some (.int .i64 x.c) ∧ w'.cell? ⟨wr.heap.size, 3, none⟩ = some (.int .i64 x.m) ∧ w'.cell? ⟨wr.heap.size, 4, none⟩ = some (.int .i64 x.s) ∧ w'.cell? ⟨wr.heap.size, 5, none⟩ = some (.bool x.o))
                  (first | go_keep | (go_split_ands; refine ⟨?_, ?_, ?_, ?_, ?_, ?_, ?_, ?_, ?_, ?_, ?_, ?_⟩ <;> (first | (exact (hb7.cell (show b1 < w2.heap.size by omega)).trans (by assumption)) | (exact (hb7.cell (show wr.heap.size < w2.heap.size by omega)).trans (by assumption)))))
                  (first | (go_at_call 32; refine (compareTaps_any y x _).mono ?_; rintro e w3 ⟨rfl, hb7⟩; have hb8 : Below w.heap.size w w3 := bT (bD1 hb6) hb7))
                go_wp2
                go_roundw
                case rel => exact ⟨k + 1, by omega, by go_num, hb8, fun i hi => by
                  rcases Nat.lt_or_ge i k with h | h
                  · exact He.out i h
                  · rw [show i = k by omega, Hok.out, Hearl.out]⟩
                case measure => simp [intOf]; omega
            · have hk1 : decide ((0 : Int) < (k : Int)) = false := by simp; omega
              go_quiet (fail)
              go_wp2
              go_roundw
              case rel => exact ⟨k + 1, by omega, by go_num, bD hb6 _, fun i hi => by
                have h1 := Hx.out
                have e : k = 0 := by omega
                subst e
                rw [show i = 0 by omega, Fares.tapOkAt_zero h1, hv]⟩
              case measure => simp [intOf]; omega
        · have hv' : Fares.validTap x = false := by simpa using hv
          clear hv
          go_wp2
          first | go_region_with (go_at_call 30; refine (implValidTap_any x _).mono ?_; rintro e w1 ⟨rfl, hb3⟩) | fail
          all_goals
            have hb4 : Below w.heap.size w w1 := bT (bD1 hbx) hb3
            go_wp2
            go_ret
            exact ⟨ret_bool (by rw [Hend.out]; unfold Fares.tapOkAt; rw [Hx.out]; simp [hv']), hb4⟩
      · go_wp2
        go_ret
        exact ⟨ret_bool (by
          unfold Fares.validTaps
          rw [Fares.all_range_true (fun j hj => He.out j (by omega))]
          simp; omega), hb⟩
end Go.Proofs.Ytllhjgheffemnaa
