/-
  Charges with caps: the program's functions, and the model's checks round them.
-/
import Derived.Test.YtnahdclmfegmeaaAllow
import Derived.Test.YtnahdclmfegmeaaChargeFn2
import Derived.Deep.WholeRow
namespace Go.Proofs.Ytnahdclmfegmeaa
open Go.RowKit Go.Deep
set_option linter.unusedVariables false

theorem pay_at (g d k : Nat) (a : Int) (xs : List Fares.Charge) (day week : Int) (w : World) (hA : Allow w g (Fares.leftOf xs (Fares.capRun xs day week k) day week)) (hx : xs[k]? = some ⟨(d : Int), a⟩) (hd : d < 29) (ha : 0 ≤ a) (ha2 : a ≤ 4000)
    (hL : ∀ i, 0 ≤ Fares.leftOf xs (Fares.capRun xs day week k) day week i ∧ Fares.leftOf xs (Fares.capRun xs day week k) day week i ≤ 50000) :
    Calls Try.prog 111 #[.pointer (some ⟨g, 0, none⟩), chargeV ⟨(d : Int), a⟩] w fun e w' => e = .returned (.int .i64 (Fares.capPay xs (Fares.capRun xs day week k) day week ⟨(d : Int), a⟩)) ∧
      Allow w' g (Fares.leftOf xs (Fares.capRun xs day week (k + 1)) day week) ∧ w.grownBy w' (some g) := by
  have hk : k < xs.length := (List.getElem?_eq_some_iff.1 hx).1
  have hlen := Fares.capRun_length xs day week k (by omega)
  have hp := Fares.capPay_left (xs := xs) (out := Fares.capRun xs day week k) (day := day) (week := week) hd ha (hL d).1 (hL (29 + d / 7)).1
  refine (pay_any g d a _ w hA hd ha ha2 (hL d).1 (hL _).1 (hL d).2 (hL _).2).mono ?_
  rintro e w' ⟨rfl, hA', hg⟩
  rw [← hp] at hA' ⊢
  refine ⟨rfl, ?_, hg⟩
  unfold Allow at hA' ⊢
  rw [allowCells_congr (g := fun i => if i = 29 + d / 7 then Fares.leftOf xs (Fares.capRun xs day week k) day week (29 + d / 7) - Fares.capPay xs (Fares.capRun xs day week k) day week ⟨(d : Int), a⟩ else if i = d then Fares.leftOf xs (Fares.capRun xs day week k) day week d - Fares.capPay xs (Fares.capRun xs day week k) day week ⟨(d : Int), a⟩ else Fares.leftOf xs (Fares.capRun xs day week k) day week i) (fun i hi => by
    rw [Fares.capRun_succ hx, Fares.leftOf_snoc (by rw [hlen]; exact hx) hd i hi])]
  exact hA'

set_option maxRecDepth 100000 in
set_option maxHeartbeats 4000000 in
theorem implCapCharges_any (A : Option Addr) (n c : Nat) (xs : List Fares.Charge) (day week : Int) (w : World) (hx : Charges w w.heap.size A xs) (hn : xs.length = n) (hl : n ≤ 4611686018427387904) :
    Calls Try.prog 62 #[.slice A n c, .int .i64 day, .int .i64 week] w fun e w' => ∃ v, e = .returned v ∧ OwnInts w' w.heap.size v (Fares.capCharges xs day week) ∧ Below w.heap.size w w' := by
  subst hn
  have HE : Hid (Fares.capCharges xs day week = if Fares.validCharges xs && Fares.capOk day && Fares.capOk week then Fares.capRun xs day week xs.length else []) := rfl
  by_cases hv : Fares.validCharges xs = true
  · by_cases hd : (Fares.capOk day && Fares.capOk week) = true
    · have HE2 := Lib.hid (show Fares.capCharges xs day week = Fares.capRun xs day week xs.length by
        rw [HE.out, hv]; simp only [Bool.true_and]; rw [if_pos hd])
      have hlen := Fares.length_of_validCharges hv
      have Hm := Lib.hid (Fares.chargeOk_mem hv)
      have hd' := hd
      unfold Fares.capOk at hd'
      rw [Bool.and_eq_true, decide_eq_true_eq, decide_eq_true_eq] at hd'
      obtain ⟨⟨d0, d1⟩, g0, g1⟩ := hd'
      have HL := Lib.hid (fun k hk i => Fares.leftOf_bounds xs day week d0 g0 Hm.out k hk i)
      obtain ⟨Z, hZ, hZ0, hmk⟩ := run_make_ints xs.length (by omega)
      have HZ := Lib.hid hZ; clear hZ
      have HZ0 := Lib.hid hZ0; clear hZ0
      go_enter Try.func62, Try.ntmps62
      go_wp2_with fail
      refine (implvalidCharges_any A _ c xs _ hx rfl hl).mono ?_
      rintro e w1 ⟨rfl, hb1⟩
      have hx1 := ((hx.below hb1 (Nat.le_refl _)).more hb1.size)
      go_wp2_with (go_at_call 109; refine (implvalidCaps_any _ _ _).mono ?_; rintro e w' ⟨rfl, rfl⟩)
      refine (newAllowance_any day week _).mono ?_
      rintro e w2 ⟨rfl, hb2⟩
      have hb12 : Below w.heap.size w w2 := bT hb1 hb2
      clear hx1
      have hst := run_storeCells_new (P := Try.prog) w2 108 #[.int .i64 0, .int .i64 0, .int .i64 0, .int .i64 0, .int .i64 0, .int .i64 0, .int .i64 0, .int .i64 0, .int .i64 0, .int .i64 0, .int .i64 0, .int .i64 0, .int .i64 0, .int .i64 0, .int .i64 0, .int .i64 0, .int .i64 0, .int .i64 0, .int .i64 0, .int .i64 0, .int .i64 0, .int .i64 0, .int .i64 0, .int .i64 0, .int .i64 0, .int .i64 0, .int .i64 0, .int .i64 0, .int .i64 0, .int .i64 0, .int .i64 0, .int .i64 0, .int .i64 0, .int .i64 0] (allowCells (fun i => if i < 29 then day else week)) (by rw [allowCells_size]; exact info_allow) (by rw [allowCells_size]; rfl) (allowCells_one _)
      go_wp2_with fail
      clear hst
      clear hmk
      go_loopw [28] (fun i wr => ∃ k : Nat, k ≤ xs.length ∧ i = .int .i64 k ∧ Allow wr w2.heap.size (Fares.leftOf xs (Fares.capRun xs day week k) day week) ∧ Starts wr (w2.heap.size + 1) 3 xs.length (((Fares.capRun xs day week xs.length).take k).flatMap intCells) ∧ Below w.heap.size w wr) (fun i _ => xs.length - (intOf i).toNat)
      case atStart => exact ⟨0, Nat.zero_le _, rfl, (by
        unfold Allow
        rw [show Fares.capRun xs day week 0 = [] from rfl, allowCells_congr (g := fun i => if i < 29 then day else week) (fun i _ => Fares.leftOf_start xs day week i)]
        exact Blk.alloc (Blk.new w2 _ _) _), ⟨Z, (by have h := Blk.new (w2.alloc (.cells (allowCells (fun i => if i < 29 then day else week)) 108)) 3 Z; simp only [World.size_alloc] at h; exact h), HZ.out, by simp⟩, bA (bA hb12 _) _⟩
      case round =>
        obtain ⟨k, hk, rfl, hA, hst, hb⟩ := hrel
        have hs1 := hb.size
        have hz1 := hst.lt
        have hbs := hb12.size
        by_cases hlt : k < xs.length
        · obtain ⟨x, hxk⟩ : ∃ x, xs[k]? = some x := ⟨xs[k], List.getElem?_eq_getElem hlt⟩
          obtain ⟨x0, x1, a0, a1⟩ := Hm.out x (List.mem_of_getElem? hxk)
          obtain ⟨xd, xa⟩ := x
          dsimp only at x0 x1 a0 a1
          obtain ⟨d, rfl⟩ := Int.eq_ofNat_of_zero_le x0
          obtain ⟨b1, o1, rfl, hbb, hr1⟩ := hx.row (by omega)
          obtain ⟨p0, p1⟩ := (hr1 k _ hxk).below hb hbb
          dsimp only at p0 p1
          have Hget := Lib.hid (Fares.capRun_get day week hxk)
          have Hxk := Lib.hid hxk; clear hxk hr1 hx
          have HA := Lib.hid hA; clear hA
          have Hst := Lib.hid hst; clear hst
          have i0 : (0 : Int) ≤ (k : Int) := by omega
          have i1 : (k : Int) < (xs.length : Int) := by omega
          go_wp2_with fail
          refine (pay_at w2.heap.size d k xa xs day week _ (Blk.alloc HA.out _) Hxk.out (by omega) a0 a1 (fun i => by have := HL.out k (by omega) i; omega)).mono ?_
          rintro e w3 ⟨rfl, hA3, hg3⟩
          have hst3 := Hst.out.grown (grown_trans (grown_alloc (grown_refl wr (some w2.heap.size)) _) hg3) (by simp)
          obtain ⟨u0, q0⟩ := hst3.there (i := k) (by omega)
          have e0 := hst3.free k
          have Hst3 := Lib.hid hst3; clear hst3
          have HA3 := Lib.hid hA3; clear hA3
          have hb3 : Below w.heap.size w w3 := Below.grown (bA hb _) hg3 (by simp; omega) (fun r hr => by injection hr with hr; omega)
          clear hg3 HA
          go_wp2
          go_roundw
          case rel => exact ⟨k + 1, by omega, by go_num, HA3.out.far (by simp) _, (by
            have := Hst3.out.next intCells 1 (fun _ => rfl) Hget.out (by omega)
            rwa [Nat.mul_one] at this), below_setCells (by omega) (intCells _) w3 k hb3⟩
          case measure => simp [intOf]; omega
        · go_wp2
          go_ret
          have hlr := Fares.capRun_length xs day week xs.length (Nat.le_refl _)
          rw [List.take_of_length_le (by omega)] at hst
          have h := OwnInts.of_starts (base := w.heap.size) hst (by omega) (by unfold maxLen; omega) (by omega)
          rw [hlr] at h
          exact ⟨_, rfl, by rw [HE2.out]; exact h, hb⟩
    · have hd' : (Fares.capOk day && Fares.capOk week) = false := by simpa using hd
      have HE2 := Lib.hid (show Fares.capCharges xs day week = [] by
        rw [HE.out, hv]; simp only [Bool.true_and]; rw [hd']; rfl)
      clear hd
      go_enter Try.func62, Try.ntmps62
      go_wp2_with fail
      refine (implvalidCharges_any A _ c xs _ hx rfl hl).mono ?_
      rintro e w1 ⟨rfl, hb1⟩
      go_wp2_with (go_at_call 109; refine (implvalidCaps_any _ _ _).mono ?_; rintro e w' ⟨rfl, rfl⟩)
      all_goals (go_ret; exact ⟨_, rfl, by rw [HE2.out]; exact OwnInts.none_ _ _, hb1⟩)
  · have hv' : Fares.validCharges xs = false := by simpa using hv
    clear hv
    have HE2 := Lib.hid (show Fares.capCharges xs day week = [] by rw [HE.out, hv']; rfl)
    go_enter Try.func62, Try.ntmps62
    go_wp2_with fail
    refine (implvalidCharges_any A _ c xs _ hx rfl hl).mono ?_
    rintro e w1 ⟨rfl, hb1⟩
    go_wp2
    go_ret
    exact ⟨_, rfl, by rw [HE2.out]; exact OwnInts.none_ _ _, hb1⟩
end Go.Proofs.Ytnahdclmfegmeaa
