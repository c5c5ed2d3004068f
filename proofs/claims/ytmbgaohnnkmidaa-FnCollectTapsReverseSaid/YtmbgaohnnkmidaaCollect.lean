/-
  Chapter 3: CollectTaps, the model's and the program's.
-/
import Derived.Test.YtmbgaohnnkmidaaAddTapImpl
import Derived.Test.YtmbgaohnnkmidaaCollectMath
set_option linter.unusedSimpArgs false
namespace Go.Proofs.Ytmbgaohnnkmidaa
open Go.RowKit Go.Deep
set_option linter.unusedVariables false

set_option maxRecDepth 100000 in
set_option maxHeartbeats 2000000 in
theorem specCollectTaps_any (A : Option Addr) (n c : Nat) (xs : List Fares.Tap) (w : World) (hx : Taps w w.heap.size A xs) (hn : xs.length = n) (hl : n ≤ 1000000000) :
    Calls Try.prog 25 #[.slice A n c] w fun e w' => ∃ v, e = .returned v ∧ OwnTaps w' w.heap.size v (Fares.collectTaps xs) ∧ Below w.heap.size w w' := by
  subst hn
  have Hx := Lib.hid hx; clear hx
  by_cases hbig : xs.length > 48
  · have hE : Fares.collectTaps xs = [] := if_pos hbig
    have HE := Lib.hid hE; clear hE
    go_enter Try.func25, Try.ntmps25
    go_wp2
    go_ret
    exact ⟨_, rfl, by rw [HE.out]; exact OwnTaps.none_ _ _, bA (Below.refl _ _) _⟩
  · have hE : Fares.collectTaps xs = xs.foldl Fares.putTap [] := if_neg hbig
    have HE := Lib.hid hE; clear hE
    obtain ⟨F, hF⟩ : ∃ F : List Fares.Tap → List Fares.Tap, F = fun l => l.foldl Fares.putTap [] := ⟨_, rfl⟩
    have HFn := Lib.hid (fun (k : Nat) (x : Fares.Tap) (h : xs[k]? = some x) => (show F (xs.take (k + 1)) = Fares.putTap (F (xs.take k)) x by rw [hF]; exact Fares.fold_next h))
    have HFl := Lib.hid (fun (l : List Fares.Tap) => (show (F l).length ≤ 49 by rw [hF]; exact Fares.fold_length l [] (by simp)))
    have HF0 := Lib.hid (show F (xs.take 0) = [] by rw [hF]; simp)
    have HFE := Lib.hid (show Fares.collectTaps xs = F xs by rw [HE.out, hF])
    clear hF HE
    go_enter Try.func25, Try.ntmps25
    go_wp2
    go_loopw [4, 3] (fun i v wr => ∃ k : Nat, k ≤ xs.length ∧ i = .int .i64 k ∧ OwnTaps wr w.heap.size v (F (xs.take k)) ∧ Below w.heap.size w wr) (fun i _ _ => xs.length - (intOf i).toNat)
    case atStart => exact ⟨0, Nat.zero_le _, rfl, (by rw [HF0.out]; exact World.ownsRow_lit (base := w.heap.size) (e := 30) (size := 6) w #[] 0 (Nat.le_refl _) (by unfold maxLen; omega) rfl), bA (Below.refl _ _) _⟩
    case round =>
      obtain ⟨k, hk, rfl, hown, hb⟩ := hrel
      obtain ⟨Av, cv, rfl, hcv1, hcv2, hr⟩ := hown.form
      have Hown := Lib.hid hown; clear hown
      have Hr := Lib.hid hr; clear hr
      have hfl := HFl.out (xs.take k)
      have hsz := hb.size
      by_cases hlt : k < xs.length
      · obtain ⟨x, hxk⟩ : ∃ x, xs[k]? = some x := ⟨xs[k], List.getElem?_eq_getElem hlt⟩
        have HN := Lib.hid (HFn.out k x hxk)
        obtain ⟨b1, o1, rfl, hb1, hr1⟩ := Taps.row Hx.out (by omega)
        obtain ⟨p0, p1, p2, p3, p4, p5⟩ := (hr1 k x hxk).below hb hb1
        clear hxk hr1
        have i0 : (0 : Int) ≤ (k : Int) := by omega
        have i1 : (k : Int) < (xs.length : Int) := by omega
        obtain ⟨acc, hacc⟩ : ∃ acc, F (xs.take k) = acc := ⟨_, rfl⟩
        rw [hacc] at Hown Hr HN hfl hcv1
        rw [hacc]
        go_wp2_with fail
        refine (specAddTap_any Av acc.length cv acc x _ Hr.out rfl (by omega)).mono ?_
        rintro e w1 ⟨v1, rfl, hown1, hb1'⟩
        have hb2 : Below w.heap.size w w1 := bT hb hb1'
        have Hold := Lib.hid (Hown.out.below hb1')
        have Hnew := Lib.hid (show OwnTaps w1 w.heap.size _ _ from hown1.base' hsz); clear hown1 hb1'
        cases h2 : (Fares.addTap acc x).2
        · have hp : Fares.putTap acc x = acc := by unfold Fares.putTap; rw [h2]; rfl
          have HP := Lib.hid (HN.out.trans hp); clear hp
          clear p0 p1 p2 p3 p4 p5
          go_wp2
          go_roundw
          case rel => exact ⟨k + 1, by omega, by go_num, by rw [HP.out]; exact Hold.out, hb2⟩
          case measure => simp [intOf]; omega
        · have hp : Fares.putTap acc x = (Fares.addTap acc x).1 := by unfold Fares.putTap; rw [h2]; rfl
          have HP := Lib.hid (HN.out.trans hp); clear hp
          clear p0 p1 p2 p3 p4 p5
          go_wp2
          go_roundw
          case rel => exact ⟨k + 1, by omega, by go_num, by rw [HP.out]; exact Hnew.out, hb2⟩
          case measure => simp [intOf]; omega
      · obtain rfl : k = xs.length := by omega
        go_wp2
        go_ret
        exact ⟨_, rfl, by rw [HFE.out]; have h := Hown.out; rw [List.take_length] at h ⊢; exact h, hb⟩

set_option maxRecDepth 100000 in
set_option maxHeartbeats 2000000 in
theorem implCollectTaps_any (A : Option Addr) (n c : Nat) (xs : List Fares.Tap) (w : World) (hx : Taps w w.heap.size A xs) (hn : xs.length = n) (hl : n ≤ 1000000000) :
    Calls Try.prog 26 #[.slice A n c] w fun e w' => ∃ v, e = .returned v ∧ OwnTaps w' w.heap.size v (Fares.collectTaps xs) ∧ Below w.heap.size w w' := by
  subst hn
  have Hx := Lib.hid hx; clear hx
  by_cases hbig : xs.length > 48
  · have hE : Fares.collectTaps xs = [] := if_pos hbig
    have HE := Lib.hid hE; clear hE
    go_enter Try.func26, Try.ntmps26
    go_wp2
    go_ret
    exact ⟨_, rfl, by rw [HE.out]; exact OwnTaps.none_ _ _, Below.refl _ _⟩
  · have hE : Fares.collectTaps xs = xs.foldl Fares.putTap [] := if_neg hbig
    have HE := Lib.hid hE; clear hE
    obtain ⟨F, hF⟩ : ∃ F : List Fares.Tap → List Fares.Tap, F = fun l => l.foldl Fares.putTap [] := ⟨_, rfl⟩
    have HFn := Lib.hid (fun (k : Nat) (x : Fares.Tap) (h : xs[k]? = some x) => (show F (xs.take (k + 1)) = Fares.putTap (F (xs.take k)) x by rw [hF]; exact Fares.fold_next h))
    have HFl := Lib.hid (fun (l : List Fares.Tap) => (show (F l).length ≤ 49 by rw [hF]; exact Fares.fold_length l [] (by simp)))
    have HF0 := Lib.hid (show F (xs.take 0) = [] by rw [hF]; simp)
    have HFE := Lib.hid (show Fares.collectTaps xs = F xs by rw [HE.out, hF])
    clear hF HE
    go_enter Try.func26, Try.ntmps26
    go_wp2
    go_loopw [13, 3] (fun i v wr => ∃ k : Nat, k ≤ xs.length ∧ i = .int .i64 k ∧ OwnTaps wr w.heap.size v (F (xs.take k)) ∧ Below w.heap.size w wr) (fun i _ _ => xs.length - (intOf i).toNat)
    case atStart => exact ⟨0, Nat.zero_le _, rfl, (by rw [HF0.out]; exact OwnTaps.none_ _ _), Below.refl _ _⟩
    case round =>
      obtain ⟨k, hk, rfl, hown, hb⟩ := hrel
      obtain ⟨Av, cv, rfl, hcv1, hcv2, hr⟩ := hown.form
      have hnil := hown.nilOk
      have Hown := Lib.hid hown; clear hown
      have Hr := Lib.hid hr; clear hr
      have Hnil := Lib.hid hnil; clear hnil
      have hfl := HFl.out (xs.take k)
      have hsz := hb.size
      by_cases hlt : k < xs.length
      · obtain ⟨x, hxk⟩ : ∃ x, xs[k]? = some x := ⟨xs[k], List.getElem?_eq_getElem hlt⟩
        have HN := Lib.hid (HFn.out k x hxk)
        obtain ⟨b1, o1, rfl, hb1, hr1⟩ := Taps.row Hx.out (by omega)
        obtain ⟨p0, p1, p2, p3, p4, p5⟩ := (hr1 k x hxk).below hb hb1
        clear hxk hr1
        have i0 : (0 : Int) ≤ (k : Int) := by omega
        have i1 : (k : Int) < (xs.length : Int) := by omega
        obtain ⟨acc, hacc⟩ : ∃ acc, F (xs.take k) = acc := ⟨_, rfl⟩
        rw [hacc] at Hown Hr HN hfl hcv1 Hnil
        rw [hacc]
        go_wp2_with fail
        generalize hW : World.alloc _ _ = w0
        have hk0 : Below wr.heap.size wr w0 := by rw [← hW]; exact bA (Below.refl _ _) _
        clear hW
        refine (implAddTap_any Av acc.length cv acc x _ (readsOver Hr.out hk0) rfl (by omega) Hnil.out hcv1 hcv2).mono ?_
        rintro e w1 ⟨v1, rfl, hown1, hb1'⟩
        have hb2 : Below w.heap.size w w1 := bT hb (bT hk0 hb1')
        have Hold := Lib.hid (Hown.out.below (bT hk0 hb1'))
        have Hnew := Lib.hid (show OwnTaps w1 w.heap.size _ _ from hown1.base' (by have := hk0.size; omega)); clear hown1 hb1'
        cases h2 : (Fares.addTap acc x).2
        · have hp : Fares.putTap acc x = acc := by unfold Fares.putTap; rw [h2]; rfl
          have HP := Lib.hid (HN.out.trans hp); clear hp
          clear p0 p1 p2 p3 p4 p5
          go_wp2
          go_roundw
          case rel => exact ⟨k + 1, by omega, by go_num, by rw [HP.out]; exact Hold.out, hb2⟩
          case measure => simp [intOf]; omega
        · have hp : Fares.putTap acc x = (Fares.addTap acc x).1 := by unfold Fares.putTap; rw [h2]; rfl
          have HP := Lib.hid (HN.out.trans hp); clear hp
          clear p0 p1 p2 p3 p4 p5
          go_wp2
          go_roundw
          case rel => exact ⟨k + 1, by omega, by go_num, by rw [HP.out]; exact (Hnew.out : OwnTaps _ w.heap.size _ _), hb2⟩
          case measure => simp [intOf]; omega
      · obtain rfl : k = xs.length := by omega
        go_wp2
        go_ret
        exact ⟨_, rfl, by rw [HFE.out]; have h := Hown.out; rw [List.take_length] at h ⊢; exact h, hb⟩
end Go.Proofs.Ytmbgaohnnkmidaa
