/-
  Lists of Calls compared.
-/
import Derived.Test.YtnkoapccnlgijaaStCall
import Derived.Test.YtnkoapccnlgijaaReg
set_option linter.unusedSimpArgs false
namespace Go.Proofs.Ytnkoapccnlgijaa
open Go.RowKit
set_option linter.unusedVariables false

set_option maxRecDepth 100000 in
set_option maxHeartbeats 2000000 in
theorem equalCalls_any (A B : Option Addr) (n m c d : Nat) (xs ys : List Fares.Call) (w : World) (hx : CallRows w w.heap.size A xs) (hy : CallRows w w.heap.size B ys) (hxn : xs.length = n) (hym : ys.length = m) (hl : n ≤ 1000000000) (hl' : m ≤ 1000000000) :
    Calls Try.prog 37 #[.slice A n c, .slice B m d] w fun e w' => e = .returned (.bool (decide (xs = ys))) ∧ Below w.heap.size w w' := by
  subst hxn
  subst hym
  by_cases hlen : xs.length = ys.length
  · have hne : ((xs.length : Int) != (ys.length : Int)) = false := by simp [hlen]
    have H := Lib.hid hlen; clear hlen
    go_enter Try.func37, Try.ntmps37
    go_wp2
    go_loopw [5] (fun i wr => ∃ k : Nat, k ≤ xs.length ∧ i = .int .i64 k ∧ Below w.heap.size w wr ∧ xs.take k = ys.take k) (fun i _ => xs.length - (intOf i).toNat)
    case atStart => exact ⟨0, Nat.zero_le _, rfl, Below.refl _ _, by simp⟩
    case round =>
      obtain ⟨k, hk, rfl, hb, he⟩ := hrel
      have He := Lib.hid he; clear he
      by_cases hlt : k < xs.length
      · obtain ⟨x, hxk⟩ : ∃ x, xs[k]? = some x := ⟨xs[k], List.getElem?_eq_getElem hlt⟩
        obtain ⟨y, hyk⟩ : ∃ y, ys[k]? = some y := ⟨ys[k]'(by have := H.out; omega), List.getElem?_eq_getElem (by have := H.out; omega)⟩
        obtain ⟨b1, o1, rfl, hb1, hr1⟩ := hx.row (by omega)
        have hlt2 : k < ys.length := by have := H.out; omega
        obtain ⟨b2, o2, rfl, hb2, hr2⟩ := hy.row (by omega)
        obtain ⟨p0, p1, p2⟩ := (hr1 k x hxk).below hb hb1
        obtain ⟨q0, q1, q2⟩ := (hr2 k y hyk).below hb hb2
        have Hx := Lib.hid hxk; clear hxk
        have Hy := Lib.hid hyk; clear hyk
        clear hr1 hr2 hx hy
        have i0 : (0 : Int) ≤ (k : Int) := by omega
        have i1 : (k : Int) < (xs.length : Int) := by omega
        have i2 : (k : Int) < (ys.length : Int) := by omega
        by_cases h0 : x.t = y.t
        · by_cases h1 : x.a = y.a
          · by_cases h2 : x.s = y.s
            · have e0 : (x.t == y.t) = true := by simpa using h0
              have g0 : (x.t != y.t) = false := by simpa using h0
              have e1 : (x.a == y.a) = true := by simpa using h1
              have g1 : (x.a != y.a) = false := by simpa using h1
              have e2 : (x.s == y.s) = true := by simpa using h2
              have g2 : (x.s != y.s) = false := by simpa using h2
              have Hn := Lib.hid (show x = y by cases x; cases y; simp_all)
              clear h0 h1 h2
              go_wp2
              go_quiet (fail)
              go_wp2
              go_roundw
              case rel => exact ⟨k + 1, by omega, by go_num, (by repeat (first | exact hb | exact Below.refl _ _ | refine bA ?_ _ | refine bD ?_ _ | refine bD1 ?_ | refine bS ?_ (by simp) _)), by rw [take_next Hx.out, take_next Hy.out, He.out, Hn.out]⟩
              case measure => simp [intOf]; omega
            · have e0 : (x.t == y.t) = true := by simpa using h0
              have g0 : (x.t != y.t) = false := by simpa using h0
              have e1 : (x.a == y.a) = true := by simpa using h1
              have g1 : (x.a != y.a) = false := by simpa using h1
              have e2 : (x.s == y.s) = false := by simpa using h2
              have g2 : (x.s != y.s) = true := by simpa using h2
              have Hn := Lib.hid (show x ≠ y by intro e; subst e; exact h2 rfl)
              clear h0 h1 h2
              go_wp2
              go_quiet (fail)
              go_wp2
              go_ret
              exact ⟨ret_bool (by
                have h1 := Hx.out
                have h2 := Hy.out
                have h3 := Hn.out
                simp only [Bool.false_eq, decide_eq_false_iff_not]
                intro e
                rw [e, h2] at h1
                injection h1 with h1
                exact h3 h1.symm), (by repeat (first | exact hb | exact Below.refl _ _ | refine bA ?_ _ | refine bD ?_ _ | refine bD1 ?_ | refine bS ?_ (by simp) _))⟩
          · have e0 : (x.t == y.t) = true := by simpa using h0
            have g0 : (x.t != y.t) = false := by simpa using h0
            have e1 : (x.a == y.a) = false := by simpa using h1
            have g1 : (x.a != y.a) = true := by simpa using h1
            have Hn := Lib.hid (show x ≠ y by intro e; subst e; exact h1 rfl)
            clear h0 h1
            go_wp2
            go_quiet (fail)
            go_wp2
            go_ret
            exact ⟨ret_bool (by
              have h1 := Hx.out
              have h2 := Hy.out
              have h3 := Hn.out
              simp only [Bool.false_eq, decide_eq_false_iff_not]
              intro e
              rw [e, h2] at h1
              injection h1 with h1
              exact h3 h1.symm), (by repeat (first | exact hb | exact Below.refl _ _ | refine bA ?_ _ | refine bD ?_ _ | refine bD1 ?_ | refine bS ?_ (by simp) _))⟩
        · have e0 : (x.t == y.t) = false := by simpa using h0
          have g0 : (x.t != y.t) = true := by simpa using h0
          have Hn := Lib.hid (show x ≠ y by intro e; subst e; exact h0 rfl)
          clear h0
          go_wp2
          go_quiet (fail)
          go_wp2
          go_ret
          exact ⟨ret_bool (by
            have h1 := Hx.out
            have h2 := Hy.out
            have h3 := Hn.out
            simp only [Bool.false_eq, decide_eq_false_iff_not]
            intro e
            rw [e, h2] at h1
            injection h1 with h1
            exact h3 h1.symm), (by repeat (first | exact hb | exact Below.refl _ _ | refine bA ?_ _ | refine bD ?_ _ | refine bD1 ?_ | refine bS ?_ (by simp) _))⟩
      · go_wp2
        go_ret
        exact ⟨ret_bool (by
          have h1 : xs.take k = xs := List.take_of_length_le (by omega)
          have h2 : ys.take k = ys := List.take_of_length_le (by have := H.out; omega)
          have := He.out
          rw [h1, h2] at this
          simp [this]), hb⟩
  · have hne : ((xs.length : Int) != (ys.length : Int)) = true := by rw [bne_iff_ne]; omega
    go_enter Try.func37, Try.ntmps37
    go_wp2
    go_ret
    exact ⟨ret_bool (by simp; intro e; exact hlen (by rw [e])), (by repeat (first | exact Below.refl _ _ | refine bA ?_ _ | refine bD ?_ _ | refine bD1 ?_ | refine bS ?_ (by simp) _))⟩
end Go.Proofs.Ytnkoapccnlgijaa
