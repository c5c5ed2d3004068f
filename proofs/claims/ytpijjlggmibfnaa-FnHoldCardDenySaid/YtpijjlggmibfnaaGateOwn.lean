/-
  Validators that are valid: the program's check and its model's.
-/
import Derived.Test.YtpijjlggmibfnaaGateMath
import Derived.Test.YtpijjlggmibfnaaDenyFn
import Derived.Test.YtpijjlggmibfnaaStGate
import Derived.Test.YtpijjlggmibfnaaTapFn
import Derived.Test.YtpijjlggmibfnaaReg
set_option linter.unusedSimpArgs false
namespace Go.Proofs.Ytpijjlggmibfnaa
open Go.RowKit Go.Deep
set_option linter.unusedVariables false
theorem TapAt.over {w w' : World} {b o : Nat} {t : Fares.Tap} (h : TapAt w b o t ∧ b < w.heap.size) (hb : Below w.heap.size w w') : TapAt w' b o t ∧ b < w'.heap.size := ⟨h.1.below hb h.2, Nat.lt_of_lt_of_le h.2 hb.size⟩
theorem TapAt.up {w : World} {b o : Nat} {t : Fares.Tap} (h : TapAt w b o t ∧ b < w.heap.size) (x : Obj) : TapAt (w.alloc x) b o t ∧ b < (w.alloc x).heap.size := TapAt.over h (bA (Below.refl _ _) x)
theorem TapAt.drew {w : World} {b o : Nat} {t : Fares.Tap} (h : TapAt w b o t ∧ b < w.heap.size) : TapAt w.drew b o t ∧ b < w.drew.heap.size := h

set_option maxRecDepth 100000 in
set_option maxHeartbeats 2000000 in
theorem hasOwn_any (v : GateR) (A : Option Addr) (n c : Nat) (xs : List Fares.Tap) (w : World) (hx : Taps w w.heap.size A xs) (hn : xs.length = n) (hl : n ≤ 1000000000) :
    Calls Try.prog 66 #[gateV v, .slice A n c] w fun e w' => e = .returned (.bool (Fares.keptOk v.val v.nxt xs)) ∧ Below w.heap.size w w' := by
  subst hn
  unfold gateV
  go_enter Try.func66, Try.ntmps66
  go_wp2
  go_loopw [10, 5] (fun i q wr => ∃ (k : Nat) (l : Int), k ≤ xs.length ∧ i = .int .i64 k ∧ q = .int .i64 l ∧ Below w.heap.size w wr ∧ Blk wr w.heap.size 40 v.cells ∧ Hid (Fares.LastN xs k l) ∧ Hid (Fares.KeptOk v.val v.nxt (xs.take k))) (fun i _ _ => xs.length - (intOf i).toNat)
  case atStart => exact ⟨0, -1, Nat.zero_le _, rfl, rfl, bA (Below.refl _ _) _, Blk.new w _ _, Lib.hid (.inl ⟨rfl, rfl⟩), Lib.hid (Fares.KeptOk.nil _ _)⟩
  case round =>
    obtain ⟨k, l, hk, rfl, rfl, hb, hg, Hl, Ho⟩ := hrel
    have Hb := Lib.hid hb
    by_cases hlt : k < xs.length
    · obtain ⟨x, hxk⟩ : ∃ x, xs[k]? = some x := ⟨xs[k], List.getElem?_eq_getElem hlt⟩
      obtain ⟨b1, o1, rfl, hb1, hr1⟩ := hx.row (by omega)
      obtain ⟨p0, p1, p2, p3, p4, p5⟩ := (hr1 k x hxk).below hb hb1
      have Hx := Lib.hid hxk; clear hxk hr1 hb
      have i0 : (0 : Int) ≤ (k : Int) := by omega
      have i1 : (k : Int) < (xs.length : Int) := by omega
      go_wp2_with fail
      generalize hW : World.alloc _ _ = w0
      have htb : TapBox w0 wr.heap.size x := by rw [← hW]; exact TapBox.new wr x _
      have hg0 : Blk w0 w.heap.size 40 v.cells := by rw [← hW]; exact hg.alloc _
      have hb0 : Below w.heap.size w w0 := by rw [← hW]; exact bA Hb.out _
      clear hW p0 p1 p2 p3 p4 p5
      refine (implValidTap_any x _).mono ?_
      rintro e w1 ⟨rfl, hb1'⟩
      have hbf := bT hb0 hb1'
      obtain ⟨_, t0, t1, t2, t3, t4, t5⟩ := htb.below hb1' htb.1
      have hg1 := hg0.belowAll hb1'
      obtain ⟨g0, g1, g2, g3, g4⟩ := gateCells hg1
      clear hg0 hb0 hb1' htb
      have Hbf := Lib.hid hbf; clear hbf
      by_cases hv : Fares.validTap x = true
      · rw [hv]
        by_cases h0 : x.v = v.val
        · have d0 : (x.v != v.val) = false := by simpa using h0
          by_cases h1 : x.n ≤ l
          · have d1 : decide (x.n ≤ l) = true := by simpa using h1
            have Hf := Lib.hid (Fares.keptOk_false (Fares.KeptOk.not_last (v := v.val) (nx := v.nxt) Hl.out Hx.out h1))
            clear hg1
            go_wp2
            go_ret
            exact ⟨ret_bool Hf.out.symm, Hbf.out⟩
          · have d1 : decide (x.n ≤ l) = false := by simpa using h1
            by_cases h2 : v.nxt ≤ x.n
            · have d2 : decide (v.nxt ≤ x.n) = true := by simpa using h2
              have Hf := Lib.hid (Fares.keptOk_false (Fares.KeptOk.not_tap (v := v.val) (nx := v.nxt) Hx.out (fun e => by have := e.2.2; omega)))
              clear hg1
              go_wp2
              go_ret
              exact ⟨ret_bool Hf.out.symm, Hbf.out⟩
            · have d2 : decide (v.nxt ≤ x.n) = false := by simpa using h2
              have Hn := Lib.hid (Ho.out.succ Hl.out Hx.out hv h0 (by omega) (by omega))
              have Hm := Lib.hid (Fares.LastN.next Hx.out)
              have Hg := Lib.hid hg1; clear hg1
              clear h0 h1 h2 hv
              go_wp2
              go_roundw
              case rel => exact ⟨k + 1, x.n, by omega, by go_num, rfl, Hbf.out, Hg.out, Hm, Hn⟩
              case measure => simp [intOf]; omega
        · have d0 : (x.v != v.val) = true := by simpa using h0
          have Hf := Lib.hid (Fares.keptOk_false (Fares.KeptOk.not_tap (v := v.val) (nx := v.nxt) Hx.out (fun e => h0 e.2.1)))
          clear hg1
          go_wp2
          go_ret
          exact ⟨ret_bool Hf.out.symm, Hbf.out⟩
      · have hv' : Fares.validTap x = false := by simpa using hv
        rw [hv']
        have Hf := Lib.hid (Fares.keptOk_false (Fares.KeptOk.not_tap (v := v.val) (nx := v.nxt) Hx.out (fun e => hv e.1)))
        clear hg1
        go_wp2
        go_ret
        exact ⟨ret_bool Hf.out.symm, Hbf.out⟩
    · clear hg hb
      go_wp2
      go_ret
      exact ⟨ret_bool (Fares.keptOk_true (Ho.out.all (by omega))).symm, Hb.out⟩
theorem Fares.validGate_no {g : Fares.Gate} (h : ¬ (0 ≤ g.val ∧ g.val ≤ 9 ∧ 0 ≤ g.nxt ∧ g.nxt ≤ 1000)) : Fares.validGate g = false := by
  unfold Fares.validGate
  rw [decide_eq_false h, Bool.false_and, Bool.false_and, Bool.false_and]
theorem Fares.validGate_yes {g : Fares.Gate} (h : 0 ≤ g.val ∧ g.val ≤ 9 ∧ 0 ≤ g.nxt ∧ g.nxt ≤ 1000) : Fares.validGate g = (Fares.validDeny g.deny && decide (g.kept.length ≤ 10) && Fares.keptOk g.val g.nxt g.kept) := by
  unfold Fares.validGate
  rw [decide_eq_true h, Bool.true_and]
set_option maxRecDepth 100000 in
set_option maxHeartbeats 1000000 in
theorem implValidGate_any (v : GateR) (w : World) (hi : GateIn w w.heap.size v) (hs : GateSmall v) :
    Calls Try.prog 31 #[gateV v] w fun e w' => e = .returned (.bool (Fares.validGate v.of)) ∧ Below w.heap.size w w' := by
  have hl : v.kept.length ≤ 1048576 := hs.2
  have Hi := Lib.hid hi; clear hi
  unfold gateV
  by_cases hr : 0 ≤ v.val ∧ v.val ≤ 9 ∧ 0 ≤ v.nxt ∧ v.nxt ≤ 1000
  · obtain ⟨h0, h1, h2, h3⟩ := id hr
    have d0 : decide (0 ≤ v.val) = true := decide_eq_true h0
    have d1 : decide (v.val ≤ 9) = true := decide_eq_true h1
    have d2 : decide (0 ≤ v.nxt) = true := decide_eq_true h2
    have d3 : decide (v.nxt ≤ 1000) = true := decide_eq_true h3
    rw [Fares.validGate_yes (g := v.of) hr]
    show Calls Try.prog 31 _ w fun e w' => e = .returned (.bool (Fares.validDeny v.deny.of && decide (v.kept.length ≤ 10) && Fares.keptOk v.val v.nxt v.kept)) ∧ _
    go_enter Try.func31, Try.ntmps31
    go_wp2_with fail
    generalize hW : World.alloc _ _ = w0
    have hP0 : Blk w0 w.heap.size 40 v.cells := by rw [← hW]; exact Blk.new w _ _
    have hc0 : Below w.heap.size w w0 := by rw [← hW]; exact bA (Below.refl _ _) _
    clear hW
    refine (implValidDeny_any v.deny _ (Hi.out.over hc0).1 hs.1).mono ?_
    rintro e w1 ⟨rfl, hb1⟩
    have hc1 := bT hc0 hb1
    have hP1 := hP0.belowAll hb1
    have Hc1 := Lib.hid hc1; clear hc1 hc0 hP0 hb1
    obtain ⟨p0, p1, p2, p3, p4⟩ := gateCells hP1
    cases hv : Fares.validDeny v.deny.of with
    | false =>
      clear hP1
      go_wp2
      go_ret
      exact ⟨ret_bool (by rw [hv]; rfl), Hc1.out⟩
    | true =>
      by_cases hk : v.kept.length ≤ 10
      · have dk : decide ((v.kept.length : Int) ≤ 10) = true := by simp; omega
        clear hP1
        go_wp2_with fail
        refine (hasOwn_any v v.keptA v.kept.length v.keptc v.kept _ (Hi.out.over Hc1.out).2.1 rfl (by omega)).mono ?_
        rintro e w2 ⟨rfl, hb2⟩
        have Hc2 := Lib.hid (bT Hc1.out hb2); clear hb2
        go_wp2
        go_ret
        exact ⟨ret_bool (by rw [hv, decide_eq_true hk, Bool.true_and, Bool.true_and]), Hc2.out⟩
      · have dk : decide ((v.kept.length : Int) ≤ 10) = false := by simp; omega
        clear hP1
        go_wp2
        go_ret
        exact ⟨ret_bool (by rw [hv, decide_eq_false hk]; rfl), Hc1.out⟩
  · rw [Fares.validGate_no (g := v.of) hr]
    by_cases h0 : 0 ≤ v.val
    · have d0 : decide (0 ≤ v.val) = true := decide_eq_true h0
      by_cases h1 : v.val ≤ 9
      · have d1 : decide (v.val ≤ 9) = true := decide_eq_true h1
        by_cases h2 : 0 ≤ v.nxt
        · have d2 : decide (0 ≤ v.nxt) = true := decide_eq_true h2
          have d3 : decide (v.nxt ≤ 1000) = false := decide_eq_false (fun h3 => hr ⟨h0, h1, h2, h3⟩)
          go_enter Try.func31, Try.ntmps31
          go_wp2
          go_ret
          exact ⟨rfl, (by repeat (first | exact Below.refl _ _ | refine bA ?_ _ | refine bD ?_ _ | refine bD1 ?_ | refine bS ?_ (by simp) _))⟩
        · have d2 : decide (0 ≤ v.nxt) = false := decide_eq_false h2
          go_enter Try.func31, Try.ntmps31
          go_wp2
          go_ret
          exact ⟨rfl, (by repeat (first | exact Below.refl _ _ | refine bA ?_ _ | refine bD ?_ _ | refine bD1 ?_ | refine bS ?_ (by simp) _))⟩
      · have d1 : decide (v.val ≤ 9) = false := decide_eq_false h1
        go_enter Try.func31, Try.ntmps31
        go_wp2
        go_ret
        exact ⟨rfl, (by repeat (first | exact Below.refl _ _ | refine bA ?_ _ | refine bD ?_ _ | refine bD1 ?_ | refine bS ?_ (by simp) _))⟩
    · have d0 : decide (0 ≤ v.val) = false := decide_eq_false h0
      go_enter Try.func31, Try.ntmps31
      go_wp2
      go_ret
      exact ⟨rfl, (by repeat (first | exact Below.refl _ _ | refine bA ?_ _ | refine bD ?_ _ | refine bD1 ?_ | refine bS ?_ (by simp) _))⟩
end Go.Proofs.Ytpijjlggmibfnaa
