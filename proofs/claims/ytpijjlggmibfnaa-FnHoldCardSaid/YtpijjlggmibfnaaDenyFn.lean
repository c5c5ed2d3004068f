/-
  Deny lists that are valid: the program's check and its model's.
-/
import Derived.Test.YtpijjlggmibfnaaAscFn
import Derived.Test.YtpijjlggmibfnaaStDeny
set_option linter.unusedSimpArgs false
namespace Go.Proofs.Ytpijjlggmibfnaa
open Go.RowKit Go.Deep
set_option linter.unusedVariables false

set_option maxHeartbeats 1000000 in
theorem validDenied_any (A : Option Addr) (n c : Nat) (am : List Int) (w : World) (hx : Ints w w.heap.size A am) (hn : am.length = n) (hl : n ≤ 1000000000) :
    Calls Try.prog 60 #[.slice A n c] w fun e w' => e = .returned (.bool (decide (am.length ≤ 12) && Fares.ascends am 99)) ∧ w = w' := by
  subst hn
  by_cases h : am.length ≤ 12
  · have hd : decide ((am.length : Int) ≤ 12) = true := by simp; omega
    rw [decide_eq_true h]
    go_enter Try.func60, Try.ntmps60
    go_wp2_with fail
    refine (ascendWithin_any 99 A am.length c am _ hx rfl hl).mono ?_
    rintro e w' ⟨rfl, rfl⟩
    go_wp2
    go_ret
    exact ⟨rfl, rfl⟩
  · have hd : decide ((am.length : Int) ≤ 12) = false := by simp; omega
    rw [decide_eq_false h]
    go_enter Try.func60, Try.ntmps60
    go_wp2
    go_ret
    exact ⟨rfl, rfl⟩
theorem Fares.validDeny_no {d : Fares.Deny} (h : ¬ (0 ≤ d.ver ∧ d.ver ≤ 999)) : Fares.validDeny d = false := by
  unfold Fares.validDeny
  rw [decide_eq_false (fun e => h ⟨e.1, e.2.1⟩), Bool.false_and]
theorem Fares.validDeny_yes {d : Fares.Deny} (h : 0 ≤ d.ver ∧ d.ver ≤ 999) : Fares.validDeny d = (decide (d.cards.length ≤ 12) && Fares.ascends d.cards 99) := by
  unfold Fares.validDeny
  by_cases hc : d.cards.length ≤ 12
  · rw [decide_eq_true ⟨h.1, h.2, hc⟩, decide_eq_true hc]
  · rw [decide_eq_false (fun e => hc e.2.2), decide_eq_false hc]
set_option maxRecDepth 100000 in
set_option maxHeartbeats 1000000 in
theorem implValidDeny_any (v : DenyR) (w : World) (hi : DenyIn w w.heap.size v) (hs : DenySmall v) :
    Calls Try.prog 25 #[denyV v] w fun e w' => e = .returned (.bool (Fares.validDeny v.of)) ∧ Below w.heap.size w w' := by
  have hl : v.cards.length ≤ 1048576 := hs
  unfold denyV
  by_cases h0 : 0 ≤ v.ver
  · have d0 : decide (0 ≤ v.ver) = true := decide_eq_true h0
    by_cases h1 : v.ver ≤ 999
    · have d1 : decide (v.ver ≤ 999) = true := decide_eq_true h1
      rw [Fares.validDeny_yes (d := v.of) ⟨h0, h1⟩]
      have Hi := Lib.hid hi; clear hi
      go_enter Try.func25, Try.ntmps25
      go_wp2_with fail
      refine (validDenied_any v.cardsA v.cards.length v.cardsc v.cards _ (readsUp Hi.out.1 _) rfl (by omega)).mono ?_
      rintro e w' ⟨rfl, rfl⟩
      go_wp2
      go_ret
      exact ⟨rfl, (by repeat (first | exact Below.refl _ _ | refine bA ?_ _ | refine bD ?_ _ | refine bD1 ?_ | refine bS ?_ (by simp) _))⟩
    · have d1 : decide (v.ver ≤ 999) = false := decide_eq_false h1
      rw [Fares.validDeny_no (d := v.of) (fun e => h1 e.2)]
      clear hi
      go_enter Try.func25, Try.ntmps25
      go_wp2
      go_ret
      exact ⟨rfl, (by repeat (first | exact Below.refl _ _ | refine bA ?_ _ | refine bD ?_ _ | refine bD1 ?_ | refine bS ?_ (by simp) _))⟩
  · have d0 : decide (0 ≤ v.ver) = false := decide_eq_false h0
    rw [Fares.validDeny_no (d := v.of) (fun e => h0 e.1)]
    clear hi
    go_enter Try.func25, Try.ntmps25
    go_wp2
    go_ret
    exact ⟨rfl, (by repeat (first | exact Below.refl _ _ | refine bA ?_ _ | refine bD ?_ _ | refine bD1 ?_ | refine bS ?_ (by simp) _))⟩
set_option maxRecDepth 100000 in
set_option maxHeartbeats 1000000 in
theorem specvalidDeny_any (v : DenyR) (w : World) (hi : DenyIn w w.heap.size v) (hs : DenySmall v) :
    Calls Try.prog 61 #[denyV v] w fun e w' => e = .returned (.bool (Fares.validDeny v.of)) ∧ Below w.heap.size w w' := by
  have hl : v.cards.length ≤ 1048576 := hs
  unfold denyV
  by_cases h : 0 ≤ v.ver ∧ v.ver ≤ 999
  · rw [Fares.validDeny_yes (d := v.of) h]
    have Hi := Lib.hid hi; clear hi
    show Calls Try.prog 61 _ w fun e w' => e = .returned (.bool (decide (v.cards.length ≤ 12) && _)) ∧ _
    by_cases hc : v.cards.length ≤ 12
    · have hd : decide ((v.cards.length : Int) ≤ 12) = true := by simp; omega
      rw [decide_eq_true hc]
      go_enter Try.func61, Try.ntmps61
      go_wp2_with (go_at_call 58; refine (inRange_yes _ _ _ _ h.1 h.2).mono ?_; rintro e w' ⟨rfl, rfl⟩)
      refine (specascends_any 99 v.cardsA v.cards.length v.cardsc v.cards _ (readsUp Hi.out.1 _) rfl (by omega)).mono ?_
      rintro e w' ⟨rfl, m, rfl⟩
      go_wp2
      go_ret
      exact ⟨rfl, bD (bA (Below.refl _ _) _) m⟩
    · have hd : decide ((v.cards.length : Int) ≤ 12) = false := by simp; omega
      rw [decide_eq_false hc]
      go_enter Try.func61, Try.ntmps61
      go_wp2_with (go_at_call 58; refine (inRange_yes _ _ _ _ h.1 h.2).mono ?_; rintro e w' ⟨rfl, rfl⟩)
      go_ret
      exact ⟨rfl, (by repeat (first | exact Below.refl _ _ | refine bA ?_ _ | refine bD ?_ _ | refine bD1 ?_ | refine bS ?_ (by simp) _))⟩
  · rw [Fares.validDeny_no (d := v.of) h]
    clear hi
    go_enter Try.func61, Try.ntmps61
    go_wp2_with (go_at_call 58; refine (inRange_no _ _ _ _ (by omega)).mono ?_; rintro e w' ⟨rfl, rfl⟩)
    go_ret
    exact ⟨rfl, (by repeat (first | exact Below.refl _ _ | refine bA ?_ _ | refine bD ?_ _ | refine bD1 ?_ | refine bS ?_ (by simp) _))⟩
set_option maxHeartbeats 1000000 in
theorem specValidDeny_any (v : DenyR) (w : World) (hi : DenyIn w w.heap.size v) (hs : DenySmall v) :
    Calls Try.prog 26 #[denyV v] w fun e w' => e = .returned (.bool (Fares.validDeny v.of)) ∧ Below w.heap.size w w' := by
  have Hi := Lib.hid hi; clear hi
  unfold denyV
  go_enter Try.func26, Try.ntmps26
  go_wp2_with fail
  refine (specvalidDeny_any v _ (Hi.out.up _) hs).mono ?_
  rintro e w' ⟨rfl, hb⟩
  have hc := bT (bA (Below.refl _ _) _) hb
  go_wp2
  go_ret
  exact ⟨rfl, hc⟩
end Go.Proofs.Ytpijjlggmibfnaa
