/-
  Chapter 17: trust as a fold over days, who may ride, how many rides are left: the model's functions and the program's.
-/
import Derived.Test.YtomjnepchffkgaaStBool
import Derived.Test.YtomjnepchffkgaaWithin
set_option linter.unusedSimpArgs false
namespace Go.Proofs.Ytomjnepchffkgaa
open Go.RowKit Go.Deep
set_option linter.unusedVariables false

def Fares.trustStep (t : Int) (paid : Bool) (s : Int) : Int := if paid then (if 5000 < t + s then 5000 else t + s) else 0
def Fares.trustRun (xs : List Bool) (f s : Int) : Int := xs.foldl (fun t p => Fares.trustStep t p s) f
def Fares.trustOk (xs : List Bool) (f s : Int) : Prop := xs.length ≤ 30 ∧ 0 ≤ f ∧ f ≤ 5000 ∧ 0 ≤ s ∧ s ≤ 5000
instance (xs : List Bool) (f s : Int) : Decidable (Fares.trustOk xs f s) := by unfold Fares.trustOk; exact inferInstance
def Fares.trustOf (xs : List Bool) (f s : Int) : Int := if Fares.trustOk xs f s then Fares.trustRun xs f s else -1
theorem Fares.trustStep_in {t s : Int} {p : Bool} (h0 : 0 ≤ t) (h1 : t ≤ 5000) (h2 : 0 ≤ s) : 0 ≤ Fares.trustStep t p s ∧ Fares.trustStep t p s ≤ 5000 := by
  unfold Fares.trustStep
  split
  · split <;> omega
  · omega
theorem Fares.trustRun_in {s : Int} (h2 : 0 ≤ s) : ∀ (xs : List Bool) (f : Int), 0 ≤ f → f ≤ 5000 → 0 ≤ Fares.trustRun xs f s ∧ Fares.trustRun xs f s ≤ 5000
  | [], f, h0, h1 => ⟨h0, h1⟩
  | p :: xs, f, h0, h1 => by
    obtain ⟨a, b⟩ := Fares.trustStep_in (p := p) h0 h1 h2
    exact Fares.trustRun_in h2 xs _ a b
theorem Fares.trustRun_snoc (xs : List Bool) (p : Bool) (f s : Int) : Fares.trustRun (xs ++ [p]) f s = Fares.trustStep (Fares.trustRun xs f s) p s := by
  unfold Fares.trustRun
  rw [List.foldl_append]
  rfl
theorem Fares.trustRun_take {xs : List Bool} {k : Nat} {p : Bool} (h : xs[k]? = some p) (f s : Int) : Fares.trustRun (xs.take (k + 1)) f s = Fares.trustStep (Fares.trustRun (xs.take k) f s) p s := by
  rw [take_next h, Fares.trustRun_snoc]
theorem Fares.trustRun_mono {s : Int} : ∀ (xs : List Bool) (f g : Int), f ≤ g → Fares.trustRun xs f s ≤ Fares.trustRun xs g s
  | [], f, g, h => h
  | p :: xs, f, g, h => by
    refine Fares.trustRun_mono xs _ _ ?_
    show Fares.trustStep f p s ≤ Fares.trustStep g p s
    unfold Fares.trustStep
    cases p
    · simp
    · simp only [if_true]
      split <;> split <;> omega
theorem Fares.trustOf_in {xs : List Bool} {f s : Int} (h : Fares.trustOk xs f s) : 0 ≤ Fares.trustOf xs f s ∧ Fares.trustOf xs f s ≤ 5000 := by
  unfold Fares.trustOf
  rw [if_pos h]
  exact Fares.trustRun_in h.2.2.2.1 xs f h.2.1 h.2.2.1

def Fares.oweOk (o t : Int) : Prop := 0 ≤ o ∧ o ≤ 100000 ∧ 0 ≤ t ∧ t ≤ 100000
instance (o t : Int) : Decidable (Fares.oweOk o t) := by unfold Fares.oweOk; exact inferInstance
def Fares.mayRide (o t p : Int) : Bool := decide (Fares.oweOk o t ∧ 0 ≤ p ∧ p ≤ 4000 ∧ o + p ≤ t)
def Fares.ridesLeft (o t p : Int) : Int := if Fares.oweOk o t ∧ 1 ≤ p ∧ p ≤ 4000 then (if 0 < t - o then t - o else 0) / p else -1

set_option maxHeartbeats 400000 in
theorem trustAfter_any (t s : Int) (p : Bool) (w : World) (h0 : 0 ≤ t) (h1 : t ≤ 5000) (h2 : 0 ≤ s) (h3 : s ≤ 5000) :
    Calls Try.prog 26 #[.int .i64 t, .bool p, .int .i64 s] w fun e w' => e = .returned (.int .i64 (Fares.trustStep t p s)) ∧ w = w' := by
  unfold Fares.trustStep
  cases p
  · go_enter Try.func26, Try.ntmps26
    go_wp2
    go_ret
    exact ⟨rfl, rfl⟩
  · obtain ⟨m, hm⟩ : ∃ m, (if (5000 : Int) < t + s then 5000 else t + s) = m := ⟨_, rfl⟩
    rw [if_pos rfl, hm]
    go_enter Try.func26, Try.ntmps26
    go_wp2
    go_ret
    exact ⟨rfl, rfl⟩
theorem validTrust_yes (t : Int) (w : World) (h0 : 0 ≤ t) (h1 : t ≤ 5000) : Calls Try.prog 25 #[.int .i64 t] w fun e w' => e = .returned (.bool true) ∧ w = w' := by
  go_enter Try.func25, Try.ntmps25
  go_wp2
  go_ret
  exact ⟨rfl, rfl⟩
theorem validTrust_no (t : Int) (w : World) (h : t < 0 ∨ 5000 < t) : Calls Try.prog 25 #[.int .i64 t] w fun e w' => e = .returned (.bool false) ∧ w = w' := by
  go_enter Try.func25, Try.ntmps25
  go_wp2
  all_goals first | (go_ret; exact ⟨ret_bool (by first | rfl | (simp; omega)), rfl⟩) | (exfalso; omega)
set_option maxHeartbeats 1000000 in
theorem implTrustOf_any (A : Option Addr) (n c : Nat) (xs : List Bool) (f s : Int) (w : World) (hx : Bools w w.heap.size A xs) (hn : xs.length = n) (hl : n ≤ 1000000000) :
    Calls Try.prog 12 #[.slice A n c, .int .i64 f, .int .i64 s] w fun e w' => e = .returned (.int .i64 (Fares.trustOf xs f s)) ∧ Below w.heap.size w w' := by
  subst hn
  unfold Fares.trustOf
  by_cases h0 : 30 < xs.length
  · rw [if_neg (by unfold Fares.trustOk; omega)]
    go_enter Try.func12, Try.ntmps12
    go_wp2
    go_ret
    exact ⟨rfl, Below.refl _ _⟩
  · by_cases h1 : 0 ≤ f ∧ f ≤ 5000
    · by_cases h2 : 0 ≤ s ∧ s ≤ 5000
      · rw [if_pos (by unfold Fares.trustOk; omega)]
        go_enter Try.func12, Try.ntmps12
        go_wp2_with (go_at_call 25; refine (validTrust_yes _ _ (by omega) (by omega)).mono ?_; rintro e w' ⟨rfl, rfl⟩)
        go_loopw [7, 26] (fun t i wr => ∃ k : Nat, k ≤ xs.length ∧ i = .int .i64 k ∧ t = .int .i64 (Fares.trustRun (xs.take k) f s) ∧ Below w.heap.size w wr) (fun _ i _ => xs.length - (intOf i).toNat)
        case atStart => exact ⟨0, Nat.zero_le _, rfl, by simp [Fares.trustRun], Below.refl _ _⟩
        case round =>
          obtain ⟨k, hk, rfl, rfl, hb⟩ := hrel
          by_cases hlt : k < xs.length
          · obtain ⟨x, hxk⟩ : ∃ x, xs[k]? = some x := ⟨xs[k], List.getElem?_eq_getElem hlt⟩
            obtain ⟨b1, o1, rfl, hb1, hr1⟩ := hx.row (by omega)
            have p0 := (hb.cell (p := ⟨b1, o1 + k, none⟩) hb1).trans (hr1 k x hxk)
            have Hx := Lib.hid hxk; clear hxk
            clear hr1 hx
            have i0 : (0 : Int) ≤ (k : Int) := by omega
            have i1 : (k : Int) < (xs.length : Int) := by omega
            obtain ⟨r0, r1⟩ := Fares.trustRun_in h2.1 (xs.take k) f h1.1 h1.2
            go_wp2_with (go_at_call 26; refine (trustAfter_any _ _ _ _ r0 r1 h2.1 h2.2).mono ?_; rintro e w' ⟨rfl, rfl⟩)
            go_roundw
            case rel => exact ⟨k + 1, by omega, by go_num, by rw [Fares.trustRun_take Hx.out], by first | exact hb | exact bD1 hb | exact bD hb _⟩
            case measure => simp [intOf]; omega
          · go_wp2
            go_ret
            exact ⟨by rw [List.take_of_length_le (by omega)]; rfl, hb⟩
      · rw [if_neg (by unfold Fares.trustOk; omega)]
        go_enter Try.func12, Try.ntmps12
        go_wp2_with (go_at_call 25; first | (refine (validTrust_yes _ _ (by omega) (by omega)).mono ?_; rintro e w' ⟨rfl, rfl⟩) | (refine (validTrust_no _ _ (by omega)).mono ?_; rintro e w' ⟨rfl, rfl⟩))
        go_ret
        exact ⟨rfl, Below.refl _ _⟩
    · rw [if_neg (by unfold Fares.trustOk; omega)]
      go_enter Try.func12, Try.ntmps12
      go_wp2_with (go_at_call 25; refine (validTrust_no _ _ (by omega)).mono ?_; rintro e w' ⟨rfl, rfl⟩)
      go_ret
      exact ⟨rfl, Below.refl _ _⟩
set_option maxHeartbeats 1000000 in
theorem spectrustRun_any (A : Option Addr) (n c : Nat) (xs : List Bool) (f s : Int) (w : World) (hx : Bools w w.heap.size A xs) (hn : xs.length = n) (hl : n ≤ 30) (h1 : 0 ≤ f ∧ f ≤ 5000) (h2 : 0 ≤ s ∧ s ≤ 5000) :
    Calls Try.prog 28 #[.slice A n c, .int .i64 f, .int .i64 s] w fun e w' => e = .returned (.int .i64 (Fares.trustRun xs f s)) ∧ Below w.heap.size w w' := by
  subst hn
  go_enter Try.func28, Try.ntmps28
  go_wp2
  go_loopw [7, 8] (fun t i wr => ∃ k : Nat, k ≤ xs.length ∧ i = .int .i64 k ∧ t = .int .i64 (Fares.trustRun (xs.take k) f s) ∧ Below w.heap.size w wr) (fun _ i _ => xs.length - (intOf i).toNat)
  case atStart => exact ⟨0, Nat.zero_le _, rfl, by simp [Fares.trustRun], Below.refl _ _⟩
  case round =>
    obtain ⟨k, hk, rfl, rfl, hb⟩ := hrel
    by_cases hlt : k < xs.length
    · obtain ⟨x, hxk⟩ : ∃ x, xs[k]? = some x := ⟨xs[k], List.getElem?_eq_getElem hlt⟩
      obtain ⟨b1, o1, rfl, hb1, hr1⟩ := hx.row (by omega)
      have p0 := (hb.cell (p := ⟨b1, o1 + k, none⟩) hb1).trans (hr1 k x hxk)
      have Hx := Lib.hid (Fares.trustRun_take hxk f s); clear hxk
      clear hr1 hx
      have i0 : (0 : Int) ≤ (k : Int) := by omega
      have i1 : (k : Int) < (xs.length : Int) := by omega
      obtain ⟨r0, r1⟩ := Fares.trustRun_in h2.1 (xs.take k) f h1.1 h1.2
      generalize Fares.trustRun (xs.take k) f s = t at *
      cases x
      · go_wp2
        go_roundw
        case rel => exact ⟨k + 1, by omega, by go_num, by rw [Hx.out]; rfl, by first | exact hb | exact bD1 hb | exact bD hb _⟩
        case measure => simp [intOf]; omega
      · obtain ⟨m, hm⟩ : ∃ m, (if (5000 : Int) < t + s then 5000 else t + s) = m := ⟨_, rfl⟩
        have Hm := Lib.hid (show Fares.trustStep t true s = m from hm)
        go_wp2
        go_roundw
        case rel => exact ⟨k + 1, by omega, by go_num, by rw [Hx.out, Hm.out], by first | exact hb | exact bD1 hb | exact bD hb _⟩
        case measure => simp [intOf]; omega
    · go_wp2
      go_ret
      exact ⟨by rw [List.take_of_length_le (by omega)]; rfl, hb⟩
set_option maxHeartbeats 1000000 in
theorem specTrustOf_any (A : Option Addr) (n c : Nat) (xs : List Bool) (f s : Int) (w : World) (hx : Bools w w.heap.size A xs) (hn : xs.length = n) (hl : n ≤ 1000000000) :
    Calls Try.prog 13 #[.slice A n c, .int .i64 f, .int .i64 s] w fun e w' => e = .returned (.int .i64 (Fares.trustOf xs f s)) ∧ Below w.heap.size w w' := by
  subst hn
  unfold Fares.trustOf
  by_cases h0 : 30 < xs.length
  · rw [if_neg (by unfold Fares.trustOk; omega)]
    go_enter Try.func13, Try.ntmps13
    go_wp2
    go_ret
    exact ⟨rfl, Below.refl _ _⟩
  · by_cases h1 : 0 ≤ f ∧ f ≤ 5000
    · by_cases h2 : 0 ≤ s ∧ s ≤ 5000
      · rw [if_pos (by unfold Fares.trustOk; omega)]
        go_enter Try.func13, Try.ntmps13
        go_wp2_with (go_at_call 27; refine (inRange_yes _ _ _ _ (by omega) (by omega)).mono ?_; rintro e w' ⟨rfl, rfl⟩)
        refine (spectrustRun_any A _ c xs f s _ hx rfl (by omega) h1 h2).mono ?_
        rintro e w1 ⟨rfl, hb1⟩
        go_wp2
        go_ret
        exact ⟨rfl, hb1⟩
      · rw [if_neg (by unfold Fares.trustOk; omega)]
        go_enter Try.func13, Try.ntmps13
        go_wp2_with (go_at_call 27; first | (refine (inRange_yes _ _ _ _ (by omega) (by omega)).mono ?_; rintro e w' ⟨rfl, rfl⟩) | (refine (inRange_no _ _ _ _ (by omega)).mono ?_; rintro e w' ⟨rfl, rfl⟩))
        go_ret
        exact ⟨rfl, Below.refl _ _⟩
    · rw [if_neg (by unfold Fares.trustOk; omega)]
      go_enter Try.func13, Try.ntmps13
      go_wp2_with (go_at_call 27; refine (inRange_no _ _ _ _ (by omega)).mono ?_; rintro e w' ⟨rfl, rfl⟩)
      go_ret
      exact ⟨rfl, Below.refl _ _⟩
theorem ints_two (w : World) (x y : Int) : Ints (w.alloc (.cells #[.int .i64 x, .int .i64 y] 3)) (w.heap.size + 1) (some ⟨w.heap.size, 0, none⟩) [x, y] := fun _ => by
  refine ⟨_, rfl, by simp, fun i u hu => ?_⟩
  rw [Addr.add_mid, Nat.zero_add, (Blk.new w _ _).cell]
  match i, hu with
  | 0, hu => simpa [intCells] using hu
  | 1, hu => simpa [intCells] using hu
  | i + 2, hu => simp [intCells] at hu
set_option maxHeartbeats 400000 in
theorem canOwe_any (o t : Int) (w : World) :
    Calls Try.prog 30 #[.int .i64 o, .int .i64 t] w fun e w' => e = .returned (.bool (decide (Fares.oweOk o t))) ∧ Below w.heap.size w w' := by
  go_enter Try.func30, Try.ntmps30
  go_wp2_with fail
  refine (implallWithin_gen 100000 _ 2 2 [o, t] _ ((ints_two w o t).more (by simp)) rfl (by omega)).mono ?_
  rintro e w' ⟨rfl, rfl⟩
  go_wp2
  go_ret
  exact ⟨ret_bool (by
    by_cases h : Fares.oweOk o t
    · rw [decide_eq_true h]
      unfold Fares.oweOk at h
      simp [Fares.within]
      omega
    · rw [decide_eq_false h]
      unfold Fares.oweOk at h
      simp [Fares.within]
      omega), bA (Below.refl _ _) _⟩
set_option maxHeartbeats 1000000 in
theorem implMayRide_any (o t p : Int) (w : World) :
    Calls Try.prog 15 #[.int .i64 o, .int .i64 t, .int .i64 p] w fun e w' => e = .returned (.bool (Fares.mayRide o t p)) ∧ Below w.heap.size w w' := by
  by_cases h : Fares.oweOk o t
  · by_cases hp : 0 ≤ p ∧ p ≤ 4000
    · by_cases ht : o + p ≤ t
      · have E : Fares.mayRide o t p = true := decide_eq_true ⟨h, hp.1, hp.2, ht⟩
        rw [E]
        clear E
        obtain ⟨h0, h1, h2, h3⟩ := id h
        go_enter Try.func15, Try.ntmps15
        go_wp2_with fail
        refine (canOwe_any o t _).mono ?_
        rw [decide_eq_true h]
        rintro e w1 ⟨rfl, hb1⟩
        go_wp2
        all_goals first | (go_ret; exact ⟨ret_bool (by first | rfl | (simp; done) | (simp; omega)), hb1⟩) | (exfalso; omega)
      · have E : Fares.mayRide o t p = false := decide_eq_false (fun x => ht x.2.2.2)
        rw [E]
        clear E
        obtain ⟨h0, h1, h2, h3⟩ := id h
        go_enter Try.func15, Try.ntmps15
        go_wp2_with fail
        refine (canOwe_any o t _).mono ?_
        rw [decide_eq_true h]
        rintro e w1 ⟨rfl, hb1⟩
        go_wp2
        all_goals first | (go_ret; exact ⟨ret_bool (by first | rfl | (simp; done) | (simp; omega)), hb1⟩) | (exfalso; omega)
    · have E : Fares.mayRide o t p = false := decide_eq_false (fun x => hp ⟨x.2.1, x.2.2.1⟩)
      rw [E]
      clear E
      go_enter Try.func15, Try.ntmps15
      go_wp2_with fail
      refine (canOwe_any o t _).mono ?_
      rw [decide_eq_true h]
      rintro e w1 ⟨rfl, hb1⟩
      go_wp2
      all_goals first | (go_ret; exact ⟨ret_bool (by first | rfl | (simp; done) | (simp; omega)), hb1⟩) | (exfalso; omega)
  · go_enter Try.func15, Try.ntmps15
    go_wp2_with fail
    refine (canOwe_any o t _).mono ?_
    rw [decide_eq_false h]
    rintro e w1 ⟨rfl, hb1⟩
    go_wp2
    go_ret
    exact ⟨ret_bool (by unfold Fares.mayRide; simp [h]), hb1⟩
theorem rides_in {o t p m : Int} (h : Fares.oweOk o t) (hm : (if 0 < t - o then t - o else 0) = m) : 0 ≤ m ∧ m ≤ 100000 := by
  unfold Fares.oweOk at h
  split at hm <;> omega
set_option maxHeartbeats 1000000 in
theorem implRidesLeft_any (o t p : Int) (w : World) :
    Calls Try.prog 18 #[.int .i64 o, .int .i64 t, .int .i64 p] w fun e w' => e = .returned (.int .i64 (Fares.ridesLeft o t p)) ∧ Below w.heap.size w w' := by
  unfold Fares.ridesLeft
  by_cases h : Fares.oweOk o t
  · obtain ⟨h0, h1, h2, h3⟩ := id h
    obtain ⟨m, hm⟩ : ∃ m, (if (0 : Int) < t - o then t - o else 0) = m := ⟨_, rfl⟩
    obtain ⟨m0, m1⟩ := rides_in (p := p) h hm
    rw [hm]
    by_cases hp : 1 ≤ p ∧ p ≤ 4000
    · rw [if_pos ⟨h, hp⟩]
      have d0 : 0 ≤ m / p := Int.ediv_nonneg m0 (by omega)
      have d1 : m / p ≤ m := Int.ediv_le_self _ m0
      have p0 : ¬ (p = 0) := by omega
      go_enter Try.func18, Try.ntmps18
      go_wp2_with fail
      refine (canOwe_any o t _).mono ?_
      rw [decide_eq_true h]
      rintro e w1 ⟨rfl, hb1⟩
      go_wp2
      all_goals first | (go_ret; exact ⟨ret_int (by first | rfl | omega | (congr 1; omega) | (rw [show m = 0 by omega]; simp)), hb1⟩) | (exfalso; omega)
    · rw [if_neg (fun x => hp x.2)]
      go_enter Try.func18, Try.ntmps18
      go_wp2_with fail
      refine (canOwe_any o t _).mono ?_
      rw [decide_eq_true h]
      rintro e w1 ⟨rfl, hb1⟩
      go_wp2
      all_goals first | (go_ret; exact ⟨rfl, hb1⟩) | (exfalso; omega)
  · rw [if_neg (fun x => h x.1)]
    go_enter Try.func18, Try.ntmps18
    go_wp2_with fail
    refine (canOwe_any o t _).mono ?_
    rw [decide_eq_false h]
    rintro e w1 ⟨rfl, hb1⟩
    go_wp2
    go_ret
    exact ⟨rfl, hb1⟩
set_option maxHeartbeats 1000000 in
theorem specMayRide_any (o t p : Int) (w : World) :
    Calls Try.prog 16 #[.int .i64 o, .int .i64 t, .int .i64 p] w fun e w' => e = .returned (.bool (Fares.mayRide o t p)) ∧ w = w' := by
  have hno : Hid (¬ ((0 ≤ o ∧ o ≤ 100000 ∧ 0 ≤ t ∧ t ≤ 100000) ∧ 0 ≤ p ∧ p ≤ 4000 ∧ o + p ≤ t) → Fares.mayRide o t p = false) := fun h => decide_eq_false (fun x => by unfold Fares.oweOk at x; omega)
  have hyes : Hid (((0 ≤ o ∧ o ≤ 100000 ∧ 0 ≤ t ∧ t ≤ 100000) ∧ 0 ≤ p ∧ p ≤ 4000 ∧ o + p ≤ t) → Fares.mayRide o t p = true) := fun h => decide_eq_true (by unfold Fares.oweOk; omega)
  go_enter Try.func16, Try.ntmps16
  go_wp2_with fail
  by_cases g0 : 0 ≤ o ∧ o ≤ 100000
  · refine (inRange_yes _ _ _ _ g0.1 g0.2).mono ?_
    rintro e w' ⟨rfl, rfl⟩
    go_wp2_with fail
    by_cases g1 : 0 ≤ t ∧ t ≤ 100000
    · refine (inRange_yes _ _ _ _ g1.1 g1.2).mono ?_
      rintro e w' ⟨rfl, rfl⟩
      go_wp2_with fail
      by_cases g2 : 0 ≤ p ∧ p ≤ 4000
      · refine (inRange_yes _ _ _ _ g2.1 g2.2).mono ?_
        rintro e w' ⟨rfl, rfl⟩
        by_cases ht : o + p ≤ t
        · go_wp2
          all_goals first | (go_ret; exact ⟨ret_bool (by rw [hyes.out (by omega)]; first | rfl | (simp; done) | (simp; omega) | trace_state), rfl⟩) | (exfalso; omega)
        · go_wp2
          all_goals first | (go_ret; exact ⟨ret_bool (by rw [hno.out (by omega)]; first | rfl | (simp; omega)), rfl⟩) | (exfalso; omega)
      · refine (inRange_no _ _ _ _ (by omega)).mono ?_
        rintro e w' ⟨rfl, rfl⟩
        go_wp2
        go_ret
        exact ⟨ret_bool (hno.out (by omega)).symm, rfl⟩
    · refine (inRange_no _ _ _ _ (by omega)).mono ?_
      rintro e w' ⟨rfl, rfl⟩
      go_wp2
      go_ret
      exact ⟨ret_bool (hno.out (by omega)).symm, rfl⟩
  · refine (inRange_no _ _ _ _ (by omega)).mono ?_
    rintro e w' ⟨rfl, rfl⟩
    go_wp2
    go_ret
    exact ⟨ret_bool (hno.out (by omega)).symm, rfl⟩
set_option maxHeartbeats 1000000 in
theorem specRidesLeft_any (o t p : Int) (w : World) :
    Calls Try.prog 19 #[.int .i64 o, .int .i64 t, .int .i64 p] w fun e w' => e = .returned (.int .i64 (Fares.ridesLeft o t p)) ∧ w = w' := by
  unfold Fares.ridesLeft
  by_cases h : Fares.oweOk o t ∧ 1 ≤ p ∧ p ≤ 4000
  · rw [if_pos h]
    obtain ⟨m, hm⟩ : ∃ m, (if (0 : Int) < t - o then t - o else 0) = m := ⟨_, rfl⟩
    obtain ⟨m0, m1⟩ := rides_in (p := p) h.1 hm
    obtain ⟨⟨h0, h1, h2, h3⟩, h4, h5⟩ := h
    rw [hm]
    have d0 : 0 ≤ m / p := Int.ediv_nonneg m0 (by omega)
    have d1 : m / p ≤ m := Int.ediv_le_self _ m0
    have p0 : ¬ (p = 0) := by omega
    go_enter Try.func19, Try.ntmps19
    go_wp2_with (go_at_call 27; refine (inRange_yes _ _ _ _ (by omega) (by omega)).mono ?_; rintro e w' ⟨rfl, rfl⟩)
    all_goals first | (go_ret; exact ⟨ret_int (by first | rfl | omega | (congr 1; omega) | (rw [show m = 0 by omega]; simp)), rfl⟩) | (exfalso; omega)
  · rw [if_neg h]
    unfold Fares.oweOk at h
    go_enter Try.func19, Try.ntmps19
    go_wp2_with fail
    by_cases g0 : 0 ≤ o ∧ o ≤ 100000
    · refine (inRange_yes _ _ _ _ g0.1 g0.2).mono ?_
      rintro e w' ⟨rfl, rfl⟩
      go_wp2_with fail
      by_cases g1 : 0 ≤ t ∧ t ≤ 100000
      · refine (inRange_yes _ _ _ _ g1.1 g1.2).mono ?_
        rintro e w' ⟨rfl, rfl⟩
        go_wp2_with fail
        refine (inRange_no _ _ _ _ (by omega)).mono ?_
        rintro e w' ⟨rfl, rfl⟩
        go_wp2
        go_ret
        exact ⟨rfl, rfl⟩
      · refine (inRange_no _ _ _ _ (by omega)).mono ?_
        rintro e w' ⟨rfl, rfl⟩
        go_wp2
        go_ret
        exact ⟨rfl, rfl⟩
    · refine (inRange_no _ _ _ _ (by omega)).mono ?_
      rintro e w' ⟨rfl, rfl⟩
      go_wp2
      go_ret
      exact ⟨rfl, rfl⟩
end Go.Proofs.Ytomjnepchffkgaa
