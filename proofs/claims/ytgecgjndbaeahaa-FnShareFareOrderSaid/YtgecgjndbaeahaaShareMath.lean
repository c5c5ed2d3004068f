/-
  Chapter 18, plain: shares of an amount, rounded down, and the largest rests; by sorting and by picking.
-/
import Derived.Test.YtgecgjndbaeahaaLegMath
set_option linter.unusedSimpArgs false
namespace Go.Proofs.Ytgecgjndbaeahaa.Fares
set_option linter.unusedVariables false

structure Share where
  o : Int
  a : Int
  r : Int
deriving DecidableEq
/-- what is sorted so far is kept with its last one first: x goes ahead of those with smaller rests -/
def insR : List Share → Share → List Share
  | [], x => [x]
  | y :: r, x => if y.r < x.r then y :: insR r x else x :: y :: r
def sortS (l : List Share) : List Share := (l.foldl insR []).reverse
theorem insR_length : ∀ (l : List Share) (x : Share), (insR l x).length = l.length + 1
  | [], _ => rfl
  | y :: r, x => by
    unfold insR
    split
    · rw [List.length_cons, insR_length r x, List.length_cons]
    · rfl
theorem fold_insR_length : ∀ (l acc : List Share), (l.foldl insR acc).length = acc.length + l.length
  | [], acc => rfl
  | x :: l, acc => by rw [List.foldl_cons, fold_insR_length l, insR_length, List.length_cons]; omega
theorem sortS_length (l : List Share) : (sortS l).length = l.length := by
  unfold sortS
  rw [List.length_reverse, fold_insR_length]
  simp
def val (p : List Int) (i : Int) : Int := p.getD i.toNat 0
def bump (p : List Int) (s : Share) : List Int := p.set s.o.toNat (val p s.o + 1)
/-- the first place of the greatest one among the first k + 1 -/
def maxAt (rs : List Int) : Nat → Nat
  | 0 => 0
  | k + 1 => if rs.getD (maxAt rs k) 0 < rs.getD (k + 1) 0 then k + 1 else maxAt rs k
def pickOne (p : List Int × List Int) : List Int × List Int :=
  (p.1.set (maxAt p.2 3) (p.1.getD (maxAt p.2 3) 0 + 1), p.2.set (maxAt p.2 3) (-1))
def pick : Nat → List Int × List Int → List Int × List Int
  | 0, p => p
  | n + 1, p => pick n (pickOne p)
/-- who gets 1 more -/
structure Gets (e0 e1 e2 e3 r0 r1 r2 r3 : Int) (n : Nat) : Prop where
  s0 : e0 = 0 ∨ e0 = 1
  s1 : e1 = 0 ∨ e1 = 1
  s2 : e2 = 0 ∨ e2 = 1
  s3 : e3 = 0 ∨ e3 = 1
  sum : e0 + e1 + e2 + e3 = n
  most : ∀ x, (e0 = 1 ∧ x = r0 ∨ e1 = 1 ∧ x = r1 ∨ e2 = 1 ∧ x = r2 ∨ e3 = 1 ∧ x = r3) → ∀ y, (e0 = 0 ∧ y = r0 ∨ e1 = 0 ∧ y = r1 ∨ e2 = 0 ∧ y = r2 ∨ e3 = 0 ∧ y = r3) → y ≤ x

set_option maxHeartbeats 4000000 in
theorem share_one (b0 b1 b2 b3 r0 r1 r2 r3 : Int) (h0 : 0 ≤ r0) (h1 : 0 ≤ r1) (h2 : 0 ≤ r2) (h3 : 0 ≤ r3) (n : Nat) (hn : n ≤ 3) :
    ∃ e0 e1 e2 e3, ((sortS [⟨0, b0, r0⟩, ⟨1, b1, r1⟩, ⟨2, b2, r2⟩, ⟨3, b3, r3⟩]).take n).foldl bump [b0, b1, b2, b3] = [b0 + e0, b1 + e1, b2 + e2, b3 + e3] ∧
      (pick n ([b0, b1, b2, b3], [r0, r1, r2, r3])).1 = [b0 + e0, b1 + e1, b2 + e2, b3 + e3] ∧ Gets e0 e1 e2 e3 r0 r1 r2 r3 n := by
  have g0 : ¬ r0 < -1 := by omega
  have g1 : ¬ r1 < -1 := by omega
  have g2 : ¬ r2 < -1 := by omega
  have g3 : ¬ r3 < -1 := by omega
  have k0 : -1 < r0 := by omega
  have k1 : -1 < r1 := by omega
  have k2 : -1 < r2 := by omega
  have k3 : -1 < r3 := by omega
  by_cases c01 : r0 < r1 <;> by_cases c02 : r0 < r2 <;> by_cases c03 : r0 < r3 <;> by_cases c12 : r1 < r2 <;> by_cases c13 : r1 < r3 <;> by_cases c23 : r2 < r3 <;> first | (exfalso; omega) | skip
  all_goals
    match n, hn with
    | 0, _ => exact ⟨0, 0, 0, 0, by simp, by simp [pick], ⟨.inl rfl, .inl rfl, .inl rfl, .inl rfl, rfl, fun x hx => by omega⟩⟩
    | 1, _ =>
      simp only [sortS, insR, List.foldl_cons, List.foldl_nil, pick, pickOne, maxAt, bump, val, c01, c02, c03, c12, c13, c23, g0, g1, g2, g3, k0, k1, k2, k3, Int.lt_irrefl, if_true, if_false, List.reverse_cons, List.reverse_nil, List.nil_append, List.cons_append, List.take_succ_cons, List.take_zero, List.getD_cons_zero, List.getD_cons_succ, List.set_cons_zero, List.set_cons_succ]
      first
      | exact ⟨0, 0, 0, 1, by simp, by simp, ⟨.inl rfl, .inl rfl, .inl rfl, .inr rfl, rfl, fun x hx y hy => by omega⟩⟩
      | exact ⟨0, 0, 1, 0, by simp, by simp, ⟨.inl rfl, .inl rfl, .inr rfl, .inl rfl, rfl, fun x hx y hy => by omega⟩⟩
      | exact ⟨0, 1, 0, 0, by simp, by simp, ⟨.inl rfl, .inr rfl, .inl rfl, .inl rfl, rfl, fun x hx y hy => by omega⟩⟩
      | exact ⟨1, 0, 0, 0, by simp, by simp, ⟨.inr rfl, .inl rfl, .inl rfl, .inl rfl, rfl, fun x hx y hy => by omega⟩⟩
    | 2, _ =>
      simp only [sortS, insR, List.foldl_cons, List.foldl_nil, pick, pickOne, maxAt, bump, val, c01, c02, c03, c12, c13, c23, g0, g1, g2, g3, k0, k1, k2, k3, Int.lt_irrefl, if_true, if_false, List.reverse_cons, List.reverse_nil, List.nil_append, List.cons_append, List.take_succ_cons, List.take_zero, List.getD_cons_zero, List.getD_cons_succ, List.set_cons_zero, List.set_cons_succ]
      first
      | exact ⟨0, 0, 1, 1, by simp, by simp, ⟨.inl rfl, .inl rfl, .inr rfl, .inr rfl, rfl, fun x hx y hy => by omega⟩⟩
      | exact ⟨0, 1, 0, 1, by simp, by simp, ⟨.inl rfl, .inr rfl, .inl rfl, .inr rfl, rfl, fun x hx y hy => by omega⟩⟩
      | exact ⟨0, 1, 1, 0, by simp, by simp, ⟨.inl rfl, .inr rfl, .inr rfl, .inl rfl, rfl, fun x hx y hy => by omega⟩⟩
      | exact ⟨1, 0, 0, 1, by simp, by simp, ⟨.inr rfl, .inl rfl, .inl rfl, .inr rfl, rfl, fun x hx y hy => by omega⟩⟩
      | exact ⟨1, 0, 1, 0, by simp, by simp, ⟨.inr rfl, .inl rfl, .inr rfl, .inl rfl, rfl, fun x hx y hy => by omega⟩⟩
      | exact ⟨1, 1, 0, 0, by simp, by simp, ⟨.inr rfl, .inr rfl, .inl rfl, .inl rfl, rfl, fun x hx y hy => by omega⟩⟩
    | 3, _ =>
      simp only [sortS, insR, List.foldl_cons, List.foldl_nil, pick, pickOne, maxAt, bump, val, c01, c02, c03, c12, c13, c23, g0, g1, g2, g3, k0, k1, k2, k3, Int.lt_irrefl, if_true, if_false, List.reverse_cons, List.reverse_nil, List.nil_append, List.cons_append, List.take_succ_cons, List.take_zero, List.getD_cons_zero, List.getD_cons_succ, List.set_cons_zero, List.set_cons_succ]
      first
      | exact ⟨0, 1, 1, 1, by simp, by simp, ⟨.inl rfl, .inr rfl, .inr rfl, .inr rfl, rfl, fun x hx y hy => by omega⟩⟩
      | exact ⟨1, 0, 1, 1, by simp, by simp, ⟨.inr rfl, .inl rfl, .inr rfl, .inr rfl, rfl, fun x hx y hy => by omega⟩⟩
      | exact ⟨1, 1, 0, 1, by simp, by simp, ⟨.inr rfl, .inr rfl, .inl rfl, .inr rfl, rfl, fun x hx y hy => by omega⟩⟩
      | exact ⟨1, 1, 1, 0, by simp, by simp, ⟨.inr rfl, .inr rfl, .inr rfl, .inl rfl, rfl, fun x hx y hy => by omega⟩⟩

theorem gets_pos {e0 e1 e2 e3 r0 r1 r2 r3 A : Int} {n : Nat} (h : Gets e0 e1 e2 e3 r0 r1 r2 r3 n) (hn : n ≤ 3) (hs : r0 + r1 + r2 + r3 = A * (n : Int)) (h0 : 0 ≤ r0 ∧ r0 < A) (h1 : 0 ≤ r1 ∧ r1 < A) (h2 : 0 ≤ r2 ∧ r2 < A) (h3 : 0 ≤ r3 ∧ r3 < A) :
    (e0 = 1 → 0 < r0) ∧ (e1 = 1 → 0 < r1) ∧ (e2 = 1 → 0 < r2) ∧ (e3 = 1 → 0 < r3) := by
  obtain ⟨s0, s1, s2, s3, hsum, hm⟩ := h
  have m01 : e0 = 1 → e1 = 0 → r1 ≤ r0 := fun a b => hm r0 (.inl ⟨a, rfl⟩) r1 (.inr (.inl ⟨b, rfl⟩))
  have m02 : e0 = 1 → e2 = 0 → r2 ≤ r0 := fun a b => hm r0 (.inl ⟨a, rfl⟩) r2 (.inr (.inr (.inl ⟨b, rfl⟩)))
  have m03 : e0 = 1 → e3 = 0 → r3 ≤ r0 := fun a b => hm r0 (.inl ⟨a, rfl⟩) r3 (.inr (.inr (.inr ⟨b, rfl⟩)))
  have m10 : e1 = 1 → e0 = 0 → r0 ≤ r1 := fun a b => hm r1 (.inr (.inl ⟨a, rfl⟩)) r0 (.inl ⟨b, rfl⟩)
  have m12 : e1 = 1 → e2 = 0 → r2 ≤ r1 := fun a b => hm r1 (.inr (.inl ⟨a, rfl⟩)) r2 (.inr (.inr (.inl ⟨b, rfl⟩)))
  have m13 : e1 = 1 → e3 = 0 → r3 ≤ r1 := fun a b => hm r1 (.inr (.inl ⟨a, rfl⟩)) r3 (.inr (.inr (.inr ⟨b, rfl⟩)))
  have m20 : e2 = 1 → e0 = 0 → r0 ≤ r2 := fun a b => hm r2 (.inr (.inr (.inl ⟨a, rfl⟩))) r0 (.inl ⟨b, rfl⟩)
  have m21 : e2 = 1 → e1 = 0 → r1 ≤ r2 := fun a b => hm r2 (.inr (.inr (.inl ⟨a, rfl⟩))) r1 (.inr (.inl ⟨b, rfl⟩))
  have m23 : e2 = 1 → e3 = 0 → r3 ≤ r2 := fun a b => hm r2 (.inr (.inr (.inl ⟨a, rfl⟩))) r3 (.inr (.inr (.inr ⟨b, rfl⟩)))
  have m30 : e3 = 1 → e0 = 0 → r0 ≤ r3 := fun a b => hm r3 (.inr (.inr (.inr ⟨a, rfl⟩))) r0 (.inl ⟨b, rfl⟩)
  have m31 : e3 = 1 → e1 = 0 → r1 ≤ r3 := fun a b => hm r3 (.inr (.inr (.inr ⟨a, rfl⟩))) r1 (.inr (.inl ⟨b, rfl⟩))
  have m32 : e3 = 1 → e2 = 0 → r2 ≤ r3 := fun a b => hm r3 (.inr (.inr (.inr ⟨a, rfl⟩))) r2 (.inr (.inr (.inl ⟨b, rfl⟩)))
  clear hm
  match n, hn with
  | 0, _ | 1, _ | 2, _ | 3, _ =>
    (try push_cast at hs hsum)
    rcases s0 with rfl | rfl <;> rcases s1 with rfl | rfl <;> rcases s2 with rfl | rfl <;> rcases s3 with rfl | rfl <;> first | (exfalso; omega) | (refine ⟨?_, ?_, ?_, ?_⟩ <;> intro _ <;> omega)

def prod (xs : List Leg) (m i : Int) : Int := m * legSum i xs
def base (xs : List Leg) (m i : Int) : Int := m * legSum i xs / legAll xs
def rest (xs : List Leg) (m i : Int) : Int := m * legSum i xs % legAll xs
def shareAt (xs : List Leg) (m i : Int) : Share := ⟨i, base xs m i, rest xs m i⟩
def sharesOf (xs : List Leg) (m : Int) : List Share := [shareAt xs m 0, shareAt xs m 1, shareAt xs m 2, shareAt xs m 3]
def bases (xs : List Leg) (m : Int) : List Int := [base xs m 0, base xs m 1, base xs m 2, base xs m 3]
def rests (xs : List Leg) (m : Int) : List Int := [rest xs m 0, rest xs m 1, rest xs m 2, rest xs m 3]
def leftOf (xs : List Leg) (m : Int) : Int := m - base xs m 0 - base xs m 1 - base xs m 2 - base xs m 3
def shareOk (xs : List Leg) (m : Int) : Bool := validLegs xs && decide (0 ≤ m ∧ m ≤ 100000)
def shareFare (xs : List Leg) (m : Int) : List Int := if shareOk xs m then (pick (leftOf xs m).toNat (bases xs m, rests xs m)).1 else []
theorem shareOk_iff {xs : List Leg} {m : Int} : shareOk xs m = true ↔ validLegs xs = true ∧ 0 ≤ m ∧ m ≤ 100000 := by unfold shareOk; rw [Bool.and_eq_true, decide_eq_true_eq]
theorem legAll_parts : ∀ {xs : List Leg}, (∀ g ∈ xs, 0 ≤ g.o ∧ g.o ≤ 3) → legAll xs = legSum 0 xs + legSum 1 xs + legSum 2 xs + legSum 3 xs
  | [], _ => rfl
  | g :: xs, h => by
    have h1 := h g (List.mem_cons_self ..)
    have h2 := legAll_parts (xs := xs) (fun x hx => h x (List.mem_cons_of_mem _ hx))
    rw [legAll_cons, legSum_cons, legSum_cons, legSum_cons, legSum_cons, h2]
    unfold part
    rcases (show g.o = 0 ∨ g.o = 1 ∨ g.o = 2 ∨ g.o = 3 by omega) with e | e | e | e <;> rw [e] <;> simp <;> omega
/-- what is known of the divisions -/
structure Shared (xs : List Leg) (m : Int) : Prop where
  m0 : 0 ≤ m
  m1 : m ≤ 100000
  a0 : 1 ≤ legAll xs
  a1 : legAll xs ≤ 4000
  sum : legAll xs = legSum 0 xs + legSum 1 xs + legSum 2 xs + legSum 3 xs
  len : ∀ i, 0 ≤ legSum i xs ∧ legSum i xs ≤ legAll xs
  prod : ∀ i, 0 ≤ m * legSum i xs ∧ m * legSum i xs ≤ 400000000
  base : ∀ i, 0 ≤ base xs m i ∧ base xs m i ≤ 100000
  rest : ∀ i, 0 ≤ rest xs m i ∧ rest xs m i < legAll xs
  div : ∀ i, legAll xs * Fares.base xs m i + Fares.rest xs m i = m * legSum i xs
  left0 : 0 ≤ leftOf xs m
  left3 : leftOf xs m ≤ 3
  rsum : Fares.rest xs m 0 + Fares.rest xs m 1 + Fares.rest xs m 2 + Fares.rest xs m 3 = legAll xs * leftOf xs m
theorem shared_of {xs : List Leg} {m : Int} (h : shareOk xs m = true) : Shared xs m := by
  obtain ⟨hv, m0, m1⟩ := shareOk_iff.1 h
  have hl := legs_in hv
  have h8 := (validLegs_iff.1 hv).1
  have hin := fun i => legSum_in (op := i) hl
  have ha := hin 0
  have hsum := legAll_parts (xs := xs) (fun g hg => by have := (validLegs_iff.1 hv).2 g hg; omega)
  have a0 : 1 ≤ legAll xs := by omega
  have a1 : legAll xs ≤ 4000 := by omega
  have hp : ∀ i, 0 ≤ m * legSum i xs ∧ m * legSum i xs ≤ 400000000 := fun i => by
    have h1 := hin i
    refine ⟨Int.mul_nonneg m0 h1.1, ?_⟩
    exact Int.le_trans (Int.mul_le_mul m1 (show legSum i xs ≤ 4000 by omega) h1.1 (by omega)) (by omega)
  have hr : ∀ i, 0 ≤ rest xs m i ∧ rest xs m i < legAll xs := fun i => ⟨Int.emod_nonneg _ (by omega), Int.emod_lt_of_pos _ (by omega)⟩
  have hd : ∀ i, legAll xs * base xs m i + rest xs m i = m * legSum i xs := fun i => Int.mul_ediv_add_emod _ _
  have hb : ∀ i, 0 ≤ base xs m i ∧ base xs m i ≤ 100000 := fun i => by
    refine ⟨Int.ediv_nonneg (hp i).1 (by omega), ?_⟩
    have h1 : base xs m i ≤ m := by
      refine Int.ediv_le_of_le_mul (by omega) ?_
      exact Int.mul_le_mul_of_nonneg_left (hin i).2.1 m0
    omega
  have hrs : rest xs m 0 + rest xs m 1 + rest xs m 2 + rest xs m 3 = legAll xs * leftOf xs m := by
    have d0 := hd 0
    have d1 := hd 1
    have d2 := hd 2
    have d3 := hd 3
    have e : m * legAll xs = m * legSum 0 xs + m * legSum 1 xs + m * legSum 2 xs + m * legSum 3 xs := by rw [hsum, Int.mul_add, Int.mul_add, Int.mul_add]
    unfold leftOf
    rw [Int.mul_sub, Int.mul_sub, Int.mul_sub, Int.mul_sub, Int.mul_comm (legAll xs) m]
    omega
  have r0 := hr 0
  have r1 := hr 1
  have r2 := hr 2
  have r3 := hr 3
  refine ⟨m0, m1, a0, a1, hsum, fun i => ⟨(hin i).1, (hin i).2.1⟩, hp, hb, hr, hd, ?_, ?_, hrs⟩
  · have : legAll xs * (-1) < legAll xs * leftOf xs m := by omega
    have := Int.lt_of_mul_lt_mul_left this (by omega)
    omega
  · have : legAll xs * leftOf xs m < legAll xs * 4 := by omega
    have := Int.lt_of_mul_lt_mul_left this (by omega)
    omega
/-- the two ways, and who gets 1 more -/
theorem share_all {xs : List Leg} {m : Int} (h : Shared xs m) : ∃ e0 e1 e2 e3 : Int,
    ((sortS (sharesOf xs m)).take (leftOf xs m).toNat).foldl bump (bases xs m) = [base xs m 0 + e0, base xs m 1 + e1, base xs m 2 + e2, base xs m 3 + e3] ∧
    (pick (leftOf xs m).toNat (bases xs m, rests xs m)).1 = [base xs m 0 + e0, base xs m 1 + e1, base xs m 2 + e2, base xs m 3 + e3] ∧
    (e0 = 0 ∨ e0 = 1) ∧ (e1 = 0 ∨ e1 = 1) ∧ (e2 = 0 ∨ e2 = 1) ∧ (e3 = 0 ∨ e3 = 1) ∧ e0 + e1 + e2 + e3 = leftOf xs m ∧ (e0 = 1 → 0 < rest xs m 0) ∧ (e1 = 1 → 0 < rest xs m 1) ∧ (e2 = 1 → 0 < rest xs m 2) ∧ (e3 = 1 → 0 < rest xs m 3) := by
  have l0 := h.left0
  have l3 := h.left3
  have hn : (leftOf xs m).toNat ≤ 3 := by omega
  have hc : ((leftOf xs m).toNat : Int) = leftOf xs m := Int.toNat_of_nonneg l0
  obtain ⟨e0, e1, e2, e3, q1, q2, q3⟩ := share_one (base xs m 0) (base xs m 1) (base xs m 2) (base xs m 3) (rest xs m 0) (rest xs m 1) (rest xs m 2) (rest xs m 3) (h.rest 0).1 (h.rest 1).1 (h.rest 2).1 (h.rest 3).1 _ hn
  have hp := gets_pos q3 hn (A := legAll xs) (by rw [hc]; exact h.rsum) (h.rest 0) (h.rest 1) (h.rest 2) (h.rest 3)
  exact ⟨e0, e1, e2, e3, q1, q2, q3.s0, q3.s1, q3.s2, q3.s3, by rw [← hc]; exact q3.sum, hp.1, hp.2.1, hp.2.2.1, hp.2.2.2⟩
theorem share_two {xs : List Leg} {m : Int} (h : shareOk xs m = true) : ((sortS (sharesOf xs m)).take (leftOf xs m).toNat).foldl bump (bases xs m) = shareFare xs m := by
  obtain ⟨e0, e1, e2, e3, q1, q2, _⟩ := share_all (shared_of h)
  unfold shareFare
  rw [if_pos h, q1, q2]
theorem share_length (xs : List Leg) (m : Int) : (shareFare xs m).length ≤ 4 := by
  cases h : shareOk xs m with
  | false => unfold shareFare; rw [h]; simp
  | true =>
    obtain ⟨e0, e1, e2, e3, q1, q2, _⟩ := share_all (shared_of h)
    unfold shareFare
    rw [if_pos h, q2]
    simp
theorem share_no {xs : List Leg} {m : Int} (h : shareOk xs m = false) : shareFare xs m = [] := by unfold shareFare; rw [h]; rfl
theorem share_ok {xs : List Leg} {m : Int} {out : List Int} (h : shareFare xs m = out) (hl : 0 < out.length) : shareOk xs m = true := by
  cases hk : shareOk xs m with
  | true => rfl
  | false => rw [share_no hk] at h; subst h; simp at hl
theorem share_law {xs : List Leg} {m : Int} (h : shareOk xs m = true) :
    (shareFare xs m).length = 4 ∧ sumI (shareFare xs m) = m ∧ ∀ (k : Nat) (v : Int), (shareFare xs m)[k]? = some v →
      0 ≤ v ∧ v ≤ 100001 ∧ v * legAll xs - m * legSum k xs < legAll xs ∧ -(v * legAll xs - m * legSum k xs) < legAll xs ∧ (legSum k xs = 0 → v = 0) ∧ (m = 0 → v = 0) := by
  have S := shared_of h
  obtain ⟨e0, e1, e2, e3, q1, q2, s0, s1, s2, s3, hs, p0, p1, p2, p3⟩ := share_all S
  have hE : shareFare xs m = [base xs m 0 + e0, base xs m 1 + e1, base xs m 2 + e2, base xs m 3 + e3] := by unfold shareFare; rw [if_pos h, q2]
  rw [hE]
  refine ⟨rfl, ?_, fun k v hv => ?_⟩
  · simp only [sumI]
    unfold leftOf at hs
    omega
  · have key : ∀ (i : Int) (e : Int), (e = 0 ∨ e = 1) → (e = 1 → 0 < rest xs m i) →
        0 ≤ base xs m i + e ∧ base xs m i + e ≤ 100001 ∧ (base xs m i + e) * legAll xs - m * legSum i xs < legAll xs ∧ -((base xs m i + e) * legAll xs - m * legSum i xs) < legAll xs ∧ (legSum i xs = 0 → base xs m i + e = 0) ∧ (m = 0 → base xs m i + e = 0) := by
      intro i e he hp
      have hb := S.base i
      have hr := S.rest i
      have hd := S.div i
      have a0 := S.a0
      have hz : m * legSum i xs = 0 → base xs m i = 0 ∧ rest xs m i = 0 := fun hz => by
        unfold base rest
        rw [hz]
        simp
      have hz2 : m * legSum i xs = 0 → base xs m i + e = 0 := fun hz' => by
        have := hz hz'
        rcases he with rfl | rfl
        · omega
        · have := hp rfl; omega
      have hmul : (base xs m i + e) * legAll xs = legAll xs * base xs m i + e * legAll xs := by rw [Int.add_mul, Int.mul_comm (base xs m i)]
      refine ⟨by omega, by omega, ?_, ?_, fun hl => hz2 (by rw [hl, Int.mul_zero]), fun hm => hz2 (by rw [hm, Int.zero_mul])⟩
      · rw [hmul]
        rcases he with rfl | rfl
        · rw [Int.zero_mul]; omega
        · have := hp rfl; rw [Int.one_mul]; omega
      · rw [hmul]
        rcases he with rfl | rfl
        · rw [Int.zero_mul]; omega
        · have := hp rfl; rw [Int.one_mul]; omega
    match k, hv with
    | 0, hv => simp at hv; subst hv; exact key 0 e0 s0 p0
    | 1, hv => simp at hv; subst hv; exact key 1 e1 s1 p1
    | 2, hv => simp at hv; subst hv; exact key 2 e2 s2 p2
    | 3, hv => simp at hv; subst hv; exact key 3 e3 s3 p3
    | k + 4, hv => simp at hv
/-- only the lengths matter -/
theorem share_same {xs ys : List Leg} {m : Int} (hv : validLegs ys = validLegs xs) (hs : ∀ i, legSum i ys = legSum i xs) (ha : legAll ys = legAll xs) : shareFare ys m = shareFare xs m := by
  unfold shareFare shareOk leftOf bases rests base rest
  rw [hv, ha]
  simp only [hs]
theorem share_order {xs : List Leg} {m : Int} (h : shareOk xs m = true) : shareFare xs.reverse m = shareFare xs m ∧ shareFare (joinLegs xs) m = shareFare xs m ∧ (joinLegs xs).length ≤ 8 := by
  have hv := (shareOk_iff.1 h).1
  have hin := (validLegs_iff.1 hv)
  refine ⟨share_same ?_ (fun i => legSum_reverse i xs) (legAll_reverse xs), ?_, joinLegs_length xs⟩
  · rw [hv]
    exact valid_part hv (fun g hg => List.mem_reverse.1 hg) (by rw [List.length_reverse]; omega) (by rw [List.length_reverse]; omega)
  · have e : joinLegs xs = joinRun xs := by unfold joinLegs; rw [if_pos hv]
    rw [e]
    have hvj := joinRun_valid hv
    have hp1 := legAll_parts (xs := xs) (fun g hg => by have := hin.2 g hg; omega)
    have hp2 := legAll_parts (xs := joinRun xs) (fun g hg => by have := (validLegs_iff.1 hvj).2 g hg; omega)
    refine share_same (by rw [hv, hvj]) (fun i => joinRun_sum i xs) ?_
    rw [hp1, hp2, joinRun_sum, joinRun_sum, joinRun_sum, joinRun_sum]
theorem share_single {g : Leg} {m : Int} (hg : 0 ≤ g.o ∧ g.o ≤ 3 ∧ 1 ≤ g.l ∧ g.l ≤ 500) (hm : 0 ≤ m ∧ m ≤ 100000) : ∀ (k : Nat) (v : Int), (shareFare [g] m)[k]? = some v → v = if (k : Int) = g.o then m else 0 := by
  have hv : validLegs [g] = true := validLegs_iff.2 ⟨by simp, fun x hx => by simp at hx; subst hx; exact hg⟩
  have hk : shareOk [g] m = true := shareOk_iff.2 ⟨hv, hm⟩
  obtain ⟨h4, hsum, hall⟩ := share_law hk
  have hls : ∀ i : Int, legSum i [g] = if g.o = i then g.l else 0 := fun i => by simp [legSum, part, sumI]
  have hz : ∀ (k : Nat) (v : Int), (shareFare [g] m)[k]? = some v → ¬ (k : Int) = g.o → v = 0 := fun k v hv' hne => by
    refine (hall k v hv').2.2.2.2.1 ?_
    rw [hls, if_neg (fun e => hne e.symm)]
  obtain ⟨a, b, c, d, hE⟩ : ∃ a b c d, shareFare [g] m = [a, b, c, d] := by
    match hq : shareFare [g] m, h4 with
    | [a, b, c, d], _ => exact ⟨a, b, c, d, rfl⟩
  rw [hE] at hsum hz ⊢
  simp only [sumI] at hsum
  have z0 := hz 0 a rfl
  have z1 := hz 1 b rfl
  have z2 := hz 2 c rfl
  have z3 := hz 3 d rfl
  intro k v hv'
  match k, hv' with
  | 0, hv' => simp at hv'; subst hv'; split <;> omega
  | 1, hv' => simp at hv'; subst hv'; split <;> omega
  | 2, hv' => simp at hv'; subst hv'; split <;> omega
  | 3, hv' => simp at hv'; subst hv'; split <;> omega
  | k + 4, hv' => simp at hv'
end Go.Proofs.Ytgecgjndbaeahaa.Fares
