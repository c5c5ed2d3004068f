/-
  Chapter 18, plain: legs, their lengths, legs that are joined.
-/
import Derived.Test.YtgecgjndbaeahaaTypes
import Derived.Test.YtgecgjndbaeahaaSumMath
set_option linter.unusedSimpArgs false
namespace Go.Proofs.Ytgecgjndbaeahaa.Fares
set_option linter.unusedVariables false

def legOk (g : Leg) : Bool := decide (0 ≤ g.o ∧ g.o ≤ 3 ∧ 1 ≤ g.l ∧ g.l ≤ 500)
theorem legOk_iff {g : Leg} : legOk g = true ↔ 0 ≤ g.o ∧ g.o ≤ 3 ∧ 1 ≤ g.l ∧ g.l ≤ 500 := by unfold legOk; exact decide_eq_true_iff
def validLegs (xs : List Leg) : Bool := decide (1 ≤ xs.length ∧ xs.length ≤ 8) && xs.all legOk
theorem validLegs_iff {xs : List Leg} : validLegs xs = true ↔ (1 ≤ xs.length ∧ xs.length ≤ 8) ∧ ∀ g ∈ xs, 0 ≤ g.o ∧ g.o ≤ 3 ∧ 1 ≤ g.l ∧ g.l ≤ 500 := by
  unfold validLegs
  rw [Bool.and_eq_true, decide_eq_true_eq, List.all_eq_true]
  exact and_congr_right fun _ => forall_congr' fun g => forall_congr' fun _ => legOk_iff
theorem valid_no {xs : List Leg} {k : Nat} {g : Leg} (hk : xs[k]? = some g) (h : legOk g = false) : validLegs xs = false := by
  unfold validLegs
  rw [show xs.all legOk = false from List.all_eq_false.2 ⟨g, List.mem_of_getElem? hk, by rw [h]; simp⟩, Bool.and_false]
theorem valid_len {xs : List Leg} (h : ¬ (1 ≤ xs.length ∧ xs.length ≤ 8)) : validLegs xs = false := by
  unfold validLegs
  rw [decide_eq_false h, Bool.false_and]
theorem valid_all {xs : List Leg} (h : 1 ≤ xs.length ∧ xs.length ≤ 8) (ha : ∀ (k : Nat) (g : Leg), xs[k]? = some g → legOk g = true) : validLegs xs = true := by
  unfold validLegs
  rw [decide_eq_true h, Bool.true_and, List.all_eq_true]
  intro g hg
  obtain ⟨k, hk⟩ := List.getElem?_of_mem hg
  exact ha k g hk

def part (op : Int) (g : Leg) : Int := if g.o = op then g.l else 0
def legSum (op : Int) (xs : List Leg) : Int := sumI (xs.map (part op))
def legAll (xs : List Leg) : Int := sumI (xs.map (·.l))
theorem legSum_next {xs : List Leg} {k : Nat} {g : Leg} (h : xs[k]? = some g) (op : Int) : legSum op (xs.take (k + 1)) = legSum op (xs.take k) + part op g := by
  unfold legSum
  rw [List.map_take, List.map_take]
  exact sumI_next (by rw [List.getElem?_map, h]; rfl)
theorem legAll_next {xs : List Leg} {k : Nat} {g : Leg} (h : xs[k]? = some g) : legAll (xs.take (k + 1)) = legAll (xs.take k) + g.l := by
  unfold legAll
  rw [List.map_take, List.map_take]
  exact sumI_next (by rw [List.getElem?_map, h]; rfl)
theorem legSum_append (op : Int) (xs ys : List Leg) : legSum op (xs ++ ys) = legSum op xs + legSum op ys := by unfold legSum; rw [List.map_append, sumI_append]
theorem legAll_append (xs ys : List Leg) : legAll (xs ++ ys) = legAll xs + legAll ys := by unfold legAll; rw [List.map_append, sumI_append]
theorem legSum_cons (op : Int) (g : Leg) (xs : List Leg) : legSum op (g :: xs) = part op g + legSum op xs := rfl
theorem legAll_cons (g : Leg) (xs : List Leg) : legAll (g :: xs) = g.l + legAll xs := rfl
theorem part_in {op : Int} {g : Leg} (h : 1 ≤ g.l ∧ g.l ≤ 500) : 0 ≤ part op g ∧ part op g ≤ 500 := by unfold part; split <;> omega
theorem legSum_in {op : Int} : ∀ {xs : List Leg}, (∀ g ∈ xs, 1 ≤ g.l ∧ g.l ≤ 500) → 0 ≤ legSum op xs ∧ legSum op xs ≤ legAll xs ∧ legAll xs ≤ 500 * (xs.length : Int) ∧ (xs.length : Int) ≤ legAll xs
  | [], _ => by simp [legSum, legAll, sumI]
  | g :: xs, h => by
    have h1 := h g (List.mem_cons_self ..)
    have h2 := legSum_in (op := op) (xs := xs) (fun x hx => h x (List.mem_cons_of_mem _ hx))
    have h3 : 0 ≤ part op g ∧ part op g ≤ g.l := by unfold part; split <;> omega
    rw [legSum_cons, legAll_cons, List.length_cons]
    push_cast
    omega
theorem legSum_take {op : Int} {xs : List Leg} (h : ∀ g ∈ xs, 1 ≤ g.l ∧ g.l ≤ 500) (k : Nat) (hk : k ≤ xs.length) : 0 ≤ legSum op (xs.take k) ∧ legSum op (xs.take k) ≤ 500 * (k : Int) ∧ 0 ≤ legAll (xs.take k) ∧ legAll (xs.take k) ≤ 500 * (k : Int) := by
  have h1 := legSum_in (op := op) (xs := xs.take k) (fun g hg => h g (List.mem_of_mem_take hg))
  rw [List.length_take, Nat.min_eq_left hk] at h1
  omega
theorem legs_in {xs : List Leg} (h : validLegs xs = true) : ∀ g ∈ xs, 1 ≤ g.l ∧ g.l ≤ 500 := fun g hg => by have := (validLegs_iff.1 h).2 g hg; omega
def lengthOf (xs : List Leg) (op : Int) : Int := if validLegs xs then legSum op xs else -1
theorem lengthOf_in {xs : List Leg} (h : validLegs xs = true) (op : Int) : 0 ≤ lengthOf xs op ∧ lengthOf xs op ≤ 4000 := by
  unfold lengthOf
  rw [if_pos h]
  have h1 := legSum_in (op := op) (legs_in h)
  have h2 := (validLegs_iff.1 h).1
  omega
theorem lengthOf_range (xs : List Leg) (op : Int) : lengthOf xs op = -1 ∨ 0 ≤ lengthOf xs op ∧ lengthOf xs op ≤ 4000 := by
  cases h : validLegs xs with
  | true => exact .inr (lengthOf_in h op)
  | false => left; unfold lengthOf; rw [h]; rfl
theorem length_ok {xs : List Leg} {op v : Int} (h : lengthOf xs op = v) (hp : 0 ≤ v) : validLegs xs = true ∧ legSum op xs = v := by
  cases hv : validLegs xs with
  | true => unfold lengthOf at h; rw [hv, if_pos rfl] at h; exact ⟨rfl, h⟩
  | false => unfold lengthOf at h; rw [hv] at h; simp at h; omega
/-- a valid list's first leg and the others -/
theorem valid_part {xs ys : List Leg} (h : validLegs xs = true) (hs : ∀ g ∈ ys, g ∈ xs) (h1 : 1 ≤ ys.length) (h2 : ys.length ≤ xs.length) : validLegs ys = true := by
  have h0 := validLegs_iff.1 h
  exact validLegs_iff.2 ⟨⟨h1, by omega⟩, fun g hg => h0.2 g (hs g hg)⟩
theorem length_law {xs : List Leg} {op v : Int} (h : lengthOf xs op = v) (hp : 0 ≤ v) (hl : 2 ≤ xs.length) : lengthOf (xs.take 1) op + lengthOf (xs.drop 1) op = v ∧ 0 ≤ lengthOf (xs.take 1) op ∧ 0 ≤ lengthOf (xs.drop 1) op ∧ lengthOf (xs.take 1) op ≤ 4000 ∧ lengthOf (xs.drop 1) op ≤ 4000 := by
  obtain ⟨hv, hs⟩ := length_ok h hp
  have v1 : validLegs (xs.take 1) = true := valid_part hv (fun g hg => List.mem_of_mem_take hg) (by simp; omega) (by simp; omega)
  have v2 : validLegs (xs.drop 1) = true := valid_part hv (fun g hg => List.mem_of_mem_drop hg) (by simp; omega) (by simp)
  have e : legSum op xs = legSum op (xs.take 1) + legSum op (xs.drop 1) := by rw [← legSum_append, List.take_append_drop]
  have i1 := lengthOf_in v1 op
  have i2 := lengthOf_in v2 op
  unfold lengthOf at *
  rw [if_pos v1] at i1 ⊢
  rw [if_pos v2] at i2 ⊢
  refine ⟨by omega, i1.1, i2.1, i1.2, i2.2⟩

/-! legs that are joined; the list so far is kept with its last one first -/
def joinR : List Leg → Leg → List Leg
  | [], g => [g]
  | y :: r, g => if y.o = g.o ∧ y.l + g.l ≤ 500 then ⟨g.o, y.l + g.l⟩ :: r else g :: y :: r
def joinRun (xs : List Leg) : List Leg := (xs.foldl joinR []).reverse
def joinLegs (xs : List Leg) : List Leg := if validLegs xs then joinRun xs else []
theorem joinR_cons (y g : Leg) (r : List Leg) : joinR (y :: r) g = if y.o = g.o ∧ y.l + g.l ≤ 500 then ⟨g.o, y.l + g.l⟩ :: r else g :: y :: r := rfl
theorem joinR_yes {y g : Leg} {r : List Leg} (h : y.o = g.o ∧ y.l + g.l ≤ 500) : joinR (y :: r) g = ⟨g.o, y.l + g.l⟩ :: r := if_pos h
theorem joinR_no {y g : Leg} {r : List Leg} (h : ¬ (y.o = g.o ∧ y.l + g.l ≤ 500)) : joinR (y :: r) g = g :: y :: r := if_neg h
theorem join_next {xs : List Leg} {k : Nat} {g : Leg} (h : xs[k]? = some g) : (xs.take (k + 1)).foldl joinR [] = joinR ((xs.take k).foldl joinR []) g := by
  rw [List.take_add_one, h, List.foldl_append]; rfl
theorem joinR_ne (acc : List Leg) (g : Leg) : joinR acc g ≠ [] := by
  cases acc with
  | nil => simp [joinR]
  | cons y r => rw [joinR_cons]; split <;> simp
theorem joinR_length (acc : List Leg) (g : Leg) : (joinR acc g).length ≤ acc.length + 1 := by
  cases acc with
  | nil => simp [joinR]
  | cons y r => rw [joinR_cons]; split <;> simp
theorem fold_length : ∀ (xs acc : List Leg), (xs.foldl joinR acc).length ≤ acc.length + xs.length
  | [], acc => by simp
  | g :: xs, acc => by
    have h1 := fold_length xs (joinR acc g)
    have h2 := joinR_length acc g
    simp only [List.foldl_cons, List.length_cons]
    omega
theorem joinRun_length (xs : List Leg) : (joinRun xs).length ≤ xs.length := by
  unfold joinRun
  rw [List.length_reverse]
  have := fold_length xs []
  simpa using this
theorem joinLegs_length (xs : List Leg) : (joinLegs xs).length ≤ 8 := by
  unfold joinLegs
  split
  · rename_i h
    have := (validLegs_iff.1 h).1
    have := joinRun_length xs
    omega
  · simp
def legIn (g : Leg) : Prop := 0 ≤ g.o ∧ g.o ≤ 3 ∧ 1 ≤ g.l ∧ g.l ≤ 500
theorem joinR_in {acc : List Leg} {g : Leg} (ha : ∀ x ∈ acc, legIn x) (hg : legIn g) : ∀ x ∈ joinR acc g, legIn x := by
  cases acc with
  | nil => intro x hx; simp [joinR] at hx; subst hx; exact hg
  | cons y r =>
    intro x hx
    rw [joinR_cons] at hx
    split at hx
    · rename_i hc
      rcases List.mem_cons.1 hx with rfl | hx
      · have hy := ha y (List.mem_cons_self ..)
        unfold legIn at *
        dsimp only
        omega
      · exact ha x (List.mem_cons_of_mem _ hx)
    · rcases List.mem_cons.1 hx with rfl | hx
      · exact hg
      · exact ha x hx
theorem fold_in : ∀ (xs acc : List Leg), (∀ x ∈ acc, legIn x) → (∀ x ∈ xs, legIn x) → ∀ x ∈ xs.foldl joinR acc, legIn x
  | [], acc, ha, _ => ha
  | g :: xs, acc, ha, hx => fold_in xs (joinR acc g) (joinR_in ha (hx g (List.mem_cons_self ..))) (fun x h => hx x (List.mem_cons_of_mem _ h))
theorem fold_ne : ∀ (xs acc : List Leg), (acc ≠ [] ∨ xs ≠ []) → xs.foldl joinR acc ≠ []
  | [], acc, h => h.resolve_right (fun e => e rfl)
  | g :: xs, acc, _ => fold_ne xs (joinR acc g) (.inl (joinR_ne acc g))
theorem legSum_reverse (op : Int) (xs : List Leg) : legSum op xs.reverse = legSum op xs := by
  induction xs with
  | nil => rfl
  | cons g xs ih => rw [List.reverse_cons, legSum_append, ih, legSum_cons, legSum_cons]; simp [legSum, sumI]; omega
theorem legAll_reverse (xs : List Leg) : legAll xs.reverse = legAll xs := by
  induction xs with
  | nil => rfl
  | cons g xs ih => rw [List.reverse_cons, legAll_append, ih, legAll_cons, legAll_cons]; simp [legAll, sumI]; omega
theorem joinR_sum (op : Int) (acc : List Leg) (g : Leg) : legSum op (joinR acc g) = legSum op acc + part op g := by
  cases acc with
  | nil => simp [joinR, legSum, sumI]
  | cons y r =>
    rw [joinR_cons]
    split
    · rename_i hc
      rw [legSum_cons, legSum_cons]
      unfold part
      dsimp only
      rw [hc.1]
      split <;> omega
    · rw [legSum_cons]; omega
theorem fold_sum (op : Int) : ∀ (xs acc : List Leg), legSum op (xs.foldl joinR acc) = legSum op acc + legSum op xs
  | [], acc => by simp [legSum, sumI]
  | g :: xs, acc => by
    rw [List.foldl_cons, fold_sum op xs, joinR_sum, legSum_cons]; omega
theorem joinRun_sum (op : Int) (xs : List Leg) : legSum op (joinRun xs) = legSum op xs := by
  unfold joinRun
  rw [legSum_reverse, fold_sum]
  simp [legSum, sumI]
theorem joinRun_valid {xs : List Leg} (h : validLegs xs = true) : validLegs (joinRun xs) = true := by
  have h0 := validLegs_iff.1 h
  have hl := joinRun_length xs
  have hne := fold_ne xs [] (.inr (by intro e; subst e; simp at h0))
  refine validLegs_iff.2 ⟨⟨?_, by omega⟩, fun g hg => ?_⟩
  · unfold joinRun
    rw [List.length_reverse]
    exact List.length_pos_iff.2 hne
  · unfold joinRun at hg
    exact fold_in xs [] (by simp) (fun x hx => h0.2 x hx) g (List.mem_reverse.1 hg)
/-- neighbours that can't be joined (the last one first) -/
def apart : List Leg → Prop
  | [] => True
  | [_] => True
  | y :: z :: r => ¬ (z.o = y.o ∧ z.l + y.l ≤ 500) ∧ apart (z :: r)
theorem apart_tail {y : Leg} {r : List Leg} (h : apart (y :: r)) : apart r := by
  cases r with
  | nil => trivial
  | cons z r => exact h.2
theorem joinR_apart {acc : List Leg} {g : Leg} (h : apart acc) (hg : 1 ≤ g.l) : apart (joinR acc g) := by
  cases acc with
  | nil => trivial
  | cons y r =>
    rw [joinR_cons]
    split
    · rename_i hc
      cases r with
      | nil => trivial
      | cons z r =>
        refine ⟨?_, h.2⟩
        have := h.1
        dsimp only
        omega
    · rename_i hc
      exact ⟨hc, h⟩
theorem fold_apart : ∀ (xs acc : List Leg), apart acc → (∀ x ∈ xs, 1 ≤ x.l) → apart (xs.foldl joinR acc)
  | [], acc, h, _ => h
  | g :: xs, acc, h, hx => fold_apart xs _ (joinR_apart h (hx g (List.mem_cons_self ..))) (fun x hx' => hx x (List.mem_cons_of_mem _ hx'))
theorem fold_of_apart : ∀ l : List Leg, apart l → l.reverse.foldl joinR [] = l
  | [], _ => rfl
  | y :: r, h => by
    rw [List.reverse_cons, List.foldl_append, fold_of_apart r (apart_tail h)]
    show joinR r y = y :: r
    cases r with
    | nil => rfl
    | cons z r => exact joinR_no h.1
theorem joinRun_again {xs : List Leg} (h : validLegs xs = true) : joinRun (joinRun xs) = joinRun xs := by
  have ha := fold_apart xs [] trivial (fun x hx => (legs_in h x hx).1)
  unfold joinRun
  rw [fold_of_apart _ ha]
theorem join_law {xs out : List Leg} (h : joinLegs xs = out) (hne : out ≠ []) : validLegs xs = true ∧ validLegs out = true ∧ (∀ op, lengthOf out op = lengthOf xs op) ∧ joinLegs out = out ∧ out.length ≤ xs.length := by
  cases hv : validLegs xs with
  | false => unfold joinLegs at h; rw [hv] at h; simp at h; exact absurd h hne
  | true =>
    unfold joinLegs at h
    rw [hv, if_pos rfl] at h
    have hvo := joinRun_valid hv
    rw [h] at hvo
    refine ⟨rfl, hvo, fun op => ?_, ?_, ?_⟩
    · unfold lengthOf
      rw [hv, hvo, if_pos rfl, if_pos rfl, ← h, joinRun_sum]
    · unfold joinLegs
      rw [hvo, if_pos rfl]
      have := joinRun_again hv
      rwa [h] at this
    · rw [← h]; exact joinRun_length xs
end Go.Proofs.Ytgecgjndbaeahaa.Fares
