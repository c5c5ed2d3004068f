/-
  Chapter 18, plain: what the program's and the model's loops over shares make.
-/
import Derived.Test.YtgecgjndbaeahaaShareMath
set_option linter.unusedSimpArgs false
namespace Go.Proofs.Ytgecgjndbaeahaa.Fares
set_option linter.unusedVariables false

def putBase (p : List Int) (s : Share) : List Int := p.set s.o.toNat s.a
def takeAmounts (m : Int) (l : List Share) : Int := l.foldl (fun x s => x - s.a) m
set_option maxHeartbeats 4000000 in
theorem sorted_all (b0 b1 b2 b3 r0 r1 r2 r3 m : Int) :
    (sortS [⟨0, b0, r0⟩, ⟨1, b1, r1⟩, ⟨2, b2, r2⟩, ⟨3, b3, r3⟩]).foldl putBase [0, 0, 0, 0] = [b0, b1, b2, b3] ∧
    takeAmounts m (sortS [⟨0, b0, r0⟩, ⟨1, b1, r1⟩, ⟨2, b2, r2⟩, ⟨3, b3, r3⟩]) = m - b0 - b1 - b2 - b3 ∧
    ∀ s ∈ sortS [⟨0, b0, r0⟩, ⟨1, b1, r1⟩, ⟨2, b2, r2⟩, ⟨3, b3, r3⟩], (s.o = 0 ∧ s.a = b0) ∨ (s.o = 1 ∧ s.a = b1) ∨ (s.o = 2 ∧ s.a = b2) ∨ (s.o = 3 ∧ s.a = b3) := by
  by_cases c01 : r0 < r1 <;> by_cases c02 : r0 < r2 <;> by_cases c03 : r0 < r3 <;> by_cases c12 : r1 < r2 <;> by_cases c13 : r1 < r3 <;> by_cases c23 : r2 < r3 <;> first | (exfalso; omega) | skip
  all_goals
    simp only [sortS, insR, List.foldl_cons, List.foldl_nil, takeAmounts, putBase, c01, c02, c03, c12, c13, c23, if_true, if_false, List.reverse_cons, List.reverse_nil, List.nil_append, List.cons_append, List.set_cons_zero, List.set_cons_succ]
    refine ⟨by simp, by first | rfl | omega | (dsimp only; done) | (dsimp only; omega), ?_⟩
    intro s hs
    simp only [List.mem_cons, List.not_mem_nil, or_false] at hs
    rcases hs with rfl | rfl | rfl | rfl <;> simp
theorem sorted_of {xs : List Leg} {m : Int} (h : Shared xs m) :
    (sortS (sharesOf xs m)).foldl putBase [0, 0, 0, 0] = bases xs m ∧ takeAmounts m (sortS (sharesOf xs m)) = leftOf xs m ∧ (sortS (sharesOf xs m)).length = 4 ∧
    ∀ s ∈ sortS (sharesOf xs m), 0 ≤ s.o ∧ s.o ≤ 3 ∧ 0 ≤ s.a ∧ s.a ≤ 100000 := by
  obtain ⟨h1, h2, h3⟩ := sorted_all (base xs m 0) (base xs m 1) (base xs m 2) (base xs m 3) (rest xs m 0) (rest xs m 1) (rest xs m 2) (rest xs m 3) m
  refine ⟨h1, h2, by rw [sortS_length]; rfl, fun s hs => ?_⟩
  have b0 := h.base 0
  have b1 := h.base 1
  have b2 := h.base 2
  have b3 := h.base 3
  rcases h3 s hs with ⟨e1, e2⟩ | ⟨e1, e2⟩ | ⟨e1, e2⟩ | ⟨e1, e2⟩ <;> rw [e1, e2] <;> omega
theorem fold_take {α β : Type} (f : β → α → β) (b : β) {l : List α} {k : Nat} {x : α} (h : l[k]? = some x) : (l.take (k + 1)).foldl f b = f ((l.take k).foldl f b) x := by
  rw [List.take_add_one, h, List.foldl_append]; rfl
theorem fold_len (f : List Int → Share → List Int) (hf : ∀ p s, (f p s).length = p.length) : ∀ (l : List Share) (p : List Int), (l.foldl f p).length = p.length
  | [], p => rfl
  | s :: l, p => by rw [List.foldl_cons, fold_len f hf l, hf]
theorem putBase_len (p : List Int) (s : Share) : (putBase p s).length = p.length := List.length_set
theorem bump_len (p : List Int) (s : Share) : (bump p s).length = p.length := List.length_set
theorem take_amounts {l : List Share} (h : ∀ s ∈ l, 0 ≤ s.a ∧ s.a ≤ 100000) (m : Int) : ∀ k : Nat, k ≤ l.length → m - 100000 * (k : Int) ≤ takeAmounts m (l.take k) ∧ takeAmounts m (l.take k) ≤ m
  | 0, _ => by simp [takeAmounts]
  | k + 1, hk => by
    have hx : l[k]? = some (l[k]'(by omega)) := List.getElem?_eq_getElem (by omega)
    have h1 := take_amounts h m k (by omega)
    have h2 := h _ (List.mem_of_getElem? hx)
    have e : takeAmounts m (l.take (k + 1)) = takeAmounts m (l.take k) - (l[k]'(by omega)).a := fold_take _ _ hx
    rw [e]
    push_cast
    omega
theorem take_next_amount {l : List Share} {k : Nat} {s : Share} (h : l[k]? = some s) (m : Int) : takeAmounts m (l.take (k + 1)) = takeAmounts m (l.take k) - s.a := fold_take _ _ h
/-- what bumping leaves in bounds -/
theorem bump_in : ∀ (l : List Share) (p : List Int) (c : Int), (∀ v ∈ p, 0 ≤ v ∧ v ≤ c) → 0 ≤ c → ∀ v ∈ l.foldl bump p, 0 ≤ v ∧ v ≤ c + (l.length : Int)
  | [], p, c, h, _, v, hv => by have := h v hv; simp; omega
  | s :: l, p, c, h, hc, v, hv => by
    have hb : ∀ u ∈ bump p s, 0 ≤ u ∧ u ≤ c + 1 := fun u hu => by
      rcases List.mem_or_eq_of_mem_set hu with h1 | h1
      · have := h u h1; omega
      · have hval : 0 ≤ val p s.o ∧ val p s.o ≤ c := by
          unfold val
          rw [List.getD_eq_getElem?_getD]
          cases hg : p[s.o.toNat]? with
          | none => simp; omega
          | some u => simp; exact h u (List.mem_of_getElem? hg)
        omega
    have := bump_in l (bump p s) (c + 1) hb (by omega) v hv
    simp only [List.length_cons]
    push_cast
    omega
theorem val_of {p : List Int} {d : Nat} {v : Int} (h : p[d]? = some v) : val p (d : Int) = v := by
  unfold val
  rw [List.getD_eq_getElem?_getD]
  simp [h]
theorem bump_at {p : List Int} {d : Nat} {v : Int} {s : Share} (h : p[d]? = some v) (ho : s.o = d) : bump p s = p.set d (v + 1) := by
  unfold bump
  rw [ho, val_of h]
  rfl
/-! the model's loop -/
theorem pick_next : ∀ (n : Nat) (p : List Int × List Int), pick (n + 1) p = pickOne (pick n p)
  | 0, p => rfl
  | n + 1, p => pick_next n (pickOne p)
theorem pickOne_len (p : List Int × List Int) : (pickOne p).1.length = p.1.length ∧ (pickOne p).2.length = p.2.length := ⟨List.length_set, List.length_set⟩
theorem pick_len (n : Nat) (p : List Int × List Int) : (pick n p).1.length = p.1.length ∧ (pick n p).2.length = p.2.length := by
  induction n with
  | zero => exact ⟨rfl, rfl⟩
  | succ n ih => rw [pick_next]; exact ⟨(pickOne_len _).1.trans ih.1, (pickOne_len _).2.trans ih.2⟩
theorem maxAt_le (rs : List Int) : ∀ k, maxAt rs k ≤ k
  | 0 => Nat.le_refl _
  | k + 1 => by
    unfold maxAt
    split
    · exact Nat.le_refl _
    · have := maxAt_le rs k; omega
theorem maxAt_yes {rs : List Int} {k : Nat} {a b : Int} (ha : rs[maxAt rs k]? = some a) (hb : rs[k + 1]? = some b) (h : a < b) : maxAt rs (k + 1) = k + 1 := by
  unfold maxAt
  rw [List.getD_eq_getElem?_getD, List.getD_eq_getElem?_getD, ha, hb]
  exact if_pos h
theorem maxAt_no {rs : List Int} {k : Nat} {a b : Int} (ha : rs[maxAt rs k]? = some a) (hb : rs[k + 1]? = some b) (h : ¬ a < b) : maxAt rs (k + 1) = maxAt rs k := by
  conv => lhs; unfold maxAt
  rw [List.getD_eq_getElem?_getD, List.getD_eq_getElem?_getD, ha, hb]
  exact if_neg h
theorem pick_in : ∀ (n : Nat) (p : List Int × List Int) (c : Int), (∀ v ∈ p.1, 0 ≤ v ∧ v ≤ c) → 0 ≤ c → (∀ v ∈ p.2, -1 ≤ v ∧ v ≤ 4000) → (∀ v ∈ (pick n p).1, 0 ≤ v ∧ v ≤ c + (n : Int)) ∧ ∀ v ∈ (pick n p).2, -1 ≤ v ∧ v ≤ 4000
  | 0, p, c, h, _, hr => ⟨fun v hv => by have := h v hv; simp; omega, hr⟩
  | n + 1, p, c, h, hc, hr => by
    have h1 : ∀ v ∈ (pickOne p).1, 0 ≤ v ∧ v ≤ c + 1 := fun v hv => by
      rcases List.mem_or_eq_of_mem_set hv with e | e
      · have := h v e; omega
      · have hval : 0 ≤ p.1.getD (maxAt p.2 3) 0 ∧ p.1.getD (maxAt p.2 3) 0 ≤ c := by
          rw [List.getD_eq_getElem?_getD]
          cases hg : p.1[maxAt p.2 3]? with
          | none => simp; omega
          | some u => simp; exact h u (List.mem_of_getElem? hg)
        omega
    have h2 : ∀ v ∈ (pickOne p).2, -1 ≤ v ∧ v ≤ 4000 := fun v hv => by
      rcases List.mem_or_eq_of_mem_set hv with e | e
      · exact hr v e
      · omega
    have := pick_in n (pickOne p) (c + 1) h1 (by omega) h2
    refine ⟨fun v hv => ?_, this.2⟩
    have := this.1 v hv
    push_cast
    omega
def lens (xs : List Leg) : List Int := [legSum 0 xs, legSum 1 xs, legSum 2 xs, legSum 3 xs]
theorem lens_next {xs : List Leg} {k : Nat} {g : Leg} {d : Nat} (h : xs[k]? = some g) (hd : g.o = d) (h3 : d ≤ 3) : ∃ v, (lens (xs.take k))[d]? = some v ∧ v = legSum d (xs.take k) ∧ lens (xs.take (k + 1)) = (lens (xs.take k)).set d (v + g.l) := by
  refine ⟨legSum d (xs.take k), ?_, rfl, ?_⟩
  · match d, h3 with
    | 0, _ | 1, _ | 2, _ | 3, _ => rfl
  · have hn : ∀ i : Int, legSum i (xs.take (k + 1)) = legSum i (xs.take k) + if g.o = i then g.l else 0 := fun i => legSum_next h i
    unfold lens
    rw [hn 0, hn 1, hn 2, hn 3, hd]
    match d, h3 with
    | 0, _ | 1, _ | 2, _ | 3, _ => simp
theorem lens_sum {xs : List Leg} (h : ∀ g ∈ xs, 0 ≤ g.o ∧ g.o ≤ 3) : sumI (lens xs) = legAll xs := by
  rw [legAll_parts h]
  simp [lens, sumI]
  omega
end Go.Proofs.Ytgecgjndbaeahaa.Fares
