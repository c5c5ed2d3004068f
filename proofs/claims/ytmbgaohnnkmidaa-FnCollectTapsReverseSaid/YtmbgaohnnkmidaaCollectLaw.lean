/-
  Chapter 3: taps added and collected; plain facts of the laws.
-/
import Derived.Test.YtmbgaohnnkmidaaTapLaw
import Derived.Test.YtmbgaohnnkmidaaCollectMath
set_option linter.unusedSimpArgs false
set_option linter.unusedVariables false
namespace Go.Proofs.Ytmbgaohnnkmidaa.Fares
theorem same_comm (a b : Tap) : sameTap a b = sameTap b a := by
  unfold sameTap
  rw [Bool.eq_iff_iff]
  simp only [decide_eq_true_eq]
  constructor <;> (rintro ⟨h, k⟩; exact ⟨h.symm, k.symm⟩)
theorem same_refl (a : Tap) : sameTap a a = true := same_iff.2 ⟨rfl, rfl⟩
theorem same_trans {a b c : Tap} (h : sameTap a b = true) (k : sameTap b c = true) : sameTap a c = true := by
  rw [same_iff] at *; exact ⟨h.1.trans k.1, h.2.trans k.2⟩
theorem later_of' {x t : Tap} (h1 : earlier x t = false) (h2 : sameTap x t = false) : earlier t x = true := by
  unfold earlier sameTap at *
  simp only [decide_eq_true_eq, decide_eq_false_iff_not] at *
  omega
theorem mem_insert_iff {xs : List Tap} {t : Tap} (hk : known xs t = false) (o : Tap) : o ∈ insertTap xs t ↔ o ∈ xs ∨ o = t := by
  constructor
  · exact mem_insertTap
  · intro h
    unfold insertTap
    rw [List.mem_append, List.mem_append, List.mem_filter, List.mem_filter]
    rcases h with h | h
    · cases he : earlier o t
      · exact .inr ⟨h, later_of' he (known_false.1 hk o h)⟩
      · exact .inl (.inl ⟨h, rfl⟩)
    · subst h; exact .inl (.inr (by simp))
theorem before_mem {xs : List Tap} (hp : xs.Pairwise Before) {a b : Tap} (ha : a ∈ xs) (hb : b ∈ xs) (he : earlier a b = true) : sameTap a b = false := by
  obtain ⟨i, hi, rfl⟩ := List.mem_iff_getElem.1 ha
  obtain ⟨j, hj, rfl⟩ := List.mem_iff_getElem.1 hb
  rcases Nat.lt_trichotomy i j with h | h | h
  · exact (List.pairwise_iff_getElem.1 hp i j hi hj h).2
  · subst h; rw [earlier_irrefl] at he; cases he
  · have := (List.pairwise_iff_getElem.1 hp j i hj hi h).1
    rw [earlier_apart _ _ this] at he; cases he
theorem valid_insert {xs : List Tap} {t : Tap} (hv : validTaps xs = true) (ht : validTap t = true) (hk : known xs t = false) (hl : xs.length ≠ 24) : validTaps (insertTap xs t) = true := by
  obtain ⟨h1, h2, h3⟩ := valid_pairs.1 hv
  refine valid_pairs.2 ⟨by have := insertTap_length xs t; omega, fun o ho => ?_, ?_⟩
  · rcases mem_insertTap ho with h | h
    · exact h2 o h
    · subst h; exact ht
  · unfold insertTap
    rw [List.append_assoc, List.pairwise_append]
    refine ⟨h3.filter _, ?_, ?_⟩
    · rw [List.singleton_append, List.pairwise_cons]
      refine ⟨fun o ho => ?_, h3.filter _⟩
      rw [List.mem_filter] at ho
      exact ⟨ho.2, by rw [same_comm]; exact known_false.1 hk o ho.1⟩
    · intro a ha b hb
      rw [List.mem_filter] at ha
      rw [List.singleton_append, List.mem_cons, List.mem_filter] at hb
      rcases hb with rfl | hb
      · exact ⟨ha.2, known_false.1 hk a ha.1⟩
      · have he := earlier_trans ha.2 hb.2
        exact ⟨he, before_mem h3 ha.1 hb.1 he⟩
theorem eq_of_mem : ∀ (xs ys : List Tap), xs.Pairwise Before → ys.Pairwise Before → (∀ o, o ∈ xs ↔ o ∈ ys) → xs = ys
  | [], [], _, _, _ => rfl
  | [], y :: ys, _, _, h => by have := (h y).2 (by simp); simp at this
  | x :: xs, [], _, _, h => by have := (h x).1 (by simp); simp at this
  | x :: xs, y :: ys, hx, hy, h => by
    rw [List.pairwise_cons] at hx hy
    have exy : x = y := by
      have h1 := (h x).1 (by simp)
      have h2 := (h y).2 (by simp)
      rw [List.mem_cons] at h1 h2
      rcases h1 with h1 | h1
      · exact h1
      · rcases h2 with h2 | h2
        · exact h2.symm
        · have := earlier_apart _ _ (hy.1 x h1).1
          rw [(hx.1 y h2).1] at this; cases this
    subst exy
    rw [eq_of_mem xs ys hx.2 hy.2 (fun o => ?_)]
    constructor
    · intro ho
      have := (h o).1 (List.mem_cons_of_mem _ ho)
      rw [List.mem_cons] at this
      rcases this with rfl | this
      · have := (hx.1 o ho).1; rw [earlier_irrefl] at this; cases this
      · exact this
    · intro ho
      have := (h o).2 (List.mem_cons_of_mem _ ho)
      rw [List.mem_cons] at this
      rcases this with rfl | this
      · have := (hy.1 o ho).1; rw [earlier_irrefl] at this; cases this
      · exact this
theorem add_known {xs : List Tap} {t : Tap} (hv : validTaps xs = true) (ht : validTap t = true) (hk : known xs t = true) : addTap xs t = (xs, true) := by
  unfold addTap; rw [hv, ht, hk]; rfl
theorem add_new {xs : List Tap} {t : Tap} (hv : validTaps xs = true) (ht : validTap t = true) (hk : known xs t = false) (hl : xs.length ≠ 24) : addTap xs t = (insertTap xs t, true) := by
  unfold addTap; rw [hv, ht, hk, if_neg hl]; rfl
theorem add_ok {xs : List Tap} {t : Tap} (h : (addTap xs t).2 = true) : validTaps xs = true ∧ validTap t = true ∧ ((known xs t = true ∧ (addTap xs t).1 = xs) ∨ (known xs t = false ∧ xs.length ≠ 24 ∧ (addTap xs t).1 = insertTap xs t)) := by
  cases hv : validTaps xs
  · unfold addTap at h; rw [hv] at h; simp at h
  · cases ht : validTap t
    · unfold addTap at h; rw [ht] at h; simp at h
    · refine ⟨rfl, rfl, ?_⟩
      cases hk : known xs t
      · by_cases hl : xs.length = 24
        · unfold addTap at h; rw [hv, ht, hk, if_pos hl] at h; simp at h
        · exact .inr ⟨rfl, hl, by rw [add_new hv ht hk hl]⟩
      · exact .inl ⟨rfl, by rw [add_known hv ht hk]⟩
theorem known_insert {xs : List Tap} {t : Tap} (hk : known xs t = false) (o : Tap) : known (insertTap xs t) o = (known xs o || sameTap t o) := by
  rw [Bool.eq_iff_iff, Bool.or_eq_true, known_true, known_true]
  constructor
  · rintro ⟨a, ha, hs⟩
    rcases (mem_insert_iff hk a).1 ha with h | h
    · exact .inl ⟨a, h, hs⟩
    · subst h; exact .inr hs
  · rintro (⟨a, ha, hs⟩ | hs)
    · exact ⟨a, (mem_insert_iff hk a).2 (.inl ha), hs⟩
    · exact ⟨t, (mem_insert_iff hk t).2 (.inr rfl), hs⟩
theorem filter_cover {T : Type} (p q : T → Bool) : ∀ xs : List T, (∀ x ∈ xs, p x = true ∨ q x = true) → xs.length ≤ (xs.filter p).length + (xs.filter q).length
  | [], _ => by simp
  | x :: xs, h => by
    have ih := filter_cover p q xs (fun y hy => h y (List.mem_cons_of_mem _ hy))
    have hx := h x (by simp)
    rw [List.filter_cons, List.filter_cons]
    cases hp : p x <;> cases hq : q x <;> simp only [hp, hq, if_true, List.length_cons, Bool.false_eq_true, if_false] at hx ⊢ <;> first | omega | simp at hx
theorem insertTap_ge {xs : List Tap} {t : Tap} (hk : known xs t = false) : xs.length + 1 ≤ (insertTap xs t).length := by
  have := filter_cover (fun o => earlier o t) (fun o => earlier t o) xs (fun x hx => by
    cases he : earlier x t
    · exact .inr (later_of' he (known_false.1 hk x hx))
    · exact .inl rfl)
  unfold insertTap
  simp only [List.length_append, List.length_cons, List.length_nil]
  omega
def sames (xs : List Tap) (t : Tap) : Nat := (xs.filter fun o => sameTap o t).length
theorem sames_next {xs : List Tap} {k : Nat} {x : Tap} (h : xs[k]? = some x) (t : Tap) : sames (xs.take (k + 1)) t = sames (xs.take k) t + (if sameTap x t then 1 else 0) := by
  unfold sames
  rw [filterT_next h, List.length_append]
  split <;> simp
theorem sames_le (xs : List Tap) (k : Nat) (t : Tap) : sames (xs.take k) t ≤ k := filterT_length_le xs k _
theorem sames_one (t : Tap) : ∀ xs : List Tap, xs.Pairwise Before → sames xs t = if known xs t then 1 else 0
  | [], _ => rfl
  | x :: xs, h => by
    rw [List.pairwise_cons] at h
    have ih := sames_one t xs h.2
    unfold sames at ih ⊢
    rw [List.filter_cons]
    have hkn : known (x :: xs) t = (sameTap x t || known xs t) := rfl
    rw [hkn]
    cases hs : sameTap x t
    · rw [if_neg (by simp), Bool.false_or]; exact ih
    · have h0 : known xs t = false := known_false.2 (fun o ho => by
        have h1 := (h.1 o ho).2
        cases hs2 : sameTap o t
        · rfl
        · have h3 : sameTap x o = true := same_trans hs (by rw [same_comm]; exact hs2)
          rw [h1] at h3; cases h3)
      rw [h0] at ih
      rw [if_pos rfl, List.length_cons]
      have : (List.filter (fun o => sameTap o t) xs).length = 0 := ih
      rw [this]; rfl
/-- What AddTap gives, where it is right: valid taps, the tap once among them, as many or one more; and it is known there. -/
theorem add_law {xs : List Tap} {t : Tap} (h : (addTap xs t).2 = true) : validTaps (addTap xs t).1 = true ∧ sames (addTap xs t).1 t = 1 ∧ addTap (addTap xs t).1 t = ((addTap xs t).1, true) ∧ xs.length ≤ (addTap xs t).1.length ∧ (addTap xs t).1.length ≤ xs.length + 1 := by
  obtain ⟨hv, ht, hc⟩ := add_ok h
  rcases hc with ⟨hk, e⟩ | ⟨hk, hl, e⟩
  · rw [e]
    exact ⟨hv, by rw [sames_one t xs (valid_pairs.1 hv).2.2, hk]; rfl, add_known hv ht hk, Nat.le_refl _, by omega⟩
  · rw [e]
    have hv2 := valid_insert hv ht hk hl
    have hk2 : known (insertTap xs t) t = true := by rw [known_insert hk, same_refl, Bool.or_true]
    have h1 := insertTap_ge hk
    exact ⟨hv2, by rw [sames_one t _ (valid_pairs.1 hv2).2.2, hk2]; rfl, add_known hv2 ht hk2, by omega, insertTap_length xs t⟩
/-- Two taps that are not the same can be added in either order. -/
theorem add_order {xs : List Tap} {t u : Tap} (h : (addTap xs t).2 = true) (hu : validTap u = true) (hs : sameTap t u = false) (hl : xs.length + 2 ≤ 24) :
    (addTap (addTap xs t).1 u).2 = true ∧ (addTap xs u).2 = true ∧ (addTap (addTap xs u).1 t).2 = true ∧ (addTap (addTap xs t).1 u).1 = (addTap (addTap xs u).1 t).1 := by
  obtain ⟨hv, ht, hc⟩ := add_ok h
  have hs' : sameTap u t = false := by rw [same_comm]; exact hs
  have hl0 : xs.length ≠ 24 := by omega
  rcases hc with ⟨hk, e⟩ | ⟨hk, _, e⟩
  · rw [e]
    cases hku : known xs u
    · rw [add_new hv hu hku hl0]
      have hv2 := valid_insert hv hu hku hl0
      have hk2 : known (insertTap xs u) t = true := by rw [known_insert hku, hk]; rfl
      rw [add_known hv2 ht hk2]
      exact ⟨rfl, rfl, rfl, rfl⟩
    · rw [add_known hv hu hku]
      dsimp only
      rw [add_known hv ht hk]
      exact ⟨rfl, rfl, rfl, rfl⟩
  · rw [e]
    have hv2 := valid_insert hv ht hk hl0
    have hlt : (insertTap xs t).length ≠ 24 := by have := insertTap_length xs t; omega
    cases hku : known xs u
    · have hku2 : known (insertTap xs t) u = false := by rw [known_insert hk, hku, hs]; rfl
      have hv3 := valid_insert hv hu hku hl0
      have hkt2 : known (insertTap xs u) t = false := by rw [known_insert hku, hk, hs']; rfl
      have hlu : (insertTap xs u).length ≠ 24 := by have := insertTap_length xs u; omega
      rw [add_new hv2 hu hku2 hlt, add_new hv hu hku hl0]
      dsimp only
      rw [add_new hv3 ht hkt2 hlu]
      refine ⟨rfl, rfl, rfl, ?_⟩
      refine eq_of_mem _ _ (valid_pairs.1 (valid_insert hv2 hu hku2 hlt)).2.2 (valid_pairs.1 (valid_insert hv3 ht hkt2 hlu)).2.2 (fun o => ?_)
      rw [mem_insert_iff hku2, mem_insert_iff hkt2, mem_insert_iff hk, mem_insert_iff hku]
      constructor
      · rintro ((h | h) | h)
        · exact .inl (.inl h)
        · exact .inr h
        · exact .inl (.inr h)
      · rintro ((h | h) | h)
        · exact .inl (.inl h)
        · exact .inr h
        · exact .inl (.inr h)
    · have hku2 : known (insertTap xs t) u = true := by rw [known_insert hk, hku]; rfl
      rw [add_known hv2 hu hku2, add_known hv hu hku]
      dsimp only
      rw [add_new hv ht hk hl0]
      exact ⟨rfl, rfl, rfl, rfl⟩
theorem put_valid {acc : List Tap} (t : Tap) (h : validTaps acc = true) : validTaps (putTap acc t) = true := by
  unfold putTap
  split
  · rename_i h2; exact (add_law h2).1
  · exact h
theorem fold_valid : ∀ (l acc : List Tap), validTaps acc = true → validTaps (l.foldl putTap acc) = true
  | [], _, h => h
  | t :: l, acc, h => fold_valid l _ (put_valid t h)
theorem put_known {acc : List Tap} {t o : Tap} (h : known acc o = true) : known (putTap acc t) o = true := by
  unfold putTap
  split
  · rename_i h2
    obtain ⟨_, _, hc⟩ := add_ok h2
    rcases hc with ⟨_, e⟩ | ⟨hk, _, e⟩
    · rw [e]; exact h
    · rw [e, known_insert hk, h]; rfl
  · exact h
theorem fold_keeps : ∀ (l acc : List Tap) (o : Tap), known acc o = true → known (l.foldl putTap acc) o = true
  | [], _, _, h => h
  | t :: l, acc, o, h => fold_keeps l _ o (put_known h)
theorem put_same {acc : List Tap} {t : Tap} (hv : validTaps acc = true) (ht : validTap t = true) (hl : acc.length < 24) : known (putTap acc t) t = true := by
  unfold putTap
  cases hk : known acc t
  · rw [add_new hv ht hk (by omega)]
    dsimp only
    rw [if_pos rfl, known_insert hk, same_refl, Bool.or_true]
  · rw [add_known hv ht hk]; exact hk
theorem put_length (acc : List Tap) (t : Tap) : (putTap acc t).length ≤ acc.length + 1 := by
  unfold putTap
  split
  · rename_i h2; exact (add_law h2).2.2.2.2
  · omega
theorem fold_known : ∀ (l acc : List Tap), validTaps acc = true → acc.length + l.length ≤ 24 → ∀ t ∈ l, validTap t = true → known (l.foldl putTap acc) t = true
  | [], _, _, _, t, h, _ => by simp at h
  | x :: l, acc, hv, hl, t, h, ht => by
    rw [List.length_cons] at hl
    have h1 := put_length acc x
    rw [List.mem_cons] at h
    rcases h with rfl | h
    · exact fold_keeps l _ t (put_same hv ht (by omega))
    · exact fold_known l _ (put_valid x hv) (by omega) t h ht
theorem fold_same : ∀ (l acc : List Tap), validTaps acc = true → (∀ t ∈ l, validTap t = true → known acc t = true) → l.foldl putTap acc = acc
  | [], _, _, _ => rfl
  | x :: l, acc, hv, h => by
    have e : putTap acc x = acc := by
      unfold putTap
      cases hx : validTap x
      · have : addTap acc x = ([], false) := by unfold addTap; rw [hx]; simp
        rw [this]; rfl
      · rw [add_known hv hx (h x (by simp) hx)]; rfl
    show l.foldl putTap (putTap acc x) = acc
    rw [e]
    exact fold_same l acc hv (fun t ht => h t (List.mem_cons_of_mem _ ht))
theorem valid_nil : validTaps [] = true := by decide
theorem collect_valid (xs : List Tap) : validTaps (collectTaps xs) = true := by
  unfold collectTaps
  split
  · exact valid_nil
  · exact fold_valid _ _ valid_nil
theorem collect_known {xs : List Tap} (hl : xs.length ≤ 24) {t : Tap} (h : t ∈ xs) (ht : validTap t = true) : known (collectTaps xs) t = true := by
  unfold collectTaps
  rw [if_neg (by omega)]
  exact fold_known xs [] valid_nil (by simpa using hl) t h ht
theorem collect_sames {xs : List Tap} (hl : xs.length ≤ 24) {t : Tap} (h : t ∈ xs) (ht : validTap t = true) : sames (collectTaps xs) t = 1 := by
  rw [sames_one t _ (valid_pairs.1 (collect_valid xs)).2.2, collect_known hl h ht]; rfl
theorem collect_twice {xs : List Tap} (hl : xs.length ≤ 24) : collectTaps (xs ++ xs) = collectTaps xs := by
  have h1 := fun t h ht => collect_known hl (t := t) h ht
  have h2 := collect_valid xs
  unfold collectTaps at h1 h2 ⊢
  rw [if_neg (by omega)] at h1 h2
  rw [if_neg (by rw [List.length_append]; omega), if_neg (by omega), List.foldl_append]
  exact fold_same xs _ h2 h1
theorem insert_front {ys : List Tap} {y : Tap} (h : ∀ o ∈ ys, Before y o) : insertTap ys y = y :: ys := by
  unfold insertTap
  have e1 : ys.filter (fun o => earlier o y) = [] := by
    rw [List.filter_eq_nil_iff]
    intro o ho
    rw [earlier_apart _ _ (h o ho).1]; simp
  have e2 : ys.filter (fun o => earlier y o) = ys := by
    rw [List.filter_eq_self]
    intro o ho
    exact (h o ho).1
  rw [e1, e2]; rfl
theorem fold_rev : ∀ ys : List Tap, validTaps ys = true → ys.reverse.foldl putTap [] = ys
  | [], _ => rfl
  | y :: ys, h => by
    have hs := valid_sub h (List.sublist_cons_self y ys)
    rw [List.reverse_cons, List.foldl_append, fold_rev ys hs]
    obtain ⟨h1, h2, h3⟩ := valid_pairs.1 h
    rw [List.pairwise_cons] at h3
    have hk : known ys y = false := known_false.2 (fun o ho => by rw [same_comm]; exact (h3.1 o ho).2)
    show putTap ys y = y :: ys
    unfold putTap
    rw [add_new hs (h2 y (by simp)) hk (by simp at h1; omega), insert_front h3.1]
    rfl
theorem collect_rev {ys : List Tap} (h : validTaps ys = true) : collectTaps ys.reverse = ys := by
  have hl := (valid_pairs.1 h).1
  unfold collectTaps
  rw [if_neg (by rw [List.length_reverse]; omega)]
  exact fold_rev ys h
theorem collect_rev2 {ys : List Tap} (h : validTaps ys = true) : collectTaps (ys.reverse ++ ys) = ys := by
  have hl := (valid_pairs.1 h).1
  unfold collectTaps
  rw [if_neg (by rw [List.length_append, List.length_reverse]; omega), List.foldl_append, fold_rev ys h]
  exact fold_same ys ys h (fun t ht _ => known_true.2 ⟨t, ht, same_refl t⟩)
end Go.Proofs.Ytmbgaohnnkmidaa.Fares
