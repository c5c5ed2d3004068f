/-
  Facts of chapter 4's laws on journeys.
-/
import Derived.Test.YtllhjgheffemnaaJoursFact
import Derived.Test.YtllhjgheffemnaaTapLaw
import Derived.Test.YtllhjgheffemnaaJourMath
set_option linter.unusedSimpArgs false
namespace Go.Proofs.Ytllhjgheffemnaa.Fares
set_option linter.unusedVariables false

/-- Journeys that are good each, none ahead of the end of the one before. -/
def okFrom (lo : Int) : List Journey → Prop
  | [] => True
  | j :: r => validJourney j = true ∧ lo ≤ j.x ∧ okFrom j.y r
theorem okFrom_at : ∀ (xs : List Journey) (lo : Int) (k : Nat) (j : Journey), okFrom lo xs → xs[k]? = some j → validJourney j = true ∧ (k = 0 → lo ≤ j.x) ∧ (∀ m, k = m + 1 → freeAt xs k ≤ j.x)
  | [], _, _, _, _, h => by simp at h
  | a :: r, lo, 0, j, ho, h => by
    simp at h; subst h
    exact ⟨ho.1, fun _ => ho.2.1, fun m h => by simp at h⟩
  | a :: r, lo, k + 1, j, ho, h => by
    have h' : r[k]? = some j := by simpa using h
    obtain ⟨h1, h2, h3⟩ := okFrom_at r a.y k j ho.2.2 h'
    refine ⟨h1, fun h => by simp at h, fun m _ => ?_⟩
    cases k with
    | zero => simpa [freeAt] using h2 rfl
    | succ k => simpa [freeAt] using h3 k rfl
theorem valid_okFrom {xs : List Journey} (hl : xs.length ≤ 24) (h : okFrom 0 xs) : validJourneys xs = true := by
  unfold validJourneys
  rw [Bool.and_eq_true, decide_eq_true_eq, List.all_eq_true]
  refine ⟨hl, fun k hk => ?_⟩
  have hk' : k < xs.length := List.mem_range.1 hk
  have hx : xs[k]? = some xs[k] := List.getElem?_eq_getElem hk'
  obtain ⟨h1, h2, h3⟩ := okFrom_at xs 0 k _ h hx
  rw [jourOkAt_of hx, h1, Bool.true_and, decide_eq_true_eq]
  cases k with
  | zero => exact h2 rfl
  | succ m => exact h3 m rfl
abbrev btw (p : Tap × Tap) : Journey := between p.1 p.2
theorem valid_half {a : Tap} (h : validTap a = true) : validJourney (between a a) = true := by
  unfold validTap at h
  rw [decide_eq_true_eq] at h
  unfold validJourney between
  rw [decide_eq_true_eq]
  simp
  omega
theorem valid_ride {a b : Tap} (ha : validTap a = true) (hb : validTap b = true) (hm : a.m ≤ b.m) (hr : isRide a b = true) : validJourney (between a b) = true := by
  unfold validTap at ha hb
  unfold isRide at hr
  simp only [Bool.and_eq_true, Bool.not_eq_true', decide_eq_true_eq] at ha hb hr
  unfold validJourney between
  rw [decide_eq_true_eq]
  simp [hr.1.1, hr.1.2]
  omega
theorem rides_ok : ∀ (n : Nat) (ys : List Tap) (lo : Int), ys.length ≤ n → (∀ t ∈ ys, validTap t = true) → ys.Pairwise (fun a b => a.m ≤ b.m) → (∀ t ∈ ys, lo ≤ t.m) → okFrom lo ((ridesOf ys).map btw)
  | _, [], _, _, _, _, _ => trivial
  | _, [a], lo, _, hv, _, hlo => ⟨valid_half (hv a (by simp)), hlo a (by simp), trivial⟩
  | 0, a :: b :: r, _, h, _, _, _ => by simp at h
  | n + 1, a :: b :: r, lo, h, hv, hp, hlo => by
    have hp' := List.pairwise_cons.1 hp
    have hab := hp'.1 b (by simp)
    unfold ridesOf
    split
    · rename_i hr
      have hp2 := List.pairwise_cons.1 hp'.2
      exact ⟨valid_ride (hv a (by simp)) (hv b (by simp)) hab hr, hlo a (by simp), rides_ok n r b.m (by simp at h; omega) (fun t ht => hv t (by simp [ht])) hp2.2 hp2.1⟩
    · exact ⟨valid_half (hv a (by simp)), hlo a (by simp), rides_ok n (b :: r) a.m (by simp at h ⊢; omega) (fun t ht => hv t (List.mem_cons_of_mem _ ht)) hp'.2 hp'.1⟩
theorem minutes_up {xs : List Tap} (h : xs.Pairwise Before) : xs.Pairwise (fun a b => a.m ≤ b.m) := h.imp (fun {a b} hb => by
  have := hb.1
  unfold earlier at this
  rw [decide_eq_true_eq] at this
  omega)
theorem valid_journeys {ys : List Tap} (h : validTaps ys = true) : validJourneys (journeysOf ys) = true := by
  obtain ⟨h1, h2, h3⟩ := valid_pairs.1 h
  rw [journeysOf_rides]
  refine valid_okFrom ?_ (rides_ok _ ys 0 (Nat.le_refl _) h2 (minutes_up h3) (fun t ht => ?_))
  · rw [List.length_map]; exact Nat.le_trans (ridesOf_length _ _ (Nat.le_refl _)) h1
  · have := h2 t ht
    unfold validTap at this
    rw [decide_eq_true_eq] at this
    omega
theorem valid_card {xs : List Tap} (card : Int) (h : validTaps xs = true) : validTaps (cardTaps xs card) = true := by
  unfold cardTaps
  rw [if_pos h]
  exact valid_sub h List.filter_sublist
theorem cardTaps_pos {xs : List Tap} (card : Int) (h : validTaps xs = true) : cardTaps xs card = xs.filter (fun t => decide (t.c = card)) := by unfold cardTaps; rw [if_pos h]
theorem cardTaps_twice (xs : List Tap) (card : Int) : cardTaps (cardTaps xs card) card = cardTaps xs card := by
  by_cases h : validTaps xs = true
  · have h2 := valid_card card h
    rw [cardTaps_pos card h2, cardTaps_pos card h, List.filter_filter]
    simp
  · have e : cardTaps xs card = [] := by unfold cardTaps; rw [if_neg h]
    rw [e]
    unfold cardTaps
    split <;> rfl
/-- How many taps the journeys tell of. -/
def tapCount : List Journey → Int
  | [] => 0
  | j :: r => (if j.f then 2 else 1) + tapCount r
theorem tapCount_append (xs ys : List Journey) : tapCount (xs ++ ys) = tapCount xs + tapCount ys := by
  induction xs with
  | nil => simp [tapCount]
  | cons j r ih => simp [tapCount, ih]; omega
theorem tapCount_next {xs : List Journey} {k : Nat} {j : Journey} (h : xs[k]? = some j) : tapCount (xs.take (k + 1)) = tapCount (xs.take k) + (if j.f then 2 else 1) := by
  rw [List.take_add_one, h, tapCount_append]; simp [tapCount]
theorem tapCount_in (xs : List Journey) : ∀ k : Nat, k ≤ xs.length → 0 ≤ tapCount (xs.take k) ∧ tapCount (xs.take k) ≤ 2 * (k : Int)
  | 0, _ => by simp [tapCount]
  | k + 1, h => by
    have hx : xs[k]? = some xs[k] := List.getElem?_eq_getElem (by omega)
    have ih := tapCount_in xs k (by omega)
    rw [tapCount_next hx]
    split <;> (push_cast; omega)
theorem tapCount_rides : ∀ (n : Nat) (ys : List Tap), ys.length ≤ n → tapCount ((ridesOf ys).map btw) = ys.length
  | _, [], _ => rfl
  | _, [a], _ => by simp [ridesOf, tapCount, between]
  | 0, a :: b :: r, h => by simp at h
  | n + 1, a :: b :: r, h => by
    unfold ridesOf
    split
    · rename_i hr
      have ih := tapCount_rides n r (by simp at h; omega)
      unfold isRide at hr
      simp only [Bool.and_eq_true, Bool.not_eq_true', decide_eq_true_eq] at hr
      simp only [List.map_cons, tapCount, ih]
      simp [between, hr.1.1, hr.1.2]
      omega
    · have ih := tapCount_rides n (b :: r) (by simp at h ⊢; omega)
      simp only [List.map_cons, tapCount, ih]
      simp [between]
      omega
theorem tapCount_all (ys : List Tap) : tapCount (journeysOf ys) = ys.length := by
  rw [journeysOf_rides]
  exact tapCount_rides _ _ (Nat.le_refl _)
/-- Whole journeys are two taps' of the card. -/
theorem ride_taps : ∀ (n : Nat) (ys : List Tap), ys.length ≤ n → ∀ p ∈ ridesOf ys, p.1 ∈ ys ∧ p.2 ∈ ys ∧ ((btw p).f = true → p.1.o = false ∧ p.2.o = true)
  | _, [], _, p, hp => by simp [ridesOf] at hp
  | _, [a], _, p, hp => by simp [ridesOf] at hp; subst hp; exact ⟨by simp, by simp, fun h => by simp [between] at h⟩
  | 0, a :: b :: r, h, _, _ => by simp at h
  | n + 1, a :: b :: r, h, p, hp => by
    unfold ridesOf at hp
    split at hp
    · rename_i hr
      rcases List.mem_cons.1 hp with rfl | hp
      · unfold isRide at hr
        simp only [Bool.and_eq_true, Bool.not_eq_true', decide_eq_true_eq] at hr
        exact ⟨by simp, by simp, fun _ => ⟨hr.1.1, hr.1.2⟩⟩
      · obtain ⟨h1, h2, h3⟩ := ride_taps n r (by simp at h; omega) p hp
        exact ⟨by simp [h1], by simp [h2], h3⟩
    · rcases List.mem_cons.1 hp with rfl | hp
      · exact ⟨by simp, by simp, fun h => by simp [between] at h⟩
      · obtain ⟨h1, h2, h3⟩ := ride_taps n (b :: r) (by simp at h ⊢; omega) p hp
        exact ⟨List.mem_cons_of_mem _ h1, List.mem_cons_of_mem _ h2, h3⟩
def begins (card : Int) (j : Journey) (t : Tap) : Bool := decide (t.c = card) && !t.o && decide (t.m = j.x) && decide (t.s = j.a)
def endsAt (card : Int) (j : Journey) (t : Tap) : Bool := decide (t.c = card) && t.o && decide (t.m = j.y) && decide (t.s = j.b)
theorem journey_taps {xs : List Tap} {card : Int} {j : Journey} (h : j ∈ journeysOf (cardTaps xs card)) : (!j.f || xs.any (begins card j)) = true ∧ (!j.f || xs.any (endsAt card j)) = true := by
  rw [journeysOf_rides] at h
  obtain ⟨p, hp, rfl⟩ := List.mem_map.1 h
  obtain ⟨h1, h2, h3⟩ := ride_taps _ _ (Nat.le_refl _) p hp
  have hin : ∀ t ∈ cardTaps xs card, t ∈ xs ∧ t.c = card := fun t ht => by
    unfold cardTaps at ht
    split at ht
    · have := List.mem_filter.1 ht
      exact ⟨this.1, by simpa using this.2⟩
    · simp at ht
  cases hf : (between p.1 p.2).f
  · simp
  · obtain ⟨o1, o2⟩ := h3 hf
    obtain ⟨m1, c1⟩ := hin _ h1
    obtain ⟨m2, c2⟩ := hin _ h2
    simp only [Bool.not_true, Bool.false_or, List.any_eq_true]
    exact ⟨⟨p.1, m1, by simp [begins, between, c1, o1]⟩, ⟨p.2, m2, by simp [endsAt, between, c2, o2]⟩⟩
/-- Every tap turned into one on the way out. -/
def outTap (t : Tap) : Tap := ⟨t.v, t.n, t.c, t.m, t.s, true⟩
theorem out_valid {xs : List Tap} (h : validTaps xs = true) : validTaps (xs.map outTap) = true := by
  obtain ⟨h1, h2, h3⟩ := valid_pairs.1 h
  refine valid_pairs.2 ⟨by rwa [List.length_map], fun t ht => ?_, ?_⟩
  · obtain ⟨u, hu, rfl⟩ := List.mem_map.1 ht
    exact h2 u hu
  · rw [List.pairwise_map]
    exact h3
theorem out_card {xs : List Tap} (card : Int) (h : validTaps xs = true) : cardTaps (xs.map outTap) card = (cardTaps xs card).map outTap := by
  unfold cardTaps
  rw [if_pos h, if_pos (out_valid h), List.filter_map]
  rfl
theorem rides_out : ∀ (n : Nat) (ys : List Tap), ys.length ≤ n → ridesOf (ys.map outTap) = (ys.map outTap).map (fun a => (a, a))
  | _, [], _ => rfl
  | _, [a], _ => rfl
  | 0, a :: b :: r, h => by simp at h
  | n + 1, a :: b :: r, h => by
    have ih := rides_out n (b :: r) (by simp at h ⊢; omega)
    simp only [List.map_cons] at ih ⊢
    rw [ridesOf]
    simp [isRide, outTap] at ih ⊢
    exact ih
theorem halfSum_out (ys : List Tap) : halfSum (ys.map (fun a => between a a)) = ys.length := by
  induction ys with
  | nil => rfl
  | cons a r ih => simp only [List.map_cons, halfSum, ih]; simp [between]; omega
theorem out_halves {xs : List Tap} (card : Int) (h : validTaps xs = true) : ∃ hs, journeysOf (cardTaps (xs.map outTap) card) = hs ∧ hs.length = (cardTaps xs card).length ∧ halfCount hs = hs.length := by
  have hv := valid_journeys (valid_card card (out_valid h))
  have e : journeysOf (cardTaps (xs.map outTap) card) = ((cardTaps xs card).map outTap).map (fun a => between a a) := by
    rw [out_card card h, journeysOf_rides, rides_out _ _ (Nat.le_refl _), List.map_map]
    rfl
  refine ⟨_, rfl, by rw [e]; simp, ?_⟩
  unfold halfCount
  rw [if_pos hv, e, halfSum_out]
  simp
end Go.Proofs.Ytllhjgheffemnaa.Fares
