/-
  Chapter 4: journeys as pairs of taps that follow each other; the same as tap by tap.
-/
import Derived.Test.YtllhjgheffemnaaMakeMath
set_option linter.unusedSimpArgs false
set_option linter.unusedVariables false
namespace Go.Proofs.Ytllhjgheffemnaa.Fares
def isRide (a b : Tap) : Bool := !a.o && b.o && decide (b.m - a.m ≤ 180)
def between (a b : Tap) : Journey := ⟨a.s, b.s, a.m, b.m, a.o != b.o⟩
def ridesOf : List Tap → List (Tap × Tap)
  | [] => []
  | [a] => [(a, a)]
  | a :: b :: r => if isRide a b then (a, b) :: ridesOf r else (a, a) :: ridesOf (b :: r)
/-- Tap by tap, with the tap that is open. -/
def jList : Option Tap → List Tap → List Journey
  | none, [] => []
  | some a, [] => [halfOf a]
  | o, t :: r =>
    if t.o then
      match o with
      | some a => if t.m - a.m ≤ 180 then ⟨a.s, t.s, a.m, t.m, true⟩ :: jList none r else halfOf a :: halfOf t :: jList none r
      | none => halfOf t :: jList none r
    else
      match o with
      | some a => halfOf a :: jList (some t) r
      | none => jList (some t) r
theorem jRun_list (xs : List Tap) : ∀ k, k ≤ xs.length → (jRun xs k).1 ++ jList ((jRun xs k).2.bind fun j => xs[j]?) (xs.drop k) = jList none xs
  | 0, _ => by simp [jRun]
  | k + 1, h => by
    have hx : xs[k]? = some xs[k] := List.getElem?_eq_getElem (by omega)
    have ih := jRun_list xs k (by omega)
    obtain ⟨hf, _⟩ := jRun_fits xs k (by omega)
    have hd : xs.drop k = xs[k] :: xs.drop (k + 1) := List.drop_eq_getElem_cons (by omega)
    rw [← ih, jRun_succ hx, hd]
    clear ih hd
    generalize hs : jRun xs k = s at hf
    obtain ⟨out, o⟩ := s
    generalize ht : xs[k] = t at hx
    cases o with
    | none =>
      cases hto : t.o
      · simp [jStep, jList, hto, hx]
      · simp [jStep, jList, hto]
    | some j =>
      have hxj : xs[j]? = some (xs[j]'(by have := hf j rfl; omega)) := List.getElem?_eq_getElem (by have := hf j rfl; omega)
      generalize xs[j]'(by have := hf j rfl; omega) = a at hxj
      cases hto : t.o
      · simp [jStep, jList, hto, hx, hxj]
      · by_cases hm : t.m - a.m ≤ 180
        · simp [jStep, jList, hto, hxj, hm]
        · simp [jStep, jList, hto, hxj, hm]
theorem journeysOf_list (xs : List Tap) : journeysOf xs = jList none xs := by
  have h := jRun_list xs xs.length (Nat.le_refl _)
  obtain ⟨hf, _⟩ := jRun_fits xs xs.length (Nat.le_refl _)
  rw [List.drop_length] at h
  rw [← h]
  unfold journeysOf
  generalize jRun xs xs.length = s at hf
  obtain ⟨out, o⟩ := s
  cases o with
  | none => simp [jList]
  | some j =>
    have hxj : xs[j]? = some (xs[j]'(hf j rfl)) := List.getElem?_eq_getElem (hf j rfl)
    simp [hxj, jList]
theorem between_self (a : Tap) : between a a = halfOf a := by simp [between, halfOf]
theorem jList_rides : ∀ (n : Nat) (xs : List Tap), xs.length ≤ n → jList none xs = (ridesOf xs).map (fun p => between p.1 p.2) ∧ ∀ a : Tap, a.o = false → jList (some a) xs = (ridesOf (a :: xs)).map (fun p => between p.1 p.2)
  | _, [], _ => ⟨rfl, fun a ha => by simp [jList, ridesOf, between_self]⟩
  | 0, _ :: _, h => by simp at h
  | n + 1, t :: r, h => by
    have hl : r.length ≤ n := by simpa using h
    obtain ⟨ih1, ih2⟩ := jList_rides n r hl
    have h1 : jList none (t :: r) = (ridesOf (t :: r)).map (fun p => between p.1 p.2) := by
      cases hto : t.o
      · rw [← ih2 t hto]; simp [jList, hto]
      · have hr : ridesOf (t :: r) = (t, t) :: ridesOf r := by
          cases r with
          | nil => rfl
          | cons b r' => simp [ridesOf, isRide, hto]
        rw [hr, List.map_cons, between_self, ← ih1]
        simp [jList, hto]
    refine ⟨h1, fun a ha => ?_⟩
    cases hto : t.o
    · have hr : ridesOf (a :: t :: r) = (a, a) :: ridesOf (t :: r) := by simp [ridesOf, isRide, hto]
      rw [hr, List.map_cons, between_self, ← ih2 t hto]
      simp [jList, hto]
    · by_cases hm : t.m - a.m ≤ 180
      · have hr : ridesOf (a :: t :: r) = (a, t) :: ridesOf r := by simp [ridesOf, isRide, hto, ha, hm]
        rw [hr, List.map_cons, ← ih1]
        simp [jList, hto, hm, between, ha]
      · have hr : ridesOf (a :: t :: r) = (a, a) :: ridesOf (t :: r) := by simp [ridesOf, isRide, hto, ha, hm]
        rw [hr, List.map_cons, between_self, ← h1]
        simp [jList, hto, hm]
theorem journeysOf_rides (xs : List Tap) : journeysOf xs = (ridesOf xs).map (fun p => between p.1 p.2) := by
  rw [journeysOf_list]
  exact (jList_rides xs.length xs (Nat.le_refl _)).1
end Go.Proofs.Ytllhjgheffemnaa.Fares
