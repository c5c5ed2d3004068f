/-
  Facts of chapter 19's laws on amounts.
-/
import Derived.Test.YtnlnlcllnbggdaaAdjMath
import Derived.Test.YtnlnlcllnbggdaaStAdjust
import Derived.Test.YtnlnlcllnbggdaaStInt
import Derived.Test.YtnlnlcllnbggdaaTouch
set_option linter.unusedSimpArgs false
namespace Go.Proofs.Ytnlnlcllnbggdaa
open Go.RowKit Go.Deep
set_option linter.unusedVariables false

theorem nilOk_row {w : World} {base size n : Nat} {t : TypeId} {A : Option Addr} {m c : Nat} {vs : List Value} (h : w.ownsRow base t size (.slice A m c) n vs) : NilOk A m c := by
  rcases h.2 with ⟨e, _⟩ | ⟨g, cap, cur, e, _⟩
  · injection e with e1 e2 e3
    exact fun _ => ⟨e2, e3⟩
  · injection e with e1
    exact fun h => by rw [h] at e1; cases e1
theorem OwnAdjusts.nilOk {w : World} {base : Nat} {A : Option Addr} {n c : Nat} {ys : List Fares.Adjust} (h : OwnAdjusts w base (.slice A n c) ys) : NilOk A n c := nilOk_row h
theorem OwnInts.nilOk {w : World} {base : Nat} {A : Option Addr} {n c : Nat} {ys : List Int} (h : OwnInts w base (.slice A n c) ys) : NilOk A n c := nilOk_row h
theorem Fares.amounts_in {cs : List Fares.Adjust} (h : ∀ c ∈ cs, -100000 ≤ c.a ∧ c.a ≤ 100000) : ∀ k : Nat, k ≤ cs.length → -(100000 * (k : Int)) ≤ Fares.amounts (cs.take k) ∧ Fares.amounts (cs.take k) ≤ 100000 * (k : Int)
  | 0, _ => by simp [Fares.amounts, Fares.sumI]
  | k + 1, hk => by
    have hx : cs[k]? = some (cs[k]'(by omega)) := List.getElem?_eq_getElem (by omega)
    have h1 := Fares.amounts_in h k (by omega)
    have h2 := h _ (List.mem_of_getElem? hx)
    rw [Fares.amounts_next hx]
    push_cast
    omega
theorem Fares.sum_in {xs : List Int} (h : Fares.dueOk xs = true) : 0 ≤ Fares.sumI xs ∧ Fares.sumI xs ≤ 2900000 := by
  obtain ⟨h29, hin⟩ := Fares.dueOk_iff.1 h
  have key : ∀ ys : List Int, (∀ y ∈ ys, 0 ≤ y ∧ y ≤ 100000) → 0 ≤ Fares.sumI ys ∧ Fares.sumI ys ≤ 100000 * (ys.length : Int) := by
    intro ys
    induction ys with
    | nil => intro _; simp [Fares.sumI]
    | cons y ys ih =>
      intro hy
      have h1 := hy y (List.mem_cons_self ..)
      have h2 := ih (fun z hz => hy z (List.mem_cons_of_mem _ hz))
      simp only [Fares.sumI, List.length_cons]
      push_cast
      omega
  have := key xs (fun y hy => by
    obtain ⟨j, hj⟩ := List.getElem?_of_mem hy
    have hl := (List.getElem?_eq_some_iff.1 hj).1
    have := hin j (by omega)
    rwa [Fares.nth_of hj] at this)
  rw [h29] at this
  omega
theorem Fares.due_all {xs : List Int} (h : Fares.dueOk xs = true) : xs.length = 29 ∧ ∀ y ∈ xs, 0 ≤ y ∧ y ≤ 100000 := by
  obtain ⟨h29, hin⟩ := Fares.dueOk_iff.1 h
  exact ⟨h29, fun y hy => by
    obtain ⟨j, hj⟩ := List.getElem?_of_mem hy
    have hl := (List.getElem?_eq_some_iff.1 hj).1
    have := hin j (by omega)
    rwa [Fares.nth_of hj] at this⟩
end Go.Proofs.Ytnlnlcllnbggdaa
