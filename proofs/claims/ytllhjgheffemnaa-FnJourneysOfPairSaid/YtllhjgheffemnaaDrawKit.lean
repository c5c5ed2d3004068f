/-
  Drawn numbers: one of a list; what a draw leaves of memory.
-/
import Derived.Test.YtllhjgheffemnaaReader
set_option linter.unusedSimpArgs false
namespace Go.Proofs.Ytllhjgheffemnaa
open Go.RowKit
set_option linter.unusedVariables false

/-- One of the numbers of a list that has just been laid. -/
theorem one_in (g p b : Nat) (l : List Int) (lo hi : Int) (n c : Nat) (cs : Array Value) (w : World) (hr : Rd w g p) (hp : p ≤ 100000) (hb : Blk w b 3 cs) (hg : b ≠ g) (hcs : cs = (l.map (Value.int .i64)).toArray) (hn : l.length = n) (h1 : 1 ≤ n) (hm : n ≤ 1000)
    (hl : ∀ x ∈ l, lo ≤ x ∧ x ≤ hi) :
    Calls Try.prog 53 #[.pointer (some ⟨g, 0, none⟩), .slice (some ⟨b, 0, none⟩) n c] w fun e w' => ∃ x : Int, e = .returned (.int .i64 x) ∧ lo ≤ x ∧ x ≤ hi ∧ Rd w' g (p + 1) ∧ w.grownBy w' (some g) := by
  subst hcs
  refine (one_any g p b n c _ w hr hp hb hg (by simpa using hn) h1 hm (fun i hi => ⟨l[i]'(by omega), by simp [List.getElem?_eq_getElem (show i < l.length by omega)]⟩)).mono ?_
  rintro e w' ⟨i, x, hi, hx, rfl, hr', hg'⟩
  have hx' : l[i]? = some x := by
    simp only [List.getElem?_toArray, List.getElem?_map] at hx
    cases hq : l[i]? with
    | none => rw [hq] at hx; cases hx
    | some y => rw [hq] at hx; simp at hx; rw [hx]
  obtain ⟨h2, h3⟩ := hl x (List.mem_of_getElem? hx')
  exact ⟨x, rfl, h2, h3, hr', hg'⟩

theorem grown_new {w a b : World} {g : Nat} {row : Option Nat} (h : w.grownBy a (some g)) (k : a.grownBy b row) (hrow : ∀ r, row = some r → w.heap.size ≤ r) : w.grownBy b (some g) :=
  ⟨k.os.trans h.os, k.tape.trans h.tape, k.output.trans h.output, Nat.le_trans h.size k.size, fun i hi hne => (k.block i (Nat.lt_of_lt_of_le hi h.size) (fun e => by have := hrow i e.symm; omega)).trans (h.block i hi hne)⟩
theorem Rd.below' {w w' : World} {g p : Nat} (h : Rd w g p) (hb : Below (g + 1) w w') : Rd w' g p := h.below hb
theorem Rd.grown_new {a b : World} {g p : Nat} {row : Option Nat} (h : Rd a g p) (k : a.grownBy b row) (hrow : ∀ r, row = some r → g < r) : Rd b g p :=
  h.below (Below.grown (Below.refl _ _) k h.lt (fun r hr => hrow r hr))

theorem Rd.drew {w : World} {g p : Nat} (h : Rd w g p) : Rd w.drew g p := h
end Go.Proofs.Ytllhjgheffemnaa
