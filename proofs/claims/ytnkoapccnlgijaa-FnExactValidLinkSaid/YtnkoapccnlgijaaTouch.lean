/-
  A call that writes into some blocks alone; owned rows over it.
-/
import Derived.Test.YtnkoapccnlgijaaOver
import Derived.Laws.MakeOwn
import Derived.Below
set_option linter.unusedSimpArgs false
namespace Go.Proofs.Ytnkoapccnlgijaa
open Go.RowKit
set_option linter.unusedVariables false
/-- Blocks outside K stay as they are. -/
structure Touch (K : Nat → Prop) (w w' : World) : Prop where
  os : w'.os = w.os
  tape : w'.tape = w.tape
  output : w'.output = w.output
  size : w.heap.size ≤ w'.heap.size
  block : ∀ i, i < w.heap.size → ¬ K i → w'.heap[i]? = w.heap[i]?
theorem Touch.of_grown {w w' : World} {row : Option Nat} (h : w.grownBy w' row) : Touch (fun k => row = some k) w w' := ⟨h.os, h.tape, h.output, h.size, fun i hi hn => h.block i hi (fun e => hn e.symm)⟩
theorem Touch.of_below {w w' : World} {K : Nat → Prop} (h : Below w.heap.size w w') : Touch K w w' := ⟨h.os, h.tape, h.output, h.size, fun i hi _ => h.block i hi⟩
theorem Touch.trans {K : Nat → Prop} {a b c : World} (h : Touch K a b) (k : Touch K b c) : Touch K a c :=
  ⟨k.os.trans h.os, k.tape.trans h.tape, k.output.trans h.output, Nat.le_trans h.size k.size, fun i hi hn => (k.block i (Nat.lt_of_lt_of_le hi h.size) hn).trans (h.block i hi hn)⟩
theorem Touch.mono {K L : Nat → Prop} {a b : World} (h : Touch K a b) (hl : ∀ k, K k → L k) : Touch L a b := ⟨h.os, h.tape, h.output, h.size, fun i hi hn => h.block i hi (fun e => hn (hl i e))⟩
/-- A new block ahead of it. -/
theorem Touch.after_alloc {K : Nat → Prop} {w w' : World} {o : Obj} (h : Touch K (w.alloc o) w') : Touch K w w' :=
  (Touch.of_below (bA (Below.refl _ _) o)).trans h
theorem Touch.alloc {K : Nat → Prop} {a w : World} (h : Touch K a w) (o : Obj) : Touch K a (w.alloc o) := h.trans (Touch.of_below (bA (Below.refl _ _) o))
theorem Touch.drew {K : Nat → Prop} {a w : World} (h : Touch K a w) : Touch K a w.drew := ⟨h.os, h.tape, h.output, h.size, h.block⟩
theorem Touch.below {K : Nat → Prop} {a b c : World} (h : Below a.heap.size a b) (k : Touch K b c) (hk : ∀ i, K i → a.heap.size ≤ i) : Below a.heap.size a c :=
  ⟨k.os.trans h.os, k.tape.trans h.tape, k.output.trans h.output, Nat.le_trans h.size k.size, fun i hi => (k.block i (Nat.lt_of_lt_of_le hi h.size) (fun e => absurd (hk i e) (by omega))).trans (h.block i hi)⟩
theorem Touch.far {K : Nat → Prop} {a w : World} (h : Touch K a w) {p : Addr} (hp : K p.block) (u : Value) : Touch K a (w.setCell p u) :=
  h.trans ⟨rfl, rfl, rfl, by simp [World.setCell], fun i _ hn => Below.heap_setCell _ _ _ _ (fun e => hn (by rw [e]; exact hp))⟩
theorem Touch.refl (K : Nat → Prop) (w : World) : Touch K w w := ⟨rfl, rfl, rfl, Nat.le_refl _, fun _ _ _ => rfl⟩
theorem Blk.touch {K : Nat → Prop} {w w' : World} {g : Nat} {t : TypeId} {cs : Array Value} (h : Blk w g t cs) (k : Touch K w w') (hg : ¬ K g) : Blk w' g t cs := (k.block g h.lt hg).trans h
theorem ownTouch {K : Nat → Prop} {w w' : World} {base size n : Nat} {t : TypeId} {v : Value} {xs : List Value} (h : w.ownsRow base t size v n xs) (k : Touch K w w') (hk : ∀ i, v.ownBlock = some i → ¬ K i) : w'.ownsRow base t size v n xs := by
  refine ⟨h.1, ?_⟩
  rcases h.2 with hn | ⟨g, cap, cur, rfl, hb, hgg, rest⟩
  · exact .inl hn
  · refine .inr ⟨g, cap, cur, rfl, hb, ?_, rest⟩
    rw [k.block g (Array.getElem?_eq_some_iff.1 hgg).1 (hk g rfl)]
    exact hgg
theorem ownFar {w : World} {base size n : Nat} {t : TypeId} {v : Value} {xs : List Value} (h : w.ownsRow base t size v n xs) {p : Addr} (hp : p.block < base) (u : Value) : (w.setCell p u).ownsRow base t size v n xs :=
  ownTouch h (K := fun k => k = p.block) ⟨rfl, rfl, rfl, by simp [World.setCell], fun i _ hn => Below.heap_setCell _ _ _ _ hn⟩ (fun i hi e => by have := (World.ownsRow.lt h i hi).1; omega)
/-- A nil slice has no elements and no room. -/
def NilOk (A : Option Addr) (n c : Nat) : Prop := A = none → n = 0 ∧ c = 0
theorem own_nil_ {w : World} {base size n : Nat} {t : TypeId} {A : Option Addr} {m c : Nat} {xs : List Value} (h : w.ownsRow base t size (.slice A m c) n xs) : NilOk A m c := by
  intro hA
  rcases h.2 with ⟨hv, _⟩ | ⟨g', cap, cur, hv, _⟩
  · injection hv with e1 e2 e3; exact ⟨e2, e3⟩
  · injection hv with e1 e2 e3; rw [hA] at e1; cases e1
theorem own_le {w : World} {base size n : Nat} {t : TypeId} {A : Option Addr} {c m : Nat} {xs : List Value} (h : w.ownsRow base t size (.slice A m c) n xs) (hm : n = m) : m ≤ c ∧ c ≤ maxLen := by
  subst hm
  rcases h.2 with ⟨e, h0⟩ | ⟨g, cap, cur, e, hb, hgg, h1, h2, rest⟩
  · injection e with e1 e2 e3
    exact ⟨by omega, by unfold maxLen; omega⟩
  · injection e with e1 e2 e3
    subst e3
    exact ⟨h1, h2⟩
end Go.Proofs.Ytnkoapccnlgijaa
