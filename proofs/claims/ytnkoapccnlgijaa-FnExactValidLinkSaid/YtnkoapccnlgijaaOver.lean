/-
  What is known carried over calls and new blocks: one lemma for each kind.
-/
import Derived.Test.YtnkoapccnlgijaaMem
set_option linter.unusedSimpArgs false
namespace Go.Proofs.Ytnkoapccnlgijaa
open Go.RowKit
set_option linter.unusedVariables false
theorem Blk.new' {w : World} {t : TypeId} {cs : Array Value} {b : Nat} (h : w.heap.size = b) : Blk (w.alloc (.cells cs t)) b t cs := by
  subst h; exact Blk.new w t cs
theorem Blk.belowAll {w w' : World} {g : Nat} {t : TypeId} {cs : Array Value} (h : Blk w g t cs) (hb : Below w.heap.size w w') : Blk w' g t cs := h.below hb h.lt
theorem readsUp {w : World} {A : Option Addr} {vs : List Value} (h : Reads w w.heap.size A vs) (o : Obj) : Reads (w.alloc o) (w.alloc o).heap.size A vs := (h.alloc (Nat.le_refl _) o).more (by simp)
theorem readsOver {w w' : World} {A : Option Addr} {vs : List Value} (h : Reads w w.heap.size A vs) (hb : Below w.heap.size w w') : Reads w' w'.heap.size A vs := (h.below hb (Nat.le_refl _)).more hb.size
theorem ownDrew {w : World} {base size n : Nat} {t : TypeId} {v : Value} {xs : List Value} (h : w.ownsRow base t size v n xs) : w.drew.ownsRow base t size v n xs := h
theorem grownDrew {a w : World} {row : Option Nat} (h : a.grownBy w row) : a.grownBy w.drew row := grown_drewN h 1
theorem blkDrew {w : World} {g : Nat} {t : TypeId} {cs : Array Value} (h : Blk w g t cs) : Blk w.drew g t cs := h
theorem readsDrew {w : World} {A : Option Addr} {vs : List Value} (h : Reads w w.heap.size A vs) : Reads w.drew w.drew.heap.size A vs := h
/-- An owned row that is not empty: where it lies, its cells, and that they may be stored into. -/
theorem own_at {T : Type} (f : T → List Value) (s : Nat) (hf : ∀ x, (f x).length = s) {w : World} {base : Nat} {t : TypeId} {v : Value} {ys : List T} (h : w.ownsRow base t s v ys.length (ys.flatMap f)) (hn : 0 < ys.length) :
    ∃ (g cap : Nat), v = .slice (some ⟨g, 0, none⟩) ys.length cap ∧ base ≤ g ∧ g < w.heap.size ∧ ys.length ≤ cap ∧ cap ≤ maxLen ∧
      (∀ (k : Nat) (x : T) (j : Nat) (u : Value), ys[k]? = some x → (f x)[j]? = some u → w.cell? ⟨g, k * s + j, none⟩ = some u) ∧ (∀ i, w.frozen? ⟨g, i, none⟩ = false) ∧ ∀ i, i < cap * s → ∃ u, w.cell? ⟨g, i, none⟩ = some u := by
  have h' := h
  rcases h'.2 with ⟨_, h0⟩ | ⟨g, cap, cur, hv, hb, hh, hl, hm, hz, ht⟩
  · omega
  · have hblk : Blk w g t cur := hh
    refine ⟨g, cap, hv, hb, hblk.lt, hl, hm, fun k x j u hk hj => ?_, fun i => hblk.free i, fun i hi => hblk.there (by omega)⟩
    have hjs : j < s := by rw [← hf x]; exact (List.getElem?_eq_some_iff.1 hj).1
    have hu : (ys.flatMap f)[k * s + j]? = some u := by rw [flat_get f s hf ys k j hjs, hk]; exact hj
    rw [hblk.cell]
    rw [← ht, List.getElem?_take] at hu
    split at hu
    · simpa using hu
    · cases hu
theorem grown_cells {a : World} {g gb : Nat} (hb : a.heap.size ≤ gb) : ∀ (vs : List Value) (w : World) (o : Nat), a.grownBy w (some g) → a.grownBy (w.setCells gb o vs) (some g)
  | [], _, _, h => h
  | v :: r, w, o, h => grown_cells hb r _ (o + 1) (grown_setCell h (p := ⟨gb, o, none⟩) (.inr hb) v)
theorem below_cells {B : Nat} {a : World} {gb : Nat} (hb : B ≤ gb) : ∀ (vs : List Value) (w : World) (o : Nat), Below B a w → Below B a (w.setCells gb o vs)
  | [], _, _, h => h
  | v :: r, w, o, h => below_cells hb r _ (o + 1) (h.setCell (p := ⟨gb, o, none⟩) hb v)
/-- One cell, and that its block is there. -/
def CF (w : World) (b o : Nat) (v : Value) : Prop := w.cell? ⟨b, o, none⟩ = some v ∧ b < w.heap.size
theorem CF.up {w : World} {b o : Nat} {v : Value} (h : CF w b o v) (x : Obj) : CF (w.alloc x) b o v := ⟨(World.cell?_alloc_lt w x ⟨b, o, none⟩ h.2).trans h.1, by rw [World.size_alloc]; exact Nat.lt_succ_of_lt h.2⟩
theorem CF.drew {w : World} {b o : Nat} {v : Value} (h : CF w b o v) : CF w.drew b o v := h
theorem CF.over {w w' : World} {b o : Nat} {v : Value} (h : CF w b o v) (hb : Below w.heap.size w w') : CF w' b o v := ⟨(hb.cell (p := ⟨b, o, none⟩) h.2).trans h.1, Nat.lt_of_lt_of_le h.2 hb.size⟩
theorem CF.grown {w w' : World} {b o : Nat} {v : Value} {row : Option Nat} (h : CF w b o v) (hg : w.grownBy w' row) (hne : some b ≠ row) : CF w' b o v := ⟨(cell_grown hg (p := ⟨b, o, none⟩) h.2 hne).trans h.1, Nat.lt_of_lt_of_le h.2 hg.size⟩
theorem cell_far_cells {b i : Nat} : ∀ (vs : List Value) (w : World) (o : Nat), i < o → (w.setCells b o vs).cell? ⟨b, i, none⟩ = w.cell? ⟨b, i, none⟩
  | [], _, _, _ => rfl
  | v :: r, w, o, h => (cell_far_cells r _ (o + 1) (by omega)).trans (World.cell?_setCell_other w _ _ v (by intro e; injection e; omega))
theorem cell_of_cells {b : Nat} : ∀ (vs : List Value) (w : World) (o i : Nat) (u : Value), vs[i]? = some u → (∃ u', w.cell? ⟨b, o + i, none⟩ = some u') → (w.setCells b o vs).cell? ⟨b, o + i, none⟩ = some u
  | [], _, _, _, _, h, _ => by simp at h
  | v :: r, w, o, 0, u, h, hex => by
    simp at h
    subst h
    obtain ⟨u', hu'⟩ := hex
    refine (cell_far_cells r _ (o + 1) (by omega)).trans ?_
    exact World.cell?_setCell_same w _ v hu'
  | v :: r, w, o, i + 1, u, h, hex => by
    have e : o + (i + 1) = o + 1 + i := by omega
    rw [e]
    refine cell_of_cells r _ (o + 1) i u (by simpa using h) ?_
    obtain ⟨u', hu'⟩ := hex
    rw [e] at hu'
    exact ⟨u', (World.cell?_setCell_other w _ _ v (by intro e; injection e; omega)).trans hu'⟩
end Go.Proofs.Ytnkoapccnlgijaa
