/-
  Sum: its cells, slices of it, and what the exact laws' helpers do with them.
-/
import Derived.Test.YtpdlngekeeaocabDoorTypes
import Derived.Test.YtpdlngekeeaocabDoorOpen
import Derived.WalkKit
import Derived.WalkSpells
import Derived.WalkLawsBesides
import Derived.Deep.QuietTactic
import Derived.BigQuiet
import Derived.StillTailTactics
import Derived.Laws.MakeOwn
set_option linter.unusedSimpArgs false
namespace Go.Proofs.YtpdlngekeeaocabDoor
open Go.ChangeShapes Go.WideShapes Go.ChangeAt Go.RowKit Go.Deep
set_option linter.unusedVariables false

def sumV (t : Fares.Sum) : Value := .agg #[.int .i64 t.s, .int .i64 t.a, .int .i64 t.t]
def sumCells (t : Fares.Sum) : List Value := [.int .i64 t.s, .int .i64 t.a, .int .i64 t.t]
/-- The slice at A holds xs. -/
def Sums (w : World) (B : Nat) (A : Option Addr) (xs : List Fares.Sum) : Prop := Reads w B A (xs.flatMap sumCells)
/-- One from offset o of block b on. -/
def SumAt (w : World) (b o : Nat) (t : Fares.Sum) : Prop :=
  w.cell? ⟨b, o, none⟩ = some (.int .i64 t.s) ∧ w.cell? ⟨b, o + 1, none⟩ = some (.int .i64 t.a) ∧ w.cell? ⟨b, o + 2, none⟩ = some (.int .i64 t.t)

theorem Sums.row {w : World} {B : Nat} {A : Option Addr} {xs : List Fares.Sum} (h : Sums w B A xs) (hn : 0 < xs.length) :
    ∃ b o, A = some ⟨b, o, none⟩ ∧ b < B ∧ ∀ k t, xs[k]? = some t → SumAt w b (o + k * 3) t := by
  obtain ⟨b, o, e, hb, hr⟩ := Reads.row h (by
    intro e
    have := flat_get sumCells 3 (fun _ => rfl) xs 0 0 (by omega)
    rw [e, List.getElem?_eq_getElem hn] at this
    simp [sumCells] at this)
  refine ⟨b, o, e, hb, fun k t hk => ?_⟩
  have hg : ∀ j u, j < 3 → (sumCells t)[j]? = some u → w.cell? ⟨b, o + k * 3 + j, none⟩ = some u := fun j u hj hu => by
    have := hr (k * 3 + j) u (by rw [flat_get sumCells 3 (fun _ => rfl) xs k j hj, hk]; exact hu)
    rwa [← Nat.add_assoc] at this
  exact ⟨hg 0 _ (by omega) rfl, hg 1 _ (by omega) rfl, hg 2 _ (by omega) rfl⟩
theorem SumAt.below {w w' : World} {B b o : Nat} {t : Fares.Sum} (h : SumAt w b o t) (hb : Below B w w') (hB : b < B) : SumAt w' b o t := by
  obtain ⟨h0, h1, h2⟩ := h
  exact ⟨(hb.cell hB).trans h0, (hb.cell hB).trans h1, (hb.cell hB).trans h2⟩
/-- A variable that holds one. -/
def SumBox (w : World) (b : Nat) (t : Fares.Sum) : Prop := b < w.heap.size ∧ w.cell? ⟨b, 0, none⟩ = some (.int .i64 t.s) ∧ w.cell? ⟨b, 1, none⟩ = some (.int .i64 t.a) ∧ w.cell? ⟨b, 2, none⟩ = some (.int .i64 t.t)
theorem SumBox.below {w w' : World} {B b : Nat} {t : Fares.Sum} (h : SumBox w b t) (hb : Below B w w') (hB : b < B) : SumBox w' b t := by
  obtain ⟨hl, h0, h1, h2⟩ := h
  exact ⟨Nat.lt_of_lt_of_le hl hb.size, (hb.cell hB).trans h0, (hb.cell hB).trans h1, (hb.cell hB).trans h2⟩
theorem SumBox.new (w : World) (t : Fares.Sum) (e : TypeId) : SumBox (w.alloc (.cells #[.int .i64 t.s, .int .i64 t.a, .int .i64 t.t] e)) w.heap.size t := by
  have hb : Blk (w.alloc (.cells #[.int .i64 t.s, .int .i64 t.a, .int .i64 t.t] e)) w.heap.size e #[.int .i64 t.s, .int .i64 t.a, .int .i64 t.t] := Blk.new w e _
  exact ⟨hb.lt, hb.cell 0, hb.cell 1, hb.cell 2⟩
theorem Sums.below {w w' : World} {B B' : Nat} {A : Option Addr} {xs : List Fares.Sum} (h : Sums w B A xs) (hb : Below B' w w') (hB : B ≤ B') : Sums w' B A xs := Reads.below h hb hB
theorem Sums.of {w : World} {g N : Nat} {t : TypeId} {xs : List Fares.Sum} (h : Starts w g t N (xs.flatMap sumCells)) : Sums w w.heap.size (some ⟨g, 0, none⟩) xs := h.reads
theorem Sums.more {w : World} {B B' : Nat} {A : Option Addr} {xs : List Fares.Sum} (h : Sums w B A xs) (hB : B ≤ B') : Sums w B' A xs := Reads.more h hB

def sumMark (k : Int) : List Value := [.int .i64 (k), .int .i64 (k + 1), .int .i64 (k + 1 + 1)]
def sumMarks (n : Nat) (k : Int) : List Value := (List.range n).flatMap fun i : Nat => sumMark (k + (i : Int) * 3)

/-- The slice value v owns the elements ys, in blocks from base on. -/
def OwnSums (w : World) (base : Nat) (v : Value) (ys : List Fares.Sum) : Prop := w.ownsRow base 24 3 v ys.length (ys.flatMap sumCells)
theorem OwnSums.snoc {w : World} {base g cap : Nat} {ys : List Fares.Sum} {x : Fares.Sum}
    (h : w.ownsRow base 24 3 (.slice (some ⟨g, 0, none⟩) (ys.length + 1) cap) (ys.length + 1) (ys.flatMap sumCells ++ sumCells x)) : OwnSums w base (.slice (some ⟨g, 0, none⟩) (ys.length + 1) cap) (ys ++ [x]) := by
  unfold OwnSums
  simpa using h
theorem OwnSums.none_ (w : World) (base : Nat) : OwnSums w base (.slice none 0 0) [] := World.ownsRow_nil _ _ _ _
theorem OwnSums.form {w : World} {base : Nat} {v : Value} {ys : List Fares.Sum} (h : OwnSums w base v ys) :
    ∃ (A : Option Addr) (c : Nat), v = .slice A ys.length c ∧ ys.length ≤ c ∧ c ≤ maxLen ∧ Sums w w.heap.size A ys := by
  rcases h.2 with ⟨rfl, h0⟩ | ⟨g, cap, cur, rfl, hb, hh, hn, hm, hs, ht⟩
  · have : ys = [] := List.eq_nil_of_length_eq_zero h0
    subst this
    exact ⟨none, 0, rfl, Nat.le_refl _, Nat.zero_le _, Reads.nil _ _ _⟩
  · refine ⟨_, _, rfl, hn, hm, fun hne => ⟨_, rfl, ?_, World.ownsRow.cells h (g := g) rfl⟩⟩
    exact (World.ownsRow.lt h g rfl).2
theorem OwnSums.kept {w w' : World} {base : Nat} {v : Value} {ys : List Fares.Sum} {row : Option Nat} (h : OwnSums w base v ys) (hg : w.grownBy w' row) (hne : v.ownBlock = none ∨ v.ownBlock ≠ row) : OwnSums w' base v ys :=
  World.ownsRow.kept h hg hne
theorem OwnSums.below {w w' : World} {base : Nat} {v : Value} {ys : List Fares.Sum} (h : OwnSums w base v ys) (hb : Below w.heap.size w w') : OwnSums w' base v ys := by
  refine World.ownsRow.kept h (grown_of_below hb none) ?_
  cases v.ownBlock with
  | none => exact .inl rfl
  | some k => exact .inr (by simp)

end Go.Proofs.YtpdlngekeeaocabDoor
