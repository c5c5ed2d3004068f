/-
  Event: its cells, slices of it, and what the exact laws' helpers do with them.
-/
import Derived.Test.YtpdlngekeeaocabDoorTypes
import Derived.Test.YtpdlngekeeaocabDoorOpen
import Derived.WalkKit
import Derived.WalkSpells
import Derived.WalkLawsBesides
import Derived.Deep.QuietTactic
import Derived.BigQuiet
import Derived.StillTailTactics
import Derived.Laws.MakeOwn
set_option linter.unusedSimpArgs false
namespace Go.Proofs.YtpdlngekeeaocabDoor
open Go.ChangeShapes Go.WideShapes Go.ChangeAt Go.RowKit Go.Deep
set_option linter.unusedVariables false

def eventV (t : Fares.Event) : Value := .agg #[.int .i64 t.k, .int .i64 t.a]
def eventCells (t : Fares.Event) : List Value := [.int .i64 t.k, .int .i64 t.a]
/-- The slice at A holds xs. -/
def Events (w : World) (B : Nat) (A : Option Addr) (xs : List Fares.Event) : Prop := Reads w B A (xs.flatMap eventCells)
/-- One from offset o of block b on. -/
def EventAt (w : World) (b o : Nat) (t : Fares.Event) : Prop :=
  w.cell? ⟨b, o, none⟩ = some (.int .i64 t.k) ∧ w.cell? ⟨b, o + 1, none⟩ = some (.int .i64 t.a)

theorem Events.row {w : World} {B : Nat} {A : Option Addr} {xs : List Fares.Event} (h : Events w B A xs) (hn : 0 < xs.length) :
    ∃ b o, A = some ⟨b, o, none⟩ ∧ b < B ∧ ∀ k t, xs[k]? = some t → EventAt w b (o + k * 2) t := by
  obtain ⟨b, o, e, hb, hr⟩ := Reads.row h (by
    intro e
    have := flat_get eventCells 2 (fun _ => rfl) xs 0 0 (by omega)
    rw [e, List.getElem?_eq_getElem hn] at this
    simp [eventCells] at this)
  refine ⟨b, o, e, hb, fun k t hk => ?_⟩
  have hg : ∀ j u, j < 2 → (eventCells t)[j]? = some u → w.cell? ⟨b, o + k * 2 + j, none⟩ = some u := fun j u hj hu => by
    have := hr (k * 2 + j) u (by rw [flat_get eventCells 2 (fun _ => rfl) xs k j hj, hk]; exact hu)
    rwa [← Nat.add_assoc] at this
  exact ⟨hg 0 _ (by omega) rfl, hg 1 _ (by omega) rfl⟩
theorem EventAt.below {w w' : World} {B b o : Nat} {t : Fares.Event} (h : EventAt w b o t) (hb : Below B w w') (hB : b < B) : EventAt w' b o t := by
  obtain ⟨h0, h1⟩ := h
  exact ⟨(hb.cell hB).trans h0, (hb.cell hB).trans h1⟩
/-- A variable that holds one. -/
def EventBox (w : World) (b : Nat) (t : Fares.Event) : Prop := b < w.heap.size ∧ w.cell? ⟨b, 0, none⟩ = some (.int .i64 t.k) ∧ w.cell? ⟨b, 1, none⟩ = some (.int .i64 t.a)
theorem EventBox.below {w w' : World} {B b : Nat} {t : Fares.Event} (h : EventBox w b t) (hb : Below B w w') (hB : b < B) : EventBox w' b t := by
  obtain ⟨hl, h0, h1⟩ := h
  exact ⟨Nat.lt_of_lt_of_le hl hb.size, (hb.cell hB).trans h0, (hb.cell hB).trans h1⟩
theorem EventBox.new (w : World) (t : Fares.Event) (e : TypeId) : EventBox (w.alloc (.cells #[.int .i64 t.k, .int .i64 t.a] e)) w.heap.size t := by
  have hb : Blk (w.alloc (.cells #[.int .i64 t.k, .int .i64 t.a] e)) w.heap.size e #[.int .i64 t.k, .int .i64 t.a] := Blk.new w e _
  exact ⟨hb.lt, hb.cell 0, hb.cell 1⟩
theorem Events.below {w w' : World} {B B' : Nat} {A : Option Addr} {xs : List Fares.Event} (h : Events w B A xs) (hb : Below B' w w') (hB : B ≤ B') : Events w' B A xs := Reads.below h hb hB
theorem Events.of {w : World} {g N : Nat} {t : TypeId} {xs : List Fares.Event} (h : Starts w g t N (xs.flatMap eventCells)) : Events w w.heap.size (some ⟨g, 0, none⟩) xs := h.reads
theorem Events.more {w : World} {B B' : Nat} {A : Option Addr} {xs : List Fares.Event} (h : Events w B A xs) (hB : B ≤ B') : Events w B' A xs := Reads.more h hB

def eventMark (k : Int) : List Value := [.int .i64 (k), .int .i64 (k + 1)]
def eventMarks (n : Nat) (k : Int) : List Value := (List.range n).flatMap fun i : Nat => eventMark (k + (i : Int) * 2)

/-- The slice value v owns the elements ys, in blocks from base on. -/
def OwnEvents (w : World) (base : Nat) (v : Value) (ys : List Fares.Event) : Prop := w.ownsRow base 26 2 v ys.length (ys.flatMap eventCells)
theorem OwnEvents.snoc {w : World} {base g cap : Nat} {ys : List Fares.Event} {x : Fares.Event}
    (h : w.ownsRow base 26 2 (.slice (some ⟨g, 0, none⟩) (ys.length + 1) cap) (ys.length + 1) (ys.flatMap eventCells ++ eventCells x)) : OwnEvents w base (.slice (some ⟨g, 0, none⟩) (ys.length + 1) cap) (ys ++ [x]) := by
  unfold OwnEvents
  simpa using h
theorem OwnEvents.none_ (w : World) (base : Nat) : OwnEvents w base (.slice none 0 0) [] := World.ownsRow_nil _ _ _ _
theorem OwnEvents.form {w : World} {base : Nat} {v : Value} {ys : List Fares.Event} (h : OwnEvents w base v ys) :
    ∃ (A : Option Addr) (c : Nat), v = .slice A ys.length c ∧ ys.length ≤ c ∧ c ≤ maxLen ∧ Events w w.heap.size A ys := by
  rcases h.2 with ⟨rfl, h0⟩ | ⟨g, cap, cur, rfl, hb, hh, hn, hm, hs, ht⟩
  · have : ys = [] := List.eq_nil_of_length_eq_zero h0
    subst this
    exact ⟨none, 0, rfl, Nat.le_refl _, Nat.zero_le _, Reads.nil _ _ _⟩
  · refine ⟨_, _, rfl, hn, hm, fun hne => ⟨_, rfl, ?_, World.ownsRow.cells h (g := g) rfl⟩⟩
    exact (World.ownsRow.lt h g rfl).2
theorem OwnEvents.kept {w w' : World} {base : Nat} {v : Value} {ys : List Fares.Event} {row : Option Nat} (h : OwnEvents w base v ys) (hg : w.grownBy w' row) (hne : v.ownBlock = none ∨ v.ownBlock ≠ row) : OwnEvents w' base v ys :=
  World.ownsRow.kept h hg hne
theorem OwnEvents.below {w w' : World} {base : Nat} {v : Value} {ys : List Fares.Event} (h : OwnEvents w base v ys) (hb : Below w.heap.size w w') : OwnEvents w' base v ys := by
  refine World.ownsRow.kept h (grown_of_below hb none) ?_
  cases v.ownBlock with
  | none => exact .inl rfl
  | some k => exact .inr (by simp)

end Go.Proofs.YtpdlngekeeaocabDoor
