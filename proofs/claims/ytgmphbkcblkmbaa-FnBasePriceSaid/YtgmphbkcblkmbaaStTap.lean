/-
  Tap: its cells, slices of it, and what the exact laws' helpers do with them.
-/
import Derived.Test.YtgmphbkcblkmbaaTypes
import Derived.Test.YtgmphbkcblkmbaaOpen
import Derived.WalkKit
import Derived.WalkSpells
import Derived.WalkLawsBesides
import Derived.Deep.QuietTactic
import Derived.BigQuiet
import Derived.StillTailTactics
import Derived.Laws.MakeOwn
set_option linter.unusedSimpArgs false
namespace Go.Proofs.Ytgmphbkcblkmbaa
open Go.ChangeShapes Go.WideShapes Go.ChangeAt Go.RowKit Go.Deep
set_option linter.unusedVariables false

def tapV (t : Fares.Tap) : Value := .agg #[.int .i64 t.v, .int .i64 t.n, .int .i64 t.c, .int .i64 t.m, .int .i64 t.s, .bool t.o]
def tapCells (t : Fares.Tap) : List Value := [.int .i64 t.v, .int .i64 t.n, .int .i64 t.c, .int .i64 t.m, .int .i64 t.s, .bool t.o]
/-- The slice at A holds xs. -/
def Taps (w : World) (B : Nat) (A : Option Addr) (xs : List Fares.Tap) : Prop := Reads w B A (xs.flatMap tapCells)
/-- One from offset o of block b on. -/
def TapAt (w : World) (b o : Nat) (t : Fares.Tap) : Prop :=
  w.cell? ⟨b, o, none⟩ = some (.int .i64 t.v) ∧ w.cell? ⟨b, o + 1, none⟩ = some (.int .i64 t.n) ∧ w.cell? ⟨b, o + 2, none⟩ = some (.int .i64 t.c) ∧ w.cell? ⟨b, o + 3, none⟩ = some (.int .i64 t.m) ∧ w.cell? ⟨b, o + 4, none⟩ = some (.int .i64 t.s) ∧ w.cell? ⟨b, o + 5, none⟩ = some (.bool t.o)

theorem Taps.row {w : World} {B : Nat} {A : Option Addr} {xs : List Fares.Tap} (h : Taps w B A xs) (hn : 0 < xs.length) :
    ∃ b o, A = some ⟨b, o, none⟩ ∧ b < B ∧ ∀ k t, xs[k]? = some t → TapAt w b (o + k * 6) t := by
  obtain ⟨b, o, e, hb, hr⟩ := Reads.row h (by
    intro e
    have := flat_get tapCells 6 (fun _ => rfl) xs 0 0 (by omega)
    rw [e, List.getElem?_eq_getElem hn] at this
    simp [tapCells] at this)
  refine ⟨b, o, e, hb, fun k t hk => ?_⟩
  have hg : ∀ j u, j < 6 → (tapCells t)[j]? = some u → w.cell? ⟨b, o + k * 6 + j, none⟩ = some u := fun j u hj hu => by
    have := hr (k * 6 + j) u (by rw [flat_get tapCells 6 (fun _ => rfl) xs k j hj, hk]; exact hu)
    rwa [← Nat.add_assoc] at this
  exact ⟨hg 0 _ (by omega) rfl, hg 1 _ (by omega) rfl, hg 2 _ (by omega) rfl, hg 3 _ (by omega) rfl, hg 4 _ (by omega) rfl, hg 5 _ (by omega) rfl⟩
theorem TapAt.below {w w' : World} {B b o : Nat} {t : Fares.Tap} (h : TapAt w b o t) (hb : Below B w w') (hB : b < B) : TapAt w' b o t := by
  obtain ⟨h0, h1, h2, h3, h4, h5⟩ := h
  exact ⟨(hb.cell hB).trans h0, (hb.cell hB).trans h1, (hb.cell hB).trans h2, (hb.cell hB).trans h3, (hb.cell hB).trans h4, (hb.cell hB).trans h5⟩
/-- A variable that holds one. -/
def TapBox (w : World) (b : Nat) (t : Fares.Tap) : Prop := b < w.heap.size ∧ w.cell? ⟨b, 0, none⟩ = some (.int .i64 t.v) ∧ w.cell? ⟨b, 1, none⟩ = some (.int .i64 t.n) ∧ w.cell? ⟨b, 2, none⟩ = some (.int .i64 t.c) ∧ w.cell? ⟨b, 3, none⟩ = some (.int .i64 t.m) ∧ w.cell? ⟨b, 4, none⟩ = some (.int .i64 t.s) ∧ w.cell? ⟨b, 5, none⟩ = some (.bool t.o)
theorem TapBox.below {w w' : World} {B b : Nat} {t : Fares.Tap} (h : TapBox w b t) (hb : Below B w w') (hB : b < B) : TapBox w' b t := by
  obtain ⟨hl, h0, h1, h2, h3, h4, h5⟩ := h
  exact ⟨Nat.lt_of_lt_of_le hl hb.size, (hb.cell hB).trans h0, (hb.cell hB).trans h1, (hb.cell hB).trans h2, (hb.cell hB).trans h3, (hb.cell hB).trans h4, (hb.cell hB).trans h5⟩
theorem TapBox.new (w : World) (t : Fares.Tap) (e : TypeId) : TapBox (w.alloc (.cells #[.int .i64 t.v, .int .i64 t.n, .int .i64 t.c, .int .i64 t.m, .int .i64 t.s, .bool t.o] e)) w.heap.size t := by
  have hb : Blk (w.alloc (.cells #[.int .i64 t.v, .int .i64 t.n, .int .i64 t.c, .int .i64 t.m, .int .i64 t.s, .bool t.o] e)) w.heap.size e #[.int .i64 t.v, .int .i64 t.n, .int .i64 t.c, .int .i64 t.m, .int .i64 t.s, .bool t.o] := Blk.new w e _
  exact ⟨hb.lt, hb.cell 0, hb.cell 1, hb.cell 2, hb.cell 3, hb.cell 4, hb.cell 5⟩
theorem Taps.below {w w' : World} {B B' : Nat} {A : Option Addr} {xs : List Fares.Tap} (h : Taps w B A xs) (hb : Below B' w w') (hB : B ≤ B') : Taps w' B A xs := Reads.below h hb hB
theorem Taps.of {w : World} {g N : Nat} {t : TypeId} {xs : List Fares.Tap} (h : Starts w g t N (xs.flatMap tapCells)) : Taps w w.heap.size (some ⟨g, 0, none⟩) xs := h.reads
theorem Taps.more {w : World} {B B' : Nat} {A : Option Addr} {xs : List Fares.Tap} (h : Taps w B A xs) (hB : B ≤ B') : Taps w B' A xs := Reads.more h hB

def tapMark (k : Int) : List Value := [.int .i64 (k), .int .i64 (k + 1), .int .i64 (k + 1 + 1), .int .i64 (k + 1 + 1 + 1), .int .i64 (k + 1 + 1 + 1 + 1), .bool ((k + 1 + 1 + 1 + 1 + 1) % 3 == 0)]
def tapMarks (n : Nat) (k : Int) : List Value := (List.range n).flatMap fun i : Nat => tapMark (k + (i : Int) * 6)

/-- The slice value v owns the elements ys, in blocks from base on. -/
def OwnTaps (w : World) (base : Nat) (v : Value) (ys : List Fares.Tap) : Prop := w.ownsRow base 128 6 v ys.length (ys.flatMap tapCells)
theorem OwnTaps.snoc {w : World} {base g cap : Nat} {ys : List Fares.Tap} {x : Fares.Tap}
    (h : w.ownsRow base 128 6 (.slice (some ⟨g, 0, none⟩) (ys.length + 1) cap) (ys.length + 1) (ys.flatMap tapCells ++ tapCells x)) : OwnTaps w base (.slice (some ⟨g, 0, none⟩) (ys.length + 1) cap) (ys ++ [x]) := by
  unfold OwnTaps
  simpa using h
theorem OwnTaps.none_ (w : World) (base : Nat) : OwnTaps w base (.slice none 0 0) [] := World.ownsRow_nil _ _ _ _
theorem OwnTaps.form {w : World} {base : Nat} {v : Value} {ys : List Fares.Tap} (h : OwnTaps w base v ys) :
    ∃ (A : Option Addr) (c : Nat), v = .slice A ys.length c ∧ ys.length ≤ c ∧ c ≤ maxLen ∧ Taps w w.heap.size A ys := by
  rcases h.2 with ⟨rfl, h0⟩ | ⟨g, cap, cur, rfl, hb, hh, hn, hm, hs, ht⟩
  · have : ys = [] := List.eq_nil_of_length_eq_zero h0
    subst this
    exact ⟨none, 0, rfl, Nat.le_refl _, Nat.zero_le _, Reads.nil _ _ _⟩
  · refine ⟨_, _, rfl, hn, hm, fun hne => ⟨_, rfl, ?_, World.ownsRow.cells h (g := g) rfl⟩⟩
    exact (World.ownsRow.lt h g rfl).2
theorem OwnTaps.kept {w w' : World} {base : Nat} {v : Value} {ys : List Fares.Tap} {row : Option Nat} (h : OwnTaps w base v ys) (hg : w.grownBy w' row) (hne : v.ownBlock = none ∨ v.ownBlock ≠ row) : OwnTaps w' base v ys :=
  World.ownsRow.kept h hg hne
theorem OwnTaps.below {w w' : World} {base : Nat} {v : Value} {ys : List Fares.Tap} (h : OwnTaps w base v ys) (hb : Below w.heap.size w w') : OwnTaps w' base v ys := by
  refine World.ownsRow.kept h (grown_of_below hb none) ?_
  cases v.ownBlock with
  | none => exact .inl rfl
  | some k => exact .inr (by simp)

end Go.Proofs.Ytgmphbkcblkmbaa
