/-
  Slices of numbers: their cells, and what the laws' helpers do with them.
-/
import Derived.Test.YtomjnepchffkgaaTypes
import Derived.Test.YtomjnepchffkgaaSumMath
import Derived.Test.YtomjnepchffkgaaOpen
import Derived.Test.YtomjnepchffkgaaBasic
import Derived.WalkKit
import Derived.WalkSpells
import Derived.WalkLawsBesides
import Derived.Deep.QuietTactic
import Derived.BigQuiet
import Derived.StillTailTactics
import Derived.Laws.MakeOwn
set_option linter.unusedSimpArgs false
namespace Go.Proofs.Ytomjnepchffkgaa
open Go.ChangeShapes Go.WideShapes Go.ChangeAt Go.RowKit Go.Deep
set_option linter.unusedVariables false

def intCells (t : Int) : List Value := [.int .i64 t]
theorem flat_ints (xs : List Int) : xs.flatMap intCells = xs.map (Value.int .i64) := by
  induction xs with
  | nil => rfl
  | cons x r ih => simp [intCells, ih]
/-- The slice at A holds xs. -/
def Ints (w : World) (B : Nat) (A : Option Addr) (xs : List Int) : Prop := Reads w B A (xs.flatMap intCells)
theorem Ints.row {w : World} {B : Nat} {A : Option Addr} {xs : List Int} (h : Ints w B A xs) (hn : 0 < xs.length) :
    ∃ b o, A = some ⟨b, o, none⟩ ∧ b < B ∧ ∀ k t, xs[k]? = some t → w.cell? ⟨b, o + k, none⟩ = some (.int .i64 t) := by
  unfold Ints at h
  rw [flat_ints] at h
  obtain ⟨b, o, e, hb, hr⟩ := Reads.row h (by intro e; rw [List.map_eq_nil_iff] at e; subst e; simp at hn)
  exact ⟨b, o, e, hb, fun k t hk => hr k _ (by rw [List.getElem?_map, hk]; rfl)⟩
theorem Ints.below {w w' : World} {B B' : Nat} {A : Option Addr} {xs : List Int} (h : Ints w B A xs) (hb : Below B' w w') (hB : B ≤ B') : Ints w' B A xs := Reads.below h hb hB
theorem Ints.of {w : World} {g N : Nat} {t : TypeId} {xs : List Int} (h : Starts w g t N (xs.flatMap intCells)) : Ints w w.heap.size (some ⟨g, 0, none⟩) xs := h.reads
theorem Ints.more {w : World} {B B' : Nat} {A : Option Addr} {xs : List Int} (h : Ints w B A xs) (hB : B ≤ B') : Ints w B' A xs := Reads.more h hB
theorem Ints.take {w : World} {B : Nat} {A : Option Addr} {xs : List Int} (h : Ints w B A xs) (k : Nat) : Ints w B A (xs.take k) := fun hne => by
  unfold Ints at h
  rw [flat_ints] at h hne ⊢
  obtain ⟨a, e, hb, hc⟩ := h (by intro e; rw [List.map_eq_nil_iff] at e; subst e; simp at hne)
  refine ⟨a, e, hb, fun i u hu => hc i u ?_⟩
  rw [List.map_take, List.getElem?_take] at hu
  split at hu
  · exact hu
  · cases hu

def intMark (k : Int) : List Value := [.int .i64 k]
def intMarks (n : Nat) (k : Int) : List Value := (List.range n).flatMap fun i : Nat => intMark (k + (i : Int))

/-- The slice value v owns the elements ys, in blocks from base on. -/
def OwnInts (w : World) (base : Nat) (v : Value) (ys : List Int) : Prop := w.ownsRow base 3 1 v ys.length (ys.flatMap intCells)
theorem OwnInts.snoc {w : World} {base g cap : Nat} {ys : List Int} {x : Int}
    (h : w.ownsRow base 3 1 (.slice (some ⟨g, 0, none⟩) (ys.length + 1) cap) (ys.length + 1) (ys.flatMap intCells ++ intCells x)) : OwnInts w base (.slice (some ⟨g, 0, none⟩) (ys.length + 1) cap) (ys ++ [x]) := by
  unfold OwnInts
  simpa using h
theorem OwnInts.none_ (w : World) (base : Nat) : OwnInts w base (.slice none 0 0) [] := World.ownsRow_nil _ _ _ _
theorem OwnInts.form {w : World} {base : Nat} {v : Value} {ys : List Int} (h : OwnInts w base v ys) :
    ∃ (A : Option Addr) (c : Nat), v = .slice A ys.length c ∧ ys.length ≤ c ∧ c ≤ maxLen ∧ Ints w w.heap.size A ys := by
  rcases h.2 with ⟨rfl, h0⟩ | ⟨g, cap, cur, rfl, hb, hh, hn, hm, hs, ht⟩
  · have : ys = [] := List.eq_nil_of_length_eq_zero h0
    subst this
    exact ⟨none, 0, rfl, Nat.le_refl _, Nat.zero_le _, Reads.nil _ _ _⟩
  · refine ⟨_, _, rfl, hn, hm, fun hne => ⟨_, rfl, ?_, World.ownsRow.cells h (g := g) rfl⟩⟩
    exact (World.ownsRow.lt h g rfl).2
theorem OwnInts.kept {w w' : World} {base : Nat} {v : Value} {ys : List Int} {row : Option Nat} (h : OwnInts w base v ys) (hg : w.grownBy w' row) (hne : v.ownBlock = none ∨ v.ownBlock ≠ row) : OwnInts w' base v ys :=
  World.ownsRow.kept h hg hne
theorem OwnInts.below {w w' : World} {base : Nat} {v : Value} {ys : List Int} (h : OwnInts w base v ys) (hb : Below w.heap.size w w') : OwnInts w' base v ys := own_below h hb
theorem OwnInts.of_starts {w : World} {g cap base : Nat} {ys : List Int} (h : Starts w g 3 cap (ys.flatMap intCells)) (hn : ys.length ≤ cap) (hm : cap ≤ maxLen) (hb : base ≤ g) : OwnInts w base (.slice (some ⟨g, 0, none⟩) ys.length cap) ys :=
  own_of_starts (by rwa [Nat.mul_one]) (by rw [flat_ints]; simp) hn hm hb

theorem info_int : (Try.prog.info? 3).map (fun i => (i.zero, i.size, i.bytes)) = some (some (.int .i64 0), 1, 8) := by kernel_rfl
theorem Starts.setInt {w : World} {g n d : Nat} {t : TypeId} {ys : List Int} {x : Int} (h : Starts w g t n (ys.flatMap intCells)) : Starts (w.setCell ⟨g, d, none⟩ (.int .i64 x)) g t n ((ys.set d x).flatMap intCells) := by
  obtain ⟨cs, h1, h2, h3⟩ := h
  refine ⟨_, h1.put d _, by rw [Array.size_setIfInBounds]; exact h2, fun i u hu => ?_⟩
  rw [flat_ints] at h3 hu
  rw [List.getElem?_map, List.getElem?_set] at hu
  rw [Array.getElem?_setIfInBounds]
  by_cases e : d = i
  · subst e
    rw [if_pos rfl] at hu ⊢
    split at hu
    · rename_i hd
      have hsz : d < cs.size := by
        have := h3 d _ (by rw [List.getElem?_map, List.getElem?_eq_getElem hd]; rfl)
        exact (Array.getElem?_eq_some_iff.1 this).1
      rw [if_pos hsz]
      exact hu
    · cases hu
  · rw [if_neg e] at hu ⊢
    exact h3 i u (by rw [List.getElem?_map]; exact hu)
/-- A new slice of n zeros. -/
theorem run_make_ints (n : Nat) (hb : n ≤ 1000000) :
    ∃ Z : Array Value, Z.size = n ∧ (∀ i, i < n → Z[i]? = some (.int .i64 0)) ∧ ∀ w : World, (Instr.makeSlice 38 (.int .i64 (n : Int)) (.int .i64 (n : Int))).run Try.prog w = .ok (.slice (some ⟨w.heap.size, 0, none⟩) n n) (w.alloc (.cells Z 3)) := by
  obtain ⟨i, hi, hz, hs, hy⟩ := info_parts info_int
  refine ⟨madeCells #[.int .i64 0] n, size_madeCells _ _, fun j hj => by simp [madeCells, hj, Nat.mod_one], fun w => ?_⟩
  have hb' : (i.bytes : Int) * (n : Int) ≤ 281474976710656 := by
    rw [hy]
    omega
  have hr := run_make (P := Try.prog) w 38 3 i (.int .i64 0) Try.underlying38 hi hz .i64 .i64 n n (by omega) (by omega) hb' (by omega)
  simp only [Int.toNat_natCast, hs, Nat.mul_one] at hr
  exact hr
theorem zeros_starts {w : World} {g : Nat} {t : TypeId} {Z : Array Value} {n : Nat} (h : Blk w g t Z) (hZ : Z.size = n) (h0 : ∀ i, i < n → Z[i]? = some (.int .i64 0)) : Starts w g t n ((List.replicate n (0 : Int)).flatMap intCells) :=
  ⟨Z, h, hZ, fun i u hu => by
    rw [flat_ints] at hu
    simp only [List.map_replicate] at hu
    have hi : i < n := by have := (List.getElem?_eq_some_iff.1 hu).1; simpa using this
    rw [List.getElem?_replicate, if_pos hi] at hu
    rw [h0 i hi]
    exact hu⟩
set_option maxRecDepth 100000 in
theorem ints_open {H : Type} {enc : TypeId × Value → H} {w : World} {base : Nat} {spare : Nat → Bool} {held : Bool} {r : Reach} {b0 : Nat} {v : Value} {d : DataW H} {p : List MemPlace}
    (hv : Value.okWide Try.prog w r b0 38 v) (h : DataW.Trod enc Try.prog w base spare held 38 v d p) :
    ∃ (A : Option Addr) (n c : Nat) (xs : List Int), v = .slice A n c ∧ xs.length = n ∧ n ≤ maxLen ∧ Ints w w.heap.size A xs ∧ ∀ x ∈ xs, fitsI x := by
  obtain ⟨A, n, c, rfl⟩ := okWide_slice Try.underlying38 hv
  obtain ⟨fuel, hf⟩ := h
  obtain ⟨h1, h2, xs, h3, h4, h5⟩ := reads_of_slice intCells 1 (fun _ => rfl) (by omega) fitsI Try.underlying38 (by kernel_rfl) (fun n cs y h => by
    obtain ⟨a, e, _, wf⟩ := DataW.trod_int Try.underlying3 h
    exact ⟨a, e, fits_of_wf wf⟩) hf
  exact ⟨A, n, c, xs, rfl, h3, Nat.le_trans h1 h2, h5, h4⟩
end Go.Proofs.Ytomjnepchffkgaa
