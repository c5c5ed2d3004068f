/-
  What slices.Insert does to a row: copies of elements of any size, and the lists that come of them.
-/
import Derived.Test.YtmbgaohnnkmidaaOwnCell
import Derived.Laws.CopyRow
import Derived.Laws.IdiomCopy
import Derived.Lib.AppendZerosOnto
import Derived.Lib.AppendZeros
import Derived.Lib.Overlaps
import Derived.Laws.Externs
import Derived.Laws.NewBlocks
import Derived.Shelf.Spec.SlicesInsert
import Derived.Deep.AppendLies
set_option linter.unusedSimpArgs false
namespace Go.Proofs.Ytmbgaohnnkmidaa
open Go.RowKit
set_option linter.unusedVariables false

theorem run_copy_n {P : Program} (w : World) (dT sT ty elem : TypeId) (sz g o dLen dCap : Nat) (a : Addr) (sLen sCap : Nat) (cur : Array Value) (t : TypeId) (cs : List Value)
    (hu : P.underlying dT = some (.slice elem)) (hs : (P.info? elem).map (·.size) = some sz)
    (hg : w.heap[g]? = some (.cells cur t (0, 0))) (hn : cs.length = Nat.min sLen dLen * sz)
    (hsrc : ∀ j v, cs[j]? = some v → w.cell? (a.add j) = some v) (hfit : o + cs.length ≤ cur.size) (h1 : ∀ v ∈ cs, v.oneCell' = true) :
    (Builtin.copy_ #[dT, sT] ty #[.slice (some ⟨g, o, none⟩) dLen dCap, .slice (some a) sLen sCap]).run P w =
      .ok (goInt (Nat.min sLen dLen)) (w.setRow g (cur.toList.take o ++ cs ++ cur.toList.drop (o + cs.length)).toArray) := by
  have hl := run_loadCells_list (P := P) w a cs hsrc
  have hst := run_storeCells_at P g o t cs 0 cur w hg (by simpa using hfit) h1
  cases hq : P.info? elem with
  | none => simp [hq] at hs
  | some i =>
    have hi : i.size = sz := by simpa [hq] using hs
    simp [Builtin.copy_, run_underlying hu, Builtin.lenOf, Builtin.firstCells, sizeOf, typeInfo, hq, hi, ← hn, hl, hst]

section
variable {α : Type} {C P X D : List α}
theorem ins_in_place (h : C.take (P.length + D.length) = P ++ D) (hl : P.length + X.length + D.length ≤ C.length) :
    let R1 := C.take (P.length + X.length) ++ D ++ C.drop (P.length + X.length + D.length)
    R1.take P.length ++ X ++ R1.drop (P.length + X.length) = P ++ X ++ D ++ C.drop (P.length + X.length + D.length) := by
  intro R1
  have e1 : C.take P.length = P := by
    have := congrArg (List.take P.length) h
    rw [List.take_take, Nat.min_eq_left (by omega), List.take_left'] at this
    · exact this
    · rfl
  have hlen : (C.take (P.length + X.length)).length = P.length + X.length := by rw [List.length_take]; omega
  have e2 : R1.take P.length = P := by
    show (C.take (P.length + X.length) ++ D ++ C.drop (P.length + X.length + D.length)).take P.length = P
    rw [List.append_assoc, List.take_append_of_le_length (by rw [hlen]; omega), List.take_take, Nat.min_eq_left (by omega), e1]
  have e3 : R1.drop (P.length + X.length) = D ++ C.drop (P.length + X.length + D.length) := by
    show (C.take (P.length + X.length) ++ D ++ C.drop (P.length + X.length + D.length)).drop (P.length + X.length) = _
    rw [List.append_assoc, List.drop_append_of_le_length (by rw [hlen]; omega), List.drop_of_length_le (by rw [hlen]; omega)]
    rfl
  rw [e2, e3]
  simp only [List.append_assoc]
theorem ins_new (h : C.take P.length = P) (hl : P.length + X.length + D.length ≤ C.length) :
    let R1 := C.take P.length ++ X ++ C.drop (P.length + X.length)
    R1.take (P.length + X.length) ++ D ++ R1.drop (P.length + X.length + D.length) = P ++ X ++ D ++ C.drop (P.length + X.length + D.length) := by
  intro R1
  have e1 : R1 = P ++ X ++ C.drop (P.length + X.length) := by show C.take P.length ++ X ++ C.drop (P.length + X.length) = _; rw [h]
  have hlen : (P ++ X).length = P.length + X.length := List.length_append
  have e2 : R1.take (P.length + X.length) = P ++ X := by rw [e1, ← hlen, List.take_left' rfl]
  have e3 : R1.drop (P.length + X.length + D.length) = C.drop (P.length + X.length + D.length) := by
    rw [e1, List.drop_append, hlen, List.drop_of_length_le (by rw [hlen]; omega), List.nil_append, List.drop_drop]
    congr 1
    omega
  rw [e2, e3]
end
theorem setRow_below {B g : Nat} {w0 w : World} (hb : Below B w0 w) (hBg : B ≤ g) (cs : Array Value) : Below B w0 (w.setRow g cs) :=
  hb.trans ⟨rfl, rfl, rfl, by simp [World.setRow], fun k hk => setRow_other w g k cs (by omega)⟩
theorem blk_setRow {w : World} {g : Nat} {t : TypeId} {cs : Array Value} (h : Blk w g t cs) (cs' : Array Value) : Blk (w.setRow g cs') g t cs' := setRow_heap w g _ _ t _ h
theorem blk_setRow_far {w : World} {g b : Nat} {t : TypeId} {cs : Array Value} (h : Blk w b t cs) (hne : b ≠ g) (cs' : Array Value) : Blk (w.setRow g cs') b t cs := (setRow_other w g b cs' hne).trans h
theorem row_of_blk {w : World} {base g cap n size : Nat} {t : TypeId} {R : List Value} {xs : List Value} (h : Blk w g t R.toArray) (hl : xs.length = n * size) (hR : R.length = cap * size) (hx : R.take (n * size) = xs) (hn : n ≤ cap) (hm : cap ≤ maxLen) (hb : base ≤ g) :
    w.ownsRow base t size (.slice (some ⟨g, 0, none⟩) n cap) n xs := by
  refine ⟨hl, .inr ⟨g, cap, R.toArray, rfl, hb, h, hn, hm, by simpa using hR, by simpa using hx⟩⟩
end Go.Proofs.Ytmbgaohnnkmidaa
