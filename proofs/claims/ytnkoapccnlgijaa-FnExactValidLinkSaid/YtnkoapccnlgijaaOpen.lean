/-
  Arguments opened: structs of one-cell fields, and slices of them, as cells; any argument read again behind a call that only makes memory.
-/
import Derived.Test.YtnkoapccnlgijaaCells
import Derived.Test.YtnkoapccnlgijaaMem
import Derived.ProofKit
import Derived.OpenShut
import Derived.Carry
import Derived.Deep.Slices
import Derived.Deep.Fields
import Derived.Lib.SmallJoins
set_option linter.unusedSimpArgs false
namespace Go.Proofs.Ytnkoapccnlgijaa
open Go.ChangeShapes Go.WideShapes Go.ChangeAt Go.RowKit Go.Deep
set_option linter.unusedVariables false

/-- The call returns true, and leaves all memory that was there. -/
def TrueBelow (w : World) (e : Ending) (w' : World) : Prop := e = .returned (.bool true) ∧ Below w.heap.size w w'
def fitsI (x : Int) : Prop := -9223372036854775808 ≤ x ∧ x ≤ 9223372036854775807
theorem fits_of_wf {x : Int} (h : (Lit.int .i64 x).wf = true) : fitsI x := by
  have h1 : IntKind.i64.min = -9223372036854775808 := rfl
  have h2 : IntKind.i64.max = 9223372036854775807 := rfl
  simp only [Lit.wf, Bool.and_eq_true, decide_eq_true_eq] at h
  unfold fitsI
  omega

section
variable {H : Type} {enc : TypeId × Value → H} {w : World} {base : Nat} {spare : Nat → Bool} {held : Bool}

theorem cells_of_struct {e : TypeId} {fs : Array Field} (he : Try.prog.underlying e = some (.struct fs)) (hone : oneCellFields Try.prog fs = true) (hC : Try.prog.cellsOf e = fs.size)
    {n : Nat} {cs : List Value} {x : DataW H × List MemPlace} (h : DataW.trod enc Try.prog w base spare held n e cs = some x) :
    cs.length = fs.size ∧ ∀ (j : Nat) (f : Field), fs[j]? = some f → ∃ (v : Value) (y : DataW H × List MemPlace) (n : Nat), cs[j]? = some v ∧ DataW.trod enc Try.prog w base spare held n f.type [v] = some y := by
  obtain ⟨ys, n', _, _, hlen, hyl, hf⟩ := DataW.trod_struct he h
  rw [hC] at hlen
  refine ⟨hlen, fun j f hj => ?_⟩
  obtain ⟨ho, hk⟩ := hone_of hone j f hj
  have hjl : j < fs.size := (Array.getElem?_eq_some_iff.1 hj).1
  have h1 := hf j f hj
  have hd : (cs.drop f.offset).take (Try.prog.cellsOf f.type) = [cs[j]'(by omega)] := by
    rw [ho, hk, List.drop_eq_getElem_cons (by omega)]
    rfl
  rw [hd, List.getElem?_eq_getElem (by omega)] at h1
  exact ⟨_, _, n', List.getElem?_eq_getElem (by omega), h1⟩

theorem list_of {T : Type} {Q : Nat → T → Prop} : ∀ n : Nat, (∀ i, i < n → ∃ x, Q i x) → ∃ xs : List T, xs.length = n ∧ ∀ (i : Nat) (x : T), xs[i]? = some x → Q i x
  | 0, _ => ⟨[], rfl, fun i x h => by simp at h⟩
  | n + 1, h => by
    obtain ⟨xs, hl, hq⟩ := list_of n (fun i hi => h i (by omega))
    obtain ⟨y, hy⟩ := h n (by omega)
    refine ⟨xs ++ [y], by simp [hl], fun i x hx => ?_⟩
    rw [List.getElem?_append] at hx
    split at hx
    · exact hq i x hx
    · rename_i hi
      have : i = n := by
        rcases Nat.lt_or_ge (i - xs.length) 1 with h | h
        · omega
        · rw [List.getElem?_eq_none (by simpa using h)] at hx; cases hx
      subst this
      rw [hl] at hx
      simp at hx
      subst hx
      exact hy

theorem length_flat {T : Type} (f : T → List Value) (s : Nat) (hf : ∀ x, (f x).length = s) (xs : List T) : (xs.flatMap f).length = xs.length * s := by
  induction xs with
  | nil => simp
  | cons y ys ih => simp [ih, hf, Nat.succ_mul]; omega

theorem reads_of_slice {T : Type} (f : T → List Value) (s : Nat) (hf : ∀ x, (f x).length = s) (hs : 0 < s) (Q : T → Prop) {t e : TypeId} (ht : Try.prog.underlying t = some (.slice e)) (hC : Try.prog.cellsOf e = s)
    (hel : ∀ (n : Nat) (cs : List Value) (y : DataW H × List MemPlace), DataW.trod enc Try.prog w base spare held n e cs = some y → ∃ x : T, cs = f x ∧ Q x)
    {fuel : Nat} {A : Option Addr} {len cap : Nat} {x : DataW H × List MemPlace} (h : DataW.trod enc Try.prog w base spare held fuel t [.slice A len cap] = some x) :
    len ≤ cap ∧ cap ≤ maxLen ∧ ∃ xs : List T, xs.length = len ∧ (∀ x ∈ xs, Q x) ∧ Reads w w.heap.size A (xs.flatMap f) := by
  rcases open_slice ht h with ⟨hcs, _⟩ | ⟨a, len', cap', m, n, D, Pl, hcs, _, hl, hm, hmm, _, hi⟩
  · simp at hcs
    obtain ⟨rfl, rfl, rfl⟩ := hcs
    exact ⟨Nat.le_refl _, Nat.zero_le _, [], rfl, (fun x hx => by cases hx), Reads.nil _ _ _⟩
  · simp at hcs
    obtain ⟨rfl, rfl, rfl⟩ := hcs
    have hlm : len ≤ m := by rw [hmm]; split <;> omega
    have hx : ∀ i, i < len → ∃ x : T, Q x ∧ ∀ j, j < s → w.cell? (a.add (i * s + j)) = (f x)[j]? := fun i hi' => by
      obtain ⟨cs', hc, ht'⟩ := hi i (by omega)
      obtain ⟨x, rfl, hq⟩ := hel _ _ _ ht'
      rw [hC] at hc
      obtain ⟨_, hcl, hat⟩ := World.cells?_some hc
      exact ⟨x, hq, fun j hj => by rw [← hat j hj, add_add']⟩
    obtain ⟨xs, hxl, hxs⟩ := list_of len hx
    refine ⟨hl, hm, xs, hxl, fun x hx => ?_, fun hne => ?_⟩
    · obtain ⟨i, hi⟩ := List.getElem?_of_mem hx
      exact (hxs i x hi).1
    · have hlen := length_flat f s hf xs
      have hp : 0 < xs.length := by
        rcases Nat.eq_zero_or_pos xs.length with h0 | h0
        · rw [List.eq_nil_of_length_eq_zero h0] at hne; exact absurd rfl hne
        · exact h0
      have hget : ∀ i u, (xs.flatMap f)[i]? = some u → w.cell? (a.add i) = some u := fun i u hu => by
        have hlt : i < xs.length * s := by
          rw [← hlen]
          exact (List.getElem?_eq_some_iff.1 hu).1
        have hi0 : i / s < xs.length := (Nat.div_lt_iff_lt_mul hs).2 hlt
        have e : i = i / s * s + i % s := by have := Nat.div_add_mod i s; rw [Nat.mul_comm] at this; omega
        have hr := Nat.mod_lt i hs
        rw [e, flat_get f s hf xs _ _ hr, List.getElem?_eq_getElem hi0] at hu
        rw [e, (hxs (i / s) _ (List.getElem?_eq_getElem hi0)).2 _ hr]
        exact hu
      refine ⟨a, rfl, ?_, hget⟩
      have h0 : 0 < (xs.flatMap f).length := by rw [hlen]; exact Nat.mul_pos hp hs
      have := World.block_lt_of_cell? _ _ (hget 0 _ (List.getElem?_eq_getElem h0))
      rwa [add_block] at this
end
end Go.Proofs.Ytnkoapccnlgijaa
