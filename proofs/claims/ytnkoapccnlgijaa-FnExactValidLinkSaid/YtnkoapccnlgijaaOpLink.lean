/-
  Link that came in, opened.
-/
import Derived.Test.YtnkoapccnlgijaaStLink
import Derived.Test.YtnkoapccnlgijaaPieces
set_option linter.unusedSimpArgs false
namespace Go.Proofs.Ytnkoapccnlgijaa
open Go.ChangeShapes Go.WideShapes Go.ChangeAt Go.RowKit Go.Deep
set_option linter.unusedVariables false
section
variable {H : Type} {enc : TypeId × Value → H} {w : World} {base : Nat} {spare : Nat → Bool} {held : Bool}
theorem calls_trodLink {n : Nat} {cs : List Value} {y : DataW H × List MemPlace} (h : DataW.trod enc Try.prog w base spare held n 22 cs = some y) :
    ∃ (A : Option Addr) (c : Nat) (xs : List Fares.Call), cs = [.slice A xs.length c] ∧ (Reads w w.heap.size A (xs.flatMap callCells) ∧ xs.length ≤ c ∧ c ≤ maxLen ∧ NilOk A xs.length c) ∧ ∀ x ∈ xs, callFits x := by
  rcases open_slice Try.underlying22 h with ⟨hcs, _⟩ | ⟨a, len, cap, m, n', D, Pl, hcs, _, hl, hm, hmm, _, hi⟩
  · exact ⟨none, 0, [], hcs, ⟨Reads.nil _ _ _, Nat.le_refl _, Nat.zero_le _, fun _ => ⟨rfl, rfl⟩⟩, fun r hr => by cases hr⟩
  · subst hcs
    obtain ⟨h1, h2, L, h3, h4, h5⟩ := reads_of_slice callCells 3 (fun _ => rfl) (by omega) callFits Try.underlying22 (by kernel_rfl) (fun _ _ _ h => call_of_cells h) h
    subst h3
    exact ⟨some a, cap, L, rfl, ⟨h5, h1, h2, fun e => by cases e⟩, h4⟩
set_option maxRecDepth 100000 in
theorem link_trod {n : Nat} {cs : List Value} {y : DataW H × List MemPlace} (h : DataW.trod enc Try.prog w base spare held n 24 cs = some y) :
    ∃ t : LinkR, cs = [.int .i64 t.nxt, .slice t.opnA t.opn.length t.opnc] ∧ LinkIn w w.heap.size t ∧ linkFits t := by
  obtain ⟨hl, hf⟩ := pieces_of_struct (N := 2) Try.underlying24 (by kernel_rfl) h
  match cs, hl with
  | [x0, x1], _ =>
    obtain ⟨y0, n0, r0⟩ := hf 0 _ 0 1 rfl (by kernel_rfl) (by kernel_rfl)
    simp only [List.drop_succ_cons, List.drop_zero, List.take_succ_cons, List.take_zero] at r0
    obtain ⟨a0, e0, _, w0⟩ := DataW.trod_int Try.underlying3 r0
    simp only [List.cons.injEq, and_true] at e0
    subst e0
    obtain ⟨y1, n1, r1⟩ := hf 1 _ 1 1 rfl (by kernel_rfl) (by kernel_rfl)
    simp only [List.drop_succ_cons, List.drop_zero, List.take_succ_cons, List.take_zero] at r1
    obtain ⟨A1, c1, a1, e1, i1, w1⟩ := calls_trodLink r1
    simp only [List.cons.injEq, and_true] at e1
    subst e1
    exact ⟨⟨a0, A1, c1, a1⟩, rfl, i1, ⟨fits_of_wf w0, w1⟩⟩
set_option maxRecDepth 100000 in
theorem link_open {r : Reach} {b0 : Nat} {v : Value} {d : DataW H} {p : List MemPlace}
    (hv : Value.okWide Try.prog w r b0 24 v) (h : DataW.Trod enc Try.prog w base spare held 24 v d p) : ∃ t : LinkR, v = linkV t ∧ LinkIn w w.heap.size t ∧ linkFits t := by
  obtain ⟨cs, rfl, hsz⟩ := okWide_struct Try.underlying24 hv
  obtain ⟨fuel, hf⟩ := h
  obtain ⟨t, e, hi, hw⟩ := link_trod hf
  have hc : (Value.agg cs).cells = cs := rfl
  rw [hc] at e
  refine ⟨t, ?_, hi, hw⟩
  obtain ⟨q⟩ := cs
  change q = _ at e
  subst e
  rfl
end
end Go.Proofs.Ytnkoapccnlgijaa
