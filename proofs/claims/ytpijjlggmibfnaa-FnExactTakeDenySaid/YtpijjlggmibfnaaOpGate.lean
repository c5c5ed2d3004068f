/-
  Gate that came in, opened.
-/
import Derived.Test.YtpijjlggmibfnaaStGate
import Derived.Test.YtpijjlggmibfnaaPieces
import Derived.Test.YtpijjlggmibfnaaOpDeny
set_option linter.unusedSimpArgs false
namespace Go.Proofs.Ytpijjlggmibfnaa
open Go.ChangeShapes Go.WideShapes Go.ChangeAt Go.RowKit Go.Deep
set_option linter.unusedVariables false
section
variable {H : Type} {enc : TypeId × Value → H} {w : World} {base : Nat} {spare : Nat → Bool} {held : Bool}
theorem taps_trodGate {n : Nat} {cs : List Value} {y : DataW H × List MemPlace} (h : DataW.trod enc Try.prog w base spare held n 45 cs = some y) :
    ∃ (A : Option Addr) (c : Nat) (xs : List Fares.Tap), cs = [.slice A xs.length c] ∧ (Reads w w.heap.size A (xs.flatMap tapCells) ∧ xs.length ≤ c ∧ c ≤ maxLen ∧ NilOk A xs.length c) ∧ ∀ x ∈ xs, tapFits x := by
  rcases open_slice Try.underlying45 h with ⟨hcs, _⟩ | ⟨a, len, cap, m, n', D, Pl, hcs, _, hl, hm, hmm, _, hi⟩
  · exact ⟨none, 0, [], hcs, ⟨Reads.nil _ _ _, Nat.le_refl _, Nat.zero_le _, fun _ => ⟨rfl, rfl⟩⟩, fun r hr => by cases hr⟩
  · subst hcs
    obtain ⟨h1, h2, L, h3, h4, h5⟩ := reads_of_slice tapCells 6 (fun _ => rfl) (by omega) tapFits Try.underlying45 (by kernel_rfl) (fun _ _ _ h => tap_of_cells h) h
    subst h3
    exact ⟨some a, cap, L, rfl, ⟨h5, h1, h2, fun e => by cases e⟩, h4⟩
set_option maxRecDepth 100000 in
theorem gate_trod {n : Nat} {cs : List Value} {y : DataW H × List MemPlace} (h : DataW.trod enc Try.prog w base spare held n 47 cs = some y) :
    ∃ t : GateR, cs = [.int .i64 t.val, .int .i64 t.nxt, .int .i64 t.deny.ver, .slice t.deny.cardsA t.deny.cards.length t.deny.cardsc, .slice t.keptA t.kept.length t.keptc] ∧ GateIn w w.heap.size t ∧ gateFits t := by
  obtain ⟨hl, hf⟩ := pieces_of_struct (N := 5) Try.underlying47 (by kernel_rfl) h
  match cs, hl with
  | [x0, x1, x2, x3, x4], _ =>
    obtain ⟨y0, n0, r0⟩ := hf 0 _ 0 1 rfl (by kernel_rfl) (by kernel_rfl)
    simp only [List.drop_succ_cons, List.drop_zero, List.take_succ_cons, List.take_zero] at r0
    obtain ⟨a0, e0, _, w0⟩ := DataW.trod_int Try.underlying3 r0
    simp only [List.cons.injEq, and_true] at e0
    subst e0
    obtain ⟨y1, n1, r1⟩ := hf 1 _ 1 1 rfl (by kernel_rfl) (by kernel_rfl)
    simp only [List.drop_succ_cons, List.drop_zero, List.take_succ_cons, List.take_zero] at r1
    obtain ⟨a1, e1, _, w1⟩ := DataW.trod_int Try.underlying3 r1
    simp only [List.cons.injEq, and_true] at e1
    subst e1
    obtain ⟨y2, n2, r2⟩ := hf 2 _ 2 2 rfl (by kernel_rfl) (by kernel_rfl)
    simp only [List.drop_succ_cons, List.drop_zero, List.take_succ_cons, List.take_zero] at r2
    obtain ⟨a2, e2, i2, w2⟩ := deny_trod r2
    simp only [List.cons.injEq, and_true] at e2
    obtain ⟨rfl, rfl⟩ := e2
    obtain ⟨y3, n3, r3⟩ := hf 3 _ 4 1 rfl (by kernel_rfl) (by kernel_rfl)
    simp only [List.drop_succ_cons, List.drop_zero, List.take_succ_cons, List.take_zero] at r3
    obtain ⟨A3, c3, a3, e3, i3, w3⟩ := taps_trodGate r3
    simp only [List.cons.injEq, and_true] at e3
    subst e3
    exact ⟨⟨a0, a1, a2, A3, c3, a3⟩, rfl, ⟨i2, i3⟩, ⟨fits_of_wf w0, fits_of_wf w1, w2, w3⟩⟩
set_option maxRecDepth 100000 in
theorem gate_open {r : Reach} {b0 : Nat} {v : Value} {d : DataW H} {p : List MemPlace}
    (hv : Value.okWide Try.prog w r b0 47 v) (h : DataW.Trod enc Try.prog w base spare held 47 v d p) : ∃ t : GateR, v = gateV t ∧ GateIn w w.heap.size t ∧ gateFits t := by
  obtain ⟨cs, rfl, hsz⟩ := okWide_struct Try.underlying47 hv
  obtain ⟨fuel, hf⟩ := h
  obtain ⟨t, e, hi, hw⟩ := gate_trod hf
  have hc : (Value.agg cs).cells = cs := rfl
  rw [hc] at e
  refine ⟨t, ?_, hi, hw⟩
  obtain ⟨q⟩ := cs
  change q = _ at e
  subst e
  rfl
end
end Go.Proofs.Ytpijjlggmibfnaa
