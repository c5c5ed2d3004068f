/-
  A tariff that came in, opened.
-/
import Derived.Test.YtgmphbkcblkmbaaStTariff
set_option linter.unusedSimpArgs false
namespace Go.Proofs.Ytgmphbkcblkmbaa
open Go.ChangeShapes Go.WideShapes Go.ChangeAt Go.RowKit Go.Deep
set_option linter.unusedVariables false

def tariffFits (v : TariffR) : Prop := (∀ r ∈ v.L, ∀ x ∈ r.xs, fitsI x) ∧ (∀ x ∈ v.z, fitsI x) ∧ (∀ b ∈ v.k, bandFits b) ∧ fitsI v.e ∧ fitsI v.t
section
variable {H : Type} {enc : TypeId × Value → H} {w : World} {base : Nat} {spare : Nat → Bool} {held : Bool}
theorem ints_trod {n : Nat} {cs : List Value} {y : DataW H × List MemPlace} (h : DataW.trod enc Try.prog w base spare held n 24 cs = some y) :
    ∃ r : RowR, cs = rowCells r ∧ RowIn w w.heap.size r ∧ ∀ x ∈ r.xs, fitsI x := by
  rcases open_slice Try.underlying24 h with ⟨hcs, _⟩ | ⟨a, len, cap, m, n', D, Pl, hcs, _, hl, hm, hmm, _, hi⟩
  · exact ⟨⟨none, 0, []⟩, hcs, ⟨Reads.nil _ _ _, Nat.le_refl _, Nat.zero_le _⟩, fun x hx => by cases hx⟩
  · subst hcs
    obtain ⟨h1, h2, xs, h3, h4, h5⟩ := reads_of_slice intCells 1 (fun _ => rfl) (by omega) fitsI Try.underlying24 (by kernel_rfl) (fun n cs y h => by
      obtain ⟨a, e, _, wf⟩ := DataW.trod_int Try.underlying3 h
      exact ⟨a, e, fits_of_wf wf⟩) h
    subst h3
    exact ⟨⟨some a, cap, xs⟩, rfl, ⟨h5, h1, h2⟩, h4⟩
theorem rows_trod {n : Nat} {cs : List Value} {y : DataW H × List MemPlace} (h : DataW.trod enc Try.prog w base spare held n 23 cs = some y) :
    ∃ (A : Option Addr) (c : Nat) (L : List RowR), cs = [.slice A L.length c] ∧ L.length ≤ c ∧ c ≤ maxLen ∧ Table w w.heap.size A L ∧ ∀ r ∈ L, ∀ x ∈ r.xs, fitsI x := by
  rcases open_slice Try.underlying23 h with ⟨hcs, _⟩ | ⟨a, len, cap, m, n', D, Pl, hcs, _, hl, hm, hmm, _, hi⟩
  · exact ⟨none, 0, [], hcs, Nat.le_refl _, Nat.zero_le _, ⟨Reads.nil _ _ _, fun r hr => by cases hr⟩, fun r hr => by cases hr⟩
  · subst hcs
    obtain ⟨h1, h2, L, h3, h4, h5⟩ := reads_of_slice rowCells 1 (fun _ => rfl) (by omega) (fun r : RowR => RowIn w w.heap.size r ∧ ∀ x ∈ r.xs, fitsI x) Try.underlying23 (by kernel_rfl) (fun n cs y h => ints_trod h) h
    subst h3
    exact ⟨some a, cap, L, rfl, h1, h2, ⟨h5, fun r hr => (h4 r hr).1⟩, fun r hr => (h4 r hr).2⟩
theorem bands_trod {n : Nat} {cs : List Value} {y : DataW H × List MemPlace} (h : DataW.trod enc Try.prog w base spare held n 43 cs = some y) :
    ∃ (A : Option Addr) (c : Nat) (k : List Fares.Band), cs = [.slice A k.length c] ∧ k.length ≤ c ∧ c ≤ maxLen ∧ Bands w w.heap.size A k ∧ ∀ b ∈ k, bandFits b := by
  rcases open_slice Try.underlying43 h with ⟨hcs, _⟩ | ⟨a, len, cap, m, n', D, Pl, hcs, _, hl, hm, hmm, _, hi⟩
  · exact ⟨none, 0, [], hcs, Nat.le_refl _, Nat.zero_le _, Reads.nil _ _ _, fun r hr => by cases hr⟩
  · subst hcs
    obtain ⟨h1, h2, L, h3, h4, h5⟩ := reads_of_slice bandCells 2 (fun _ => rfl) (by omega) bandFits Try.underlying43 (by kernel_rfl) (fun _ _ _ h => band_of_cells h) h
    subst h3
    exact ⟨some a, cap, L, rfl, h1, h2, h5, h4⟩
set_option maxRecDepth 100000 in
theorem tariff_open {r : Reach} {b0 : Nat} {v : Value} {d : DataW H} {p : List MemPlace}
    (hv : Value.okWide Try.prog w r b0 45 v) (h : DataW.Trod enc Try.prog w base spare held 45 v d p) : ∃ t : TariffR, v = tariffV t ∧ TariffIn w w.heap.size t ∧ tariffFits t := by
  obtain ⟨cs, rfl, hsz⟩ := okWide_struct Try.underlying45 hv
  obtain ⟨fuel, hf⟩ := h
  obtain ⟨hl, hf⟩ := cells_of_struct Try.underlying45 (by kernel_rfl) (by kernel_rfl) hf
  obtain ⟨v0, y0, n0, c0, r0⟩ := hf 0 _ rfl
  obtain ⟨pA, pc, L, e0, p1, p2, p3, p4⟩ := rows_trod r0
  simp only [List.cons.injEq, and_true] at e0
  subst e0
  obtain ⟨v1, y1, n1, c1, r1⟩ := hf 1 _ rfl
  obtain ⟨z, e1, z1, z2⟩ := ints_trod r1
  unfold rowCells at e1
  simp only [List.cons.injEq, and_true] at e1
  subst e1
  obtain ⟨v2, y2, n2, c2, r2⟩ := hf 2 _ rfl
  obtain ⟨kA, kc, k, e2, k1, k2, k3, k4⟩ := bands_trod r2
  simp only [List.cons.injEq, and_true] at e2
  subst e2
  obtain ⟨v3, y3, n3, c3, r3⟩ := hf 3 _ rfl
  obtain ⟨a3, e3, _, w3⟩ := DataW.trod_int Try.underlying3 r3
  simp only [List.cons.injEq, and_true] at e3
  subst e3
  obtain ⟨v4, y4, n4, c4, r4⟩ := hf 4 _ rfl
  obtain ⟨a4, e4, _, w4⟩ := DataW.trod_int Try.underlying3 r4
  simp only [List.cons.injEq, and_true] at e4
  subst e4
  refine ⟨⟨pA, pc, L, z.A, z.c, z.xs, kA, kc, k, a3, a4⟩, ?_, ⟨p3, z1.1, k3, p1, p2, z1.2.1, z1.2.2, k1, k2⟩, p4, z2, k4, fits_of_wf w3, fits_of_wf w4⟩
  have hc : (Value.agg cs).cells = cs := rfl
  rw [hc] at hl c0 c1 c2 c3 c4
  have e : cs = #[.slice pA L.length pc, .slice z.A z.xs.length z.c, .slice kA k.length kc, .int .i64 a3, .int .i64 a4] := by
    obtain ⟨l⟩ := cs
    match l, hl with
    | [x0, x1, x2, x3, x4], _ =>
      simp only [List.getElem?_cons_zero, List.getElem?_cons_succ, Option.some.injEq] at c0 c1 c2 c3 c4
      subst c0 c1 c2 c3 c4
      rfl
  rw [e]
  rfl
end
end Go.Proofs.Ytgmphbkcblkmbaa
