/-
  What every law over one []byte needs: the argument opened, and read again behind the call.
-/
import Derived.Test.YtllhjgheffemnaaOpen
import Derived.Test.YtllhjgheffemnaaReader
import Derived.ProofKit
import Derived.OpenShut
import Derived.Carry
set_option linter.unusedSimpArgs false
set_option linter.unusedVariables false
namespace Go.Proofs.Ytllhjgheffemnaa
open Go.ChangeShapes Go.WideShapes Go.ChangeAt Go.RowKit

theorem cells_u8 : Try.prog.cellsOf 5 = 1 := by kernel_rfl

theorem opened {H : Type} {enc : TypeId × Value → H} {W : World} {a0 : Option Addr} {len cap : Nat} {d0 : DataW H} {p : List MemPlace}
    (h0 : DataW.Trod enc Try.prog W 0 (fun _ => true) true 22 (.slice a0 len cap) d0 p) (hlt : ∀ x ∈ p, x.block < W.heap.size) :
    Bytes W W.heap.size a0 len cap ∧ ∀ (W' : World), Below W.heap.size W W' → DataW.Trod enc Try.prog W' 0 (fun b => decide (b < W.heap.size)) true 22 (.slice a0 len cap) d0 p := by
  refine ⟨?_, fun W' hn => Below.trod Cells.laidOut (by kernel_rfl) (of_decide_eq_true (by kernel_rfl)) h0 hn hlt⟩
  obtain ⟨fuel, hf⟩ := h0
  rcases open_ints Try.underlying22 Try.underlying5 cells_u8 hf with ⟨hcs, hx⟩ | ⟨a, len', cap', zs, hcs, _, hl, hm, hz, hx, hcell, hwz⟩
  · simp [Value.cells] at hcs
    obtain ⟨rfl, rfl, rfl⟩ := hcs
    exact ⟨Nat.le_refl _, by omega, [], rfl, (fun x hx => by cases hx), Reads.nil _ _ _⟩
  · simp [Value.cells] at hcs
    obtain ⟨rfl, rfl, rfl⟩ := hcs
    simp only [if_true] at hz
    unfold maxLen at hm
    have hcl : ∀ i, i < zs.length → a.block < W.heap.size := fun i hi => by have := World.block_lt_of_cell? _ _ (hcell i hi); rwa [add_block] at this
    refine ⟨hl, hm, zs.take len, by simp; omega, fun x hx => ?_, fun hne => ⟨a, rfl, ?_, fun i u hu => ?_⟩⟩
    · have h := hwz x (List.mem_of_mem_take hx)
      have h1 : IntKind.u8.min = 0 := rfl
      have h2 : IntKind.u8.max = 255 := rfl
      simp only [Lit.wf, Bool.and_eq_true, decide_eq_true_eq] at h
      omega
    · exact hcl 0 (by
        rcases Nat.eq_zero_or_pos zs.length with h | h
        · exact absurd (by rw [List.eq_nil_of_length_eq_zero h]; simp) hne
        · exact h)
    · rw [List.getElem?_map, List.getElem?_take] at hu
      split at hu
      · have hi : i < zs.length := by omega
        rw [List.getElem?_eq_getElem hi] at hu
        simp only [Option.map_some, Option.some.injEq] at hu
        subst hu
        rw [hcell i hi, List.getD_eq_getElem?_getD, List.getElem?_eq_getElem hi]
        rfl
      · simp at hu
end Go.Proofs.Ytllhjgheffemnaa
