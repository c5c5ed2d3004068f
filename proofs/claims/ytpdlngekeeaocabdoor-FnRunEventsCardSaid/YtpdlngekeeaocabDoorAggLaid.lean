/-
  What the rows' lists of variables give: the two tables of aggregates, cell for cell.
-/
import Derived.Test.YtpdlngekeeaocabDoorAggStep2
import Derived.Test.YtpdlngekeeaocabDoorOpen
import Derived.LaidLaws
import Derived.ChangeArms
import Derived.Lib.LaidTab
import Derived.Stop.LaidErr
import Derived.OpenVars
set_option linter.unusedSimpArgs false
namespace Go.Proofs.YtpdlngekeeaocabDoor
open Go.ChangeShapes Go.WideShapes Go.ChangeAt Go.RowKit Go.Deep
set_option linter.unusedVariables false

def litI {H : Type} (z : Int) : DataW H := .lit (.int .i64 z)
section
variable {H : Type} {enc : TypeId × Value → H} {w : World} {base : Nat} {sp : Nat → Bool} {held : Bool}
theorem ints_of_struct {e : TypeId} {fs : Array Field} (he : Tryd.prog.underlying e = some (.struct fs)) (hone : oneCellFields Tryd.prog fs = true) (hC : Tryd.prog.cellsOf e = fs.size)
    (hint : ∀ (j : Nat) (f : Field), fs[j]? = some f → Tryd.prog.underlying f.type = some (.int .i64)) {n : Nat} {cs : List Value} {zs : List Int} {p : List MemPlace}
    (h : DataW.trod enc Tryd.prog w base sp held n e cs = some (.agg (zs.map litI), p)) : cs = zs.map (Value.int .i64) := by
  obtain ⟨xs, n', _, hx, hlen, hxl, hf⟩ := DataW.trod_struct he h
  have hxs : xs.map (·.1) = zs.map litI := by
    have := congrArg Prod.fst hx
    simpa using this.symm
  have hzl : zs.length = fs.size := by
    have := congrArg List.length hxs
    simp at this
    omega
  rw [hC] at hlen
  apply List.ext_getElem?
  intro j
  by_cases hj : j < fs.size
  · obtain ⟨ho, hk⟩ := hone_of hone j _ (Array.getElem?_eq_getElem hj)
    have h1 := hf j _ (Array.getElem?_eq_getElem hj)
    have hd : (cs.drop fs[j].offset).take (Tryd.prog.cellsOf fs[j].type) = [cs[j]'(by omega)] := by
      rw [ho, hk, List.drop_eq_getElem_cons (by omega)]
      rfl
    rw [hd, List.getElem?_eq_getElem (by omega)] at h1
    obtain ⟨z, hc, hz, _⟩ := DataW.trod_int (hint j _ (Array.getElem?_eq_getElem hj)) h1
    have h2 : (xs.map (·.1))[j]? = some (DataW.lit (.int .i64 z)) := by
      rw [List.getElem?_map, List.getElem?_eq_getElem (by omega), Option.map_some, hz]
    rw [hxs, List.getElem?_map, List.getElem?_eq_getElem (by omega)] at h2
    simp only [Option.map_some, litI, Option.some.injEq, DataW.lit.injEq, Lit.int.injEq, true_and] at h2
    rw [List.getElem?_eq_getElem (by omega), List.getElem?_map, List.getElem?_eq_getElem (by omega)]
    simp only [List.cons.injEq, and_true] at hc
    rw [hc, Option.map_some, h2]
  · rw [List.getElem?_eq_none (by omega), List.getElem?_eq_none (by simp; omega)]
theorem rows_of_array {t e : TypeId} {k : Nat} (ht : Tryd.prog.underlying t = some (.array k e)) (hce : Tryd.prog.cellsOf e = 4) (hct : Tryd.prog.cellsOf t = k * 4)
    (hrow : ∀ (n : Nat) (cs : List Value) (zs : List Int) (p : List MemPlace), DataW.trod enc Tryd.prog w base sp held n e cs = some (.agg (zs.map litI), p) → cs = zs.map (Value.int .i64))
    {n : Nat} {cs : List Value} {zss : List (List Int)} {p : List MemPlace}
    (h : DataW.trod enc Tryd.prog w base sp held n t cs = some (.agg (zss.map fun zs => .agg (zs.map litI)), p)) : cs.length = k * 4 ∧ ∀ (i : Nat) (zs : List Int), zss[i]? = some zs → i < k → (cs.drop (i * 4)).take 4 = zs.map (Value.int .i64) := by
  cases n with
  | zero => simp [DataW.trod] at h
  | succ n =>
    simp only [DataW.trod, ht, hce, hct] at h
    split at h
    · rename_i hl
      obtain ⟨xs, hm, hx⟩ := Option.map_eq_some_iff.1 h
      have hxs : xs.map (·.1) = zss.map fun zs => (DataW.agg (zs.map litI) : DataW H) := by
        have := congrArg Prod.fst hx
        simpa using this
      refine ⟨by simpa using hl, fun i zs hi hik => ?_⟩
      obtain ⟨b, hb, hf⟩ := Lib.mapM_at hm i i (by simp [hik])
      have h2 : (xs.map (·.1))[i]? = some b.1 := by rw [List.getElem?_map, hb]; rfl
      rw [hxs, List.getElem?_map, hi] at h2
      simp only [Option.map_some, Option.some.injEq] at h2
      obtain ⟨b1, b2⟩ := b
      dsimp only at h2
      subst h2
      exact hrow _ _ _ _ hf
    · cases h
end
def limitRows : List (List Int) := [[0, 100000, 0, 0], [1, 100000, 0, 3], [1, 100000, 1, 4], [1, 100000, 1, 4], [0, 0, 0, 0], [1, 100000, 4, 4]]
def stepRows : List (List Int) := [[0, 1, 0, 0], [0, 2, 1, 0], [1, 3, 2, 1], [2, 4, 3, 0], [2, 5, 1, 0], [2, 6, 1, 0]]
theorem cells_24 {cs : List Value} {zss : List (List Int)} (hlen : cs.length = 6 * 4) (hz : zss.length = 6) (h : ∀ (i : Nat) (zs : List Int), zss[i]? = some zs → i < 6 → (cs.drop (i * 4)).take 4 = zs.map (Value.int .i64)) :
    cs = zss.flatMap fun zs => zs.map (Value.int .i64) := by
  match zss, hz with
  | [a, b, c, d, e, f], _ =>
    have h0 := h 0 a rfl (by omega)
    have h1 := h 1 b rfl (by omega)
    have h2 := h 2 c rfl (by omega)
    have h3 := h 3 d rfl (by omega)
    have h4 := h 4 e rfl (by omega)
    have h5 := h 5 f rfl (by omega)
    simp only [List.flatMap_cons, List.flatMap_nil, List.append_nil]
    rw [← h0, ← h1, ← h2, ← h3, ← h4, ← h5]
    have cut : ∀ k, cs.drop k = (cs.drop k).take 4 ++ cs.drop (k + 4) := fun k => by
      have := (List.take_append_drop 4 (cs.drop k)).symm
      rwa [List.drop_drop] at this
    have e5 : cs.drop 20 = (cs.drop 20).take 4 := by rw [List.take_of_length_le (by simp; omega)]
    show cs = (cs.drop 0).take 4 ++ ((cs.drop 4).take 4 ++ ((cs.drop 8).take 4 ++ ((cs.drop 12).take 4 ++ ((cs.drop 16).take 4 ++ (cs.drop 20).take 4))))
    rw [← e5, ← cut 16, ← cut 12, ← cut 8, ← cut 4, ← cut 0]
    rfl
theorem var_row {w : World} {n : String} {g : Nat} {cs : Array Value} (hg : Tryd.prog.globalNamed n = some g) (hv : w.var? Tryd.prog n = some cs) (hr : ∃ c t, w.heap[g]? = some (.cells c t (0, 0))) : ∃ t, Blk w g t cs := by
  obtain ⟨c, t, hh⟩ := hr
  unfold World.var? at hv
  rw [hg] at hv
  simp only [Option.bind_some, hh] at hv
  simp at hv
  subst hv
  exact ⟨t, hh⟩
theorem limits_of_head {W : World} {d : DataW Unit} {rest : List (String × DataW Unit)} (hd : d = .agg (limitRows.map fun zs => .agg (zs.map litI))) (h : laidMet Tryd.prog (("loop.example/transitfares/impl.stateLimits", d) :: rest) W) : Limits W := by
  obtain ⟨ps, ⟨g, t, cs, fuel, p, q, hg, ht, hvar, htr, _, hps⟩, _, hrows⟩ := h
  obtain rfl := Option.some.inj ((show Tryd.prog.globalNamed "loop.example/transitfares/impl.stateLimits" = some 0 by kernel_rfl).symm.trans hg)
  obtain rfl := Option.some.inj ((show (Tryd.prog.globals[0]?).map (·.type) = some 52 by kernel_rfl).symm.trans ht)
  subst hd
  obtain ⟨hl, hr⟩ := rows_of_array Tryd.underlying52 (by kernel_rfl) (by kernel_rfl) (fun n cs zs p h => ints_of_struct Tryd.underlying51 (by kernel_rfl) (by kernel_rfl) (fun j f hj => by
    match j, hj with
    | 0, hj | 1, hj | 2, hj | 3, hj => simp at hj; subst hj; exact Tryd.underlying3
    | j + 4, hj => simp at hj) h) htr
  have hc := cells_24 hl rfl hr
  have hcs : cs = limitCells := by
    cases cs with
    | mk l =>
      dsimp only at hc
      rw [hc]
      rfl
  subst hcs
  exact var_row hg hvar (hrows 0 0 (by rw [hps]; simp [MemPlace.row, limitCells])).1
theorem steps_of_head {W : World} {d : DataW Unit} {rest : List (String × DataW Unit)} (hd : d = .agg (stepRows.map fun zs => .agg (zs.map litI))) (h : laidMet Tryd.prog (("loop.example/transitfares/impl.sumSteps", d) :: rest) W) : Steps W := by
  obtain ⟨ps, ⟨g, t, cs, fuel, p, q, hg, ht, hvar, htr, _, hps⟩, _, hrows⟩ := h
  obtain rfl := Option.some.inj ((show Tryd.prog.globalNamed "loop.example/transitfares/impl.sumSteps" = some 1 by kernel_rfl).symm.trans hg)
  obtain rfl := Option.some.inj ((show (Tryd.prog.globals[1]?).map (·.type) = some 55 by kernel_rfl).symm.trans ht)
  subst hd
  obtain ⟨hl, hr⟩ := rows_of_array Tryd.underlying55 (by kernel_rfl) (by kernel_rfl) (fun n cs zs p h => ints_of_struct Tryd.underlying45 (by kernel_rfl) (by kernel_rfl) (fun j f hj => by
    match j, hj with
    | 0, hj | 1, hj | 2, hj | 3, hj => simp at hj; subst hj; exact Tryd.underlying3
    | j + 4, hj => simp at hj) h) htr
  have hc := cells_24 hl rfl hr
  have hcs : cs = stepCells := by
    cases cs with
    | mk l =>
      dsimp only at hc
      rw [hc]
      rfl
  subst hcs
  exact var_row hg hvar (hrows 1 0 (by rw [hps]; simp [MemPlace.row, stepCells])).1
theorem vars1 {H : Type} {enc : TypeId × Value → H} {w : World} {sp : Nat → Bool} {n : String} {gs : List (DataW H)} {ps : List MemPlace} (h : DataW.TrodVars enc Tryd.prog w sp [n] gs ps) : ∃ d, gs = [d] := by
  match gs, h with
  | [d], _ => exact ⟨d, rfl⟩
  | [], h => exact h.elim
  | _ :: _ :: _, h => obtain ⟨_, _, _, _, _, _, _, _, _, _, hq, _⟩ := h; exact hq.elim
theorem vars2 {H : Type} {enc : TypeId × Value → H} {w : World} {sp : Nat → Bool} {n m : String} {gs : List (DataW H)} {ps : List MemPlace} (h : DataW.TrodVars enc Tryd.prog w sp [n, m] gs ps) : ∃ d e, gs = [d, e] := by
  match gs, h with
  | [], h => exact h.elim
  | d :: r, h =>
    obtain ⟨_, _, _, _, _, _, _, _, _, _, hq, _⟩ := h
    obtain ⟨e, rfl⟩ := vars1 hq
    exact ⟨d, e, rfl⟩
end Go.Proofs.YtpdlngekeeaocabDoor
