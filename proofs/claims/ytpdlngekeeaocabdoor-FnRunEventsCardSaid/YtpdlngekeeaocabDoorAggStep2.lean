/-
  Contracts over events of aggregates: StepSum on both sides.
-/
import Derived.Test.YtpdlngekeeaocabDoorAggStep
import Derived.Test.YtpdlngekeeaocabDoorAggFn
set_option linter.unusedSimpArgs false
namespace Go.Proofs.YtpdlngekeeaocabDoor
open Go.RowKit
set_option linter.unusedVariables false

theorem sumV_eq (y : Fares.Sum) : sumV y = .agg #[.int .i64 y.s, .int .i64 y.a, .int .i64 y.t] := rfl
theorem eventV_eq (y : Fares.Event) : eventV y = .agg #[.int .i64 y.k, .int .i64 y.a] := rfl
/-- What an aggregate becomes, and whether that is possible. -/
def StepOut (w : World) (p : Fares.Sum × Bool) (r : Ending) (w' : World) : Prop := r = .returned (.tuple #[sumV p.1, .bool p.2]) ∧ Below w.heap.size w w'

def Steps (w : World) : Prop := ∃ t, Blk w 1 t stepCells
theorem Steps.below {w w' : World} (h : Steps w) (hb : Below w.heap.size w w') : Steps w' := by
  obtain ⟨t, h⟩ := h
  exact ⟨t, h.below hb h.lt⟩
set_option maxHeartbeats 1000000 in
theorem canAdd_any (x : Fares.Sum) (n : Int) (w : World) (h0 : 0 ≤ x.a) (h1 : x.a ≤ 100000) :
    Calls Tryd.prog 27 #[sumV x, .int .i64 n] w fun r w' => r = .returned (.bool (decide (0 ≤ n ∧ n ≤ 100000 - x.a))) ∧ Below w.heap.size w w' := by
  rw [sumV_eq x]
  go_enter Tryd.func27, Tryd.ntmps27
  go_wp2
  all_goals (go_ret; refine ⟨ret_bool ?_, (by repeat (first | exact Below.refl _ _ | refine bA ?_ _ | refine bD ?_ _ | refine bD1 ?_ | refine bS ?_ (by simp) _))⟩; exact (by rw [Bool.eq_iff_iff]; simp only [ge_iff_le, beq_iff_eq, beq_eq_false_iff_ne, ne_eq, Bool.not_eq_false', Bool.not_eq_eq_eq_not, Bool.not_true, Bool.not_false, decide_eq_true_eq, decide_eq_false_iff_not, Bool.and_eq_true, Bool.or_eq_true, Bool.false_eq_true, Bool.true_eq_false, Bool.not_eq_true', true_iff, iff_true, false_iff, iff_false, Bool.not_eq_true, Bool.not_eq_false, Bool.and_eq_false_imp] at *; omega))
def settle (x : Fares.Sum) : Fares.Sum := if x.s = 1 ∧ x.a = 0 then ⟨4, x.a, x.t⟩ else if x.s = 1 ∧ x.t = 4 then ⟨5, x.a, x.t⟩ else x
set_option maxHeartbeats 1000000 in
theorem settled_any (x : Fares.Sum) (w : World) :
    Calls Tryd.prog 28 #[sumV x] w fun r w' => r = .returned (sumV (settle x)) ∧ Below w.heap.size w w' := by
  rw [sumV_eq x]
  go_enter Tryd.func28, Tryd.ntmps28
  go_wp2
  all_goals (
    go_light
    (try simp only [beq_iff_eq, beq_eq_false_iff_ne, ne_eq, Bool.not_eq_false', Bool.not_eq_eq_eq_not, Bool.not_true, Bool.not_false, decide_eq_true_eq, decide_eq_false_iff_not, Bool.and_eq_true, Bool.or_eq_true, Bool.false_eq_true, Bool.true_eq_false, Bool.not_eq_true', true_iff, iff_true, false_iff, iff_false, Bool.not_eq_true, Bool.not_eq_false, Bool.and_eq_false_imp] at *)
    first
    | (have E : settle x = ⟨4, x.a, x.t⟩ := by unfold settle; (repeat' split) <;> first | rfl | (exfalso; omega)
       rw [E]
       exact bodyPost_ret (v := sumV ⟨4, x.a, x.t⟩) (by simp [results, Tryd.results28, go_sem, sumV]) rfl ⟨rfl, (by repeat (first | exact Below.refl _ _ | refine bA ?_ _ | refine bD ?_ _ | refine bD1 ?_ | refine bS ?_ (by simp) _))⟩)
    | (have E : settle x = ⟨5, x.a, x.t⟩ := by unfold settle; (repeat' split) <;> first | rfl | (exfalso; omega)
       rw [E]
       exact bodyPost_ret (v := sumV ⟨5, x.a, x.t⟩) (by simp [results, Tryd.results28, go_sem, sumV]) rfl ⟨rfl, (by repeat (first | exact Below.refl _ _ | refine bA ?_ _ | refine bD ?_ _ | refine bD1 ?_ | refine bS ?_ (by simp) _))⟩)
    | (have E : settle x = ⟨x.s, x.a, x.t⟩ := by unfold settle; (repeat' split) <;> first | rfl | (exfalso; omega)
       rw [E]
       exact bodyPost_ret (v := sumV ⟨x.s, x.a, x.t⟩) (by simp_all [results, Tryd.results28, go_sem, sumV]) rfl ⟨rfl, (by repeat (first | exact Below.refl _ _ | refine bA ?_ _ | refine bD ?_ _ | refine bD1 ?_ | refine bS ?_ (by simp) _))⟩)
    )
def stepFound (s k : Int) : Bool := decide (s = 0 ∧ k = 1 ∨ s = 0 ∧ k = 2 ∨ s = 1 ∧ k = 3 ∨ s = 2 ∧ k = 4 ∨ s = 2 ∧ k = 5 ∨ s = 2 ∧ k = 6)
def stepTo (s k : Int) : Int := if s = 0 ∧ k = 2 then 1 else if s = 1 ∧ k = 3 then 2 else if s = 2 ∧ k = 4 then 3 else if s = 2 ∧ (k = 5 ∨ k = 6) then 1 else 0
def stepTries (s k : Int) : Int := if s = 1 ∧ k = 3 then 1 else 0
def stepRow (s k : Int) : Value := if stepFound s k then .agg #[.int .i64 s, .int .i64 k, .int .i64 (stepTo s k), .int .i64 (stepTries s k)] else .agg #[.int .i64 0, .int .i64 0, .int .i64 0, .int .i64 0]
/-- The state and the event of a row. -/
def rowAt : Nat → Int × Int
  | 0 => (0, 1) | 1 => (0, 2) | 2 => (1, 3) | 3 => (2, 4) | 4 => (2, 5) | 5 => (2, 6) | _ => (-1, -1)
def NoRow (n : Nat) (s k : Int) : Prop := ∀ j, j < n → ¬ (s = (rowAt j).1 ∧ k = (rowAt j).2)
theorem noRow_next {n : Nat} {s k : Int} (h : NoRow n s k) (hn : ¬ (s = (rowAt n).1 ∧ k = (rowAt n).2)) : NoRow (n + 1) s k := fun j hj => by
  rcases (by omega : j < n ∨ j = n) with hj | rfl
  · exact h j hj
  · exact hn
theorem noRow_end {s k : Int} (h : NoRow 6 s k) : stepFound s k = false := by
  have h0 := h 0 (by omega)
  have h1 := h 1 (by omega)
  have h2 := h 2 (by omega)
  have h3 := h 3 (by omega)
  have h4 := h 4 (by omega)
  have h5 := h 5 (by omega)
  simp only [rowAt] at h0 h1 h2 h3 h4 h5
  unfold stepFound
  rw [decide_eq_false_iff_not]
  omega
set_option maxRecDepth 100000 in
set_option maxHeartbeats 4000000 in
theorem stepBy_any (s k : Int) (w : World) (hT : Steps w) :
    Calls Tryd.prog 26 #[.int .i64 s, .int .i64 k] w fun r w' => r = .returned (.tuple #[stepRow s k, .bool (stepFound s k)]) ∧ Below w.heap.size w w' := by
  obtain ⟨tt, hT⟩ := hT
  have hlt := Blk.lt hT
  have HB := Lib.hid hT; clear hT
  go_enter Tryd.func26, Tryd.ntmps26
  go_wp2_with (refine wpList_load_row rfl _ _ rfl 1 rfl _ stepCells (0, 0) _ (Blk.alloc HB.out _) Tryd.underlying55 rfl (by kernel_rfl) ?_)
  go_loopw [9] (fun i wr => ∃ n : Nat, n ≤ 6 ∧ i = .int .i64 n ∧ Below w.heap.size w wr ∧ w.heap.size < wr.heap.size ∧ Blk wr w.heap.size 45 #[.int .i64 0, .int .i64 0, .int .i64 0, .int .i64 0] ∧ NoRow n s k) (fun i _ => 6 - (intOf i).toNat)
  case atStart => exact ⟨0, by omega, rfl, bA (Below.refl _ _) _, by simp, Blk.new _ _ _, fun j hj => absurd hj (by omega)⟩
  case round =>
    obtain ⟨n, hn, rfl, hb, hz, hblk, hno⟩ := hrel
    have c0 := hblk.cell 0
    have c1 := hblk.cell 1
    have c2 := hblk.cell 2
    have c3 := hblk.cell 3
    have f0 := hblk.free 0
    have f1 := hblk.free 1
    have f2 := hblk.free 2
    have f3 := hblk.free 3
    simp at c0 c1 c2 c3
    have Hblk := Lib.hid hblk; clear hblk
    have Hno := Lib.hid hno; clear hno
    rcases (by omega : n = 6 ∨ n = 0 ∨ n = 1 ∨ n = 2 ∨ n = 3 ∨ n = 4 ∨ n = 5) with h | h | h | h | h | h | h <;> subst h
    · go_wp2
      have E := noRow_end Hno.out
      refine bodyPost_ret (v := .tuple #[stepRow s k, .bool (stepFound s k)]) ?_ rfl ⟨rfl, (by repeat (first | exact hb | exact Below.refl _ _ | refine bA ?_ _ | refine bD ?_ _ | refine bD1 ?_ | refine bS ?_ (by simp) _))⟩
      unfold stepRow
      rw [E]
      simp [results, Tryd.results26, go_sem, World.cell?_alloc_lt, hz, c0, c1, c2, c3]
    · have hx : ∀ w' : World, Sem.run Tryd.prog (Instr.index 55 (.agg stepCells) (.int .i64 0)) w' = .ok (.agg #[.int .i64 0, .int .i64 1, .int .i64 0, .int .i64 0]) w' := fun w' => by kernel_rfl
      by_cases hs : s = 0
      · subst hs
        by_cases hk : k = 1
        · subst hk
          clear Hno
          go_wp2
          exact bodyPost_ret (v := .tuple #[stepRow 0 1, .bool (stepFound 0 1)]) (by simp [results, Tryd.results26, go_sem, stepRow, stepFound, stepTo, stepTries, World.cell?_alloc_lt, hz, c0, c1, c2, c3]) rfl ⟨rfl, (by repeat (first | exact hb | exact Below.refl _ _ | refine bA ?_ _ | refine bD ?_ _ | refine bD1 ?_ | refine bS ?_ (by simp) _))⟩
        · have d0 : ((1 : Int) == k) = false := by rw [beq_eq_false_iff_ne]; omega
          have Hk := Lib.hid hk; clear hk
          go_wp2
          go_roundw
          case rel => exact ⟨1, by omega, by go_num, (by repeat (first | exact hb | exact Below.refl _ _ | refine bA ?_ _ | refine bD ?_ _ | refine bD1 ?_ | refine bS ?_ (by simp) _)), by simp; omega, Hblk.out.alloc _, noRow_next Hno.out (fun h => Hk.out h.2)⟩
          case measure => simp [intOf]
      · have d0 : ((0 : Int) == s) = false := by rw [beq_eq_false_iff_ne]; omega
        have Hk := Lib.hid hs; clear hs
        go_wp2
        go_roundw
        case rel => exact ⟨1, by omega, by go_num, (by repeat (first | exact hb | exact Below.refl _ _ | refine bA ?_ _ | refine bD ?_ _ | refine bD1 ?_ | refine bS ?_ (by simp) _)), by simp; omega, Hblk.out.alloc _, noRow_next Hno.out (fun h => Hk.out h.1)⟩
        case measure => simp [intOf]
    · have hx : ∀ w' : World, Sem.run Tryd.prog (Instr.index 55 (.agg stepCells) (.int .i64 1)) w' = .ok (.agg #[.int .i64 0, .int .i64 2, .int .i64 1, .int .i64 0]) w' := fun w' => by kernel_rfl
      by_cases hs : s = 0
      · subst hs
        by_cases hk : k = 2
        · subst hk
          clear Hno
          go_wp2
          exact bodyPost_ret (v := .tuple #[stepRow 0 2, .bool (stepFound 0 2)]) (by simp [results, Tryd.results26, go_sem, stepRow, stepFound, stepTo, stepTries, World.cell?_alloc_lt, hz, c0, c1, c2, c3]) rfl ⟨rfl, (by repeat (first | exact hb | exact Below.refl _ _ | refine bA ?_ _ | refine bD ?_ _ | refine bD1 ?_ | refine bS ?_ (by simp) _))⟩
        · have d0 : ((2 : Int) == k) = false := by rw [beq_eq_false_iff_ne]; omega
          have Hk := Lib.hid hk; clear hk
          go_wp2
          go_roundw
          case rel => exact ⟨2, by omega, by go_num, (by repeat (first | exact hb | exact Below.refl _ _ | refine bA ?_ _ | refine bD ?_ _ | refine bD1 ?_ | refine bS ?_ (by simp) _)), by simp; omega, Hblk.out.alloc _, noRow_next Hno.out (fun h => Hk.out h.2)⟩
          case measure => simp [intOf]
      · have d0 : ((0 : Int) == s) = false := by rw [beq_eq_false_iff_ne]; omega
        have Hk := Lib.hid hs; clear hs
        go_wp2
        go_roundw
        case rel => exact ⟨2, by omega, by go_num, (by repeat (first | exact hb | exact Below.refl _ _ | refine bA ?_ _ | refine bD ?_ _ | refine bD1 ?_ | refine bS ?_ (by simp) _)), by simp; omega, Hblk.out.alloc _, noRow_next Hno.out (fun h => Hk.out h.1)⟩
        case measure => simp [intOf]
    · have hx : ∀ w' : World, Sem.run Tryd.prog (Instr.index 55 (.agg stepCells) (.int .i64 2)) w' = .ok (.agg #[.int .i64 1, .int .i64 3, .int .i64 2, .int .i64 1]) w' := fun w' => by kernel_rfl
      by_cases hs : s = 1
      · subst hs
        by_cases hk : k = 3
        · subst hk
          clear Hno
          go_wp2
          exact bodyPost_ret (v := .tuple #[stepRow 1 3, .bool (stepFound 1 3)]) (by simp [results, Tryd.results26, go_sem, stepRow, stepFound, stepTo, stepTries, World.cell?_alloc_lt, hz, c0, c1, c2, c3]) rfl ⟨rfl, (by repeat (first | exact hb | exact Below.refl _ _ | refine bA ?_ _ | refine bD ?_ _ | refine bD1 ?_ | refine bS ?_ (by simp) _))⟩
        · have d0 : ((3 : Int) == k) = false := by rw [beq_eq_false_iff_ne]; omega
          have Hk := Lib.hid hk; clear hk
          go_wp2
          go_roundw
          case rel => exact ⟨3, by omega, by go_num, (by repeat (first | exact hb | exact Below.refl _ _ | refine bA ?_ _ | refine bD ?_ _ | refine bD1 ?_ | refine bS ?_ (by simp) _)), by simp; omega, Hblk.out.alloc _, noRow_next Hno.out (fun h => Hk.out h.2)⟩
          case measure => simp [intOf]
      · have d0 : ((1 : Int) == s) = false := by rw [beq_eq_false_iff_ne]; omega
        have Hk := Lib.hid hs; clear hs
        go_wp2
        go_roundw
        case rel => exact ⟨3, by omega, by go_num, (by repeat (first | exact hb | exact Below.refl _ _ | refine bA ?_ _ | refine bD ?_ _ | refine bD1 ?_ | refine bS ?_ (by simp) _)), by simp; omega, Hblk.out.alloc _, noRow_next Hno.out (fun h => Hk.out h.1)⟩
        case measure => simp [intOf]
    · have hx : ∀ w' : World, Sem.run Tryd.prog (Instr.index 55 (.agg stepCells) (.int .i64 3)) w' = .ok (.agg #[.int .i64 2, .int .i64 4, .int .i64 3, .int .i64 0]) w' := fun w' => by kernel_rfl
      by_cases hs : s = 2
      · subst hs
        by_cases hk : k = 4
        · subst hk
          clear Hno
          go_wp2
          exact bodyPost_ret (v := .tuple #[stepRow 2 4, .bool (stepFound 2 4)]) (by simp [results, Tryd.results26, go_sem, stepRow, stepFound, stepTo, stepTries, World.cell?_alloc_lt, hz, c0, c1, c2, c3]) rfl ⟨rfl, (by repeat (first | exact hb | exact Below.refl _ _ | refine bA ?_ _ | refine bD ?_ _ | refine bD1 ?_ | refine bS ?_ (by simp) _))⟩
        · have d0 : ((4 : Int) == k) = false := by rw [beq_eq_false_iff_ne]; omega
          have Hk := Lib.hid hk; clear hk
          go_wp2
          go_roundw
          case rel => exact ⟨4, by omega, by go_num, (by repeat (first | exact hb | exact Below.refl _ _ | refine bA ?_ _ | refine bD ?_ _ | refine bD1 ?_ | refine bS ?_ (by simp) _)), by simp; omega, Hblk.out.alloc _, noRow_next Hno.out (fun h => Hk.out h.2)⟩
          case measure => simp [intOf]
      · have d0 : ((2 : Int) == s) = false := by rw [beq_eq_false_iff_ne]; omega
        have Hk := Lib.hid hs; clear hs
        go_wp2
        go_roundw
        case rel => exact ⟨4, by omega, by go_num, (by repeat (first | exact hb | exact Below.refl _ _ | refine bA ?_ _ | refine bD ?_ _ | refine bD1 ?_ | refine bS ?_ (by simp) _)), by simp; omega, Hblk.out.alloc _, noRow_next Hno.out (fun h => Hk.out h.1)⟩
        case measure => simp [intOf]
    · have hx : ∀ w' : World, Sem.run Tryd.prog (Instr.index 55 (.agg stepCells) (.int .i64 4)) w' = .ok (.agg #[.int .i64 2, .int .i64 5, .int .i64 1, .int .i64 0]) w' := fun w' => by kernel_rfl
      by_cases hs : s = 2
      · subst hs
        by_cases hk : k = 5
        · subst hk
          clear Hno
          go_wp2
          exact bodyPost_ret (v := .tuple #[stepRow 2 5, .bool (stepFound 2 5)]) (by simp [results, Tryd.results26, go_sem, stepRow, stepFound, stepTo, stepTries, World.cell?_alloc_lt, hz, c0, c1, c2, c3]) rfl ⟨rfl, (by repeat (first | exact hb | exact Below.refl _ _ | refine bA ?_ _ | refine bD ?_ _ | refine bD1 ?_ | refine bS ?_ (by simp) _))⟩
        · have d0 : ((5 : Int) == k) = false := by rw [beq_eq_false_iff_ne]; omega
          have Hk := Lib.hid hk; clear hk
          go_wp2
          go_roundw
          case rel => exact ⟨5, by omega, by go_num, (by repeat (first | exact hb | exact Below.refl _ _ | refine bA ?_ _ | refine bD ?_ _ | refine bD1 ?_ | refine bS ?_ (by simp) _)), by simp; omega, Hblk.out.alloc _, noRow_next Hno.out (fun h => Hk.out h.2)⟩
          case measure => simp [intOf]
      · have d0 : ((2 : Int) == s) = false := by rw [beq_eq_false_iff_ne]; omega
        have Hk := Lib.hid hs; clear hs
        go_wp2
        go_roundw
        case rel => exact ⟨5, by omega, by go_num, (by repeat (first | exact hb | exact Below.refl _ _ | refine bA ?_ _ | refine bD ?_ _ | refine bD1 ?_ | refine bS ?_ (by simp) _)), by simp; omega, Hblk.out.alloc _, noRow_next Hno.out (fun h => Hk.out h.1)⟩
        case measure => simp [intOf]
    · have hx : ∀ w' : World, Sem.run Tryd.prog (Instr.index 55 (.agg stepCells) (.int .i64 5)) w' = .ok (.agg #[.int .i64 2, .int .i64 6, .int .i64 1, .int .i64 0]) w' := fun w' => by kernel_rfl
      by_cases hs : s = 2
      · subst hs
        by_cases hk : k = 6
        · subst hk
          clear Hno
          go_wp2
          exact bodyPost_ret (v := .tuple #[stepRow 2 6, .bool (stepFound 2 6)]) (by simp [results, Tryd.results26, go_sem, stepRow, stepFound, stepTo, stepTries, World.cell?_alloc_lt, hz, c0, c1, c2, c3]) rfl ⟨rfl, (by repeat (first | exact hb | exact Below.refl _ _ | refine bA ?_ _ | refine bD ?_ _ | refine bD1 ?_ | refine bS ?_ (by simp) _))⟩
        · have d0 : ((6 : Int) == k) = false := by rw [beq_eq_false_iff_ne]; omega
          have Hk := Lib.hid hk; clear hk
          go_wp2
          go_roundw
          case rel => exact ⟨6, by omega, by go_num, (by repeat (first | exact hb | exact Below.refl _ _ | refine bA ?_ _ | refine bD ?_ _ | refine bD1 ?_ | refine bS ?_ (by simp) _)), by simp; omega, Hblk.out.alloc _, noRow_next Hno.out (fun h => Hk.out h.2)⟩
          case measure => simp [intOf]
      · have d0 : ((2 : Int) == s) = false := by rw [beq_eq_false_iff_ne]; omega
        have Hk := Lib.hid hs; clear hs
        go_wp2
        go_roundw
        case rel => exact ⟨6, by omega, by go_num, (by repeat (first | exact hb | exact Below.refl _ _ | refine bA ?_ _ | refine bD ?_ _ | refine bD1 ?_ | refine bS ?_ (by simp) _)), by simp; omega, Hblk.out.alloc _, noRow_next Hno.out (fun h => Hk.out h.1)⟩
        case measure => simp [intOf]
end Go.Proofs.YtpdlngekeeaocabDoor
