/-
  Paid is paid: for every code, with the aggregate and the event drawn from it, the law FnStepSumPaid returns true and leaves the code as it was. The program's tables hold what its text lays in them.
-/
import Derived.Test.YtpdlngekeeaocaaDoorCards
import Derived.Test.YtpdlngekeeaocaaDoorTie
import Derived.Test.YtpdlngekeeaocaaDoorOpen
import Derived.Test.YtpdlngekeeaocaaDoorAggLaid
import Derived.Deep.DeepHandedRow
import Derived.Test.YtpdlngekeeaocaaDoorAggBox2
import Derived.Test.YtpdlngekeeaocaaDoorDrawsSum
import Derived.Test.YtpdlngekeeaocaaDoorLiftBytes
set_option linter.unusedSimpArgs false
namespace Go.Proofs.YtpdlngekeeaocaaDoor.fnStepSumPaid
open Go.ChangeShapes Go.WideShapes Go.ChangeAt Go.RowKit
set_option linter.unusedVariables false

set_option maxRecDepth 100000 in
set_option maxHeartbeats 2000000 in
theorem walk (w : World) (A : Option Addr) (n c : Nat) (h : Bytes w w.heap.size A n c) (hL : Limits w) (hT : Steps w) : Calls Tryd.prog 10 #[.slice A n c] w (TrueBelow w) := by
  by_cases hn : 1048576 < n
  · go_enter Tryd.func10, Tryd.ntmps10
    go_wp2
    go_ret
    exact ⟨rfl, Below.refl _ _⟩
  · skip
    go_enter Tryd.func10, Tryd.ntmps10
    have HL := Lib.hid hL; clear hL
    have HT := Lib.hid hT; clear hT
    go_wp2_with fail
    refine (drawStepSum_any A n c w h).mono ?_
    rintro e w0 ⟨x, ev, rfl, hsm, hev, hc0⟩
    go_wp2_with fail
    generalize hW : World.alloc _ _ = w1
    have hba1 : Blk w1 (w0.heap.size) 25 (AggR.cells x) := by rw [← hW]; exact (Blk.new' (by simp)).alloc _
    have hbe1 : Blk w1 (w0.heap.size + 1) 32 (EvtR.cells ev) := by rw [← hW]; exact Blk.new' (by simp)
    have HB1 : Hid (Below w.heap.size w w1) := Lib.hid (by rw [← hW]; exact bA (bA (hc0) _) _)
    have hz1 : w0.heap.size + 1 < w1.heap.size := by rw [← hW]; simp
    have hz0 : w.heap.size ≤ w0.heap.size := hc0.size
    clear hW hc0
    have Hba1 := Lib.hid hba1; clear hba1
    have Hbe1 := Lib.hid hbe1; clear hbe1
    unfold aggSmall at hsm
    unfold evtSmall at hev
    obtain ⟨x1, x2, x3, x4, x5, x6⟩ := hsm
    obtain ⟨y1, y2, y3, y4⟩ := hev
    obtain ⟨⟨⟨s1, a1, t1⟩, ok⟩, hP⟩ : ∃ P, P = Fares.stepSum x ev := ⟨_, rfl⟩
    have HP := Lib.hid hP; clear hP
    refine (implStep_cells x ev s1 a1 t1 ok HP.out _ (Limits.below HL.out HB1.out) (Steps.below HT.out HB1.out)).mono ?_
    rintro e w2 ⟨rfl, hb2⟩
    have hz2 : w1.heap.size ≤ w2.heap.size := by have := hb2.size; (try simp at this); omega
    have Ha2 := Lib.hid (Blk.belowAll Hba1.out hb2)
    clear Hba1
    have He2 := Lib.hid (Blk.belowAll Hbe1.out hb2)
    clear Hbe1
    have HB2 := Lib.hid (bT HB1.out hb2)
    clear HB1
    clear hb2
    obtain ⟨ca2_0, ca2_1, ca2_2⟩ := aggCells (t := 25) (v := x) Ha2.out
    obtain ⟨ce2_0, ce2_1⟩ := evtCells (t := 32) (v := ev) He2.out
    have lta2 : w0.heap.size < w2.heap.size := by omega
    have lte2 : w0.heap.size + 1 < w2.heap.size := by omega
    go_wp2_with fail
    generalize hW : World.alloc _ _ = w3
    have hbx3 : Blk w3 w2.heap.size 25 (AggR.cells (⟨s1, a1, t1⟩ : Fares.Sum)) := by rw [← hW]; exact Blk.new' (by simp)
    have hb3 : Below w2.heap.size w2 w3 := by rw [← hW]; exact bA (Below.refl _ _) _
    have hy3 : w2.heap.size < w3.heap.size := by rw [← hW]; simp
    clear hW
    clear ca2_0 ca2_1 ca2_2 ce2_0 ce2_1 lta2 lte2
    have hz3 : w2.heap.size ≤ w3.heap.size := by have := hb3.size; (try simp at this); omega
    have Ha3 := Lib.hid (Blk.belowAll Ha2.out hb3)
    clear Ha2
    have He3 := Lib.hid (Blk.belowAll He2.out hb3)
    clear He2
    have HB3 := Lib.hid (bT HB2.out hb3)
    clear HB2
    clear hb3
    have Hbx3 := Lib.hid hbx3; clear hbx3
    refine (specStep_cells x ev s1 a1 t1 ok HP.out _).mono ?_
    rintro e w4 ⟨rfl, hb4⟩
    have hz4 : w3.heap.size ≤ w4.heap.size := by have := hb4.size; (try simp at this); omega
    have Ha4 := Lib.hid (Blk.belowAll Ha3.out hb4)
    clear Ha3
    have He4 := Lib.hid (Blk.belowAll He3.out hb4)
    clear He3
    have HB4 := Lib.hid (bT HB3.out hb4)
    clear HB3
    have Hb4 := Lib.hid (Blk.belowAll Hbx3.out hb4)
    clear Hbx3
    clear hb4
    obtain ⟨ca4_0, ca4_1, ca4_2⟩ := aggCells (t := 25) (v := x) Ha4.out
    obtain ⟨ce4_0, ce4_1⟩ := evtCells (t := 32) (v := ev) He4.out
    obtain ⟨cb4_0, cb4_1, cb4_2⟩ := aggCells (t := 25) (v := (⟨s1, a1, t1⟩ : Fares.Sum)) Hb4.out
    have lta4 : w0.heap.size < w4.heap.size := by omega
    have lte4 : w0.heap.size + 1 < w4.heap.size := by omega
    have ltb4 : w2.heap.size < w4.heap.size := by omega
    dsimp only at cb4_0 cb4_1 cb4_2
    cases ok with
    | false =>
      have HF : Hid (okNums 0 0 0) := by show okNums 0 0 0; unfold okNums; omega
      go_wp2
      all_goals (go_ret; refine ⟨ret_bool ?_, bA HB4.out _⟩; have hf := HF.out; unfold okNums at hf; (try unfold stepNums at hf); clear HF; go_light; first | rfl | (exact (by rw [Bool.eq_iff_iff]; simp only [ge_iff_le, beq_iff_eq, beq_eq_false_iff_ne, ne_eq, Bool.not_eq_false', Bool.not_eq_eq_eq_not, Bool.not_true, Bool.not_false, decide_eq_true_eq, decide_eq_false_iff_not, Bool.and_eq_true, Bool.or_eq_true, Bool.false_eq_true, Bool.true_eq_false, Bool.not_eq_true', true_iff, iff_true, false_iff, iff_false, Bool.not_eq_true, Bool.not_eq_false, Bool.and_eq_false_imp] at *; omega)))
    | true =>
      have HF := Lib.hid (step_nums HP.out)
      by_cases h3 : s1 = 3
      · have d3 : (s1 != 3) = false := by simpa using h3
        have H3 := Lib.hid h3; clear h3
        go_wp2
        go_loopw [9] (fun i wr => ∃ k : Nat, k ≤ 8 ∧ i = .int .i64 k ∧ Below w.heap.size w wr ∧ Blk wr w0.heap.size 25 (AggR.cells x) ∧ Blk wr (w0.heap.size + 1) 32 (EvtR.cells ev) ∧ Blk wr w2.heap.size 25 (AggR.cells (⟨s1, a1, t1⟩ : Fares.Sum))) (fun i _ => 8 - (intOf i).toNat)
        case atStart => exact ⟨0, by omega, rfl, bA HB4.out _, Ha4.out.alloc _, He4.out.alloc _, Hb4.out.alloc _⟩
        case round =>
          obtain ⟨k, hk, rfl, hB, hA, hE, hb⟩ := hrel
          have HBr := Lib.hid hB; clear hB
          have HAr := Lib.hid hA; clear hA
          have HEr := Lib.hid hE; clear hE
          have Hbr := Lib.hid hb; clear hb
          have hzb := Hbr.out.lt
          have hza := HAr.out.lt
          have hze := HEr.out.lt
          obtain ⟨u0, u1, u2⟩ := aggCells Hbr.out
          dsimp only at u0 u1 u2
          by_cases hlt : k < 8
          · have hlk : (k : Int) < 8 := by omega
            obtain ⟨⟨⟨s2, a2, t2⟩, ok2⟩, hQ⟩ : ∃ P, P = Fares.stepSum (⟨s1, a1, t1⟩ : Fares.Sum) ⟨k, 0⟩ := ⟨_, rfl⟩
            have hno : ok2 = false := stepSum_none hQ (by rintro ⟨s, a, t, h⟩; have h3 := H3.out; unfold stepNums at h; dsimp only at h; omega)
            subst hno
            have HQ := Lib.hid hQ; clear hQ
            go_wp2_with fail
            refine (implStep_cells (⟨s1, a1, t1⟩ : Fares.Sum) ⟨k, 0⟩ s2 a2 t2 false HQ.out _ (Limits.below HL.out HBr.out) (Steps.below HT.out HBr.out)).mono ?_
            rintro e w8 ⟨rfl, hb8⟩
            have Hb8 := Lib.hid hb8; clear hb8 u0 u1 u2
            go_wp2
            go_roundw
            case rel => exact ⟨k + 1, by omega, by go_num, bA (bT HBr.out Hb8.out) _, (HAr.out.belowAll Hb8.out).alloc _, (HEr.out.belowAll Hb8.out).alloc _, (Hbr.out.belowAll Hb8.out).alloc _⟩
            case measure => simp [intOf]; omega
          · have hlk : decide ((k : Int) < 8) = false := decide_eq_false (by omega)
            obtain ⟨v0, v1, v2⟩ := aggCells HAr.out
            obtain ⟨z0, z1⟩ := evtCells HEr.out
            go_wp2
            all_goals (go_ret; refine ⟨ret_bool ?_, HBr.out⟩; have hf := HF.out; have h3 := H3.out; unfold okNums at hf; (try unfold stepNums at hf); clear HF H3; go_light; first | rfl | (exact (by rw [Bool.eq_iff_iff]; simp only [ge_iff_le, beq_iff_eq, beq_eq_false_iff_ne, ne_eq, Bool.not_eq_false', Bool.not_eq_eq_eq_not, Bool.not_true, Bool.not_false, decide_eq_true_eq, decide_eq_false_iff_not, Bool.and_eq_true, Bool.or_eq_true, Bool.false_eq_true, Bool.true_eq_false, Bool.not_eq_true', true_iff, iff_true, false_iff, iff_false, Bool.not_eq_true, Bool.not_eq_false, Bool.and_eq_false_imp] at *; omega)))
      · have d3 : (s1 != 3) = true := by simpa using h3
        go_wp2
        all_goals (go_ret; refine ⟨ret_bool ?_, bA HB4.out _⟩; have hf := HF.out; unfold okNums at hf; (try unfold stepNums at hf); clear HF; go_light; first | rfl | (exact (by rw [Bool.eq_iff_iff]; simp only [ge_iff_le, beq_iff_eq, beq_eq_false_iff_ne, ne_eq, Bool.not_eq_false', Bool.not_eq_eq_eq_not, Bool.not_true, Bool.not_false, decide_eq_true_eq, decide_eq_false_iff_not, Bool.and_eq_true, Bool.or_eq_true, Bool.false_eq_true, Bool.true_eq_false, Bool.not_eq_true', true_iff, iff_true, false_iff, iff_false, Bool.not_eq_true, Bool.not_eq_false, Bool.and_eq_false_imp] at *; omega)))

theorem contract (H : Type) (enc : TypeId × Value → H) (W : World) (base : Nat) (args : Array Value) (ds gs : List (DataW H)) (before : List MemPlace)
    (hval : ∀ (j : Nat) t v, Tryd.f10.params[j]? = some t → args[j]? = some v → Value.okWide Tryd.prog W .any base t v)
    (hW : DataW.Whole enc Tryd.prog Tryd.f10.params.toList Rows.fnStepSumPaidSpec.vars false W args.toList ds gs before) (hL : laidMetH Tryd.prog Rows.fnStepSumPaidRow.laid W) :
    Calls Tryd.prog 10 args W fun e W' => ∃ v, e = .returned v ∧ Rows.fnStepSumPaidSpec.post enc Tryd.prog Tryd.f10 false true false false W args v W' := by
  have hL0 : laidMet Tryd.prog [("loop.example/transitfares/impl.stateLimits", Rows.laid_loop_example_transitfares_impl_stateLimits), ("loop.example/transitfares/impl.sumSteps", Rows.laid_loop_example_transitfares_impl_sumSteps)] W := by
    have h : laidMetH Tryd.prog [("loop.example/transitfares/impl.stateLimits", Rows.laid_loop_example_transitfares_impl_stateLimits), ("loop.example/transitfares/impl.sumSteps", Rows.laid_loop_example_transitfares_impl_sumSteps)] W := hL
    unfold laidMetH at h
    exact h
  have hv0 : Limits W := limits_of_head rfl hL0
  have hv1 : Steps W := steps_of_head rfl hL0.tail
  have hW' := hW
  obtain ⟨p, q, hA0, hV, rfl, _, _⟩ := hW
  have hA : DataW.TrodAll enc Tryd.prog W 0 (fun _ => true) true Tryd.f10.params.toList args.toList ds p := hA0
  rw [Tryd.params10] at hA hval
  obtain ⟨v0, vs0, d0, ds0, p0, q0, hargs, rfl, rfl, h0, r0⟩ := trodAll_cons hA
  obtain ⟨rfl, rfl, rfl⟩ := trodAll_nil r0
  obtain rfl : args = #[v0] := by cases args; simp_all
  obtain ⟨g1, g2, rfl⟩ := vars2 hV
  clear hA0
  have hlt : ∀ x ∈ (p0 ++ []), x.block < W.heap.size := fun x hx => hW'.lt x (List.mem_append_left _ hx)
  have k0 := fun (W' : World) (hn : Below W.heap.size W W') => Below.trod Cells.laidOut (by kernel_rfl) (of_decide_eq_true (by kernel_rfl)) h0 hn (fun x hx => hlt x (by simp [hx]))
  obtain ⟨a0, len, cap, rfl⟩ := okWide_slice Tryd.underlying45 (hval 0 45 v0 rfl rfl)
  have hb := (opened h0 (fun x hx => hlt x (by simp [hx]))).1
  refine (walk W a0 len cap hb hv0 hv1).mono fun e W' ⟨he, hnx⟩ => ?_
  subst he
  exact ⟨_, rfl, _, _, _, [], (p0 ++ []), q, hW', trodAll_mk1 (shut_bool Tryd.underlying4 _), (trodAll_cons_mk (k0 _ hnx) trodAll_mk0), Below.trodVars Cells.laidOut hnx (by kernel_rfl) hV, hnx.frame _, fun h => by cases h⟩

/-- A world in which the tables lie. -/
noncomputable def laidWorld (os : Os) : World :=
  { World.holding Tryd.prog os ⟨#[], #[], []⟩ with heap := (((World.holding Tryd.prog os ⟨#[], #[], []⟩).heap).modify 1 (fun x => match x with | .cells _ t frozen => .cells stepCells t frozen | o => o)).modify 0 (fun x => match x with | .cells _ t frozen => .cells limitCells t frozen | o => o) }
theorem laid_met (os : Os) : laidMet Tryd.prog Rows.fnStepSumPaidRow.laid ((laidWorld os).forCall (fun _ _ => 0) ⟨#[], #[.slice none 0 0], []⟩).memory :=
  laidMet_of_run' 8 (by kernel_rfl) (by kernel_rfl)
theorem reads (os : Os) {H : Type} (enc : TypeId × Value → H) : ∃ places, DataW.whole enc Tryd.prog ((laidWorld os).forCall (fun _ _ => 0) ⟨#[], #[.slice none 0 0], []⟩).memory Tryd.f10.params.toList Rows.fnStepSumPaidSpec.vars false (#[.slice none 0 0] : Array Value).toList 8 = some ([.nil], [Rows.laid_loop_example_transitfares_impl_sumSteps, Rows.laid_loop_example_transitfares_impl_stateLimits], places) :=
  ⟨MemPlace.row ⟨1, 0, none⟩ 24 ++ MemPlace.row ⟨0, 0, none⟩ 24, by kernel_rfl⟩
set_option maxRecDepth 100000 in
theorem lifted (os : Os) (started : os.Started) (H : Type) (enc : TypeId × Value → H) (F : Stop.Interp) :
    ReturnsInHanded {} Tryd.checked os 10 .any ((OpenSpec.ofChange Rows.fnStepSumPaidSpec).preRow enc Tryd.prog Tryd.f10 Rows.fnStepSumPaidRow.domain false Rows.fnStepSumPaidRow.laid) (((OpenSpec.ofChange Rows.fnStepSumPaidSpec).at F).post enc Tryd.prog Tryd.f10 false true false false) := by
  obtain ⟨places, hx⟩ := reads os enc
  refine returnsInHanded_of_row (C := Tryd.checked) (s := OpenSpec.ofChange Rows.fnStepSumPaidSpec) Cells.own started (by kernel_rfl) Tryd.func10
    (witness_row_at (enc := enc) (C := Tryd.checked) false (laidWorld os) #[.slice none 0 0] rfl (by kernel_rfl) (by kernel_rfl) (by kernel_rfl)
      (OpenSpec.preRow_of_cond 8 hx (by kernel_rfl) (fun k hk => by cases hk) (by kernel_rfl) (laid_met os))) ?_
  intro W base args ds gs before hval hW _ _ _ hL _ _
  exact contract H enc W base args ds gs before hval hW hL
theorem said : Rows.FnStepSumPaidSaid :=
  OpenClaim.holds_of_cond 10 Tryd.f10 rfl rfl rfl rfl rfl rfl rfl ⟨rfl, rfl, rfl, rfl, rfl⟩ rfl rfl rfl rfl rfl (by kernel_rfl) Tryd.func10 (by kernel_rfl)
    (of_decide_eq_true (by kernel_rfl)) (by unfold Func.isWrapper; first | (rw [if_pos (by decide +kernel)]; kernel_rfl) | (rw [if_neg (by decide +kernel)]; exact ⟨rfl, rfl⟩))
    (fun os started H enc _ F => by rw [OpenClaim.pre_eq_preRow]; exact lifted os started H enc F)
theorem plain (f : FuncId) (fn : Func) (hf : Tryd.pinned.checked.prog.funcNamed "loop.example/transitfares/laws.FnStepSumPaid" = some f) (hfn : Tryd.pinned.checked.prog.funcs[f]? = some fn) :
    false = Tryd.pinned.checked.prog.looks [] ∧ ∀ (j : Nat) t, fn.params[j]? = some t → Tryd.pinned.checked.prog.wantsStandIn t = false := by
  obtain rfl : f = 10 := Option.some.inj ((show Tryd.prog.funcNamed "loop.example/transitfares/laws.FnStepSumPaid" = some 10 by kernel_rfl).symm.trans hf) |>.symm
  obtain rfl : fn = Tryd.f10 := (Option.some.inj (Tryd.func10.symm.trans hfn)).symm
  refine ⟨by kernel_rfl, fun j t ht => ?_⟩
  rw [Tryd.params10] at ht
  have hm : t ∈ [45] := by simpa using Array.mem_of_getElem? ht
  have hall : ([45].all fun u => !Tryd.prog.wantsStandIn u) = true := by kernel_rfl
  exact (show Tryd.prog.wantsStandIn t = false by simpa using List.all_eq_true.1 hall t hm)
/-- THE STATEMENT: the tied card -/
theorem proved : Rows.FnStepSumPaidCardSaid :=
  Claim7.holds_tied_plain_at .later [] _ _ _ _ said (fun _ h => by cases h) (by kernel_rfl) (fun _ h => by cases h) fnStepSumPaid_row_tie rfl ⟨rfl, rfl⟩ (by kernel_rfl) rfl plain (by kernel_rfl)
#print axioms proved
end Go.Proofs.YtpdlngekeeaocaaDoor.fnStepSumPaid
