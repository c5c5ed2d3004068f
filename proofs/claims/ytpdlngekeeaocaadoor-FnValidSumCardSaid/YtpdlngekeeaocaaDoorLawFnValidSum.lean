/-
  Aggregates stay valid: for every code, with the aggregate drawn from it, the law FnValidSum returns true and leaves the code as it was. The program's tables hold what its text lays in them.
-/
import Derived.Test.YtpdlngekeeaocaaDoorCards
import Derived.Test.YtpdlngekeeaocaaDoorTie
import Derived.Test.YtpdlngekeeaocaaDoorOpen
import Derived.Test.YtpdlngekeeaocaaDoorAggLaid
import Derived.Deep.DeepHandedRow
import Derived.Test.YtpdlngekeeaocaaDoorAggBox2
import Derived.Test.YtpdlngekeeaocaaDoorAggFinal
import Derived.Test.YtpdlngekeeaocaaDoorDrawsSum
import Derived.Test.YtpdlngekeeaocaaDoorLiftBytes
set_option linter.unusedSimpArgs false
namespace Go.Proofs.YtpdlngekeeaocaaDoor.fnValidSum
open Go.ChangeShapes Go.WideShapes Go.ChangeAt Go.RowKit
set_option linter.unusedVariables false

set_option maxRecDepth 100000 in
set_option maxHeartbeats 2000000 in
theorem walk (w : World) (A : Option Addr) (n c : Nat) (h : Bytes w w.heap.size A n c) (hL : Limits w) (hT : Steps w) : Calls Tryd.prog 8 #[.slice A n c] w (TrueBelow w) := by
  by_cases hn : 1048576 < n
  · go_enter Tryd.func8, Tryd.ntmps8
    go_wp2
    go_ret
    exact ⟨rfl, Below.refl _ _⟩
  · skip
    go_enter Tryd.func8, Tryd.ntmps8
    have HL := Lib.hid hL; clear hL
    have HT := Lib.hid hT; clear hT
    go_wp2_with fail
    refine (drawValidSum_any A n c w h).mono ?_
    rintro e w0 ⟨x, rfl, hsm, hc0⟩
    go_wp2_with fail
    generalize hW : World.alloc _ _ = w1
    have hba1 : Blk w1 (w0.heap.size) 25 (AggR.cells x) := by rw [← hW]; exact Blk.new' (by simp)
    have HB1 : Hid (Below w.heap.size w w1) := Lib.hid (by rw [← hW]; exact bA (hc0) _)
    have hz1 : w0.heap.size < w1.heap.size := by rw [← hW]; simp
    have hz0 : w.heap.size ≤ w0.heap.size := hc0.size
    clear hW hc0
    have Hba1 := Lib.hid hba1; clear hba1
    unfold aggSmall at hsm
    obtain ⟨x1, x2, x3, x4, x5, x6⟩ := hsm
    obtain ⟨V, hV⟩ : ∃ V, V = Fares.validSum x := ⟨_, rfl⟩
    have C1 : Hid (∀ W, Limits W → Calls Tryd.prog 13 #[.agg #[.int .i64 x.s, .int .i64 x.a, .int .i64 x.t]] W fun r w' => r = .returned (.bool V) ∧ Below W.heap.size W w') := fun W h => by rw [hV]; exact implValid_cells x W h
    have C2 : Hid (∀ W, Calls Tryd.prog 11 #[.agg #[.int .i64 x.s, .int .i64 x.a, .int .i64 x.t]] W fun r w' => r = .returned (.bool V) ∧ Below W.heap.size W w') := fun W => by rw [hV]; exact specValidSum_any x W
    have HV := Lib.hid hV; clear hV
    refine (C1.out _ (Limits.below HL.out HB1.out)).mono ?_
    rintro e w2 ⟨rfl, hb2⟩
    have hz2 : w1.heap.size ≤ w2.heap.size := by have := hb2.size; (try simp at this); omega
    have Ha2 := Lib.hid (Blk.belowAll Hba1.out hb2)
    clear Hba1
    have HB2 := Lib.hid (bT HB1.out hb2)
    clear HB1
    clear hb2
    obtain ⟨ca2_0, ca2_1, ca2_2⟩ := aggCells (t := 25) (v := x) Ha2.out
    go_wp2_with fail
    refine (C2.out _).mono ?_
    rintro e w3 ⟨rfl, hb3⟩
    clear ca2_0 ca2_1 ca2_2
    have hz3 : w2.heap.size ≤ w3.heap.size := by have := hb3.size; (try simp at this); omega
    have Ha3 := Lib.hid (Blk.belowAll Ha2.out hb3)
    clear Ha2
    have HB3 := Lib.hid (bT HB2.out hb3)
    clear HB2
    clear hb3
    obtain ⟨ca3_0, ca3_1, ca3_2⟩ := aggCells (t := 25) (v := x) Ha3.out
    have dVV : (V != V) = false := by cases V <;> rfl
    go_wp2
    go_loopw [5] (fun i wr => ∃ k : Nat, k ≤ 8 ∧ i = .int .i64 k ∧ Below w.heap.size w wr ∧ Blk wr w0.heap.size 25 (AggR.cells x)) (fun i _ => 8 - (intOf i).toNat)
    case atStart => exact ⟨0, by omega, rfl, HB3.out, Ha3.out⟩
    case round =>
      obtain ⟨k, hk, rfl, hB, hA⟩ := hrel
      have HBr := Lib.hid hB; clear hB
      have HAr := Lib.hid hA; clear hA
      have hza := HAr.out.lt
      obtain ⟨u0, u1, u2⟩ := aggCells HAr.out
      by_cases hlt : k < 8
      · have hlk : (k : Int) < 8 := by omega
        obtain ⟨⟨⟨s2, a2, t2⟩, ok2⟩, hQ⟩ : ∃ P, P = Fares.stepSum x ⟨k, 10⟩ := ⟨_, rfl⟩
        have HQ := Lib.hid hQ; clear hQ
        go_wp2_with fail
        refine (implStep_cells x ⟨k, 10⟩ s2 a2 t2 ok2 HQ.out _ (Limits.below HL.out HBr.out) (Steps.below HT.out HBr.out)).mono ?_
        rintro e w8 ⟨rfl, hb8⟩
        have Hb8 := Lib.hid hb8; clear hb8 u0 u1 u2
        cases ok2 with
        | false =>
          go_wp2
          go_roundw
          case rel => exact ⟨k + 1, by omega, by go_num, bA (bT HBr.out Hb8.out) _, (HAr.out.belowAll Hb8.out).alloc _⟩
          case measure => simp [intOf]; omega
        | true =>
          have hy := stepSum_yes (x := x) (e := ⟨k, 10⟩) (by rw [← HQ.out])
          have hVt : V = true := HV.out.trans hy.1
          subst hVt
          have C3 : Hid (∀ W, Limits W → Calls Tryd.prog 13 #[.agg #[.int .i64 s2, .int .i64 a2, .int .i64 t2]] W fun r w' => r = .returned (.bool true) ∧ Below W.heap.size W w') := fun W h => by
            have := implValid_cells ⟨s2, a2, t2⟩ W h
            rw [okNums_iff.2 (step_nums HQ.out).2.1] at this
            exact this
          clear hy
          have hz8 := Hb8.out.size
          go_wp2_with fail
          refine (C3.out _ (Limits.below HL.out (bA (bT HBr.out Hb8.out) _))).mono ?_
          rintro e w9 ⟨rfl, hb9⟩
          have Hb9 := Lib.hid hb9; clear hb9
          go_wp2
          go_roundw
          case rel => exact ⟨k + 1, by omega, by go_num, bT (bA (bT HBr.out Hb8.out) _) Hb9.out, ((HAr.out.belowAll Hb8.out).alloc _).belowAll Hb9.out⟩
          case measure => simp [intOf]; omega
      · have hlk : decide ((k : Int) < 8) = false := decide_eq_false (by omega)
        go_wp2
        go_ret
        exact ⟨rfl, HBr.out⟩

theorem contract (H : Type) (enc : TypeId × Value → H) (W : World) (base : Nat) (args : Array Value) (ds gs : List (DataW H)) (before : List MemPlace)
    (hval : ∀ (j : Nat) t v, Tryd.f8.params[j]? = some t → args[j]? = some v → Value.okWide Tryd.prog W .any base t v)
    (hW : DataW.Whole enc Tryd.prog Tryd.f8.params.toList Rows.fnValidSumSpec.vars false W args.toList ds gs before) (hL : laidMetH Tryd.prog Rows.fnValidSumRow.laid W) :
    Calls Tryd.prog 8 args W fun e W' => ∃ v, e = .returned v ∧ Rows.fnValidSumSpec.post enc Tryd.prog Tryd.f8 false true false false W args v W' := by
  have hL0 : laidMet Tryd.prog [("loop.example/transitfares/impl.stateLimits", Rows.laid_loop_example_transitfares_impl_stateLimits), ("loop.example/transitfares/impl.sumSteps", Rows.laid_loop_example_transitfares_impl_sumSteps)] W := by
    have h : laidMetH Tryd.prog [("loop.example/transitfares/impl.stateLimits", Rows.laid_loop_example_transitfares_impl_stateLimits), ("loop.example/transitfares/impl.sumSteps", Rows.laid_loop_example_transitfares_impl_sumSteps)] W := hL
    unfold laidMetH at h
    exact h
  have hv0 : Limits W := limits_of_head rfl hL0
  have hv1 : Steps W := steps_of_head rfl hL0.tail
  have hW' := hW
  obtain ⟨p, q, hA0, hV, rfl, _, _⟩ := hW
  have hA : DataW.TrodAll enc Tryd.prog W 0 (fun _ => true) true Tryd.f8.params.toList args.toList ds p := hA0
  rw [Tryd.params8] at hA hval
  obtain ⟨v0, vs0, d0, ds0, p0, q0, hargs, rfl, rfl, h0, r0⟩ := trodAll_cons hA
  obtain ⟨rfl, rfl, rfl⟩ := trodAll_nil r0
  obtain rfl : args = #[v0] := by cases args; simp_all
  obtain ⟨g1, g2, rfl⟩ := vars2 hV
  clear hA0
  have hlt : ∀ x ∈ (p0 ++ []), x.block < W.heap.size := fun x hx => hW'.lt x (List.mem_append_left _ hx)
  have k0 := fun (W' : World) (hn : Below W.heap.size W W') => Below.trod Cells.laidOut (by kernel_rfl) (of_decide_eq_true (by kernel_rfl)) h0 hn (fun x hx => hlt x (by simp [hx]))
  obtain ⟨a0, len, cap, rfl⟩ := okWide_slice Tryd.underlying45 (hval 0 45 v0 rfl rfl)
  have hb := (opened h0 (fun x hx => hlt x (by simp [hx]))).1
  refine (walk W a0 len cap hb hv0 hv1).mono fun e W' ⟨he, hnx⟩ => ?_
  subst he
  exact ⟨_, rfl, _, _, _, [], (p0 ++ []), q, hW', trodAll_mk1 (shut_bool Tryd.underlying4 _), (trodAll_cons_mk (k0 _ hnx) trodAll_mk0), Below.trodVars Cells.laidOut hnx (by kernel_rfl) hV, hnx.frame _, fun h => by cases h⟩

/-- A world in which the tables lie. -/
noncomputable def laidWorld (os : Os) : World :=
  { World.holding Tryd.prog os ⟨#[], #[], []⟩ with heap := (((World.holding Tryd.prog os ⟨#[], #[], []⟩).heap).modify 0 (fun x => match x with | .cells _ t frozen => .cells limitCells t frozen | o => o)).modify 1 (fun x => match x with | .cells _ t frozen => .cells stepCells t frozen | o => o) }
theorem laid_met (os : Os) : laidMet Tryd.prog Rows.fnValidSumRow.laid ((laidWorld os).forCall (fun _ _ => 0) ⟨#[], #[.slice none 0 0], []⟩).memory :=
  laidMet_of_run' 8 (by kernel_rfl) (by kernel_rfl)
theorem reads (os : Os) {H : Type} (enc : TypeId × Value → H) : ∃ places, DataW.whole enc Tryd.prog ((laidWorld os).forCall (fun _ _ => 0) ⟨#[], #[.slice none 0 0], []⟩).memory Tryd.f8.params.toList Rows.fnValidSumSpec.vars false (#[.slice none 0 0] : Array Value).toList 8 = some ([.nil], [Rows.laid_loop_example_transitfares_impl_stateLimits, Rows.laid_loop_example_transitfares_impl_sumSteps], places) :=
  ⟨MemPlace.row ⟨0, 0, none⟩ 24 ++ MemPlace.row ⟨1, 0, none⟩ 24, by kernel_rfl⟩
set_option maxRecDepth 100000 in
theorem lifted (os : Os) (started : os.Started) (H : Type) (enc : TypeId × Value → H) (F : Stop.Interp) :
    ReturnsInHanded {} Tryd.checked os 8 .any ((OpenSpec.ofChange Rows.fnValidSumSpec).preRow enc Tryd.prog Tryd.f8 Rows.fnValidSumRow.domain false Rows.fnValidSumRow.laid) (((OpenSpec.ofChange Rows.fnValidSumSpec).at F).post enc Tryd.prog Tryd.f8 false true false false) := by
  obtain ⟨places, hx⟩ := reads os enc
  refine returnsInHanded_of_row (C := Tryd.checked) (s := OpenSpec.ofChange Rows.fnValidSumSpec) Cells.own started (by kernel_rfl) Tryd.func8
    (witness_row_at (enc := enc) (C := Tryd.checked) false (laidWorld os) #[.slice none 0 0] rfl (by kernel_rfl) (by kernel_rfl) (by kernel_rfl)
      (OpenSpec.preRow_of_cond 8 hx (by kernel_rfl) (fun k hk => by cases hk) (by kernel_rfl) (laid_met os))) ?_
  intro W base args ds gs before hval hW _ _ _ hL _ _
  exact contract H enc W base args ds gs before hval hW hL
theorem said : Rows.FnValidSumSaid :=
  OpenClaim.holds_of_cond 8 Tryd.f8 rfl rfl rfl rfl rfl rfl rfl ⟨rfl, rfl, rfl, rfl, rfl⟩ rfl rfl rfl rfl rfl (by kernel_rfl) Tryd.func8 (by kernel_rfl)
    (of_decide_eq_true (by kernel_rfl)) (by unfold Func.isWrapper; first | (rw [if_pos (by decide +kernel)]; kernel_rfl) | (rw [if_neg (by decide +kernel)]; exact ⟨rfl, rfl⟩))
    (fun os started H enc _ F => by rw [OpenClaim.pre_eq_preRow]; exact lifted os started H enc F)
theorem plain (f : FuncId) (fn : Func) (hf : Tryd.pinned.checked.prog.funcNamed "loop.example/transitfares/laws.FnValidSum" = some f) (hfn : Tryd.pinned.checked.prog.funcs[f]? = some fn) :
    false = Tryd.pinned.checked.prog.looks [] ∧ ∀ (j : Nat) t, fn.params[j]? = some t → Tryd.pinned.checked.prog.wantsStandIn t = false := by
  obtain rfl : f = 8 := Option.some.inj ((show Tryd.prog.funcNamed "loop.example/transitfares/laws.FnValidSum" = some 8 by kernel_rfl).symm.trans hf) |>.symm
  obtain rfl : fn = Tryd.f8 := (Option.some.inj (Tryd.func8.symm.trans hfn)).symm
  refine ⟨by kernel_rfl, fun j t ht => ?_⟩
  rw [Tryd.params8] at ht
  have hm : t ∈ [45] := by simpa using Array.mem_of_getElem? ht
  have hall : ([45].all fun u => !Tryd.prog.wantsStandIn u) = true := by kernel_rfl
  exact (show Tryd.prog.wantsStandIn t = false by simpa using List.all_eq_true.1 hall t hm)
/-- THE STATEMENT: the tied card -/
theorem proved : Rows.FnValidSumCardSaid :=
  Claim7.holds_tied_plain_at .later [] _ _ _ _ said (fun _ h => by cases h) (by kernel_rfl) (fun _ h => by cases h) fnValidSum_row_tie rfl ⟨rfl, rfl⟩ (by kernel_rfl) rfl plain (by kernel_rfl)
#print axioms proved
end Go.Proofs.YtpdlngekeeaocaaDoor.fnValidSum
