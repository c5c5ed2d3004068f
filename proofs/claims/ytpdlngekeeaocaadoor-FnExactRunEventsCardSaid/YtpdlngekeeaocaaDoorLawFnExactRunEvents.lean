/-
  At every aggregate and list of events, RunEvents of the program answers as its model: the law FnExactRunEvents returns true and leaves its arguments as they were. The program's tables hold what its text lays in them.
-/
import Derived.Test.YtpdlngekeeaocaaDoorCards
import Derived.Test.YtpdlngekeeaocaaDoorTie
import Derived.Test.YtpdlngekeeaocaaDoorOpen
import Derived.Test.YtpdlngekeeaocaaDoorAggLaid
import Derived.Deep.DeepHandedRow
import Derived.Test.YtpdlngekeeaocaaDoorAggRun2
import Derived.Test.YtpdlngekeeaocaaDoorAggStarts
set_option linter.unusedSimpArgs false
namespace Go.Proofs.YtpdlngekeeaocaaDoor.fnExactRunEvents
open Go.ChangeShapes Go.WideShapes Go.ChangeAt Go.RowKit
set_option linter.unusedVariables false

set_option maxRecDepth 100000 in
set_option maxHeartbeats 2000000 in
theorem walk (w : World) (a0 : Fares.Sum) (f0 : sumFits a0) (A1 : Option Addr) (n1 c1 : Nat) (xs1 : List Fares.Event) (hn1 : xs1.length = n1) (hm1 : n1 ≤ maxLen) (hx1 : Events w w.heap.size A1 xs1) (hf1 : ∀ x ∈ xs1, eventFits x) (hL : Limits w) (hT : Steps w) : Calls Tryd.prog 5 #[sumV a0, .slice A1 n1 c1] w (TrueBelow w) := by
  by_cases hbig : 1048576 < n1
  · unfold sumV
    go_enter Tryd.func5, Tryd.ntmps5
    go_wp2_with fail
    refine (szEventS_any A1 n1 c1 _ _ (by omega) (by omega) hm1).mono ?_
    rintro e w' ⟨rfl, rfl⟩
    rw [if_pos (by omega)]
    go_wp2
    go_ret
    exact ⟨rfl, bA (Below.refl _ _) _⟩
  · have HL := Lib.hid hL; clear hL
    have HT := Lib.hid hT; clear hT
    go_enter Tryd.func5, Tryd.ntmps5
    have Hm := Lib.hid hm1; clear hm1
    have Hn := Lib.hid hn1; clear hn1
    have Hx := Lib.hid hx1; clear hx1
    have Hf := Lib.hid hf1; clear hf1
    unfold sumV
    go_wp2_with fail
    refine (szEventS_any A1 n1 c1 _ _ (by omega) (by omega) Hm.out).mono ?_
    rintro e w' ⟨rfl, rfl⟩
    rw [if_neg (by omega)]
    go_wp2_with fail
    generalize hW : World.alloc _ _ = w1
    have hbp : Blk w1 w.heap.size 23 (AggR.cells a0) := by rw [← hW]; exact Blk.new w _ _
    have HB1 : Hid (Below w.heap.size w w1) := Lib.hid (by rw [← hW]; exact bA (Below.refl _ _) _)
    have hz1 : w.heap.size < w1.heap.size := by rw [← hW]; simp
    clear hW
    have Hbp := Lib.hid hbp; clear hbp
    obtain ⟨⟨⟨s1, a1, t1⟩, m⟩, hP⟩ : ∃ P, P = Fares.runEvents a0 xs1 := ⟨_, rfl⟩
    have C0 : Hid (∀ W, Calls Tryd.prog 12 #[.agg #[.int .i64 a0.s, .int .i64 a0.a, .int .i64 a0.t]] W fun r w' => r = .returned (.agg #[.int .i64 a0.s, .int .i64 a0.a, .int .i64 a0.t]) ∧ Below W.heap.size W w') := fun W => toSum_any a0 W
    have C1 : Hid (∀ W A, Events W W.heap.size A xs1 → Calls Tryd.prog 19 #[.agg #[.int .i64 a0.s, .int .i64 a0.a, .int .i64 a0.t], .slice A n1 n1] W fun r w' => r = .returned (.tuple #[.agg #[.int .i64 s1, .int .i64 a1, .int .i64 t1], .int .i64 m]) ∧ Below W.heap.size W w') := fun W A h => by
      have := specRunEvents_any a0 A n1 n1 xs1 W h Hn.out (by omega)
      rw [← hP] at this
      exact this
    have C2 : Hid (∀ W A, Events W W.heap.size A xs1 → Limits W → Steps W → Calls Tryd.prog 21 #[.agg #[.int .i64 a0.s, .int .i64 a0.a, .int .i64 a0.t], .slice A n1 n1] W fun r w' => r = .returned (.tuple #[.agg #[.int .i64 s1, .int .i64 a1, .int .i64 t1], .int .i64 m]) ∧ Below W.heap.size W w') := fun W A h h1 h2 => by
      have := implRunEvents_any a0 A n1 n1 xs1 W h Hn.out (by omega) h1 h2
      rw [← hP] at this
      exact this
    have C3 : Hid (∀ W, Calls Tryd.prog 17 #[.agg #[.int .i64 s1, .int .i64 a1, .int .i64 t1], .agg #[.int .i64 s1, .int .i64 a1, .int .i64 t1]] W fun r w' => r = .returned (.bool true) ∧ Below W.heap.size W w') := fun W => by
      have := eqSum_any (⟨s1, a1, t1⟩ : Fares.Sum) (⟨s1, a1, t1⟩ : Fares.Sum) W
      rw [decide_eq_true rfl] at this
      exact this
    clear hP
    refine (C0.out _).mono ?_
    rintro e w2 ⟨rfl, hb2⟩
    have hz2 : w1.heap.size ≤ w2.heap.size := by have := hb2.size; (try simp at this); omega
    have HB2 := Lib.hid (bT HB1.out hb2)
    clear HB1
    have HP2 := Lib.hid (Blk.belowAll Hbp.out hb2)
    clear Hbp
    clear hb2
    go_wp2_with fail
    refine (toEventS_any A1 n1 c1 xs1 _ ((Hx.out.below HB2.out (Nat.le_refl _)).more (Below.size HB2.out)) Hn.out (by omega)).mono ?_
    rintro e w3 ⟨rfl, hs3, hb3⟩
    have Hs3 := Lib.hid hs3; clear hs3
    have hz3 : w2.heap.size ≤ w3.heap.size := by have := hb3.size; (try simp at this); omega
    have HB3 := Lib.hid (bT HB2.out hb3)
    clear HB2
    have HP3 := Lib.hid (Blk.belowAll HP2.out hb3)
    clear HP2
    clear hb3
    go_wp2_with fail
    refine (C1.out _ _ (Events.of Hs3.out)).mono ?_
    rintro e w4 ⟨rfl, hb4⟩
    have hz4 : w3.heap.size ≤ w4.heap.size := by have := hb4.size; (try simp at this); omega
    have HB4 := Lib.hid (bT HB3.out hb4)
    clear HB3
    have HP4 := Lib.hid (Blk.belowAll HP3.out hb4)
    clear HP3
    have HT4 := Lib.hid (startsOver Hs3.out hb4)
    clear Hs3
    clear hb4
    go_wp2_with fail
    generalize hW : World.alloc _ _ = w5
    have hbx5 : Blk w5 w4.heap.size 25 (AggR.cells (⟨s1, a1, t1⟩ : Fares.Sum)) := by rw [← hW]; exact Blk.new' (by simp)
    have hb5 : Below w4.heap.size w4 w5 := by rw [← hW]; exact bA (Below.refl _ _) _
    have hy5 : w4.heap.size < w5.heap.size := by rw [← hW]; simp
    clear hW
    have hz5 : w4.heap.size ≤ w5.heap.size := by have := hb5.size; (try simp at this); omega
    have HB5 := Lib.hid (bT HB4.out hb5)
    clear HB4
    have HP5 := Lib.hid (Blk.belowAll HP4.out hb5)
    clear HP4
    clear hb5
    have Hbx5 := Lib.hid hbx5; clear hbx5
    refine (toEventS_any A1 n1 c1 xs1 _ ((Hx.out.below HB5.out (Nat.le_refl _)).more (Below.size HB5.out)) Hn.out (by omega)).mono ?_
    rintro e w6 ⟨rfl, hs6, hb6⟩
    have Hs6 := Lib.hid hs6; clear hs6
    have hz6 : w5.heap.size ≤ w6.heap.size := by have := hb6.size; (try simp at this); omega
    have HB6 := Lib.hid (bT HB5.out hb6)
    clear HB5
    have HP6 := Lib.hid (Blk.belowAll HP5.out hb6)
    clear HP5
    have HW06 := Lib.hid (Blk.belowAll Hbx5.out hb6)
    clear Hbx5
    clear hb6
    obtain ⟨cP6_0, cP6_1, cP6_2⟩ := aggCells (t := 23) (v := a0) HP6.out
    go_wp2_with fail
    refine (C0.out _).mono ?_
    rintro e w7 ⟨rfl, hb7⟩
    clear cP6_0 cP6_1 cP6_2
    have hz7 : w6.heap.size ≤ w7.heap.size := by have := hb7.size; (try simp at this); omega
    have HB7 := Lib.hid (bT HB6.out hb7)
    clear HB6
    have HP7 := Lib.hid (Blk.belowAll HP6.out hb7)
    clear HP6
    have HW07 := Lib.hid (Blk.belowAll HW06.out hb7)
    clear HW06
    have HX7 := Lib.hid (startsOver Hs6.out hb7)
    clear Hs6
    clear hb7
    go_wp2_with fail
    refine (C2.out _ _ (Events.of HX7.out) (Limits.below HL.out HB7.out) (Steps.below HT.out HB7.out)).mono ?_
    rintro e w8 ⟨rfl, hb8⟩
    have hz8 : w7.heap.size ≤ w8.heap.size := by have := hb8.size; (try simp at this); omega
    have HB8 := Lib.hid (bT HB7.out hb8)
    clear HB7
    have HP8 := Lib.hid (Blk.belowAll HP7.out hb8)
    clear HP7
    have HW08 := Lib.hid (Blk.belowAll HW07.out hb8)
    clear HW07
    have HX8 := Lib.hid (startsOver HX7.out hb8)
    clear HX7
    clear hb8
    obtain ⟨cW08_0, cW08_1, cW08_2⟩ := aggCells (t := 25) (v := (⟨s1, a1, t1⟩ : Fares.Sum)) HW08.out
    have ltW08 : w4.heap.size < w8.heap.size := by omega
    go_wp2_with fail
    generalize hW : World.alloc _ _ = w9
    have hbx9 : Blk w9 w8.heap.size 25 (AggR.cells (⟨s1, a1, t1⟩ : Fares.Sum)) := by rw [← hW]; exact Blk.new' (by simp)
    have hb9 : Below w8.heap.size w8 w9 := by rw [← hW]; exact bA (Below.refl _ _) _
    have hy9 : w8.heap.size < w9.heap.size := by rw [← hW]; simp
    clear hW
    clear cW08_0 cW08_1 cW08_2 ltW08
    have hz9 : w8.heap.size ≤ w9.heap.size := by have := hb9.size; (try simp at this); omega
    have HB9 := Lib.hid (bT HB8.out hb9)
    clear HB8
    have HP9 := Lib.hid (Blk.belowAll HP8.out hb9)
    clear HP8
    have HW09 := Lib.hid (Blk.belowAll HW08.out hb9)
    clear HW08
    have HX9 := Lib.hid (startsOver HX8.out hb9)
    clear HX8
    clear hb9
    have Hbx9 := Lib.hid hbx9; clear hbx9
    refine (C3.out _).mono ?_
    rintro e w10 ⟨rfl, hb10⟩
    have hz10 : w9.heap.size ≤ w10.heap.size := by have := hb10.size; (try simp at this); omega
    have HB10 := Lib.hid (bT HB9.out hb10)
    clear HB9
    have HP10 := Lib.hid (Blk.belowAll HP9.out hb10)
    clear HP9
    have HW010 := Lib.hid (Blk.belowAll HW09.out hb10)
    clear HW09
    have HX10 := Lib.hid (startsOver HX9.out hb10)
    clear HX9
    have HG10 := Lib.hid (Blk.belowAll Hbx9.out hb10)
    clear Hbx9
    clear hb10
    go_wp2_with fail
    refine (toEventS_any A1 n1 c1 xs1 _ ((Hx.out.below HB10.out (Nat.le_refl _)).more (Below.size HB10.out)) Hn.out (by omega)).mono ?_
    rintro e w11 ⟨rfl, hs11, hb11⟩
    have Hs11 := Lib.hid hs11; clear hs11
    have hz11 : w10.heap.size ≤ w11.heap.size := by have := hb11.size; (try simp at this); omega
    have HB11 := Lib.hid (bT HB10.out hb11)
    clear HB10
    have HP11 := Lib.hid (Blk.belowAll HP10.out hb11)
    clear HP10
    have HW011 := Lib.hid (Blk.belowAll HW010.out hb11)
    clear HW010
    have HX11 := Lib.hid (startsOver HX10.out hb11)
    clear HX10
    have HG11 := Lib.hid (Blk.belowAll HG10.out hb11)
    clear HG10
    clear hb11
    go_wp2_with fail
    refine (eqEventS_any _ _ n1 n1 n1 n1 xs1 xs1 _ (Events.of HX11.out) (Events.of Hs11.out) Hn.out Hn.out (by omega) (by omega)).mono ?_
    rintro e w12 ⟨rfl, hb12⟩
    have hz12 : w11.heap.size ≤ w12.heap.size := by have := hb12.size; (try simp at this); omega
    have HB12 := Lib.hid (bT HB11.out hb12)
    clear HB11
    have HP12 := Lib.hid (Blk.belowAll HP11.out hb12)
    clear HP11
    have HW012 := Lib.hid (Blk.belowAll HW011.out hb12)
    clear HW011
    have HX12 := Lib.hid (startsOver HX11.out hb12)
    clear HX11
    have HG12 := Lib.hid (Blk.belowAll HG11.out hb12)
    clear HG11
    have HY12 := Lib.hid (startsOver Hs11.out hb12)
    clear Hs11
    clear hb12
    rw [decide_eq_true (rfl : xs1 = xs1)]
    go_wp2
    go_ret
    exact ⟨rfl, HB12.out⟩

theorem contract (H : Type) (enc : TypeId × Value → H) (W : World) (base : Nat) (args : Array Value) (ds gs : List (DataW H)) (before : List MemPlace)
    (hval : ∀ (j : Nat) t v, Tryd.f5.params[j]? = some t → args[j]? = some v → Value.okWide Tryd.prog W .any base t v)
    (hW : DataW.Whole enc Tryd.prog Tryd.f5.params.toList Rows.fnExactRunEventsSpec.vars false W args.toList ds gs before) (hL : laidMetH Tryd.prog Rows.fnExactRunEventsRow.laid W) :
    Calls Tryd.prog 5 args W fun e W' => ∃ v, e = .returned v ∧ Rows.fnExactRunEventsSpec.post enc Tryd.prog Tryd.f5 false true false false W args v W' := by
  have hL0 : laidMet Tryd.prog [("loop.example/transitfares/impl.stateLimits", Rows.laid_loop_example_transitfares_impl_stateLimits), ("loop.example/transitfares/impl.sumSteps", Rows.laid_loop_example_transitfares_impl_sumSteps)] W := by
    have h : laidMetH Tryd.prog [("loop.example/transitfares/impl.stateLimits", Rows.laid_loop_example_transitfares_impl_stateLimits), ("loop.example/transitfares/impl.sumSteps", Rows.laid_loop_example_transitfares_impl_sumSteps)] W := hL
    unfold laidMetH at h
    exact h
  have hv0 : Limits W := limits_of_head rfl hL0
  have hv1 : Steps W := steps_of_head rfl hL0.tail
  have hW' := hW
  obtain ⟨p, q, hA0, hV, rfl, _, _⟩ := hW
  have hA : DataW.TrodAll enc Tryd.prog W 0 (fun _ => true) true Tryd.f5.params.toList args.toList ds p := hA0
  rw [Tryd.params5] at hA hval
  obtain ⟨v0, vs0, d0, ds0, p0, q0, hargs, rfl, rfl, h0, r0⟩ := trodAll_cons hA
  obtain ⟨v1, vs1, d1, ds1, p1, q1, rfl, rfl, rfl, h1, r1⟩ := trodAll_cons r0
  obtain ⟨rfl, rfl, rfl⟩ := trodAll_nil r1
  obtain rfl : args = #[v0, v1] := by cases args; simp_all
  obtain ⟨g1, g2, rfl⟩ := vars2 hV
  clear hA0
  have hlt : ∀ x ∈ (p0 ++ (p1 ++ [])), x.block < W.heap.size := fun x hx => hW'.lt x (List.mem_append_left _ hx)
  have k0 := fun (W' : World) (hn : Below W.heap.size W W') => Below.trod Cells.laidOut (by kernel_rfl) (of_decide_eq_true (by kernel_rfl)) h0 hn (fun x hx => hlt x (by simp [hx]))
  have k1 := fun (W' : World) (hn : Below W.heap.size W W') => Below.trod Cells.laidOut (by kernel_rfl) (of_decide_eq_true (by kernel_rfl)) h1 hn (fun x hx => hlt x (by simp [hx]))
  obtain ⟨a0, rfl, f0⟩ := sum_open (hval 0 23 v0 rfl rfl) h0
  obtain ⟨A1, n1, c1, xs1, rfl, hn1, hm1, hx1, hf1⟩ := events_open (hval 1 36 v1 rfl rfl) h1
  refine (walk W a0 f0 A1 n1 c1 xs1 hn1 hm1 hx1 hf1 hv0 hv1).mono fun e W' ⟨he, hnx⟩ => ?_
  subst he
  exact ⟨_, rfl, _, _, _, [], (p0 ++ (p1 ++ [])), q, hW', trodAll_mk1 (shut_bool Tryd.underlying4 _), (trodAll_cons_mk (k0 _ hnx) (trodAll_cons_mk (k1 _ hnx) trodAll_mk0)), Below.trodVars Cells.laidOut hnx (by kernel_rfl) hV, hnx.frame _, fun h => by cases h⟩

/-- A world in which the tables lie. -/
noncomputable def laidWorld (os : Os) : World :=
  { World.holding Tryd.prog os ⟨#[], #[], []⟩ with heap := (((World.holding Tryd.prog os ⟨#[], #[], []⟩).heap).modify 0 (fun x => match x with | .cells _ t frozen => .cells limitCells t frozen | o => o)).modify 1 (fun x => match x with | .cells _ t frozen => .cells stepCells t frozen | o => o) }
theorem laid_met (os : Os) : laidMet Tryd.prog Rows.fnExactRunEventsRow.laid ((laidWorld os).forCall (fun _ _ => 0) ⟨#[], #[.agg #[.int .i64 0, .int .i64 0, .int .i64 0], .slice none 0 0], []⟩).memory :=
  laidMet_of_run' 8 (by kernel_rfl) (by kernel_rfl)
theorem reads (os : Os) {H : Type} (enc : TypeId × Value → H) : ∃ places, DataW.whole enc Tryd.prog ((laidWorld os).forCall (fun _ _ => 0) ⟨#[], #[.agg #[.int .i64 0, .int .i64 0, .int .i64 0], .slice none 0 0], []⟩).memory Tryd.f5.params.toList Rows.fnExactRunEventsSpec.vars false (#[.agg #[.int .i64 0, .int .i64 0, .int .i64 0], .slice none 0 0] : Array Value).toList 8 = some ([.agg [.lit (.int .i64 0), .lit (.int .i64 0), .lit (.int .i64 0)], .nil], [Rows.laid_loop_example_transitfares_impl_stateLimits, Rows.laid_loop_example_transitfares_impl_sumSteps], places) :=
  ⟨MemPlace.row ⟨0, 0, none⟩ 24 ++ MemPlace.row ⟨1, 0, none⟩ 24, by kernel_rfl⟩
set_option maxRecDepth 100000 in
theorem lifted (os : Os) (started : os.Started) (H : Type) (enc : TypeId × Value → H) (F : Stop.Interp) :
    ReturnsInHanded {} Tryd.checked os 5 .any ((OpenSpec.ofChange Rows.fnExactRunEventsSpec).preRow enc Tryd.prog Tryd.f5 Rows.fnExactRunEventsRow.domain false Rows.fnExactRunEventsRow.laid) (((OpenSpec.ofChange Rows.fnExactRunEventsSpec).at F).post enc Tryd.prog Tryd.f5 false true false false) := by
  obtain ⟨places, hx⟩ := reads os enc
  refine returnsInHanded_of_row (C := Tryd.checked) (s := OpenSpec.ofChange Rows.fnExactRunEventsSpec) Cells.own started (by kernel_rfl) Tryd.func5
    (witness_row_at (enc := enc) (C := Tryd.checked) false (laidWorld os) #[.agg #[.int .i64 0, .int .i64 0, .int .i64 0], .slice none 0 0] rfl (by kernel_rfl) (by kernel_rfl) (by kernel_rfl)
      (OpenSpec.preRow_of_cond 8 hx (by kernel_rfl) (fun k hk => by cases hk) (by kernel_rfl) (laid_met os))) ?_
  intro W base args ds gs before hval hW _ _ _ hL _ _
  exact contract H enc W base args ds gs before hval hW hL
theorem said : Rows.FnExactRunEventsSaid :=
  OpenClaim.holds_of_cond 5 Tryd.f5 rfl rfl rfl rfl rfl rfl rfl ⟨rfl, rfl, rfl, rfl, rfl⟩ rfl rfl rfl rfl rfl (by kernel_rfl) Tryd.func5 (by kernel_rfl)
    (of_decide_eq_true (by kernel_rfl)) (by unfold Func.isWrapper; first | (rw [if_pos (by decide +kernel)]; kernel_rfl) | (rw [if_neg (by decide +kernel)]; exact ⟨rfl, rfl⟩))
    (fun os started H enc _ F => by rw [OpenClaim.pre_eq_preRow]; exact lifted os started H enc F)
theorem plain (f : FuncId) (fn : Func) (hf : Tryd.pinned.checked.prog.funcNamed "loop.example/transitfares/laws.FnExactRunEvents" = some f) (hfn : Tryd.pinned.checked.prog.funcs[f]? = some fn) :
    false = Tryd.pinned.checked.prog.looks [] ∧ ∀ (j : Nat) t, fn.params[j]? = some t → Tryd.pinned.checked.prog.wantsStandIn t = false := by
  obtain rfl : f = 5 := Option.some.inj ((show Tryd.prog.funcNamed "loop.example/transitfares/laws.FnExactRunEvents" = some 5 by kernel_rfl).symm.trans hf) |>.symm
  obtain rfl : fn = Tryd.f5 := (Option.some.inj (Tryd.func5.symm.trans hfn)).symm
  refine ⟨by kernel_rfl, fun j t ht => ?_⟩
  rw [Tryd.params5] at ht
  have hm : t ∈ [23, 36] := by simpa using Array.mem_of_getElem? ht
  have hall : ([23, 36].all fun u => !Tryd.prog.wantsStandIn u) = true := by kernel_rfl
  exact (show Tryd.prog.wantsStandIn t = false by simpa using List.all_eq_true.1 hall t hm)
/-- THE STATEMENT: the tied card -/
theorem proved : Rows.FnExactRunEventsCardSaid :=
  Claim7.holds_tied_plain_at .later [] _ _ _ _ said (fun _ h => by cases h) (by kernel_rfl) (fun _ h => by cases h) fnExactRunEvents_row_tie rfl ⟨rfl, rfl⟩ (by kernel_rfl) rfl plain (by kernel_rfl)
#print axioms proved
end Go.Proofs.YtpdlngekeeaocaaDoor.fnExactRunEvents
