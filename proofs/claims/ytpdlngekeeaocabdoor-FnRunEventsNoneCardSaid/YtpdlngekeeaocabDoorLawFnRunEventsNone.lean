/-
  Without events nothing happens: for every code, with the aggregate and the events drawn from it, the law FnRunEventsNone returns true and leaves the code as it was. The program's tables hold what its text lays in them.
-/
import Derived.Test.YtpdlngekeeaocabDoorCards
import Derived.Test.YtpdlngekeeaocabDoorTie
import Derived.Test.YtpdlngekeeaocabDoorOpen
import Derived.Test.YtpdlngekeeaocabDoorAggLaid
import Derived.Deep.DeepHandedRow
import Derived.Deep.RegionHeld3
import Derived.Test.YtpdlngekeeaocabDoorAggRunLaw
import Derived.Test.YtpdlngekeeaocabDoorDrawsRun
import Derived.Test.YtpdlngekeeaocabDoorLiftBytes
import Derived.Test.YtpdlngekeeaocabDoorReg
set_option linter.unusedSimpArgs false
namespace Go.Proofs.YtpdlngekeeaocabDoor.fnRunEventsNone
open Go.ChangeShapes Go.WideShapes Go.ChangeAt Go.RowKit
set_option linter.unusedVariables false

set_option maxRecDepth 100000 in
set_option maxHeartbeats 2000000 in
theorem walk (w : World) (A : Option Addr) (n c : Nat) (h : Bytes w w.heap.size A n c) (hL : Limits w) (hT : Steps w) : Calls Tryd.prog 6 #[.slice A n c] w (TrueBelow w) := by
  by_cases hn : 1048576 < n
  · go_enter Tryd.func6, Tryd.ntmps6
    go_wp2
    go_ret
    exact ⟨rfl, Below.refl _ _⟩
  · skip
    go_enter Tryd.func6, Tryd.ntmps6
    have HL := Lib.hid hL; clear hL
    have HT := Lib.hid hT; clear hT
    go_wp2_with fail
    refine (drawRunEvents_any A n c w h).mono ?_
    rintro e w0 ⟨x, AE, cE, l, rfl, hsm, hl21, hlc, hcm, hev, hEv, hAE, hc0⟩
    go_wp2_with fail
    generalize hW : World.alloc _ _ = w1
    have hba1 : Blk w1 (w0.heap.size) 24 (AggR.cells x) := by rw [← hW]; exact Blk.new' (by simp)
    have HB1 : Hid (Below w.heap.size w w1) := Lib.hid (by rw [← hW]; exact bA (hc0) _)
    have hz1 : w0.heap.size < w1.heap.size := by rw [← hW]; simp
    have hz0 : w.heap.size ≤ w0.heap.size := hc0.size
    have HB0 : Hid (Below w0.heap.size w0 w1) := Lib.hid (by rw [← hW]; exact bA (Below.refl _ _) _)
    clear hW hc0
    have Hba1 := Lib.hid hba1; clear hba1
    have HAE := Lib.hid hAE; clear hAE
    have HEv := Lib.hid hEv; clear hEv
    have Hcm := Lib.hid hcm; clear hcm
    have Hevs := Lib.hid hev; clear hev
    unfold aggSmall at hsm
    obtain ⟨x1, x2, x3, x4, x5, x6⟩ := hsm
    obtain ⟨⟨⟨s1, a1, t1⟩, m⟩, hP⟩ : ∃ P, P = Fares.runEvents x l := ⟨_, rfl⟩
    have hmr := run_range hP
    obtain ⟨m0, m1⟩ := hmr
    have HP := Lib.hid hP; clear hP
    refine (implRun_cells x AE l.length cE l s1 a1 t1 m HP.out _ ((HEv.out.below HB0.out (Nat.le_refl _)).more (Below.size HB0.out)) rfl (by omega) (Limits.below HL.out HB1.out) (Steps.below HT.out HB1.out)).mono ?_
    rintro e w2 ⟨rfl, hb2⟩
    have hz2 : w1.heap.size ≤ w2.heap.size := by have := hb2.size; (try simp at this); omega
    have Ha2 := Lib.hid (Blk.belowAll Hba1.out hb2)
    clear Hba1
    have HB2 := Lib.hid (bT HB1.out hb2)
    clear HB1
    have HB02 := Lib.hid (bT HB0.out hb2)
    clear HB0
    clear hb2
    obtain ⟨ca2_0, ca2_1, ca2_2⟩ := aggCells (t := 24) (v := x) Ha2.out
    have lta2 : w0.heap.size < w2.heap.size := by omega
    go_wp2_with fail
    generalize hW : World.alloc _ _ = w3
    have hbx3 : Blk w3 w2.heap.size 24 (AggR.cells (⟨s1, a1, t1⟩ : Fares.Sum)) := by rw [← hW]; exact Blk.new' (by simp)
    have hb3 : Below w2.heap.size w2 w3 := by rw [← hW]; exact bA (Below.refl _ _) _
    have hy3 : w2.heap.size < w3.heap.size := by rw [← hW]; simp
    clear hW
    clear ca2_0 ca2_1 ca2_2 lta2
    have hz3 : w2.heap.size ≤ w3.heap.size := by have := hb3.size; (try simp at this); omega
    have Ha3 := Lib.hid (Blk.belowAll Ha2.out hb3)
    clear Ha2
    have HB3 := Lib.hid (bT HB2.out hb3)
    clear HB2
    have HB03 := Lib.hid (bT HB02.out hb3)
    clear HB02
    clear hb3
    have Hbx3 := Lib.hid hbx3; clear hbx3
    refine (specRun_cells x AE l.length cE l s1 a1 t1 m HP.out _ ((HEv.out.below HB03.out (Nat.le_refl _)).more (Below.size HB03.out)) rfl (by omega)).mono ?_
    rintro e w4 ⟨rfl, hb4⟩
    have hz4 : w3.heap.size ≤ w4.heap.size := by have := hb4.size; (try simp at this); omega
    have Ha4 := Lib.hid (Blk.belowAll Ha3.out hb4)
    clear Ha3
    have HB4 := Lib.hid (bT HB3.out hb4)
    clear HB3
    have HB04 := Lib.hid (bT HB03.out hb4)
    clear HB03
    have Hb4 := Lib.hid (Blk.belowAll Hbx3.out hb4)
    clear Hbx3
    clear hb4
    by_cases hm : m < 0
    · have dm : decide (m < 0) = true := decide_eq_true hm
      obtain ⟨ca4_0, ca4_1, ca4_2⟩ := aggCells (t := 24) (v := x) Ha4.out
      obtain ⟨cb4_0, cb4_1, cb4_2⟩ := aggCells (t := 24) (v := (⟨s1, a1, t1⟩ : Fares.Sum)) Hb4.out
      have lta4 : w0.heap.size < w4.heap.size := by omega
      have ltb4 : w2.heap.size < w4.heap.size := by omega
      dsimp only at cb4_0 cb4_1 cb4_2
      go_wp2
      all_goals (go_ret; refine ⟨ret_bool ?_, bA HB4.out _⟩; first | rfl | (simp; done))
    · have dm : decide (m < 0) = false := decide_eq_false hm
      have hyes := run_yes HP.out (by omega)
      have hml := run_len HP.out (by omega)
      have HV := Lib.hid hyes.1
      have h20 := hyes.2.1
      have HA := Lib.hid hyes.2.2
      clear hyes
      obtain ⟨ca4_0, ca4_1, ca4_2⟩ := aggCells (t := 24) (v := x) Ha4.out
      obtain ⟨cb4_0, cb4_1, cb4_2⟩ := aggCells (t := 24) (v := (⟨s1, a1, t1⟩ : Fares.Sum)) Hb4.out
      have lta4 : w0.heap.size < w4.heap.size := by omega
      have ltb4 : w2.heap.size < w4.heap.size := by omega
      dsimp only at cb4_0 cb4_1 cb4_2
      go_wp2_with fail
      generalize hW : World.alloc _ _ = w5
      have hbx5 : Blk w5 w4.heap.size 24 (AggR.cells (⟨s1, a1, t1⟩ : Fares.Sum)) := by rw [← hW]; exact Blk.new' (by simp)
      have hb5 : Below w4.heap.size w4 w5 := by rw [← hW]; exact bA (Below.refl _ _) _
      have hy5 : w4.heap.size < w5.heap.size := by rw [← hW]; simp
      clear hW
      clear ca4_0 ca4_1 ca4_2 cb4_0 cb4_1 cb4_2 lta4 ltb4
      have hz5 : w4.heap.size ≤ w5.heap.size := by have := hb5.size; (try simp at this); omega
      have Ha5 := Lib.hid (Blk.belowAll Ha4.out hb5)
      clear Ha4
      have HB5 := Lib.hid (bT HB4.out hb5)
      clear HB4
      have HB05 := Lib.hid (bT HB04.out hb5)
      clear HB04
      have Hb5 := Lib.hid (Blk.belowAll Hb4.out hb5)
      clear Hb4
      clear hb5
      have Hbx5 := Lib.hid hbx5; clear hbx5
      refine (implRun_cells x none 0 0 [] x.s x.a x.t 0 (run_none HV.out) _ (Reads.nil _ _ _) rfl (by omega) (Limits.below HL.out HB5.out) (Steps.below HT.out HB5.out)).mono ?_
      rintro e w6 ⟨rfl, hb6⟩
      have hz6 : w5.heap.size ≤ w6.heap.size := by have := hb6.size; (try simp at this); omega
      have Ha6 := Lib.hid (Blk.belowAll Ha5.out hb6)
      clear Ha5
      have HB6 := Lib.hid (bT HB5.out hb6)
      clear HB5
      have HB06 := Lib.hid (bT HB05.out hb6)
      clear HB05
      have Hb6 := Lib.hid (Blk.belowAll Hb5.out hb6)
      clear Hb5
      have Hc06 := Lib.hid (Blk.belowAll Hbx5.out hb6)
      clear Hbx5
      clear hb6
      obtain ⟨ca6_0, ca6_1, ca6_2⟩ := aggCells (t := 24) (v := x) Ha6.out
      have lta6 : w0.heap.size < w6.heap.size := by omega
      go_wp2_with fail
      generalize hW : World.alloc _ _ = w7
      have hbC : Blk w7 w6.heap.size 24 (AggR.cells x) := by rw [← hW]; exact (Blk.new w6 _ _).alloc _
      have hbE : Blk w7 (w6.heap.size + 1) 26 #[.int .i64 0, .int .i64 0, .int .i64 9, .int .i64 0] := by rw [← hW]; exact Blk.new' (by simp)
      have hb7 : Below w6.heap.size w6 w7 := by rw [← hW]; exact bA (bA (Below.refl _ _) _) _
      have hy7 : w6.heap.size + 1 < w7.heap.size := by rw [← hW]; simp
      clear hW
      clear ca6_0 ca6_1 ca6_2 lta6
      have hz7 : w6.heap.size ≤ w7.heap.size := by have := hb7.size; (try simp at this); omega
      have Ha7 := Lib.hid (Blk.belowAll Ha6.out hb7)
      clear Ha6
      have HB7 := Lib.hid (bT HB6.out hb7)
      clear HB6
      have HB07 := Lib.hid (bT HB06.out hb7)
      clear HB06
      have Hb7 := Lib.hid (Blk.belowAll Hb6.out hb7)
      clear Hb6
      have Hc07 := Lib.hid (Blk.belowAll Hc06.out hb7)
      clear Hc06
      clear hb7
      have HbC := Lib.hid hbC; clear hbC
      refine (implRun_cells x (some ⟨w6.heap.size + 1, 0, none⟩) 2 2 [⟨0, 0⟩, ⟨9, 0⟩] x.s x.a x.t 0 (run_two HV.out) _ (two_events hbE) rfl (by omega) (Limits.below HL.out HB7.out) (Steps.below HT.out HB7.out)).mono ?_
      rintro e w8 ⟨rfl, hb8⟩
      have hz8 : w7.heap.size ≤ w8.heap.size := by have := hb8.size; (try simp at this); omega
      have Ha8 := Lib.hid (Blk.belowAll Ha7.out hb8)
      clear Ha7
      have HB8 := Lib.hid (bT HB7.out hb8)
      clear HB7
      have HB08 := Lib.hid (bT HB07.out hb8)
      clear HB07
      have Hb8 := Lib.hid (Blk.belowAll Hb7.out hb8)
      clear Hb7
      have Hc08 := Lib.hid (Blk.belowAll Hc07.out hb8)
      clear Hc07
      have HC8 := Lib.hid (Blk.belowAll HbC.out hb8)
      clear HbC
      clear hb8
      clear hbE
      obtain ⟨ca8_0, ca8_1, ca8_2⟩ := aggCells (t := 24) (v := x) Ha8.out
      obtain ⟨cb8_0, cb8_1, cb8_2⟩ := aggCells (t := 24) (v := (⟨s1, a1, t1⟩ : Fares.Sum)) Hb8.out
      obtain ⟨cC8_0, cC8_1, cC8_2⟩ := aggCells (t := 24) (v := x) HC8.out
      have lta8 : w0.heap.size < w8.heap.size := by omega
      have ltb8 : w2.heap.size < w8.heap.size := by omega
      have ltC8 : w6.heap.size < w8.heap.size := by omega
      have dl : decide (m ≤ (l.length : Int)) = true := decide_eq_true hml
      go_wp2
      all_goals (go_ret; refine ⟨ret_bool ?_, bA HB8.out _⟩; first | rfl | (simp; done))

theorem contract (H : Type) (enc : TypeId × Value → H) (W : World) (base : Nat) (args : Array Value) (ds gs : List (DataW H)) (before : List MemPlace)
    (hval : ∀ (j : Nat) t v, Tryd.f6.params[j]? = some t → args[j]? = some v → Value.okWide Tryd.prog W .any base t v)
    (hW : DataW.Whole enc Tryd.prog Tryd.f6.params.toList Rows.fnRunEventsNoneSpec.vars false W args.toList ds gs before) (hL : laidMetH Tryd.prog Rows.fnRunEventsNoneRow.laid W) :
    Calls Tryd.prog 6 args W fun e W' => ∃ v, e = .returned v ∧ Rows.fnRunEventsNoneSpec.post enc Tryd.prog Tryd.f6 false true false false W args v W' := by
  have hL0 : laidMet Tryd.prog [("loop.example/transitfares/impl.stateLimits", Rows.laid_loop_example_transitfares_impl_stateLimits), ("loop.example/transitfares/impl.sumSteps", Rows.laid_loop_example_transitfares_impl_sumSteps)] W := by
    have h : laidMetH Tryd.prog [("loop.example/transitfares/impl.stateLimits", Rows.laid_loop_example_transitfares_impl_stateLimits), ("loop.example/transitfares/impl.sumSteps", Rows.laid_loop_example_transitfares_impl_sumSteps)] W := hL
    unfold laidMetH at h
    exact h
  have hv0 : Limits W := limits_of_head rfl hL0
  have hv1 : Steps W := steps_of_head rfl hL0.tail
  have hW' := hW
  obtain ⟨p, q, hA0, hV, rfl, _, _⟩ := hW
  have hA : DataW.TrodAll enc Tryd.prog W 0 (fun _ => true) true Tryd.f6.params.toList args.toList ds p := hA0
  rw [Tryd.params6] at hA hval
  obtain ⟨v0, vs0, d0, ds0, p0, q0, hargs, rfl, rfl, h0, r0⟩ := trodAll_cons hA
  obtain ⟨rfl, rfl, rfl⟩ := trodAll_nil r0
  obtain rfl : args = #[v0] := by cases args; simp_all
  obtain ⟨g1, g2, rfl⟩ := vars2 hV
  clear hA0
  have hlt : ∀ x ∈ (p0 ++ []), x.block < W.heap.size := fun x hx => hW'.lt x (List.mem_append_left _ hx)
  have k0 := fun (W' : World) (hn : Below W.heap.size W W') => Below.trod Cells.laidOut (by kernel_rfl) (of_decide_eq_true (by kernel_rfl)) h0 hn (fun x hx => hlt x (by simp [hx]))
  obtain ⟨a0, len, cap, rfl⟩ := okWide_slice Tryd.underlying22 (hval 0 22 v0 rfl rfl)
  have hb := (opened h0 (fun x hx => hlt x (by simp [hx]))).1
  refine (walk W a0 len cap hb hv0 hv1).mono fun e W' ⟨he, hnx⟩ => ?_
  subst he
  exact ⟨_, rfl, _, _, _, [], (p0 ++ []), q, hW', trodAll_mk1 (shut_bool Tryd.underlying4 _), (trodAll_cons_mk (k0 _ hnx) trodAll_mk0), Below.trodVars Cells.laidOut hnx (by kernel_rfl) hV, hnx.frame _, fun h => by cases h⟩

/-- A world in which the tables lie. -/
noncomputable def laidWorld (os : Os) : World :=
  { World.holding Tryd.prog os ⟨#[], #[], []⟩ with heap := (((World.holding Tryd.prog os ⟨#[], #[], []⟩).heap).modify 0 (fun x => match x with | .cells _ t frozen => .cells limitCells t frozen | o => o)).modify 1 (fun x => match x with | .cells _ t frozen => .cells stepCells t frozen | o => o) }
theorem laid_met (os : Os) : laidMet Tryd.prog Rows.fnRunEventsNoneRow.laid ((laidWorld os).forCall (fun _ _ => 0) ⟨#[], #[.slice none 0 0], []⟩).memory :=
  laidMet_of_run' 8 (by kernel_rfl) (by kernel_rfl)
theorem reads (os : Os) {H : Type} (enc : TypeId × Value → H) : ∃ places, DataW.whole enc Tryd.prog ((laidWorld os).forCall (fun _ _ => 0) ⟨#[], #[.slice none 0 0], []⟩).memory Tryd.f6.params.toList Rows.fnRunEventsNoneSpec.vars false (#[.slice none 0 0] : Array Value).toList 8 = some ([.nil], [Rows.laid_loop_example_transitfares_impl_stateLimits, Rows.laid_loop_example_transitfares_impl_sumSteps], places) :=
  ⟨MemPlace.row ⟨0, 0, none⟩ 24 ++ MemPlace.row ⟨1, 0, none⟩ 24, by kernel_rfl⟩
set_option maxRecDepth 100000 in
theorem lifted (os : Os) (started : os.Started) (H : Type) (enc : TypeId × Value → H) (F : Stop.Interp) :
    ReturnsInHanded {} Tryd.checked os 6 .any ((OpenSpec.ofChange Rows.fnRunEventsNoneSpec).preRow enc Tryd.prog Tryd.f6 Rows.fnRunEventsNoneRow.domain false Rows.fnRunEventsNoneRow.laid) (((OpenSpec.ofChange Rows.fnRunEventsNoneSpec).at F).post enc Tryd.prog Tryd.f6 false true false false) := by
  obtain ⟨places, hx⟩ := reads os enc
  refine returnsInHanded_of_row (C := Tryd.checked) (s := OpenSpec.ofChange Rows.fnRunEventsNoneSpec) Cells.own started (by kernel_rfl) Tryd.func6
    (witness_row_at (enc := enc) (C := Tryd.checked) false (laidWorld os) #[.slice none 0 0] rfl (by kernel_rfl) (by kernel_rfl) (by kernel_rfl)
      (OpenSpec.preRow_of_cond 8 hx (by kernel_rfl) (fun k hk => by cases hk) (by kernel_rfl) (laid_met os))) ?_
  intro W base args ds gs before hval hW _ _ _ hL _ _
  exact contract H enc W base args ds gs before hval hW hL
theorem said : Rows.FnRunEventsNoneSaid :=
  OpenClaim.holds_of_cond 6 Tryd.f6 rfl rfl rfl rfl rfl rfl rfl ⟨rfl, rfl, rfl, rfl, rfl⟩ rfl rfl rfl rfl rfl (by kernel_rfl) Tryd.func6 (by kernel_rfl)
    (of_decide_eq_true (by kernel_rfl)) (by unfold Func.isWrapper; first | (rw [if_pos (by decide +kernel)]; kernel_rfl) | (rw [if_neg (by decide +kernel)]; exact ⟨rfl, rfl⟩))
    (fun os started H enc _ F => by rw [OpenClaim.pre_eq_preRow]; exact lifted os started H enc F)
theorem plain (f : FuncId) (fn : Func) (hf : Tryd.pinned.checked.prog.funcNamed "loop.example/transitfares/laws.FnRunEventsNone" = some f) (hfn : Tryd.pinned.checked.prog.funcs[f]? = some fn) :
    false = Tryd.pinned.checked.prog.looks [] ∧ ∀ (j : Nat) t, fn.params[j]? = some t → Tryd.pinned.checked.prog.wantsStandIn t = false := by
  obtain rfl : f = 6 := Option.some.inj ((show Tryd.prog.funcNamed "loop.example/transitfares/laws.FnRunEventsNone" = some 6 by kernel_rfl).symm.trans hf) |>.symm
  obtain rfl : fn = Tryd.f6 := (Option.some.inj (Tryd.func6.symm.trans hfn)).symm
  refine ⟨by kernel_rfl, fun j t ht => ?_⟩
  rw [Tryd.params6] at ht
  have hm : t ∈ [22] := by simpa using Array.mem_of_getElem? ht
  have hall : ([22].all fun u => !Tryd.prog.wantsStandIn u) = true := by kernel_rfl
  exact (show Tryd.prog.wantsStandIn t = false by simpa using List.all_eq_true.1 hall t hm)
/-- THE STATEMENT: the tied card -/
theorem proved : Rows.FnRunEventsNoneCardSaid :=
  Claim7.holds_tied_plain_at .later [] _ _ _ _ said (fun _ h => by cases h) (by kernel_rfl) (fun _ h => by cases h) fnRunEventsNone_row_tie rfl ⟨rfl, rfl⟩ (by kernel_rfl) rfl plain (by kernel_rfl)
#print axioms proved
end Go.Proofs.YtpdlngekeeaocabDoor.fnRunEventsNone
