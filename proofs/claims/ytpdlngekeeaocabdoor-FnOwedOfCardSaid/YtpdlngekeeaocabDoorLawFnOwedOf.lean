/-
  What is paid is not owed: for every code, with the aggregate drawn from it, the law FnOwedOf returns true and leaves the code as it was. The program's table holds what its text lays in it.
-/
import Derived.Test.YtpdlngekeeaocabDoorCards
import Derived.Test.YtpdlngekeeaocabDoorTie
import Derived.Test.YtpdlngekeeaocabDoorOpen
import Derived.Test.YtpdlngekeeaocabDoorAggLaid
import Derived.Deep.DeepHandedRow
import Derived.Test.YtpdlngekeeaocabDoorAggBox2
import Derived.Test.YtpdlngekeeaocabDoorAggFinal
import Derived.Test.YtpdlngekeeaocabDoorDrawsSum
import Derived.Test.YtpdlngekeeaocabDoorLiftBytes
set_option linter.unusedSimpArgs false
namespace Go.Proofs.YtpdlngekeeaocabDoor.fnOwedOf
open Go.ChangeShapes Go.WideShapes Go.ChangeAt Go.RowKit
set_option linter.unusedVariables false

set_option maxRecDepth 100000 in
set_option maxHeartbeats 2000000 in
theorem walk (w : World) (A : Option Addr) (n c : Nat) (h : Bytes w w.heap.size A n c) (hL : Limits w) : Calls Tryd.prog 8 #[.slice A n c] w (TrueBelow w) := by
  by_cases hn : 1048576 < n
  · go_enter Tryd.func8, Tryd.ntmps8
    go_wp2
    go_ret
    exact ⟨rfl, Below.refl _ _⟩
  · skip
    go_enter Tryd.func8, Tryd.ntmps8
    have HL := Lib.hid hL; clear hL
    go_wp2_with fail
    refine (drawOwedOf_any A n c w h).mono ?_
    rintro e w0 ⟨x, rfl, hsm, hc0⟩
    go_wp2_with fail
    generalize hW : World.alloc _ _ = w1
    have hba1 : Blk w1 (w0.heap.size) 24 (AggR.cells x) := by rw [← hW]; exact Blk.new' (by simp)
    have HB1 : Hid (Below w.heap.size w w1) := Lib.hid (by rw [← hW]; exact bA (hc0) _)
    have hz1 : w0.heap.size < w1.heap.size := by rw [← hW]; simp
    have hz0 : w.heap.size ≤ w0.heap.size := hc0.size
    clear hW hc0
    have Hba1 := Lib.hid hba1; clear hba1
    unfold aggSmall at hsm
    obtain ⟨x1, x2, x3, x4, x5, x6⟩ := hsm
    obtain ⟨N, hN⟩ : ∃ N, N = Fares.owedOf x := ⟨_, rfl⟩
    have C1 : Hid (∀ W, Limits W → Calls Tryd.prog 21 #[.agg #[.int .i64 x.s, .int .i64 x.a, .int .i64 x.t]] W fun r w' => r = .returned (.int .i64 N) ∧ Below W.heap.size W w') := fun W h => by rw [hN]; exact implOwedOf_any x W h
    have C2 : Hid (∀ W, Calls Tryd.prog 22 #[.agg #[.int .i64 x.s, .int .i64 x.a, .int .i64 x.t]] W fun r w' => r = .returned (.int .i64 N) ∧ Below W.heap.size W w') := fun W => by rw [hN]; exact specOwedOf_any x W
    have HF : Hid (N = -1 ∨ okNums x.s x.a x.t ∧ (x.s = 3 ∧ N = 0 ∨ x.s ≠ 3 ∧ N = x.a)) := by
      show N = -1 ∨ okNums x.s x.a x.t ∧ (x.s = 3 ∧ N = 0 ∨ x.s ≠ 3 ∧ N = x.a)
      rw [hN]; unfold Fares.owedOf
      split
      · rename_i hv
        refine .inr ⟨okNums_iff.1 hv, ?_⟩
        split
        · rename_i h3; exact .inl ⟨h3, rfl⟩
        · rename_i h3; exact .inr ⟨h3, rfl⟩
      · exact .inl rfl
    clear hN
    refine (C1.out _ (Limits.below HL.out HB1.out)).mono ?_
    rintro e w2 ⟨rfl, hb2⟩
    have hz2 : w1.heap.size ≤ w2.heap.size := by have := hb2.size; (try simp at this); omega
    have Ha2 := Lib.hid (Blk.belowAll Hba1.out hb2)
    clear Hba1
    have HB2 := Lib.hid (bT HB1.out hb2)
    clear HB1
    clear hb2
    obtain ⟨ca2_0, ca2_1, ca2_2⟩ := aggCells (t := 24) (v := x) Ha2.out
    go_wp2_with fail
    refine (C2.out _).mono ?_
    rintro e w3 ⟨rfl, hb3⟩
    clear ca2_0 ca2_1 ca2_2
    have hz3 : w2.heap.size ≤ w3.heap.size := by have := hb3.size; (try simp at this); omega
    have Ha3 := Lib.hid (Blk.belowAll Ha2.out hb3)
    clear Ha2
    have HB3 := Lib.hid (bT HB2.out hb3)
    clear HB2
    clear hb3
    obtain ⟨ca3_0, ca3_1, ca3_2⟩ := aggCells (t := 24) (v := x) Ha3.out
    by_cases hneg : N < 0
    · have dn : decide (N < 0) = true := decide_eq_true hneg
      clear hneg
      go_wp2_with fail
      refine (C2.out _).mono ?_
      rintro e w4 ⟨rfl, hb4⟩
      clear ca3_0 ca3_1 ca3_2
      have hz4 : w3.heap.size ≤ w4.heap.size := by have := hb4.size; (try simp at this); omega
      have Ha4 := Lib.hid (Blk.belowAll Ha3.out hb4)
      clear Ha3
      have HB4 := Lib.hid (bT HB3.out hb4)
      clear HB3
      clear hb4
      go_wp2
      go_ret
      exact ⟨ret_bool (by simp), HB4.out⟩
    · have dn : decide (N < 0) = false := decide_eq_false hneg
      go_wp2
      all_goals (go_ret; refine ⟨ret_bool ?_, HB3.out⟩; have hf := HF.out; unfold okNums at hf; skip; clear HF; go_light; first | rfl | (exact (by rw [Bool.eq_iff_iff]; simp only [ge_iff_le, beq_iff_eq, beq_eq_false_iff_ne, ne_eq, Bool.not_eq_false', Bool.not_eq_eq_eq_not, Bool.not_true, Bool.not_false, decide_eq_true_eq, decide_eq_false_iff_not, Bool.and_eq_true, Bool.or_eq_true, Bool.false_eq_true, Bool.true_eq_false, Bool.not_eq_true', true_iff, iff_true, false_iff, iff_false, Bool.not_eq_true, Bool.not_eq_false, Bool.and_eq_false_imp] at *; omega)))

theorem contract (H : Type) (enc : TypeId × Value → H) (W : World) (base : Nat) (args : Array Value) (ds gs : List (DataW H)) (before : List MemPlace)
    (hval : ∀ (j : Nat) t v, Tryd.f8.params[j]? = some t → args[j]? = some v → Value.okWide Tryd.prog W .any base t v)
    (hW : DataW.Whole enc Tryd.prog Tryd.f8.params.toList Rows.fnOwedOfSpec.vars false W args.toList ds gs before) (hL : laidMetH Tryd.prog Rows.fnOwedOfRow.laid W) :
    Calls Tryd.prog 8 args W fun e W' => ∃ v, e = .returned v ∧ Rows.fnOwedOfSpec.post enc Tryd.prog Tryd.f8 false true false false W args v W' := by
  have hL0 : laidMet Tryd.prog [("loop.example/transitfares/impl.stateLimits", Rows.laid_loop_example_transitfares_impl_stateLimits)] W := by
    have h : laidMetH Tryd.prog [("loop.example/transitfares/impl.stateLimits", Rows.laid_loop_example_transitfares_impl_stateLimits)] W := hL
    unfold laidMetH at h
    exact h
  have hv0 : Limits W := limits_of_head rfl hL0
  have hW' := hW
  obtain ⟨p, q, hA0, hV, rfl, _, _⟩ := hW
  have hA : DataW.TrodAll enc Tryd.prog W 0 (fun _ => true) true Tryd.f8.params.toList args.toList ds p := hA0
  rw [Tryd.params8] at hA hval
  obtain ⟨v0, vs0, d0, ds0, p0, q0, hargs, rfl, rfl, h0, r0⟩ := trodAll_cons hA
  obtain ⟨rfl, rfl, rfl⟩ := trodAll_nil r0
  obtain rfl : args = #[v0] := by cases args; simp_all
  obtain ⟨g1, rfl⟩ := vars1 hV
  clear hA0
  have hlt : ∀ x ∈ (p0 ++ []), x.block < W.heap.size := fun x hx => hW'.lt x (List.mem_append_left _ hx)
  have k0 := fun (W' : World) (hn : Below W.heap.size W W') => Below.trod Cells.laidOut (by kernel_rfl) (of_decide_eq_true (by kernel_rfl)) h0 hn (fun x hx => hlt x (by simp [hx]))
  obtain ⟨a0, len, cap, rfl⟩ := okWide_slice Tryd.underlying22 (hval 0 22 v0 rfl rfl)
  have hb := (opened h0 (fun x hx => hlt x (by simp [hx]))).1
  refine (walk W a0 len cap hb hv0).mono fun e W' ⟨he, hnx⟩ => ?_
  subst he
  exact ⟨_, rfl, _, _, _, [], (p0 ++ []), q, hW', trodAll_mk1 (shut_bool Tryd.underlying4 _), (trodAll_cons_mk (k0 _ hnx) trodAll_mk0), Below.trodVars Cells.laidOut hnx (by kernel_rfl) hV, hnx.frame _, fun h => by cases h⟩

/-- A world in which the tables lie. -/
noncomputable def laidWorld (os : Os) : World :=
  { World.holding Tryd.prog os ⟨#[], #[], []⟩ with heap := ((World.holding Tryd.prog os ⟨#[], #[], []⟩).heap).modify 0 (fun x => match x with | .cells _ t frozen => .cells limitCells t frozen | o => o) }
theorem laid_met (os : Os) : laidMet Tryd.prog Rows.fnOwedOfRow.laid ((laidWorld os).forCall (fun _ _ => 0) ⟨#[], #[.slice none 0 0], []⟩).memory :=
  laidMet_of_run' 8 (by kernel_rfl) (by kernel_rfl)
theorem reads (os : Os) {H : Type} (enc : TypeId × Value → H) : ∃ places, DataW.whole enc Tryd.prog ((laidWorld os).forCall (fun _ _ => 0) ⟨#[], #[.slice none 0 0], []⟩).memory Tryd.f8.params.toList Rows.fnOwedOfSpec.vars false (#[.slice none 0 0] : Array Value).toList 8 = some ([.nil], [Rows.laid_loop_example_transitfares_impl_stateLimits], places) :=
  ⟨MemPlace.row ⟨0, 0, none⟩ 24, by kernel_rfl⟩
set_option maxRecDepth 100000 in
theorem lifted (os : Os) (started : os.Started) (H : Type) (enc : TypeId × Value → H) (F : Stop.Interp) :
    ReturnsInHanded {} Tryd.checked os 8 .any ((OpenSpec.ofChange Rows.fnOwedOfSpec).preRow enc Tryd.prog Tryd.f8 Rows.fnOwedOfRow.domain false Rows.fnOwedOfRow.laid) (((OpenSpec.ofChange Rows.fnOwedOfSpec).at F).post enc Tryd.prog Tryd.f8 false true false false) := by
  obtain ⟨places, hx⟩ := reads os enc
  refine returnsInHanded_of_row (C := Tryd.checked) (s := OpenSpec.ofChange Rows.fnOwedOfSpec) Cells.own started (by kernel_rfl) Tryd.func8
    (witness_row_at (enc := enc) (C := Tryd.checked) false (laidWorld os) #[.slice none 0 0] rfl (by kernel_rfl) (by kernel_rfl) (by kernel_rfl)
      (OpenSpec.preRow_of_cond 8 hx (by kernel_rfl) (fun k hk => by cases hk) (by kernel_rfl) (laid_met os))) ?_
  intro W base args ds gs before hval hW _ _ _ hL _ _
  exact contract H enc W base args ds gs before hval hW hL
theorem said : Rows.FnOwedOfSaid :=
  OpenClaim.holds_of_cond 8 Tryd.f8 rfl rfl rfl rfl rfl rfl rfl ⟨rfl, rfl, rfl, rfl, rfl⟩ rfl rfl rfl rfl rfl (by kernel_rfl) Tryd.func8 (by kernel_rfl)
    (of_decide_eq_true (by kernel_rfl)) (by unfold Func.isWrapper; first | (rw [if_pos (by decide +kernel)]; kernel_rfl) | (rw [if_neg (by decide +kernel)]; exact ⟨rfl, rfl⟩))
    (fun os started H enc _ F => by rw [OpenClaim.pre_eq_preRow]; exact lifted os started H enc F)
theorem plain (f : FuncId) (fn : Func) (hf : Tryd.pinned.checked.prog.funcNamed "loop.example/transitfares/laws.FnOwedOf" = some f) (hfn : Tryd.pinned.checked.prog.funcs[f]? = some fn) :
    false = Tryd.pinned.checked.prog.looks [] ∧ ∀ (j : Nat) t, fn.params[j]? = some t → Tryd.pinned.checked.prog.wantsStandIn t = false := by
  obtain rfl : f = 8 := Option.some.inj ((show Tryd.prog.funcNamed "loop.example/transitfares/laws.FnOwedOf" = some 8 by kernel_rfl).symm.trans hf) |>.symm
  obtain rfl : fn = Tryd.f8 := (Option.some.inj (Tryd.func8.symm.trans hfn)).symm
  refine ⟨by kernel_rfl, fun j t ht => ?_⟩
  rw [Tryd.params8] at ht
  have hm : t ∈ [22] := by simpa using Array.mem_of_getElem? ht
  have hall : ([22].all fun u => !Tryd.prog.wantsStandIn u) = true := by kernel_rfl
  exact (show Tryd.prog.wantsStandIn t = false by simpa using List.all_eq_true.1 hall t hm)
/-- THE STATEMENT: the tied card -/
theorem proved : Rows.FnOwedOfCardSaid :=
  Claim7.holds_tied_plain_at .later [] _ _ _ _ said (fun _ h => by cases h) (by kernel_rfl) (fun _ h => by cases h) fnOwedOf_row_tie rfl ⟨rfl, rfl⟩ (by kernel_rfl) rfl plain (by kernel_rfl)
#print axioms proved
end Go.Proofs.YtpdlngekeeaocabDoor.fnOwedOf
