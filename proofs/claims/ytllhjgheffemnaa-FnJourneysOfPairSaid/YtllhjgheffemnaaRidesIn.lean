/-
  Chapter 4: the program's rides, an iterator over a card's taps.
-/
import Derived.Test.YtllhjgheffemnaaRideFn
import Derived.Test.YtllhjgheffemnaaSubQuiet
import Derived.RangeFuncNested
import Derived.RangeFuncBound
import Derived.RangeFuncCalls
import Derived.RangeFuncLeaves
import Derived.RangeFuncBox
import Derived.Shelf.Abstract
import Derived.Shelf.RegionOpen
import Derived.WalkKit
import Derived.OwnWalkIn
import Derived.TacticsInMore
import Derived.LoopNIn
import Derived.LoopIn
import Derived.Sort.QuietThIn
import Derived.Sort.BigQuietIn
import Derived.Sort.CutIn
import Derived.RegionIn
import Derived.Stop.RegionWithIn
import Derived.Maps.AppendAt
set_option linter.unusedSimpArgs false
namespace Go.Proofs.Ytllhjgheffemnaa
open Go.RowKit Go.Shelf
set_option linter.unusedVariables false
attribute [local go_sem] Oper.semAt_some

abbrev rideEnc (p : Fares.Tap × Fares.Tap) : Array Value := #[tapV p.1, tapV p.2]
/-- The blocks from lo to hi lie as they lay. -/
def Mid (lo hi : Nat) (W W' : World) : Prop := (∀ b, lo ≤ b → b < hi → W'.heap[b]? = W.heap[b]?) ∧ W.heap.size ≤ W'.heap.size
theorem Mid.refl (lo hi : Nat) (W : World) : Mid lo hi W W := ⟨fun _ _ _ => rfl, Nat.le_refl _⟩
theorem Mid.trans {lo hi : Nat} {A B C : World} (h : Mid lo hi A B) (k : Mid lo hi B C) : Mid lo hi A C := ⟨fun b h1 h2 => (k.1 b h1 h2).trans (h.1 b h1 h2), Nat.le_trans h.2 k.2⟩
theorem Mid.of_below {lo hi : Nat} {W W' : World} (h : Below W.heap.size W W') (hh : hi ≤ W.heap.size) : Mid lo hi W W' := ⟨fun b _ h2 => h.block b (Nat.lt_of_lt_of_le h2 hh), h.size⟩
theorem Mid.cell {lo hi : Nat} {W W' : World} (h : Mid lo hi W W') {b o : Nat} (h1 : lo ≤ b) (h2 : b < hi) : W'.cell? ⟨b, o, none⟩ = W.cell? ⟨b, o, none⟩ := World.cell?_of_block (h.1 b h1 h2)
theorem drop_next {T : Type} {xs : List T} {k : Nat} {x : T} (h : xs[k]? = some x) : xs.drop k = x :: xs.drop (k + 1) := by
  obtain ⟨hl, e⟩ := List.getElem?_eq_some_iff.1 h
  rw [List.drop_eq_getElem_cons hl, e]
theorem wpIn_region_win {F : Fence} {n : Nat} {P : Program} {B : World → Prop} {id : Nat} {Q : Exit → Act → World → Prop} {a : Act} {w : World} {l : List Oper} (hro : F.round = none) (hm : P.follows .mixedOrders = true) (hB : Region.lexB .any l.toArray = true) (h0 : B w.drew)
    (h : wpQuietIn F n P l.toArray (fun w' => ∃ x : WIn B, w' = x.w) (fun a' => ∀ w', (∃ x : WIn B, w' = x.w) → Q .normal a' w') l a) : (Code.region id l.toArray true).wpIn F n P Q a w :=
  wpIn_region_quiet (C := fun w' => ∃ x : WIn B, w' = x.w) hro hm hB ⟨⟨_, h0⟩, rfl⟩ (by simpa using h)
theorem WIn.callsIn {F : Fence} {n : Nat} {P : Program} {B : World → Prop} {f : FuncId} {args : Array Value} {x : WIn B} {v : Value} (h : CallsIn F n P f args x.w fun e w' => e = .returned v ∧ Below x.w.heap.size x.w w') (hB : ∀ w', Below x.w.heap.size x.w w' → B w') :
    CallsIn F n P f args x.w fun e w'' => e = .returned v ∧ ∃ y : WIn B, w'' = y.w :=
  h.mono fun _ w' ⟨he, hb⟩ => ⟨he, ⟨w', hB w' hb⟩, rfl⟩

set_option maxRecDepth 100000 in
set_option maxHeartbeats 2000000 in
theorem rides1_in (n : Nat) (hn : 2 ≤ n) (l Bn lo hi b0 o0 len c : Nat) (xs : List Fares.Tap) (hlen : xs.length = len) (hl : len ≤ 1000) (hm : ∀ t ∈ xs, -100000 ≤ t.m ∧ t.m ≤ 100000) (J Jx : List (Fares.Tap × Fares.Tap) → World → Prop)
    (hY : ∀ pre x W, J pre W → pre.length < len → YieldAt Fence.wide (n - 1) Try.prog l (rideEnc x) W fun e W' =>
      (e = .returned (.bool true) ∧ J (pre ++ [x]) W' ∧ Mid lo hi W W') ∨ (e = .returned (.bool false) ∧ Jx (pre ++ [x]) W'))
    (W : World) (hJ : AbidesFrom W.heap.size J) (hBl : lo ≤ Bn) (hBh : Bn < hi) (hbl : lo ≤ b0) (hbh : b0 < hi) (hhi : hi ≤ W.heap.size) (hBn : W.cell? ⟨Bn, 0, none⟩ = some (.slice (some ⟨b0, o0, none⟩) len c))
    (hx : ∀ k x, xs[k]? = some x → TapAt W b0 (o0 + k * 6) x) (h0 : J [] W) :
    CallsIn Fence.wide n Try.prog 40 #[.func (.yield l) #[] #[], .pointer (some ⟨Bn, 0, none⟩)] W fun e W' => (∃ v, e = .returned v) ∧
      ((∃ ys, ys = Fares.ridesOf xs ∧ J ys W') ∨ (∃ pre, True ∧ Jx pre W')) := by
  subst hlen
  refine callsIn_of_wp Try.func40 rfl trivial ?_ rfl
  simp only [Try.ntmps40, List.size_toArray, List.length_cons, List.length_nil, Nat.reduceAdd, Nat.reduceSub, Array.replicate_succ, Array.replicate_zero, List.push_toArray, List.append_toArray, List.nil_append, List.cons_append]
  gi_wp2
  gi_loopw [3] (fun i wr => ∃ (k : Nat) (pre : List (Fares.Tap × Fares.Tap)), k ≤ xs.length ∧ i = .int .i64 k ∧ pre.length ≤ k ∧ pre ++ Fares.ridesOf (xs.drop k) = Fares.ridesOf xs ∧ J pre wr ∧ Mid lo hi W wr ∧ W.heap.size ≤ wr.heap.size)
    (fun i _ => xs.length - (intOf i).toNat)
  case atStart => exact ⟨0, [], Nat.zero_le _, rfl, Nat.le_refl _, rfl, h0, Mid.refl _ _ _, Nat.le_refl _⟩
  case round =>
    obtain ⟨k, pre, hk, rfl, hpl, hpre, hJs, hM, hsz⟩ := hrel
    have hbox := (hM.cell (o := 0) hBl hBh).trans hBn
    by_cases hlt : k < xs.length
    · obtain ⟨x, hxk⟩ : ∃ x, xs[k]? = some x := ⟨xs[k], List.getElem?_eq_getElem hlt⟩
      obtain ⟨p0, p1, p2, p3, p4, p5⟩ : TapAt wr b0 (o0 + k * 6) x := by
        obtain ⟨e0, e1, e2, e3, e4, e5⟩ := hx k x hxk
        exact ⟨(hM.cell hbl hbh).trans e0, (hM.cell hbl hbh).trans e1, (hM.cell hbl hbh).trans e2, (hM.cell hbl hbh).trans e3, (hM.cell hbl hbh).trans e4, (hM.cell hbl hbh).trans e5⟩
      have i0 : (0 : Int) ≤ (k : Int) := by omega
      have i1 : (k : Int) < (xs.length : Int) := by omega
      have W1 : IntKind.i64.wrap ((k : Int) + 1) = (k : Int) + 1 := IntWalk.i64_in _ (by omega)
      have Hx0 := Lib.hid hxk; clear hxk
      gi_upto_region 4 with (fail)
      generalize hW1 : World.alloc _ _ = w1
      have hb1 : Below wr.heap.size wr w1 := by rw [← hW1]; exact bA (Below.refl _ _) _
      obtain ⟨l1, r0, r1, r2, r3, r4, r5⟩ : TapBox w1 wr.heap.size x := by rw [← hW1]; exact TapBox.new wr x _
      clear hW1
      have hhr : hi ≤ wr.heap.size := Nat.le_trans hhi hsz
      have hM1 := hM.trans (Mid.of_below (lo := lo) hb1 hhr)
      have hbox1 := (hM1.cell (o := 0) hBl hBh).trans hBn
      have hz1 := hb1.size
      have hJ1 : J pre w1 := hJ pre wr w1 none hJs (grown_of_below hb1 none) (fun r e => by cases e)
      have mb := fun x0 : WIn (fun w' => Below w1.heap.size w1 w') => x0.cell hbox1 (by omega)
      have hdk := drop_next Hx0.out
      rw [hdk] at hpre
      have hbw : b0 < w1.heap.size := by omega
      replace p0 := (hb1.cell (p := ⟨b0, _, none⟩) (show b0 < wr.heap.size by omega)).trans p0
      replace p1 := (hb1.cell (p := ⟨b0, _, none⟩) (show b0 < wr.heap.size by omega)).trans p1
      replace p2 := (hb1.cell (p := ⟨b0, _, none⟩) (show b0 < wr.heap.size by omega)).trans p2
      replace p3 := (hb1.cell (p := ⟨b0, _, none⟩) (show b0 < wr.heap.size by omega)).trans p3
      replace p4 := (hb1.cell (p := ⟨b0, _, none⟩) (show b0 < wr.heap.size by omega)).trans p4
      replace p5 := (hb1.cell (p := ⟨b0, _, none⟩) (show b0 < wr.heap.size by omega)).trans p5
      by_cases hk1 : k + 1 < xs.length
      · obtain ⟨y, hyk⟩ : ∃ y, xs[k + 1]? = some y := ⟨xs[k + 1], List.getElem?_eq_getElem hk1⟩
        obtain ⟨q0, q1, q2, q3, q4, q5⟩ : TapAt w1 b0 (o0 + (k + 1) * 6) y := by
          obtain ⟨e0, e1, e2, e3, e4, e5⟩ := hx (k + 1) y hyk
          exact ⟨(hM1.cell hbl hbh).trans e0, (hM1.cell hbl hbh).trans e1, (hM1.cell hbl hbh).trans e2, (hM1.cell hbl hbh).trans e3, (hM1.cell hbl hbh).trans e4, (hM1.cell hbl hbh).trans e5⟩
        have hmx := hm x (List.mem_of_getElem? Hx0.out)
        have hmy := hm y (List.mem_of_getElem? hyk)
        have d1 : decide ((k : Int) + 1 < (xs.length : Int)) = true := by rw [decide_eq_true_eq]; omega
        have j0 : (0 : Int) ≤ (k : Int) + 1 := by omega
        have j1 : (k : Int) + 1 < (xs.length : Int) := by omega
        have j2 : ((k : Int) + 1).toNat = k + 1 := by omega
        have hdk1 := drop_next hyk
        rw [hdk1] at hpre
        have Hy0 := Lib.hid hyk; clear hyk
        have hpre1 := hpre; clear hpre
        have Hpr := Lib.hid hpre1; clear hpre1
        have Hd1 := Lib.hid hdk1; clear hdk1
        have Hdk := Lib.hid hdk; clear hdk
        have n0 := fun x0 : WIn (fun w' => Below w1.heap.size w1 w') => x0.cell q0 hbw
        have n1 := fun x0 : WIn (fun w' => Below w1.heap.size w1 w') => x0.cell q1 hbw
        have n2 := fun x0 : WIn (fun w' => Below w1.heap.size w1 w') => x0.cell q2 hbw
        have n3 := fun x0 : WIn (fun w' => Below w1.heap.size w1 w') => x0.cell q3 hbw
        have n4 := fun x0 : WIn (fun w' => Below w1.heap.size w1 w') => x0.cell q4 hbw
        have n5 := fun x0 : WIn (fun w' => Below w1.heap.size w1 w') => x0.cell q5 hbw
        have s0 := fun x0 : WIn (fun w' => Below w1.heap.size w1 w') => x0.cell r0 l1
        have s1 := fun x0 : WIn (fun w' => Below w1.heap.size w1 w') => x0.cell r1 l1
        have s2 := fun x0 : WIn (fun w' => Below w1.heap.size w1 w') => x0.cell r2 l1
        have s3 := fun x0 : WIn (fun w' => Below w1.heap.size w1 w') => x0.cell r3 l1
        have s4 := fun x0 : WIn (fun w' => Below w1.heap.size w1 w') => x0.cell r4 l1
        have s5 := fun x0 : WIn (fun w' => Below w1.heap.size w1 w') => x0.cell r5 l1
        refine wpIn_region_win (B := fun w' => Below w1.heap.size w1 w') rfl (by kernel_rfl) (by kernel_rfl) (bD1 (Below.refl _ _)) ?_
        repeat (gi_big_quiet_step (fail))
        obtain ⟨rv, hrv⟩ : ∃ rv, Fares.isRide x y = rv := ⟨_, rfl⟩
        refine wpQuietIn_step (fun _ _ _ _ => trivial) (fun K hK => ?_)
        go_simp
        apply Exists.intro
        refine ⟨fun x0 => ?_, hK _ ?_⟩
        · refine ⟨?_, WIn.callsIn (v := .bool rv) ((callsIn_wide.2 (isRide_any x y _ hmx hmy)).mono fun e w' he => ⟨by rw [he.1, hrv], he.2⟩) (fun w' hb => bT x0.h hb)⟩
          exact fun _ => by omega
        clear hK K
        repeat (gi_big_quiet_step (fail))
        refine wpQuietIn_nil ?_
        intro w5 hw'
        obtain ⟨⟨wq, hb5⟩, e5⟩ := hw'
        dsimp only at e5
        subst wq
        have hM5 := hM1.trans (Mid.of_below (lo := lo) hb5 (Nat.le_trans hhr hz1))
        have hJ5 : J pre w5.drew := hJ pre w1 w5.drew none hJ1 (grown_of_below (bD1 hb5) none) (fun r e => by cases e)
        have hbox5 := (hb5.cell (p := ⟨Bn, 0, none⟩) (show Bn < w1.heap.size by omega)).trans hbox1
        have hz5 := hb5.size
        replace r0 := (hb5.cell (p := ⟨wr.heap.size, 0, none⟩) l1).trans r0
        replace r1 := (hb5.cell (p := ⟨wr.heap.size, 1, none⟩) l1).trans r1
        replace r2 := (hb5.cell (p := ⟨wr.heap.size, 2, none⟩) l1).trans r2
        replace r3 := (hb5.cell (p := ⟨wr.heap.size, 3, none⟩) l1).trans r3
        replace r4 := (hb5.cell (p := ⟨wr.heap.size, 4, none⟩) l1).trans r4
        replace r5 := (hb5.cell (p := ⟨wr.heap.size, 5, none⟩) l1).trans r5
        clear mb n0 n1 n2 n3 n4 n5 s0 s1 s2 s3 s4 s5
        cases rv
        · clear q0 q1 q2 q3 q4 q5
          replace p0 := (hb5.cell (p := ⟨b0, _, none⟩) hbw).trans p0
          replace p1 := (hb5.cell (p := ⟨b0, _, none⟩) hbw).trans p1
          replace p2 := (hb5.cell (p := ⟨b0, _, none⟩) hbw).trans p2
          replace p3 := (hb5.cell (p := ⟨b0, _, none⟩) hbw).trans p3
          replace p4 := (hb5.cell (p := ⟨b0, _, none⟩) hbw).trans p4
          replace p5 := (hb5.cell (p := ⟨b0, _, none⟩) hbw).trans p5
          obtain ⟨fn, tmps, assign, body, hy, hR⟩ := hY pre (x, x) w5.drew hJ5 (by omega)
          dsimp only [rideEnc, tapV] at hy
          have HR := Lib.hid hR; clear hR
          have Hpre := Lib.hid (show (pre ++ [(x, x)]) ++ Fares.ridesOf (xs.drop (k + 1)) = Fares.ridesOf xs by rw [List.append_assoc, List.singleton_append, ← Hpr.out, Hd1.out]; show _ = pre ++ (if Fares.isRide x y then _ else _); rw [hrv, if_neg (by simp)])
          gi_upto_region 6 with (fail)
          gi_region_with (refine ⟨fun _ => by omega, RoundIn.mono HR.out ?_⟩; rintro e W3 h3; obtain ⟨bv, rfl, hd3⟩ : ∃ bv, e = .returned (.bool bv) ∧ ((bv = true ∧ J (pre ++ [(x, x)]) W3 ∧ Mid lo hi w5.drew W3) ∨ (bv = false ∧ Jx (pre ++ [(x, x)]) W3)) := h3.elim (fun h => ⟨true, h.1, .inl ⟨rfl, h.2⟩⟩) (fun h => ⟨false, h.1, .inr ⟨rfl, h.2⟩⟩); clear h3)
          all_goals (
            rcases hd3 with ⟨rfl, hJ3, hM3⟩ | ⟨rfl, hJx3⟩
            · gi_wp2
              go_roundw
              case rel => exact ⟨k + 1, pre ++ [(x, x)], by omega, by go_num, by simp; omega, Hpre.out, hJ3, hM5.trans hM3, Nat.le_trans hsz (Nat.le_trans hz1 (Nat.le_trans hz5 hM3.2))⟩
              case measure => simp [intOf]; omega
            · gi_wp2
              change bodyPost _ _ _ _ { tmps := _, defers := [] } _
              refine bodyPost_ret (results_none rfl _ _ _) rfl ?_
              exact ⟨⟨_, rfl⟩, .inr ⟨_, trivial, hJx3⟩⟩)
        · clear p0 p1 p2 p3 p4 p5
          replace q0 := (hb5.cell (p := ⟨b0, _, none⟩) hbw).trans q0
          replace q1 := (hb5.cell (p := ⟨b0, _, none⟩) hbw).trans q1
          replace q2 := (hb5.cell (p := ⟨b0, _, none⟩) hbw).trans q2
          replace q3 := (hb5.cell (p := ⟨b0, _, none⟩) hbw).trans q3
          replace q4 := (hb5.cell (p := ⟨b0, _, none⟩) hbw).trans q4
          replace q5 := (hb5.cell (p := ⟨b0, _, none⟩) hbw).trans q5
          obtain ⟨fn, tmps, assign, body, hy, hR⟩ := hY pre (x, y) w5.drew hJ5 (by omega)
          dsimp only [rideEnc, tapV] at hy
          have HR := Lib.hid hR; clear hR
          have Hpre := Lib.hid (show (pre ++ [(x, y)]) ++ Fares.ridesOf (xs.drop (k + 1 + 1)) = Fares.ridesOf xs by rw [List.append_assoc, List.singleton_append, ← Hpr.out]; show _ = pre ++ (if Fares.isRide x y then _ else _); rw [hrv, if_pos rfl])
          gi_upto_region 6 with (fail)
          gi_region_with (refine ⟨fun _ => by omega, RoundIn.mono HR.out ?_⟩; rintro e W3 h3; obtain ⟨bv, rfl, hd3⟩ : ∃ bv, e = .returned (.bool bv) ∧ ((bv = true ∧ J (pre ++ [(x, y)]) W3 ∧ Mid lo hi w5.drew W3) ∨ (bv = false ∧ Jx (pre ++ [(x, y)]) W3)) := h3.elim (fun h => ⟨true, h.1, .inl ⟨rfl, h.2⟩⟩) (fun h => ⟨false, h.1, .inr ⟨rfl, h.2⟩⟩); clear h3)
          all_goals (
            rcases hd3 with ⟨rfl, hJ3, hM3⟩ | ⟨rfl, hJx3⟩
            · gi_wp2
              go_roundw
              case rel => exact ⟨k + 1 + 1, pre ++ [(x, y)], by omega, by go_num, by simp; omega, Hpre.out, hJ3, hM5.trans hM3, Nat.le_trans hsz (Nat.le_trans hz1 (Nat.le_trans hz5 hM3.2))⟩
              case measure => simp [intOf]; omega
            · gi_wp2
              change bodyPost _ _ _ _ { tmps := _, defers := [] } _
              refine bodyPost_ret (results_none rfl _ _ _) rfl ?_
              exact ⟨⟨_, rfl⟩, .inr ⟨_, trivial, hJx3⟩⟩)
      · have d1 : decide ((k : Int) + 1 < (xs.length : Int)) = false := by rw [decide_eq_false_iff_not]; omega
        have hd0 : xs.drop (k + 1) = [] := List.drop_of_length_le (by omega)
        have Hdk := Lib.hid hdk; clear hdk
        have Hpr := Lib.hid hpre; clear hpre
        have Hd0 := Lib.hid hd0; clear hd0
        refine wpIn_region_win (B := fun w' => Below w1.heap.size w1 w') rfl (by kernel_rfl) (by kernel_rfl) (bD1 (Below.refl _ _)) ?_
        repeat (gi_big_quiet_step (fail))
        refine wpQuietIn_step (fun _ _ _ _ => trivial) (fun K hK => ?_)
        go_simp
        refine hK _ ?_
        clear hK K
        repeat (gi_big_quiet_step (fail))
        refine wpQuietIn_nil ?_
        intro w5 hw'
        obtain ⟨⟨wq, hb5⟩, e5⟩ := hw'
        dsimp only at e5
        subst wq
        have hM5 := hM1.trans (Mid.of_below (lo := lo) hb5 (Nat.le_trans hhr hz1))
        have hJ5 : J pre w5.drew := hJ pre w1 w5.drew none hJ1 (grown_of_below (bD1 hb5) none) (fun r e => by cases e)
        have hbox5 := (hb5.cell (p := ⟨Bn, 0, none⟩) (show Bn < w1.heap.size by omega)).trans hbox1
        have hz5 := hb5.size
        replace r0 := (hb5.cell (p := ⟨wr.heap.size, 0, none⟩) l1).trans r0
        replace r1 := (hb5.cell (p := ⟨wr.heap.size, 1, none⟩) l1).trans r1
        replace r2 := (hb5.cell (p := ⟨wr.heap.size, 2, none⟩) l1).trans r2
        replace r3 := (hb5.cell (p := ⟨wr.heap.size, 3, none⟩) l1).trans r3
        replace r4 := (hb5.cell (p := ⟨wr.heap.size, 4, none⟩) l1).trans r4
        replace r5 := (hb5.cell (p := ⟨wr.heap.size, 5, none⟩) l1).trans r5
        clear mb
        replace p0 := (hb5.cell (p := ⟨b0, _, none⟩) hbw).trans p0
        replace p1 := (hb5.cell (p := ⟨b0, _, none⟩) hbw).trans p1
        replace p2 := (hb5.cell (p := ⟨b0, _, none⟩) hbw).trans p2
        replace p3 := (hb5.cell (p := ⟨b0, _, none⟩) hbw).trans p3
        replace p4 := (hb5.cell (p := ⟨b0, _, none⟩) hbw).trans p4
        replace p5 := (hb5.cell (p := ⟨b0, _, none⟩) hbw).trans p5
        obtain ⟨fn, tmps, assign, body, hy, hR⟩ := hY pre (x, x) w5.drew hJ5 (by omega)
        dsimp only [rideEnc, tapV] at hy
        have HR := Lib.hid hR; clear hR
        have Hpre := Lib.hid (show (pre ++ [(x, x)]) ++ Fares.ridesOf (xs.drop (k + 1)) = Fares.ridesOf xs by rw [List.append_assoc, List.singleton_append, ← Hpr.out, Hd0.out]; rfl)
        gi_upto_region 6 with (fail)
        gi_region_with (refine ⟨fun _ => by omega, RoundIn.mono HR.out ?_⟩; rintro e W3 h3; obtain ⟨bv, rfl, hd3⟩ : ∃ bv, e = .returned (.bool bv) ∧ ((bv = true ∧ J (pre ++ [(x, x)]) W3 ∧ Mid lo hi w5.drew W3) ∨ (bv = false ∧ Jx (pre ++ [(x, x)]) W3)) := h3.elim (fun h => ⟨true, h.1, .inl ⟨rfl, h.2⟩⟩) (fun h => ⟨false, h.1, .inr ⟨rfl, h.2⟩⟩); clear h3)
        all_goals (
          rcases hd3 with ⟨rfl, hJ3, hM3⟩ | ⟨rfl, hJx3⟩
          · gi_wp2
            go_roundw
            case rel => exact ⟨k + 1, pre ++ [(x, x)], by omega, by go_num, by simp; omega, Hpre.out, hJ3, hM5.trans hM3, Nat.le_trans hsz (Nat.le_trans hz1 (Nat.le_trans hz5 hM3.2))⟩
            case measure => simp [intOf]; omega
          · gi_wp2
            change bodyPost _ _ _ _ { tmps := _, defers := [] } _
            refine bodyPost_ret (results_none rfl _ _ _) rfl ?_
            exact ⟨⟨_, rfl⟩, .inr ⟨_, trivial, hJx3⟩⟩)
    · obtain rfl : k = xs.length := by omega
      have d1 : decide ((xs.length : Int) < (xs.length : Int)) = false := by simp
      gi_wp2
      refine bodyPost_end (results_none rfl _ _ _) rfl ?_
      exact ⟨⟨_, rfl⟩, .inl ⟨_, rfl, by rw [← hpre]; simpa [Fares.ridesOf] using hJs⟩⟩
end Go.Proofs.Ytllhjgheffemnaa
