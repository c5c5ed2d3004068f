/-
  The table of what is left of the caps: made, and paid from.
-/
import Derived.Test.YtnahdclmfegmeaaCapFn
import Derived.Test.YtnahdclmfegmeaaTime
namespace Go.Proofs.Ytnahdclmfegmeaa
open Go.RowKit Go.Deep
set_option linter.unusedVariables false

def allowCells (f : Nat → Int) : Array Value := ((List.range 34).map fun i => Value.int .i64 (f i)).toArray
theorem allowCells_size (f : Nat → Int) : (allowCells f).size = 34 := by simp [allowCells]
theorem allowCells_get (f : Nat → Int) {i : Nat} (h : i < 34) : (allowCells f)[i]? = some (.int .i64 (f i)) := by
  simp [allowCells, h]
theorem allowCells_set (f : Nat → Int) {i : Nat} (h : i < 34) (v : Int) : (allowCells f).setIfInBounds i (.int .i64 v) = allowCells (fun j => if j = i then v else f j) := by
  apply Array.ext_getElem?
  intro j
  rw [Array.getElem?_setIfInBounds]
  by_cases e : i = j
  · subst e
    rw [if_pos rfl, if_pos (by rw [allowCells_size]; exact h), allowCells_get _ h, if_pos rfl]
  · rw [if_neg e]
    by_cases hj : j < 34
    · rw [allowCells_get _ hj, allowCells_get _ hj, if_neg (fun h => e h.symm)]
    · rw [Array.getElem?_eq_none (by rw [allowCells_size]; omega), Array.getElem?_eq_none (by rw [allowCells_size]; omega)]
theorem allowCells_congr {f g : Nat → Int} (h : ∀ i, i < 34 → f i = g i) : allowCells f = allowCells g := by
  unfold allowCells
  congr 1
  apply List.map_congr_left
  intro i hi
  rw [h i (List.mem_range.1 hi)]
theorem allowCells_of {cs : Array Value} {f : Nat → Int} (hs : cs.size = 34) (h : ∀ i, i < 34 → cs[i]? = some (.int .i64 (f i))) : cs = allowCells f := by
  apply Array.ext_getElem?
  intro i
  by_cases hi : i < 34
  · rw [h i hi, allowCells_get _ hi]
  · rw [Array.getElem?_eq_none (by omega), Array.getElem?_eq_none (by rw [allowCells_size]; omega)]
theorem allowCells_one (f : Nat → Int) : (allowCells f).all (·.oneCell') = true := by
  simp [allowCells, Value.oneCell']
/-- Block g is a table. -/
def Allow (w : World) (g : Nat) (f : Nat → Int) : Prop := Blk w g 108 (allowCells f)

theorem weekOf_in (d q : Nat) (w : World) (hd : d < 29) (hq : q = d / 7) :
    Calls Try.prog 131 #[.int .i64 (d : Int)] w fun e w' => e = .returned (.int .i64 (q : Int)) ∧ w = w' :=
  (implWeekOf_any (d : Int) w).mono fun e w' ⟨he, hw⟩ => ⟨by rw [he]; unfold Fares.weekOf; rw [if_pos (by omega)]; exact ret_int (by omega), hw⟩

theorem info_allow : (Try.prog.info? 108).map (·.size) = some 34 := by kernel_rfl
theorem run_storeCells_row {P : Program} {w : World} {g : Nat} {t : TypeId} {c c' : Array Value} (hg : Blk w g t c) (ho : c.size = c'.size) (h1 : c'.all (·.oneCell') = true) :
    (storeCells ⟨g, 0, none⟩ c'.toList 0).run P w = .ok () (w.setRow g c') := by
  have := run_storeCells_from (P := P) g t c'.toList 0 c w hg (by simp [ho]) (fun v hv => by
    rw [Array.all_eq_true_iff_forall_mem] at h1
    exact h1 v (by simpa using hv))
  simpa using this
theorem belowRow {a w : World} {g : Nat} (h : Below a.heap.size a w) (hg : a.heap.size ≤ g) (cs : Array Value) : Below a.heap.size a (w.setRow g cs) :=
  ⟨h.os, h.tape, h.output, by simpa using h.size, fun k hk => by rw [setRow_other w g k cs (by omega)]; exact h.block k hk⟩

set_option maxRecDepth 100000 in
set_option maxHeartbeats 4000000 in
theorem newAllowance_any (day week : Int) (w : World) :
    Calls Try.prog 110 #[.int .i64 day, .int .i64 week] w fun e w' => e = .returned (.agg (allowCells (fun i => if i < 29 then day else week))) ∧ Below w.heap.size w w' := by
  go_enter Try.func110, Try.ntmps110
  go_wp2
  go_loopw [8] (fun i wr => ∃ (k : Nat) (cs cs' : Array Value), k ≤ 29 ∧ i = .int .i64 k ∧ Blk wr (w.heap.size + 1) 108 cs ∧ cs.size = 34 ∧ (∀ j, j < k → cs[j]? = some (.int .i64 day)) ∧ Blk wr w.heap.size 108 cs' ∧ cs'.size = 34 ∧ Below w.heap.size w wr) (fun i _ => 29 - (intOf i).toNat)
  case atStart => exact ⟨0, _, _, by omega, rfl, (by have h := Blk.new (w.alloc (.cells (Array.replicate 34 (.int .i64 0)) 108)) 108 (Array.replicate 34 (.int .i64 0)); rw [World.size_alloc] at h; exact h), by simp, (fun j hj => by omega), (Blk.new w 108 (Array.replicate 34 (.int .i64 0))).alloc _, by simp, (by repeat (first | exact Below.refl _ _ | refine bA ?_ _ | refine bD ?_ _ | refine bD1 ?_ | refine bS ?_ (by simp) _))⟩
  case round =>
    obtain ⟨k, cs, cs', hk, rfl, hB, hs, hc, hB', hs', hb⟩ := hrel
    have Hc := Lib.hid hc; clear hc
    have hz := hB.lt
    by_cases hlt : k < 29
    · have i0 : (0 : Int) ≤ (k : Int) := by omega
      have i1 : (k : Int) < 29 := by omega
      have Hs := Lib.hid hs; clear hs
      have Hs' := Lib.hid hs'; clear hs'
      obtain ⟨u, q0⟩ := hB.there (i := k) (by have := Hs.out; omega)
      have f0 := hB.free k
      have HB := Lib.hid hB; clear hB
      have HB' := Lib.hid hB'; clear hB'
      go_wp2
      go_roundw
      case rel => exact ⟨k + 1, cs.setIfInBounds k (.int .i64 day), cs', by omega, by go_num, HB.out.put k _, by rw [Array.size_setIfInBounds]; exact Hs.out, (fun j hj => by
        rw [Array.getElem?_setIfInBounds]
        by_cases e : k = j
        · rw [if_pos e, if_pos (by have := Hs.out; omega)]
        · rw [if_neg e]; exact Hc.out j (by omega)), HB'.out.far (by simp) _, Hs'.out, bS hb (by simp) _⟩
      case measure => simp [intOf]; omega
    · have hk29 : k = 29 := by omega
      have Hk := Lib.hid hk29; clear hk29
      have Hs := Lib.hid hs; clear hs
      have Hs' := Lib.hid hs'; clear hs'
      have HB := Lib.hid hB; clear hB
      have HB' := Lib.hid hB'; clear hB'
      go_wp2
      have hbx := hb
      clear hb
      go_loopw [16] (fun i wq => ∃ (k : Nat) (cs2 : Array Value), k ≤ 5 ∧ i = .int .i64 k ∧ Blk wq (w.heap.size + 1) 108 cs2 ∧ cs2.size = 34 ∧ (∀ j, j < 29 → cs2[j]? = some (.int .i64 day)) ∧ (∀ j, j < k → cs2[29 + j]? = some (.int .i64 week)) ∧ Blk wq w.heap.size 108 cs' ∧ Below w.heap.size w wq) (fun i _ => 5 - (intOf i).toNat)
      case atStart => exact ⟨0, cs, by omega, rfl, HB.out, Hs.out, (fun j hj => Hc.out j (by have := Hk.out; omega)), (fun j hj => by omega), HB'.out, hbx⟩
      case round =>
        clear Hc HB HB' Hs Hk hbx
        obtain ⟨m, cs2, hm, rfl, hB, hs, hc, hc2, hB', hb⟩ := hrel
        have Hc := Lib.hid hc; clear hc
        have Hc2 := Lib.hid hc2; clear hc2
        have hzq := hB.lt
        by_cases hlt5 : m < 5
        · have i0 : (0 : Int) ≤ (m : Int) := by omega
          have i1 : (m : Int) < 5 := by omega
          have Hs := Lib.hid hs; clear hs
          obtain ⟨u, q0⟩ := hB.there (i := 29 + m) (by have := Hs.out; omega)
          have f0 := hB.free (29 + m)
          have HB := Lib.hid hB; clear hB
          have HB' := Lib.hid hB'; clear hB'
          go_wp2
          go_roundw
          case rel => exact ⟨m + 1, cs2.setIfInBounds (29 + m) (.int .i64 week), by omega, by go_num, HB.out.put (29 + m) _, by rw [Array.size_setIfInBounds]; exact Hs.out, (fun j hj => by
            rw [Array.getElem?_setIfInBounds, if_neg (by omega)]
            exact Hc.out j hj), (fun j hj => by
            rw [Array.getElem?_setIfInBounds]
            by_cases e : 29 + m = 29 + j
            · rw [if_pos e, if_pos (by have := Hs.out; omega)]
            · rw [if_neg e]; exact Hc2.out j (by omega)), HB'.out.far (by simp) _, bS hb (by simp) _⟩
          case measure => simp [intOf]; omega
        · have hm5 : m = 5 := by omega
          have Hm5 := Lib.hid hm5; clear hm5
          have hcs : cs2 = allowCells (fun i => if i < 29 then day else week) := allowCells_of hs (fun i hi => by
            by_cases h29 : i < 29
            · rw [if_pos h29]; exact Hc.out i h29
            · rw [if_neg h29]
              have := Hc2.out (i - 29) (by have := Hm5.out; omega)
              rwa [show 29 + (i - 29) = i by omega] at this)
          subst hcs
          have HB := Lib.hid hB; clear hB
          have HB' := Lib.hid hB'; clear hB' hs
          clear Hc Hc2
          have hst := run_storeCells_row (P := Try.prog) HB'.out (c' := allowCells (fun i => if i < 29 then day else week)) (by rw [allowCells_size]; exact Hs'.out) (allowCells_one _)
          go_wp2_with (refine wpList_load_row rfl _ _ rfl (w.heap.size + 1) rfl 108 _ _ _ HB.out Try.underlying108 rfl (by rw [allowCells_size]; exact info_allow) ?_)
          exact bodyPost_ret (v := .agg (allowCells (fun i => if i < 29 then day else week))) (results_cell_row (Try.results110) _ _ w.heap.size 108 _ (0, 0) _ rfl (setRow_heap _ _ _ _ _ _ HB'.out) Try.underlying108 rfl (by rw [allowCells_size]; exact info_allow)) rfl ⟨rfl, belowRow hb (Nat.le_refl _) _⟩

set_option maxRecDepth 100000 in
set_option maxHeartbeats 4000000 in
theorem pay_any (g d : Nat) (a : Int) (f : Nat → Int) (w : World) (hA : Allow w g f) (hd : d < 29) (ha : 0 ≤ a) (ha2 : a ≤ 4000) (h1 : 0 ≤ f d) (h2 : 0 ≤ f (29 + d / 7)) (h3 : f d ≤ 50000) (h4 : f (29 + d / 7) ≤ 50000) :
    Calls Try.prog 111 #[.pointer (some ⟨g, 0, none⟩), chargeV ⟨(d : Int), a⟩] w fun e w' => e = .returned (.int .i64 (min a (min (f d) (f (29 + d / 7))))) ∧
      Allow w' g (fun i => if i = 29 + d / 7 then f (29 + d / 7) - min a (min (f d) (f (29 + d / 7))) else if i = d then f d - min a (min (f d) (f (29 + d / 7))) else f i) ∧ w.grownBy w' (some g) := by
  unfold chargeV
  have hgl := hA.lt
  have q0 : w.cell? ⟨g, d, none⟩ = some (.int .i64 (f d)) := by rw [hA.cell]; exact allowCells_get f (by omega)
  have q1 : w.cell? ⟨g, 29 + d / 7, none⟩ = some (.int .i64 (f (29 + d / 7))) := by rw [hA.cell]; exact allowCells_get f (by omega)
  have f0 := hA.free d
  have f1 := hA.free (29 + d / 7)
  have HA := Lib.hid hA; clear hA
  obtain ⟨x, hx⟩ : ∃ x, x = f d := ⟨_, rfl⟩
  obtain ⟨y, hy⟩ : ∃ y, y = f (29 + d / 7) := ⟨_, rfl⟩
  rw [← hx] at h1 h3 q0 ⊢
  rw [← hy] at h2 h4 q1 ⊢
  have Hx := Lib.hid hx; clear hx
  have Hy := Lib.hid hy; clear hy
  obtain ⟨e, he⟩ : ∃ e, e = d / 7 := ⟨_, rfl⟩
  have he5 : e < 5 := by omega
  rw [← he] at q1 f1 ⊢
  have He := Lib.hid he; clear he
  have i0 : (0 : Int) ≤ (d : Int) := by omega
  have i1 : (d : Int) < 29 := by omega
  have j0 : (0 : Int) ≤ (e : Int) := by omega
  have j1 : (e : Int) < 5 := by omega
  have n0 : ¬ d = 29 + e := by omega
  have n1 : ¬ 29 + e = d := by omega
  go_enter Try.func111, Try.ntmps111
  go_wp2
  go_quiet ((go_at_call 131; exact quiet_same (weekOf_in d e _ hd He.out)))
  go_wp2
  obtain ⟨p1, E1⟩ : ∃ p1, (if x < a then x else a) = p1 := ⟨_, rfl⟩
  obtain ⟨p, E2⟩ : ∃ p, (if y < p1 then y else p1) = p := ⟨_, rfl⟩
  have hp : p = min a (min x y) := by split at E1 <;> split at E2 <;> omega
  have hp0 : 0 ≤ p := by omega
  have hp1 : p ≤ x := by omega
  have hp2 : p ≤ y := by omega
  have Hp := Lib.hid hp; clear hp
  go_quiet (fail)
  clear E1 E2
  go_wp2
  go_ret
  refine ⟨ret_int Hp.out, ?_, ?_⟩
  · rw [← Hp.out]
    have e2 : allowCells (fun i => if i = 29 + e then y - p else if i = d then x - p else f i) = ((allowCells f).setIfInBounds d (.int .i64 (x - p))).setIfInBounds (29 + e) (.int .i64 (y - p)) := by
      rw [allowCells_set f (by omega), allowCells_set _ (by omega)]
    unfold Allow
    rw [e2]
    exact Blk.put (Blk.put (Blk.drewN (Blk.alloc HA.out _) _) d _) (29 + e) _
  · exact grown_setCell (grown_setCell (grown_drewN (grown_alloc (grown_refl w (some g)) _) _) (.inl rfl) _) (.inl rfl) _
end Go.Proofs.Ytnahdclmfegmeaa
