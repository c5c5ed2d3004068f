/-
  Call: its cells, slices of it, and what the exact laws' helpers do with them.
-/
import Derived.Test.YtnkoapccnlgijaaTypes
import Derived.Test.YtnkoapccnlgijaaOpen
import Derived.WalkKit
import Derived.WalkSpells
import Derived.WalkLawsBesides
import Derived.Deep.QuietTactic
import Derived.BigQuiet
import Derived.StillTailTactics
import Derived.Laws.MakeOwn
set_option linter.unusedSimpArgs false
namespace Go.Proofs.Ytnkoapccnlgijaa
open Go.ChangeShapes Go.WideShapes Go.ChangeAt Go.RowKit Go.Deep
set_option linter.unusedVariables false

def callV (t : Fares.Call) : Value := .agg #[.int .i64 t.t, .int .i64 t.a, .int .i64 t.s]
def callCells (t : Fares.Call) : List Value := [.int .i64 t.t, .int .i64 t.a, .int .i64 t.s]
/-- The slice at A holds xs. -/
def CallRows (w : World) (B : Nat) (A : Option Addr) (xs : List Fares.Call) : Prop := Reads w B A (xs.flatMap callCells)
/-- One from offset o of block b on. -/
def CallAt (w : World) (b o : Nat) (t : Fares.Call) : Prop :=
  w.cell? ⟨b, o, none⟩ = some (.int .i64 t.t) ∧ w.cell? ⟨b, o + 1, none⟩ = some (.int .i64 t.a) ∧ w.cell? ⟨b, o + 2, none⟩ = some (.int .i64 t.s)

theorem CallRows.row {w : World} {B : Nat} {A : Option Addr} {xs : List Fares.Call} (h : CallRows w B A xs) (hn : 0 < xs.length) :
    ∃ b o, A = some ⟨b, o, none⟩ ∧ b < B ∧ ∀ k t, xs[k]? = some t → CallAt w b (o + k * 3) t := by
  obtain ⟨b, o, e, hb, hr⟩ := Reads.row h (by
    intro e
    have := flat_get callCells 3 (fun _ => rfl) xs 0 0 (by omega)
    rw [e, List.getElem?_eq_getElem hn] at this
    simp [callCells] at this)
  refine ⟨b, o, e, hb, fun k t hk => ?_⟩
  have hg : ∀ j u, j < 3 → (callCells t)[j]? = some u → w.cell? ⟨b, o + k * 3 + j, none⟩ = some u := fun j u hj hu => by
    have := hr (k * 3 + j) u (by rw [flat_get callCells 3 (fun _ => rfl) xs k j hj, hk]; exact hu)
    rwa [← Nat.add_assoc] at this
  exact ⟨hg 0 _ (by omega) rfl, hg 1 _ (by omega) rfl, hg 2 _ (by omega) rfl⟩
theorem CallAt.below {w w' : World} {B b o : Nat} {t : Fares.Call} (h : CallAt w b o t) (hb : Below B w w') (hB : b < B) : CallAt w' b o t := by
  obtain ⟨h0, h1, h2⟩ := h
  exact ⟨(hb.cell hB).trans h0, (hb.cell hB).trans h1, (hb.cell hB).trans h2⟩
/-- A variable that holds one. -/
def CallBox (w : World) (b : Nat) (t : Fares.Call) : Prop := b < w.heap.size ∧ w.cell? ⟨b, 0, none⟩ = some (.int .i64 t.t) ∧ w.cell? ⟨b, 1, none⟩ = some (.int .i64 t.a) ∧ w.cell? ⟨b, 2, none⟩ = some (.int .i64 t.s)
theorem CallBox.below {w w' : World} {B b : Nat} {t : Fares.Call} (h : CallBox w b t) (hb : Below B w w') (hB : b < B) : CallBox w' b t := by
  obtain ⟨hl, h0, h1, h2⟩ := h
  exact ⟨Nat.lt_of_lt_of_le hl hb.size, (hb.cell hB).trans h0, (hb.cell hB).trans h1, (hb.cell hB).trans h2⟩
theorem CallBox.new (w : World) (t : Fares.Call) (e : TypeId) : CallBox (w.alloc (.cells #[.int .i64 t.t, .int .i64 t.a, .int .i64 t.s] e)) w.heap.size t := by
  have hb : Blk (w.alloc (.cells #[.int .i64 t.t, .int .i64 t.a, .int .i64 t.s] e)) w.heap.size e #[.int .i64 t.t, .int .i64 t.a, .int .i64 t.s] := Blk.new w e _
  exact ⟨hb.lt, hb.cell 0, hb.cell 1, hb.cell 2⟩
theorem CallRows.below {w w' : World} {B B' : Nat} {A : Option Addr} {xs : List Fares.Call} (h : CallRows w B A xs) (hb : Below B' w w') (hB : B ≤ B') : CallRows w' B A xs := Reads.below h hb hB
theorem CallRows.of {w : World} {g N : Nat} {t : TypeId} {xs : List Fares.Call} (h : Starts w g t N (xs.flatMap callCells)) : CallRows w w.heap.size (some ⟨g, 0, none⟩) xs := h.reads
theorem CallRows.more {w : World} {B B' : Nat} {A : Option Addr} {xs : List Fares.Call} (h : CallRows w B A xs) (hB : B ≤ B') : CallRows w B' A xs := Reads.more h hB

def callMark (k : Int) : List Value := [.int .i64 (k), .int .i64 (k + 1), .int .i64 (k + 1 + 1)]
def callMarks (n : Nat) (k : Int) : List Value := (List.range n).flatMap fun i : Nat => callMark (k + (i : Int) * 3)

/-- The slice value v owns the elements ys, in blocks from base on. -/
def OwnCalls (w : World) (base : Nat) (v : Value) (ys : List Fares.Call) : Prop := w.ownsRow base 49 3 v ys.length (ys.flatMap callCells)
theorem OwnCalls.snoc {w : World} {base g cap : Nat} {ys : List Fares.Call} {x : Fares.Call}
    (h : w.ownsRow base 49 3 (.slice (some ⟨g, 0, none⟩) (ys.length + 1) cap) (ys.length + 1) (ys.flatMap callCells ++ callCells x)) : OwnCalls w base (.slice (some ⟨g, 0, none⟩) (ys.length + 1) cap) (ys ++ [x]) := by
  unfold OwnCalls
  simpa using h
theorem OwnCalls.none_ (w : World) (base : Nat) : OwnCalls w base (.slice none 0 0) [] := World.ownsRow_nil _ _ _ _
theorem OwnCalls.form {w : World} {base : Nat} {v : Value} {ys : List Fares.Call} (h : OwnCalls w base v ys) :
    ∃ (A : Option Addr) (c : Nat), v = .slice A ys.length c ∧ ys.length ≤ c ∧ c ≤ maxLen ∧ CallRows w w.heap.size A ys := by
  rcases h.2 with ⟨rfl, h0⟩ | ⟨g, cap, cur, rfl, hb, hh, hn, hm, hs, ht⟩
  · have : ys = [] := List.eq_nil_of_length_eq_zero h0
    subst this
    exact ⟨none, 0, rfl, Nat.le_refl _, Nat.zero_le _, Reads.nil _ _ _⟩
  · refine ⟨_, _, rfl, hn, hm, fun hne => ⟨_, rfl, ?_, World.ownsRow.cells h (g := g) rfl⟩⟩
    exact (World.ownsRow.lt h g rfl).2
theorem OwnCalls.kept {w w' : World} {base : Nat} {v : Value} {ys : List Fares.Call} {row : Option Nat} (h : OwnCalls w base v ys) (hg : w.grownBy w' row) (hne : v.ownBlock = none ∨ v.ownBlock ≠ row) : OwnCalls w' base v ys :=
  World.ownsRow.kept h hg hne
theorem OwnCalls.below {w w' : World} {base : Nat} {v : Value} {ys : List Fares.Call} (h : OwnCalls w base v ys) (hb : Below w.heap.size w w') : OwnCalls w' base v ys := by
  refine World.ownsRow.kept h (grown_of_below hb none) ?_
  cases v.ownBlock with
  | none => exact .inl rfl
  | some k => exact .inr (by simp)

set_option maxRecDepth 100000 in
set_option maxHeartbeats 400000 in
theorem toCall_any (t : Fares.Call) (w : World) :
    Calls Try.prog 67 #[callV t] w fun e w' => e = .returned (callV t) ∧ Below w.heap.size w w' := by
  unfold callV
  go_enter Try.func67, Try.ntmps67
  go_wp2
  exact bodyPost_ret (v := callV t) (by simp [results, Try.results67, go_sem, callV]) rfl ⟨rfl, (by repeat (first | exact Below.refl _ _ | refine bA ?_ _ | refine bD ?_ _ | refine bD1 ?_ | refine bS ?_ (by simp) _))⟩

def callFits (t : Fares.Call) : Prop := fitsI t.t ∧ fitsI t.a ∧ fitsI t.s
set_option maxRecDepth 100000 in
theorem call_of_cells {H : Type} {enc : TypeId × Value → H} {w : World} {base : Nat} {spare : Nat → Bool} {held : Bool} {n : Nat} {cs : List Value} {x : DataW H × List MemPlace}
    (h : DataW.trod enc Try.prog w base spare held n 74 cs = some x) : ∃ t : Fares.Call, cs = callCells t ∧ callFits t := by
  obtain ⟨hl, hf⟩ := cells_of_struct Try.underlying74 (by kernel_rfl) (by kernel_rfl) h
  obtain ⟨v0, y0, n0, c0, r0⟩ := hf 0 _ rfl
  obtain ⟨a0, e0, _, w0⟩ := DataW.trod_int Try.underlying3 r0
  simp only [List.cons.injEq, and_true] at e0
  subst e0
  obtain ⟨v1, y1, n1, c1, r1⟩ := hf 1 _ rfl
  obtain ⟨a1, e1, _, w1⟩ := DataW.trod_int Try.underlying3 r1
  simp only [List.cons.injEq, and_true] at e1
  subst e1
  obtain ⟨v2, y2, n2, c2, r2⟩ := hf 2 _ rfl
  obtain ⟨a2, e2, _, w2⟩ := DataW.trod_int Try.underlying3 r2
  simp only [List.cons.injEq, and_true] at e2
  subst e2
  refine ⟨⟨a0, a1, a2⟩, ?_, fits_of_wf w0, fits_of_wf w1, fits_of_wf w2⟩
  match cs, hl with
  | [x0, x1, x2], _ =>
    simp only [List.getElem?_cons_zero, List.getElem?_cons_succ, Option.some.injEq] at c0 c1 c2
    subst c0 c1 c2
    rfl
set_option maxRecDepth 100000 in
theorem call_open {H : Type} {enc : TypeId × Value → H} {w : World} {base : Nat} {spare : Nat → Bool} {held : Bool} {r : Reach} {b0 : Nat} {v : Value} {d : DataW H} {p : List MemPlace}
    (hv : Value.okWide Try.prog w r b0 74 v) (h : DataW.Trod enc Try.prog w base spare held 74 v d p) : ∃ t : Fares.Call, v = callV t ∧ callFits t := by
  obtain ⟨cs, rfl, hsz⟩ := okWide_struct Try.underlying74 hv
  obtain ⟨fuel, hf⟩ := h
  obtain ⟨t, hc, hq⟩ := call_of_cells hf
  refine ⟨t, ?_, hq⟩
  have : cs.toList = callCells t := by simpa [Value.cells] using hc
  have e : cs = (callCells t).toArray := by rw [← this]
  rw [e]
  rfl
set_option maxRecDepth 100000 in
set_option maxHeartbeats 1000000 in
theorem eqCall_any (a b : Fares.Call) (w : World) :
    Calls Try.prog 60 #[callV a, callV b] w fun e w' => e = .returned (.bool (decide (a = b))) ∧ Below w.heap.size w w' := by
  unfold callV
  go_enter Try.func60, Try.ntmps60
  go_wp2
  all_goals (go_ret; exact ⟨ret_bool (by cases a; cases b; simp_all), (by repeat (first | exact Below.refl _ _ | refine bA ?_ _ | refine bD ?_ _ | refine bD1 ?_ | refine bS ?_ (by simp) _))⟩)
set_option maxRecDepth 100000 in
set_option maxHeartbeats 1000000 in
theorem eqCallS_any (A B : Option Addr) (n m c d : Nat) (xs ys : List Fares.Call) (w : World) (hx : CallRows w w.heap.size A xs) (hy : CallRows w w.heap.size B ys) (hxn : xs.length = n) (hym : ys.length = m) (hl : n ≤ 1000000000) (hl' : m ≤ 1000000000) :
    Calls Try.prog 29 #[.slice A n c, .slice B m d] w fun e w' => e = .returned (.bool (decide (xs = ys))) ∧ Below w.heap.size w w' := by
  subst hxn
  subst hym
  by_cases hlen : xs.length = ys.length
  · have hne : ((xs.length : Int) != (ys.length : Int)) = false := by simp [hlen]
    have H := Lib.hid hlen; clear hlen
    go_enter Try.func29, Try.ntmps29
    go_wp2
    go_loopw [5] (fun i wr => ∃ k : Nat, k ≤ xs.length ∧ i = .int .i64 k ∧ Below w.heap.size w wr ∧ xs.take k = ys.take k) (fun i _ => xs.length - (intOf i).toNat)
    case atStart => exact ⟨0, Nat.zero_le _, rfl, Below.refl _ _, by simp⟩
    case round =>
      obtain ⟨k, hk, rfl, hb, he⟩ := hrel
      have He := Lib.hid he; clear he
      by_cases hlt : k < xs.length
      · obtain ⟨x, hxk⟩ : ∃ x, xs[k]? = some x := ⟨xs[k], List.getElem?_eq_getElem hlt⟩
        obtain ⟨y, hyk⟩ : ∃ y, ys[k]? = some y := ⟨ys[k]'(by have := H.out; omega), List.getElem?_eq_getElem (by have := H.out; omega)⟩
        obtain ⟨b1, o1, rfl, hb1, hr1⟩ := hx.row (by omega)
        have hlt2 : k < ys.length := by have := H.out; omega
        obtain ⟨b2, o2, rfl, hb2, hr2⟩ := hy.row (by omega)
        obtain ⟨p0, p1, p2⟩ := (hr1 k x hxk).below hb hb1
        obtain ⟨q0, q1, q2⟩ := (hr2 k y hyk).below hb hb2
        have Hx := Lib.hid hxk; clear hxk
        have Hy := Lib.hid hyk; clear hyk
        clear hr1 hr2 hx hy
        have i0 : (0 : Int) ≤ (k : Int) := by omega
        have i1 : (k : Int) < (xs.length : Int) := by omega
        have i2 : (k : Int) < (ys.length : Int) := by omega
        by_cases hxy : x = y
        · have hd : decide (x = y) = true := by simpa using hxy
          have Hxy := Lib.hid hxy; clear hxy
          go_wp2
          go_still_tail 8, (by kernel_rfl)
          change wpList _ _ _ _ _ wr.drew
          go_wp2_with fail
          refine (eqCall_any x y _).mono ?_
          rintro e w1 ⟨rfl, hb3⟩
          have hb4 : Below w.heap.size w w1 := (bD1 hb).trans (hb3.mono hb.size)
          clear hb3 hb
          go_wp2
          go_roundw
          case rel => exact ⟨k + 1, by omega, by go_num, hb4, by rw [take_next Hx.out, take_next Hy.out, He.out, Hxy.out]⟩
          case measure => simp [intOf]; omega
        · have hd : decide (x = y) = false := by simpa using hxy
          have Hxy := Lib.hid hxy; clear hxy
          go_wp2
          go_still_tail 8, (by kernel_rfl)
          change wpList _ _ _ _ _ wr.drew
          go_wp2_with fail
          refine (eqCall_any x y _).mono ?_
          rintro e w1 ⟨rfl, hb3⟩
          have hb4 : Below w.heap.size w w1 := (bD1 hb).trans (hb3.mono hb.size)
          clear hb3 hb
          go_wp2
          go_ret
          exact ⟨ret_bool (by
            have h1 := Hx.out
            have h2 := Hy.out
            have h3 := Hxy.out
            simp only [Bool.false_eq, decide_eq_false_iff_not]
            intro e
            rw [e, h2] at h1
            injection h1 with h1
            exact h3 h1.symm), hb4⟩
      · go_wp2
        go_ret
        exact ⟨ret_bool (by
          have h1 : xs.take k = xs := List.take_of_length_le (by omega)
          have h2 : ys.take k = ys := List.take_of_length_le (by have := H.out; omega)
          have := He.out
          rw [h1, h2] at this
          simp [this]), hb⟩
  · have hne : ((xs.length : Int) != (ys.length : Int)) = true := by rw [bne_iff_ne]; omega
    go_enter Try.func29, Try.ntmps29
    go_wp2
    go_ret
    exact ⟨ret_bool (by simp; intro e; exact hlen (by rw [e])), (by repeat (first | exact Below.refl _ _ | refine bA ?_ _ | refine bD ?_ _ | refine bD1 ?_ | refine bS ?_ (by simp) _))⟩
set_option maxRecDepth 100000 in
set_option maxHeartbeats 400000 in
theorem szCallS_any (A : Option Addr) (n c : Nat) (k : Int) (w : World) (hk0 : 0 ≤ k) (hk : k ≤ 1048576) (hn : n ≤ maxLen) :
    Calls Try.prog 41 #[.slice A n c, .int .i64 k] w fun e w' => e = .returned (.int .i64 (if k < n then -1 else k - n)) ∧ w = w' := by
  unfold maxLen at hn
  by_cases h : k < n
  · rw [if_pos h]
    go_enter Try.func41, Try.ntmps41
    go_wp2
    go_ret
    exact ⟨rfl, rfl⟩
  · rw [if_neg h]
    go_enter Try.func41, Try.ntmps41
    go_wp2
    go_ret
    exact ⟨rfl, rfl⟩
theorem info_call : (Try.prog.info? 49).map (fun i => (i.zero, i.size, i.bytes)) = some (some (.agg #[.int .i64 0, .int .i64 0, .int .i64 0]), 3, 24) := by kernel_rfl
set_option maxRecDepth 100000 in
set_option maxHeartbeats 2000000 in
theorem toCallS_any (A : Option Addr) (n c : Nat) (xs : List Fares.Call) (w : World) (hx : CallRows w w.heap.size A xs) (hxn : xs.length = n) (hl : n ≤ 1048576) :
    Calls Try.prog 43 #[.slice A n c] w fun e w' => e = .returned (.slice (some ⟨w.heap.size, 0, none⟩) n n) ∧ Starts w' w.heap.size 49 (n * 3) (xs.flatMap callCells) ∧ Below w.heap.size w w' := by
  subst hxn
  obtain ⟨Z, hZ, hmk⟩ := run_make_n (P := Try.prog) 27 49 _ 3 24 Try.underlying27 info_call xs.length (by omega) (by omega)
  have HZ := Lib.hid hZ; clear hZ
  go_enter Try.func43, Try.ntmps43
  go_wp2
  clear hmk
  go_loopw [4] (fun i wr => ∃ k : Nat, k ≤ xs.length ∧ i = .int .i64 k ∧ Below w.heap.size w wr ∧ Starts wr w.heap.size 49 (xs.length * 3) ((xs.take k).flatMap callCells)) (fun i _ => xs.length - (intOf i).toNat)
  case atStart => exact ⟨0, Nat.zero_le _, rfl, bA (Below.refl _ _) _, Z, Blk.new _ _ _, HZ.out, by simp⟩
  case round =>
    obtain ⟨k, hk, rfl, hb, hst⟩ := hrel
    have hs1 : w.heap.size < wr.heap.size := hst.lt
    have Hst := Lib.hid hst; clear hst
    by_cases hlt : k < xs.length
    · obtain ⟨x, hxk⟩ : ∃ x, xs[k]? = some x := ⟨xs[k], List.getElem?_eq_getElem hlt⟩
      obtain ⟨b1, o1, rfl, hb1, hr1⟩ := hx.row (by omega)
      obtain ⟨p0, p1, p2⟩ := (hr1 k x hxk).below hb hb1
      have Hx := Lib.hid hxk; clear hxk
      clear hr1 hx
      have i0 : (0 : Int) ≤ (k : Int) := by omega
      have i1 : (k : Int) < (xs.length : Int) := by omega
      go_wp2_with fail
      refine (toCall_any x _).mono ?_
      rintro e w1 ⟨rfl, hb3⟩
      have hb4 : Below w.heap.size w w1 := hb.trans (hb3.mono hb.size)
      have hst1 := Hst.out.below hb3 hs1
      obtain ⟨u0, q0⟩ := hst1.there (i := k * 3) (by omega)
      obtain ⟨u1, q1⟩ := hst1.there (i := k * 3 + 1) (by omega)
      obtain ⟨u2, q2⟩ := hst1.there (i := k * 3 + 2) (by omega)
      have e0 := hst1.free (k * 3)
      have e1 := hst1.free (k * 3 + 1)
      have e2 := hst1.free (k * 3 + 2)
      clear hb3 hb p0 p1 p2 Hst
      have Hst1 := Lib.hid hst1; clear hst1
      unfold callV
      go_wp2
      go_roundw
      case rel => exact ⟨k + 1, by omega, by go_num, below_setCells (Nat.le_refl _) (callCells x) w1 (k * 3) hb4, Hst1.out.next callCells 3 (fun _ => rfl) Hx.out (by omega)⟩
      case measure => simp [intOf]; omega
    · go_wp2
      go_ret
      exact ⟨rfl, by have := Hst.out; rwa [List.take_of_length_le (by omega)] at this, hb⟩
set_option maxRecDepth 100000 in
theorem calls_open {H : Type} {enc : TypeId × Value → H} {w : World} {base : Nat} {spare : Nat → Bool} {held : Bool} {r : Reach} {b0 : Nat} {v : Value} {d : DataW H} {p : List MemPlace}
    (hv : Value.okWide Try.prog w r b0 22 v) (h : DataW.Trod enc Try.prog w base spare held 22 v d p) :
    ∃ (A : Option Addr) (n c : Nat) (xs : List Fares.Call), v = .slice A n c ∧ xs.length = n ∧ n ≤ maxLen ∧ CallRows w w.heap.size A xs ∧ ∀ x ∈ xs, callFits x := by
  obtain ⟨A, n, c, rfl⟩ := okWide_slice Try.underlying22 hv
  obtain ⟨fuel, hf⟩ := h
  obtain ⟨h1, h2, xs, h3, h4, h5⟩ := reads_of_slice callCells 3 (fun _ => rfl) (by omega) callFits Try.underlying22 (by kernel_rfl) (fun _ _ _ h => call_of_cells h) hf
  exact ⟨A, n, c, xs, rfl, h3, Nat.le_trans h1 h2, h5, h4⟩
set_option maxRecDepth 100000 in
set_option maxHeartbeats 2000000 in
theorem markCallS_any (g n c N : Nat) (k0 : Int) (vs : List Value) (w : World) (h : Starts w g 49 N vs) (hN : n * 3 ≤ N) (hl : n ≤ 1048576) (h0 : 0 ≤ k0) (h1 : k0 ≤ 100000000) :
    Calls Try.prog 30 #[.slice (some ⟨g, 0, none⟩) n c, .int .i64 k0] w fun e w' => e = .returned (.int .i64 (k0 + n * 3)) ∧ Starts w' g 49 N (callMarks n k0) ∧ w.grownBy w' (some g) := by
  go_enter Try.func30, Try.ntmps30
  go_wp2
  go_loopw [5, 1] (fun i v wr => ∃ k : Nat, k ≤ n ∧ i = .int .i64 k ∧ v = .int .i64 (k0 + k * 3) ∧ w.grownBy wr (some g) ∧ Starts wr g 49 N (((List.range n).take k).flatMap fun i : Nat => callMark (k0 + (i : Int) * 3))) (fun i _ _ => n - (intOf i).toNat)
  case atStart => exact ⟨0, Nat.zero_le _, rfl, by simp, grown_refl _ _, h.none_⟩
  case round =>
    obtain ⟨k, hk, rfl, rfl, hg, hst⟩ := hrel
    by_cases hlt : k < n
    · have hx : (List.range n)[k]? = some k := by simp [hlt]
      obtain ⟨u0, q0⟩ := hst.there (i := k * 3) (by omega)
      obtain ⟨u1, q1⟩ := hst.there (i := k * 3 + 1) (by omega)
      obtain ⟨u2, q2⟩ := hst.there (i := k * 3 + 2) (by omega)
      have e0 := hst.free (k * 3)
      have e1 := hst.free (k * 3 + 1)
      have e2 := hst.free (k * 3 + 2)
      have Hst := Lib.hid hst; clear hst
      have Hx := Lib.hid hx; clear hx
      have i0 : (0 : Int) ≤ (k : Int) := by omega
      have i1 : (k : Int) < (n : Int) := by omega
      go_wp2
      go_roundw
      case rel => exact ⟨k + 1, by omega, by go_num, by go_num, grown_setCells (callMark (k0 + k * 3)) wr (k * 3) hg, Hst.out.next (fun i : Nat => callMark (k0 + (i : Int) * 3)) 3 (fun _ => rfl) Hx.out (by omega)⟩
      case measure => simp [intOf]; omega
    · go_wp2
      go_ret
      have e : k = n := by omega
      subst e
      exact ⟨rfl, by rwa [List.take_of_length_le (by simp)] at hst, hg⟩
set_option maxRecDepth 100000 in
set_option maxHeartbeats 2000000 in
theorem heldCallS_any (g n c N : Nat) (k0 : Int) (w : World) (h : Starts w g 49 N (callMarks n k0)) (hl : n ≤ 1048576) (h0 : 0 ≤ k0) (h1 : k0 ≤ 100000000) :
    Calls Try.prog 31 #[.slice (some ⟨g, 0, none⟩) n c, .int .i64 k0] w fun e w' => e = .returned (.int .i64 (k0 + n * 3)) ∧ w = w' := by
  have hc : ∀ k j u, k < n → j < 3 → (callMark (k0 + k * 3))[j]? = some u → w.cell? ⟨g, k * 3 + j, none⟩ = some u := by
    intro k j u hk hj hu
    obtain ⟨cs, h1, h2, h3⟩ := h
    rw [h1.cell]
    refine h3 _ _ ?_
    unfold callMarks
    rw [flat_get _ 3 (fun _ => rfl) _ k j hj, List.getElem?_range hk]
    exact hu
  have Hc := Lib.hid hc; clear hc
  go_enter Try.func31, Try.ntmps31
  go_wp2
  go_loop [5, 1] (fun i v => ∃ k : Nat, k ≤ n ∧ i = .int .i64 k ∧ v = .int .i64 (k0 + k * 3)) (fun i _ => n - (intOf i).toNat)
  case atStart => exact ⟨0, Nat.zero_le _, rfl, by simp⟩
  case round =>
    obtain ⟨k, hk, rfl, rfl⟩ := hrel
    by_cases hlt : k < n
    · have i0 : (0 : Int) ≤ (k : Int) := by omega
      have i1 : (k : Int) < (n : Int) := by omega
      have q0 : w.cell? ⟨g, k * 3, none⟩ = some (.int .i64 (k0 + k * 3)) := Hc.out k 0 _ hlt (by omega) rfl
      have q1 : w.cell? ⟨g, k * 3 + 1, none⟩ = some (.int .i64 (k0 + k * 3 + 1)) := Hc.out k 1 _ hlt (by omega) rfl
      have q2 : w.cell? ⟨g, k * 3 + 2, none⟩ = some (.int .i64 (k0 + k * 3 + 1 + 1)) := Hc.out k 2 _ hlt (by omega) rfl
      go_wp2
      go_round
      case rel => exact ⟨k + 1, by omega, by go_num, by go_num⟩
      case measure => simp [intOf]; omega
    · go_wp2
      go_ret
      have e : k = n := by omega
      subst e
      exact ⟨rfl, rfl⟩
set_option maxRecDepth 100000 in
set_option maxHeartbeats 400000 in
theorem markCallS_own (base : Nat) (v : Value) (n : Nat) (vs : List Value) (k0 : Int) (w : World) (h : w.ownsRow base 49 3 v n vs) (hl : n ≤ 1048576) (h0 : 0 ≤ k0) (h1 : k0 ≤ 100000000) :
    Calls Try.prog 30 #[v, .int .i64 k0] w fun e w' => e = .returned (.int .i64 (k0 + n * 3)) ∧ w'.ownsRow base 49 3 v n (callMarks n k0) ∧ w.grownBy w' v.ownBlock := by
  rcases h.2 with ⟨rfl, hn⟩ | ⟨g, cap, cur, rfl, hb, hh, hn, hm, hs, ht⟩
  · subst hn
    go_enter Try.func30, Try.ntmps30
    go_wp2
    go_loopw [5, 1] (fun i v wr => i = .int .i64 0 ∧ v = .int .i64 k0 ∧ wr = w) (fun i _ _ => 0)
    case atStart => exact ⟨rfl, rfl, rfl⟩
    case round =>
      obtain ⟨rfl, rfl, rfl⟩ := hrel
      go_wp2
      go_ret
      exact ⟨ret_int (by simp), World.ownsRow_nil _ _ _ _, grown_refl _ _⟩
  · refine (markCallS_any g n cap (cap * 3) k0 vs w ⟨cur, hh, hs, fun i u hu => ?_⟩ (Nat.mul_le_mul_right _ hn) hl h0 h1).mono ?_
    · rw [← ht] at hu
      rw [List.getElem?_take] at hu
      split at hu
      · simpa using hu
      · cases hu
    · rintro e w' ⟨rfl, hst, hg⟩
      exact ⟨rfl, own_of_starts hst (by unfold callMarks; rw [length_flat _ 3 (fun _ => rfl)]; simp) hn hm hb, hg⟩
set_option maxRecDepth 100000 in
set_option maxHeartbeats 400000 in
theorem heldCallS_own (base : Nat) (v : Value) (n : Nat) (k0 : Int) (w : World) (h : w.ownsRow base 49 3 v n (callMarks n k0)) (hl : n ≤ 1048576) (h0 : 0 ≤ k0) (h1 : k0 ≤ 100000000) :
    Calls Try.prog 31 #[v, .int .i64 k0] w fun e w' => e = .returned (.int .i64 (k0 + n * 3)) ∧ w = w' := by
  rcases h.2 with ⟨rfl, hn⟩ | ⟨g, cap, cur, rfl, hb, hh, hn, hm, hs, ht⟩
  · subst hn
    go_enter Try.func31, Try.ntmps31
    go_wp2
    go_loop [5, 1] (fun i v => i = .int .i64 0 ∧ v = .int .i64 k0) (fun i _ => 0)
    case atStart => exact ⟨rfl, rfl⟩
    case round =>
      obtain ⟨rfl, rfl⟩ := hrel
      go_wp2
      go_ret
      exact ⟨ret_int (by simp), rfl⟩
  · refine heldCallS_any g n cap (cap * 3) k0 w ⟨cur, hh, hs, fun i u hu => ?_⟩ hl h0 h1
    rw [← ht] at hu
    rw [List.getElem?_take] at hu
    split at hu
    · simpa using hu
    · cases hu
end Go.Proofs.Ytnkoapccnlgijaa
