/-
  Link: as it lies, and what the laws' helpers do with it.
-/
import Derived.Test.YtnkoapccnlgijaaEqualCall
import Derived.Test.YtnkoapccnlgijaaComps
import Derived.Test.YtnkoapccnlgijaaTouch
import Derived.Test.YtnkoapccnlgijaaStCall
import Derived.WalkKit
import Derived.WalkSpells
import Derived.WalkLawsBesides
import Derived.Deep.QuietTactic
import Derived.StillTailTactics
set_option linter.unusedSimpArgs false
namespace Go.Proofs.Ytnkoapccnlgijaa
open Go.ChangeShapes Go.WideShapes Go.ChangeAt Go.RowKit Go.Deep
set_option linter.unusedVariables false
structure LinkR where
  nxt : Int
  opnA : Option Addr
  opnc : Nat
  opn : List Fares.Call
def LinkR.of (v : LinkR) : Fares.Link := ⟨v.nxt, v.opn⟩
def LinkR.cells (v : LinkR) : Array Value := #[.int .i64 v.nxt, .slice v.opnA v.opn.length v.opnc]
def linkV (v : LinkR) : Value := .agg #[.int .i64 v.nxt, .slice v.opnA v.opn.length v.opnc]
def linkZero : Array Value := #[.int .i64 0, .slice none 0 0]
/-- Its lists lie below B. -/
def LinkIn (w : World) (B : Nat) (v : LinkR) : Prop := (Reads w B v.opnA (v.opn.flatMap callCells) ∧ v.opn.length ≤ v.opnc ∧ v.opnc ≤ maxLen ∧ NilOk v.opnA v.opn.length v.opnc)
theorem LinkIn.up {w : World} {v : LinkR} (h : LinkIn w w.heap.size v) (o : Obj) : LinkIn (w.alloc o) (w.alloc o).heap.size v := ⟨readsUp h.1 o, h.2⟩
theorem LinkIn.over {w w' : World} {v : LinkR} (h : LinkIn w w.heap.size v) (hb : Below w.heap.size w w') : LinkIn w' w'.heap.size v := ⟨readsOver h.1 hb, h.2⟩
theorem LinkIn.drew {w : World} {v : LinkR} (h : LinkIn w w.heap.size v) : LinkIn w.drew w.drew.heap.size v := h
/-- Its lists are not too long. -/
def LinkSmall (v : LinkR) : Prop := v.opn.length ≤ 1048576
def LinkBlocks (v : LinkR) (k : Nat) : Prop := (.slice v.opnA v.opn.length v.opnc : Value).ownBlock = some k
/-- Its lists own their memory, each its own. -/
def LinkApart (v : LinkR) : Prop := True
def LinkOwn (w : World) (lo : Nat) (v : LinkR) : Prop := w.ownsRow lo 49 3 (.slice v.opnA v.opn.length v.opnc) v.opn.length (v.opn.flatMap callCells) ∧ LinkApart v
def LinkNext (v : LinkR) (k : Int) : Int := k + (v.opn.length : Int) * 3
def LinkMarked (w : World) (lo : Nat) (v : LinkR) (k : Int) : Prop := w.ownsRow lo 49 3 (.slice v.opnA v.opn.length v.opnc) v.opn.length (callMarks v.opn.length (k)) ∧ LinkApart v
theorem LinkOwn.lt {w : World} {lo : Nat} {v : LinkR} (h : LinkOwn w lo v) : ∀ k, LinkBlocks v k → lo ≤ k ∧ k < w.heap.size := fun k hk => by
  exact World.ownsRow.lt h.1 k hk
theorem LinkOwn.below {w w' : World} {lo : Nat} {v : LinkR} (h : LinkOwn w lo v) (hb : Below w.heap.size w w') : LinkOwn w' lo v := ⟨own_below h.1 hb, h.2⟩
theorem LinkOwn.touch {w w' : World} {lo : Nat} {v : LinkR} {K : Nat → Prop} (h : LinkOwn w lo v) (k : Touch K w w') (hk : ∀ i, LinkBlocks v i → ¬ K i) : LinkOwn w' lo v := ⟨ownTouch h.1 k (fun i hi => hk i (hi)), h.2⟩
theorem LinkOwn.base {w : World} {lo lo' : Nat} {v : LinkR} (h : LinkOwn w lo v) (hl : lo' ≤ lo) : LinkOwn w lo' v := ⟨ownBase h.1 hl, h.2⟩
theorem LinkOwn.drew {w : World} {lo : Nat} {v : LinkR} (h : LinkOwn w lo v) : LinkOwn w.drew lo v := h.below (bD1 (Below.refl _ _))
theorem LinkOwn.up {w : World} {lo : Nat} {v : LinkR} (h : LinkOwn w lo v) (o : Obj) : LinkOwn (w.alloc o) lo v := h.below (bA (Below.refl _ _) o)
theorem LinkMarked.below {w w' : World} {lo : Nat} {v : LinkR} {k : Int} (h : LinkMarked w lo v k) (hb : Below w.heap.size w w') : LinkMarked w' lo v k := ⟨own_below h.1 hb, h.2⟩
theorem LinkMarked.touch {w w' : World} {lo : Nat} {v : LinkR} {z : Int} {K : Nat → Prop} (h : LinkMarked w lo v z) (k : Touch K w w') (hk : ∀ i, LinkBlocks v i → ¬ K i) : LinkMarked w' lo v z := ⟨ownTouch h.1 k (fun i hi => hk i (hi)), h.2⟩
theorem LinkMarked.base {w : World} {lo lo' : Nat} {v : LinkR} {k : Int} (h : LinkMarked w lo v k) (hl : lo' ≤ lo) : LinkMarked w lo' v k := ⟨ownBase h.1 hl, h.2⟩
theorem LinkMarked.drew {w : World} {lo : Nat} {v : LinkR} {k : Int} (h : LinkMarked w lo v k) : LinkMarked w.drew lo v k := h.below (bD1 (Below.refl _ _))
theorem LinkMarked.up {w : World} {lo : Nat} {v : LinkR} {k : Int} (h : LinkMarked w lo v k) (o : Obj) : LinkMarked (w.alloc o) lo v k := h.below (bA (Below.refl _ _) o)
theorem OwnCalls.reads'Link {w : World} {lo c : Nat} {A : Option Addr} {xs : List Fares.Call} (h : w.ownsRow lo 49 3 (.slice A xs.length c) xs.length (xs.flatMap callCells)) : Reads w w.heap.size A (xs.flatMap callCells) := by
  obtain ⟨A', c', e, _, _, hr⟩ := OwnCalls.form h
  injection e with e1 e2 e3
  subst e1
  exact hr
theorem LinkOwn.in_ {w : World} {lo : Nat} {v : LinkR} (h : LinkOwn w lo v) : LinkIn w w.heap.size v := ⟨OwnCalls.reads'Link h.1, (own_le h.1 rfl).1, (own_le h.1 rfl).2, own_nil_ h.1⟩
theorem linkCells {w : World} {b : Nat} {t : TypeId} {v : LinkR} (h : Blk w b t v.cells) : w.cell? ⟨b, 0, none⟩ = some (.int .i64 v.nxt) ∧ w.cell? ⟨b, 1, none⟩ = some (.slice v.opnA v.opn.length v.opnc) :=
  ⟨Blk.cell h 0, Blk.cell h 1⟩
theorem LinkNext_le (v : LinkR) (k : Int) (hs : LinkSmall v) (hk : 0 ≤ k) : k ≤ LinkNext v k ∧ LinkNext v k ≤ k + 3145728 := by
  unfold LinkNext
  have h0 : v.opn.length ≤ 1048576 := hs
  constructor <;> omega
set_option maxRecDepth 100000 in
set_option maxHeartbeats 1000000 in
theorem szLink_any (v : LinkR) (k : Int) (w : World) (hi : LinkIn w w.heap.size v) (hk0 : 0 ≤ k) (hk : k ≤ 1048576) :
    Calls Try.prog 16 #[linkV v, .int .i64 k] w fun e w' => (∃ r : Int, e = .returned (.int .i64 r) ∧ -1 ≤ r ∧ r ≤ k ∧ (r < 0 ∨ (0 ≤ r ∧ LinkSmall v))) ∧ Below w.heap.size w w' := by
  unfold linkV
  have Hi := Lib.hid hi; clear hi
  go_enter Try.func16, Try.ntmps16
  go_wp2_with fail
  generalize hW : World.alloc _ _ = w0
  have hP0 : Blk w0 w.heap.size 24 v.cells := by rw [← hW]; exact Blk.new w _ _
  have hi0 : Hid (LinkIn w0 w0.heap.size v) := Lib.hid (by rw [← hW]; exact Hi.out.up _)
  have hc0 : Below w.heap.size w w0 := by rw [← hW]; exact bA (Below.refl _ _) _
  clear hW Hi
  have L0 : v.opn.length ≤ v.opnc ∧ v.opnc ≤ maxLen := ⟨(hi0.out).2.1, (hi0.out).2.2.1⟩
  refine (szCallS_any v.opnA v.opn.length v.opnc (k) _ (by omega) (by omega) (Nat.le_trans L0.1 L0.2)).mono ?_
  rintro e w' ⟨rfl, rfl⟩
  by_cases z0 : k < v.opn.length
  · rw [if_pos (by omega)]
    go_wp2
    go_ret
    exact ⟨⟨-1, rfl, by omega, by omega, .inl (by omega)⟩, hc0⟩
  · rw [if_neg (by omega)]
    have hd0 : decide (k - (v.opn.length : Int) < 0) = false := by rw [decide_eq_false_iff_not]; omega
    go_wp2
    go_ret
    exact ⟨⟨k - (v.opn.length : Int), rfl, by omega, by omega, .inr ⟨by omega, (show v.opn.length ≤ 1048576 by omega)⟩⟩, hc0⟩
set_option maxRecDepth 100000 in
set_option maxHeartbeats 2000000 in
theorem toLink_any (v : LinkR) (w : World) (hi : LinkIn w w.heap.size v) (hs : LinkSmall v) :
    Calls Try.prog 18 #[linkV v] w fun e w' => (∃ u : LinkR, e = .returned (linkV u) ∧ u.of = v.of ∧ LinkOwn w' w.heap.size u ∧ LinkSmall u) ∧ Below w.heap.size w w' := by
  have Hi := Lib.hid hi; clear hi
  unfold linkV
  go_enter Try.func18, Try.ntmps18
  go_wp2_with fail
  generalize hW : World.alloc _ _ = w0
  have hP0 : Blk w0 (w.heap.size) 24 v.cells := by rw [← hW]; exact ((Blk.new w 24 _).alloc _).alloc _
  have hR0 : Blk w0 (w.heap.size + 1) 29 linkZero := by rw [← hW]; exact (Blk.new' (t := 29) (cs := linkZero) (by simp)).alloc _
  have hO0 : Blk w0 (w.heap.size + 1 + 1) 29 #[.int .i64 v.nxt, .slice none 0 0] := by rw [← hW]; exact Blk.new' (by simp)
  have hc0 : Below w.heap.size w w0 := by rw [← hW]; exact bA (bA (bA (Below.refl _ _) _) _) _
  have hz0 : w.heap.size + 1 + 1 < w0.heap.size := by rw [← hW]; simp
  have hi0 : Hid (LinkIn w0 w0.heap.size v) := Lib.hid (Hi.out.over hc0)
  clear hW
  refine (toCallS_any v.opnA v.opn.length v.opnc v.opn _ (hi0.out).1 rfl hs).mono ?_
  rintro e w1 ⟨rfl, hn1, hb1⟩
  have ho0 := Lib.hid (own_of_starts (base := w0.heap.size) (n := v.opn.length) hn1 (length_flat callCells 3 (fun _ => rfl) _) (Nat.le_refl _) (by have : v.opn.length ≤ 1048576 := hs; unfold maxLen; omega) (Nat.le_refl _))
  clear hn1
  have hc1 := bT hc0 hb1
  have HP1 := Lib.hid (hP0.belowAll hb1)
  have HR1 := Lib.hid (hR0.belowAll hb1)
  have HO1 := Lib.hid (hO0.belowAll hb1)
  have hz1 : w.heap.size + 1 + 1 < w1.heap.size := Nat.lt_of_lt_of_le hz0 hb1.size
  have hzz0 : w.heap.size + 1 + 1 < w0.heap.size := hz0
  have hlo0 : w.heap.size ≤ w0.heap.size := by omega
  clear hP0 hR0 hO0 hc0 hi0 hb1
  obtain ⟨p0, p1⟩ := linkCells HP1.out
  have q0 := HO1.out.cell 0
  have f0 := HO1.out.free 0
  have q1 := HO1.out.cell 1
  have f1 := HO1.out.free 1
  simp only [linkZero, List.setIfInBounds_toArray, List.set_cons_zero, List.set_cons_succ, List.getElem?_toArray, List.getElem?_cons_zero, List.getElem?_cons_succ] at q0 q1
  have r0 := HR1.out.cell 0
  have g0 := HR1.out.free 0
  have r1 := HR1.out.cell 1
  have g1 := HR1.out.free 1
  simp only [linkZero, List.getElem?_toArray, List.getElem?_cons_zero, List.getElem?_cons_succ] at r0 r1
  obtain ⟨u, hu⟩ : ∃ u : LinkR, u = ⟨v.nxt, some ⟨w0.heap.size, 0, none⟩, v.opn.length, v.opn⟩ := ⟨_, rfl⟩
  have huv : linkV u = .agg #[.int .i64 v.nxt, .slice (some ⟨w0.heap.size, 0, none⟩) v.opn.length v.opn.length] := by rw [hu]; rfl
  have HU := Lib.hid hu; clear hu
  have HC := Lib.hid hc1; clear hc1
  go_wp2
  generalize hW : World.setCell _ _ _ = wf
  have hRf := ((((HR1.out).far (p := ⟨w.heap.size + 1 + 1, 1, none⟩) (show w.heap.size + 1 ≠ w.heap.size + 1 + 1 by omega) (.slice (some ⟨w0.heap.size, 0, none⟩) v.opn.length v.opn.length)).put 0 (.int .i64 v.nxt)).put 1 (.slice (some ⟨w0.heap.size, 0, none⟩) v.opn.length v.opn.length))
  rw [hW] at hRf
  have z0 := hRf.cell 0
  have z1 := hRf.cell 1
  simp only [linkZero, List.setIfInBounds_toArray, List.set_cons_zero, List.set_cons_succ, List.getElem?_toArray, List.getElem?_cons_zero, List.getElem?_cons_succ] at z0 z1
  have hcf : Below w.heap.size w wf := by rw [← hW]; exact (bS (bS (bS HC.out (by simp <;> omega) _) (by simp <;> omega) _) (by simp <;> omega) _)
  have htf : Touch (fun i => i ≤ w.heap.size + 1 + 1) w1 wf := by rw [← hW]; exact (Touch.far (K := fun i => i ≤ w.heap.size + 1 + 1) (Touch.far (K := fun i => i ≤ w.heap.size + 1 + 1) (Touch.far (K := fun i => i ≤ w.heap.size + 1 + 1) (Touch.refl _ _) (p := ⟨w.heap.size + 1 + 1, 1, none⟩) (show w.heap.size + 1 + 1 ≤ w.heap.size + 1 + 1 by omega) _) (p := ⟨w.heap.size + 1, 0, none⟩) (show w.heap.size + 1 ≤ w.heap.size + 1 + 1 by omega) _) (p := ⟨w.heap.size + 1, 1, none⟩) (show w.heap.size + 1 ≤ w.heap.size + 1 + 1 by omega) _)
  refine bodyPost_ret (v := linkV u) (by simp [results, Try.results18, go_sem, huv, z0, z1]) rfl ⟨⟨u, rfl, ?_, ?_, ?_⟩, hcf⟩
  · rw [HU.out]; show (⟨v.nxt, v.opn⟩ : Fares.Link) = ⟨v.nxt, v.opn⟩; first | rfl | rw [HU.out]
  · rw [HU.out]
    exact ⟨ownBase (ownTouch ho0.out htf (fun i hi e => by have := (World.ownsRow.lt ho0.out i hi).1; omega)) (by omega), trivial⟩
  · rw [HU.out]; exact hs
set_option maxRecDepth 100000 in
set_option maxHeartbeats 1000000 in
theorem eqLink_same (v u : LinkR) (w : World) (hi : LinkIn w w.heap.size v) (hj : LinkIn w w.heap.size u) (hs : LinkSmall v) (hs' : LinkSmall u) (h : v.of = u.of) :
    Calls Try.prog 20 #[linkV v, linkV u] w fun e w' => e = .returned (.bool true) ∧ Below w.heap.size w w' := by
  have e_nxt : v.nxt = u.nxt := congrArg Fares.Link.nxt h
  have e_opn : v.opn = u.opn := congrArg Fares.Link.opn h
  have b_nxt : (v.nxt != u.nxt) = false := by simp [e_nxt]
  clear e_nxt
  have E_opn := Lib.hid e_opn; clear e_opn
  clear h
  have Hi := Lib.hid hi; clear hi
  have Hj := Lib.hid hj; clear hj
  unfold linkV
  go_enter Try.func20, Try.ntmps20
  go_wp2_with fail
  generalize hW : World.alloc _ _ = w0
  have hA0 : Blk w0 w.heap.size 29 v.cells := by rw [← hW]; exact (Blk.new w _ _).alloc _
  have hB0 : Blk w0 (w.heap.size + 1) 29 u.cells := by rw [← hW]; exact Blk.new' (by simp)
  have hc0 : Below w.heap.size w w0 := by rw [← hW]; exact bA (bA (Below.refl _ _) _) _
  have hi0 := Lib.hid (Hi.out.over hc0)
  have hj0 := Lib.hid (Hj.out.over hc0)
  clear hW Hi Hj
  refine (eqCallS_any v.opnA u.opnA v.opn.length u.opn.length v.opnc u.opnc v.opn u.opn _ (hi0.out).1 (hj0.out).1 rfl rfl (by have : v.opn.length ≤ 1048576 := hs; omega) (by have : u.opn.length ≤ 1048576 := hs'; omega)).mono ?_
  rintro e w1 ⟨rfl, hb1⟩
  rw [decide_eq_true E_opn.out]
  have hc1 := bT hc0 hb1
  have hA1 := hA0.belowAll hb1
  have hB1 := hB0.belowAll hb1
  have hi1 := Lib.hid (hi0.out.over hb1)
  have hj1 := Lib.hid (hj0.out.over hb1)
  clear hA0 hB0 hi0 hj0 hb1 hc0
  obtain ⟨a1_0, a1_1⟩ := linkCells hA1
  obtain ⟨b1_0, b1_1⟩ := linkCells hB1
  go_wp2
  go_ret
  exact ⟨rfl, hc1⟩
set_option maxRecDepth 100000 in
set_option maxHeartbeats 1000000 in
theorem equalLink_same (v u : LinkR) (w : World) (hi : LinkIn w w.heap.size v) (hj : LinkIn w w.heap.size u) (hs : LinkSmall v) (hs' : LinkSmall u) (h : v.of = u.of) :
    Calls Try.prog 36 #[linkV v, linkV u] w fun e w' => e = .returned (.bool true) ∧ Below w.heap.size w w' := by
  have e_nxt : v.nxt = u.nxt := congrArg Fares.Link.nxt h
  have e_opn : v.opn = u.opn := congrArg Fares.Link.opn h
  have b_nxt : (v.nxt == u.nxt) = true := by simp [e_nxt]
  clear e_nxt
  have E_opn := Lib.hid e_opn; clear e_opn
  clear h
  have Hi := Lib.hid hi; clear hi
  have Hj := Lib.hid hj; clear hj
  unfold linkV
  go_enter Try.func36, Try.ntmps36
  go_wp2_with fail
  generalize hW : World.alloc _ _ = w0
  have hA0 : Blk w0 w.heap.size 29 v.cells := by rw [← hW]; exact (Blk.new w _ _).alloc _
  have hB0 : Blk w0 (w.heap.size + 1) 29 u.cells := by rw [← hW]; exact Blk.new' (by simp)
  have hc0 : Below w.heap.size w w0 := by rw [← hW]; exact bA (bA (Below.refl _ _) _) _
  have hi0 := Lib.hid (Hi.out.over hc0)
  have hj0 := Lib.hid (Hj.out.over hc0)
  clear hW Hi Hj
  refine (equalCalls_any v.opnA u.opnA v.opn.length u.opn.length v.opnc u.opnc v.opn u.opn _ (hi0.out).1 (hj0.out).1 rfl rfl (by have : v.opn.length ≤ 1048576 := hs; omega) (by have : u.opn.length ≤ 1048576 := hs'; omega)).mono ?_
  rintro e w1 ⟨rfl, hb1⟩
  rw [decide_eq_true E_opn.out]
  have hc1 := bT hc0 hb1
  have hA1 := hA0.belowAll hb1
  have hB1 := hB0.belowAll hb1
  have hi1 := Lib.hid (hi0.out.over hb1)
  have hj1 := Lib.hid (hj0.out.over hb1)
  clear hA0 hB0 hi0 hj0 hb1 hc0
  obtain ⟨a1_0, a1_1⟩ := linkCells hA1
  obtain ⟨b1_0, b1_1⟩ := linkCells hB1
  go_wp2
  go_ret
  exact ⟨rfl, hc1⟩
set_option maxRecDepth 100000 in
set_option maxHeartbeats 1000000 in
theorem markLink_own (lo : Nat) (v : LinkR) (k : Int) (w : World) (h : LinkOwn w lo v) (hs : LinkSmall v) (hk0 : 0 ≤ k) (hk : k ≤ 20000000) :
    Calls Try.prog 23 #[linkV v, .int .i64 k] w fun e w' => e = .returned (.int .i64 (LinkNext v k)) ∧ LinkMarked w' lo v k ∧ Touch (LinkBlocks v) w w' := by
  have Hh := Lib.hid h; clear h
  unfold linkV
  go_enter Try.func23, Try.ntmps23
  go_wp2_with fail
  generalize hW : World.alloc _ _ = w0
  have hP0 : Blk w0 w.heap.size 29 v.cells := by rw [← hW]; exact Blk.new w _ _
  have H0 : Hid (LinkOwn w0 lo v) := Lib.hid (by rw [← hW]; exact Hh.out.up _)
  have hc0 : Below w.heap.size w w0 := by rw [← hW]; exact bA (Below.refl _ _) _
  have hbl : Hid (∀ i, LinkBlocks v i → i < w.heap.size) := Lib.hid (fun i hi => ((Hh.out.lt i hi).2))
  clear hW
  have ht0 : Touch (LinkBlocks v) w w0 := Touch.of_below hc0
  have s0 : v.opn.length ≤ 1048576 := hs
  obtain ⟨x0, xa⟩ := H0.out
  have X0 := Lib.hid x0; clear x0
  have XA := Lib.hid xa; clear xa H0
  refine (markCallS_own lo _ v.opn.length _ (k) _ X0.out hs (by omega) (by omega)).mono ?_
  rintro e w1 ⟨rfl, hm0, hg1⟩
  have hw1 := Touch.of_grown hg1
  have M0 := Lib.hid hm0; clear hm0
  have hP1 := hP0.touch hw1 (fun e => by have := hbl.out _ (show LinkBlocks v _ from by have hi := e; exact hi); omega)
  have ht1 := ht0.trans (hw1.mono (fun i hi => (show LinkBlocks v i from hi)))
  clear hP0 ht0 hw1 hg1 X0
  obtain ⟨p1_0, p1_1⟩ := linkCells hP1
  go_wp2
  go_ret
  exact ⟨ret_int (by unfold LinkNext; omega), ⟨M0.out, XA.out⟩, ht1⟩
set_option maxRecDepth 100000 in
set_option maxHeartbeats 1000000 in
theorem heldLink_own (lo : Nat) (v : LinkR) (k : Int) (w : World) (h : LinkMarked w lo v k) (hs : LinkSmall v) (hk0 : 0 ≤ k) (hk : k ≤ 20000000) :
    Calls Try.prog 24 #[linkV v, .int .i64 k] w fun e w' => e = .returned (.int .i64 (LinkNext v k)) ∧ Below w.heap.size w w' := by
  have Hh := Lib.hid h; clear h
  unfold linkV
  go_enter Try.func24, Try.ntmps24
  go_wp2_with fail
  generalize hW : World.alloc _ _ = w0
  have hP0 : Blk w0 w.heap.size 29 v.cells := by rw [← hW]; exact Blk.new w _ _
  have H0 : Hid (LinkMarked w0 lo v k) := Lib.hid (by rw [← hW]; exact Hh.out.up _)
  have hc0 : Below w.heap.size w w0 := by rw [← hW]; exact bA (Below.refl _ _) _
  clear hW
  have s0 : v.opn.length ≤ 1048576 := hs
  obtain ⟨x0, xa⟩ := H0.out
  have X0 := Lib.hid x0; clear x0
  have XA := Lib.hid xa; clear xa H0
  refine (heldCallS_own lo _ v.opn.length (k) _ X0.out hs (by omega) (by omega)).mono ?_
  rintro e w' ⟨rfl, rfl⟩
  have hd0 : decide (k + (v.opn.length : Int) * 3 < 0) = false := by rw [decide_eq_false_iff_not]; omega
  go_wp2
  go_ret
  exact ⟨ret_int (by unfold LinkNext; omega), hc0⟩
def linkFits (v : LinkR) : Prop := fitsI v.nxt ∧ (∀ x ∈ v.opn, callFits x)
end Go.Proofs.Ytnkoapccnlgijaa
