/-
  Gate: as it lies, and what the laws' helpers do with it.
-/
import Derived.Test.YtpijjlggmibfnaaComps
import Derived.Test.YtpijjlggmibfnaaTouch
import Derived.Test.YtpijjlggmibfnaaEqualTap
import Derived.Test.YtpijjlggmibfnaaStDeny
import Derived.Test.YtpijjlggmibfnaaStTap
import Derived.WalkKit
import Derived.WalkSpells
import Derived.WalkLawsBesides
import Derived.Deep.QuietTactic
import Derived.StillTailTactics
set_option linter.unusedSimpArgs false
namespace Go.Proofs.Ytpijjlggmibfnaa
open Go.ChangeShapes Go.WideShapes Go.ChangeAt Go.RowKit Go.Deep
set_option linter.unusedVariables false
structure GateR where
  val : Int
  nxt : Int
  deny : DenyR
  keptA : Option Addr
  keptc : Nat
  kept : List Fares.Tap
def GateR.of (v : GateR) : Fares.Gate := ⟨v.val, v.nxt, v.deny.of, v.kept⟩
def GateR.cells (v : GateR) : Array Value := #[.int .i64 v.val, .int .i64 v.nxt, .int .i64 v.deny.ver, .slice v.deny.cardsA v.deny.cards.length v.deny.cardsc, .slice v.keptA v.kept.length v.keptc]
def gateV (v : GateR) : Value := .agg #[.int .i64 v.val, .int .i64 v.nxt, .int .i64 v.deny.ver, .slice v.deny.cardsA v.deny.cards.length v.deny.cardsc, .slice v.keptA v.kept.length v.keptc]
def gateZero : Array Value := #[.int .i64 0, .int .i64 0, .int .i64 0, .slice none 0 0, .slice none 0 0]
/-- Its lists lie below B. -/
def GateIn (w : World) (B : Nat) (v : GateR) : Prop := DenyIn w B v.deny ∧ (Reads w B v.keptA (v.kept.flatMap tapCells) ∧ v.kept.length ≤ v.keptc ∧ v.keptc ≤ maxLen ∧ NilOk v.keptA v.kept.length v.keptc)
theorem GateIn.up {w : World} {v : GateR} (h : GateIn w w.heap.size v) (o : Obj) : GateIn (w.alloc o) (w.alloc o).heap.size v := ⟨h.1.up o, ⟨readsUp h.2.1 o, h.2.2⟩⟩
theorem GateIn.over {w w' : World} {v : GateR} (h : GateIn w w.heap.size v) (hb : Below w.heap.size w w') : GateIn w' w'.heap.size v := ⟨h.1.over hb, ⟨readsOver h.2.1 hb, h.2.2⟩⟩
theorem GateIn.drew {w : World} {v : GateR} (h : GateIn w w.heap.size v) : GateIn w.drew w.drew.heap.size v := h
/-- Its lists are not too long. -/
def GateSmall (v : GateR) : Prop := DenySmall v.deny ∧ v.kept.length ≤ 1048576
def GateBlocks (v : GateR) (k : Nat) : Prop := DenyBlocks v.deny k ∨ (.slice v.keptA v.kept.length v.keptc : Value).ownBlock = some k
/-- Its lists own their memory, each its own. -/
def GateApart (v : GateR) : Prop := (∀ k, DenyBlocks v.deny k → (.slice v.keptA v.kept.length v.keptc : Value).ownBlock = some k → False)
def GateOwn (w : World) (lo : Nat) (v : GateR) : Prop := DenyOwn w lo v.deny ∧ w.ownsRow lo 57 6 (.slice v.keptA v.kept.length v.keptc) v.kept.length (v.kept.flatMap tapCells) ∧ GateApart v
def GateNext (v : GateR) (k : Int) : Int := DenyNext v.deny (k) + (v.kept.length : Int) * 6
def GateMarked (w : World) (lo : Nat) (v : GateR) (k : Int) : Prop := DenyMarked w lo v.deny (k) ∧ w.ownsRow lo 57 6 (.slice v.keptA v.kept.length v.keptc) v.kept.length (tapMarks v.kept.length (DenyNext v.deny (k))) ∧ GateApart v
theorem GateOwn.lt {w : World} {lo : Nat} {v : GateR} (h : GateOwn w lo v) : ∀ k, GateBlocks v k → lo ≤ k ∧ k < w.heap.size := fun k hk => by
  rcases hk with hk | hk
  · exact h.1.lt k hk
  · exact World.ownsRow.lt h.2.1 k hk
theorem GateOwn.below {w w' : World} {lo : Nat} {v : GateR} (h : GateOwn w lo v) (hb : Below w.heap.size w w') : GateOwn w' lo v := ⟨h.1.below hb, own_below h.2.1 hb, h.2.2⟩
theorem GateOwn.touch {w w' : World} {lo : Nat} {v : GateR} {K : Nat → Prop} (h : GateOwn w lo v) (k : Touch K w w') (hk : ∀ i, GateBlocks v i → ¬ K i) : GateOwn w' lo v := ⟨h.1.touch k (fun i hi => hk i (Or.inl hi)), ownTouch h.2.1 k (fun i hi => hk i (Or.inr (hi))), h.2.2⟩
theorem GateOwn.base {w : World} {lo lo' : Nat} {v : GateR} (h : GateOwn w lo v) (hl : lo' ≤ lo) : GateOwn w lo' v := ⟨h.1.base hl, ownBase h.2.1 hl, h.2.2⟩
theorem GateOwn.drew {w : World} {lo : Nat} {v : GateR} (h : GateOwn w lo v) : GateOwn w.drew lo v := h.below (bD1 (Below.refl _ _))
theorem GateOwn.up {w : World} {lo : Nat} {v : GateR} (h : GateOwn w lo v) (o : Obj) : GateOwn (w.alloc o) lo v := h.below (bA (Below.refl _ _) o)
theorem GateMarked.below {w w' : World} {lo : Nat} {v : GateR} {k : Int} (h : GateMarked w lo v k) (hb : Below w.heap.size w w') : GateMarked w' lo v k := ⟨h.1.below hb, own_below h.2.1 hb, h.2.2⟩
theorem GateMarked.touch {w w' : World} {lo : Nat} {v : GateR} {z : Int} {K : Nat → Prop} (h : GateMarked w lo v z) (k : Touch K w w') (hk : ∀ i, GateBlocks v i → ¬ K i) : GateMarked w' lo v z := ⟨h.1.touch k (fun i hi => hk i (Or.inl hi)), ownTouch h.2.1 k (fun i hi => hk i (Or.inr (hi))), h.2.2⟩
theorem GateMarked.base {w : World} {lo lo' : Nat} {v : GateR} {k : Int} (h : GateMarked w lo v k) (hl : lo' ≤ lo) : GateMarked w lo' v k := ⟨h.1.base hl, ownBase h.2.1 hl, h.2.2⟩
theorem GateMarked.drew {w : World} {lo : Nat} {v : GateR} {k : Int} (h : GateMarked w lo v k) : GateMarked w.drew lo v k := h.below (bD1 (Below.refl _ _))
theorem GateMarked.up {w : World} {lo : Nat} {v : GateR} {k : Int} (h : GateMarked w lo v k) (o : Obj) : GateMarked (w.alloc o) lo v k := h.below (bA (Below.refl _ _) o)
theorem OwnTaps.reads'Gate {w : World} {lo c : Nat} {A : Option Addr} {xs : List Fares.Tap} (h : w.ownsRow lo 57 6 (.slice A xs.length c) xs.length (xs.flatMap tapCells)) : Reads w w.heap.size A (xs.flatMap tapCells) := by
  obtain ⟨A', c', e, _, _, hr⟩ := OwnTaps.form h
  injection e with e1 e2 e3
  subst e1
  exact hr
theorem GateOwn.in_ {w : World} {lo : Nat} {v : GateR} (h : GateOwn w lo v) : GateIn w w.heap.size v := ⟨h.1.in_, ⟨OwnTaps.reads'Gate h.2.1, (own_le h.2.1 rfl).1, (own_le h.2.1 rfl).2, own_nil_ h.2.1⟩⟩
theorem gateCells {w : World} {b : Nat} {t : TypeId} {v : GateR} (h : Blk w b t v.cells) : w.cell? ⟨b, 0, none⟩ = some (.int .i64 v.val) ∧ w.cell? ⟨b, 1, none⟩ = some (.int .i64 v.nxt) ∧ w.cell? ⟨b, 2, none⟩ = some (.int .i64 v.deny.ver) ∧ w.cell? ⟨b, 3, none⟩ = some (.slice v.deny.cardsA v.deny.cards.length v.deny.cardsc) ∧ w.cell? ⟨b, 4, none⟩ = some (.slice v.keptA v.kept.length v.keptc) :=
  ⟨Blk.cell h 0, Blk.cell h 1, Blk.cell h 2, Blk.cell h 3, Blk.cell h 4⟩
theorem GateNext_le (v : GateR) (k : Int) (hs : GateSmall v) (hk : 0 ≤ k) : k ≤ GateNext v k ∧ GateNext v k ≤ k + 7340032 := by
  unfold GateNext
  have h0 := DenyNext_le v.deny (k) hs.1 (by omega)
  have h1 : v.kept.length ≤ 1048576 := hs.2
  constructor <;> omega
set_option maxRecDepth 100000 in
set_option maxHeartbeats 1000000 in
theorem szGate_any (v : GateR) (k : Int) (w : World) (hi : GateIn w w.heap.size v) (hk0 : 0 ≤ k) (hk : k ≤ 1048576) :
    Calls Try.prog 34 #[gateV v, .int .i64 k] w fun e w' => (∃ r : Int, e = .returned (.int .i64 r) ∧ -1 ≤ r ∧ r ≤ k ∧ (r < 0 ∨ (0 ≤ r ∧ GateSmall v))) ∧ Below w.heap.size w w' := by
  unfold gateV
  have Hi := Lib.hid hi; clear hi
  go_enter Try.func34, Try.ntmps34
  go_wp2_with fail
  generalize hW : World.alloc _ _ = w0
  have hP0 : Blk w0 w.heap.size 47 v.cells := by rw [← hW]; exact Blk.new w _ _
  have hi0 : Hid (GateIn w0 w0.heap.size v) := Lib.hid (by rw [← hW]; exact Hi.out.up _)
  have hc0 : Below w.heap.size w w0 := by rw [← hW]; exact bA (Below.refl _ _) _
  clear hW Hi
  refine (szDeny_any v.deny (k) _ (hi0.out.1) (by omega) (by omega)).mono ?_
  rintro e w1 ⟨⟨r0, rfl, ra0, rb0, rc0⟩, hb1⟩
  have hc1 := bT hc0 hb1
  have hi1 := Lib.hid (hi0.out.over hb1)
  have hP1 := hP0.belowAll hb1
  clear hP0 hi0 hb1 hc0
  rcases rc0 with rc0 | ⟨rc0, hs0⟩
  · have hd0 : decide (r0 < 0) = true := by rw [decide_eq_true_eq]; omega
    go_wp2
    go_ret
    exact ⟨⟨-1, rfl, by omega, by omega, .inl (by omega)⟩, hc1⟩
  · have hd0 : decide (r0 < 0) = false := by rw [decide_eq_false_iff_not]; omega
    have Hs0 := Lib.hid hs0; clear hs0
    obtain ⟨p0, p1, p2, p3, p4⟩ := gateCells hP1
    go_wp2_with fail
    have L1 : v.kept.length ≤ v.keptc ∧ v.keptc ≤ maxLen := ⟨(hi1.out.2).2.1, (hi1.out.2).2.2.1⟩
    refine (szTapS_any v.keptA v.kept.length v.keptc (r0) _ (by omega) (by omega) (Nat.le_trans L1.1 L1.2)).mono ?_
    rintro e w' ⟨rfl, rfl⟩
    by_cases z1 : r0 < v.kept.length
    · rw [if_pos (by omega)]
      go_wp2
      go_ret
      exact ⟨⟨-1, rfl, by omega, by omega, .inl (by omega)⟩, hc1⟩
    · rw [if_neg (by omega)]
      have hd1 : decide (r0 - (v.kept.length : Int) < 0) = false := by rw [decide_eq_false_iff_not]; omega
      go_wp2
      go_ret
      exact ⟨⟨r0 - (v.kept.length : Int), rfl, by omega, by omega, .inr ⟨by omega, ⟨Hs0.out, (show v.kept.length ≤ 1048576 by omega)⟩⟩⟩, hc1⟩
set_option maxRecDepth 100000 in
set_option maxHeartbeats 2000000 in
theorem toGate_any (v : GateR) (w : World) (hi : GateIn w w.heap.size v) (hs : GateSmall v) :
    Calls Try.prog 35 #[gateV v] w fun e w' => (∃ u : GateR, e = .returned (gateV u) ∧ u.of = v.of ∧ GateOwn w' w.heap.size u ∧ GateSmall u) ∧ Below w.heap.size w w' := by
  have Hi := Lib.hid hi; clear hi
  unfold gateV
  go_enter Try.func35, Try.ntmps35
  go_wp2_with fail
  generalize hW : World.alloc _ _ = w0
  have hP0 : Blk w0 (w.heap.size) 47 v.cells := by rw [← hW]; exact ((Blk.new w 47 _).alloc _).alloc _
  have hR0 : Blk w0 (w.heap.size + 1) 40 gateZero := by rw [← hW]; exact (Blk.new' (t := 40) (cs := gateZero) (by simp)).alloc _
  have hO0 : Blk w0 (w.heap.size + 1 + 1) 40 #[.int .i64 v.val, .int .i64 v.nxt, .int .i64 0, .slice none 0 0, .slice none 0 0] := by rw [← hW]; exact Blk.new' (by simp)
  have hc0 : Below w.heap.size w w0 := by rw [← hW]; exact bA (bA (bA (Below.refl _ _) _) _) _
  have hz0 : w.heap.size + 1 + 1 < w0.heap.size := by rw [← hW]; simp
  have hi0 : Hid (GateIn w0 w0.heap.size v) := Lib.hid (Hi.out.over hc0)
  clear hW
  refine (toDeny_any v.deny _ (hi0.out.1) hs.1).mono ?_
  rintro e w1 ⟨⟨u0, rfl, hu0, ho0, hv0⟩, hb1⟩
  have Hu0 := Lib.hid hu0; clear hu0
  have Hv0 := Lib.hid hv0; clear hv0
  have ho0x := Lib.hid ho0; clear ho0
  have ho0 := ho0x; clear ho0x
  have aplt0 : ∀ k, DenyBlocks u0 k → k < w1.heap.size := fun k hk => (ho0.out.lt k hk).2
  have APLT0 := fun k hk => (Lib.hid aplt0).out k hk
  clear aplt0
  unfold denyV
  have hc1 := bT hc0 hb1
  have HP1 := Lib.hid (hP0.belowAll hb1)
  have HR1 := Lib.hid (hR0.belowAll hb1)
  have HO1 := Lib.hid (hO0.belowAll hb1)
  have hz1 : w.heap.size + 1 + 1 < w1.heap.size := Nat.lt_of_lt_of_le hz0 hb1.size
  have hzz0 : w.heap.size + 1 + 1 < w0.heap.size := hz0
  have hlo0 : w.heap.size ≤ w0.heap.size := by omega
  clear hP0 hR0 hO0 hc0 hi0 hb1
  obtain ⟨p0, p1, p2, p3, p4⟩ := gateCells HP1.out
  have q0 := HO1.out.cell 0
  have f0 := HO1.out.free 0
  have q1 := HO1.out.cell 1
  have f1 := HO1.out.free 1
  have q2 := HO1.out.cell 2
  have f2 := HO1.out.free 2
  have q3 := HO1.out.cell 3
  have f3 := HO1.out.free 3
  have q4 := HO1.out.cell 4
  have f4 := HO1.out.free 4
  simp only [gateZero, List.setIfInBounds_toArray, List.set_cons_zero, List.set_cons_succ, List.getElem?_toArray, List.getElem?_cons_zero, List.getElem?_cons_succ] at q0 q1 q2 q3 q4
  go_wp2_with fail
  generalize hW : World.setCell _ _ _ = w2
  have hse2 : w2.heap.size ≤ w1.heap.size ∧ w1.heap.size ≤ w2.heap.size := by rw [← hW]; simp [World.setCell]
  have hP2 : Blk w2 (w.heap.size) 47 v.cells := by rw [← hW]; exact ((HP1.out.far (show w.heap.size ≠ w.heap.size + 1 + 1 by omega) (.int .i64 u0.ver)).far (show w.heap.size ≠ w.heap.size + 1 + 1 by omega) (.slice u0.cardsA u0.cards.length u0.cardsc))
  have hR2 : Blk w2 (w.heap.size + 1) 40 gateZero := by rw [← hW]; exact ((HR1.out.far (show w.heap.size + 1 ≠ w.heap.size + 1 + 1 by omega) (.int .i64 u0.ver)).far (show w.heap.size + 1 ≠ w.heap.size + 1 + 1 by omega) (.slice u0.cardsA u0.cards.length u0.cardsc))
  have hO2 : Blk w2 (w.heap.size + 1 + 1) 40 ((#[.int .i64 v.val, .int .i64 v.nxt, .int .i64 0, .slice none 0 0, .slice none 0 0].setIfInBounds 2 (.int .i64 u0.ver)).setIfInBounds 3 (.slice u0.cardsA u0.cards.length u0.cardsc)) := by rw [← hW]; exact ((HO1.out.put 2 (.int .i64 u0.ver)).put 3 (.slice u0.cardsA u0.cards.length u0.cardsc))
  have hc2 : Below w.heap.size w w2 := by rw [← hW]; exact bS (bS (hc1) (by simp; omega) _) (by simp; omega) _
  have hz2 : w.heap.size + 1 + 1 < w2.heap.size := by rw [← hW]; simpa [World.setCell] using hz1
  have hi2 : Hid (GateIn w2 w2.heap.size v) := Lib.hid (Hi.out.over hc2)
  have ho0' := Lib.hid (by rw [← hW]; exact (ho0.out.touch (K := fun i => i = w.heap.size + 1 + 1) (Touch.far (K := fun i => i = w.heap.size + 1 + 1) (Touch.far (K := fun i => i = w.heap.size + 1 + 1) (Touch.refl _ _) (p := ⟨w.heap.size + 1 + 1, 2, none⟩) rfl _) (p := ⟨w.heap.size + 1 + 1, 3, none⟩) rfl _) (fun i hi e => by have := (ho0.out.lt i hi).1; omega)) : DenyOwn w2 w0.heap.size u0)
  clear ho0
  clear hW HP1 HR1 HO1 hc1 hz1
  clear p0 p1 p2 p3 p4
  clear q0 f0 q1 f1 q2 f2 q3 f3 q4 f4
  refine (toTapS_any v.keptA v.kept.length v.keptc v.kept _ (hi2.out.2).1 rfl hs.2).mono ?_
  rintro e w3 ⟨rfl, hn3, hb3⟩
  have ho1 := Lib.hid (own_of_starts (base := w2.heap.size) (n := v.kept.length) hn3 (length_flat tapCells 6 (fun _ => rfl) _) (Nat.le_refl _) (by have : v.kept.length ≤ 1048576 := hs.2; unfold maxLen; omega) (Nat.le_refl _))
  clear hn3
  have hc3 := bT hc2 hb3
  have HP3 := Lib.hid (hP2.belowAll hb3)
  have HR3 := Lib.hid (hR2.belowAll hb3)
  have HO3 := Lib.hid (hO2.belowAll hb3)
  have hz3 : w.heap.size + 1 + 1 < w3.heap.size := Nat.lt_of_lt_of_le hz2 hb3.size
  have ho0'_ := Lib.hid (ho0'.out.below hb3)
  clear ho0'
  have hzz2 : w.heap.size + 1 + 1 < w2.heap.size := hz2
  have hlo2 : w.heap.size ≤ w2.heap.size := by omega
  clear hP2 hR2 hO2 hc2 hi2 hb3
  obtain ⟨p0, p1, p2, p3, p4⟩ := gateCells HP3.out
  have q0 := HO3.out.cell 0
  have f0 := HO3.out.free 0
  have q1 := HO3.out.cell 1
  have f1 := HO3.out.free 1
  have q2 := HO3.out.cell 2
  have f2 := HO3.out.free 2
  have q3 := HO3.out.cell 3
  have f3 := HO3.out.free 3
  have q4 := HO3.out.cell 4
  have f4 := HO3.out.free 4
  simp only [gateZero, List.setIfInBounds_toArray, List.set_cons_zero, List.set_cons_succ, List.getElem?_toArray, List.getElem?_cons_zero, List.getElem?_cons_succ] at q0 q1 q2 q3 q4
  have r0 := HR3.out.cell 0
  have g0 := HR3.out.free 0
  have r1 := HR3.out.cell 1
  have g1 := HR3.out.free 1
  have r2 := HR3.out.cell 2
  have g2 := HR3.out.free 2
  have r3 := HR3.out.cell 3
  have g3 := HR3.out.free 3
  have r4 := HR3.out.cell 4
  have g4 := HR3.out.free 4
  simp only [gateZero, List.getElem?_toArray, List.getElem?_cons_zero, List.getElem?_cons_succ] at r0 r1 r2 r3 r4
  obtain ⟨u, hu⟩ : ∃ u : GateR, u = ⟨v.val, v.nxt, u0, some ⟨w2.heap.size, 0, none⟩, v.kept.length, v.kept⟩ := ⟨_, rfl⟩
  have huv : gateV u = .agg #[.int .i64 v.val, .int .i64 v.nxt, .int .i64 u0.ver, .slice u0.cardsA u0.cards.length u0.cardsc, .slice (some ⟨w2.heap.size, 0, none⟩) v.kept.length v.kept.length] := by rw [hu]; rfl
  have HU := Lib.hid hu; clear hu
  have HC := Lib.hid hc3; clear hc3
  go_wp2
  generalize hW : World.setCell _ _ _ = wf
  have hRf := (((((((HR3.out).far (p := ⟨w.heap.size + 1 + 1, 4, none⟩) (show w.heap.size + 1 ≠ w.heap.size + 1 + 1 by omega) (.slice (some ⟨w2.heap.size, 0, none⟩) v.kept.length v.kept.length)).put 0 (.int .i64 v.val)).put 1 (.int .i64 v.nxt)).put 2 (.int .i64 u0.ver)).put 3 (.slice u0.cardsA u0.cards.length u0.cardsc)).put 4 (.slice (some ⟨w2.heap.size, 0, none⟩) v.kept.length v.kept.length))
  rw [hW] at hRf
  have z0 := hRf.cell 0
  have z1 := hRf.cell 1
  have z2 := hRf.cell 2
  have z3 := hRf.cell 3
  have z4 := hRf.cell 4
  simp only [gateZero, List.setIfInBounds_toArray, List.set_cons_zero, List.set_cons_succ, List.getElem?_toArray, List.getElem?_cons_zero, List.getElem?_cons_succ] at z0 z1 z2 z3 z4
  have hcf : Below w.heap.size w wf := by rw [← hW]; exact (bS (bS (bS (bS (bS (bS HC.out (by simp <;> omega) _) (by simp <;> omega) _) (by simp <;> omega) _) (by simp <;> omega) _) (by simp <;> omega) _) (by simp <;> omega) _)
  have htf : Touch (fun i => i ≤ w.heap.size + 1 + 1) w3 wf := by rw [← hW]; exact (Touch.far (K := fun i => i ≤ w.heap.size + 1 + 1) (Touch.far (K := fun i => i ≤ w.heap.size + 1 + 1) (Touch.far (K := fun i => i ≤ w.heap.size + 1 + 1) (Touch.far (K := fun i => i ≤ w.heap.size + 1 + 1) (Touch.far (K := fun i => i ≤ w.heap.size + 1 + 1) (Touch.far (K := fun i => i ≤ w.heap.size + 1 + 1) (Touch.refl _ _) (p := ⟨w.heap.size + 1 + 1, 4, none⟩) (show w.heap.size + 1 + 1 ≤ w.heap.size + 1 + 1 by omega) _) (p := ⟨w.heap.size + 1, 0, none⟩) (show w.heap.size + 1 ≤ w.heap.size + 1 + 1 by omega) _) (p := ⟨w.heap.size + 1, 1, none⟩) (show w.heap.size + 1 ≤ w.heap.size + 1 + 1 by omega) _) (p := ⟨w.heap.size + 1, 2, none⟩) (show w.heap.size + 1 ≤ w.heap.size + 1 + 1 by omega) _) (p := ⟨w.heap.size + 1, 3, none⟩) (show w.heap.size + 1 ≤ w.heap.size + 1 + 1 by omega) _) (p := ⟨w.heap.size + 1, 4, none⟩) (show w.heap.size + 1 ≤ w.heap.size + 1 + 1 by omega) _)
  refine bodyPost_ret (v := gateV u) (by simp [results, Try.results35, go_sem, huv, z0, z1, z2, z3, z4]) rfl ⟨⟨u, rfl, ?_, ?_, ?_⟩, hcf⟩
  · rw [HU.out]; show (⟨v.val, v.nxt, u0.of, v.kept⟩ : Fares.Gate) = ⟨v.val, v.nxt, v.deny.of, v.kept⟩; first | rfl | rw [Hu0.out]
  · rw [HU.out]
    exact ⟨(ho0'_.out.touch htf (fun i hi e => by have := (ho0'_.out.lt i hi).1; omega)).base (by omega), ownBase (ownTouch ho1.out htf (fun i hi e => by have := (World.ownsRow.lt ho1.out i hi).1; omega)) (by omega), fun k h1 h2 => by have a1 := APLT0 k h1; have a2 := (World.ownsRow.lt ho1.out k h2); omega⟩
  · rw [HU.out]; exact ⟨Hv0.out, hs.2⟩
set_option maxRecDepth 100000 in
set_option maxHeartbeats 1000000 in
theorem eqGate_same (v u : GateR) (w : World) (hi : GateIn w w.heap.size v) (hj : GateIn w w.heap.size u) (hs : GateSmall v) (hs' : GateSmall u) (h : v.of = u.of) :
    Calls Try.prog 36 #[gateV v, gateV u] w fun e w' => e = .returned (.bool true) ∧ Below w.heap.size w w' := by
  have e_val : v.val = u.val := congrArg Fares.Gate.val h
  have e_nxt : v.nxt = u.nxt := congrArg Fares.Gate.nxt h
  have e_deny : v.deny.of = u.deny.of := congrArg Fares.Gate.deny h
  have e_kept : v.kept = u.kept := congrArg Fares.Gate.kept h
  have b_val : (v.val != u.val) = false := by simp [e_val]
  clear e_val
  have b_nxt : (v.nxt != u.nxt) = false := by simp [e_nxt]
  clear e_nxt
  have E_deny := Lib.hid e_deny; clear e_deny
  have E_kept := Lib.hid e_kept; clear e_kept
  clear h
  have Hi := Lib.hid hi; clear hi
  have Hj := Lib.hid hj; clear hj
  unfold gateV
  go_enter Try.func36, Try.ntmps36
  go_wp2_with fail
  generalize hW : World.alloc _ _ = w0
  have hA0 : Blk w0 w.heap.size 40 v.cells := by rw [← hW]; exact (Blk.new w _ _).alloc _
  have hB0 : Blk w0 (w.heap.size + 1) 40 u.cells := by rw [← hW]; exact Blk.new' (by simp)
  have hc0 : Below w.heap.size w w0 := by rw [← hW]; exact bA (bA (Below.refl _ _) _) _
  have hi0 := Lib.hid (Hi.out.over hc0)
  have hj0 := Lib.hid (Hj.out.over hc0)
  clear hW Hi Hj
  refine (eqDeny_same v.deny u.deny _ (hi0.out.1) (hj0.out.1) hs.1 hs'.1 E_deny.out).mono ?_
  rintro e w1 ⟨rfl, hb1⟩
  have hc1 := bT hc0 hb1
  have hA1 := hA0.belowAll hb1
  have hB1 := hB0.belowAll hb1
  have hi1 := Lib.hid (hi0.out.over hb1)
  have hj1 := Lib.hid (hj0.out.over hb1)
  clear hA0 hB0 hi0 hj0 hb1 hc0
  obtain ⟨a1_0, a1_1, a1_2, a1_3, a1_4⟩ := gateCells hA1
  obtain ⟨b1_0, b1_1, b1_2, b1_3, b1_4⟩ := gateCells hB1
  go_wp2_with fail
  refine (eqTapS_any v.keptA u.keptA v.kept.length u.kept.length v.keptc u.keptc v.kept u.kept _ (hi1.out.2).1 (hj1.out.2).1 rfl rfl (by have : v.kept.length ≤ 1048576 := hs.2; omega) (by have : u.kept.length ≤ 1048576 := hs'.2; omega)).mono ?_
  rintro e w2 ⟨rfl, hb2⟩
  rw [decide_eq_true E_kept.out]
  have hc2 := bT hc1 hb2
  have hA2 := hA1.belowAll hb2
  have hB2 := hB1.belowAll hb2
  have hi2 := Lib.hid (hi1.out.over hb2)
  have hj2 := Lib.hid (hj1.out.over hb2)
  clear hA1 hB1 hi1 hj1 hb2 hc1
  obtain ⟨a2_0, a2_1, a2_2, a2_3, a2_4⟩ := gateCells hA2
  obtain ⟨b2_0, b2_1, b2_2, b2_3, b2_4⟩ := gateCells hB2
  go_wp2
  go_ret
  exact ⟨rfl, hc2⟩
set_option maxRecDepth 100000 in
set_option maxHeartbeats 1000000 in
theorem equalGate_same (v u : GateR) (w : World) (hi : GateIn w w.heap.size v) (hj : GateIn w w.heap.size u) (hs : GateSmall v) (hs' : GateSmall u) (h : v.of = u.of) :
    Calls Try.prog 40 #[gateV v, gateV u] w fun e w' => e = .returned (.bool true) ∧ Below w.heap.size w w' := by
  have e_val : v.val = u.val := congrArg Fares.Gate.val h
  have e_nxt : v.nxt = u.nxt := congrArg Fares.Gate.nxt h
  have e_deny : v.deny.of = u.deny.of := congrArg Fares.Gate.deny h
  have e_kept : v.kept = u.kept := congrArg Fares.Gate.kept h
  have b_val : (v.val == u.val) = true := by simp [e_val]
  clear e_val
  have b_nxt : (v.nxt == u.nxt) = true := by simp [e_nxt]
  clear e_nxt
  have E_deny := Lib.hid e_deny; clear e_deny
  have E_kept := Lib.hid e_kept; clear e_kept
  clear h
  have Hi := Lib.hid hi; clear hi
  have Hj := Lib.hid hj; clear hj
  unfold gateV
  go_enter Try.func40, Try.ntmps40
  go_wp2_with fail
  generalize hW : World.alloc _ _ = w0
  have hA0 : Blk w0 w.heap.size 40 v.cells := by rw [← hW]; exact (Blk.new w _ _).alloc _
  have hB0 : Blk w0 (w.heap.size + 1) 40 u.cells := by rw [← hW]; exact Blk.new' (by simp)
  have hc0 : Below w.heap.size w w0 := by rw [← hW]; exact bA (bA (Below.refl _ _) _) _
  have hi0 := Lib.hid (Hi.out.over hc0)
  have hj0 := Lib.hid (Hj.out.over hc0)
  clear hW Hi Hj
  refine (equalDeny_same v.deny u.deny _ (hi0.out.1) (hj0.out.1) hs.1 hs'.1 E_deny.out).mono ?_
  rintro e w1 ⟨rfl, hb1⟩
  have hc1 := bT hc0 hb1
  have hA1 := hA0.belowAll hb1
  have hB1 := hB0.belowAll hb1
  have hi1 := Lib.hid (hi0.out.over hb1)
  have hj1 := Lib.hid (hj0.out.over hb1)
  clear hA0 hB0 hi0 hj0 hb1 hc0
  obtain ⟨a1_0, a1_1, a1_2, a1_3, a1_4⟩ := gateCells hA1
  obtain ⟨b1_0, b1_1, b1_2, b1_3, b1_4⟩ := gateCells hB1
  go_wp2_with fail
  refine (equalTaps_any v.keptA u.keptA v.kept.length u.kept.length v.keptc u.keptc v.kept u.kept _ (hi1.out.2).1 (hj1.out.2).1 rfl rfl (by have : v.kept.length ≤ 1048576 := hs.2; omega) (by have : u.kept.length ≤ 1048576 := hs'.2; omega)).mono ?_
  rintro e w2 ⟨rfl, hb2⟩
  rw [decide_eq_true E_kept.out]
  have hc2 := bT hc1 hb2
  have hA2 := hA1.belowAll hb2
  have hB2 := hB1.belowAll hb2
  have hi2 := Lib.hid (hi1.out.over hb2)
  have hj2 := Lib.hid (hj1.out.over hb2)
  clear hA1 hB1 hi1 hj1 hb2 hc1
  obtain ⟨a2_0, a2_1, a2_2, a2_3, a2_4⟩ := gateCells hA2
  obtain ⟨b2_0, b2_1, b2_2, b2_3, b2_4⟩ := gateCells hB2
  go_wp2
  go_ret
  exact ⟨rfl, hc2⟩
set_option maxRecDepth 100000 in
set_option maxHeartbeats 1000000 in
theorem markGate_own (lo : Nat) (v : GateR) (k : Int) (w : World) (h : GateOwn w lo v) (hs : GateSmall v) (hk0 : 0 ≤ k) (hk : k ≤ 20000000) :
    Calls Try.prog 43 #[gateV v, .int .i64 k] w fun e w' => e = .returned (.int .i64 (GateNext v k)) ∧ GateMarked w' lo v k ∧ Touch (GateBlocks v) w w' := by
  have Hh := Lib.hid h; clear h
  unfold gateV
  go_enter Try.func43, Try.ntmps43
  go_wp2_with fail
  generalize hW : World.alloc _ _ = w0
  have hP0 : Blk w0 w.heap.size 40 v.cells := by rw [← hW]; exact Blk.new w _ _
  have H0 : Hid (GateOwn w0 lo v) := Lib.hid (by rw [← hW]; exact Hh.out.up _)
  have hc0 : Below w.heap.size w w0 := by rw [← hW]; exact bA (Below.refl _ _) _
  have hbl : Hid (∀ i, GateBlocks v i → i < w.heap.size) := Lib.hid (fun i hi => ((Hh.out.lt i hi).2))
  clear hW
  have ht0 : Touch (GateBlocks v) w w0 := Touch.of_below hc0
  have s1 : v.kept.length ≤ 1048576 := hs.2
  obtain ⟨x0, x1, xa⟩ := H0.out
  have X0 := Lib.hid x0; clear x0
  have X1 := Lib.hid x1; clear x1
  have XA := Lib.hid xa; clear xa H0
  refine (markDeny_own lo v.deny (k) _ X0.out hs.1 (by omega) (by omega)).mono ?_
  rintro e w1 ⟨rfl, hm0, hw1⟩
  have nx0 := DenyNext_le v.deny (k) hs.1 (by omega)
  have M0 := Lib.hid hm0; clear hm0
  have hP1 := hP0.touch hw1 (fun e => by have := hbl.out _ (show GateBlocks v _ from by have hi := e; exact Or.inl hi); omega)
  have ht1 := ht0.trans (hw1.mono (fun i hi => (show GateBlocks v i from Or.inl hi)))
  have X1' := Lib.hid (ownTouch X1.out hw1 (fun i hi e => (XA.out i e hi))); clear X1; have X1 := X1'; clear X1'
  clear hP0 ht0 hw1 X0
  obtain ⟨p1_0, p1_1, p1_2, p1_3, p1_4⟩ := gateCells hP1
  go_wp2_with fail
  refine (markTapS_own lo _ v.kept.length _ (DenyNext v.deny (k)) _ X1.out hs.2 (by omega) (by omega)).mono ?_
  rintro e w2 ⟨rfl, hm1, hg2⟩
  have hw2 := Touch.of_grown hg2
  have M1 := Lib.hid hm1; clear hm1
  have hP2 := hP1.touch hw2 (fun e => by have := hbl.out _ (show GateBlocks v _ from by have hi := e; exact Or.inr (hi)); omega)
  have ht2 := ht1.trans (hw2.mono (fun i hi => (show GateBlocks v i from Or.inr (hi))))
  have M0' := Lib.hid (M0.out.touch hw2 (fun i hi e => (XA.out i hi e))); clear M0; have M0 := M0'; clear M0'
  clear hP1 ht1 hw2 hg2 X1
  obtain ⟨p2_0, p2_1, p2_2, p2_3, p2_4⟩ := gateCells hP2
  go_wp2
  go_ret
  exact ⟨ret_int (by unfold GateNext; omega), ⟨M0.out, M1.out, XA.out⟩, ht2⟩
set_option maxRecDepth 100000 in
set_option maxHeartbeats 1000000 in
theorem heldGate_own (lo : Nat) (v : GateR) (k : Int) (w : World) (h : GateMarked w lo v k) (hs : GateSmall v) (hk0 : 0 ≤ k) (hk : k ≤ 20000000) :
    Calls Try.prog 44 #[gateV v, .int .i64 k] w fun e w' => e = .returned (.int .i64 (GateNext v k)) ∧ Below w.heap.size w w' := by
  have Hh := Lib.hid h; clear h
  unfold gateV
  go_enter Try.func44, Try.ntmps44
  go_wp2_with fail
  generalize hW : World.alloc _ _ = w0
  have hP0 : Blk w0 w.heap.size 40 v.cells := by rw [← hW]; exact Blk.new w _ _
  have H0 : Hid (GateMarked w0 lo v k) := Lib.hid (by rw [← hW]; exact Hh.out.up _)
  have hc0 : Below w.heap.size w w0 := by rw [← hW]; exact bA (Below.refl _ _) _
  clear hW
  have s1 : v.kept.length ≤ 1048576 := hs.2
  obtain ⟨x0, x1, xa⟩ := H0.out
  have X0 := Lib.hid x0; clear x0
  have X1 := Lib.hid x1; clear x1
  have XA := Lib.hid xa; clear xa H0
  refine (heldDeny_own lo v.deny (k) _ X0.out hs.1 (by omega) (by omega)).mono ?_
  rintro e w1 ⟨rfl, hb1⟩
  have nx0 := DenyNext_le v.deny (k) hs.1 (by omega)
  have hP1 := hP0.belowAll hb1
  have hc1 := bT hc0 hb1
  have X1' := Lib.hid (own_below X1.out hb1); clear X1; have X1 := X1'; clear X1'
  clear hP0 hc0 hb1
  obtain ⟨p1_0, p1_1, p1_2, p1_3, p1_4⟩ := gateCells hP1
  have hd0 : decide (DenyNext v.deny (k) < 0) = false := by rw [decide_eq_false_iff_not]; omega
  go_wp2_with fail
  refine (heldTapS_own lo _ v.kept.length (DenyNext v.deny (k)) _ X1.out hs.2 (by omega) (by omega)).mono ?_
  rintro e w' ⟨rfl, rfl⟩
  have hd1 : decide (DenyNext v.deny (k) + (v.kept.length : Int) * 6 < 0) = false := by rw [decide_eq_false_iff_not]; omega
  go_wp2
  go_ret
  exact ⟨ret_int (by unfold GateNext; omega), hc1⟩
def gateFits (v : GateR) : Prop := fitsI v.val ∧ fitsI v.nxt ∧ denyFits v.deny ∧ (∀ x ∈ v.kept, tapFits x)
end Go.Proofs.Ytpijjlggmibfnaa
