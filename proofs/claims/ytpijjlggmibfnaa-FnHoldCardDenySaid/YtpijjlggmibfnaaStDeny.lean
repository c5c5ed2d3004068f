/-
  Deny: as it lies, and what the laws' helpers do with it.
-/
import Derived.Test.YtpijjlggmibfnaaComps
import Derived.Test.YtpijjlggmibfnaaTouch
import Derived.Test.YtpijjlggmibfnaaStInt
import Derived.WalkKit
import Derived.WalkSpells
import Derived.WalkLawsBesides
import Derived.Deep.QuietTactic
import Derived.StillTailTactics
set_option linter.unusedSimpArgs false
namespace Go.Proofs.Ytpijjlggmibfnaa
open Go.ChangeShapes Go.WideShapes Go.ChangeAt Go.RowKit Go.Deep
set_option linter.unusedVariables false
structure DenyR where
  ver : Int
  cardsA : Option Addr
  cardsc : Nat
  cards : List Int
def DenyR.of (v : DenyR) : Fares.Deny := ⟨v.ver, v.cards⟩
def DenyR.cells (v : DenyR) : Array Value := #[.int .i64 v.ver, .slice v.cardsA v.cards.length v.cardsc]
def denyV (v : DenyR) : Value := .agg #[.int .i64 v.ver, .slice v.cardsA v.cards.length v.cardsc]
def denyZero : Array Value := #[.int .i64 0, .slice none 0 0]
/-- Its lists lie below B. -/
def DenyIn (w : World) (B : Nat) (v : DenyR) : Prop := (Reads w B v.cardsA (v.cards.flatMap intCells) ∧ v.cards.length ≤ v.cardsc ∧ v.cardsc ≤ maxLen ∧ NilOk v.cardsA v.cards.length v.cardsc)
theorem DenyIn.up {w : World} {v : DenyR} (h : DenyIn w w.heap.size v) (o : Obj) : DenyIn (w.alloc o) (w.alloc o).heap.size v := ⟨readsUp h.1 o, h.2⟩
theorem DenyIn.over {w w' : World} {v : DenyR} (h : DenyIn w w.heap.size v) (hb : Below w.heap.size w w') : DenyIn w' w'.heap.size v := ⟨readsOver h.1 hb, h.2⟩
theorem DenyIn.drew {w : World} {v : DenyR} (h : DenyIn w w.heap.size v) : DenyIn w.drew w.drew.heap.size v := h
/-- Its lists are not too long. -/
def DenySmall (v : DenyR) : Prop := v.cards.length ≤ 1048576
def DenyBlocks (v : DenyR) (k : Nat) : Prop := (.slice v.cardsA v.cards.length v.cardsc : Value).ownBlock = some k
/-- Its lists own their memory, each its own. -/
def DenyApart (v : DenyR) : Prop := True
def DenyOwn (w : World) (lo : Nat) (v : DenyR) : Prop := w.ownsRow lo 3 1 (.slice v.cardsA v.cards.length v.cardsc) v.cards.length (v.cards.flatMap intCells) ∧ DenyApart v
def DenyNext (v : DenyR) (k : Int) : Int := k + (v.cards.length : Int)
def DenyMarked (w : World) (lo : Nat) (v : DenyR) (k : Int) : Prop := w.ownsRow lo 3 1 (.slice v.cardsA v.cards.length v.cardsc) v.cards.length (intMarks v.cards.length (k)) ∧ DenyApart v
theorem DenyOwn.lt {w : World} {lo : Nat} {v : DenyR} (h : DenyOwn w lo v) : ∀ k, DenyBlocks v k → lo ≤ k ∧ k < w.heap.size := fun k hk => by
  exact World.ownsRow.lt h.1 k hk
theorem DenyOwn.below {w w' : World} {lo : Nat} {v : DenyR} (h : DenyOwn w lo v) (hb : Below w.heap.size w w') : DenyOwn w' lo v := ⟨own_below h.1 hb, h.2⟩
theorem DenyOwn.touch {w w' : World} {lo : Nat} {v : DenyR} {K : Nat → Prop} (h : DenyOwn w lo v) (k : Touch K w w') (hk : ∀ i, DenyBlocks v i → ¬ K i) : DenyOwn w' lo v := ⟨ownTouch h.1 k (fun i hi => hk i (hi)), h.2⟩
theorem DenyOwn.base {w : World} {lo lo' : Nat} {v : DenyR} (h : DenyOwn w lo v) (hl : lo' ≤ lo) : DenyOwn w lo' v := ⟨ownBase h.1 hl, h.2⟩
theorem DenyOwn.drew {w : World} {lo : Nat} {v : DenyR} (h : DenyOwn w lo v) : DenyOwn w.drew lo v := h.below (bD1 (Below.refl _ _))
theorem DenyOwn.up {w : World} {lo : Nat} {v : DenyR} (h : DenyOwn w lo v) (o : Obj) : DenyOwn (w.alloc o) lo v := h.below (bA (Below.refl _ _) o)
theorem DenyMarked.below {w w' : World} {lo : Nat} {v : DenyR} {k : Int} (h : DenyMarked w lo v k) (hb : Below w.heap.size w w') : DenyMarked w' lo v k := ⟨own_below h.1 hb, h.2⟩
theorem DenyMarked.touch {w w' : World} {lo : Nat} {v : DenyR} {z : Int} {K : Nat → Prop} (h : DenyMarked w lo v z) (k : Touch K w w') (hk : ∀ i, DenyBlocks v i → ¬ K i) : DenyMarked w' lo v z := ⟨ownTouch h.1 k (fun i hi => hk i (hi)), h.2⟩
theorem DenyMarked.base {w : World} {lo lo' : Nat} {v : DenyR} {k : Int} (h : DenyMarked w lo v k) (hl : lo' ≤ lo) : DenyMarked w lo' v k := ⟨ownBase h.1 hl, h.2⟩
theorem DenyMarked.drew {w : World} {lo : Nat} {v : DenyR} {k : Int} (h : DenyMarked w lo v k) : DenyMarked w.drew lo v k := h.below (bD1 (Below.refl _ _))
theorem DenyMarked.up {w : World} {lo : Nat} {v : DenyR} {k : Int} (h : DenyMarked w lo v k) (o : Obj) : DenyMarked (w.alloc o) lo v k := h.below (bA (Below.refl _ _) o)
theorem OwnInts.reads'Deny {w : World} {lo c : Nat} {A : Option Addr} {xs : List Int} (h : w.ownsRow lo 3 1 (.slice A xs.length c) xs.length (xs.flatMap intCells)) : Reads w w.heap.size A (xs.flatMap intCells) := by
  obtain ⟨A', c', e, _, _, hr⟩ := OwnInts.form h
  injection e with e1 e2 e3
  subst e1
  exact hr
theorem DenyOwn.in_ {w : World} {lo : Nat} {v : DenyR} (h : DenyOwn w lo v) : DenyIn w w.heap.size v := ⟨OwnInts.reads'Deny h.1, (own_le h.1 rfl).1, (own_le h.1 rfl).2, own_nil_ h.1⟩
theorem denyCells {w : World} {b : Nat} {t : TypeId} {v : DenyR} (h : Blk w b t v.cells) : w.cell? ⟨b, 0, none⟩ = some (.int .i64 v.ver) ∧ w.cell? ⟨b, 1, none⟩ = some (.slice v.cardsA v.cards.length v.cardsc) :=
  ⟨Blk.cell h 0, Blk.cell h 1⟩
theorem DenyNext_le (v : DenyR) (k : Int) (hs : DenySmall v) (hk : 0 ≤ k) : k ≤ DenyNext v k ∧ DenyNext v k ≤ k + 1048576 := by
  unfold DenyNext
  have h0 : v.cards.length ≤ 1048576 := hs
  constructor <;> omega
set_option maxRecDepth 100000 in
set_option maxHeartbeats 1000000 in
theorem szDeny_any (v : DenyR) (k : Int) (w : World) (hi : DenyIn w w.heap.size v) (hk0 : 0 ≤ k) (hk : k ≤ 1048576) :
    Calls Try.prog 27 #[denyV v, .int .i64 k] w fun e w' => (∃ r : Int, e = .returned (.int .i64 r) ∧ -1 ≤ r ∧ r ≤ k ∧ (r < 0 ∨ (0 ≤ r ∧ DenySmall v))) ∧ Below w.heap.size w w' := by
  unfold denyV
  have Hi := Lib.hid hi; clear hi
  go_enter Try.func27, Try.ntmps27
  go_wp2_with fail
  generalize hW : World.alloc _ _ = w0
  have hP0 : Blk w0 w.heap.size 33 v.cells := by rw [← hW]; exact Blk.new w _ _
  have hi0 : Hid (DenyIn w0 w0.heap.size v) := Lib.hid (by rw [← hW]; exact Hi.out.up _)
  have hc0 : Below w.heap.size w w0 := by rw [← hW]; exact bA (Below.refl _ _) _
  clear hW Hi
  have L0 : v.cards.length ≤ v.cardsc ∧ v.cardsc ≤ maxLen := ⟨(hi0.out).2.1, (hi0.out).2.2.1⟩
  refine (szIntS_any v.cardsA v.cards.length v.cardsc (k) _ (by omega) (by omega) (Nat.le_trans L0.1 L0.2)).mono ?_
  rintro e w' ⟨rfl, rfl⟩
  by_cases z0 : k < v.cards.length
  · rw [if_pos (by omega)]
    go_wp2
    go_ret
    exact ⟨⟨-1, rfl, by omega, by omega, .inl (by omega)⟩, hc0⟩
  · rw [if_neg (by omega)]
    have hd0 : decide (k - (v.cards.length : Int) < 0) = false := by rw [decide_eq_false_iff_not]; omega
    go_wp2
    go_ret
    exact ⟨⟨k - (v.cards.length : Int), rfl, by omega, by omega, .inr ⟨by omega, (show v.cards.length ≤ 1048576 by omega)⟩⟩, hc0⟩
set_option maxRecDepth 100000 in
set_option maxHeartbeats 2000000 in
theorem toDeny_any (v : DenyR) (w : World) (hi : DenyIn w w.heap.size v) (hs : DenySmall v) :
    Calls Try.prog 28 #[denyV v] w fun e w' => (∃ u : DenyR, e = .returned (denyV u) ∧ u.of = v.of ∧ DenyOwn w' w.heap.size u ∧ DenySmall u) ∧ Below w.heap.size w w' := by
  have Hi := Lib.hid hi; clear hi
  unfold denyV
  go_enter Try.func28, Try.ntmps28
  go_wp2_with fail
  generalize hW : World.alloc _ _ = w0
  have hP0 : Blk w0 (w.heap.size) 33 v.cells := by rw [← hW]; exact ((Blk.new w 33 _).alloc _).alloc _
  have hR0 : Blk w0 (w.heap.size + 1) 30 denyZero := by rw [← hW]; exact (Blk.new' (t := 30) (cs := denyZero) (by simp)).alloc _
  have hO0 : Blk w0 (w.heap.size + 1 + 1) 30 #[.int .i64 v.ver, .slice none 0 0] := by rw [← hW]; exact Blk.new' (by simp)
  have hc0 : Below w.heap.size w w0 := by rw [← hW]; exact bA (bA (bA (Below.refl _ _) _) _) _
  have hz0 : w.heap.size + 1 + 1 < w0.heap.size := by rw [← hW]; simp
  have hi0 : Hid (DenyIn w0 w0.heap.size v) := Lib.hid (Hi.out.over hc0)
  clear hW
  refine (toIntS_any v.cardsA v.cards.length v.cardsc v.cards _ (hi0.out).1 rfl hs).mono ?_
  rintro e w1 ⟨rfl, hn1, hb1⟩
  have ho0 := Lib.hid (own_of_starts (base := w0.heap.size) (n := v.cards.length) hn1 (length_flat intCells 1 (fun _ => rfl) _) (Nat.le_refl _) (by have : v.cards.length ≤ 1048576 := hs; unfold maxLen; omega) (Nat.le_refl _))
  clear hn1
  have hc1 := bT hc0 hb1
  have HP1 := Lib.hid (hP0.belowAll hb1)
  have HR1 := Lib.hid (hR0.belowAll hb1)
  have HO1 := Lib.hid (hO0.belowAll hb1)
  have hz1 : w.heap.size + 1 + 1 < w1.heap.size := Nat.lt_of_lt_of_le hz0 hb1.size
  have hzz0 : w.heap.size + 1 + 1 < w0.heap.size := hz0
  have hlo0 : w.heap.size ≤ w0.heap.size := by omega
  clear hP0 hR0 hO0 hc0 hi0 hb1
  obtain ⟨p0, p1⟩ := denyCells HP1.out
  have q0 := HO1.out.cell 0
  have f0 := HO1.out.free 0
  have q1 := HO1.out.cell 1
  have f1 := HO1.out.free 1
  simp only [denyZero, List.setIfInBounds_toArray, List.set_cons_zero, List.set_cons_succ, List.getElem?_toArray, List.getElem?_cons_zero, List.getElem?_cons_succ] at q0 q1
  have r0 := HR1.out.cell 0
  have g0 := HR1.out.free 0
  have r1 := HR1.out.cell 1
  have g1 := HR1.out.free 1
  simp only [denyZero, List.getElem?_toArray, List.getElem?_cons_zero, List.getElem?_cons_succ] at r0 r1
  obtain ⟨u, hu⟩ : ∃ u : DenyR, u = ⟨v.ver, some ⟨w0.heap.size, 0, none⟩, v.cards.length, v.cards⟩ := ⟨_, rfl⟩
  have huv : denyV u = .agg #[.int .i64 v.ver, .slice (some ⟨w0.heap.size, 0, none⟩) v.cards.length v.cards.length] := by rw [hu]; rfl
  have HU := Lib.hid hu; clear hu
  have HC := Lib.hid hc1; clear hc1
  go_wp2
  generalize hW : World.setCell _ _ _ = wf
  have hRf := ((((HR1.out).far (p := ⟨w.heap.size + 1 + 1, 1, none⟩) (show w.heap.size + 1 ≠ w.heap.size + 1 + 1 by omega) (.slice (some ⟨w0.heap.size, 0, none⟩) v.cards.length v.cards.length)).put 0 (.int .i64 v.ver)).put 1 (.slice (some ⟨w0.heap.size, 0, none⟩) v.cards.length v.cards.length))
  rw [hW] at hRf
  have z0 := hRf.cell 0
  have z1 := hRf.cell 1
  simp only [denyZero, List.setIfInBounds_toArray, List.set_cons_zero, List.set_cons_succ, List.getElem?_toArray, List.getElem?_cons_zero, List.getElem?_cons_succ] at z0 z1
  have hcf : Below w.heap.size w wf := by rw [← hW]; exact (bS (bS (bS HC.out (by simp <;> omega) _) (by simp <;> omega) _) (by simp <;> omega) _)
  have htf : Touch (fun i => i ≤ w.heap.size + 1 + 1) w1 wf := by rw [← hW]; exact (Touch.far (K := fun i => i ≤ w.heap.size + 1 + 1) (Touch.far (K := fun i => i ≤ w.heap.size + 1 + 1) (Touch.far (K := fun i => i ≤ w.heap.size + 1 + 1) (Touch.refl _ _) (p := ⟨w.heap.size + 1 + 1, 1, none⟩) (show w.heap.size + 1 + 1 ≤ w.heap.size + 1 + 1 by omega) _) (p := ⟨w.heap.size + 1, 0, none⟩) (show w.heap.size + 1 ≤ w.heap.size + 1 + 1 by omega) _) (p := ⟨w.heap.size + 1, 1, none⟩) (show w.heap.size + 1 ≤ w.heap.size + 1 + 1 by omega) _)
  refine bodyPost_ret (v := denyV u) (by simp [results, Try.results28, go_sem, huv, z0, z1]) rfl ⟨⟨u, rfl, ?_, ?_, ?_⟩, hcf⟩
  · rw [HU.out]; show (⟨v.ver, v.cards⟩ : Fares.Deny) = ⟨v.ver, v.cards⟩; first | rfl | rw [HU.out]
  · rw [HU.out]
    exact ⟨ownBase (ownTouch ho0.out htf (fun i hi e => by have := (World.ownsRow.lt ho0.out i hi).1; omega)) (by omega), trivial⟩
  · rw [HU.out]; exact hs
set_option maxRecDepth 100000 in
set_option maxHeartbeats 1000000 in
theorem eqDeny_same (v u : DenyR) (w : World) (hi : DenyIn w w.heap.size v) (hj : DenyIn w w.heap.size u) (hs : DenySmall v) (hs' : DenySmall u) (h : v.of = u.of) :
    Calls Try.prog 29 #[denyV v, denyV u] w fun e w' => e = .returned (.bool true) ∧ Below w.heap.size w w' := by
  have e_ver : v.ver = u.ver := congrArg Fares.Deny.ver h
  have e_cards : v.cards = u.cards := congrArg Fares.Deny.cards h
  have b_ver : (v.ver != u.ver) = false := by simp [e_ver]
  clear e_ver
  have E_cards := Lib.hid e_cards; clear e_cards
  clear h
  have Hi := Lib.hid hi; clear hi
  have Hj := Lib.hid hj; clear hj
  unfold denyV
  go_enter Try.func29, Try.ntmps29
  go_wp2_with fail
  generalize hW : World.alloc _ _ = w0
  have hA0 : Blk w0 w.heap.size 30 v.cells := by rw [← hW]; exact (Blk.new w _ _).alloc _
  have hB0 : Blk w0 (w.heap.size + 1) 30 u.cells := by rw [← hW]; exact Blk.new' (by simp)
  have hc0 : Below w.heap.size w w0 := by rw [← hW]; exact bA (bA (Below.refl _ _) _) _
  have hi0 := Lib.hid (Hi.out.over hc0)
  have hj0 := Lib.hid (Hj.out.over hc0)
  clear hW Hi Hj
  refine (eqIntS_any v.cardsA u.cardsA v.cards.length u.cards.length v.cardsc u.cardsc v.cards u.cards _ (hi0.out).1 (hj0.out).1 rfl rfl (by have : v.cards.length ≤ 1048576 := hs; omega) (by have : u.cards.length ≤ 1048576 := hs'; omega)).mono ?_
  rintro e w1 ⟨rfl, hb1⟩
  rw [decide_eq_true E_cards.out]
  have hc1 := bT hc0 hb1
  have hA1 := hA0.belowAll hb1
  have hB1 := hB0.belowAll hb1
  have hi1 := Lib.hid (hi0.out.over hb1)
  have hj1 := Lib.hid (hj0.out.over hb1)
  clear hA0 hB0 hi0 hj0 hb1 hc0
  obtain ⟨a1_0, a1_1⟩ := denyCells hA1
  obtain ⟨b1_0, b1_1⟩ := denyCells hB1
  go_wp2
  go_ret
  exact ⟨rfl, hc1⟩
set_option maxRecDepth 100000 in
set_option maxHeartbeats 1000000 in
theorem equalDeny_same (v u : DenyR) (w : World) (hi : DenyIn w w.heap.size v) (hj : DenyIn w w.heap.size u) (hs : DenySmall v) (hs' : DenySmall u) (h : v.of = u.of) :
    Calls Try.prog 80 #[denyV v, denyV u] w fun e w' => e = .returned (.bool true) ∧ Below w.heap.size w w' := by
  have e_ver : v.ver = u.ver := congrArg Fares.Deny.ver h
  have e_cards : v.cards = u.cards := congrArg Fares.Deny.cards h
  have b_ver : (v.ver == u.ver) = true := by simp [e_ver]
  clear e_ver
  have E_cards := Lib.hid e_cards; clear e_cards
  clear h
  have Hi := Lib.hid hi; clear hi
  have Hj := Lib.hid hj; clear hj
  unfold denyV
  go_enter Try.func80, Try.ntmps80
  go_wp2_with fail
  generalize hW : World.alloc _ _ = w0
  have hA0 : Blk w0 w.heap.size 30 v.cells := by rw [← hW]; exact (Blk.new w _ _).alloc _
  have hB0 : Blk w0 (w.heap.size + 1) 30 u.cells := by rw [← hW]; exact Blk.new' (by simp)
  have hc0 : Below w.heap.size w w0 := by rw [← hW]; exact bA (bA (Below.refl _ _) _) _
  have hi0 := Lib.hid (Hi.out.over hc0)
  have hj0 := Lib.hid (Hj.out.over hc0)
  clear hW Hi Hj
  refine (equalInts_any v.cardsA u.cardsA v.cards.length u.cards.length v.cardsc u.cardsc v.cards u.cards _ (hi0.out).1 (hj0.out).1 rfl rfl (by have : v.cards.length ≤ 1048576 := hs; omega) (by have : u.cards.length ≤ 1048576 := hs'; omega)).mono ?_
  rintro e w1 ⟨rfl, hb1⟩
  rw [decide_eq_true E_cards.out]
  have hc1 := bT hc0 hb1
  have hA1 := hA0.belowAll hb1
  have hB1 := hB0.belowAll hb1
  have hi1 := Lib.hid (hi0.out.over hb1)
  have hj1 := Lib.hid (hj0.out.over hb1)
  clear hA0 hB0 hi0 hj0 hb1 hc0
  obtain ⟨a1_0, a1_1⟩ := denyCells hA1
  obtain ⟨b1_0, b1_1⟩ := denyCells hB1
  go_wp2
  go_ret
  exact ⟨rfl, hc1⟩
set_option maxRecDepth 100000 in
set_option maxHeartbeats 1000000 in
theorem markDeny_own (lo : Nat) (v : DenyR) (k : Int) (w : World) (h : DenyOwn w lo v) (hs : DenySmall v) (hk0 : 0 ≤ k) (hk : k ≤ 20000000) :
    Calls Try.prog 54 #[denyV v, .int .i64 k] w fun e w' => e = .returned (.int .i64 (DenyNext v k)) ∧ DenyMarked w' lo v k ∧ Touch (DenyBlocks v) w w' := by
  have Hh := Lib.hid h; clear h
  unfold denyV
  go_enter Try.func54, Try.ntmps54
  go_wp2_with fail
  generalize hW : World.alloc _ _ = w0
  have hP0 : Blk w0 w.heap.size 30 v.cells := by rw [← hW]; exact Blk.new w _ _
  have H0 : Hid (DenyOwn w0 lo v) := Lib.hid (by rw [← hW]; exact Hh.out.up _)
  have hc0 : Below w.heap.size w w0 := by rw [← hW]; exact bA (Below.refl _ _) _
  have hbl : Hid (∀ i, DenyBlocks v i → i < w.heap.size) := Lib.hid (fun i hi => ((Hh.out.lt i hi).2))
  clear hW
  have ht0 : Touch (DenyBlocks v) w w0 := Touch.of_below hc0
  have s0 : v.cards.length ≤ 1048576 := hs
  obtain ⟨x0, xa⟩ := H0.out
  have X0 := Lib.hid x0; clear x0
  have XA := Lib.hid xa; clear xa H0
  refine (markIntS_own lo _ v.cards.length _ (k) _ X0.out hs (by omega) (by omega)).mono ?_
  rintro e w1 ⟨rfl, hm0, hg1⟩
  have hw1 := Touch.of_grown hg1
  have M0 := Lib.hid hm0; clear hm0
  have hP1 := hP0.touch hw1 (fun e => by have := hbl.out _ (show DenyBlocks v _ from by have hi := e; exact hi); omega)
  have ht1 := ht0.trans (hw1.mono (fun i hi => (show DenyBlocks v i from hi)))
  clear hP0 ht0 hw1 hg1 X0
  obtain ⟨p1_0, p1_1⟩ := denyCells hP1
  go_wp2
  go_ret
  exact ⟨ret_int (by unfold DenyNext; omega), ⟨M0.out, XA.out⟩, ht1⟩
set_option maxRecDepth 100000 in
set_option maxHeartbeats 1000000 in
theorem heldDeny_own (lo : Nat) (v : DenyR) (k : Int) (w : World) (h : DenyMarked w lo v k) (hs : DenySmall v) (hk0 : 0 ≤ k) (hk : k ≤ 20000000) :
    Calls Try.prog 81 #[denyV v, .int .i64 k] w fun e w' => e = .returned (.int .i64 (DenyNext v k)) ∧ Below w.heap.size w w' := by
  have Hh := Lib.hid h; clear h
  unfold denyV
  go_enter Try.func81, Try.ntmps81
  go_wp2_with fail
  generalize hW : World.alloc _ _ = w0
  have hP0 : Blk w0 w.heap.size 30 v.cells := by rw [← hW]; exact Blk.new w _ _
  have H0 : Hid (DenyMarked w0 lo v k) := Lib.hid (by rw [← hW]; exact Hh.out.up _)
  have hc0 : Below w.heap.size w w0 := by rw [← hW]; exact bA (Below.refl _ _) _
  clear hW
  have s0 : v.cards.length ≤ 1048576 := hs
  obtain ⟨x0, xa⟩ := H0.out
  have X0 := Lib.hid x0; clear x0
  have XA := Lib.hid xa; clear xa H0
  refine (heldIntS_own lo _ v.cards.length (k) _ X0.out hs (by omega) (by omega)).mono ?_
  rintro e w' ⟨rfl, rfl⟩
  have hd0 : decide (k + (v.cards.length : Int) < 0) = false := by rw [decide_eq_false_iff_not]; omega
  go_wp2
  go_ret
  exact ⟨ret_int (by unfold DenyNext; omega), hc0⟩
def denyFits (v : DenyR) : Prop := fitsI v.ver ∧ (∀ x ∈ v.cards, fitsI x)
end Go.Proofs.Ytpijjlggmibfnaa
