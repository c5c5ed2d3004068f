/-
  Denied cards are not let in: at every code the law FnHoldCardDeny returns true. No conditions.
-/
import Derived.Test.YtpijjlggmibfnaaDrawsHold
import Derived.Test.YtpijjlggmibfnaaReg
import Derived.Test.YtpijjlggmibfnaaTakeFn
import Derived.Test.YtpijjlggmibfnaaLiftBytes
set_option linter.unusedSimpArgs false
namespace Go.Proofs.Ytpijjlggmibfnaa.fnHoldCardDeny
open Go.ChangeShapes Go.WideShapes Go.ChangeAt Go.RowKit Go.Deep
set_option linter.unusedVariables false

theorem Fares.validDeny_one (q : Int) (h0 : 0 ≤ q) (h1 : q ≤ 99) : Fares.validDeny ⟨999, [q]⟩ = true := by
  unfold Fares.validDeny
  rw [Bool.and_eq_true]
  refine ⟨by simp, Fares.ascends_true ⟨fun k a h => ?_, fun k a b h h' => ?_⟩⟩
  · rcases Nat.lt_or_ge k 1 with hk | hk
    · have e : k = 0 := by omega
      rw [e] at h
      have e2 : q = a := by simpa using h
      omega
    · rw [List.getElem?_eq_none (by simpa using hk)] at h; cases h
  · rw [List.getElem?_eq_none (by simp)] at h'; cases h'
theorem Fares.take_all (g : Fares.Gate) (q : Int) (hg : Fares.validGate g = true) (hn : g.deny.ver ≠ 999) (h0 : 0 ≤ q) (h1 : q ≤ 99) : Fares.takeDeny g ⟨999, [q]⟩ = ⟨g.val, g.nxt, ⟨999, [q]⟩, g.kept⟩ ∧ Fares.validGate ⟨g.val, g.nxt, ⟨999, [q]⟩, g.kept⟩ = true := by
  have hd := Fares.validDeny_one q h0 h1
  have h := hg
  unfold Fares.validGate at hg ⊢
  simp only [Bool.and_eq_true] at hg ⊢
  refine ⟨?_, ⟨⟨hg.1.1.1, hd⟩, hg.1.2⟩, hg.2⟩
  have hv := (Fares.validDeny_facts hg.1.1.2).2.1
  unfold Fares.takeDeny
  rw [if_pos ⟨h, hd⟩, if_pos (by show g.deny.ver < 999; omega)]
theorem Fares.hold_denied (g : Fares.Gate) (q m s : Int) (hg : Fares.validGate g = true) (hd : g.deny.cards = [q]) : (Fares.holdCard g q m s false).2 = false ∧ (Fares.cardOk q m s → (Fares.holdCard g q m s false).1 = g) := by
  have hs : Fares.stays g q false = true := by unfold Fares.stays Fares.isIn; rw [hd]; simp
  unfold Fares.holdCard
  by_cases hc : Fares.cardOk q m s
  · rw [if_pos ⟨hg, hc⟩, if_pos hs]; exact ⟨rfl, fun _ => rfl⟩
  · rw [if_neg (fun e => hc e.2)]; exact ⟨rfl, fun e => absurd e hc⟩
theorem reads_one {w : World} {b : Nat} {t : TypeId} {q : Int} (h : Blk w b t #[.int .i64 q]) : Reads w w.heap.size (some ⟨b, 0, none⟩) ([q].flatMap intCells) := fun _ => by
  refine ⟨_, rfl, h.lt, fun i u hu => ?_⟩
  rcases Nat.lt_or_ge i 1 with hi | hi
  · have e : i = 0 := by omega
    subst e
    have e2 : Value.int .i64 q = u := by simpa [intCells] using hu
    rw [← e2]
    exact h.cell 0
  · rw [List.getElem?_eq_none (by simpa [intCells] using hi)] at hu; cases hu
set_option maxRecDepth 100000 in
set_option maxHeartbeats 8000000 in
theorem walk (A : Option Addr) (n c : Nat) (w : World) (h : Bytes w w.heap.size A n c) : Calls Try.prog 12 #[.slice A n c] w (TrueBelow w) := by
  by_cases hn : 1048576 < n
  · go_enter Try.func12, Try.ntmps12
    go_wp2
    go_ret
    exact ⟨rfl, Below.refl _ _⟩
  · go_enter Try.func12, Try.ntmps12
    have Hh := Lib.hid h; clear h
    go_wp2_with fail
    refine (drawHoldCard_any A n c w Hh.out).mono ?_
    rintro e w0 ⟨u, q, m, st, o, rfl, hin0, hl1, hl2, hc0⟩
    have Hs := Lib.hid (show GateSmall u from ⟨Nat.le_trans hl1 (by omega), Nat.le_trans hl2 (by omega)⟩)
    have Hin0 := Lib.hid hin0; clear hin0
    unfold gateV
    have HB0 := Lib.hid hc0; clear hc0
    go_wp2_with fail
    generalize hW : World.alloc _ _ = w1
    have hbx1 : Blk w1 w0.heap.size 40 (GateR.cells u) := by rw [← hW]; exact Blk.new w0 _ _
    have hb1 : Below w0.heap.size w0 w1 := by rw [← hW]; exact bA (Below.refl _ _) _
    have hy1 : w0.heap.size < w1.heap.size := by rw [← hW]; simp
    clear hW
    have hz1 : w0.heap.size ≤ w1.heap.size := by have := hb1.size; (try simp at this); omega
    have HB1 := Lib.hid (bT HB0.out hb1)
    clear HB0
    have Hin1 := Lib.hid (GateIn.over Hin0.out hb1)
    clear Hin0
    clear hb1
    have Hbx1 := Lib.hid hbx1; clear hbx1
    have hct := implHoldCard_any u q m st o w1 Hin1.out Hs.out
    unfold gateV at hct
    have Hct := Lib.hid hct; clear hct
    refine (Hct.out).mono ?_
    rintro e w2 ⟨⟨uA, rfl, hofA, hownA, hsmA⟩, hb2⟩
    clear Hct
    have hz2 : w1.heap.size ≤ w2.heap.size := by have := hb2.size; (try simp at this); omega
    have HB2 := Lib.hid (bT HB1.out hb2)
    clear HB1
    have Hin2 := Lib.hid (GateIn.over Hin1.out hb2)
    clear Hin1
    have HG2 := Lib.hid (Blk.belowAll Hbx1.out hb2)
    clear Hbx1
    clear hb2
    have HofA := Lib.hid hofA; clear hofA
    have HsmA := Lib.hid hsmA; clear hsmA
    have LTA := Lib.hid (fun k hk => (GateOwn.lt hownA k hk).1)
    have UPA := Lib.hid (fun k hk => (GateOwn.lt hownA k hk).2)
    have HoA := Lib.hid hownA; clear hownA
    (try unfold gateV)
    have pfG2_0 : (w2.alloc (.cells #[.int .i64 uA.val, .int .i64 uA.nxt, .int .i64 uA.deny.ver, .slice uA.deny.cardsA uA.deny.cards.length uA.deny.cardsc, .slice uA.keptA uA.kept.length uA.keptc] 40)).cell? ⟨w0.heap.size, 0, none⟩ = some (.int .i64 u.val) := ((Blk.alloc HG2.out _)).cell 0
    have pfG2_1 : (w2.alloc (.cells #[.int .i64 uA.val, .int .i64 uA.nxt, .int .i64 uA.deny.ver, .slice uA.deny.cardsA uA.deny.cards.length uA.deny.cardsc, .slice uA.keptA uA.kept.length uA.keptc] 40)).cell? ⟨w0.heap.size, 1, none⟩ = some (.int .i64 u.nxt) := ((Blk.alloc HG2.out _)).cell 1
    have pfG2_2 : (w2.alloc (.cells #[.int .i64 uA.val, .int .i64 uA.nxt, .int .i64 uA.deny.ver, .slice uA.deny.cardsA uA.deny.cards.length uA.deny.cardsc, .slice uA.keptA uA.kept.length uA.keptc] 40)).cell? ⟨w0.heap.size, 2, none⟩ = some (.int .i64 u.deny.ver) := ((Blk.alloc HG2.out _)).cell 2
    have pfG2_3 : (w2.alloc (.cells #[.int .i64 uA.val, .int .i64 uA.nxt, .int .i64 uA.deny.ver, .slice uA.deny.cardsA uA.deny.cards.length uA.deny.cardsc, .slice uA.keptA uA.kept.length uA.keptc] 40)).cell? ⟨w0.heap.size, 3, none⟩ = some (.slice u.deny.cardsA u.deny.cards.length u.deny.cardsc) := ((Blk.alloc HG2.out _)).cell 3
    have pfG2_4 : (w2.alloc (.cells #[.int .i64 uA.val, .int .i64 uA.nxt, .int .i64 uA.deny.ver, .slice uA.deny.cardsA uA.deny.cards.length uA.deny.cardsc, .slice uA.keptA uA.kept.length uA.keptc] 40)).cell? ⟨w0.heap.size, 4, none⟩ = some (.slice u.keptA u.kept.length u.keptc) := ((Blk.alloc HG2.out _)).cell 4
    go_wp2_with fail
    generalize hW : World.alloc _ _ = w3
    have hbx3 : Blk w3 w2.heap.size 40 (GateR.cells uA) := by rw [← hW]; exact Blk.new w2 _ _
    have hb3 : Below w2.heap.size w2 w3 := by rw [← hW]; exact bA (Below.refl _ _) _
    have hy3 : w2.heap.size < w3.heap.size := by rw [← hW]; simp
    clear hW
    clear pfG2_0 pfG2_1 pfG2_2 pfG2_3 pfG2_4
    have hz3 : w2.heap.size ≤ w3.heap.size := by have := hb3.size; (try simp at this); omega
    have HB3 := Lib.hid (bT HB2.out hb3)
    clear HB2
    have Hin3 := Lib.hid (GateIn.over Hin2.out hb3)
    clear Hin2
    have HG3 := Lib.hid (Blk.belowAll HG2.out hb3)
    clear HG2
    have HA3 := Lib.hid (GateOwn.below HoA.out hb3)
    clear HoA
    clear hb3
    have Hbx3 := Lib.hid hbx3; clear hbx3
    have hct := specHoldCard_any u q m st o w3 Hin3.out Hs.out
    unfold gateV at hct
    have Hct := Lib.hid hct; clear hct
    refine (Hct.out).mono ?_
    rintro e w4 ⟨⟨uS, rfl, hofS, hownS, hsmS⟩, hb4⟩
    clear Hct
    have hz4 : w3.heap.size ≤ w4.heap.size := by have := hb4.size; (try simp at this); omega
    have HB4 := Lib.hid (bT HB3.out hb4)
    clear HB3
    have Hin4 := Lib.hid (GateIn.over Hin3.out hb4)
    clear Hin3
    have HG4 := Lib.hid (Blk.belowAll HG3.out hb4)
    clear HG3
    have HA4 := Lib.hid (GateOwn.below HA3.out hb4)
    clear HA3
    have HA14 := Lib.hid (Blk.belowAll Hbx3.out hb4)
    clear Hbx3
    clear hb4
    have HofS := Lib.hid hofS; clear hofS
    have HsmS := Lib.hid hsmS; clear hsmS
    have LTS := Lib.hid (fun k hk => (GateOwn.lt hownS k hk).1)
    have UPS := Lib.hid (fun k hk => (GateOwn.lt hownS k hk).2)
    have HoS := Lib.hid hownS; clear hownS
    (try unfold gateV)
    have pfA14_0 : (w4.alloc (.cells #[.int .i64 uS.val, .int .i64 uS.nxt, .int .i64 uS.deny.ver, .slice uS.deny.cardsA uS.deny.cards.length uS.deny.cardsc, .slice uS.keptA uS.kept.length uS.keptc] 40)).cell? ⟨w2.heap.size, 0, none⟩ = some (.int .i64 uA.val) := ((Blk.alloc HA14.out _)).cell 0
    have pfA14_1 : (w4.alloc (.cells #[.int .i64 uS.val, .int .i64 uS.nxt, .int .i64 uS.deny.ver, .slice uS.deny.cardsA uS.deny.cards.length uS.deny.cardsc, .slice uS.keptA uS.kept.length uS.keptc] 40)).cell? ⟨w2.heap.size, 1, none⟩ = some (.int .i64 uA.nxt) := ((Blk.alloc HA14.out _)).cell 1
    have pfA14_2 : (w4.alloc (.cells #[.int .i64 uS.val, .int .i64 uS.nxt, .int .i64 uS.deny.ver, .slice uS.deny.cardsA uS.deny.cards.length uS.deny.cardsc, .slice uS.keptA uS.kept.length uS.keptc] 40)).cell? ⟨w2.heap.size, 2, none⟩ = some (.int .i64 uA.deny.ver) := ((Blk.alloc HA14.out _)).cell 2
    have pfA14_3 : (w4.alloc (.cells #[.int .i64 uS.val, .int .i64 uS.nxt, .int .i64 uS.deny.ver, .slice uS.deny.cardsA uS.deny.cards.length uS.deny.cardsc, .slice uS.keptA uS.kept.length uS.keptc] 40)).cell? ⟨w2.heap.size, 3, none⟩ = some (.slice uA.deny.cardsA uA.deny.cards.length uA.deny.cardsc) := ((Blk.alloc HA14.out _)).cell 3
    have pfA14_4 : (w4.alloc (.cells #[.int .i64 uS.val, .int .i64 uS.nxt, .int .i64 uS.deny.ver, .slice uS.deny.cardsA uS.deny.cards.length uS.deny.cardsc, .slice uS.keptA uS.kept.length uS.keptc] 40)).cell? ⟨w2.heap.size, 4, none⟩ = some (.slice uA.keptA uA.kept.length uA.keptc) := ((Blk.alloc HA14.out _)).cell 4
    have pfG4_0 : (w4.alloc (.cells #[.int .i64 uS.val, .int .i64 uS.nxt, .int .i64 uS.deny.ver, .slice uS.deny.cardsA uS.deny.cards.length uS.deny.cardsc, .slice uS.keptA uS.kept.length uS.keptc] 40)).cell? ⟨w0.heap.size, 0, none⟩ = some (.int .i64 u.val) := ((Blk.alloc HG4.out _)).cell 0
    have pfG4_1 : (w4.alloc (.cells #[.int .i64 uS.val, .int .i64 uS.nxt, .int .i64 uS.deny.ver, .slice uS.deny.cardsA uS.deny.cards.length uS.deny.cardsc, .slice uS.keptA uS.kept.length uS.keptc] 40)).cell? ⟨w0.heap.size, 1, none⟩ = some (.int .i64 u.nxt) := ((Blk.alloc HG4.out _)).cell 1
    have pfG4_2 : (w4.alloc (.cells #[.int .i64 uS.val, .int .i64 uS.nxt, .int .i64 uS.deny.ver, .slice uS.deny.cardsA uS.deny.cards.length uS.deny.cardsc, .slice uS.keptA uS.kept.length uS.keptc] 40)).cell? ⟨w0.heap.size, 2, none⟩ = some (.int .i64 u.deny.ver) := ((Blk.alloc HG4.out _)).cell 2
    have pfG4_3 : (w4.alloc (.cells #[.int .i64 uS.val, .int .i64 uS.nxt, .int .i64 uS.deny.ver, .slice uS.deny.cardsA uS.deny.cards.length uS.deny.cardsc, .slice uS.keptA uS.kept.length uS.keptc] 40)).cell? ⟨w0.heap.size, 3, none⟩ = some (.slice u.deny.cardsA u.deny.cards.length u.deny.cardsc) := ((Blk.alloc HG4.out _)).cell 3
    have pfG4_4 : (w4.alloc (.cells #[.int .i64 uS.val, .int .i64 uS.nxt, .int .i64 uS.deny.ver, .slice uS.deny.cardsA uS.deny.cards.length uS.deny.cardsc, .slice uS.keptA uS.kept.length uS.keptc] 40)).cell? ⟨w0.heap.size, 4, none⟩ = some (.slice u.keptA u.kept.length u.keptc) := ((Blk.alloc HG4.out _)).cell 4
    go_wp2_with fail
    generalize hW : World.alloc _ _ = w5
    have hbx5 : Blk w5 w4.heap.size 40 (GateR.cells uS) := by rw [← hW]; exact Blk.new w4 _ _
    have hb5 : Below w4.heap.size w4 w5 := by rw [← hW]; exact bA (Below.refl _ _) _
    have hy5 : w4.heap.size < w5.heap.size := by rw [← hW]; simp
    clear hW
    clear pfA14_0 pfA14_1 pfA14_2 pfA14_3 pfA14_4 pfG4_0 pfG4_1 pfG4_2 pfG4_3 pfG4_4
    have hz5 : w4.heap.size ≤ w5.heap.size := by have := hb5.size; (try simp at this); omega
    have HB5 := Lib.hid (bT HB4.out hb5)
    clear HB4
    have Hin5 := Lib.hid (GateIn.over Hin4.out hb5)
    clear Hin4
    have HG5 := Lib.hid (Blk.belowAll HG4.out hb5)
    clear HG4
    have HA5 := Lib.hid (GateOwn.below HA4.out hb5)
    clear HA4
    have HA15 := Lib.hid (Blk.belowAll HA14.out hb5)
    clear HA14
    have HS5 := Lib.hid (GateOwn.below HoS.out hb5)
    clear HoS
    clear hb5
    have Hbx5 := Lib.hid hbx5; clear hbx5
    refine (equalGate_same uA uS _ (GateOwn.in_ HA5.out) (GateOwn.in_ HS5.out) HsmA.out HsmS.out (HofA.out.trans HofS.out.symm)).mono ?_
    rintro e w6 ⟨rfl, hb6⟩
    have hz6 : w5.heap.size ≤ w6.heap.size := by have := hb6.size; (try simp at this); omega
    have HB6 := Lib.hid (bT HB5.out hb6)
    clear HB5
    have Hin6 := Lib.hid (GateIn.over Hin5.out hb6)
    clear Hin5
    have HG6 := Lib.hid (Blk.belowAll HG5.out hb6)
    clear HG5
    have HA6 := Lib.hid (GateOwn.below HA5.out hb6)
    clear HA5
    have HA16 := Lib.hid (Blk.belowAll HA15.out hb6)
    clear HA15
    have HS6 := Lib.hid (GateOwn.below HS5.out hb6)
    clear HS5
    have HS16 := Lib.hid (Blk.belowAll Hbx5.out hb6)
    clear Hbx5
    clear hb6
    obtain ⟨cG6_0, cG6_1, cG6_2, cG6_3, cG6_4⟩ := gateCells (t := 40) (v := u) HG6.out
    obtain ⟨cA16_0, cA16_1, cA16_2, cA16_3, cA16_4⟩ := gateCells (t := 40) (v := uA) HA16.out
    obtain ⟨cS16_0, cS16_1, cS16_2, cS16_3, cS16_4⟩ := gateCells (t := 40) (v := uS) HS16.out
    obtain ⟨bt, hbt⟩ : ∃ bt, bt = (Fares.holdCard u.of q m st o).2 := ⟨_, rfl⟩
    rw [← hbt]
    have Hbt := Lib.hid hbt; clear hbt
    go_wp2_with fail
    refine (implValidGate_any u _ Hin6.out Hs.out).mono ?_
    rintro e w7 ⟨rfl, hb7⟩
    clear cG6_0 cG6_1 cG6_2 cG6_3 cG6_4 cA16_0 cA16_1 cA16_2 cA16_3 cA16_4 cS16_0 cS16_1 cS16_2 cS16_3 cS16_4
    have hz7 : w6.heap.size ≤ w7.heap.size := by have := hb7.size; (try simp at this); omega
    have HB7 := Lib.hid (bT HB6.out hb7)
    clear HB6
    have Hin7 := Lib.hid (GateIn.over Hin6.out hb7)
    clear Hin6
    have HG7 := Lib.hid (Blk.belowAll HG6.out hb7)
    clear HG6
    have HA7 := Lib.hid (GateOwn.below HA6.out hb7)
    clear HA6
    have HA17 := Lib.hid (Blk.belowAll HA16.out hb7)
    clear HA16
    have HS7 := Lib.hid (GateOwn.below HS6.out hb7)
    clear HS6
    have HS17 := Lib.hid (Blk.belowAll HS16.out hb7)
    clear HS16
    clear hb7
    obtain ⟨cG7_0, cG7_1, cG7_2, cG7_3, cG7_4⟩ := gateCells (t := 40) (v := u) HG7.out
    obtain ⟨cA17_0, cA17_1, cA17_2, cA17_3, cA17_4⟩ := gateCells (t := 40) (v := uA) HA17.out
    obtain ⟨cS17_0, cS17_1, cS17_2, cS17_3, cS17_4⟩ := gateCells (t := 40) (v := uS) HS17.out
    cases hv : Fares.validGate u.of
    · have HV := Lib.hid hv; clear hv
      go_wp2_with fail
      refine (equalGate_same uA uS _ (GateOwn.in_ HA7.out) (GateOwn.in_ HS7.out) HsmA.out HsmS.out (HofA.out.trans HofS.out.symm)).mono ?_
      rintro e w8 ⟨rfl, hb8⟩
      clear cG7_0 cG7_1 cG7_2 cG7_3 cG7_4 cA17_0 cA17_1 cA17_2 cA17_3 cA17_4 cS17_0 cS17_1 cS17_2 cS17_3 cS17_4
      have hz8 : w7.heap.size ≤ w8.heap.size := by have := hb8.size; (try simp at this); omega
      have HB8 := Lib.hid (bT HB7.out hb8)
      clear HB7
      have Hin8 := Lib.hid (GateIn.over Hin7.out hb8)
      clear Hin7
      have HG8 := Lib.hid (Blk.belowAll HG7.out hb8)
      clear HG7
      have HA8 := Lib.hid (GateOwn.below HA7.out hb8)
      clear HA7
      have HA18 := Lib.hid (Blk.belowAll HA17.out hb8)
      clear HA17
      have HS8 := Lib.hid (GateOwn.below HS7.out hb8)
      clear HS7
      have HS18 := Lib.hid (Blk.belowAll HS17.out hb8)
      clear HS17
      clear hb8
      go_wp2
      go_ret
      exact ⟨rfl, HB8.out⟩
    · have HV := Lib.hid hv; clear hv
      by_cases g0 : u.deny.ver ≠ 999
      · have d0 : (u.deny.ver == 999) = false := by rw [beq_eq_false_iff_ne]; exact g0
        by_cases g1 : 0 ≤ q
        · have d1 : decide (q < 0) = false := by rw [decide_eq_false_iff_not]; omega
          by_cases g2 : q ≤ 99
          · have d2 : decide (99 < q) = false := by rw [decide_eq_false_iff_not]; omega
            go_wp2_with fail
            generalize hW : World.alloc _ _ = w8
            have hbq : Blk w8 w7.heap.size 3 #[.int .i64 q] := by rw [← hW]; exact Blk.new w7 _ _
            have hb8 : Below w7.heap.size w7 w8 := by rw [← hW]; exact bA (Below.refl _ _) _
            have hy8 : w7.heap.size < w8.heap.size := by rw [← hW]; simp
            clear hW
            clear cG7_0 cG7_1 cG7_2 cG7_3 cG7_4 cA17_0 cA17_1 cA17_2 cA17_3 cA17_4 cS17_0 cS17_1 cS17_2 cS17_3 cS17_4
            have hz8 : w7.heap.size ≤ w8.heap.size := by have := hb8.size; (try simp at this); omega
            have HB8 := Lib.hid (bT HB7.out hb8)
            clear HB7
            have Hin8 := Lib.hid (GateIn.over Hin7.out hb8)
            clear Hin7
            have HG8 := Lib.hid (Blk.belowAll HG7.out hb8)
            clear HG7
            have HA8 := Lib.hid (GateOwn.below HA7.out hb8)
            clear HA7
            have HA18 := Lib.hid (Blk.belowAll HA17.out hb8)
            clear HA17
            have HS8 := Lib.hid (GateOwn.below HS7.out hb8)
            clear HS7
            have HS18 := Lib.hid (Blk.belowAll HS17.out hb8)
            clear HS17
            clear hb8
            have Hj := Lib.hid (show DenyIn w8 w8.heap.size (⟨999, some ⟨w7.heap.size, 0, none⟩, 1, [q]⟩ : DenyR) from ⟨reads_one hbq, by show 1 ≤ 1; omega, by show 1 ≤ maxLen; unfold maxLen; omega, fun e => by cases e⟩)
            clear hbq
            have hct := implTakeDeny_any u (⟨999, some ⟨w7.heap.size, 0, none⟩, 1, [q]⟩ : DenyR) w8 Hin8.out Hs.out Hj.out (show 1 ≤ 1048576 by omega)
            unfold gateV denyV at hct
            have Hct := Lib.hid hct; clear hct
            refine (Hct.out).mono ?_
            rintro e w9 ⟨⟨uT, rfl, hofT, hownT, hsmT⟩, hb9⟩
            clear Hct
            have hz9 : w8.heap.size ≤ w9.heap.size := by have := hb9.size; (try simp at this); omega
            have HB9 := Lib.hid (bT HB8.out hb9)
            clear HB8
            have Hin9 := Lib.hid (GateIn.over Hin8.out hb9)
            clear Hin8
            have HG9 := Lib.hid (Blk.belowAll HG8.out hb9)
            clear HG8
            have HA9 := Lib.hid (GateOwn.below HA8.out hb9)
            clear HA8
            have HA19 := Lib.hid (Blk.belowAll HA18.out hb9)
            clear HA18
            have HS9 := Lib.hid (GateOwn.below HS8.out hb9)
            clear HS8
            have HS19 := Lib.hid (Blk.belowAll HS18.out hb9)
            clear HS18
            clear hb9 Hj
            have hofT2 : uT.of = ⟨u.val, u.nxt, ⟨999, [q]⟩, u.kept⟩ := hofT.trans (Fares.take_all u.of q HV.out (show u.deny.ver ≠ 999 from g0) g1 g2).1
            clear hofT
            have HofT := Lib.hid hofT2; clear hofT2
            have HsmT := Lib.hid hsmT; clear hsmT
            have LTT := Lib.hid (fun k hk => (GateOwn.lt hownT k hk).1)
            have UPT := Lib.hid (fun k hk => (GateOwn.lt hownT k hk).2)
            have HoT := Lib.hid hownT; clear hownT
            (try unfold gateV)
            go_wp2_with fail
            generalize hW : World.alloc _ _ = w10
            have hbx10 : Blk w10 w9.heap.size 40 (GateR.cells uT) := by rw [← hW]; exact Blk.new w9 _ _
            have hb10 : Below w9.heap.size w9 w10 := by rw [← hW]; exact bA (Below.refl _ _) _
            have hy10 : w9.heap.size < w10.heap.size := by rw [← hW]; simp
            clear hW
            have hz10 : w9.heap.size ≤ w10.heap.size := by have := hb10.size; (try simp at this); omega
            have HB10 := Lib.hid (bT HB9.out hb10)
            clear HB9
            have Hin10 := Lib.hid (GateIn.over Hin9.out hb10)
            clear Hin9
            have HG10 := Lib.hid (Blk.belowAll HG9.out hb10)
            clear HG9
            have HA10 := Lib.hid (GateOwn.below HA9.out hb10)
            clear HA9
            have HA110 := Lib.hid (Blk.belowAll HA19.out hb10)
            clear HA19
            have HS10 := Lib.hid (GateOwn.below HS9.out hb10)
            clear HS9
            have HS110 := Lib.hid (Blk.belowAll HS19.out hb10)
            clear HS19
            have HT10 := Lib.hid (GateOwn.below HoT.out hb10)
            clear HoT
            clear hb10
            have Hbx10 := Lib.hid hbx10; clear hbx10
            have hct := implHoldCard_any uT q m st false w10 (GateOwn.in_ HT10.out) HsmT.out
            unfold gateV at hct
            have Hct := Lib.hid hct; clear hct
            refine (Hct.out).mono ?_
            rintro e w11 ⟨⟨uC, rfl, hofC, hownC, hsmC⟩, hb11⟩
            clear Hct
            have hz11 : w10.heap.size ≤ w11.heap.size := by have := hb11.size; (try simp at this); omega
            have HB11 := Lib.hid (bT HB10.out hb11)
            clear HB10
            have Hin11 := Lib.hid (GateIn.over Hin10.out hb11)
            clear Hin10
            have HG11 := Lib.hid (Blk.belowAll HG10.out hb11)
            clear HG10
            have HA11 := Lib.hid (GateOwn.below HA10.out hb11)
            clear HA10
            have HA111 := Lib.hid (Blk.belowAll HA110.out hb11)
            clear HA110
            have HS11 := Lib.hid (GateOwn.below HS10.out hb11)
            clear HS10
            have HS111 := Lib.hid (Blk.belowAll HS110.out hb11)
            clear HS110
            have HT11 := Lib.hid (GateOwn.below HT10.out hb11)
            clear HT10
            have HT111 := Lib.hid (Blk.belowAll Hbx10.out hb11)
            clear Hbx10
            clear hb11 hsmC
            have hd := Fares.hold_denied uT.of q m st (by rw [HofT.out]; exact (Fares.take_all u.of q HV.out (show u.deny.ver ≠ 999 from g0) g1 g2).2) (by rw [HofT.out])
            rw [hd.1]
            have HD := Lib.hid hd.2; clear hd
            have HofC := Lib.hid hofC; clear hofC
            have LTC := Lib.hid (fun k hk => (GateOwn.lt hownC k hk).1)
            have UPC := Lib.hid (fun k hk => (GateOwn.lt hownC k hk).2)
            have HoC := Lib.hid hownC; clear hownC
            (try unfold gateV)
            have pfT111_0 : (w11.alloc (.cells #[.int .i64 uC.val, .int .i64 uC.nxt, .int .i64 uC.deny.ver, .slice uC.deny.cardsA uC.deny.cards.length uC.deny.cardsc, .slice uC.keptA uC.kept.length uC.keptc] 40)).cell? ⟨w9.heap.size, 0, none⟩ = some (.int .i64 uT.val) := ((Blk.alloc HT111.out _)).cell 0
            have pfT111_1 : (w11.alloc (.cells #[.int .i64 uC.val, .int .i64 uC.nxt, .int .i64 uC.deny.ver, .slice uC.deny.cardsA uC.deny.cards.length uC.deny.cardsc, .slice uC.keptA uC.kept.length uC.keptc] 40)).cell? ⟨w9.heap.size, 1, none⟩ = some (.int .i64 uT.nxt) := ((Blk.alloc HT111.out _)).cell 1
            have pfT111_2 : (w11.alloc (.cells #[.int .i64 uC.val, .int .i64 uC.nxt, .int .i64 uC.deny.ver, .slice uC.deny.cardsA uC.deny.cards.length uC.deny.cardsc, .slice uC.keptA uC.kept.length uC.keptc] 40)).cell? ⟨w9.heap.size, 2, none⟩ = some (.int .i64 uT.deny.ver) := ((Blk.alloc HT111.out _)).cell 2
            have pfT111_3 : (w11.alloc (.cells #[.int .i64 uC.val, .int .i64 uC.nxt, .int .i64 uC.deny.ver, .slice uC.deny.cardsA uC.deny.cards.length uC.deny.cardsc, .slice uC.keptA uC.kept.length uC.keptc] 40)).cell? ⟨w9.heap.size, 3, none⟩ = some (.slice uT.deny.cardsA uT.deny.cards.length uT.deny.cardsc) := ((Blk.alloc HT111.out _)).cell 3
            have pfT111_4 : (w11.alloc (.cells #[.int .i64 uC.val, .int .i64 uC.nxt, .int .i64 uC.deny.ver, .slice uC.deny.cardsA uC.deny.cards.length uC.deny.cardsc, .slice uC.keptA uC.kept.length uC.keptc] 40)).cell? ⟨w9.heap.size, 4, none⟩ = some (.slice uT.keptA uT.kept.length uT.keptc) := ((Blk.alloc HT111.out _)).cell 4
            by_cases hx : uC.nxt = uT.nxt
            · have e1 : (uC.nxt == uT.nxt) = true := by rw [beq_iff_eq]; exact hx
              clear hx
              go_wp2
              go_ret
              exact ⟨rfl, bA HB11.out _⟩
            · have e1 : (uC.nxt == uT.nxt) = false := by rw [beq_eq_false_iff_ne]; exact hx
              have hc : ¬ Fares.cardOk q m st := fun hc => hx (congrArg Fares.Gate.nxt ((HofC.out).trans (HD.out hc)))
              clear hx
              by_cases k0 : 0 ≤ m
              · have l0 : decide (m < 0) = false := by rw [decide_eq_false_iff_not]; omega
                by_cases k1 : m ≤ 40319
                · have l1 : decide (40319 < m) = false := by rw [decide_eq_false_iff_not]; omega
                  by_cases k2 : 0 ≤ st
                  · have l2 : decide (st < 0) = false := by rw [decide_eq_false_iff_not]; omega
                    by_cases k3 : st ≤ 9
                    · have l3 : decide (10 ≤ st) = false := by rw [decide_eq_false_iff_not]; omega
                      exact absurd ⟨g1, g2, k0, k1, k2, k3⟩ hc
                    · have l3 : decide (10 ≤ st) = true := by rw [decide_eq_true_eq]; omega
                      go_wp2
                      go_ret
                      exact ⟨rfl, bA HB11.out _⟩
                  · have l2 : decide (st < 0) = true := by rw [decide_eq_true_eq]; omega
                    go_wp2
                    go_ret
                    exact ⟨rfl, bA HB11.out _⟩
                · have l1 : decide (40319 < m) = true := by rw [decide_eq_true_eq]; omega
                  go_wp2
                  go_ret
                  exact ⟨rfl, bA HB11.out _⟩
              · have l0 : decide (m < 0) = true := by rw [decide_eq_true_eq]; omega
                go_wp2
                go_ret
                exact ⟨rfl, bA HB11.out _⟩
          · have d2 : decide (99 < q) = true := by rw [decide_eq_true_eq]; omega
            go_wp2_with fail
            refine (equalGate_same uA uS _ (GateOwn.in_ HA7.out) (GateOwn.in_ HS7.out) HsmA.out HsmS.out (HofA.out.trans HofS.out.symm)).mono ?_
            rintro e w8 ⟨rfl, hb8⟩
            clear cG7_0 cG7_1 cG7_2 cG7_3 cG7_4 cA17_0 cA17_1 cA17_2 cA17_3 cA17_4 cS17_0 cS17_1 cS17_2 cS17_3 cS17_4
            have hz8 : w7.heap.size ≤ w8.heap.size := by have := hb8.size; (try simp at this); omega
            have HB8 := Lib.hid (bT HB7.out hb8)
            clear HB7
            have Hin8 := Lib.hid (GateIn.over Hin7.out hb8)
            clear Hin7
            have HG8 := Lib.hid (Blk.belowAll HG7.out hb8)
            clear HG7
            have HA8 := Lib.hid (GateOwn.below HA7.out hb8)
            clear HA7
            have HA18 := Lib.hid (Blk.belowAll HA17.out hb8)
            clear HA17
            have HS8 := Lib.hid (GateOwn.below HS7.out hb8)
            clear HS7
            have HS18 := Lib.hid (Blk.belowAll HS17.out hb8)
            clear HS17
            clear hb8
            go_wp2
            go_ret
            exact ⟨rfl, HB8.out⟩
        · have d1 : decide (q < 0) = true := by rw [decide_eq_true_eq]; omega
          go_wp2_with fail
          refine (equalGate_same uA uS _ (GateOwn.in_ HA7.out) (GateOwn.in_ HS7.out) HsmA.out HsmS.out (HofA.out.trans HofS.out.symm)).mono ?_
          rintro e w8 ⟨rfl, hb8⟩
          clear cG7_0 cG7_1 cG7_2 cG7_3 cG7_4 cA17_0 cA17_1 cA17_2 cA17_3 cA17_4 cS17_0 cS17_1 cS17_2 cS17_3 cS17_4
          have hz8 : w7.heap.size ≤ w8.heap.size := by have := hb8.size; (try simp at this); omega
          have HB8 := Lib.hid (bT HB7.out hb8)
          clear HB7
          have Hin8 := Lib.hid (GateIn.over Hin7.out hb8)
          clear Hin7
          have HG8 := Lib.hid (Blk.belowAll HG7.out hb8)
          clear HG7
          have HA8 := Lib.hid (GateOwn.below HA7.out hb8)
          clear HA7
          have HA18 := Lib.hid (Blk.belowAll HA17.out hb8)
          clear HA17
          have HS8 := Lib.hid (GateOwn.below HS7.out hb8)
          clear HS7
          have HS18 := Lib.hid (Blk.belowAll HS17.out hb8)
          clear HS17
          clear hb8
          go_wp2
          go_ret
          exact ⟨rfl, HB8.out⟩
      · have d0 : (u.deny.ver == 999) = true := by rw [beq_iff_eq]; omega
        go_wp2_with fail
        refine (equalGate_same uA uS _ (GateOwn.in_ HA7.out) (GateOwn.in_ HS7.out) HsmA.out HsmS.out (HofA.out.trans HofS.out.symm)).mono ?_
        rintro e w8 ⟨rfl, hb8⟩
        clear cG7_0 cG7_1 cG7_2 cG7_3 cG7_4 cA17_0 cA17_1 cA17_2 cA17_3 cA17_4 cS17_0 cS17_1 cS17_2 cS17_3 cS17_4
        have hz8 : w7.heap.size ≤ w8.heap.size := by have := hb8.size; (try simp at this); omega
        have HB8 := Lib.hid (bT HB7.out hb8)
        clear HB7
        have Hin8 := Lib.hid (GateIn.over Hin7.out hb8)
        clear Hin7
        have HG8 := Lib.hid (Blk.belowAll HG7.out hb8)
        clear HG7
        have HA8 := Lib.hid (GateOwn.below HA7.out hb8)
        clear HA7
        have HA18 := Lib.hid (Blk.belowAll HA17.out hb8)
        clear HA17
        have HS8 := Lib.hid (GateOwn.below HS7.out hb8)
        clear HS7
        have HS18 := Lib.hid (Blk.belowAll HS17.out hb8)
        clear HS17
        clear hb8
        go_wp2
        go_ret
        exact ⟨rfl, HB8.out⟩

set_option maxRecDepth 100000 in
theorem lifted (os : Os) (started : os.Started) (H : Type) (enc : TypeId × Value → H) :
    ReturnsInHanded {} Try.checked os 12 .any (Rows.fnHoldCardDenySpec.pre6 enc Try.prog Try.f12 Rows.fnHoldCardDenyRow.domain false) (Rows.fnHoldCardDenySpec.post enc Try.prog Try.f12 false true false false) := by
  refine returnsInHanded_of_change (C := Try.checked) Cells.own started (by kernel_rfl) Try.func12
    (ChangeSpec.witness6 (enc := enc) (C := Try.checked) false ⟨#[], #[.slice none 0 0], []⟩ 8 (by kernel_rfl) (by kernel_rfl) (by kernel_rfl) (by kernel_rfl)) ?_
  intro W base args ds gs before hval0 hW _ _
  have hval : ∀ (j : Nat) t v, Try.f12.params[j]? = some t → args[j]? = some v → Value.okWide Try.prog W .any base t v := hval0
  have hW' := hW
  obtain ⟨p, q, hA0, hV, rfl, _, _⟩ := hW
  have hA : DataW.TrodAll enc Try.prog W 0 (fun _ => true) true Try.f12.params.toList args.toList ds p := hA0
  rw [Try.params12] at hA hval
  obtain ⟨v0, d0, rfl, rfl, h0⟩ := trodAll_one hA
  obtain ⟨rfl, rfl⟩ := trodVars_none hV
  obtain ⟨a0, len, cap, rfl⟩ := okWide_slice Try.underlying22 (hval 0 22 v0 rfl rfl)
  clear hA0 hval0
  simp only [List.append_nil] at hW'
  obtain ⟨hb, hargs⟩ := opened h0 (fun x hx => by simpa using hW'.lt x hx)
  refine (walk a0 len cap W hb).mono fun e W' ⟨he, hnx⟩ => ?_
  subst he
  exact ⟨_, rfl, _, _, _, [], _, [], hW', trodAll_mk1 (shut_bool Try.underlying4 _), trodAll_mk1 (hargs _ hnx), rfl, hnx.frame _, fun h => by cases h⟩

theorem closed : joinedFacts Try.prog 12 Try.f12 Rows.fnHoldCardDenySpec Rows.fnHoldCardDenyRow = true := by
  unfold joinedFacts
  rw [Cells.laidOut, Cells.mapsRowed_, Cells.stops, Cells.stopKnobs, Cells.plainKeys, Cells.stopsHeard, Cells.mayEnter, Cells.liftsFinal, Cells.make]
  kernel_rfl

theorem over : Rows.fnHoldCardDenyRow.holds Try.pinned (OpenSpec.ofChange Rows.fnHoldCardDenySpec) :=
  OpenClaim.holds_of_wide 12 Try.f12 rfl rfl rfl rfl rfl rfl rfl ⟨rfl, rfl, rfl, rfl, rfl⟩ rfl rfl rfl rfl rfl (by kernel_rfl) Try.func12 closed
    (of_decide_eq_true (by kernel_rfl)) (by unfold Func.isWrapper; first | (rw [if_pos (by decide +kernel)]; kernel_rfl) | (rw [if_neg (by decide +kernel)]; exact ⟨rfl, rfl⟩))
    (fun os started H enc _ => lifted os started H enc)

/-- THE STATEMENT -/
theorem proved : Rows.FnHoldCardDenySaid := over
#print axioms proved
end Go.Proofs.Ytpijjlggmibfnaa.fnHoldCardDeny
