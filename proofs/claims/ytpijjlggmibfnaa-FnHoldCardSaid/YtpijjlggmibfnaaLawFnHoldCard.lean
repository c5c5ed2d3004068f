/-
  Who is let through with a tap has a tap: at every code the law FnHoldCard returns true. No conditions.
-/
import Derived.Test.YtpijjlggmibfnaaDrawsHold
import Derived.Test.YtpijjlggmibfnaaReg
import Derived.Test.YtpijjlggmibfnaaDenyCardFn
import Derived.Test.YtpijjlggmibfnaaLiftBytes
set_option linter.unusedSimpArgs false
namespace Go.Proofs.Ytpijjlggmibfnaa.fnHoldCard
open Go.ChangeShapes Go.WideShapes Go.ChangeAt Go.RowKit Go.Deep
set_option linter.unusedVariables false

theorem Fares.hold_stay (g : Fares.Gate) (c m s : Int) (o : Bool) (hg : Fares.validGate g = true) (hc : Fares.cardOk c m s) (h : Fares.stays g c o = true) : Fares.holdCard g c m s o = (g, o) := by
  unfold Fares.holdCard
  rw [if_pos ⟨hg, hc⟩, if_pos h]
theorem Fares.hold_more (g : Fares.Gate) (c m s : Int) (o : Bool) (hg : Fares.validGate g = true) (hc : Fares.cardOk c m s) (h : Fares.stays g c o = false) : Fares.holdCard g c m s o = (Fares.withTap g c m s o, true) := by
  unfold Fares.holdCard
  rw [if_pos ⟨hg, hc⟩, if_neg (by rw [h]; simp)]
set_option maxRecDepth 100000 in
set_option maxHeartbeats 8000000 in
theorem walk (A : Option Addr) (n c : Nat) (w : World) (h : Bytes w w.heap.size A n c) : Calls Try.prog 11 #[.slice A n c] w (TrueBelow w) := by
  by_cases hn : 1048576 < n
  · go_enter Try.func11, Try.ntmps11
    go_wp2
    go_ret
    exact ⟨rfl, Below.refl _ _⟩
  · go_enter Try.func11, Try.ntmps11
    have Hh := Lib.hid h; clear h
    go_wp2_with fail
    refine (drawHoldCard_any A n c w Hh.out).mono ?_
    rintro e w0 ⟨u, q, m, st, o, rfl, hin0, hl1, hl2, hc0⟩
    have Hs := Lib.hid (show GateSmall u from ⟨Nat.le_trans hl1 (by omega), Nat.le_trans hl2 (by omega)⟩)
    have Hin0 := Lib.hid hin0; clear hin0
    unfold gateV
    have HB0 := Lib.hid hc0; clear hc0
    go_wp2_with fail
    generalize hW : World.alloc _ _ = w1
    have hbx1 : Blk w1 w0.heap.size 40 (GateR.cells u) := by rw [← hW]; exact Blk.new w0 _ _
    have hb1 : Below w0.heap.size w0 w1 := by rw [← hW]; exact bA (Below.refl _ _) _
    have hy1 : w0.heap.size < w1.heap.size := by rw [← hW]; simp
    clear hW
    have hz1 : w0.heap.size ≤ w1.heap.size := by have := hb1.size; (try simp at this); omega
    have HB1 := Lib.hid (bT HB0.out hb1)
    clear HB0
    have Hin1 := Lib.hid (GateIn.over Hin0.out hb1)
    clear Hin0
    clear hb1
    have Hbx1 := Lib.hid hbx1; clear hbx1
    have hct := implHoldCard_any u q m st o w1 Hin1.out Hs.out
    unfold gateV at hct
    have Hct := Lib.hid hct; clear hct
    refine (Hct.out).mono ?_
    rintro e w2 ⟨⟨uA, rfl, hofA, hownA, hsmA⟩, hb2⟩
    clear Hct
    have hz2 : w1.heap.size ≤ w2.heap.size := by have := hb2.size; (try simp at this); omega
    have HB2 := Lib.hid (bT HB1.out hb2)
    clear HB1
    have Hin2 := Lib.hid (GateIn.over Hin1.out hb2)
    clear Hin1
    have HG2 := Lib.hid (Blk.belowAll Hbx1.out hb2)
    clear Hbx1
    clear hb2
    have HofA := Lib.hid hofA; clear hofA
    have HsmA := Lib.hid hsmA; clear hsmA
    have LTA := Lib.hid (fun k hk => (GateOwn.lt hownA k hk).1)
    have UPA := Lib.hid (fun k hk => (GateOwn.lt hownA k hk).2)
    have HoA := Lib.hid hownA; clear hownA
    (try unfold gateV)
    have pfG2_0 : (w2.alloc (.cells #[.int .i64 uA.val, .int .i64 uA.nxt, .int .i64 uA.deny.ver, .slice uA.deny.cardsA uA.deny.cards.length uA.deny.cardsc, .slice uA.keptA uA.kept.length uA.keptc] 40)).cell? ⟨w0.heap.size, 0, none⟩ = some (.int .i64 u.val) := ((Blk.alloc HG2.out _)).cell 0
    have pfG2_1 : (w2.alloc (.cells #[.int .i64 uA.val, .int .i64 uA.nxt, .int .i64 uA.deny.ver, .slice uA.deny.cardsA uA.deny.cards.length uA.deny.cardsc, .slice uA.keptA uA.kept.length uA.keptc] 40)).cell? ⟨w0.heap.size, 1, none⟩ = some (.int .i64 u.nxt) := ((Blk.alloc HG2.out _)).cell 1
    have pfG2_2 : (w2.alloc (.cells #[.int .i64 uA.val, .int .i64 uA.nxt, .int .i64 uA.deny.ver, .slice uA.deny.cardsA uA.deny.cards.length uA.deny.cardsc, .slice uA.keptA uA.kept.length uA.keptc] 40)).cell? ⟨w0.heap.size, 2, none⟩ = some (.int .i64 u.deny.ver) := ((Blk.alloc HG2.out _)).cell 2
    have pfG2_3 : (w2.alloc (.cells #[.int .i64 uA.val, .int .i64 uA.nxt, .int .i64 uA.deny.ver, .slice uA.deny.cardsA uA.deny.cards.length uA.deny.cardsc, .slice uA.keptA uA.kept.length uA.keptc] 40)).cell? ⟨w0.heap.size, 3, none⟩ = some (.slice u.deny.cardsA u.deny.cards.length u.deny.cardsc) := ((Blk.alloc HG2.out _)).cell 3
    have pfG2_4 : (w2.alloc (.cells #[.int .i64 uA.val, .int .i64 uA.nxt, .int .i64 uA.deny.ver, .slice uA.deny.cardsA uA.deny.cards.length uA.deny.cardsc, .slice uA.keptA uA.kept.length uA.keptc] 40)).cell? ⟨w0.heap.size, 4, none⟩ = some (.slice u.keptA u.kept.length u.keptc) := ((Blk.alloc HG2.out _)).cell 4
    go_wp2_with fail
    generalize hW : World.alloc _ _ = w3
    have hbx3 : Blk w3 w2.heap.size 40 (GateR.cells uA) := by rw [← hW]; exact Blk.new w2 _ _
    have hb3 : Below w2.heap.size w2 w3 := by rw [← hW]; exact bA (Below.refl _ _) _
    have hy3 : w2.heap.size < w3.heap.size := by rw [← hW]; simp
    clear hW
    clear pfG2_0 pfG2_1 pfG2_2 pfG2_3 pfG2_4
    have hz3 : w2.heap.size ≤ w3.heap.size := by have := hb3.size; (try simp at this); omega
    have HB3 := Lib.hid (bT HB2.out hb3)
    clear HB2
    have Hin3 := Lib.hid (GateIn.over Hin2.out hb3)
    clear Hin2
    have HG3 := Lib.hid (Blk.belowAll HG2.out hb3)
    clear HG2
    have HA3 := Lib.hid (GateOwn.below HoA.out hb3)
    clear HoA
    clear hb3
    have Hbx3 := Lib.hid hbx3; clear hbx3
    have hct := specHoldCard_any u q m st o w3 Hin3.out Hs.out
    unfold gateV at hct
    have Hct := Lib.hid hct; clear hct
    refine (Hct.out).mono ?_
    rintro e w4 ⟨⟨uS, rfl, hofS, hownS, hsmS⟩, hb4⟩
    clear Hct
    have hz4 : w3.heap.size ≤ w4.heap.size := by have := hb4.size; (try simp at this); omega
    have HB4 := Lib.hid (bT HB3.out hb4)
    clear HB3
    have Hin4 := Lib.hid (GateIn.over Hin3.out hb4)
    clear Hin3
    have HG4 := Lib.hid (Blk.belowAll HG3.out hb4)
    clear HG3
    have HA4 := Lib.hid (GateOwn.below HA3.out hb4)
    clear HA3
    have HA14 := Lib.hid (Blk.belowAll Hbx3.out hb4)
    clear Hbx3
    clear hb4
    have HofS := Lib.hid hofS; clear hofS
    have HsmS := Lib.hid hsmS; clear hsmS
    have LTS := Lib.hid (fun k hk => (GateOwn.lt hownS k hk).1)
    have UPS := Lib.hid (fun k hk => (GateOwn.lt hownS k hk).2)
    have HoS := Lib.hid hownS; clear hownS
    (try unfold gateV)
    have pfA14_0 : (w4.alloc (.cells #[.int .i64 uS.val, .int .i64 uS.nxt, .int .i64 uS.deny.ver, .slice uS.deny.cardsA uS.deny.cards.length uS.deny.cardsc, .slice uS.keptA uS.kept.length uS.keptc] 40)).cell? ⟨w2.heap.size, 0, none⟩ = some (.int .i64 uA.val) := ((Blk.alloc HA14.out _)).cell 0
    have pfA14_1 : (w4.alloc (.cells #[.int .i64 uS.val, .int .i64 uS.nxt, .int .i64 uS.deny.ver, .slice uS.deny.cardsA uS.deny.cards.length uS.deny.cardsc, .slice uS.keptA uS.kept.length uS.keptc] 40)).cell? ⟨w2.heap.size, 1, none⟩ = some (.int .i64 uA.nxt) := ((Blk.alloc HA14.out _)).cell 1
    have pfA14_2 : (w4.alloc (.cells #[.int .i64 uS.val, .int .i64 uS.nxt, .int .i64 uS.deny.ver, .slice uS.deny.cardsA uS.deny.cards.length uS.deny.cardsc, .slice uS.keptA uS.kept.length uS.keptc] 40)).cell? ⟨w2.heap.size, 2, none⟩ = some (.int .i64 uA.deny.ver) := ((Blk.alloc HA14.out _)).cell 2
    have pfA14_3 : (w4.alloc (.cells #[.int .i64 uS.val, .int .i64 uS.nxt, .int .i64 uS.deny.ver, .slice uS.deny.cardsA uS.deny.cards.length uS.deny.cardsc, .slice uS.keptA uS.kept.length uS.keptc] 40)).cell? ⟨w2.heap.size, 3, none⟩ = some (.slice uA.deny.cardsA uA.deny.cards.length uA.deny.cardsc) := ((Blk.alloc HA14.out _)).cell 3
    have pfA14_4 : (w4.alloc (.cells #[.int .i64 uS.val, .int .i64 uS.nxt, .int .i64 uS.deny.ver, .slice uS.deny.cardsA uS.deny.cards.length uS.deny.cardsc, .slice uS.keptA uS.kept.length uS.keptc] 40)).cell? ⟨w2.heap.size, 4, none⟩ = some (.slice uA.keptA uA.kept.length uA.keptc) := ((Blk.alloc HA14.out _)).cell 4
    have pfG4_0 : (w4.alloc (.cells #[.int .i64 uS.val, .int .i64 uS.nxt, .int .i64 uS.deny.ver, .slice uS.deny.cardsA uS.deny.cards.length uS.deny.cardsc, .slice uS.keptA uS.kept.length uS.keptc] 40)).cell? ⟨w0.heap.size, 0, none⟩ = some (.int .i64 u.val) := ((Blk.alloc HG4.out _)).cell 0
    have pfG4_1 : (w4.alloc (.cells #[.int .i64 uS.val, .int .i64 uS.nxt, .int .i64 uS.deny.ver, .slice uS.deny.cardsA uS.deny.cards.length uS.deny.cardsc, .slice uS.keptA uS.kept.length uS.keptc] 40)).cell? ⟨w0.heap.size, 1, none⟩ = some (.int .i64 u.nxt) := ((Blk.alloc HG4.out _)).cell 1
    have pfG4_2 : (w4.alloc (.cells #[.int .i64 uS.val, .int .i64 uS.nxt, .int .i64 uS.deny.ver, .slice uS.deny.cardsA uS.deny.cards.length uS.deny.cardsc, .slice uS.keptA uS.kept.length uS.keptc] 40)).cell? ⟨w0.heap.size, 2, none⟩ = some (.int .i64 u.deny.ver) := ((Blk.alloc HG4.out _)).cell 2
    have pfG4_3 : (w4.alloc (.cells #[.int .i64 uS.val, .int .i64 uS.nxt, .int .i64 uS.deny.ver, .slice uS.deny.cardsA uS.deny.cards.length uS.deny.cardsc, .slice uS.keptA uS.kept.length uS.keptc] 40)).cell? ⟨w0.heap.size, 3, none⟩ = some (.slice u.deny.cardsA u.deny.cards.length u.deny.cardsc) := ((Blk.alloc HG4.out _)).cell 3
    have pfG4_4 : (w4.alloc (.cells #[.int .i64 uS.val, .int .i64 uS.nxt, .int .i64 uS.deny.ver, .slice uS.deny.cardsA uS.deny.cards.length uS.deny.cardsc, .slice uS.keptA uS.kept.length uS.keptc] 40)).cell? ⟨w0.heap.size, 4, none⟩ = some (.slice u.keptA u.kept.length u.keptc) := ((Blk.alloc HG4.out _)).cell 4
    go_wp2_with fail
    generalize hW : World.alloc _ _ = w5
    have hbx5 : Blk w5 w4.heap.size 40 (GateR.cells uS) := by rw [← hW]; exact Blk.new w4 _ _
    have hb5 : Below w4.heap.size w4 w5 := by rw [← hW]; exact bA (Below.refl _ _) _
    have hy5 : w4.heap.size < w5.heap.size := by rw [← hW]; simp
    clear hW
    clear pfA14_0 pfA14_1 pfA14_2 pfA14_3 pfA14_4 pfG4_0 pfG4_1 pfG4_2 pfG4_3 pfG4_4
    have hz5 : w4.heap.size ≤ w5.heap.size := by have := hb5.size; (try simp at this); omega
    have HB5 := Lib.hid (bT HB4.out hb5)
    clear HB4
    have Hin5 := Lib.hid (GateIn.over Hin4.out hb5)
    clear Hin4
    have HG5 := Lib.hid (Blk.belowAll HG4.out hb5)
    clear HG4
    have HA5 := Lib.hid (GateOwn.below HA4.out hb5)
    clear HA4
    have HA15 := Lib.hid (Blk.belowAll HA14.out hb5)
    clear HA14
    have HS5 := Lib.hid (GateOwn.below HoS.out hb5)
    clear HoS
    clear hb5
    have Hbx5 := Lib.hid hbx5; clear hbx5
    refine (equalGate_same uA uS _ (GateOwn.in_ HA5.out) (GateOwn.in_ HS5.out) HsmA.out HsmS.out (HofA.out.trans HofS.out.symm)).mono ?_
    rintro e w6 ⟨rfl, hb6⟩
    have hz6 : w5.heap.size ≤ w6.heap.size := by have := hb6.size; (try simp at this); omega
    have HB6 := Lib.hid (bT HB5.out hb6)
    clear HB5
    have Hin6 := Lib.hid (GateIn.over Hin5.out hb6)
    clear Hin5
    have HG6 := Lib.hid (Blk.belowAll HG5.out hb6)
    clear HG5
    have HA6 := Lib.hid (GateOwn.below HA5.out hb6)
    clear HA5
    have HA16 := Lib.hid (Blk.belowAll HA15.out hb6)
    clear HA15
    have HS6 := Lib.hid (GateOwn.below HS5.out hb6)
    clear HS5
    have HS16 := Lib.hid (Blk.belowAll Hbx5.out hb6)
    clear Hbx5
    clear hb6
    obtain ⟨cG6_0, cG6_1, cG6_2, cG6_3, cG6_4⟩ := gateCells (t := 40) (v := u) HG6.out
    obtain ⟨cA16_0, cA16_1, cA16_2, cA16_3, cA16_4⟩ := gateCells (t := 40) (v := uA) HA16.out
    obtain ⟨cS16_0, cS16_1, cS16_2, cS16_3, cS16_4⟩ := gateCells (t := 40) (v := uS) HS16.out
    obtain ⟨bt, hbt⟩ : ∃ bt, bt = (Fares.holdCard u.of q m st o).2 := ⟨_, rfl⟩
    rw [← hbt]
    have Hbt := Lib.hid hbt; clear hbt
    go_wp2_with fail
    refine (implValidGate_any u _ Hin6.out Hs.out).mono ?_
    rintro e w7 ⟨rfl, hb7⟩
    clear cG6_0 cG6_1 cG6_2 cG6_3 cG6_4 cA16_0 cA16_1 cA16_2 cA16_3 cA16_4 cS16_0 cS16_1 cS16_2 cS16_3 cS16_4
    have hz7 : w6.heap.size ≤ w7.heap.size := by have := hb7.size; (try simp at this); omega
    have HB7 := Lib.hid (bT HB6.out hb7)
    clear HB6
    have Hin7 := Lib.hid (GateIn.over Hin6.out hb7)
    clear Hin6
    have HG7 := Lib.hid (Blk.belowAll HG6.out hb7)
    clear HG6
    have HA7 := Lib.hid (GateOwn.below HA6.out hb7)
    clear HA6
    have HA17 := Lib.hid (Blk.belowAll HA16.out hb7)
    clear HA16
    have HS7 := Lib.hid (GateOwn.below HS6.out hb7)
    clear HS6
    have HS17 := Lib.hid (Blk.belowAll HS16.out hb7)
    clear HS16
    clear hb7
    obtain ⟨cG7_0, cG7_1, cG7_2, cG7_3, cG7_4⟩ := gateCells (t := 40) (v := u) HG7.out
    obtain ⟨cA17_0, cA17_1, cA17_2, cA17_3, cA17_4⟩ := gateCells (t := 40) (v := uA) HA17.out
    obtain ⟨cS17_0, cS17_1, cS17_2, cS17_3, cS17_4⟩ := gateCells (t := 40) (v := uS) HS17.out
    cases hv : Fares.validGate u.of
    · have HV := Lib.hid hv; clear hv
      go_wp2_with fail
      refine (equalGate_same uA uS _ (GateOwn.in_ HA7.out) (GateOwn.in_ HS7.out) HsmA.out HsmS.out (HofA.out.trans HofS.out.symm)).mono ?_
      rintro e w8 ⟨rfl, hb8⟩
      clear cG7_0 cG7_1 cG7_2 cG7_3 cG7_4 cA17_0 cA17_1 cA17_2 cA17_3 cA17_4 cS17_0 cS17_1 cS17_2 cS17_3 cS17_4
      have hz8 : w7.heap.size ≤ w8.heap.size := by have := hb8.size; (try simp at this); omega
      have HB8 := Lib.hid (bT HB7.out hb8)
      clear HB7
      have Hin8 := Lib.hid (GateIn.over Hin7.out hb8)
      clear Hin7
      have HG8 := Lib.hid (Blk.belowAll HG7.out hb8)
      clear HG7
      have HA8 := Lib.hid (GateOwn.below HA7.out hb8)
      clear HA7
      have HA18 := Lib.hid (Blk.belowAll HA17.out hb8)
      clear HA17
      have HS8 := Lib.hid (GateOwn.below HS7.out hb8)
      clear HS7
      have HS18 := Lib.hid (Blk.belowAll HS17.out hb8)
      clear HS17
      clear hb8
      go_wp2
      go_ret
      exact ⟨rfl, HB8.out⟩
    · have HV := Lib.hid hv; clear hv
      by_cases g0 : 0 ≤ q
      · have d0 : decide (q < 0) = false := by rw [decide_eq_false_iff_not]; omega
        by_cases g1 : q ≤ 99
        · have d1 : decide (99 < q) = false := by rw [decide_eq_false_iff_not]; omega
          by_cases g2 : 0 ≤ m
          · have d2 : decide (m < 0) = false := by rw [decide_eq_false_iff_not]; omega
            by_cases g3 : m ≤ 40319
            · have d3 : decide (40319 < m) = false := by rw [decide_eq_false_iff_not]; omega
              by_cases g4 : 0 ≤ st
              · have d4 : decide (st < 0) = false := by rw [decide_eq_false_iff_not]; omega
                by_cases g5 : st ≤ 9
                · have d5 : decide (10 ≤ st) = false := by rw [decide_eq_false_iff_not]; omega
                  have HC := Lib.hid (show Fares.cardOk q m st from ⟨g0, g1, g2, g3, g4, g5⟩)
                  obtain ⟨f0, f1, f2, f3, f4, f5⟩ := Fares.validGate_facts HV.out
                  have f2' : 0 ≤ u.nxt := f2
                  have f3' : u.nxt ≤ 1000 := f3
                  have f4' : u.kept.length ≤ 10 := f4
                  clear f0 f1 f2 f3 f4 f5
                  cases hs : Fares.stays u.of q o
                  · have hm := Fares.hold_more u.of q m st o HV.out HC.out hs
                    have hof := HofA.out
                    have hbt := Hbt.out
                    rw [hm] at hof hbt
                    have hn : uA.nxt = u.nxt + 1 := congrArg Fares.Gate.nxt hof
                    have hk : uA.kept = u.kept ++ [⟨u.val, u.nxt, q, m, st, o⟩] := congrArg Fares.Gate.kept hof
                    have hlen : uA.kept.length = u.kept.length + 1 := by rw [hk]; simp
                    have hlast : uA.kept[u.kept.length]? = some ⟨u.val, u.nxt, q, m, st, o⟩ := by rw [hk]; simp
                    have hbt' : bt = true := hbt
                    clear hof hbt hm hk
                    subst hbt'
                    have Hs2 := Lib.hid hs; clear hs
                    have Hlast := Lib.hid hlast; clear hlast
                    have e1 : (uA.nxt == u.nxt) = false := by rw [beq_eq_false_iff_ne, hn]; omega
                    have e3 : (uA.nxt == u.nxt + 1) = true := by rw [beq_iff_eq]; exact hn
                    clear hn
                    have e2 : (((u.kept.length : Int) + 1) == 0) = false := by rw [beq_eq_false_iff_ne]; omega
                    have i0 : (0 : Int) ≤ (u.kept.length : Int) := by omega
                    have i1 : (u.kept.length : Int) < (u.kept.length : Int) + 1 := by omega
                    obtain ⟨b1, o1, eA, hb1, hrow⟩ := Taps.row (show Taps _ _ uA.keptA uA.kept from (GateOwn.in_ HA7.out).2.1) (by omega)
                    obtain ⟨p0, p1, p2, p3, p4, p5⟩ := hrow _ _ Hlast.out
                    clear hrow
                    cases o with
                    | true =>
                      have pfG7_0 : (w7.alloc (.cells #[.int .i64 u.val, .int .i64 u.nxt, .int .i64 q, .int .i64 m, .int .i64 st, .bool true] 57)).cell? ⟨w0.heap.size, 0, none⟩ = some (.int .i64 u.val) := ((Blk.alloc HG7.out _)).cell 0
                      have pfG7_1 : (w7.alloc (.cells #[.int .i64 u.val, .int .i64 u.nxt, .int .i64 q, .int .i64 m, .int .i64 st, .bool true] 57)).cell? ⟨w0.heap.size, 1, none⟩ = some (.int .i64 u.nxt) := ((Blk.alloc HG7.out _)).cell 1
                      have pfG7_2 : (w7.alloc (.cells #[.int .i64 u.val, .int .i64 u.nxt, .int .i64 q, .int .i64 m, .int .i64 st, .bool true] 57)).cell? ⟨w0.heap.size, 2, none⟩ = some (.int .i64 u.deny.ver) := ((Blk.alloc HG7.out _)).cell 2
                      have pfG7_3 : (w7.alloc (.cells #[.int .i64 u.val, .int .i64 u.nxt, .int .i64 q, .int .i64 m, .int .i64 st, .bool true] 57)).cell? ⟨w0.heap.size, 3, none⟩ = some (.slice u.deny.cardsA u.deny.cards.length u.deny.cardsc) := ((Blk.alloc HG7.out _)).cell 3
                      have pfG7_4 : (w7.alloc (.cells #[.int .i64 u.val, .int .i64 u.nxt, .int .i64 q, .int .i64 m, .int .i64 st, .bool true] 57)).cell? ⟨w0.heap.size, 4, none⟩ = some (.slice u.keptA u.kept.length u.keptc) := ((Blk.alloc HG7.out _)).cell 4
                      have pfA17_0 : (w7.alloc (.cells #[.int .i64 u.val, .int .i64 u.nxt, .int .i64 q, .int .i64 m, .int .i64 st, .bool true] 57)).cell? ⟨w2.heap.size, 0, none⟩ = some (.int .i64 uA.val) := ((Blk.alloc HA17.out _)).cell 0
                      have pfA17_1 : (w7.alloc (.cells #[.int .i64 u.val, .int .i64 u.nxt, .int .i64 q, .int .i64 m, .int .i64 st, .bool true] 57)).cell? ⟨w2.heap.size, 1, none⟩ = some (.int .i64 uA.nxt) := ((Blk.alloc HA17.out _)).cell 1
                      have pfA17_2 : (w7.alloc (.cells #[.int .i64 u.val, .int .i64 u.nxt, .int .i64 q, .int .i64 m, .int .i64 st, .bool true] 57)).cell? ⟨w2.heap.size, 2, none⟩ = some (.int .i64 uA.deny.ver) := ((Blk.alloc HA17.out _)).cell 2
                      have pfA17_3 : (w7.alloc (.cells #[.int .i64 u.val, .int .i64 u.nxt, .int .i64 q, .int .i64 m, .int .i64 st, .bool true] 57)).cell? ⟨w2.heap.size, 3, none⟩ = some (.slice uA.deny.cardsA uA.deny.cards.length uA.deny.cardsc) := ((Blk.alloc HA17.out _)).cell 3
                      have pfA17_4 : (w7.alloc (.cells #[.int .i64 u.val, .int .i64 u.nxt, .int .i64 q, .int .i64 m, .int .i64 st, .bool true] 57)).cell? ⟨w2.heap.size, 4, none⟩ = some (.slice uA.keptA uA.kept.length uA.keptc) := ((Blk.alloc HA17.out _)).cell 4
                      go_wp2_with fail
                      generalize hW : World.alloc _ _ = w8
                      have hbT : Blk w8 w7.heap.size 57 #[.int .i64 u.val, .int .i64 u.nxt, .int .i64 q, .int .i64 m, .int .i64 st, .bool true] := by rw [← hW]; exact Blk.new w7 _ _
                      have hb8 : Below w7.heap.size w7 w8 := by rw [← hW]; exact bA (Below.refl _ _) _
                      have hy8 : w7.heap.size < w8.heap.size := by rw [← hW]; simp
                      clear hW p0 p1 p2 p3 p4 p5
                      clear cG7_0 cG7_1 cG7_2 cG7_3 cG7_4 cA17_0 cA17_1 cA17_2 cA17_3 cA17_4 cS17_0 cS17_1 cS17_2 cS17_3 cS17_4 pfG7_0 pfG7_1 pfG7_2 pfG7_3 pfG7_4 pfA17_0 pfA17_1 pfA17_2 pfA17_3 pfA17_4
                      have hz8 : w7.heap.size ≤ w8.heap.size := by have := hb8.size; (try simp at this); omega
                      have HB8 := Lib.hid (bT HB7.out hb8)
                      clear HB7
                      have Hin8 := Lib.hid (GateIn.over Hin7.out hb8)
                      clear Hin7
                      have HG8 := Lib.hid (Blk.belowAll HG7.out hb8)
                      clear HG7
                      have HA8 := Lib.hid (GateOwn.below HA7.out hb8)
                      clear HA7
                      have HA18 := Lib.hid (Blk.belowAll HA17.out hb8)
                      clear HA17
                      have HS8 := Lib.hid (GateOwn.below HS7.out hb8)
                      clear HS7
                      have HS18 := Lib.hid (Blk.belowAll HS17.out hb8)
                      clear HS17
                      clear hb8
                      have HbT := Lib.hid hbT; clear hbT
                      go_wp2
                      go_ret
                      exact ⟨rfl, HB8.out⟩
                    | false =>
                      have pfG7_0 : (w7.alloc (.cells #[.int .i64 u.val, .int .i64 u.nxt, .int .i64 q, .int .i64 m, .int .i64 st, .bool false] 57)).cell? ⟨w0.heap.size, 0, none⟩ = some (.int .i64 u.val) := ((Blk.alloc HG7.out _)).cell 0
                      have pfG7_1 : (w7.alloc (.cells #[.int .i64 u.val, .int .i64 u.nxt, .int .i64 q, .int .i64 m, .int .i64 st, .bool false] 57)).cell? ⟨w0.heap.size, 1, none⟩ = some (.int .i64 u.nxt) := ((Blk.alloc HG7.out _)).cell 1
                      have pfG7_2 : (w7.alloc (.cells #[.int .i64 u.val, .int .i64 u.nxt, .int .i64 q, .int .i64 m, .int .i64 st, .bool false] 57)).cell? ⟨w0.heap.size, 2, none⟩ = some (.int .i64 u.deny.ver) := ((Blk.alloc HG7.out _)).cell 2
                      have pfG7_3 : (w7.alloc (.cells #[.int .i64 u.val, .int .i64 u.nxt, .int .i64 q, .int .i64 m, .int .i64 st, .bool false] 57)).cell? ⟨w0.heap.size, 3, none⟩ = some (.slice u.deny.cardsA u.deny.cards.length u.deny.cardsc) := ((Blk.alloc HG7.out _)).cell 3
                      have pfG7_4 : (w7.alloc (.cells #[.int .i64 u.val, .int .i64 u.nxt, .int .i64 q, .int .i64 m, .int .i64 st, .bool false] 57)).cell? ⟨w0.heap.size, 4, none⟩ = some (.slice u.keptA u.kept.length u.keptc) := ((Blk.alloc HG7.out _)).cell 4
                      have pfA17_0 : (w7.alloc (.cells #[.int .i64 u.val, .int .i64 u.nxt, .int .i64 q, .int .i64 m, .int .i64 st, .bool false] 57)).cell? ⟨w2.heap.size, 0, none⟩ = some (.int .i64 uA.val) := ((Blk.alloc HA17.out _)).cell 0
                      have pfA17_1 : (w7.alloc (.cells #[.int .i64 u.val, .int .i64 u.nxt, .int .i64 q, .int .i64 m, .int .i64 st, .bool false] 57)).cell? ⟨w2.heap.size, 1, none⟩ = some (.int .i64 uA.nxt) := ((Blk.alloc HA17.out _)).cell 1
                      have pfA17_2 : (w7.alloc (.cells #[.int .i64 u.val, .int .i64 u.nxt, .int .i64 q, .int .i64 m, .int .i64 st, .bool false] 57)).cell? ⟨w2.heap.size, 2, none⟩ = some (.int .i64 uA.deny.ver) := ((Blk.alloc HA17.out _)).cell 2
                      have pfA17_3 : (w7.alloc (.cells #[.int .i64 u.val, .int .i64 u.nxt, .int .i64 q, .int .i64 m, .int .i64 st, .bool false] 57)).cell? ⟨w2.heap.size, 3, none⟩ = some (.slice uA.deny.cardsA uA.deny.cards.length uA.deny.cardsc) := ((Blk.alloc HA17.out _)).cell 3
                      have pfA17_4 : (w7.alloc (.cells #[.int .i64 u.val, .int .i64 u.nxt, .int .i64 q, .int .i64 m, .int .i64 st, .bool false] 57)).cell? ⟨w2.heap.size, 4, none⟩ = some (.slice uA.keptA uA.kept.length uA.keptc) := ((Blk.alloc HA17.out _)).cell 4
                      go_wp2_with fail
                      generalize hW : World.alloc _ _ = w8
                      have hbT : Blk w8 w7.heap.size 57 #[.int .i64 u.val, .int .i64 u.nxt, .int .i64 q, .int .i64 m, .int .i64 st, .bool false] := by rw [← hW]; exact Blk.new w7 _ _
                      have hb8 : Below w7.heap.size w7 w8 := by rw [← hW]; exact bA (Below.refl _ _) _
                      have hy8 : w7.heap.size < w8.heap.size := by rw [← hW]; simp
                      clear hW p0 p1 p2 p3 p4 p5
                      clear cG7_0 cG7_1 cG7_2 cG7_3 cG7_4 cA17_0 cA17_1 cA17_2 cA17_3 cA17_4 cS17_0 cS17_1 cS17_2 cS17_3 cS17_4 pfG7_0 pfG7_1 pfG7_2 pfG7_3 pfG7_4 pfA17_0 pfA17_1 pfA17_2 pfA17_3 pfA17_4
                      have hz8 : w7.heap.size ≤ w8.heap.size := by have := hb8.size; (try simp at this); omega
                      have HB8 := Lib.hid (bT HB7.out hb8)
                      clear HB7
                      have Hin8 := Lib.hid (GateIn.over Hin7.out hb8)
                      clear Hin7
                      have HG8 := Lib.hid (Blk.belowAll HG7.out hb8)
                      clear HG7
                      have HA8 := Lib.hid (GateOwn.below HA7.out hb8)
                      clear HA7
                      have HA18 := Lib.hid (Blk.belowAll HA17.out hb8)
                      clear HA17
                      have HS8 := Lib.hid (GateOwn.below HS7.out hb8)
                      clear HS7
                      have HS18 := Lib.hid (Blk.belowAll HS17.out hb8)
                      clear HS17
                      clear hb8
                      have HbT := Lib.hid hbT; clear hbT
                      refine (lawisIn_any u.deny.cardsA u.deny.cards.length u.deny.cardsc u.deny.cards q _ (Hin8.out).1.1 rfl (by have := Hs.out.1; unfold DenySmall at this; omega)).mono ?_
                      rintro e w' ⟨rfl, rfl⟩
                      have hin : Fares.isIn u.deny.cards q = false := by have h := Hs2.out; unfold Fares.stays at h; have h2 : ((Fares.isIn u.deny.cards q && !false) || decide (u.kept.length = 10) || decide (999 < u.nxt)) = false := h; cases hq : Fares.isIn u.deny.cards q; rfl; rw [hq] at h2; simp at h2
                      rw [hin]
                      go_wp2
                      go_ret
                      exact ⟨rfl, HB8.out⟩
                  · have hm := Fares.hold_stay u.of q m st o HV.out HC.out hs
                    have hof := HofA.out
                    have hbt := Hbt.out
                    rw [hm] at hof hbt
                    have hbt' : bt = o := hbt
                    have hn : uA.nxt = u.nxt := congrArg Fares.Gate.nxt hof
                    have Hu := Lib.hid (show uA.of = u.of from hof)
                    clear hof hbt hm
                    subst hbt'
                    clear hs
                    have e1 : (uA.nxt == u.nxt) = true := by rw [beq_iff_eq]; exact hn
                    clear hn
                    go_wp2_with fail
                    refine (equalGate_same uA u _ (GateOwn.in_ HA7.out) Hin7.out HsmA.out Hs.out Hu.out).mono ?_
                    rintro e w8 ⟨rfl, hb8⟩
                    clear cG7_0 cG7_1 cG7_2 cG7_3 cG7_4 cA17_0 cA17_1 cA17_2 cA17_3 cA17_4 cS17_0 cS17_1 cS17_2 cS17_3 cS17_4
                    have hz8 : w7.heap.size ≤ w8.heap.size := by have := hb8.size; (try simp at this); omega
                    have HB8 := Lib.hid (bT HB7.out hb8)
                    clear HB7
                    have Hin8 := Lib.hid (GateIn.over Hin7.out hb8)
                    clear Hin7
                    have HG8 := Lib.hid (Blk.belowAll HG7.out hb8)
                    clear HG7
                    have HA8 := Lib.hid (GateOwn.below HA7.out hb8)
                    clear HA7
                    have HA18 := Lib.hid (Blk.belowAll HA17.out hb8)
                    clear HA17
                    have HS8 := Lib.hid (GateOwn.below HS7.out hb8)
                    clear HS7
                    have HS18 := Lib.hid (Blk.belowAll HS17.out hb8)
                    clear HS17
                    clear hb8
                    go_wp2
                    go_ret
                    exact ⟨rfl, HB8.out⟩
                · have d5 : decide (10 ≤ st) = true := by rw [decide_eq_true_eq]; omega
                  go_wp2_with fail
                  refine (equalGate_same uA uS _ (GateOwn.in_ HA7.out) (GateOwn.in_ HS7.out) HsmA.out HsmS.out (HofA.out.trans HofS.out.symm)).mono ?_
                  rintro e w8 ⟨rfl, hb8⟩
                  clear cG7_0 cG7_1 cG7_2 cG7_3 cG7_4 cA17_0 cA17_1 cA17_2 cA17_3 cA17_4 cS17_0 cS17_1 cS17_2 cS17_3 cS17_4
                  have hz8 : w7.heap.size ≤ w8.heap.size := by have := hb8.size; (try simp at this); omega
                  have HB8 := Lib.hid (bT HB7.out hb8)
                  clear HB7
                  have Hin8 := Lib.hid (GateIn.over Hin7.out hb8)
                  clear Hin7
                  have HG8 := Lib.hid (Blk.belowAll HG7.out hb8)
                  clear HG7
                  have HA8 := Lib.hid (GateOwn.below HA7.out hb8)
                  clear HA7
                  have HA18 := Lib.hid (Blk.belowAll HA17.out hb8)
                  clear HA17
                  have HS8 := Lib.hid (GateOwn.below HS7.out hb8)
                  clear HS7
                  have HS18 := Lib.hid (Blk.belowAll HS17.out hb8)
                  clear HS17
                  clear hb8
                  go_wp2
                  go_ret
                  exact ⟨rfl, HB8.out⟩
              · have d4 : decide (st < 0) = true := by rw [decide_eq_true_eq]; omega
                go_wp2_with fail
                refine (equalGate_same uA uS _ (GateOwn.in_ HA7.out) (GateOwn.in_ HS7.out) HsmA.out HsmS.out (HofA.out.trans HofS.out.symm)).mono ?_
                rintro e w8 ⟨rfl, hb8⟩
                clear cG7_0 cG7_1 cG7_2 cG7_3 cG7_4 cA17_0 cA17_1 cA17_2 cA17_3 cA17_4 cS17_0 cS17_1 cS17_2 cS17_3 cS17_4
                have hz8 : w7.heap.size ≤ w8.heap.size := by have := hb8.size; (try simp at this); omega
                have HB8 := Lib.hid (bT HB7.out hb8)
                clear HB7
                have Hin8 := Lib.hid (GateIn.over Hin7.out hb8)
                clear Hin7
                have HG8 := Lib.hid (Blk.belowAll HG7.out hb8)
                clear HG7
                have HA8 := Lib.hid (GateOwn.below HA7.out hb8)
                clear HA7
                have HA18 := Lib.hid (Blk.belowAll HA17.out hb8)
                clear HA17
                have HS8 := Lib.hid (GateOwn.below HS7.out hb8)
                clear HS7
                have HS18 := Lib.hid (Blk.belowAll HS17.out hb8)
                clear HS17
                clear hb8
                go_wp2
                go_ret
                exact ⟨rfl, HB8.out⟩
            · have d3 : decide (40319 < m) = true := by rw [decide_eq_true_eq]; omega
              go_wp2_with fail
              refine (equalGate_same uA uS _ (GateOwn.in_ HA7.out) (GateOwn.in_ HS7.out) HsmA.out HsmS.out (HofA.out.trans HofS.out.symm)).mono ?_
              rintro e w8 ⟨rfl, hb8⟩
              clear cG7_0 cG7_1 cG7_2 cG7_3 cG7_4 cA17_0 cA17_1 cA17_2 cA17_3 cA17_4 cS17_0 cS17_1 cS17_2 cS17_3 cS17_4
              have hz8 : w7.heap.size ≤ w8.heap.size := by have := hb8.size; (try simp at this); omega
              have HB8 := Lib.hid (bT HB7.out hb8)
              clear HB7
              have Hin8 := Lib.hid (GateIn.over Hin7.out hb8)
              clear Hin7
              have HG8 := Lib.hid (Blk.belowAll HG7.out hb8)
              clear HG7
              have HA8 := Lib.hid (GateOwn.below HA7.out hb8)
              clear HA7
              have HA18 := Lib.hid (Blk.belowAll HA17.out hb8)
              clear HA17
              have HS8 := Lib.hid (GateOwn.below HS7.out hb8)
              clear HS7
              have HS18 := Lib.hid (Blk.belowAll HS17.out hb8)
              clear HS17
              clear hb8
              go_wp2
              go_ret
              exact ⟨rfl, HB8.out⟩
          · have d2 : decide (m < 0) = true := by rw [decide_eq_true_eq]; omega
            go_wp2_with fail
            refine (equalGate_same uA uS _ (GateOwn.in_ HA7.out) (GateOwn.in_ HS7.out) HsmA.out HsmS.out (HofA.out.trans HofS.out.symm)).mono ?_
            rintro e w8 ⟨rfl, hb8⟩
            clear cG7_0 cG7_1 cG7_2 cG7_3 cG7_4 cA17_0 cA17_1 cA17_2 cA17_3 cA17_4 cS17_0 cS17_1 cS17_2 cS17_3 cS17_4
            have hz8 : w7.heap.size ≤ w8.heap.size := by have := hb8.size; (try simp at this); omega
            have HB8 := Lib.hid (bT HB7.out hb8)
            clear HB7
            have Hin8 := Lib.hid (GateIn.over Hin7.out hb8)
            clear Hin7
            have HG8 := Lib.hid (Blk.belowAll HG7.out hb8)
            clear HG7
            have HA8 := Lib.hid (GateOwn.below HA7.out hb8)
            clear HA7
            have HA18 := Lib.hid (Blk.belowAll HA17.out hb8)
            clear HA17
            have HS8 := Lib.hid (GateOwn.below HS7.out hb8)
            clear HS7
            have HS18 := Lib.hid (Blk.belowAll HS17.out hb8)
            clear HS17
            clear hb8
            go_wp2
            go_ret
            exact ⟨rfl, HB8.out⟩
        · have d1 : decide (99 < q) = true := by rw [decide_eq_true_eq]; omega
          go_wp2_with fail
          refine (equalGate_same uA uS _ (GateOwn.in_ HA7.out) (GateOwn.in_ HS7.out) HsmA.out HsmS.out (HofA.out.trans HofS.out.symm)).mono ?_
          rintro e w8 ⟨rfl, hb8⟩
          clear cG7_0 cG7_1 cG7_2 cG7_3 cG7_4 cA17_0 cA17_1 cA17_2 cA17_3 cA17_4 cS17_0 cS17_1 cS17_2 cS17_3 cS17_4
          have hz8 : w7.heap.size ≤ w8.heap.size := by have := hb8.size; (try simp at this); omega
          have HB8 := Lib.hid (bT HB7.out hb8)
          clear HB7
          have Hin8 := Lib.hid (GateIn.over Hin7.out hb8)
          clear Hin7
          have HG8 := Lib.hid (Blk.belowAll HG7.out hb8)
          clear HG7
          have HA8 := Lib.hid (GateOwn.below HA7.out hb8)
          clear HA7
          have HA18 := Lib.hid (Blk.belowAll HA17.out hb8)
          clear HA17
          have HS8 := Lib.hid (GateOwn.below HS7.out hb8)
          clear HS7
          have HS18 := Lib.hid (Blk.belowAll HS17.out hb8)
          clear HS17
          clear hb8
          go_wp2
          go_ret
          exact ⟨rfl, HB8.out⟩
      · have d0 : decide (q < 0) = true := by rw [decide_eq_true_eq]; omega
        go_wp2_with fail
        refine (equalGate_same uA uS _ (GateOwn.in_ HA7.out) (GateOwn.in_ HS7.out) HsmA.out HsmS.out (HofA.out.trans HofS.out.symm)).mono ?_
        rintro e w8 ⟨rfl, hb8⟩
        clear cG7_0 cG7_1 cG7_2 cG7_3 cG7_4 cA17_0 cA17_1 cA17_2 cA17_3 cA17_4 cS17_0 cS17_1 cS17_2 cS17_3 cS17_4
        have hz8 : w7.heap.size ≤ w8.heap.size := by have := hb8.size; (try simp at this); omega
        have HB8 := Lib.hid (bT HB7.out hb8)
        clear HB7
        have Hin8 := Lib.hid (GateIn.over Hin7.out hb8)
        clear Hin7
        have HG8 := Lib.hid (Blk.belowAll HG7.out hb8)
        clear HG7
        have HA8 := Lib.hid (GateOwn.below HA7.out hb8)
        clear HA7
        have HA18 := Lib.hid (Blk.belowAll HA17.out hb8)
        clear HA17
        have HS8 := Lib.hid (GateOwn.below HS7.out hb8)
        clear HS7
        have HS18 := Lib.hid (Blk.belowAll HS17.out hb8)
        clear HS17
        clear hb8
        go_wp2
        go_ret
        exact ⟨rfl, HB8.out⟩

set_option maxRecDepth 100000 in
theorem lifted (os : Os) (started : os.Started) (H : Type) (enc : TypeId × Value → H) :
    ReturnsInHanded {} Try.checked os 11 .any (Rows.fnHoldCardSpec.pre6 enc Try.prog Try.f11 Rows.fnHoldCardRow.domain false) (Rows.fnHoldCardSpec.post enc Try.prog Try.f11 false true false false) := by
  refine returnsInHanded_of_change (C := Try.checked) Cells.own started (by kernel_rfl) Try.func11
    (ChangeSpec.witness6 (enc := enc) (C := Try.checked) false ⟨#[], #[.slice none 0 0], []⟩ 8 (by kernel_rfl) (by kernel_rfl) (by kernel_rfl) (by kernel_rfl)) ?_
  intro W base args ds gs before hval0 hW _ _
  have hval : ∀ (j : Nat) t v, Try.f11.params[j]? = some t → args[j]? = some v → Value.okWide Try.prog W .any base t v := hval0
  have hW' := hW
  obtain ⟨p, q, hA0, hV, rfl, _, _⟩ := hW
  have hA : DataW.TrodAll enc Try.prog W 0 (fun _ => true) true Try.f11.params.toList args.toList ds p := hA0
  rw [Try.params11] at hA hval
  obtain ⟨v0, d0, rfl, rfl, h0⟩ := trodAll_one hA
  obtain ⟨rfl, rfl⟩ := trodVars_none hV
  obtain ⟨a0, len, cap, rfl⟩ := okWide_slice Try.underlying22 (hval 0 22 v0 rfl rfl)
  clear hA0 hval0
  simp only [List.append_nil] at hW'
  obtain ⟨hb, hargs⟩ := opened h0 (fun x hx => by simpa using hW'.lt x hx)
  refine (walk a0 len cap W hb).mono fun e W' ⟨he, hnx⟩ => ?_
  subst he
  exact ⟨_, rfl, _, _, _, [], _, [], hW', trodAll_mk1 (shut_bool Try.underlying4 _), trodAll_mk1 (hargs _ hnx), rfl, hnx.frame _, fun h => by cases h⟩

theorem closed : joinedFacts Try.prog 11 Try.f11 Rows.fnHoldCardSpec Rows.fnHoldCardRow = true := by
  unfold joinedFacts
  rw [Cells.laidOut, Cells.mapsRowed_, Cells.stops, Cells.stopKnobs, Cells.plainKeys, Cells.stopsHeard, Cells.mayEnter, Cells.liftsFinal, Cells.make]
  kernel_rfl

theorem over : Rows.fnHoldCardRow.holds Try.pinned (OpenSpec.ofChange Rows.fnHoldCardSpec) :=
  OpenClaim.holds_of_wide 11 Try.f11 rfl rfl rfl rfl rfl rfl rfl ⟨rfl, rfl, rfl, rfl, rfl⟩ rfl rfl rfl rfl rfl (by kernel_rfl) Try.func11 closed
    (of_decide_eq_true (by kernel_rfl)) (by unfold Func.isWrapper; first | (rw [if_pos (by decide +kernel)]; kernel_rfl) | (rw [if_neg (by decide +kernel)]; exact ⟨rfl, rfl⟩))
    (fun os started H enc _ => lifted os started H enc)

/-- THE STATEMENT -/
theorem proved : Rows.FnHoldCardSaid := over
#print axioms proved
end Go.Proofs.Ytpijjlggmibfnaa.fnHoldCard
