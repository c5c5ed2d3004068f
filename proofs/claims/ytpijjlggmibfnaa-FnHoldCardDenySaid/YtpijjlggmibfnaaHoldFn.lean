/-
  A card is held to a validator: the program and its model.
-/
import Derived.Test.YtpijjlggmibfnaaHoldFn1
import Derived.Test.YtpijjlggmibfnaaHoldMath
import Derived.Test.YtpijjlggmibfnaaDenyCardFn
set_option linter.unusedSimpArgs false
namespace Go.Proofs.Ytpijjlggmibfnaa
open Go.RowKit Go.Deep
set_option linter.unusedVariables false

set_option maxRecDepth 100000 in
set_option maxHeartbeats 1000000 in
theorem indexInts_any (A : Option Addr) (n c : Nat) (am : List Int) (q : Int) (w : World) (hx : Ints w w.heap.size A am) (hn : am.length = n) (hl : n ≤ 1000000000) :
    Calls Try.prog 109 #[.slice A n c, .int .i64 q] w fun e w' => ∃ r : Int, e = .returned (.int .i64 r) ∧ decide (0 ≤ r) = Fares.isIn am q ∧ w = w' := by
  subst hn
  go_enter Try.func109, Try.ntmps109
  go_wp2
  go_loop [8] (fun i => ∃ k : Nat, k ≤ am.length ∧ i = .int .i64 k ∧ Hid (∀ (j : Nat) (a : Int), j < k → am[j]? = some a → a ≠ q)) (fun i => am.length - (intOf i).toNat)
  case atStart => exact ⟨0, Nat.zero_le _, rfl, Lib.hid (fun j a hj => by omega)⟩
  case round =>
    obtain ⟨k, hk, rfl, He⟩ := hrel
    by_cases hlt : k < am.length
    · obtain ⟨a, hak⟩ : ∃ a, am[k]? = some a := ⟨am[k], List.getElem?_eq_getElem hlt⟩
      obtain ⟨b1, o1, rfl, hb1, hr1⟩ := hx.row (by omega)
      have p0 := hr1 k a hak
      have Hak := Lib.hid hak; clear hak hr1
      have i0 : (0 : Int) ≤ (k : Int) := by omega
      have i1 : (k : Int) < (am.length : Int) := by omega
      by_cases ha : a = q
      · have ha' : (q == a) = true := by simpa using ha.symm
        have Hf := Lib.hid (Fares.isIn_take Hak.out ha)
        clear ha
        go_wp2
        go_ret
        exact ⟨_, rfl, by rw [Hf.out, decide_eq_true (show (0 : Int) ≤ (k : Int) by omega)], rfl⟩
      · have ha' : (q == a) = false := by simpa using fun e => ha (Eq.symm e)
        have Ha := Lib.hid ha; clear ha
        go_wp2
        go_round
        case rel => exact ⟨k + 1, by omega, by go_num, Lib.hid (fun j b hj hb => by
          rcases Nat.lt_or_ge j k with h | h
          · exact He.out j b h hb
          · have e : j = k := by omega
            rw [e, Hak.out] at hb
            injection hb with hb
            rw [← hb]; exact Ha.out)⟩
        case measure => simp [intOf]; omega
    · go_wp2
      go_ret
      exact ⟨-1, rfl, by rw [Fares.isIn_none (fun j a h => He.out j a (by have := (List.getElem?_eq_some_iff.1 h).1; omega) h)]; rfl, rfl⟩
set_option maxHeartbeats 1000000 in
theorem containsInts_any (A : Option Addr) (n c : Nat) (am : List Int) (q : Int) (w : World) (hx : Ints w w.heap.size A am) (hn : am.length = n) (hl : n ≤ 1000000000) :
    Calls Try.prog 97 #[.slice A n c, .int .i64 q] w fun e w' => e = .returned (.bool (Fares.isIn am q)) ∧ w = w' := by
  have Hx := Lib.hid hx; clear hx
  go_enter Try.func97, Try.ntmps97
  go_wp2_with fail
  refine (indexInts_any A n c am q _ Hx.out hn hl).mono ?_
  rintro e w' ⟨r, rfl, hr, rfl⟩
  have Hr := Lib.hid hr; clear hr
  go_wp2
  go_ret
  exact ⟨ret_bool Hr.out, rfl⟩
set_option maxRecDepth 100000 in
set_option maxHeartbeats 1000000 in
theorem denies_any (v : GateR) (q : Int) (w : World) (hi : GateIn w w.heap.size v) (hs : v.deny.cards.length ≤ 1000000) :
    Calls Try.prog 76 #[gateV v, .int .i64 q] w fun e w' => e = .returned (.bool (Fares.isIn v.deny.cards q)) ∧ Below w.heap.size w w' := by
  have Hi := Lib.hid hi; clear hi
  unfold gateV
  go_enter Try.func76, Try.ntmps76
  go_wp2_with fail
  refine (containsInts_any v.deny.cardsA v.deny.cards.length v.deny.cardsc v.deny.cards q _ (readsUp Hi.out.1.1 _) rfl (by omega)).mono ?_
  rintro e w' ⟨rfl, rfl⟩
  go_wp2
  go_ret
  exact ⟨rfl, (by repeat (first | exact Below.refl _ _ | refine bA ?_ _ | refine bD ?_ _ | refine bD1 ?_ | refine bS ?_ (by simp) _))⟩
set_option maxRecDepth 100000 in
set_option maxHeartbeats 1000000 in
theorem isFull_any (v : GateR) (w : World) :
    Calls Try.prog 75 #[gateV v] w fun e w' => e = .returned (.bool (decide (v.kept.length = 10) || decide (999 < v.nxt))) ∧ Below w.heap.size w w' := by
  unfold gateV
  by_cases h : v.kept.length = 10
  · have h' : ((v.kept.length : Int) == 10) = true := by rw [beq_iff_eq]; omega
    rw [decide_eq_true h]
    have Hh := Lib.hid h; clear h
    go_enter Try.func75, Try.ntmps75
    go_wp2
    go_ret
    exact ⟨rfl, (by repeat (first | exact Below.refl _ _ | refine bA ?_ _ | refine bD ?_ _ | refine bD1 ?_ | refine bS ?_ (by simp) _))⟩
  · have h' : ((v.kept.length : Int) == 10) = false := by rw [beq_eq_false_iff_ne]; omega
    rw [decide_eq_false h]
    have Hh := Lib.hid h; clear h
    go_enter Try.func75, Try.ntmps75
    go_wp2
    go_ret
    exact ⟨rfl, (by repeat (first | exact Below.refl _ _ | refine bA ?_ _ | refine bD ?_ _ | refine bD1 ?_ | refine bS ?_ (by simp) _))⟩
set_option maxRecDepth 100000 in
set_option maxHeartbeats 4000000 in
theorem keeping_any (v : GateR) (t : Fares.Tap) (w : World) (hi : GateIn w w.heap.size v) (hs : v.deny.cards.length ≤ 1000000 ∧ v.kept.length ≤ 1000000) (hk : v.kept.length ≤ 1000) (hn0 : 0 ≤ v.nxt) (hn1 : v.nxt ≤ 1000) :
    Calls Try.prog 77 #[gateV v, tapV t] w fun e w' => (∃ u : GateR, e = .returned (gateV u) ∧ u.of = ⟨v.val, v.nxt + 1, v.deny.of, v.kept ++ [t]⟩ ∧ GateOwn w' w.heap.size u ∧ GateSmall u) ∧ Below w.heap.size w w' := by
  obtain ⟨ti, hi0_, hz0_, hz1_, hz2_⟩ := info_parts info_tapC
  have HITap := Lib.hid hi0_; clear hi0_
  have HZ0Tap := Lib.hid hz0_; clear hz0_
  have HZ1Tap := Lib.hid hz1_; clear hz1_
  have HZ2Tap := Lib.hid hz2_; clear hz2_
  have Hi := Lib.hid hi; clear hi
  unfold gateV tapV
  go_enter Try.func77, Try.ntmps77
  go_wp2_with fail
  generalize hW : World.alloc _ _ = w1
  have hp1 : Blk w1 w.heap.size 40 v.cells := by rw [← hW]; exact ((Blk.new w _ _).alloc _).alloc _
  have hq1 : Blk w1 (w.heap.size + 1) 57 #[.int .i64 t.v, .int .i64 t.n, .int .i64 t.c, .int .i64 t.m, .int .i64 t.s, .bool t.o] := by rw [← hW]; exact (Blk.new' (by simp)).alloc _
  have hr1 : Blk w1 (w.heap.size + 1 + 1) 40 (GateR.cells (⟨0, 0, ⟨0, none, 0, []⟩, none, 0, []⟩ : GateR)) := by rw [← hW]; exact Blk.new' (by simp)
  have HB1 : Hid (Below w.heap.size w w1) := Lib.hid (by rw [← hW]; exact bA (bA (bA (Below.refl _ _) _) _) _)
  have hz1 : w.heap.size + 1 + 1 < w1.heap.size := by rw [← hW]; simp
  clear hW
  have Hp1 := Lib.hid hp1; clear hp1
  have Hq1 := Lib.hid hq1; clear hq1
  have Hr1 := Lib.hid hr1; clear hr1
  refine (gateOwn_any v _ (Hi.out.over HB1.out) hs).mono ?_
  rintro e w2 ⟨⟨u, rfl, hof, hown, hs1, hs2⟩, hb2⟩
  have hz2 : w1.heap.size ≤ w2.heap.size := by have := hb2.size; (try simp at this); omega
  have HB2 := Lib.hid (bT HB1.out hb2)
  clear HB1
  have HP2 := Lib.hid (Blk.belowAll Hp1.out hb2)
  clear Hp1
  have HQ2 := Lib.hid (Blk.belowAll Hq1.out hb2)
  clear Hq1
  have HR2 := Lib.hid (Blk.belowAll Hr1.out hb2)
  clear Hr1
  clear hb2
  have Hof := Lib.hid hof; clear hof
  unfold gateV
  obtain ⟨hownD, hownK, hap⟩ := hown
  have Hap := Lib.hid hap; clear hap
  have LTD := Lib.hid (fun k hk => (DenyOwn.lt hownD k hk).1)
  have UPD := Lib.hid (fun k hk => (DenyOwn.lt hownD k hk).2)
  have HoD := Lib.hid hownD; clear hownD
  have LTK := Lib.hid (fun k hk => (World.ownsRow.lt hownK k hk).1)
  have UPK := Lib.hid (fun k hk => (World.ownsRow.lt hownK k hk).2)
  have HoK := Lib.hid hownK; clear hownK
  have hk1000 : u.kept.length ≤ 1000 := by have h := congrArg (fun x : Fares.Gate => x.kept.length) Hof.out; have h2 : u.kept.length = v.kept.length := h; omega
  have hnx : u.nxt = v.nxt := congrArg Fares.Gate.nxt Hof.out
  have hnx0 : 0 ≤ u.nxt := by omega
  have hnx1 : u.nxt ≤ 1000 := by omega
  clear hnx
  have HbM := Lib.hid (Blk.new w2 40 (GateR.cells u))
  have ctQ2_0 : (w2.alloc (.cells #[.int .i64 u.val, .int .i64 u.nxt, .int .i64 u.deny.ver, .slice u.deny.cardsA u.deny.cards.length u.deny.cardsc, .slice u.keptA u.kept.length u.keptc] 40)).cell? ⟨w.heap.size + 1, 0, none⟩ = some (.int .i64 t.v) := ((Blk.alloc HQ2.out _)).cell 0
  have ctQ2_1 : (w2.alloc (.cells #[.int .i64 u.val, .int .i64 u.nxt, .int .i64 u.deny.ver, .slice u.deny.cardsA u.deny.cards.length u.deny.cardsc, .slice u.keptA u.kept.length u.keptc] 40)).cell? ⟨w.heap.size + 1, 1, none⟩ = some (.int .i64 t.n) := ((Blk.alloc HQ2.out _)).cell 1
  have ctQ2_2 : (w2.alloc (.cells #[.int .i64 u.val, .int .i64 u.nxt, .int .i64 u.deny.ver, .slice u.deny.cardsA u.deny.cards.length u.deny.cardsc, .slice u.keptA u.kept.length u.keptc] 40)).cell? ⟨w.heap.size + 1, 2, none⟩ = some (.int .i64 t.c) := ((Blk.alloc HQ2.out _)).cell 2
  have ctQ2_3 : (w2.alloc (.cells #[.int .i64 u.val, .int .i64 u.nxt, .int .i64 u.deny.ver, .slice u.deny.cardsA u.deny.cards.length u.deny.cardsc, .slice u.keptA u.kept.length u.keptc] 40)).cell? ⟨w.heap.size + 1, 3, none⟩ = some (.int .i64 t.m) := ((Blk.alloc HQ2.out _)).cell 3
  have ctQ2_4 : (w2.alloc (.cells #[.int .i64 u.val, .int .i64 u.nxt, .int .i64 u.deny.ver, .slice u.deny.cardsA u.deny.cards.length u.deny.cardsc, .slice u.keptA u.kept.length u.keptc] 40)).cell? ⟨w.heap.size + 1, 4, none⟩ = some (.int .i64 t.s) := ((Blk.alloc HQ2.out _)).cell 4
  have ctQ2_5 : (w2.alloc (.cells #[.int .i64 u.val, .int .i64 u.nxt, .int .i64 u.deny.ver, .slice u.deny.cardsA u.deny.cards.length u.deny.cardsc, .slice u.keptA u.kept.length u.keptc] 40)).cell? ⟨w.heap.size + 1, 5, none⟩ = some (.bool t.o) := ((Blk.alloc HQ2.out _)).cell 5
  go_wp2_with (at_builtin; refine wpList_append_lies _ rfl (.tmp 9) (.tmp 11) _ rfl (w1.heap.size) 57 ti _ 6 48 Try.underlying38 HITap.out HZ0Tap.out HZ1Tap.out HZ2Tap.out rfl (by omega) _ _ _ rfl (World.ownsRow.alloc (World.ownsRow.alloc HoK.out _) _) ⟨w2.heap.size + 1, 0, none⟩ 1 1 (tapCells t) rfl rfl ?c1 ?c2 (by omega) ?c3 ?c4 ?c5 _ rfl ?_)
  case c1 => exact World.news_of_block (Blk.new' (t := 57) (cs := #[.int .i64 t.v, .int .i64 t.n, .int .i64 t.c, .int .i64 t.m, .int .i64 t.s, .bool t.o]) (by simp))
  case c2 => simp [tapCells, Value.oneCell']
  case c3 => unfold maxLen; omega
  case c4 => omega
  case c5 => first | omega | (simp; omega) | simp
  intro gb cap w3 hownA hgrow3 hatA hltA
  have HX := Lib.hid (OwnTaps.snoc hownA); clear hownA
  have HatA := Lib.hid hatA; clear hatA
  clear ctQ2_0 ctQ2_1 ctQ2_2 ctQ2_3 ctQ2_4 ctQ2_5
  have hz3 : w2.heap.size + 2 ≤ w3.heap.size := by have := hgrow3.size; (try simp at this); omega
  have HB3 := Lib.hid (Touch.below (bA (bA HB2.out _) _) (Touch.of_grown hgrow3) (fun i hi => by have a1 := LTK.out _ hi; omega))
  clear HB2
  have HQ3 := Lib.hid (Blk.grown (Blk.alloc (Blk.alloc HQ2.out _) _) hgrow3 (by intro e; have a1 := LTK.out _ e.symm; have a2 := UPK.out _ e.symm; omega))
  clear HQ2
  have HR3 := Lib.hid (Blk.grown (Blk.alloc (Blk.alloc HR2.out _) _) hgrow3 (by intro e; have a1 := LTK.out _ e.symm; have a2 := UPK.out _ e.symm; omega))
  clear HR2
  have HD3 := Lib.hid (DenyOwn.touch (DenyOwn.up (DenyOwn.up HoD.out _) _) (Touch.of_grown hgrow3) (fun i hi e0 => Hap.out i hi e0))
  clear HoD
  have HM3 := Lib.hid (Blk.grown (Blk.alloc HbM.out _) hgrow3 (by intro e; have a1 := LTK.out _ e.symm; have a2 := UPK.out _ e.symm; omega))
  clear HbM
  clear hgrow3 HoK
  have hXk : World.ownsRow w3 (w1.heap.size) 57 6 (.slice (some ⟨gb, 0, none⟩) (u.kept ++ [t]).length cap) (u.kept ++ [t]).length ((u.kept ++ [t]).flatMap tapCells) := by have h := HX.out; unfold OwnTaps at h; rw [List.length_append, List.length_singleton] at h ⊢; exact h
  clear HX
  have LTA := Lib.hid (fun k hk => (World.ownsRow.lt hXk k hk).1)
  have UPA := Lib.hid (fun k hk => (World.ownsRow.lt hXk k hk).2)
  have HoA := Lib.hid hXk; clear hXk
  obtain ⟨cM3_0, cM3_1, cM3_2, cM3_3, cM3_4⟩ := gateCells (t := 40) (v := u) HM3.out
  obtain ⟨cR3_0, cR3_1, cR3_2, cR3_3, cR3_4⟩ := gateCells (t := 40) (v := (⟨0, 0, ⟨0, none, 0, []⟩, none, 0, []⟩ : GateR)) HR3.out
  have frM3_0 := (HM3.out).free 0
  have frM3_1 := (HM3.out).free 1
  have frM3_2 := (HM3.out).free 2
  have frM3_3 := (HM3.out).free 3
  have frM3_4 := (HM3.out).free 4
  have frR3_0 := (HR3.out).free 0
  have frR3_1 := (HR3.out).free 1
  have frR3_2 := (HR3.out).free 2
  have frR3_3 := (HR3.out).free 3
  have frR3_4 := (HR3.out).free 4
  have hlk : (u.kept ++ [t]).length = u.kept.length + 1 := by simp
  have Hlk := Lib.hid hlk; clear hlk
  go_wp2
  generalize hW : World.setCell _ _ _ = wf
  have htf : Touch (fun i => i = w2.heap.size ∨ i = w.heap.size + 1 + 1) w3 wf := by rw [← hW]; exact (Touch.far (K := fun i => i = w2.heap.size ∨ i = w.heap.size + 1 + 1) (Touch.far (K := fun i => i = w2.heap.size ∨ i = w.heap.size + 1 + 1) (Touch.far (K := fun i => i = w2.heap.size ∨ i = w.heap.size + 1 + 1) (Touch.far (K := fun i => i = w2.heap.size ∨ i = w.heap.size + 1 + 1) (Touch.far (K := fun i => i = w2.heap.size ∨ i = w.heap.size + 1 + 1) (Touch.far (K := fun i => i = w2.heap.size ∨ i = w.heap.size + 1 + 1) (Touch.far (K := fun i => i = w2.heap.size ∨ i = w.heap.size + 1 + 1) (Touch.refl _ _) (p := ⟨w2.heap.size, 4, none⟩) (.inl rfl) _) (p := ⟨w2.heap.size, 1, none⟩) (.inl rfl) _) (p := ⟨w.heap.size + 1 + 1, 0, none⟩) (.inr rfl) _) (p := ⟨w.heap.size + 1 + 1, 1, none⟩) (.inr rfl) _) (p := ⟨w.heap.size + 1 + 1, 2, none⟩) (.inr rfl) _) (p := ⟨w.heap.size + 1 + 1, 3, none⟩) (.inr rfl) _) (p := ⟨w.heap.size + 1 + 1, 4, none⟩) (.inr rfl) _)
  have hRf : Blk wf (w.heap.size + 1 + 1) 40 (GateR.cells (⟨u.val, u.nxt + 1, u.deny, some ⟨gb, 0, none⟩, cap, u.kept ++ [t]⟩ : GateR)) := by rw [← hW]; unfold GateR.cells; dsimp only; rw [Hlk.out]; exact (Blk.put (Blk.put (Blk.put (Blk.put (Blk.put (Blk.far (Blk.far HR3.out (p := ⟨w2.heap.size, 4, none⟩) (show w.heap.size + 1 + 1 ≠ w2.heap.size by omega) _) (p := ⟨w2.heap.size, 1, none⟩) (show w.heap.size + 1 + 1 ≠ w2.heap.size by omega) _) 0 _) 1 _) 2 _) 3 _) 4 _)
  clear hW
  clear cM3_0 cM3_1 cM3_2 cM3_3 cM3_4 cR3_0 cR3_1 cR3_2 cR3_3 cR3_4 frM3_0 frM3_1 frM3_2 frM3_3 frM3_4 frR3_0 frR3_1 frR3_2 frR3_3 frR3_4
  have HRf := Lib.hid hRf; clear hRf
  have hBf : Below w.heap.size w wf := Touch.below HB3.out htf (fun i hi => by rcases hi with hi | hi <;> omega)
  have NEA : ∀ k, (.slice (some ⟨gb, 0, none⟩) (u.kept ++ [t]).length cap : Value).ownBlock = some k → k ≠ w2.heap.size ∧ (DenyBlocks u.deny k → False) := fun k hk => by
    have ek : gb = k := by injection hk
    subst ek
    rcases HatA.out with e | e
    · exact ⟨by have a1 := UPK.out _ e; omega, fun hd => Hap.out _ hd e⟩
    · (try simp at e)
      exact ⟨by omega, fun hd => by have a1 := UPD.out _ hd; omega⟩
  have hAf := ownTouch HoA.out htf (fun i hi e0 => by have a1 := LTA.out _ hi; have a3 := (NEA i hi).1; rcases e0 with e0 | e0 <;> omega)
  have hDf := DenyOwn.touch HD3.out htf (fun i hi e0 => by have a1 := LTD.out _ hi; have a2 := UPD.out _ hi; rcases e0 with e0 | e0 <;> omega)
  obtain ⟨z0, z1, z2, z3, z4⟩ := gateCells (t := 40) (v := (⟨u.val, u.nxt + 1, u.deny, some ⟨gb, 0, none⟩, cap, u.kept ++ [t]⟩ : GateR)) HRf.out
  refine bodyPost_ret (v := gateV (⟨u.val, u.nxt + 1, u.deny, some ⟨gb, 0, none⟩, cap, u.kept ++ [t]⟩ : GateR)) (by simp [results, Try.results77, go_sem, gateV, z0, z1, z2, z3, z4]) rfl ⟨⟨(⟨u.val, u.nxt + 1, u.deny, some ⟨gb, 0, none⟩, cap, u.kept ++ [t]⟩ : GateR), rfl, ?_, ⟨DenyOwn.base hDf (by omega), ownBase hAf (by omega), fun k h1 h2 => (NEA k h2).2 h1⟩, Nat.le_trans hs1 (by omega), by show (u.kept ++ [t]).length ≤ 1048576; rw [Hlk.out]; omega⟩, hBf⟩
  have h := Hof.out
  have e1 : u.val = v.val := congrArg Fares.Gate.val h
  have e2 : u.nxt = v.nxt := congrArg Fares.Gate.nxt h
  have e3 : u.deny.of = v.deny.of := congrArg Fares.Gate.deny h
  have e4 : u.kept = v.kept := congrArg Fares.Gate.kept h
  show (⟨u.val, u.nxt + 1, u.deny.of, u.kept ++ [t]⟩ : Fares.Gate) = _
  rw [e1, e2, e3, e4]
set_option maxRecDepth 100000 in
set_option maxHeartbeats 8000000 in
theorem implHoldCard_any (v : GateR) (c m s : Int) (o : Bool) (w : World) (hi : GateIn w w.heap.size v) (hs : GateSmall v) :
    Calls Try.prog 38 #[gateV v, .int .i64 c, .int .i64 m, .int .i64 s, .bool o] w fun e w' => (∃ u : GateR, e = .returned (.tuple #[gateV u, .bool (Fares.holdCard v.of c m s o).2]) ∧ u.of = (Fares.holdCard v.of c m s o).1 ∧ GateOwn w' w.heap.size u ∧ GateSmall u) ∧ Below w.heap.size w w' := by
  have Hi := Lib.hid hi; clear hi
  have Hs := Lib.hid hs; clear hs
  unfold gateV
  go_enter Try.func38, Try.ntmps38
  go_wp2_with fail
  generalize hW : World.alloc _ _ = w1
  have hp1 : Blk w1 w.heap.size 40 v.cells := by rw [← hW]; exact ((Blk.new w _ _).alloc _).alloc _
  have hr1 : Blk w1 (w.heap.size + 1) 40 (GateR.cells (⟨0, 0, ⟨0, none, 0, []⟩, none, 0, []⟩ : GateR)) := by rw [← hW]; exact (Blk.new' (by simp)).alloc _
  have ht1 : Blk w1 (w.heap.size + 1 + 1) 57 #[.int .i64 v.val, .int .i64 0, .int .i64 c, .int .i64 m, .int .i64 s, .bool o] := by rw [← hW]; exact Blk.new' (by simp)
  have HB1 : Hid (Below w.heap.size w w1) := Lib.hid (by rw [← hW]; exact bA (bA (bA (Below.refl _ _) _) _) _)
  have hz1 : w.heap.size + 1 + 1 < w1.heap.size := by rw [← hW]; simp
  clear hW
  have Hp1 := Lib.hid hp1; clear hp1
  have Hr1 := Lib.hid hr1; clear hr1
  have Ht1 := Lib.hid ht1; clear ht1
  refine (implValidGate_any v _ (Hi.out.over HB1.out) Hs.out).mono ?_
  rintro e w2 ⟨rfl, hb2⟩
  have hz2 : w1.heap.size ≤ w2.heap.size := by have := hb2.size; (try simp at this); omega
  have HB2 := Lib.hid (bT HB1.out hb2)
  clear HB1
  have HP2 := Lib.hid (Blk.belowAll Hp1.out hb2)
  clear Hp1
  have HT2 := Lib.hid (Blk.belowAll Ht1.out hb2)
  clear Ht1
  have HR2 := Lib.hid (Blk.belowAll Hr1.out hb2)
  clear Hr1
  clear hb2
  obtain ⟨cP2_0, cP2_1, cP2_2, cP2_3, cP2_4⟩ := gateCells (t := 40) (v := v) HP2.out
  obtain ⟨cR2_0, cR2_1, cR2_2, cR2_3, cR2_4⟩ := gateCells (t := 40) (v := (⟨0, 0, ⟨0, none, 0, []⟩, none, 0, []⟩ : GateR)) HR2.out
  have frR2_0 := (HR2.out).free 0
  have frR2_1 := (HR2.out).free 1
  have frR2_2 := (HR2.out).free 2
  have frR2_3 := (HR2.out).free 3
  have frR2_4 := (HR2.out).free 4
  have ct2_0 : w2.cell? ⟨w.heap.size + 1 + 1, 0, none⟩ = some (.int .i64 v.val) := (HT2.out).cell 0
  have ct2_1 : w2.cell? ⟨w.heap.size + 1 + 1, 1, none⟩ = some (.int .i64 0) := (HT2.out).cell 1
  have ct2_2 : w2.cell? ⟨w.heap.size + 1 + 1, 2, none⟩ = some (.int .i64 c) := (HT2.out).cell 2
  have ct2_3 : w2.cell? ⟨w.heap.size + 1 + 1, 3, none⟩ = some (.int .i64 m) := (HT2.out).cell 3
  have ct2_4 : w2.cell? ⟨w.heap.size + 1 + 1, 4, none⟩ = some (.int .i64 s) := (HT2.out).cell 4
  have ct2_5 : w2.cell? ⟨w.heap.size + 1 + 1, 5, none⟩ = some (.bool o) := (HT2.out).cell 5
  cases hv : Fares.validGate v.of
  · go_wp2
    generalize hW : World.setCell _ _ _ = w3
    have ht3 : Touch (fun i => i = w.heap.size + 1) w2 w3 := by rw [← hW]; exact (Touch.far (K := fun i => i = w.heap.size + 1) (Touch.far (K := fun i => i = w.heap.size + 1) (Touch.far (K := fun i => i = w.heap.size + 1) (Touch.far (K := fun i => i = w.heap.size + 1) (Touch.far (K := fun i => i = w.heap.size + 1) (Touch.refl _ _) (p := ⟨w.heap.size + 1, 0, none⟩) rfl _) (p := ⟨w.heap.size + 1, 1, none⟩) rfl _) (p := ⟨w.heap.size + 1, 2, none⟩) rfl _) (p := ⟨w.heap.size + 1, 3, none⟩) rfl _) (p := ⟨w.heap.size + 1, 4, none⟩) rfl _)
    have hbx3 : Blk w3 (w.heap.size + 1) 40 (GateR.cells (⟨0, 0, ⟨0, none, 0, []⟩, none, 0, []⟩ : GateR)) := by rw [← hW]; exact (Blk.put (Blk.put (Blk.put (Blk.put (Blk.put HR2.out 0 (.int .i64 (⟨0, 0, ⟨0, none, 0, []⟩, none, 0, []⟩ : GateR).val)) 1 (.int .i64 (⟨0, 0, ⟨0, none, 0, []⟩, none, 0, []⟩ : GateR).nxt)) 2 (.int .i64 (⟨0, 0, ⟨0, none, 0, []⟩, none, 0, []⟩ : GateR).deny.ver)) 3 (.slice (⟨0, 0, ⟨0, none, 0, []⟩, none, 0, []⟩ : GateR).deny.cardsA (⟨0, 0, ⟨0, none, 0, []⟩, none, 0, []⟩ : GateR).deny.cards.length (⟨0, 0, ⟨0, none, 0, []⟩, none, 0, []⟩ : GateR).deny.cardsc)) 4 (.slice (⟨0, 0, ⟨0, none, 0, []⟩, none, 0, []⟩ : GateR).keptA (⟨0, 0, ⟨0, none, 0, []⟩, none, 0, []⟩ : GateR).kept.length (⟨0, 0, ⟨0, none, 0, []⟩, none, 0, []⟩ : GateR).keptc))
    clear hW
    clear cP2_0 cP2_1 cP2_2 cP2_3 cP2_4 cR2_0 cR2_1 cR2_2 cR2_3 cR2_4 frR2_0 frR2_1 frR2_2 frR2_3 frR2_4 ct2_0 ct2_1 ct2_2 ct2_3 ct2_4 ct2_5
    have hz3 : w2.heap.size ≤ w3.heap.size := by have := ht3.size; (try simp at this); omega
    have HB3 := Lib.hid (Touch.below HB2.out ht3 (fun i hi => by omega))
    clear HB2
    have HP3 := Lib.hid (Blk.touch HP2.out ht3 (show ¬ (w.heap.size = w.heap.size + 1) by omega))
    clear HP2
    have HT3 := Lib.hid (Blk.touch HT2.out ht3 (show ¬ (w.heap.size + 1 + 1 = w.heap.size + 1) by omega))
    clear HT2
    clear ht3 HR2
    have Hbx3 := Lib.hid hbx3; clear hbx3
    have hE : Fares.holdCard v.of c m s o = (Fares.zeroGate, false) := by unfold Fares.holdCard; exact if_neg (fun e => by rw [hv] at e; exact absurd e.1 (by simp))
    obtain ⟨z0, z1, z2, z3, z4⟩ := gateCells (t := 40) (v := (⟨0, 0, ⟨0, none, 0, []⟩, none, 0, []⟩ : GateR)) Hbx3.out
    refine bodyPost_ret (v := .tuple #[gateV (⟨0, 0, ⟨0, none, 0, []⟩, none, 0, []⟩ : GateR), .bool false]) (by simp [results, Try.results38, go_sem, gateV, z0, z1, z2, z3, z4]) rfl ⟨⟨(⟨0, 0, ⟨0, none, 0, []⟩, none, 0, []⟩ : GateR), ?_, ?_, ⟨⟨World.ownsRow_nil _ _ _ _, trivial⟩, World.ownsRow_nil _ _ _ _, fun k h => by cases h⟩, ⟨Nat.zero_le _, Nat.zero_le _⟩⟩, HB3.out⟩
    · rw [hE]; rfl
    · rw [hE]; rfl
  · obtain ⟨f0, f1, f2, f3, f4, f5⟩ := Fares.validGate_facts hv
    have f0' : 0 ≤ v.val := f0
    have f1' : v.val ≤ 9 := f1
    have f2' : 0 ≤ v.nxt := f2
    have f3' : v.nxt ≤ 1000 := f3
    have f4' : v.kept.length ≤ 10 := f4
    have f5' : v.deny.cards.length ≤ 12 := f5
    clear f0 f1 f2 f3 f4 f5
    have Hv := Lib.hid hv; clear hv
    have hvt := Fares.validTap_hold (n := 0) (c := c) (m := m) (s := s) (o := o) f0' f1' (by omega) (by omega)
    have Hvt := Lib.hid hvt; clear hvt
    go_wp2_with fail
    have hcv := implValidTap_any ⟨v.val, 0, c, m, s, o⟩ w2
    unfold tapV at hcv
    have Hcv := Lib.hid hcv; clear hcv
    refine (Hcv.out).mono ?_
    rintro e w3 ⟨rfl, hb3⟩
    clear cP2_0 cP2_1 cP2_2 cP2_3 cP2_4 cR2_0 cR2_1 cR2_2 cR2_3 cR2_4 frR2_0 frR2_1 frR2_2 frR2_3 frR2_4 ct2_0 ct2_1 ct2_2 ct2_3 ct2_4 ct2_5
    have hz3 : w2.heap.size ≤ w3.heap.size := by have := hb3.size; (try simp at this); omega
    have HB3 := Lib.hid (bT HB2.out hb3)
    clear HB2
    have HP3 := Lib.hid (Blk.belowAll HP2.out hb3)
    clear HP2
    have HT3 := Lib.hid (Blk.belowAll HT2.out hb3)
    clear HT2
    have HR3 := Lib.hid (Blk.belowAll HR2.out hb3)
    clear HR2
    clear hb3
    rw [Hvt.out]
    obtain ⟨cP3_0, cP3_1, cP3_2, cP3_3, cP3_4⟩ := gateCells (t := 40) (v := v) HP3.out
    obtain ⟨cR3_0, cR3_1, cR3_2, cR3_3, cR3_4⟩ := gateCells (t := 40) (v := (⟨0, 0, ⟨0, none, 0, []⟩, none, 0, []⟩ : GateR)) HR3.out
    have frR3_0 := (HR3.out).free 0
    have frR3_1 := (HR3.out).free 1
    have frR3_2 := (HR3.out).free 2
    have frR3_3 := (HR3.out).free 3
    have frR3_4 := (HR3.out).free 4
    have ct3_0 : w3.cell? ⟨w.heap.size + 1 + 1, 0, none⟩ = some (.int .i64 v.val) := (HT3.out).cell 0
    have ct3_1 : w3.cell? ⟨w.heap.size + 1 + 1, 1, none⟩ = some (.int .i64 0) := (HT3.out).cell 1
    have ct3_2 : w3.cell? ⟨w.heap.size + 1 + 1, 2, none⟩ = some (.int .i64 c) := (HT3.out).cell 2
    have ct3_3 : w3.cell? ⟨w.heap.size + 1 + 1, 3, none⟩ = some (.int .i64 m) := (HT3.out).cell 3
    have ct3_4 : w3.cell? ⟨w.heap.size + 1 + 1, 4, none⟩ = some (.int .i64 s) := (HT3.out).cell 4
    have ct3_5 : w3.cell? ⟨w.heap.size + 1 + 1, 5, none⟩ = some (.bool o) := (HT3.out).cell 5
    by_cases hc : Fares.cardOk c m s
    · rw [decide_eq_true hc]
      have Hc := Lib.hid hc; clear hc
      go_wp2_with fail
      refine (isFull_any v _).mono ?_
      rintro e w4 ⟨rfl, hb4⟩
      clear cP3_0 cP3_1 cP3_2 cP3_3 cP3_4 cR3_0 cR3_1 cR3_2 cR3_3 cR3_4 frR3_0 frR3_1 frR3_2 frR3_3 frR3_4 ct3_0 ct3_1 ct3_2 ct3_3 ct3_4 ct3_5
      have hz4 : w3.heap.size ≤ w4.heap.size := by have := hb4.size; (try simp at this); omega
      have HB4 := Lib.hid (bT HB3.out hb4)
      clear HB3
      have HP4 := Lib.hid (Blk.belowAll HP3.out hb4)
      clear HP3
      have HT4 := Lib.hid (Blk.belowAll HT3.out hb4)
      clear HT3
      have HR4 := Lib.hid (Blk.belowAll HR3.out hb4)
      clear HR3
      clear hb4
      obtain ⟨cP4_0, cP4_1, cP4_2, cP4_3, cP4_4⟩ := gateCells (t := 40) (v := v) HP4.out
      obtain ⟨cR4_0, cR4_1, cR4_2, cR4_3, cR4_4⟩ := gateCells (t := 40) (v := (⟨0, 0, ⟨0, none, 0, []⟩, none, 0, []⟩ : GateR)) HR4.out
      have frR4_0 := (HR4.out).free 0
      have frR4_1 := (HR4.out).free 1
      have frR4_2 := (HR4.out).free 2
      have frR4_3 := (HR4.out).free 3
      have frR4_4 := (HR4.out).free 4
      have ct4_0 : w4.cell? ⟨w.heap.size + 1 + 1, 0, none⟩ = some (.int .i64 v.val) := (HT4.out).cell 0
      have ct4_1 : w4.cell? ⟨w.heap.size + 1 + 1, 1, none⟩ = some (.int .i64 0) := (HT4.out).cell 1
      have ct4_2 : w4.cell? ⟨w.heap.size + 1 + 1, 2, none⟩ = some (.int .i64 c) := (HT4.out).cell 2
      have ct4_3 : w4.cell? ⟨w.heap.size + 1 + 1, 3, none⟩ = some (.int .i64 m) := (HT4.out).cell 3
      have ct4_4 : w4.cell? ⟨w.heap.size + 1 + 1, 4, none⟩ = some (.int .i64 s) := (HT4.out).cell 4
      have ct4_5 : w4.cell? ⟨w.heap.size + 1 + 1, 5, none⟩ = some (.bool o) := (HT4.out).cell 5
      cases hf : (decide (v.kept.length = 10) || decide (999 < v.nxt))
      · cases o with
        | true =>
          have ftT := (HT4.out).free 1
          go_wp2_with fail
          generalize hW : World.setCell _ _ _ = w5
          have ht5 : Touch (fun i => i = w.heap.size + 1 + 1) w4 w5 := by rw [← hW]; exact Touch.far (K := fun i => i = w.heap.size + 1 + 1) (Touch.refl _ _) (p := ⟨w.heap.size + 1 + 1, 1, none⟩) rfl _
          have hT5 : Blk w5 (w.heap.size + 1 + 1) 57 #[.int .i64 v.val, .int .i64 v.nxt, .int .i64 c, .int .i64 m, .int .i64 s, .bool true] := by rw [← hW]; exact Blk.put HT4.out 1 (.int .i64 v.nxt)
          clear hW
          clear cP4_0 cP4_1 cP4_2 cP4_3 cP4_4 cR4_0 cR4_1 cR4_2 cR4_3 cR4_4 frR4_0 frR4_1 frR4_2 frR4_3 frR4_4 ct4_0 ct4_1 ct4_2 ct4_3 ct4_4 ct4_5 ftT
          have hz5 : w4.heap.size ≤ w5.heap.size := by have := ht5.size; (try simp at this); omega
          have HB5 := Lib.hid (Touch.below HB4.out ht5 (fun i hi => by omega))
          clear HB4
          have HP5 := Lib.hid (Blk.touch HP4.out ht5 (show ¬ (w.heap.size = w.heap.size + 1 + 1) by omega))
          clear HP4
          have HR5 := Lib.hid (Blk.touch HR4.out ht5 (show ¬ (w.heap.size + 1 = w.heap.size + 1 + 1) by omega))
          clear HR4
          clear ht5 HT4 hT5
          have hck := keeping_any v ⟨v.val, v.nxt, c, m, s, true⟩ w5 (Hi.out.over HB5.out) ⟨by omega, by omega⟩ (by omega) f2' f3'
          unfold tapV at hck
          have Hck := Lib.hid hck; clear hck
          refine (Hck.out).mono ?_
          rintro e w6 ⟨⟨u, rfl, hof, hown, hsg⟩, hb6⟩
          have hz6 : w5.heap.size ≤ w6.heap.size := by have := hb6.size; (try simp at this); omega
          have HB6 := Lib.hid (bT HB5.out hb6)
          clear HB5
          have HP6 := Lib.hid (Blk.belowAll HP5.out hb6)
          clear HP5
          have HR6 := Lib.hid (Blk.belowAll HR5.out hb6)
          clear HR5
          clear hb6
          have Hof := Lib.hid hof; clear hof
          have Hsg := Lib.hid hsg; clear hsg
          unfold gateV
          have LTU := Lib.hid (fun k hk => (GateOwn.lt hown k hk).1)
          have UPU := Lib.hid (fun k hk => (GateOwn.lt hown k hk).2)
          have HoU := Lib.hid hown; clear hown
          obtain ⟨cR6_0, cR6_1, cR6_2, cR6_3, cR6_4⟩ := gateCells (t := 40) (v := (⟨0, 0, ⟨0, none, 0, []⟩, none, 0, []⟩ : GateR)) HR6.out
          have frR6_0 := (HR6.out).free 0
          have frR6_1 := (HR6.out).free 1
          have frR6_2 := (HR6.out).free 2
          have frR6_3 := (HR6.out).free 3
          have frR6_4 := (HR6.out).free 4
          go_wp2
          generalize hW : World.setCell _ _ _ = w7
          have ht7 : Touch (fun i => i = w.heap.size + 1) w6 w7 := by rw [← hW]; exact (Touch.far (K := fun i => i = w.heap.size + 1) (Touch.far (K := fun i => i = w.heap.size + 1) (Touch.far (K := fun i => i = w.heap.size + 1) (Touch.far (K := fun i => i = w.heap.size + 1) (Touch.far (K := fun i => i = w.heap.size + 1) (Touch.refl _ _) (p := ⟨w.heap.size + 1, 0, none⟩) rfl _) (p := ⟨w.heap.size + 1, 1, none⟩) rfl _) (p := ⟨w.heap.size + 1, 2, none⟩) rfl _) (p := ⟨w.heap.size + 1, 3, none⟩) rfl _) (p := ⟨w.heap.size + 1, 4, none⟩) rfl _)
          have hbx7 : Blk w7 (w.heap.size + 1) 40 (GateR.cells u) := by rw [← hW]; exact (Blk.put (Blk.put (Blk.put (Blk.put (Blk.put HR6.out 0 (.int .i64 u.val)) 1 (.int .i64 u.nxt)) 2 (.int .i64 u.deny.ver)) 3 (.slice u.deny.cardsA u.deny.cards.length u.deny.cardsc)) 4 (.slice u.keptA u.kept.length u.keptc))
          clear hW
          clear cR6_0 cR6_1 cR6_2 cR6_3 cR6_4 frR6_0 frR6_1 frR6_2 frR6_3 frR6_4
          have hz7 : w6.heap.size ≤ w7.heap.size := by have := ht7.size; (try simp at this); omega
          have HB7 := Lib.hid (Touch.below HB6.out ht7 (fun i hi => by omega))
          clear HB6
          have HP7 := Lib.hid (Blk.touch HP6.out ht7 (show ¬ (w.heap.size = w.heap.size + 1) by omega))
          clear HP6
          have HU7 := Lib.hid (GateOwn.touch HoU.out ht7 (fun i hi e0 => by have a1 := LTU.out _ hi; have a2 := UPU.out _ hi; omega))
          clear HoU
          clear ht7 HR6
          have Hbx7 := Lib.hid hbx7; clear hbx7
          have hE : Fares.holdCard v.of c m s true = (Fares.withTap v.of c m s true, true) := by unfold Fares.holdCard; rw [if_pos ⟨Hv.out, Hc.out⟩]; exact if_neg (show ¬ Fares.stays v.of c true = true from by show ¬ ((Fares.isIn v.deny.cards c && !true) || decide (v.kept.length = 10) || decide (999 < v.nxt)) = true; rw [Bool.or_assoc, hf]; simp)
          obtain ⟨z0, z1, z2, z3, z4⟩ := gateCells (t := 40) (v := u) Hbx7.out
          refine bodyPost_ret (v := .tuple #[gateV u, .bool true]) (by simp [results, Try.results38, go_sem, gateV, z0, z1, z2, z3, z4]) rfl ⟨⟨u, ?_, ?_, GateOwn.base HU7.out (by omega), Hsg.out⟩, HB7.out⟩
          · rw [hE]; rfl
          · rw [hE]; exact Hof.out
        | false =>
          go_wp2_with fail
          refine (denies_any v c _ (Hi.out.over HB4.out) (by omega)).mono ?_
          rintro e w5 ⟨rfl, hb5⟩
          clear cP4_0 cP4_1 cP4_2 cP4_3 cP4_4 cR4_0 cR4_1 cR4_2 cR4_3 cR4_4 frR4_0 frR4_1 frR4_2 frR4_3 frR4_4 ct4_0 ct4_1 ct4_2 ct4_3 ct4_4 ct4_5
          have hz5 : w4.heap.size ≤ w5.heap.size := by have := hb5.size; (try simp at this); omega
          have HB5 := Lib.hid (bT HB4.out hb5)
          clear HB4
          have HP5 := Lib.hid (Blk.belowAll HP4.out hb5)
          clear HP4
          have HT5 := Lib.hid (Blk.belowAll HT4.out hb5)
          clear HT4
          have HR5 := Lib.hid (Blk.belowAll HR4.out hb5)
          clear HR4
          clear hb5
          obtain ⟨cP5_0, cP5_1, cP5_2, cP5_3, cP5_4⟩ := gateCells (t := 40) (v := v) HP5.out
          obtain ⟨cR5_0, cR5_1, cR5_2, cR5_3, cR5_4⟩ := gateCells (t := 40) (v := (⟨0, 0, ⟨0, none, 0, []⟩, none, 0, []⟩ : GateR)) HR5.out
          have frR5_0 := (HR5.out).free 0
          have frR5_1 := (HR5.out).free 1
          have frR5_2 := (HR5.out).free 2
          have frR5_3 := (HR5.out).free 3
          have frR5_4 := (HR5.out).free 4
          have ct5_0 : w5.cell? ⟨w.heap.size + 1 + 1, 0, none⟩ = some (.int .i64 v.val) := (HT5.out).cell 0
          have ct5_1 : w5.cell? ⟨w.heap.size + 1 + 1, 1, none⟩ = some (.int .i64 0) := (HT5.out).cell 1
          have ct5_2 : w5.cell? ⟨w.heap.size + 1 + 1, 2, none⟩ = some (.int .i64 c) := (HT5.out).cell 2
          have ct5_3 : w5.cell? ⟨w.heap.size + 1 + 1, 3, none⟩ = some (.int .i64 m) := (HT5.out).cell 3
          have ct5_4 : w5.cell? ⟨w.heap.size + 1 + 1, 4, none⟩ = some (.int .i64 s) := (HT5.out).cell 4
          have ct5_5 : w5.cell? ⟨w.heap.size + 1 + 1, 5, none⟩ = some (.bool false) := (HT5.out).cell 5
          cases hd : Fares.isIn v.deny.cards c
          · have ftT := (HT5.out).free 1
            go_wp2_with fail
            generalize hW : World.setCell _ _ _ = w6
            have ht6 : Touch (fun i => i = w.heap.size + 1 + 1) w5 w6 := by rw [← hW]; exact Touch.far (K := fun i => i = w.heap.size + 1 + 1) (Touch.refl _ _) (p := ⟨w.heap.size + 1 + 1, 1, none⟩) rfl _
            have hT6 : Blk w6 (w.heap.size + 1 + 1) 57 #[.int .i64 v.val, .int .i64 v.nxt, .int .i64 c, .int .i64 m, .int .i64 s, .bool false] := by rw [← hW]; exact Blk.put HT5.out 1 (.int .i64 v.nxt)
            clear hW
            clear cP5_0 cP5_1 cP5_2 cP5_3 cP5_4 cR5_0 cR5_1 cR5_2 cR5_3 cR5_4 frR5_0 frR5_1 frR5_2 frR5_3 frR5_4 ct5_0 ct5_1 ct5_2 ct5_3 ct5_4 ct5_5 ftT
            have hz6 : w5.heap.size ≤ w6.heap.size := by have := ht6.size; (try simp at this); omega
            have HB6 := Lib.hid (Touch.below HB5.out ht6 (fun i hi => by omega))
            clear HB5
            have HP6 := Lib.hid (Blk.touch HP5.out ht6 (show ¬ (w.heap.size = w.heap.size + 1 + 1) by omega))
            clear HP5
            have HR6 := Lib.hid (Blk.touch HR5.out ht6 (show ¬ (w.heap.size + 1 = w.heap.size + 1 + 1) by omega))
            clear HR5
            clear ht6 HT5 hT6
            have hck := keeping_any v ⟨v.val, v.nxt, c, m, s, false⟩ w6 (Hi.out.over HB6.out) ⟨by omega, by omega⟩ (by omega) f2' f3'
            unfold tapV at hck
            have Hck := Lib.hid hck; clear hck
            refine (Hck.out).mono ?_
            rintro e w7 ⟨⟨u, rfl, hof, hown, hsg⟩, hb7⟩
            have hz7 : w6.heap.size ≤ w7.heap.size := by have := hb7.size; (try simp at this); omega
            have HB7 := Lib.hid (bT HB6.out hb7)
            clear HB6
            have HP7 := Lib.hid (Blk.belowAll HP6.out hb7)
            clear HP6
            have HR7 := Lib.hid (Blk.belowAll HR6.out hb7)
            clear HR6
            clear hb7
            have Hof := Lib.hid hof; clear hof
            have Hsg := Lib.hid hsg; clear hsg
            unfold gateV
            have LTU := Lib.hid (fun k hk => (GateOwn.lt hown k hk).1)
            have UPU := Lib.hid (fun k hk => (GateOwn.lt hown k hk).2)
            have HoU := Lib.hid hown; clear hown
            obtain ⟨cR7_0, cR7_1, cR7_2, cR7_3, cR7_4⟩ := gateCells (t := 40) (v := (⟨0, 0, ⟨0, none, 0, []⟩, none, 0, []⟩ : GateR)) HR7.out
            have frR7_0 := (HR7.out).free 0
            have frR7_1 := (HR7.out).free 1
            have frR7_2 := (HR7.out).free 2
            have frR7_3 := (HR7.out).free 3
            have frR7_4 := (HR7.out).free 4
            go_wp2
            generalize hW : World.setCell _ _ _ = w8
            have ht8 : Touch (fun i => i = w.heap.size + 1) w7 w8 := by rw [← hW]; exact (Touch.far (K := fun i => i = w.heap.size + 1) (Touch.far (K := fun i => i = w.heap.size + 1) (Touch.far (K := fun i => i = w.heap.size + 1) (Touch.far (K := fun i => i = w.heap.size + 1) (Touch.far (K := fun i => i = w.heap.size + 1) (Touch.refl _ _) (p := ⟨w.heap.size + 1, 0, none⟩) rfl _) (p := ⟨w.heap.size + 1, 1, none⟩) rfl _) (p := ⟨w.heap.size + 1, 2, none⟩) rfl _) (p := ⟨w.heap.size + 1, 3, none⟩) rfl _) (p := ⟨w.heap.size + 1, 4, none⟩) rfl _)
            have hbx8 : Blk w8 (w.heap.size + 1) 40 (GateR.cells u) := by rw [← hW]; exact (Blk.put (Blk.put (Blk.put (Blk.put (Blk.put HR7.out 0 (.int .i64 u.val)) 1 (.int .i64 u.nxt)) 2 (.int .i64 u.deny.ver)) 3 (.slice u.deny.cardsA u.deny.cards.length u.deny.cardsc)) 4 (.slice u.keptA u.kept.length u.keptc))
            clear hW
            clear cR7_0 cR7_1 cR7_2 cR7_3 cR7_4 frR7_0 frR7_1 frR7_2 frR7_3 frR7_4
            have hz8 : w7.heap.size ≤ w8.heap.size := by have := ht8.size; (try simp at this); omega
            have HB8 := Lib.hid (Touch.below HB7.out ht8 (fun i hi => by omega))
            clear HB7
            have HP8 := Lib.hid (Blk.touch HP7.out ht8 (show ¬ (w.heap.size = w.heap.size + 1) by omega))
            clear HP7
            have HU8 := Lib.hid (GateOwn.touch HoU.out ht8 (fun i hi e0 => by have a1 := LTU.out _ hi; have a2 := UPU.out _ hi; omega))
            clear HoU
            clear ht8 HR7
            have Hbx8 := Lib.hid hbx8; clear hbx8
            have hE : Fares.holdCard v.of c m s false = (Fares.withTap v.of c m s false, true) := by unfold Fares.holdCard; rw [if_pos ⟨Hv.out, Hc.out⟩]; exact if_neg (show ¬ Fares.stays v.of c false = true from by show ¬ ((Fares.isIn v.deny.cards c && !false) || decide (v.kept.length = 10) || decide (999 < v.nxt)) = true; rw [Bool.or_assoc, hf, hd]; simp)
            obtain ⟨z0, z1, z2, z3, z4⟩ := gateCells (t := 40) (v := u) Hbx8.out
            refine bodyPost_ret (v := .tuple #[gateV u, .bool true]) (by simp [results, Try.results38, go_sem, gateV, z0, z1, z2, z3, z4]) rfl ⟨⟨u, ?_, ?_, GateOwn.base HU8.out (by omega), Hsg.out⟩, HB8.out⟩
            · rw [hE]; rfl
            · rw [hE]; exact Hof.out
          · go_wp2_with fail
            refine (gateOwn_any v _ (Hi.out.over HB5.out) ⟨by omega, by omega⟩).mono ?_
            rintro e w6 ⟨⟨u, rfl, hof, hown, hs1, hs2⟩, hb6⟩
            clear cP5_0 cP5_1 cP5_2 cP5_3 cP5_4 cR5_0 cR5_1 cR5_2 cR5_3 cR5_4 frR5_0 frR5_1 frR5_2 frR5_3 frR5_4 ct5_0 ct5_1 ct5_2 ct5_3 ct5_4 ct5_5
            have hz6 : w5.heap.size ≤ w6.heap.size := by have := hb6.size; (try simp at this); omega
            have HB6 := Lib.hid (bT HB5.out hb6)
            clear HB5
            have HP6 := Lib.hid (Blk.belowAll HP5.out hb6)
            clear HP5
            have HT6 := Lib.hid (Blk.belowAll HT5.out hb6)
            clear HT5
            have HR6 := Lib.hid (Blk.belowAll HR5.out hb6)
            clear HR5
            clear hb6
            have Hof := Lib.hid hof; clear hof
            unfold gateV
            obtain ⟨hownD, hownK, hap⟩ := hown
            have Hap := Lib.hid hap; clear hap
            have LTD := Lib.hid (fun k hk => (DenyOwn.lt hownD k hk).1)
            have UPD := Lib.hid (fun k hk => (DenyOwn.lt hownD k hk).2)
            have HoD := Lib.hid hownD; clear hownD
            have LTK := Lib.hid (fun k hk => (World.ownsRow.lt hownK k hk).1)
            have UPK := Lib.hid (fun k hk => (World.ownsRow.lt hownK k hk).2)
            have HoK := Lib.hid hownK; clear hownK
            have hsg : GateSmall u := ⟨Nat.le_trans hs1 (by omega), Nat.le_trans hs2 (by omega)⟩
            have Hsg := Lib.hid hsg; clear hsg
            obtain ⟨cR6_0, cR6_1, cR6_2, cR6_3, cR6_4⟩ := gateCells (t := 40) (v := (⟨0, 0, ⟨0, none, 0, []⟩, none, 0, []⟩ : GateR)) HR6.out
            have frR6_0 := (HR6.out).free 0
            have frR6_1 := (HR6.out).free 1
            have frR6_2 := (HR6.out).free 2
            have frR6_3 := (HR6.out).free 3
            have frR6_4 := (HR6.out).free 4
            go_wp2
            generalize hW : World.setCell _ _ _ = w7
            have ht7 : Touch (fun i => i = w.heap.size + 1) w6 w7 := by rw [← hW]; exact (Touch.far (K := fun i => i = w.heap.size + 1) (Touch.far (K := fun i => i = w.heap.size + 1) (Touch.far (K := fun i => i = w.heap.size + 1) (Touch.far (K := fun i => i = w.heap.size + 1) (Touch.far (K := fun i => i = w.heap.size + 1) (Touch.refl _ _) (p := ⟨w.heap.size + 1, 0, none⟩) rfl _) (p := ⟨w.heap.size + 1, 1, none⟩) rfl _) (p := ⟨w.heap.size + 1, 2, none⟩) rfl _) (p := ⟨w.heap.size + 1, 3, none⟩) rfl _) (p := ⟨w.heap.size + 1, 4, none⟩) rfl _)
            have hbx7 : Blk w7 (w.heap.size + 1) 40 (GateR.cells u) := by rw [← hW]; exact (Blk.put (Blk.put (Blk.put (Blk.put (Blk.put HR6.out 0 (.int .i64 u.val)) 1 (.int .i64 u.nxt)) 2 (.int .i64 u.deny.ver)) 3 (.slice u.deny.cardsA u.deny.cards.length u.deny.cardsc)) 4 (.slice u.keptA u.kept.length u.keptc))
            clear hW
            clear cR6_0 cR6_1 cR6_2 cR6_3 cR6_4 frR6_0 frR6_1 frR6_2 frR6_3 frR6_4
            have hz7 : w6.heap.size ≤ w7.heap.size := by have := ht7.size; (try simp at this); omega
            have HB7 := Lib.hid (Touch.below HB6.out ht7 (fun i hi => by omega))
            clear HB6
            have HP7 := Lib.hid (Blk.touch HP6.out ht7 (show ¬ (w.heap.size = w.heap.size + 1) by omega))
            clear HP6
            have HT7 := Lib.hid (Blk.touch HT6.out ht7 (show ¬ (w.heap.size + 1 + 1 = w.heap.size + 1) by omega))
            clear HT6
            have HD7 := Lib.hid (DenyOwn.touch HoD.out ht7 (fun i hi e0 => by have a1 := LTD.out _ hi; have a2 := UPD.out _ hi; omega))
            clear HoD
            have HK7 := Lib.hid (ownTouch HoK.out ht7 (fun i hi e0 => by have a1 := LTK.out _ hi; have a2 := UPK.out _ hi; omega))
            clear HoK
            clear ht7 HR6
            have Hbx7 := Lib.hid hbx7; clear hbx7
            have hE : Fares.holdCard v.of c m s false = (v.of, false) := by unfold Fares.holdCard; rw [if_pos ⟨Hv.out, Hc.out⟩]; exact if_pos (show Fares.stays v.of c false = true from (show ((Fares.isIn v.deny.cards c && !false) || decide (v.kept.length = 10) || decide (999 < v.nxt)) = true by rw [hd]; simp))
            obtain ⟨z0, z1, z2, z3, z4⟩ := gateCells (t := 40) (v := u) Hbx7.out
            refine bodyPost_ret (v := .tuple #[gateV u, .bool false]) (by simp [results, Try.results38, go_sem, gateV, z0, z1, z2, z3, z4]) rfl ⟨⟨u, ?_, ?_, ⟨DenyOwn.base HD7.out (by omega), ownBase HK7.out (by omega), Hap.out⟩, Hsg.out⟩, HB7.out⟩
            · rw [hE]; rfl
            · rw [hE]; exact Hof.out
      · go_wp2_with fail
        refine (gateOwn_any v _ (Hi.out.over HB4.out) ⟨by omega, by omega⟩).mono ?_
        rintro e w5 ⟨⟨u, rfl, hof, hown, hs1, hs2⟩, hb5⟩
        clear cP4_0 cP4_1 cP4_2 cP4_3 cP4_4 cR4_0 cR4_1 cR4_2 cR4_3 cR4_4 frR4_0 frR4_1 frR4_2 frR4_3 frR4_4 ct4_0 ct4_1 ct4_2 ct4_3 ct4_4 ct4_5
        have hz5 : w4.heap.size ≤ w5.heap.size := by have := hb5.size; (try simp at this); omega
        have HB5 := Lib.hid (bT HB4.out hb5)
        clear HB4
        have HP5 := Lib.hid (Blk.belowAll HP4.out hb5)
        clear HP4
        have HT5 := Lib.hid (Blk.belowAll HT4.out hb5)
        clear HT4
        have HR5 := Lib.hid (Blk.belowAll HR4.out hb5)
        clear HR4
        clear hb5
        have Hof := Lib.hid hof; clear hof
        unfold gateV
        obtain ⟨hownD, hownK, hap⟩ := hown
        have Hap := Lib.hid hap; clear hap
        have LTD := Lib.hid (fun k hk => (DenyOwn.lt hownD k hk).1)
        have UPD := Lib.hid (fun k hk => (DenyOwn.lt hownD k hk).2)
        have HoD := Lib.hid hownD; clear hownD
        have LTK := Lib.hid (fun k hk => (World.ownsRow.lt hownK k hk).1)
        have UPK := Lib.hid (fun k hk => (World.ownsRow.lt hownK k hk).2)
        have HoK := Lib.hid hownK; clear hownK
        have hsg : GateSmall u := ⟨Nat.le_trans hs1 (by omega), Nat.le_trans hs2 (by omega)⟩
        have Hsg := Lib.hid hsg; clear hsg
        obtain ⟨cR5_0, cR5_1, cR5_2, cR5_3, cR5_4⟩ := gateCells (t := 40) (v := (⟨0, 0, ⟨0, none, 0, []⟩, none, 0, []⟩ : GateR)) HR5.out
        have frR5_0 := (HR5.out).free 0
        have frR5_1 := (HR5.out).free 1
        have frR5_2 := (HR5.out).free 2
        have frR5_3 := (HR5.out).free 3
        have frR5_4 := (HR5.out).free 4
        go_wp2
        generalize hW : World.setCell _ _ _ = w6
        have ht6 : Touch (fun i => i = w.heap.size + 1) w5 w6 := by rw [← hW]; exact (Touch.far (K := fun i => i = w.heap.size + 1) (Touch.far (K := fun i => i = w.heap.size + 1) (Touch.far (K := fun i => i = w.heap.size + 1) (Touch.far (K := fun i => i = w.heap.size + 1) (Touch.far (K := fun i => i = w.heap.size + 1) (Touch.refl _ _) (p := ⟨w.heap.size + 1, 0, none⟩) rfl _) (p := ⟨w.heap.size + 1, 1, none⟩) rfl _) (p := ⟨w.heap.size + 1, 2, none⟩) rfl _) (p := ⟨w.heap.size + 1, 3, none⟩) rfl _) (p := ⟨w.heap.size + 1, 4, none⟩) rfl _)
        have hbx6 : Blk w6 (w.heap.size + 1) 40 (GateR.cells u) := by rw [← hW]; exact (Blk.put (Blk.put (Blk.put (Blk.put (Blk.put HR5.out 0 (.int .i64 u.val)) 1 (.int .i64 u.nxt)) 2 (.int .i64 u.deny.ver)) 3 (.slice u.deny.cardsA u.deny.cards.length u.deny.cardsc)) 4 (.slice u.keptA u.kept.length u.keptc))
        clear hW
        clear cR5_0 cR5_1 cR5_2 cR5_3 cR5_4 frR5_0 frR5_1 frR5_2 frR5_3 frR5_4
        have hz6 : w5.heap.size ≤ w6.heap.size := by have := ht6.size; (try simp at this); omega
        have HB6 := Lib.hid (Touch.below HB5.out ht6 (fun i hi => by omega))
        clear HB5
        have HP6 := Lib.hid (Blk.touch HP5.out ht6 (show ¬ (w.heap.size = w.heap.size + 1) by omega))
        clear HP5
        have HT6 := Lib.hid (Blk.touch HT5.out ht6 (show ¬ (w.heap.size + 1 + 1 = w.heap.size + 1) by omega))
        clear HT5
        have HD6 := Lib.hid (DenyOwn.touch HoD.out ht6 (fun i hi e0 => by have a1 := LTD.out _ hi; have a2 := UPD.out _ hi; omega))
        clear HoD
        have HK6 := Lib.hid (ownTouch HoK.out ht6 (fun i hi e0 => by have a1 := LTK.out _ hi; have a2 := UPK.out _ hi; omega))
        clear HoK
        clear ht6 HR5
        have Hbx6 := Lib.hid hbx6; clear hbx6
        have hE : Fares.holdCard v.of c m s o = (v.of, o) := by unfold Fares.holdCard; rw [if_pos ⟨Hv.out, Hc.out⟩]; exact if_pos (show Fares.stays v.of c o = true from (show (_ || decide (v.kept.length = 10) || decide (999 < v.nxt)) = true by rw [Bool.or_assoc, hf]; simp))
        obtain ⟨z0, z1, z2, z3, z4⟩ := gateCells (t := 40) (v := u) Hbx6.out
        refine bodyPost_ret (v := .tuple #[gateV u, .bool o]) (by simp [results, Try.results38, go_sem, gateV, z0, z1, z2, z3, z4]) rfl ⟨⟨u, ?_, ?_, ⟨DenyOwn.base HD6.out (by omega), ownBase HK6.out (by omega), Hap.out⟩, Hsg.out⟩, HB6.out⟩
        · rw [hE]; rfl
        · rw [hE]; exact Hof.out
    · rw [decide_eq_false hc]
      have Hc := Lib.hid hc; clear hc
      go_wp2
      generalize hW : World.setCell _ _ _ = w4
      have ht4 : Touch (fun i => i = w.heap.size + 1) w3 w4 := by rw [← hW]; exact (Touch.far (K := fun i => i = w.heap.size + 1) (Touch.far (K := fun i => i = w.heap.size + 1) (Touch.far (K := fun i => i = w.heap.size + 1) (Touch.far (K := fun i => i = w.heap.size + 1) (Touch.far (K := fun i => i = w.heap.size + 1) (Touch.refl _ _) (p := ⟨w.heap.size + 1, 0, none⟩) rfl _) (p := ⟨w.heap.size + 1, 1, none⟩) rfl _) (p := ⟨w.heap.size + 1, 2, none⟩) rfl _) (p := ⟨w.heap.size + 1, 3, none⟩) rfl _) (p := ⟨w.heap.size + 1, 4, none⟩) rfl _)
      have hbx4 : Blk w4 (w.heap.size + 1) 40 (GateR.cells (⟨0, 0, ⟨0, none, 0, []⟩, none, 0, []⟩ : GateR)) := by rw [← hW]; exact (Blk.put (Blk.put (Blk.put (Blk.put (Blk.put HR3.out 0 (.int .i64 (⟨0, 0, ⟨0, none, 0, []⟩, none, 0, []⟩ : GateR).val)) 1 (.int .i64 (⟨0, 0, ⟨0, none, 0, []⟩, none, 0, []⟩ : GateR).nxt)) 2 (.int .i64 (⟨0, 0, ⟨0, none, 0, []⟩, none, 0, []⟩ : GateR).deny.ver)) 3 (.slice (⟨0, 0, ⟨0, none, 0, []⟩, none, 0, []⟩ : GateR).deny.cardsA (⟨0, 0, ⟨0, none, 0, []⟩, none, 0, []⟩ : GateR).deny.cards.length (⟨0, 0, ⟨0, none, 0, []⟩, none, 0, []⟩ : GateR).deny.cardsc)) 4 (.slice (⟨0, 0, ⟨0, none, 0, []⟩, none, 0, []⟩ : GateR).keptA (⟨0, 0, ⟨0, none, 0, []⟩, none, 0, []⟩ : GateR).kept.length (⟨0, 0, ⟨0, none, 0, []⟩, none, 0, []⟩ : GateR).keptc))
      clear hW
      clear cP3_0 cP3_1 cP3_2 cP3_3 cP3_4 cR3_0 cR3_1 cR3_2 cR3_3 cR3_4 frR3_0 frR3_1 frR3_2 frR3_3 frR3_4 ct3_0 ct3_1 ct3_2 ct3_3 ct3_4 ct3_5
      have hz4 : w3.heap.size ≤ w4.heap.size := by have := ht4.size; (try simp at this); omega
      have HB4 := Lib.hid (Touch.below HB3.out ht4 (fun i hi => by omega))
      clear HB3
      have HP4 := Lib.hid (Blk.touch HP3.out ht4 (show ¬ (w.heap.size = w.heap.size + 1) by omega))
      clear HP3
      have HT4 := Lib.hid (Blk.touch HT3.out ht4 (show ¬ (w.heap.size + 1 + 1 = w.heap.size + 1) by omega))
      clear HT3
      clear ht4 HR3
      have Hbx4 := Lib.hid hbx4; clear hbx4
      have hE : Fares.holdCard v.of c m s o = (Fares.zeroGate, false) := by unfold Fares.holdCard; exact if_neg (fun e => Hc.out e.2)
      obtain ⟨z0, z1, z2, z3, z4⟩ := gateCells (t := 40) (v := (⟨0, 0, ⟨0, none, 0, []⟩, none, 0, []⟩ : GateR)) Hbx4.out
      refine bodyPost_ret (v := .tuple #[gateV (⟨0, 0, ⟨0, none, 0, []⟩, none, 0, []⟩ : GateR), .bool false]) (by simp [results, Try.results38, go_sem, gateV, z0, z1, z2, z3, z4]) rfl ⟨⟨(⟨0, 0, ⟨0, none, 0, []⟩, none, 0, []⟩ : GateR), ?_, ?_, ⟨⟨World.ownsRow_nil _ _ _ _, trivial⟩, World.ownsRow_nil _ _ _ _, fun k h => by cases h⟩, ⟨Nat.zero_le _, Nat.zero_le _⟩⟩, HB4.out⟩
      · rw [hE]; rfl
      · rw [hE]; rfl
end Go.Proofs.Ytpijjlggmibfnaa
