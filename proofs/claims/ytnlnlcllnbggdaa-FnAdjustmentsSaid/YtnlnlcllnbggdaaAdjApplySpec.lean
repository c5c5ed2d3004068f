/-
  Chapter 19: adjustments laid on amounts: the model's function.
-/
import Derived.Test.YtnlnlcllnbggdaaAdjApply
import Derived.Test.YtnlnlcllnbggdaaPutInt
import Derived.StillTactics
set_option linter.unusedSimpArgs false
namespace Go.Proofs.Ytnlnlcllnbggdaa
open Go.RowKit Go.Deep
set_option linter.unusedVariables false

set_option maxRecDepth 100000 in
set_option maxHeartbeats 4000000 in
theorem specApplyAdjust_any (A B : Option Addr) (n m c d : Nat) (xs : List Int) (cs : List Fares.Adjust) (w : World) (hx : Ints w w.heap.size A xs) (hy : Adjusts w w.heap.size B cs) (hn : xs.length = n) (hm : cs.length = m) (hl : n ≤ 1000000000) (hl2 : m ≤ 1048576) :
    Calls Try.prog 15 #[.slice A n c, .slice B m d] w (AppliesAdjust xs cs w) := by
  subst hn
  subst hm
  have none_ : ∀ (w' : World), Fares.applyAdjust xs cs = ([], false) → Below w.heap.size w w' → AppliesAdjust xs cs w (.returned (.tuple #[.slice none 0 0, .bool false])) w' := fun w' h hb => by
    unfold AppliesAdjust
    rw [h]
    exact ⟨_, rfl, OwnInts.none_ _ _, hb⟩
  have some_ : ∀ (w' : World) (v : Value), Fares.applyAdjust xs cs = (Fares.applyTo xs cs, true) → OwnInts w' w.heap.size v (Fares.applyTo xs cs) → Below w.heap.size w w' → AppliesAdjust xs cs w (.returned (.tuple #[v, .bool true])) w' := fun w' v h ho hb => by
    unfold AppliesAdjust
    rw [h]
    exact ⟨_, rfl, ho, hb⟩
  by_cases h1 : Fares.dueOk xs = true
  · obtain ⟨h29, hin⟩ := Fares.dueOk_iff.1 h1
    have H29 := Lib.hid h29; clear h29
    have Hin := Lib.hid hin; clear hin
    obtain ⟨ba, oa, rfl, _, _⟩ := hx.row (by have := H29.out; omega)
    go_enter Try.func15, Try.ntmps15
    go_wp2_with fail
    refine (validDue_any _ _ c xs _ hx rfl (by omega)).mono ?_
    rw [h1]
    rintro e w' ⟨rfl, rfl⟩
    go_wp2_with fail
    refine (copyInts_any _ _ c xs _ hx rfl (fun e => by cases e) (by have := H29.out; omega)).mono ?_
    rintro e w1 ⟨v, rfl, ho, hb2⟩
    have hc2 : Below w.heap.size w w1 := hb2
    clear hb2
    obtain ⟨gb, cap, rfl, hcap1, hcap2, hgb⟩ := own_some ho (by have := H29.out; omega)
    unfold maxLen at hcap2
    have Ho := Lib.hid ho; clear ho
    go_wp2
    go_loopw [7] (fun i wr => ∃ k : Nat, k ≤ cs.length ∧ i = .int .i64 k ∧ OwnInts wr w.heap.size (.slice (some ⟨gb, 0, none⟩) xs.length cap) (Fares.applyTo xs (cs.take k)) ∧ Fares.ascOk ((cs.map (·.d)).take k) 28 ∧ (∀ j c, j < k → cs[j]? = some c → -100000 ≤ c.a ∧ c.a ≤ 100000) ∧ Below w.heap.size w wr) (fun i _ => cs.length - (intOf i).toNat)
    case atStart => exact ⟨0, Nat.zero_le _, rfl, Ho.out, Fares.ascOk_nil 28, fun j c hj => by omega, hc2⟩
    case round =>
      obtain ⟨k, hk, rfl, hown, hasc, hamt, hb⟩ := hrel
      have Hasc := Lib.hid hasc; clear hasc
      have Hamt := Lib.hid hamt; clear hamt
      have Hown := Lib.hid hown; clear hown
      have hbs := hb.size
      by_cases hlt : k < cs.length
      · skip
        obtain ⟨c, hck⟩ : ∃ c, cs[k]? = some c := ⟨cs[k], List.getElem?_eq_getElem hlt⟩
        obtain ⟨b1, o1, rfl, hb1, hr1⟩ := hy.row (by omega)
        obtain ⟨p0, p1⟩ := (hr1 k c hck).below hb hb1
        have i0 : (0 : Int) ≤ (k : Int) := by omega
        have i1 : (k : Int) < (cs.length : Int) := by omega
        by_cases hd : 0 ≤ c.d ∧ c.d ≤ 28
        · obtain ⟨cd, ca⟩ := c
          dsimp only at hd p0 p1
          obtain ⟨dn, rfl⟩ : ∃ dn : Nat, cd = dn := ⟨cd.toNat, by omega⟩
          have Hckd := Lib.hid (show (cs.map (·.d))[k]? = some (dn : Int) by rw [List.getElem?_map, hck]; rfl)
          obtain ⟨_, s0, s1⟩ := AdjustBox.new wr (⟨(dn : Int), ca⟩ : Fares.Adjust) 34
          dsimp only at s0 s1
          have hba := bA hb (.cells #[.int .i64 (dn : Int), .int .i64 ca] 34)
          have hdn2 : (dn : Int).toNat = dn := by omega
          have hd29 : dn < 29 := by omega
          obtain ⟨x0, hx0⟩ : ∃ x0, Fares.nth xs dn = x0 := ⟨_, rfl⟩
          have x01 := Hin.out dn hd29
          rw [hx0] at x01
          by_cases ha : -100000 ≤ ca ∧ ca ≤ 100000
          · by_cases hk0 : 0 < k
            · skip
              obtain ⟨j, hj⟩ : ∃ j, k = j + 1 := ⟨k - 1, by omega⟩
              obtain ⟨y, hyj⟩ : ∃ y, cs[j]? = some y := ⟨cs[j], List.getElem?_eq_getElem (by omega)⟩
              obtain ⟨r0, r1⟩ := ((hr1 j y hyj).below hb hb1)
              obtain ⟨r0, r1⟩ := (AdjustAt.below ⟨r0, r1⟩ (bA (Below.refl wr.heap.size wr) (.cells #[.int .i64 (dn : Int), .int .i64 ca] 34)) (by omega))
              have w1 : IntKind.i64.wrap ((k : Int) - 1) = (j : Int) := by rw [IntKind.wrap_i64]; omega
              have j0 : (0 : Int) ≤ (j : Int) := by omega
              have j1 : (j : Int) < (cs.length : Int) := by omega
              have hk1 : (0 : Int) < (k : Int) := by omega
              have Hlast := Lib.hid (show Fares.LastOf (cs.map (·.d)) k y.d from .inr ⟨j, hj, by rw [List.getElem?_map, hyj]; rfl⟩)
              have Hyd := Lib.hid (show 0 ≤ y.d from (Hasc.out.1 j y.d (by rw [List.getElem?_take, if_pos (by omega), List.getElem?_map, hyj]; rfl)).1)
              have Hyj := Lib.hid hyj; clear hyj
              have Hj := Lib.hid hj; clear hj
              by_cases hle : (dn : Int) ≤ y.d
              · have hle' : decide ((dn : Int) ≤ y.d) = true := decide_eq_true hle
                have HN := Lib.hid (Fares.apply_no_days xs (fun h => Fares.ascOk_not Hlast.out Hckd.out (.inl hle) h))
                clear hck hr1 hx hy
                go_wp2
                generalize wr.alloc (.cells #[.int .i64 (dn : Int), .int .i64 ca] 34) = wa at *
                go_quiet ((go_at_call 37; first | (refine quiet_same (inRange_yes _ _ _ _ ?_ ?_) <;> omega) | (refine quiet_same (inRange_no _ _ _ _ ?_); omega)))
                go_wp2
                go_ret2
                exact none_ _ HN.out (by first | exact bD hba _ | exact hba)
              · have hle' : decide ((dn : Int) ≤ y.d) = false := decide_eq_false hle
                have Hasc2 := Lib.hid (Fares.ascOk_take_succ (M := 28) Hasc.out Hlast.out Hckd.out (by omega) hd.2)
                have Hd2 := Lib.hid (show Fares.daysOk (cs.take (k + 1)) by unfold Fares.daysOk; rw [List.map_take]; exact Hasc2.out)
                have hck2 : (cs.take (k + 1))[k]? = some (⟨(dn : Int), ca⟩ : Fares.Adjust) := by rw [List.getElem?_take, if_pos (by omega)]; exact hck
                have hbef := Fares.nth_before Hd2.out H29.out hck2
                rw [List.take_take, Nat.min_eq_left (by omega), hdn2, hx0] at hbef
                have Hcur : Hid ((Fares.applyTo xs (cs.take k))[dn]? = some x0) := Lib.hid (by rw [← hbef]; exact Fares.nth_some (by rw [Fares.applyTo_length]; have := H29.out; omega))
                have Hnx := Lib.hid (show Fares.applyTo xs (cs.take (k + 1)) = (Fares.applyTo xs (cs.take k)).set dn (x0 + ca) by rw [Fares.applyTo_next hck, Fares.applyOne_eq (c := (⟨(dn : Int), ca⟩ : Fares.Adjust)) rfl, hbef])
                have Hck := Lib.hid hck
                obtain ⟨g', cap', ev, hbg, hlg, hle, hmx, hcell, hfree, hthere⟩ := own_at intCells 1 (fun _ => rfl) Hown.out (show 0 < (Fares.applyTo xs (cs.take k)).length by rw [Fares.applyTo_length]; have := H29.out; omega)
                injection ev with ev1 ev2 ev3
                injection ev1 with ev1
                injection ev1 with ev1
                subst ev1
                clear ev2 ev3 hle hmx hthere
                have q0 : wr.cell? ⟨gb, dn, none⟩ = some (.int .i64 x0) := by
                  have h9 := hcell dn x0 0 _ Hcur.out rfl
                  simpa using h9
                have f0 : wr.frozen? ⟨gb, dn, none⟩ = false := hfree dn
                clear hcell hfree
                obtain ⟨_, s0, s1⟩ := AdjustBox.new wr (⟨(dn : Int), ca⟩ : Fares.Adjust) 34
                have q0a : (wr.alloc (.cells #[.int .i64 (dn : Int), .int .i64 ca] 34)).cell? ⟨gb, dn, none⟩ = some (.int .i64 x0) := ((bA (Below.refl wr.heap.size wr) _).cell (p := ⟨gb, dn, none⟩) hlg).trans q0
                have f0a : (wr.alloc (.cells #[.int .i64 (dn : Int), .int .i64 ca] 34)).frozen? ⟨gb, dn, none⟩ = false := ((bA (Below.refl wr.heap.size wr) _).frozen (p := ⟨gb, dn, none⟩) hlg).trans f0
                have hba := bA hb (.cells #[.int .i64 (dn : Int), .int .i64 ca] 34)
                have Howna := Lib.hid (show OwnInts (wr.alloc (.cells #[.int .i64 (dn : Int), .int .i64 ca] 34)) w.heap.size (.slice (some ⟨gb, 0, none⟩) xs.length cap) (Fares.applyTo xs (cs.take k)) from OwnInts.below Hown.out (bA (Below.refl _ _) _))
                have hwrs : wr.heap.size < (wr.alloc (.cells #[.int .i64 (dn : Int), .int .i64 ca] 34)).heap.size := by simp
                have Hbx : gb ≠ wr.heap.size := by omega
                clear hck hck2 hr1 hx hy hx0 hbef q0 f0 Hlast
                have z0 : (0 : Int) ≤ (dn : Int) := by omega
                have z1 : (dn : Int) < (xs.length : Int) := by have := H29.out; omega
                obtain ⟨hd0, hd1⟩ := hd
                obtain ⟨ha0, ha1⟩ := ha
                clear hle
                go_wp2
                generalize hwa : wr.alloc (.cells #[.int .i64 (dn : Int), .int .i64 ca] 34) = wa at *
                go_quiet ((go_at_call 37; first | (refine quiet_same (inRange_yes _ _ _ _ ?_ ?_) <;> omega) | (refine quiet_same (inRange_no _ _ _ _ ?_); omega)))
                generalize hwq : wa.drewN nq = wq
                have s0 : wq.cell? ⟨wr.heap.size, 0, none⟩ = some (.int .i64 (dn : Int)) := by rw [← hwq]; exact s0
                have s1 : wq.cell? ⟨wr.heap.size, 1, none⟩ = some (.int .i64 ca) := by rw [← hwq]; exact s1
                have q0a : wq.cell? ⟨gb, dn, none⟩ = some (.int .i64 x0) := by rw [← hwq]; exact q0a
                have f0a : wq.frozen? ⟨gb, dn, none⟩ = false := by rw [← hwq]; exact f0a
                have hba : Below w.heap.size w wq := by rw [← hwq]; exact bD hba nq
                have Hownq := Lib.hid (show OwnInts wq w.heap.size (.slice (some ⟨gb, 0, none⟩) xs.length cap) (Fares.applyTo xs (cs.take k)) by rw [← hwq]; exact Howna.out)
                clear Howna hwq hwa
                go_wp2
                go_still_tail 12, (by kernel_rfl)
                change wpList _ _ _ _ _ _
                go_wp2
                go_roundw
                case rel => exact ⟨k + 1, by omega, by go_num, by rw [Hnx.out]; exact OwnInts.put (w := wq.drew) Hownq.out (Fares.applyTo_length _ _) (by rw [Fares.applyTo_length]; have := H29.out; omega), Hasc2.out, fun j c' hj hc' => by
                  rcases Nat.lt_or_ge j k with h | h
                  · exact Hamt.out j c' h hc'
                  · have e : j = k := by omega
                    subst e
                    rw [Hck.out] at hc'
                    injection hc' with hc'
                    subst hc'
                    exact ⟨ha0, ha1⟩, bS (bD1 hba) (by show w.heap.size ≤ gb; omega) _⟩
                case measure => simp [intOf]; omega
            · have hk1 : decide ((0 : Int) < (k : Int)) = false := by simp; omega
              have Hlast := Lib.hid (show Fares.LastOf (cs.map (·.d)) k (-1) from .inl ⟨by omega, rfl⟩)
              have Hasc2 := Lib.hid (Fares.ascOk_take_succ (M := 28) Hasc.out Hlast.out Hckd.out (by omega) hd.2)
              have Hd2 := Lib.hid (show Fares.daysOk (cs.take (k + 1)) by unfold Fares.daysOk; rw [List.map_take]; exact Hasc2.out)
              have hck2 : (cs.take (k + 1))[k]? = some (⟨(dn : Int), ca⟩ : Fares.Adjust) := by rw [List.getElem?_take, if_pos (by omega)]; exact hck
              have hbef := Fares.nth_before Hd2.out H29.out hck2
              rw [List.take_take, Nat.min_eq_left (by omega), hdn2, hx0] at hbef
              have Hcur : Hid ((Fares.applyTo xs (cs.take k))[dn]? = some x0) := Lib.hid (by rw [← hbef]; exact Fares.nth_some (by rw [Fares.applyTo_length]; have := H29.out; omega))
              have Hnx := Lib.hid (show Fares.applyTo xs (cs.take (k + 1)) = (Fares.applyTo xs (cs.take k)).set dn (x0 + ca) by rw [Fares.applyTo_next hck, Fares.applyOne_eq (c := (⟨(dn : Int), ca⟩ : Fares.Adjust)) rfl, hbef])
              have Hck := Lib.hid hck
              obtain ⟨g', cap', ev, hbg, hlg, hle, hmx, hcell, hfree, hthere⟩ := own_at intCells 1 (fun _ => rfl) Hown.out (show 0 < (Fares.applyTo xs (cs.take k)).length by rw [Fares.applyTo_length]; have := H29.out; omega)
              injection ev with ev1 ev2 ev3
              injection ev1 with ev1
              injection ev1 with ev1
              subst ev1
              clear ev2 ev3 hle hmx hthere
              have q0 : wr.cell? ⟨gb, dn, none⟩ = some (.int .i64 x0) := by
                have h9 := hcell dn x0 0 _ Hcur.out rfl
                simpa using h9
              have f0 : wr.frozen? ⟨gb, dn, none⟩ = false := hfree dn
              clear hcell hfree
              obtain ⟨_, s0, s1⟩ := AdjustBox.new wr (⟨(dn : Int), ca⟩ : Fares.Adjust) 34
              have q0a : (wr.alloc (.cells #[.int .i64 (dn : Int), .int .i64 ca] 34)).cell? ⟨gb, dn, none⟩ = some (.int .i64 x0) := ((bA (Below.refl wr.heap.size wr) _).cell (p := ⟨gb, dn, none⟩) hlg).trans q0
              have f0a : (wr.alloc (.cells #[.int .i64 (dn : Int), .int .i64 ca] 34)).frozen? ⟨gb, dn, none⟩ = false := ((bA (Below.refl wr.heap.size wr) _).frozen (p := ⟨gb, dn, none⟩) hlg).trans f0
              have hba := bA hb (.cells #[.int .i64 (dn : Int), .int .i64 ca] 34)
              have Howna := Lib.hid (show OwnInts (wr.alloc (.cells #[.int .i64 (dn : Int), .int .i64 ca] 34)) w.heap.size (.slice (some ⟨gb, 0, none⟩) xs.length cap) (Fares.applyTo xs (cs.take k)) from OwnInts.below Hown.out (bA (Below.refl _ _) _))
              have hwrs : wr.heap.size < (wr.alloc (.cells #[.int .i64 (dn : Int), .int .i64 ca] 34)).heap.size := by simp
              have Hbx : gb ≠ wr.heap.size := by omega
              clear hck hck2 hr1 hx hy hx0 hbef q0 f0 Hlast
              have z0 : (0 : Int) ≤ (dn : Int) := by omega
              have z1 : (dn : Int) < (xs.length : Int) := by have := H29.out; omega
              obtain ⟨hd0, hd1⟩ := hd
              obtain ⟨ha0, ha1⟩ := ha
              skip
              go_wp2
              generalize hwa : wr.alloc (.cells #[.int .i64 (dn : Int), .int .i64 ca] 34) = wa at *
              go_quiet ((go_at_call 37; first | (refine quiet_same (inRange_yes _ _ _ _ ?_ ?_) <;> omega) | (refine quiet_same (inRange_no _ _ _ _ ?_); omega)))
              generalize hwq : wa.drewN nq = wq
              have s0 : wq.cell? ⟨wr.heap.size, 0, none⟩ = some (.int .i64 (dn : Int)) := by rw [← hwq]; exact s0
              have s1 : wq.cell? ⟨wr.heap.size, 1, none⟩ = some (.int .i64 ca) := by rw [← hwq]; exact s1
              have q0a : wq.cell? ⟨gb, dn, none⟩ = some (.int .i64 x0) := by rw [← hwq]; exact q0a
              have f0a : wq.frozen? ⟨gb, dn, none⟩ = false := by rw [← hwq]; exact f0a
              have hba : Below w.heap.size w wq := by rw [← hwq]; exact bD hba nq
              have Hownq := Lib.hid (show OwnInts wq w.heap.size (.slice (some ⟨gb, 0, none⟩) xs.length cap) (Fares.applyTo xs (cs.take k)) by rw [← hwq]; exact Howna.out)
              clear Howna hwq hwa
              go_wp2
              go_still_tail 12, (by kernel_rfl)
              change wpList _ _ _ _ _ _
              go_wp2
              go_roundw
              case rel => exact ⟨k + 1, by omega, by go_num, by rw [Hnx.out]; exact OwnInts.put (w := wq.drew) Hownq.out (Fares.applyTo_length _ _) (by rw [Fares.applyTo_length]; have := H29.out; omega), Hasc2.out, fun j c' hj hc' => by
                rcases Nat.lt_or_ge j k with h | h
                · exact Hamt.out j c' h hc'
                · have e : j = k := by omega
                  subst e
                  rw [Hck.out] at hc'
                  injection hc' with hc'
                  subst hc'
                  exact ⟨ha0, ha1⟩, bS (bD1 hba) (by show w.heap.size ≤ gb; omega) _⟩
              case measure => simp [intOf]; omega
          · by_cases hk0 : 0 < k
            · skip
              obtain ⟨j, hj⟩ : ∃ j, k = j + 1 := ⟨k - 1, by omega⟩
              obtain ⟨y, hyj⟩ : ∃ y, cs[j]? = some y := ⟨cs[j], List.getElem?_eq_getElem (by omega)⟩
              obtain ⟨r0, r1⟩ := ((hr1 j y hyj).below hb hb1)
              obtain ⟨r0, r1⟩ := (AdjustAt.below ⟨r0, r1⟩ (bA (Below.refl wr.heap.size wr) (.cells #[.int .i64 (dn : Int), .int .i64 ca] 34)) (by omega))
              have w1 : IntKind.i64.wrap ((k : Int) - 1) = (j : Int) := by rw [IntKind.wrap_i64]; omega
              have j0 : (0 : Int) ≤ (j : Int) := by omega
              have j1 : (j : Int) < (cs.length : Int) := by omega
              have hk1 : (0 : Int) < (k : Int) := by omega
              have Hlast := Lib.hid (show Fares.LastOf (cs.map (·.d)) k y.d from .inr ⟨j, hj, by rw [List.getElem?_map, hyj]; rfl⟩)
              have Hyd := Lib.hid (show 0 ≤ y.d from (Hasc.out.1 j y.d (by rw [List.getElem?_take, if_pos (by omega), List.getElem?_map, hyj]; rfl)).1)
              have Hyj := Lib.hid hyj; clear hyj
              have Hj := Lib.hid hj; clear hj
              have hfit : ¬ (0 ≤ Fares.nth xs (dn : Int).toNat + ca ∧ Fares.nth xs (dn : Int).toNat + ca ≤ 100000) := by rw [hdn2, hx0]; omega
              by_cases hle : (dn : Int) ≤ y.d
              · have hle' : decide ((dn : Int) ≤ y.d) = true := decide_eq_true hle
                have HN := Lib.hid (Fares.apply_no_fit (xs := xs) hck hfit)
                clear hck hr1 hx hy
                go_wp2
                generalize wr.alloc (.cells #[.int .i64 (dn : Int), .int .i64 ca] 34) = wa at *
                go_quiet ((go_at_call 37; first | (refine quiet_same (inRange_yes _ _ _ _ ?_ ?_) <;> omega) | (refine quiet_same (inRange_no _ _ _ _ ?_); omega)))
                go_wp2
                go_ret2
                exact none_ _ HN.out (by first | exact bD hba _ | exact hba)
              · have hle' : decide ((dn : Int) ≤ y.d) = false := decide_eq_false hle
                have ha9 : ca < -100000 ∨ 100000 < ca := by omega
                have HN := Lib.hid (Fares.apply_no_fit (xs := xs) hck hfit)
                clear hck hr1 hx hy
                go_wp2
                generalize wr.alloc (.cells #[.int .i64 (dn : Int), .int .i64 ca] 34) = wa at *
                go_quiet ((go_at_call 37; first | (refine quiet_same (inRange_yes _ _ _ _ ?_ ?_) <;> omega) | (refine quiet_same (inRange_no _ _ _ _ ?_); omega)))
                go_wp2
                go_ret2
                exact none_ _ HN.out (by first | exact bD hba _ | exact hba)
            · have hk1 : decide ((0 : Int) < (k : Int)) = false := by simp; omega
              have hfit : ¬ (0 ≤ Fares.nth xs (dn : Int).toNat + ca ∧ Fares.nth xs (dn : Int).toNat + ca ≤ 100000) := by rw [hdn2, hx0]; omega
              have ha9 : ca < -100000 ∨ 100000 < ca := by omega
              have HN := Lib.hid (Fares.apply_no_fit (xs := xs) hck hfit)
              clear hck hr1 hx hy
              go_wp2
              generalize wr.alloc (.cells #[.int .i64 (dn : Int), .int .i64 ca] 34) = wa at *
              go_quiet ((go_at_call 37; first | (refine quiet_same (inRange_yes _ _ _ _ ?_ ?_) <;> omega) | (refine quiet_same (inRange_no _ _ _ _ ?_); omega)))
              go_wp2
              go_ret2
              exact none_ _ HN.out (by first | exact bD hba _ | exact hba)
        · have hba := bA hb (.cells #[.int .i64 c.d, .int .i64 c.a] 34)
          obtain ⟨_, s0, s1⟩ := AdjustBox.new wr c 34
          have hd9 : c.d < 0 ∨ 28 < c.d := by omega
          have HB9 := Lib.hid (show ¬ Fares.daysOk cs from fun h => hd (Fares.days_in h hck))
          have HN := Lib.hid (Fares.apply_no_days xs HB9.out)
          clear hck hr1 hx hy
          go_wp2
          generalize wr.alloc (.cells #[.int .i64 c.d, .int .i64 c.a] 34) = wa at *
          go_quiet ((go_at_call 37; first | (refine quiet_same (inRange_yes _ _ _ _ ?_ ?_) <;> omega) | (refine quiet_same (inRange_no _ _ _ _ ?_); omega)))
          go_wp2
          go_ret2
          exact none_ _ HN.out (by first | exact bD hba _ | exact hba)
      · rw [List.take_of_length_le (by omega)] at Hown
        rw [List.take_of_length_le (by simp; omega)] at Hasc
        obtain ⟨A9, c9, ev, _, _, hr9⟩ := Hown.out.form
        injection ev with ev1 ev2 ev3
        subst ev1 ev3
        clear ev2
        have Hr9 := Lib.hid hr9; clear hr9
        have hdu := Fares.due_apply h1 (cs := cs) Hasc.out
        go_wp2_with fail
        refine (validDue_any (some ⟨gb, 0, none⟩) xs.length cap (Fares.applyTo xs cs) wr Hr9.out (Fares.applyTo_length xs cs) (by have := H29.out; omega)).mono ?_
        by_cases hq : cs.all (Fares.fitsDay xs) = true
        · rw [hdu, hq]
          have Hyes := Lib.hid (Fares.apply_yes h1 (cs := cs) Hasc.out (fun c hc => of_decide_eq_true (List.all_eq_true.1 hq c hc)))
          rintro e w' ⟨rfl, rfl⟩
          go_wp2
          go_ret2
          exact some_ _ _ Hyes.out Hown.out hb
        · have hq' : cs.all (Fares.fitsDay xs) = false := by simpa using hq
          have Hno := Lib.hid (show Fares.applyAdjust xs cs = ([], false) by unfold Fares.applyAdjust; rw [hq', Bool.and_false]; rfl)
          rw [hdu, hq']
          rintro e w' ⟨rfl, rfl⟩
          go_wp2
          go_ret2
          exact none_ _ Hno.out hb
  · have h1' : Fares.dueOk xs = false := by simpa using h1
    go_enter Try.func15, Try.ntmps15
    go_wp2_with fail
    refine (validDue_any A _ c xs _ hx rfl (by omega)).mono ?_
    rw [h1']
    rintro e w' ⟨rfl, rfl⟩
    go_wp2
    go_ret2
    exact none_ _ (Fares.apply_no_due cs h1') (Below.refl _ _)
end Go.Proofs.Ytnlnlcllnbggdaa
