/-
  Chapter 18: the program's shares of an amount.
-/
import Derived.Test.YtgecgjndbaeahaaSharesOf
import Derived.Test.YtgecgjndbaeahaaShareSort
import Derived.Test.YtgecgjndbaeahaaPutInt
set_option linter.unusedSimpArgs false
namespace Go.Proofs.Ytgecgjndbaeahaa
open Go.RowKit Go.Deep
set_option linter.unusedVariables false

set_option maxRecDepth 100000 in
set_option maxHeartbeats 2000000 in
theorem implShareFare_any (A : Option Addr) (n c : Nat) (xs : List Fares.Leg) (m : Int) (w : World) (hx : Legs w w.heap.size A xs) (hn : xs.length = n) (hl : n ≤ 1000000000) :
    Calls Try.prog 13 #[.slice A n c, .int .i64 m] w fun e w' => ∃ v, e = .returned v ∧ OwnInts w' w.heap.size v (Fares.shareFare xs m) ∧ Below w.heap.size w w' := by
  subst hn
  by_cases hv : Fares.validLegs xs = true
  · by_cases hm : 0 ≤ m ∧ m ≤ 100000
    · have hk := Fares.shareOk_iff.2 ⟨hv, hm⟩
      have S := Fares.shared_of hk
      obtain ⟨s1, s2, s3, s4⟩ := Fares.sorted_of S
      have HT := Lib.hid (Fares.share_two hk)
      obtain ⟨m0, m1⟩ := hm
      have l0 := S.left0
      have l3 := S.left3
      have Hbase := Lib.hid S.base
      obtain ⟨srt, hsrt⟩ : ∃ srt, Fares.sortS (Fares.sharesOf xs m) = srt := ⟨_, rfl⟩
      rw [hsrt] at s1 s2 s3 s4 HT
      have Hsrt := Lib.hid hsrt; clear hsrt
      have H1 := Lib.hid s1; clear s1
      have H2 := Lib.hid s2; clear s2
      have H3 := Lib.hid s3; clear s3
      have H4 := Lib.hid s4; clear s4
      have HTA := Lib.hid (fun k hk => Fares.take_amounts (fun s hs => (H4.out s hs).2.2) m k hk)
      obtain ⟨Z, hZ, hz0, hmk⟩ := run_make_ints 4 (by omega)
      have hmk' : ∀ w : World, (Instr.makeSlice 26 (.int .i64 4) (.int .i64 4)).run Try.prog w = .ok (.slice (some ⟨w.heap.size, 0, none⟩) 4 4) (w.alloc (.cells Z 3)) := hmk
      have HZ := Lib.hid hZ; clear hZ
      have HZ0 := Lib.hid hz0; clear hz0 hmk
      go_enter Try.func13, Try.ntmps13
      go_wp2_with fail
      refine (implvalidLegs_any A _ c xs _ hx rfl (by omega)).mono ?_
      rw [hv]
      rintro e w1 ⟨rfl, hb1⟩
      go_wp2_with fail
      refine (sharesOf_any A _ c xs m _ ((Reads.below hx hb1 (Nat.le_refl _)).more hb1.size) rfl (by omega) hk).mono ?_
      rintro e w2 ⟨g, rfl, ho, hb2⟩
      have hc2 := bT hb1 hb2
      have hg1 := (World.ownsRow.lt ho g rfl).1
      have hz1 := hb1.size
      have hz2 := hb2.size
      have Ho := Lib.hid ho; clear ho
      go_wp2_with fail
      refine (sortStable_any g 4 4 w1.heap.size _ _ Ho.out rfl (by omega) (by omega)).mono ?_
      rw [Hsrt.out]
      rintro e w3 ⟨rfl, ho, hg3⟩
      have hc3 : Below w.heap.size w w3 := Below.grown hc2 hg3 hc2.size (fun k hk => by injection hk with hk; omega)
      have hz3 := hg3.size
      have Ho3 := Lib.hid ho; clear ho hg3
      have hmk3 := hmk' w3
      clear hb1 hb2
      go_wp2
      clear hmk3 hmk'
      have hst : Starts (w3.alloc (.cells Z 3)) w3.heap.size 3 4 ((List.replicate 4 (0 : Int)).flatMap intCells) := zeros_starts (Blk.new w3 _ _) HZ.out HZ0.out
      have Hp0 := Lib.hid (show OwnInts (w3.alloc (.cells Z 3)) w3.heap.size (.slice (some ⟨w3.heap.size, 0, none⟩) 4 4) [0, 0, 0, 0] from OwnInts.of_starts hst (by simp) (by unfold maxLen; omega) (Nat.le_refl _))
      have Hs0 := Lib.hid (OwnShares.below Ho3.out (bA (Below.refl _ _) (.cells Z 3)))
      have hc4 := bA hc3 (.cells Z 3)
      clear hst
      have hg3 : g < w3.heap.size := (World.ownsRow.lt Ho3.out g rfl).2
      go_loopw [34, 7] (fun i t wr => ∃ k : Nat, k ≤ 4 ∧ i = .int .i64 k ∧ t = .int .i64 (Fares.takeAmounts m (srt.take k)) ∧ OwnShares wr w1.heap.size (.slice (some ⟨g, 0, none⟩) 4 4) srt ∧ OwnInts wr w3.heap.size (.slice (some ⟨w3.heap.size, 0, none⟩) 4 4) ((srt.take k).foldl Fares.putBase [0, 0, 0, 0]) ∧ Below w.heap.size w wr) (fun i _ _ => 4 - (intOf i).toNat)
      case atStart => exact ⟨0, by omega, rfl, rfl, Hs0.out, Hp0.out, hc4⟩
      case round =>
        obtain ⟨k, hk4, rfl, rfl, hos, hop, hb⟩ := hrel
        have Hos := Lib.hid hos; clear hos
        have Hop := Lib.hid hop; clear hop
        have hta := HTA.out k (by have := H3.out; omega)
        have Hpl : Hid ((((srt.take k).foldl Fares.putBase [0, 0, 0, 0])).length = 4) := Fares.fold_len _ Fares.putBase_len _ _
        have hbz := hb.size
        by_cases hlt : k < 4
        · obtain ⟨s, hs⟩ : ∃ s, srt[k]? = some s := ⟨_, List.getElem?_eq_getElem (by have := H3.out; omega)⟩
          obtain ⟨so0, so1, sa0, sa1⟩ := H4.out s (List.mem_of_getElem? hs)
          have HN1 := Lib.hid (Fares.take_next_amount hs m)
          have HN2 := Lib.hid (Fares.fold_take Fares.putBase [0, 0, 0, 0] hs)
          obtain ⟨so, sa, sr⟩ := s
          dsimp only at so0 so1 sa0 sa1
          obtain ⟨d, rfl⟩ := Int.eq_ofNat_of_zero_le so0
          obtain ⟨g', cap', ev, _, hlg, _, _, hcell, _, _⟩ := own_at shareCells 3 (fun _ => rfl) Hos.out (by have := H3.out; omega)
          injection ev with ev1 ev2 ev3
          injection ev1 with ev1
          injection ev1 with ev1
          subst ev1
          clear ev2 ev3
          have p0 := hcell _ _ 0 _ hs rfl
          have p1 := hcell _ _ 1 _ hs rfl
          have p2 := hcell _ _ 2 _ hs rfl
          simp only [Nat.add_zero] at p0
          obtain ⟨g', cap', ev, _, hlp, _, _, hcell2, hfree2, _⟩ := own_at intCells 1 (fun _ => rfl) Hop.out (by have := Hpl.out; omega)
          injection ev with ev1 ev2 ev3
          injection ev1 with ev1
          injection ev1 with ev1
          subst ev1
          clear ev2 ev3
          have hdl : d < ((srt.take k).foldl Fares.putBase [0, 0, 0, 0]).length := by have := Hpl.out; omega
          obtain ⟨v0, hv0⟩ : ∃ v0, ((srt.take k).foldl Fares.putBase [0, 0, 0, 0])[d]? = some v0 := ⟨_, List.getElem?_eq_getElem hdl⟩
          have q0 := hcell2 _ _ 0 _ hv0 rfl
          simp only [Nat.mul_one, Nat.add_zero] at q0
          have f0 := hfree2 d
          have Hdl := Lib.hid hdl
          clear hcell hcell2 hfree2 hs hv0 hdl hx
          have hbx : Below wr.heap.size wr (wr.alloc (.cells #[.int .i64 (d : Int), .int .i64 sa, .int .i64 sr] 51)) := bA (Below.refl _ _) _
          have hblk := Blk.new wr 51 #[.int .i64 (d : Int), .int .i64 sa, .int .i64 sr]
          have x0 := hblk.cell 0
          have x1 := hblk.cell 1
          have q0a := (hbx.cell (p := ⟨w3.heap.size, d, none⟩) hlp).trans q0
          have f0a := (hbx.frozen (p := ⟨w3.heap.size, d, none⟩) hlp).trans f0
          have Hosa := Lib.hid (OwnShares.below Hos.out hbx)
          have Hopa := Lib.hid (OwnInts.below Hop.out hbx)
          have hba := bA hb (.cells #[.int .i64 (d : Int), .int .i64 sa, .int .i64 sr] 51)
          obtain ⟨t, ht⟩ : ∃ t, Fares.takeAmounts m (srt.take k) = t := ⟨_, rfl⟩
          rw [ht] at hta HN1
          rw [ht]
          clear ht hbx hblk
          have i0 : (0 : Int) ≤ (k : Int) := by omega
          have i1 : (k : Int) < 4 := by omega
          have j1 : (d : Int) < 4 := by omega
          have hne : ¬ w3.heap.size = wr.heap.size := by omega
          have HOP := Lib.hid (OwnInts.below (OwnInts.put (x := sa) Hop.out Hpl.out Hdl.out) (bA (Below.refl _ _) (.cells #[.int .i64 (d : Int), .int .i64 sa, .int .i64 sr] 51)))
          have HOS := Lib.hid (OwnShares.below (World.ownsRow.kept Hos.out (grown_setCell (grown_refl _ (some w3.heap.size)) (p := ⟨w3.heap.size, d, none⟩) (.inl rfl) (.int .i64 sa)) (apart_of (fun j hj e => by simp [Value.ownBlock] at hj; injection e with e; omega))) (bA (Below.refl _ _) (.cells #[.int .i64 (d : Int), .int .i64 sa, .int .i64 sr] 51)))
          have hbc := bA (bS hb (p := ⟨w3.heap.size, d, none⟩) (by show w.heap.size ≤ w3.heap.size; omega) (.int .i64 sa)) (.cells #[.int .i64 (d : Int), .int .i64 sa, .int .i64 sr] 51)
          clear Hos Hop Hosa Hopa hba hb
          go_wp2
          go_roundw
          case rel => exact ⟨k + 1, by omega, by go_num, by rw [HN1.out], HOS.out, by rw [HN2.out]; exact HOP.out, hbc⟩
          case measure => simp [intOf]; omega
        · rw [List.take_of_length_le (by have := H3.out; omega)] at Hop Hpl
          rw [List.take_of_length_le (by have := H3.out; omega), H2.out]
          rw [H1.out] at Hop
          clear hta Hpl
          obtain ⟨lf, hlf⟩ : ∃ lf, Fares.leftOf xs m = lf := ⟨_, rfl⟩
          rw [hlf] at l0 l3 HT
          rw [hlf]
          clear hlf
          obtain ⟨ln, rfl⟩ := Int.eq_ofNat_of_zero_le l0
          have hln : ln ≤ 3 := by omega
          rw [Int.toNat_natCast] at HT
          have i4 : (ln : Int) ≤ 4 := by omega
          go_wp2
          obtain ⟨wo, hwo⟩ : ∃ wo, wo = wr := ⟨_, rfl⟩
          subst hwo
          go_loopw [53] (fun i wr => ∃ k : Nat, k ≤ ln ∧ i = .int .i64 k ∧ OwnShares wr w1.heap.size (.slice (some ⟨g, 0, none⟩) 4 4) srt ∧ OwnInts wr w3.heap.size (.slice (some ⟨w3.heap.size, 0, none⟩) 4 4) (((srt.take ln).take k).foldl Fares.bump (Fares.bases xs m)) ∧ Below w.heap.size w wr) (fun i _ => ln - (intOf i).toNat)
          case atStart => exact ⟨0, by omega, rfl, Hos.out, Hop.out, hb⟩
          case round =>
            obtain ⟨k, hkl, rfl, hos, hop, hb⟩ := hrel
            have Hos := Lib.hid hos; clear hos
            have Hop := Lib.hid hop; clear hop
            have Hpl : Hid ((((srt.take ln).take k).foldl Fares.bump (Fares.bases xs m)).length = 4) := Fares.fold_len _ Fares.bump_len _ _
            have hbz := hb.size
            by_cases hlt : k < ln
            · obtain ⟨s, hs⟩ : ∃ s, srt[k]? = some s := ⟨_, List.getElem?_eq_getElem (by have := H3.out; omega)⟩
              have hst : (srt.take ln)[k]? = some s := by rw [List.getElem?_take, if_pos hlt]; exact hs
              obtain ⟨so0, so1, sa0, sa1⟩ := H4.out s (List.mem_of_getElem? hs)
              have HN2 := Lib.hid (Fares.fold_take Fares.bump (Fares.bases xs m) hst)
              have hbi := Fares.bump_in ((srt.take ln).take k) (Fares.bases xs m) 100000 (fun v hv => by simp only [Fares.bases, List.mem_cons, List.not_mem_nil, or_false] at hv; rcases hv with rfl | rfl | rfl | rfl <;> exact Hbase.out _) (by omega)
              obtain ⟨so, sa, sr⟩ := s
              dsimp only at so0 so1 sa0 sa1
              obtain ⟨d, rfl⟩ := Int.eq_ofNat_of_zero_le so0
              obtain ⟨g', cap', ev, _, hlg, _, _, hcell, _, _⟩ := own_at shareCells 3 (fun _ => rfl) Hos.out (by have := H3.out; omega)
              injection ev with ev1 ev2 ev3
              injection ev1 with ev1
              injection ev1 with ev1
              subst ev1
              clear ev2 ev3
              have p0 := hcell _ _ 0 _ hs rfl
              have p1 := hcell _ _ 1 _ hs rfl
              have p2 := hcell _ _ 2 _ hs rfl
              simp only [Nat.add_zero] at p0
              obtain ⟨g', cap', ev, _, hlp, _, _, hcell2, hfree2, _⟩ := own_at intCells 1 (fun _ => rfl) Hop.out (by have := Hpl.out; omega)
              injection ev with ev1 ev2 ev3
              injection ev1 with ev1
              injection ev1 with ev1
              subst ev1
              clear ev2 ev3
              have hdl : d < (((srt.take ln).take k).foldl Fares.bump (Fares.bases xs m)).length := by have := Hpl.out; omega
              obtain ⟨v0, hv0⟩ : ∃ v0, (((srt.take ln).take k).foldl Fares.bump (Fares.bases xs m))[d]? = some v0 := ⟨_, List.getElem?_eq_getElem hdl⟩
              have hvb := hbi v0 (List.mem_of_getElem? hv0)
              have hkk : ((srt.take ln).take k).length ≤ 3 := by rw [List.length_take]; omega
              have hv1 : 0 ≤ v0 ∧ v0 ≤ 100003 := by omega
              obtain ⟨hv2, hv3⟩ := hv1
              have q0 := hcell2 _ _ 0 _ hv0 rfl
              simp only [Nat.mul_one, Nat.add_zero] at q0
              have f0 := hfree2 d
              have Hdl := Lib.hid hdl
              have HB := Lib.hid (show Fares.bump (((srt.take ln).take k).foldl Fares.bump (Fares.bases xs m)) ⟨(d : Int), sa, sr⟩ = (((srt.take ln).take k).foldl Fares.bump (Fares.bases xs m)).set d (v0 + 1) from Fares.bump_at hv0 rfl)
              clear hcell hcell2 hfree2 hs hst hv0 hdl hvb hbi hkk
              have hbx : Below wr.heap.size wr (wr.alloc (.cells #[.int .i64 (d : Int), .int .i64 sa, .int .i64 sr] 51)) := bA (Below.refl _ _) _
              have hblk := Blk.new wr 51 #[.int .i64 (d : Int), .int .i64 sa, .int .i64 sr]
              have x0 := hblk.cell 0
              have x1 := hblk.cell 1
              have q0a := (hbx.cell (p := ⟨w3.heap.size, d, none⟩) hlp).trans q0
              have f0a := (hbx.frozen (p := ⟨w3.heap.size, d, none⟩) hlp).trans f0
              clear hbx hblk
              have i0 : (0 : Int) ≤ (k : Int) := by omega
              have i1 : (k : Int) < (ln : Int) := by omega
              have j1 : (d : Int) < 4 := by omega
              have hne : ¬ w3.heap.size = wr.heap.size := by omega
              have HOP := Lib.hid (OwnInts.below (OwnInts.put (x := v0 + 1) Hop.out Hpl.out Hdl.out) (bA (Below.refl _ _) (.cells #[.int .i64 (d : Int), .int .i64 sa, .int .i64 sr] 51)))
              have HOS := Lib.hid (OwnShares.below (World.ownsRow.kept Hos.out (grown_setCell (grown_refl _ (some w3.heap.size)) (p := ⟨w3.heap.size, d, none⟩) (.inl rfl) (.int .i64 (v0 + 1))) (apart_of (fun j hj e => by simp [Value.ownBlock] at hj; injection e with e; omega))) (bA (Below.refl _ _) (.cells #[.int .i64 (d : Int), .int .i64 sa, .int .i64 sr] 51)))
              have hbc := bA (bS hb (p := ⟨w3.heap.size, d, none⟩) (by show w.heap.size ≤ w3.heap.size; omega) (.int .i64 (v0 + 1))) (.cells #[.int .i64 (d : Int), .int .i64 sa, .int .i64 sr] 51)
              clear Hos Hop hb
              go_wp2
              go_roundw
              case rel => exact ⟨k + 1, by omega, by go_num, HOS.out, by rw [HN2.out, HB.out]; exact HOP.out, hbc⟩
              case measure => simp [intOf]; omega
            · rw [List.take_of_length_le (by rw [List.length_take]; omega), HT.out] at Hop
              have hfin := Lib.hid (OwnInts.below (ownBase Hop.out (show w.heap.size ≤ w3.heap.size by omega)) (Below.refl _ _))
              go_wp2
              go_ret
              exact ⟨_, rfl, ownBase Hop.out (by omega), hb⟩
    · have hno : Fares.shareFare xs m = [] := Fares.share_no (by unfold Fares.shareOk; rw [decide_eq_false hm, Bool.and_false])
      have HNO := Lib.hid hno; clear hno
      go_enter Try.func13, Try.ntmps13
      go_wp2_with fail
      refine (implvalidLegs_any A _ c xs _ hx rfl (by omega)).mono ?_
      rw [hv]
      rintro e w1 ⟨rfl, hb1⟩
      go_wp2
      all_goals first | (go_ret; exact ⟨_, rfl, by rw [HNO.out]; exact OwnInts.none_ _ _, hb1⟩) | (exfalso; omega)
  · have hv' : Fares.validLegs xs = false := by simpa using hv
    have hno : Fares.shareFare xs m = [] := Fares.share_no (by unfold Fares.shareOk; rw [hv', Bool.false_and])
    have HNO := Lib.hid hno; clear hno
    go_enter Try.func13, Try.ntmps13
    go_wp2_with fail
    refine (implvalidLegs_any A _ c xs _ hx rfl (by omega)).mono ?_
    rw [hv']
    rintro e w1 ⟨rfl, hb1⟩
    go_wp2
    go_ret
    exact ⟨_, rfl, by rw [HNO.out]; exact OwnInts.none_ _ _, hb1⟩
end Go.Proofs.Ytgecgjndbaeahaa
