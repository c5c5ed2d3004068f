/-
  Chapter 18: the model's shares of an amount.
-/
import Derived.Test.YtgecgjndbaeahaaSharesOf
import Derived.Deep.AppendLies
set_option linter.unusedSimpArgs false
namespace Go.Proofs.Ytgecgjndbaeahaa
open Go.RowKit Go.Deep
set_option linter.unusedVariables false

set_option maxRecDepth 100000 in
set_option maxHeartbeats 2000000 in
theorem lengthsOf_any (A : Option Addr) (n c : Nat) (xs : List Fares.Leg) (w : World) (hx : Legs w w.heap.size A xs) (hn : xs.length = n) (hl : n ≤ 1000000000) (hv : Fares.validLegs xs = true) :
    Calls Try.prog 42 #[.slice A n c] w fun e w' => ∃ g, e = .returned (.slice (some ⟨g, 0, none⟩) 4 4) ∧ OwnInts w' w.heap.size (.slice (some ⟨g, 0, none⟩) 4 4) (Fares.lens xs) ∧ Below w.heap.size w w' := by
  subst hn
  obtain ⟨⟨l1, l8⟩, hin⟩ := Fares.validLegs_iff.1 hv
  have Hin := Lib.hid hin; clear hin
  have Hlg := Lib.hid (Fares.legs_in hv)
  obtain ⟨Z, hZ, hz0, hmk⟩ := run_make_ints 4 (by omega)
  have hmk' : (Instr.makeSlice 26 (.int .i64 4) (.int .i64 4)).run Try.prog w = .ok (.slice (some ⟨w.heap.size, 0, none⟩) 4 4) (w.alloc (.cells Z 3)) := hmk w
  clear hmk
  go_enter Try.func42, Try.ntmps42
  go_wp2
  have hst : Starts (w.alloc (.cells Z 3)) w.heap.size 3 4 ((List.replicate 4 (0 : Int)).flatMap intCells) := zeros_starts (Blk.new w _ _) hZ hz0
  have Hp0 := Lib.hid (show OwnInts (w.alloc (.cells Z 3)) w.heap.size (.slice (some ⟨w.heap.size, 0, none⟩) 4 4) [0, 0, 0, 0] from OwnInts.of_starts hst (by simp) (by unfold maxLen; omega) (Nat.le_refl _))
  clear hmk' hst hZ hz0
  go_loopw [4] (fun i wr => ∃ k : Nat, k ≤ xs.length ∧ i = .int .i64 k ∧ OwnInts wr w.heap.size (.slice (some ⟨w.heap.size, 0, none⟩) 4 4) (Fares.lens (xs.take k)) ∧ Below w.heap.size w wr) (fun i _ => xs.length - (intOf i).toNat)
  case atStart => exact ⟨0, Nat.zero_le _, rfl, Hp0.out, bA (Below.refl _ _) _⟩
  case round =>
    obtain ⟨k, hk, rfl, hop, hb⟩ := hrel
    have Hop := Lib.hid hop; clear hop
    have hbz := hb.size
    by_cases hlt : k < xs.length
    · obtain ⟨g, hgk⟩ : ∃ g, xs[k]? = some g := ⟨xs[k], List.getElem?_eq_getElem hlt⟩
      obtain ⟨b1, o1, rfl, hbb, hr1⟩ := hx.row (by omega)
      obtain ⟨p0, p1⟩ := (hr1 k g hgk).below hb hbb
      obtain ⟨go0, go1, gl0, gl1⟩ := Hin.out g (List.mem_of_getElem? hgk)
      obtain ⟨go, gl⟩ := g
      dsimp only at go0 go1 gl0 gl1 p0 p1
      obtain ⟨d, rfl⟩ := Int.eq_ofNat_of_zero_le go0
      obtain ⟨v, hv0, hve, hnx⟩ := Fares.lens_next hgk rfl (show d ≤ 3 by omega)
      have hvb := Fares.legSum_take (op := (d : Int)) Hlg.out k hk
      rw [← hve] at hvb
      obtain ⟨hv1, hv2, _, _⟩ := hvb
      have Hnx := Lib.hid hnx; clear hnx hve
      obtain ⟨g', cap', ev, _, hlp, _, _, hcell2, hfree2, _⟩ := own_at intCells 1 (fun _ => rfl) Hop.out (by simp [Fares.lens])
      injection ev with ev1 ev2 ev3
      injection ev1 with ev1
      injection ev1 with ev1
      subst ev1
      clear ev2 ev3
      have q0 := hcell2 _ _ 0 _ hv0 rfl
      simp only [Nat.mul_one, Nat.add_zero] at q0
      have f0 := hfree2 d
      clear hcell2 hfree2 hgk hr1 hv0 hx
      have i0 : (0 : Int) ≤ (k : Int) := by omega
      have i1 : (k : Int) < (xs.length : Int) := by omega
      have j0 : (0 : Int) ≤ (d : Int) := by omega
      have j1 : (d : Int) < 4 := by omega
      have HOP := Lib.hid (OwnInts.put (w := wr.drew) (x := v + gl) (d := d) Hop.out rfl (by simp [Fares.lens]; omega))
      have hbc := bS (bD1 hb) (p := ⟨w.heap.size, d, none⟩) (Nat.le_refl _) (.int .i64 (v + gl))
      clear Hop
      go_wp2
      go_still_tail 21, (by kernel_rfl)
      change wpList _ _ _ _ _ _
      go_wp2
      go_roundw
      case rel => exact ⟨k + 1, by omega, by go_num, by rw [Hnx.out]; exact HOP.out, hbc⟩
      case measure => simp [intOf]; omega
    · rw [List.take_of_length_le (by omega)] at Hop
      go_wp2
      go_ret
      exact ⟨_, rfl, Hop.out, hb⟩
end Go.Proofs.Ytgecgjndbaeahaa
