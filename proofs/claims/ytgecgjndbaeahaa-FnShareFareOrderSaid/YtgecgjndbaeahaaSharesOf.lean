/-
  Chapter 18: the program's shares of an amount.
-/
import Derived.Test.YtgecgjndbaeahaaShareMath2
import Derived.Test.YtgecgjndbaeahaaShareSort
import Derived.Test.YtgecgjndbaeahaaPutInt
set_option linter.unusedSimpArgs false
namespace Go.Proofs.Ytgecgjndbaeahaa
open Go.RowKit Go.Deep
set_option linter.unusedVariables false

theorem info_share : (Try.prog.info? 51).map (fun i => (i.zero, i.size, i.bytes)) = some (some (.agg #[.int .i64 0, .int .i64 0, .int .i64 0]), 3, 24) := by kernel_rfl
theorem Fares.sharesOf_at {xs : List Fares.Leg} {m : Int} {k : Nat} (h : k < 4) : (Fares.sharesOf xs m)[k]? = some (Fares.shareAt xs m k) := by
  match k, h with
  | 0, _ | 1, _ | 2, _ | 3, _ => rfl
set_option maxRecDepth 100000 in
set_option maxHeartbeats 2000000 in
theorem sharesOf_any (A : Option Addr) (n c : Nat) (xs : List Fares.Leg) (m : Int) (w : World) (hx : Legs w w.heap.size A xs) (hn : xs.length = n) (hl : n ≤ 1000000000) (hk : Fares.shareOk xs m = true) :
    Calls Try.prog 36 #[.slice A n c, .int .i64 m] w fun e w' => ∃ g, e = .returned (.slice (some ⟨g, 0, none⟩) 4 4) ∧ OwnShares w' w.heap.size (.slice (some ⟨g, 0, none⟩) 4 4) (Fares.sharesOf xs m) ∧ Below w.heap.size w w' := by
  subst hn
  have S := Fares.shared_of hk
  obtain ⟨hv, m0, m1⟩ := Fares.shareOk_iff.1 hk
  have hin := Lib.hid (Fares.legs_in hv)
  obtain ⟨Z, hZ, hmk⟩ := run_make_n (P := Try.prog) 47 51 _ 3 24 Try.underlying47 info_share 4 (by omega) (by omega)
  have hmk' : ∀ w : World, (Instr.makeSlice 47 (.int .i64 4) (.int .i64 4)).run Try.prog w = .ok (.slice (some ⟨w.heap.size, 0, none⟩) 4 4) (w.alloc (.cells Z 51)) := hmk
  clear hmk
  have HZ := Lib.hid hZ; clear hZ
  have HS := Lib.hid S; clear S
  have a0 := HS.out.a0
  have a1 := HS.out.a1
  go_enter Try.func36, Try.ntmps36
  go_wp2
  go_loopw [13, 5] (fun i t wr => ∃ k : Nat, k ≤ xs.length ∧ i = .int .i64 k ∧ t = .int .i64 (Fares.legAll (xs.take k)) ∧ Below w.heap.size w wr) (fun i _ _ => xs.length - (intOf i).toNat)
  case atStart => exact ⟨0, Nat.zero_le _, rfl, rfl, Below.refl _ _⟩
  case round =>
    obtain ⟨k, hk2, rfl, rfl, hb⟩ := hrel
    by_cases hlt : k < xs.length
    · obtain ⟨g, hgk⟩ : ∃ g, xs[k]? = some g := ⟨xs[k], List.getElem?_eq_getElem hlt⟩
      obtain ⟨b1, o1, rfl, hbb, hr1⟩ := hx.row (by omega)
      obtain ⟨p0, p1⟩ := (hr1 k g hgk).below hb hbb
      obtain ⟨_, q0, q1⟩ := LegBox.new wr g 33
      have HN := Lib.hid (Fares.legAll_next hgk)
      obtain ⟨_, _, t0, t1⟩ := Fares.legSum_take (op := 0) hin.out k hk2
      obtain ⟨gl0, gl1⟩ := hin.out g (List.mem_of_getElem? hgk)
      obtain ⟨t, ht⟩ : ∃ t, Fares.legAll (xs.take k) = t := ⟨_, rfl⟩
      rw [ht] at t0 t1 HN
      rw [ht]
      clear ht hgk hr1 hx
      have hk8 := (Fares.validLegs_iff.1 hv).1.2
      have hba := bA hb (.cells #[.int .i64 g.o, .int .i64 g.l] 33)
      have i0 : (0 : Int) ≤ (k : Int) := by omega
      have i1 : (k : Int) < (xs.length : Int) := by omega
      clear hmk'
      go_wp2
      go_roundw
      case rel => exact ⟨k + 1, by omega, by go_num, by rw [HN.out], hba⟩
      case measure => simp [intOf]; omega
    · rw [List.take_of_length_le (by omega)]
      have hbz := hb.size
      obtain ⟨al, hal⟩ : ∃ al, Fares.legAll xs = al := ⟨_, rfl⟩
      rw [hal] at a0 a1
      rw [hal]
      have Hal := Lib.hid hal; clear hal
      have hbs := hmk' wr
      go_wp2
      clear hmk' hbs
      obtain ⟨wo, hwo⟩ : ∃ wo, wo = wr := ⟨_, rfl⟩
      subst hwo
      go_loopw [25] (fun i wr => ∃ k : Nat, k ≤ 4 ∧ i = .int .i64 k ∧ Starts wr wo.heap.size 51 12 (((Fares.sharesOf xs m).take k).flatMap shareCells) ∧ Below w.heap.size w wr) (fun i _ => 4 - (intOf i).toNat)
      case atStart => exact ⟨0, by omega, rfl, ⟨Z, Blk.new wo _ _, HZ.out, by simp⟩, bA hb _⟩
      case round =>
        obtain ⟨k, hk4, rfl, hst, hb⟩ := hrel
        by_cases hlt : k < 4
        · have hls := HS.out.len k
          have hpr := HS.out.prod k
          have hba := HS.out.base k
          have hre := HS.out.rest k
          have HL := Lib.hid (show Fares.lengthOf xs k = Fares.legSum k xs by unfold Fares.lengthOf; rw [if_pos hv])
          obtain ⟨L, hL⟩ : ∃ L, Fares.legSum k xs = L := ⟨_, rfl⟩
          obtain ⟨b, hb1⟩ : ∃ b, Fares.base xs m k = b := ⟨_, rfl⟩
          obtain ⟨r, hr1⟩ : ∃ r, Fares.rest xs m k = r := ⟨_, rfl⟩
          have e1 : m * L / al = b := by rw [← hL, ← Hal.out, ← hb1]; rfl
          have e2 : m * L % al = r := by rw [← hL, ← Hal.out, ← hr1]; rfl
          rw [hL] at hls hpr HL
          rw [hb1] at hba
          rw [hr1, Hal.out] at hre
          rw [Hal.out] at hls
          have Hsh := Lib.hid (show (Fares.sharesOf xs m)[k]? = some ⟨(k : Int), b, r⟩ by rw [Fares.sharesOf_at hlt]; unfold Fares.shareAt; rw [hb1, hr1])
          clear hL hb1 hr1
          obtain ⟨p, hp⟩ : ∃ p, m * L = p := ⟨_, rfl⟩
          rw [hp] at hpr e1 e2
          have e3 : p.tdiv al = b := by rw [Int.tdiv_eq_ediv_of_nonneg hpr.1]; exact e1
          have e4 : p.tmod al = r := by rw [Int.tmod_eq_emod_of_nonneg hpr.1]; exact e2
          obtain ⟨p0, p1⟩ := hpr
          obtain ⟨b0, b1⟩ := hba
          obtain ⟨r0, r1⟩ := hre
          obtain ⟨l0, l1⟩ := hls
          have W1 : IntKind.i64.wrap b = b := IntWalk.i64_in _ (by omega)
          have W2 : IntKind.i64.wrap r = r := IntWalk.i64_in _ (by omega)
          have nz : ¬ al = 0 := by omega
          have nzb : (al == 0) = false := by simpa using nz
          have Hst := Lib.hid hst; clear hst
          have i3 : (k : Int) < 4 := by omega
          have i0 : (0 : Int) ≤ (k : Int) := by omega
          go_wp2_with fail
          refine (implLengthOf_any A _ c xs (k : Int) _ ((Reads.below hx hb (Nat.le_refl _)).more hb.size) rfl (by omega)).mono ?_
          rw [HL.out]
          rintro e w3 ⟨rfl, hb3⟩
          have hc3 := bT hb hb3
          have Hst3 := Lib.hid (Hst.out.below hb3 Hst.out.lt)
          obtain ⟨u0, t0⟩ := Hst3.out.there (i := k * 3) (by omega)
          obtain ⟨u1, t1⟩ := Hst3.out.there (i := k * 3 + 1) (by omega)
          obtain ⟨u2, t2⟩ := Hst3.out.there (i := k * 3 + 2) (by omega)
          have f0 := Hst3.out.free (k * 3)
          have f1 := Hst3.out.free (k * 3 + 1)
          have f2 := Hst3.out.free (k * 3 + 2)
          have HNX := Lib.hid (Starts.next (w := w3.drew) shareCells 3 (fun _ => rfl) (show Starts w3.drew wo.heap.size 51 12 _ from Hst3.out) Hsh.out (by omega))
          clear hb3
          go_wp2
          go_still_tail 11, (by kernel_rfl)
          change wpList _ _ _ _ _ _
          go_wp2
          go_roundw
          case rel => exact ⟨k + 1, by omega, by go_num, HNX.out, below_setCells (by omega) (shareCells ⟨(k : Int), b, r⟩) w3.drew (k * 3) (bD1 hc3)⟩
          case measure => simp [intOf]; omega
        · have e9 : (Fares.sharesOf xs m).take k = Fares.sharesOf xs m := List.take_of_length_le (by show 4 ≤ k; omega)
          rw [e9] at hst
          have Hown := Lib.hid (show OwnShares wr w.heap.size (.slice (some ⟨wo.heap.size, 0, none⟩) 4 4) (Fares.sharesOf xs m) from own_of_starts (cap := 4) (n := 4) hst rfl (Nat.le_refl _) (by unfold maxLen; omega) hbz)
          go_wp2
          go_ret
          exact ⟨_, rfl, Hown.out, hb⟩
end Go.Proofs.Ytgecgjndbaeahaa
