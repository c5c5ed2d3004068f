/-
  Bands add up: for every code, with the bands and the minute drawn from it, the law FnIsPeakBands returns true and leaves the code as it was. No conditions.
-/
import Derived.Test.YtfjdicjfcdnolaaPeakFn
import Derived.Test.YtfjdicjfcdnolaaDrawPeak
import Derived.Test.YtfjdicjfcdnolaaLiftBytes
namespace Go.Proofs.Ytfjdicjfcdnolaa.fnIsPeakBands
open Go.ChangeShapes Go.WideShapes Go.ChangeAt Go.RowKit
set_option linter.unusedVariables false

namespace Fares
def oneAt (ys : List Fares.Band) (m : Int) (i : Nat) : Bool := match ys[i]? with | some b => Fares.isPeak [b] m | none => false
theorem oneAt_of {ys : List Fares.Band} {m : Int} {k : Nat} {x : Fares.Band} (h : ys[k]? = some x) : oneAt ys m k = Fares.isPeak [x] m := by
  unfold oneAt; rw [h]
theorem isPeak_one {ys : List Fares.Band} {m : Int} (h : Fares.isPeak ys m = true) : (List.range ys.length).any (oneAt ys m) = true := by
  unfold Fares.isPeak at h
  simp only [Bool.and_eq_true] at h
  obtain ⟨⟨⟨h1, h2⟩, h3⟩, h4⟩ := h
  rw [List.any_eq_true] at h4
  obtain ⟨b, hb, hin⟩ := h4
  obtain ⟨i, hi⟩ := List.getElem?_of_mem hb
  have hlt : i < ys.length := (List.getElem?_eq_some_iff.1 hi).1
  refine List.any_eq_true.2 ⟨i, List.mem_range.2 hlt, ?_⟩
  rw [oneAt_of hi]
  unfold Fares.validBands at h2
  simp only [Bool.and_eq_true, List.all_eq_true, List.mem_range] at h2
  have hok := h2.2 i hlt
  rw [Fares.bandOkAt_of hi] at hok
  simp only [Bool.and_eq_true] at hok
  have hlo : 0 ≤ b.lo := by
    have := hok.1
    unfold Fares.bandOk at this
    rw [decide_eq_true_eq] at this
    exact this.1
  have hv : Fares.validBands [b] = true := by
    unfold Fares.validBands
    simp [Fares.bandOkAt, hok.1, Fares.bandFree, hlo]
  unfold Fares.isPeak
  rw [h1, hv, h3]
  simpa using hin
theorem any_range_succ (p : Nat → Bool) (k : Nat) : (List.range (k + 1)).any p = ((List.range k).any p || p k) := by
  rw [List.range_succ, List.any_append]; simp
end Fares
theorem bands_one {w : World} {B b o : Nat} {x : Fares.Band} (h : BandAt w b o x) (hb : b < B) : Bands w B (some ⟨b, o, none⟩) [x] := fun _ => by
  refine ⟨_, rfl, hb, fun i u hu => ?_⟩
  rw [Addr.add_mid]
  match i, hu with
  | 0, hu => simp [bandCells] at hu; subst hu; exact h.1
  | 1, hu => simp [bandCells] at hu; subst hu; exact h.2

set_option maxRecDepth 100000 in
set_option maxHeartbeats 4000000 in
theorem walk (A : Option Addr) (n c : Nat) (w : World) (h : Bytes w w.heap.size A n c) : Calls Try.prog 4 #[.slice A n c] w (TrueBelow w) := by
  by_cases hn : 1048576 < n
  · go_enter Try.func4, Try.ntmps4
    go_wp2
    go_ret
    exact ⟨rfl, Below.refl _ _⟩
  · go_enter Try.func4, Try.ntmps4
    go_wp2_with fail
    refine (drawIsPeak_any A n c w h).mono ?_
    rintro e w1 ⟨v, ys, m, rfl, hown1, hlen, hsm, m0, m1, hb1⟩
    obtain ⟨Av, cv, rfl, hc1, hc2, hrs1⟩ := hown1.form
    have Hrs1 := Lib.hid hrs1; clear hrs1
    have Hsm := Lib.hid hsm; clear hsm hown1
    go_wp2_with fail
    refine (implIsPeak_any Av _ cv ys m _ Hrs1.out rfl (by omega)).mono ?_
    rintro e w2 ⟨rfl, hb2⟩
    have hc2' : Below w.heap.size w w2 := bT hb1 hb2
    have Hrs2 := Lib.hid ((Hrs1.out.below hb2 (Nat.le_refl _)).more hb2.size)
    clear hb2
    go_wp2_with fail
    refine (specIsPeak_any Av _ cv ys m _ Hrs2.out rfl (by omega)).mono ?_
    rintro e w3 ⟨rfl, hb3⟩
    have hc3 : Below w.heap.size w w3 := bT hc2' hb3
    have Hrs3 := Lib.hid ((Hrs2.out.below hb3 (Nat.le_refl _)).more hb3.size)
    clear hb3
    by_cases hl : 0 < ys.length ∧ ys.length ≤ 3
    · obtain ⟨l0, l1⟩ := hl
      have l2 : (0 : Int) < (ys.length : Int) := by omega
      have l3 : (ys.length : Int) ≤ 3 := by omega
      have l4 : ((ys.length : Int) == 0) = false := by rw [beq_eq_false_iff_ne]; omega
      obtain ⟨b1, o1, rfl, hbb, hrow⟩ := Hrs3.out.row l0
      have Hrow := Lib.hid hrow; clear hrow
      have Hone : Hid (Fares.isPeak ys m = true → (List.range ys.length).any (Fares.oneAt ys m) = true) := Fares.isPeak_one
      go_wp2
      go_loopw [6, 7] (fun so kk wr => ∃ k : Nat, k ≤ ys.length ∧ kk = .int .i64 k ∧ so = .bool ((List.range k).any (Fares.oneAt ys m)) ∧ Below w3.heap.size w3 wr) (fun _ kk _ => ys.length - (intOf kk).toNat)
      case atStart => exact ⟨0, by omega, rfl, rfl, Below.refl _ _⟩
      case round =>
        obtain ⟨k, hk, rfl, rfl, hb⟩ := hrel
        have hcw : Below w.heap.size w wr := bT hc3 hb
        by_cases hlt : k < ys.length
        · obtain ⟨x, hxk⟩ : ∃ x, ys[k]? = some x := ⟨ys[k], List.getElem?_eq_getElem hlt⟩
          have Hat := Lib.hid ((Hrow.out k x hxk).below hb hbb)
          have Hnext := Lib.hid (show (List.range (k + 1)).any (Fares.oneAt ys m) = ((List.range k).any (Fares.oneAt ys m) || Fares.isPeak [x] m) by rw [Fares.any_range_succ, Fares.oneAt_of hxk])
          clear hxk
          have i0 : (0 : Int) ≤ (k : Int) := by omega
          have i1 : (k : Int) < (ys.length : Int) := by omega
          have i2 : (k : Int) + 1 ≤ (cv : Int) := by omega
          have i3 : ¬ cv = k := by omega
          obtain ⟨so, hso⟩ : ∃ so, so = (List.range k).any (Fares.oneAt ys m) := ⟨_, rfl⟩
          rw [← hso]
          have Hso := Lib.hid hso; clear hso
          cases so
          · go_wp2_with fail
            refine (implIsPeak_any _ 1 _ [x] m _ (bands_one Hat.out (by have := hb.size; omega)) rfl (by omega)).mono ?_
            rintro e w4 ⟨rfl, hb4⟩
            have hb5 : Below w3.heap.size w3 w4 := bT hb hb4
            clear hb4 hb hcw
            go_wp2
            go_roundw
            case rel => exact ⟨k + 1, by omega, by go_num, by rw [Hnext.out, ← Hso.out]; rfl, hb5⟩
            case measure => simp [intOf]; omega
          · go_wp2
            go_roundw
            case rel => exact ⟨k + 1, by omega, by go_num, by rw [Hnext.out, ← Hso.out]; rfl, hb⟩
            case measure => simp [intOf]; omega
        · obtain rfl : k = ys.length := by omega
          clear hlt hk
          by_cases hok : Fares.isPeak ys m = true
          · have hso := Hone.out hok
            go_wp2
            go_ret
            exact ⟨ret_bool (by first | rfl | (simp; done) | simp_all), hcw⟩
          · have hok' : Fares.isPeak ys m = false := by simpa using hok
            clear hok
            go_wp2
            go_ret
            exact ⟨ret_bool (by first | rfl | (simp; done) | simp_all), hcw⟩
    · rcases (by omega : ys.length = 0 ∨ 3 < ys.length) with hz | hz
      · have l4 : ((ys.length : Int) == 0) = true := by rw [beq_iff_eq]; omega
        have Hz := Lib.hid hz
        clear hl hz
        go_wp2_with fail
        refine (specIsPeak_any Av _ cv ys m _ Hrs3.out rfl (by omega)).mono ?_
        rintro e w4 ⟨rfl, hb4⟩
        have hc4 : Below w.heap.size w w4 := bT hc3 hb4
        clear hb4
        go_wp2
        go_ret
        exact ⟨ret_bool (by simp), hc4⟩
      · have l4 : ((ys.length : Int) == 0) = false := by rw [beq_eq_false_iff_ne]; omega
        have l5 : (3 : Int) < (ys.length : Int) := by omega
        clear hl
        go_wp2_with fail
        refine (specIsPeak_any Av _ cv ys m _ Hrs3.out rfl (by omega)).mono ?_
        rintro e w4 ⟨rfl, hb4⟩
        have hc4 : Below w.heap.size w w4 := bT hc3 hb4
        clear hb4
        go_wp2
        go_ret
        exact ⟨ret_bool (by simp), hc4⟩

set_option maxRecDepth 100000 in
theorem lifted (os : Os) (started : os.Started) (H : Type) (enc : TypeId × Value → H) :
    ReturnsInHanded {} Try.checked os 4 .any (Rows.fnIsPeakBandsSpec.pre6 enc Try.prog Try.f4 Rows.fnIsPeakBandsRow.domain false) (Rows.fnIsPeakBandsSpec.post enc Try.prog Try.f4 false true false false) := by
  refine returnsInHanded_of_change (C := Try.checked) Cells.own started (by kernel_rfl) Try.func4
    (ChangeSpec.witness6 (enc := enc) (C := Try.checked) false ⟨#[], #[.slice none 0 0], []⟩ 8 (by kernel_rfl) (by kernel_rfl) (by kernel_rfl) (by kernel_rfl)) ?_
  intro W base args ds gs before hval0 hW _ _
  have hval : ∀ (j : Nat) t v, Try.f4.params[j]? = some t → args[j]? = some v → Value.okWide Try.prog W .any base t v := hval0
  have hW' := hW
  obtain ⟨p, q, hA0, hV, rfl, _, _⟩ := hW
  have hA : DataW.TrodAll enc Try.prog W 0 (fun _ => true) true Try.f4.params.toList args.toList ds p := hA0
  rw [Try.params4] at hA hval
  obtain ⟨v0, d0, rfl, rfl, h0⟩ := trodAll_one hA
  obtain ⟨rfl, rfl⟩ := trodVars_none hV
  obtain ⟨a0, len, cap, rfl⟩ := okWide_slice Try.underlying22 (hval 0 22 v0 rfl rfl)
  clear hA0 hval0
  simp only [List.append_nil] at hW'
  obtain ⟨hb, hargs⟩ := opened h0 (fun x hx => by simpa using hW'.lt x hx)
  refine (walk a0 len cap W hb).mono fun e W' ⟨he, hnx⟩ => ?_
  subst he
  exact ⟨_, rfl, _, _, _, [], _, [], hW', trodAll_mk1 (shut_bool Try.underlying4 _), trodAll_mk1 (hargs _ hnx), rfl, hnx.frame _, fun h => by cases h⟩

theorem closed : joinedFacts Try.prog 4 Try.f4 Rows.fnIsPeakBandsSpec Rows.fnIsPeakBandsRow = true := by
  unfold joinedFacts
  rw [Cells.laidOut, Cells.mapsRowed_, Cells.stops, Cells.stopKnobs, Cells.plainKeys, Cells.stopsHeard, Cells.mayEnter, Cells.liftsFinal, Cells.make]
  kernel_rfl

theorem over : Rows.fnIsPeakBandsRow.holds Try.pinned (OpenSpec.ofChange Rows.fnIsPeakBandsSpec) :=
  OpenClaim.holds_of_wide 4 Try.f4 rfl rfl rfl rfl rfl rfl rfl ⟨rfl, rfl, rfl, rfl, rfl⟩ rfl rfl rfl rfl rfl (by kernel_rfl) Try.func4 closed
    (of_decide_eq_true (by kernel_rfl)) (by unfold Func.isWrapper; first | (rw [if_pos (by decide +kernel)]; kernel_rfl) | (rw [if_neg (by decide +kernel)]; exact ⟨rfl, rfl⟩))
    (fun os started H enc _ => lifted os started H enc)

/-- THE STATEMENT -/
theorem proved : Rows.FnIsPeakBandsSaid := over
#print axioms proved
end Go.Proofs.Ytfjdicjfcdnolaa.fnIsPeakBands
