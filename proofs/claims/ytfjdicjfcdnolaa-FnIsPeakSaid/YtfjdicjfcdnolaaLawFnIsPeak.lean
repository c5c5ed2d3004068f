/-
  Weekends have no peaks: for every code, with the bands and the minute drawn from it, the law FnIsPeak returns true and leaves the code as it was. No conditions.
-/
import Derived.Test.YtfjdicjfcdnolaaPeakFn
import Derived.Test.YtfjdicjfcdnolaaDrawPeak
import Derived.Test.YtfjdicjfcdnolaaLiftBytes
namespace Go.Proofs.Ytfjdicjfcdnolaa.fnIsPeak
open Go.ChangeShapes Go.WideShapes Go.ChangeAt Go.RowKit
set_option linter.unusedVariables false

namespace Fares
/-- Of how many of the first k days from a minute on the clock's time is in a peak. -/
def peakDays (ys : List Fares.Band) (m : Int) (k : Nat) : Nat := ((List.range k).filter fun i : Nat => Fares.isPeak ys (m + i * 1440)).length
theorem peakDays_succ (ys : List Fares.Band) (m : Int) (k : Nat) : peakDays ys m (k + 1) = peakDays ys m k + if Fares.isPeak ys (m + k * 1440) then 1 else 0 := by
  unfold peakDays
  rw [List.range_succ, List.filter_append, List.length_append]
  congr 1
  cases h : Fares.isPeak ys (m + k * 1440) <;> simp [h]
theorem isPeak_day (ys : List Fares.Band) (m : Int) (i : Nat) (h0 : 0 ≤ m) (h1 : m + 10080 ≤ 40319) (hi : i ≤ 7) :
    Fares.isPeak ys (m + i * 1440) = ((Fares.validBands ys && ys.any fun b => Fares.inBand b (m % 1440)) && decide ((Fares.dayOf m + i) % 7 < 5)) := by
  have e1 : Fares.momentOk (m + i * 1440) = true := by unfold Fares.momentOk; rw [decide_eq_true_eq]; omega
  have e2 : (m + i * 1440) % 1440 = m % 1440 := by omega
  have e3 : Fares.dayOf (m + i * 1440) = Fares.dayOf m + i := by unfold Fares.dayOf; omega
  unfold Fares.isPeak Fares.workday
  rw [e1, e2, e3]
  cases Fares.validBands ys <;> simp [Bool.and_comm]
theorem peakDays_seven (ys : List Fares.Band) (m : Int) (h0 : 0 ≤ m) (h1 : m + 10080 ≤ 40319) :
    (peakDays ys m 7 = 0 ∧ Fares.isPeak ys m = false) ∨ peakDays ys m 7 = 5 := by
  have hd : 0 ≤ Fares.dayOf m := by unfold Fares.dayOf; omega
  have e : ∀ i : Nat, i ≤ 7 → Fares.isPeak ys (m + i * 1440) = ((Fares.validBands ys && ys.any fun b => Fares.inBand b (m % 1440)) && decide ((Fares.dayOf m + i) % 7 < 5)) := fun i hi => isPeak_day ys m i h0 h1 hi
  have em := e 0 (by omega)
  rw [show m + ((0 : Nat) : Int) * 1440 = m by omega] at em
  generalize (Fares.validBands ys && ys.any fun b => Fares.inBand b (m % 1440)) = F at e em
  simp only [peakDays_succ, e 0 (by omega), e 1 (by omega), e 2 (by omega), e 3 (by omega), e 4 (by omega), e 5 (by omega), e 6 (by omega)]
  have h7 : peakDays ys m 0 = 0 := rfl
  rw [h7]
  cases F with
  | false => left; simp at em ⊢; simpa using em
  | true =>
    right
    simp only [Bool.true_and, decide_eq_true_eq]
    generalize Fares.dayOf m = d at hd
    have : d % 7 = 0 ∨ d % 7 = 1 ∨ d % 7 = 2 ∨ d % 7 = 3 ∨ d % 7 = 4 ∨ d % 7 = 5 ∨ d % 7 = 6 := by omega
    (repeat' split) <;> omega
theorem peakDays_le (ys : List Fares.Band) (m : Int) (k : Nat) : peakDays ys m k ≤ k := by
  unfold peakDays
  have := List.length_filter_le (fun i : Nat => Fares.isPeak ys (m + i * 1440)) (List.range k)
  simpa using this
theorem isPeak_nil (m : Int) : Fares.isPeak [] m = false := by
  unfold Fares.isPeak; simp
end Fares

set_option maxRecDepth 100000 in
set_option maxHeartbeats 4000000 in
theorem walk (A : Option Addr) (n c : Nat) (w : World) (h : Bytes w w.heap.size A n c) : Calls Try.prog 3 #[.slice A n c] w (TrueBelow w) := by
  by_cases hn : 1048576 < n
  · go_enter Try.func3, Try.ntmps3
    go_wp2
    go_ret
    exact ⟨rfl, Below.refl _ _⟩
  · go_enter Try.func3, Try.ntmps3
    go_wp2_with fail
    refine (drawIsPeak_any A n c w h).mono ?_
    rintro e w1 ⟨v, ys, m, rfl, hown1, hlen, hsm, m0, m1, hb1⟩
    obtain ⟨Av, cv, rfl, hc1, hc2, hrs1⟩ := hown1.form
    have Hrs1 := Lib.hid hrs1; clear hrs1
    have Hsm := Lib.hid hsm; clear hsm hown1
    go_wp2_with fail
    refine (implIsPeak_any Av _ cv ys m _ Hrs1.out rfl (by omega)).mono ?_
    rintro e w2 ⟨rfl, hb2⟩
    have hc2' : Below w.heap.size w w2 := bT hb1 hb2
    have Hrs2 := Lib.hid ((Hrs1.out.below hb2 (Nat.le_refl _)).more hb2.size)
    clear hb2
    go_wp2_with fail
    refine (specIsPeak_any Av _ cv ys m _ Hrs2.out rfl (by omega)).mono ?_
    rintro e w3 ⟨rfl, hb3⟩
    have hc3 : Below w.heap.size w w3 := bT hc2' hb3
    have Hrs3 := Lib.hid ((Hrs2.out.below hb3 (Nat.le_refl _)).more hb3.size)
    clear hb3
    by_cases hm : m < 0 ∨ 40319 < m + 10080
    · rcases (by omega : m < 0 ∨ (0 ≤ m ∧ 40319 < m + 10080)) with hlow | ⟨hlow, hhigh⟩
      all_goals
        clear hm
        go_wp2_with fail
        refine (specIsPeak_any Av _ cv ys m _ Hrs3.out rfl (by omega)).mono ?_
        rintro e w4 ⟨rfl, hb4⟩
        have hc4 : Below w.heap.size w w4 := bT hc3 hb4
        clear hb4
        go_wp2
        go_ret
        exact ⟨ret_bool (by simp), hc4⟩
    · have hm0 : 0 ≤ m := by omega
      have hm1 : m + 10080 ≤ 40319 := by omega
      have Hseven := Lib.hid (Fares.peakDays_seven ys m hm0 hm1)
      clear hm
      go_wp2
      go_loopw [6, 7] (fun nn kk wr => ∃ k : Nat, k ≤ 7 ∧ kk = .int .i64 k ∧ nn = .int .i64 (Fares.peakDays ys m k : Nat) ∧ Below w3.heap.size w3 wr) (fun _ kk _ => 7 - (intOf kk).toNat)
      case atStart => exact ⟨0, by omega, rfl, rfl, Below.refl _ _⟩
      case round =>
        obtain ⟨k, hk, rfl, rfl, hb⟩ := hrel
        have hpl := Fares.peakDays_le ys m k
        have hcw : Below w.heap.size w wr := bT hc3 hb
        by_cases hlt : k < 7
        · have Hsucc := Lib.hid (Fares.peakDays_succ ys m k)
          have i1 : (k : Int) < 7 := by omega
          by_cases hpk : Fares.isPeak ys (m + k * 1440) = true
          · go_wp2_with fail
            refine (implIsPeak_any Av _ cv ys (m + k * 1440) _ ((Hrs3.out.below hb (Nat.le_refl _)).more hb.size) rfl (by omega)).mono ?_
            rintro e w4 ⟨rfl, hb4⟩
            have hb5 : Below w3.heap.size w3 w4 := bT hb hb4
            clear hb4 hb hcw
            go_wp2
            go_roundw
            case rel => exact ⟨k + 1, by omega, by go_num, by rw [Hsucc.out, if_pos hpk]; go_num, hb5⟩
            case measure => simp [intOf]; omega
          · have hpk' : Fares.isPeak ys (m + k * 1440) = false := by simpa using hpk
            go_wp2_with fail
            refine (implIsPeak_any Av _ cv ys (m + k * 1440) _ ((Hrs3.out.below hb (Nat.le_refl _)).more hb.size) rfl (by omega)).mono ?_
            rintro e w4 ⟨rfl, hb4⟩
            have hb5 : Below w3.heap.size w3 w4 := bT hb hb4
            clear hb4 hb hcw hpk
            go_wp2
            go_roundw
            case rel => exact ⟨k + 1, by omega, by go_num, by rw [Hsucc.out, hpk']; rfl, hb5⟩
            case measure => simp [intOf]; omega
        · obtain rfl : k = 7 := by omega
          clear hlt hk hpl
          obtain ⟨pd, hpd⟩ : ∃ pd, pd = Fares.peakDays ys m 7 := ⟨_, rfl⟩
          obtain ⟨ok, hok⟩ : ∃ ok, ok = Fares.isPeak ys m := ⟨_, rfl⟩
          have h7 := Hseven.out
          rw [← hpd, ← hok] at h7
          rw [← hpd, ← hok]
          clear hpd hok
          rcases h7 with ⟨rfl, rfl⟩ | rfl
          · go_wp2_with fail
            refine (implIsPeak_any none 0 0 [] m _ (Reads.nil _ _ _) rfl (by omega)).mono ?_
            rintro e w4 ⟨rfl, hb4⟩
            have hc4 : Below w.heap.size w w4 := bT hcw hb4
            clear hb4
            rw [Fares.isPeak_nil]
            go_wp2
            go_ret
            exact ⟨rfl, hc4⟩
          · cases ok
            all_goals
              go_wp2_with fail
              refine (implIsPeak_any none 0 0 [] m _ (Reads.nil _ _ _) rfl (by omega)).mono ?_
              rintro e w4 ⟨rfl, hb4⟩
              have hc4 : Below w.heap.size w w4 := bT hcw hb4
              clear hb4
              rw [Fares.isPeak_nil]
              go_wp2
              go_ret
              exact ⟨rfl, hc4⟩

set_option maxRecDepth 100000 in
theorem lifted (os : Os) (started : os.Started) (H : Type) (enc : TypeId × Value → H) :
    ReturnsInHanded {} Try.checked os 3 .any (Rows.fnIsPeakSpec.pre6 enc Try.prog Try.f3 Rows.fnIsPeakRow.domain false) (Rows.fnIsPeakSpec.post enc Try.prog Try.f3 false true false false) := by
  refine returnsInHanded_of_change (C := Try.checked) Cells.own started (by kernel_rfl) Try.func3
    (ChangeSpec.witness6 (enc := enc) (C := Try.checked) false ⟨#[], #[.slice none 0 0], []⟩ 8 (by kernel_rfl) (by kernel_rfl) (by kernel_rfl) (by kernel_rfl)) ?_
  intro W base args ds gs before hval0 hW _ _
  have hval : ∀ (j : Nat) t v, Try.f3.params[j]? = some t → args[j]? = some v → Value.okWide Try.prog W .any base t v := hval0
  have hW' := hW
  obtain ⟨p, q, hA0, hV, rfl, _, _⟩ := hW
  have hA : DataW.TrodAll enc Try.prog W 0 (fun _ => true) true Try.f3.params.toList args.toList ds p := hA0
  rw [Try.params3] at hA hval
  obtain ⟨v0, d0, rfl, rfl, h0⟩ := trodAll_one hA
  obtain ⟨rfl, rfl⟩ := trodVars_none hV
  obtain ⟨a0, len, cap, rfl⟩ := okWide_slice Try.underlying22 (hval 0 22 v0 rfl rfl)
  clear hA0 hval0
  simp only [List.append_nil] at hW'
  obtain ⟨hb, hargs⟩ := opened h0 (fun x hx => by simpa using hW'.lt x hx)
  refine (walk a0 len cap W hb).mono fun e W' ⟨he, hnx⟩ => ?_
  subst he
  exact ⟨_, rfl, _, _, _, [], _, [], hW', trodAll_mk1 (shut_bool Try.underlying4 _), trodAll_mk1 (hargs _ hnx), rfl, hnx.frame _, fun h => by cases h⟩

theorem closed : joinedFacts Try.prog 3 Try.f3 Rows.fnIsPeakSpec Rows.fnIsPeakRow = true := by
  unfold joinedFacts
  rw [Cells.laidOut, Cells.mapsRowed_, Cells.stops, Cells.stopKnobs, Cells.plainKeys, Cells.stopsHeard, Cells.mayEnter, Cells.liftsFinal, Cells.make]
  kernel_rfl

theorem over : Rows.fnIsPeakRow.holds Try.pinned (OpenSpec.ofChange Rows.fnIsPeakSpec) :=
  OpenClaim.holds_of_wide 3 Try.f3 rfl rfl rfl rfl rfl rfl rfl ⟨rfl, rfl, rfl, rfl, rfl⟩ rfl rfl rfl rfl rfl (by kernel_rfl) Try.func3 closed
    (of_decide_eq_true (by kernel_rfl)) (by unfold Func.isWrapper; first | (rw [if_pos (by decide +kernel)]; kernel_rfl) | (rw [if_neg (by decide +kernel)]; exact ⟨rfl, rfl⟩))
    (fun os started H enc _ => lifted os started H enc)

/-- THE STATEMENT -/
theorem proved : Rows.FnIsPeakSaid := over
#print axioms proved
end Go.Proofs.Ytfjdicjfcdnolaa.fnIsPeak
