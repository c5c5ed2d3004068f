/-
  Halves take no time: for every code, with the journeys drawn from it, the law FnRideMinutesHalf returns true and leaves the code as it was. No conditions.
-/
import Derived.Test.YtnahdclmfegmeaaDrawsJour
import Derived.Test.YtnahdclmfegmeaaJourSum
import Derived.Test.YtnahdclmfegmeaaJourLaw
import Derived.Test.YtnahdclmfegmeaaLinkLaw
import Derived.Test.YtnahdclmfegmeaaOver2
import Derived.Test.YtnahdclmfegmeaaAppendSrc
import Derived.Test.YtnahdclmfegmeaaLiftBytes
import Derived.Test.YtnahdclmfegmeaaListMath
import Derived.Test.YtnahdclmfegmeaaLiftBytes
namespace Go.Proofs.Ytnahdclmfegmeaa.fnRideMinutesHalf
open Go.ChangeShapes Go.WideShapes Go.ChangeAt Go.RowKit
set_option linter.unusedVariables false

theorem info_out : (Try.prog.info? 45).map (fun i => (i.zero, i.size, i.bytes)) = some (some (.agg #[.int .i64 0, .int .i64 0, .int .i64 0, .int .i64 0, .bool false]), 5, 40) := by kernel_rfl
set_option maxRecDepth 100000 in
set_option maxHeartbeats 2000000 in
theorem walk (A : Option Addr) (n c : Nat) (w : World) (h : Bytes w w.heap.size A n c) : Calls Try.prog 18 #[.slice A n c] w (TrueBelow w) := by
  by_cases hn : 1048576 < n
  · go_enter Try.func18, Try.ntmps18
    go_wp2
    go_ret
    exact ⟨rfl, Below.refl _ _⟩
  · go_enter Try.func18, Try.ntmps18
    have Hh := Lib.hid h; clear h
    go_wp2_with fail
    refine (drawRideMinutes_any A n c w Hh.out).mono ?_
    rintro e w1 ⟨v, ys, rfl, hown1, hlen, hsm, hb1⟩
    obtain ⟨Av, cv, rfl, hcv1, hcv2, hrs1⟩ := OwnJourneys.form hown1
    unfold maxLen at hcv2
    have HB1 := Lib.hid hb1; clear hb1
    have Hxs1 := Lib.hid hrs1; clear hrs1
    have Hsm := Lib.hid hsm; clear hsm hown1
    obtain ⟨R, hR⟩ : ∃ R, R = Fares.rideMinutes ys := ⟨_, rfl⟩
    have HR := Lib.hid hR; clear hR
    go_wp2_with fail
    refine (implRideMinutes_any Av _ cv ys _ Hxs1.out rfl (by omega)).mono ?_
    rintro e w2 ⟨rfl, hb2⟩
    rw [← HR.out]
    have HB2 := Lib.hid (bT HB1.out hb2)
    clear HB1
    have Hxs2 := Lib.hid (readsOver Hxs1.out hb2)
    clear Hxs1
    clear hb2
    go_wp2_with fail
    refine (specRideMinutes_any Av _ cv ys _ Hxs2.out rfl (by omega)).mono ?_
    rintro e w3 ⟨rfl, hb3⟩
    rw [← HR.out]
    have HB3 := Lib.hid (bT HB2.out hb3)
    clear HB2
    have Hxs3 := Lib.hid (readsOver Hxs2.out hb3)
    clear Hxs2
    clear hb3
    by_cases hr : 0 ≤ R
    · have hrn : decide (R < 0) = false := by rw [decide_eq_false_iff_not]; omega
      obtain ⟨hv, hs⟩ := Fares.rideMinutes_ok (xs := ys) (by rw [← HR.out]; exact hr)
      have hRs : R = Fares.rideSum ys := by rw [HR.out]; exact hs
      have hvf := Fares.valid_filter hv (fun j => j.f)
      have HM := Lib.hid (show Fares.rideMinutes (ys.filter fun j => j.f) = R by rw [Fares.rideMinutes_of hvf, hRs]; exact Fares.rideSum_full ys 0 ((Fares.valid_iff.1 hv).2))
      have HQ := Lib.hid (show Fares.halfCount (ys.filter fun j => j.f) = 0 by rw [Fares.halfCount_of hvf]; exact Fares.halfSum_full ys)
      have hlv := Fares.length_of_valid hv
      obtain ⟨F, hF⟩ : ∃ F : Nat → List Fares.Journey, F = fun k => (ys.take k).filter fun j => j.f := ⟨_, rfl⟩
      have HFn := Lib.hid (fun (k : Nat) (x : Fares.Journey) (h : ys[k]? = some x) => (show F (k + 1) = F k ++ (if x.f then [x] else []) by rw [hF]; exact Fares.filter_take_next h _))
      have HFl := Lib.hid (fun (k : Nat) => (show (F k).length ≤ k by rw [hF]; exact Fares.filter_take_le ys k _))
      have HF0 := Lib.hid (show F 0 = [] by rw [hF]; simp)
      have HFe := Lib.hid (show F ys.length = ys.filter fun j => j.f by rw [hF]; dsimp only; rw [List.take_length])
      clear hF hs hRs hv hvf
      obtain ⟨ti, hi0, hz0, hz1, hz2⟩ := info_parts info_out
      have HIJourney := Lib.hid hi0; clear hi0
      have HZ0Journey := Lib.hid hz0; clear hz0
      have HZ1Journey := Lib.hid hz1; clear hz1
      have HZ2Journey := Lib.hid hz2; clear hz2
      have HBo := Lib.hid (Below.refl w3.heap.size w3)
      have Hnew := Lib.hid (World.ownsRow_lit (base := w3.heap.size) (e := 45) (size := 5) w3 #[] 0 (Nat.le_refl _) (by unfold maxLen; omega) rfl)
      go_wp2
      go_loopw [6, 5] (fun i v wr => ∃ k : Nat, k ≤ ys.length ∧ i = .int .i64 k ∧ OwnJourneys wr w3.heap.size v (F k) ∧ Below w3.heap.size w3 wr) (fun i _ _ => ys.length - (intOf i).toNat)
      case atStart => exact ⟨0, Nat.zero_le _, rfl, (by rw [HF0.out]; exact Hnew.out), bA (Below.refl _ _) _⟩
      case round =>
        obtain ⟨k, hk, rfl, hown, hb⟩ := hrel
        have Hown := Lib.hid hown; clear hown
        have hszr := hb.size
        clear HBo
        have HBo := Lib.hid hb; clear hb
        have hfl := HFl.out k
        by_cases hlt : k < ys.length
        · obtain ⟨x, hx⟩ : ∃ x, ys[k]? = some x := ⟨_, List.getElem?_eq_getElem hlt⟩
          have HN := Lib.hid (HFn.out k x hx)
          obtain ⟨bx, ox, rfl, hbx, hrow⟩ := Journeys.row (readsOver Hxs3.out HBo.out) (by omega)
          obtain ⟨p0, p1, p2, p3, p4⟩ := hrow k x hx
          clear hrow hx
          have i0 : (0 : Int) ≤ (k : Int) := by omega
          have i1 : (k : Int) < (ys.length : Int) := by omega
          by_cases hf : x.f = true
          · rw [hf] at p4
            go_wp2_with (at_builtin; refine wpList_append_lies _ rfl (.tmp 38) (.tmp 43) _ rfl (w3.heap.size) 45 ti _ 5 40 Try.underlying41 HIJourney.out HZ0Journey.out HZ1Journey.out HZ2Journey.out rfl (by omega) _ _ _ rfl (World.ownsRow.alloc Hown.out _) ⟨wr.heap.size, 0, none⟩ 1 1 [.int .i64 x.a, .int .i64 x.b, .int .i64 x.x, .int .i64 x.y, .bool true] rfl rfl ?c1 ?c2 (by omega) ?c3 ?c4 ?c5 _ rfl ?_)
            case c1 => exact World.news_of_block (Blk.new' (t := 45) (cs := #[.int .i64 x.a, .int .i64 x.b, .int .i64 x.x, .int .i64 x.y, .bool true]) (by simp))
            case c2 => simp [journeyCells, Value.oneCell']
            case c3 => unfold maxLen; omega
            case c4 => omega
            case c5 => first | omega | (simp; omega) | simp
            intro gb6 cap6 w6 hown6 hgrow6 hat6 hlt6
            have HX6 := Lib.hid (OwnJourneys.snoc (x := x) (by unfold journeyCells; rw [hf]; exact hown6)); clear hown6 hat6
            have HBo6 := Lib.hid (Below.grown (bA HBo.out _) hgrow6 (Below.size (bA HBo.out _)) (fun r hr => (World.ownsRow.lt Hown.out r hr).1))
            clear HBo
            clear hgrow6
            clear Hown
            go_wp2
            go_roundw
            case rel => exact ⟨k + 1, by omega, by go_num, by rw [HN.out, if_pos hf]; exact HX6.out, HBo6.out⟩
            case measure => simp [intOf]; omega
          · have hf' : x.f = false := by simpa using hf
            rw [hf'] at p4
            clear hf
            have Hf := Lib.hid hf'; clear hf'
            go_wp2
            go_roundw
            case rel => exact ⟨k + 1, by omega, by go_num, by rw [HN.out, Hf.out]; simpa using Hown.out, HBo.out⟩
            case measure => simp [intOf]; omega
        · have hke : k = ys.length := by omega
          subst hke
          have Hfin := Lib.hid (show OwnJourneys wr w3.heap.size _ (ys.filter fun j => j.f) by rw [← HFe.out]; exact Hown.out); clear Hown
          obtain ⟨G, hG⟩ : ∃ G, G = ys.filter fun j => j.f := ⟨_, rfl⟩
          have hGl : G.length ≤ 24 := by rw [hG]; have := List.length_filter_le (fun j : Fares.Journey => j.f) ys; omega
          rw [← hG] at Hfin HM HQ
          clear hG
          obtain ⟨Af, cf, rfl, hcf1, hcf2, hrf⟩ := OwnJourneys.form Hfin.out
          have Hg := Lib.hid hrf; clear hrf Hfin
          go_wp2_with fail
          refine (implRideMinutes_any Af _ cf G _ Hg.out rfl (by omega)).mono ?_
          rintro e w6 ⟨rfl, hb6⟩
          rw [HM.out]
          have HBo6 := Lib.hid (bT HBo.out hb6)
          clear HBo
          have Hg6 := Lib.hid (readsOver Hg.out hb6)
          clear Hg
          clear hb6
          go_wp2_with fail
          refine (implHalfCount_any Af _ cf G _ Hg6.out rfl (by omega)).mono ?_
          rintro e w7 ⟨rfl, hb7⟩
          rw [HQ.out]
          have HBo7 := Lib.hid (bT HBo6.out hb7)
          clear HBo6
          have Hg7 := Lib.hid (readsOver Hg6.out hb7)
          clear Hg6
          clear hb7
          go_wp2
          go_ret
          exact ⟨rfl, bT HB3.out HBo7.out⟩
    · have hr1 : R < 0 := by omega
      clear hr
      go_wp2_with fail
      refine (specRideMinutes_any Av _ cv ys _ Hxs3.out rfl (by omega)).mono ?_
      rintro e w4 ⟨rfl, hb4⟩
      rw [← HR.out]
      have HB4 := Lib.hid (bT HB3.out hb4)
      clear HB3
      have Hxs4 := Lib.hid (readsOver Hxs3.out hb4)
      clear Hxs3
      clear hb4
      go_wp2
      go_ret
      exact ⟨rfl, HB4.out⟩

set_option maxRecDepth 100000 in
theorem lifted (os : Os) (started : os.Started) (H : Type) (enc : TypeId × Value → H) :
    ReturnsInHanded {} Try.checked os 18 .any (Rows.fnRideMinutesHalfSpec.pre6 enc Try.prog Try.f18 Rows.fnRideMinutesHalfRow.domain false) (Rows.fnRideMinutesHalfSpec.post enc Try.prog Try.f18 false true false false) := by
  refine returnsInHanded_of_change (C := Try.checked) Cells.own started (by kernel_rfl) Try.func18
    (ChangeSpec.witness6 (enc := enc) (C := Try.checked) false ⟨#[], #[.slice none 0 0], []⟩ 8 (by kernel_rfl) (by kernel_rfl) (by kernel_rfl) (by kernel_rfl)) ?_
  intro W base args ds gs before hval0 hW _ _
  have hval : ∀ (j : Nat) t v, Try.f18.params[j]? = some t → args[j]? = some v → Value.okWide Try.prog W .any base t v := hval0
  have hW' := hW
  obtain ⟨p, q, hA0, hV, rfl, _, _⟩ := hW
  have hA : DataW.TrodAll enc Try.prog W 0 (fun _ => true) true Try.f18.params.toList args.toList ds p := hA0
  rw [Try.params18] at hA hval
  obtain ⟨v0, d0, rfl, rfl, h0⟩ := trodAll_one hA
  obtain ⟨rfl, rfl⟩ := trodVars_none hV
  obtain ⟨a0, len, cap, rfl⟩ := okWide_slice Try.underlying22 (hval 0 22 v0 rfl rfl)
  clear hA0 hval0
  simp only [List.append_nil] at hW'
  obtain ⟨hb, hargs⟩ := opened h0 (fun x hx => by simpa using hW'.lt x hx)
  refine (walk a0 len cap W hb).mono fun e W' ⟨he, hnx⟩ => ?_
  subst he
  exact ⟨_, rfl, _, _, _, [], _, [], hW', trodAll_mk1 (shut_bool Try.underlying4 _), trodAll_mk1 (hargs _ hnx), rfl, hnx.frame _, fun h => by cases h⟩

theorem closed : joinedFacts Try.prog 18 Try.f18 Rows.fnRideMinutesHalfSpec Rows.fnRideMinutesHalfRow = true := by
  unfold joinedFacts
  rw [Cells.laidOut, Cells.mapsRowed_, Cells.stops, Cells.stopKnobs, Cells.plainKeys, Cells.stopsHeard, Cells.mayEnter, Cells.liftsFinal, Cells.make]
  kernel_rfl

theorem over : Rows.fnRideMinutesHalfRow.holds Try.pinned (OpenSpec.ofChange Rows.fnRideMinutesHalfSpec) :=
  OpenClaim.holds_of_wide 18 Try.f18 rfl rfl rfl rfl rfl rfl rfl ⟨rfl, rfl, rfl, rfl, rfl⟩ rfl rfl rfl rfl rfl (by kernel_rfl) Try.func18 closed
    (of_decide_eq_true (by kernel_rfl)) (by unfold Func.isWrapper; first | (rw [if_pos (by decide +kernel)]; kernel_rfl) | (rw [if_neg (by decide +kernel)]; exact ⟨rfl, rfl⟩))
    (fun os started H enc _ => lifted os started H enc)

/-- THE STATEMENT -/
theorem proved : Rows.FnRideMinutesHalfSaid := over
#print axioms proved
end Go.Proofs.Ytnahdclmfegmeaa.fnRideMinutesHalf
