/-
  Taps are collected in any order: at every code, with the taps drawn from it, the law FnCollectTapsReverse returns true and leaves the code as it was. No conditions.
-/
import Derived.Test.YtmbgaohnnkmidaaCollect
import Derived.Test.YtmbgaohnnkmidaaCollectLaw
import Derived.Test.YtmbgaohnnkmidaaEqualTap
import Derived.Test.YtmbgaohnnkmidaaDrawCollect
import Derived.Test.YtmbgaohnnkmidaaAppendGuard
import Derived.Test.YtmbgaohnnkmidaaLiftBytes
set_option linter.unusedSimpArgs false
namespace Go.Proofs.Ytmbgaohnnkmidaa.fnCollectTapsReverse
open Go.ChangeShapes Go.WideShapes Go.ChangeAt Go.RowKit
set_option linter.unusedVariables false

set_option maxRecDepth 100000 in
set_option maxHeartbeats 2000000 in
theorem walk (A : Option Addr) (n c : Nat) (w : World) (h : Bytes w w.heap.size A n c) : Calls Try.prog 9 #[.slice A n c] w (TrueBelow w) := by
  by_cases hn : 1048576 < n
  · go_enter Try.func9, Try.ntmps9
    go_wp2
    go_ret
    exact ⟨rfl, Below.refl _ _⟩
  · go_enter Try.func9, Try.ntmps9
    go_wp2_with fail
    refine (drawCollect_any A n c w h).mono ?_
    rintro e w1 ⟨v, xs, rfl, ho, hlen, hsm, hc1⟩
    have hcode : n ≤ 1048576 := by omega
    clear h hsm
    obtain ⟨AL, cL, rfl, lL1, lL2, hr⟩ := ho.form
    have oL := ho.nilOk
    clear ho
    have HL1 := Lib.hid hr; clear hr
    unfold maxLen at lL2
    obtain ⟨out, hP⟩ : ∃ out, Fares.collectTaps xs = out := ⟨_, rfl⟩
    have hol : out.length ≤ 49 := by have := Fares.collectTaps_length xs; rw [hP] at this; exact this
    go_wp2_with fail
    refine (implCollectTaps_any AL xs.length cL xs _ (HL1.out) rfl (by omega)).mono ?_
    rw [hP]
    rintro e w2 ⟨v, rfl, ho, hb2⟩
    obtain ⟨AO, cO, rfl, lO1, lO2, hr⟩ := ho.form
    have oO := ho.nilOk
    clear ho
    have Hn2 := Lib.hid hr; clear hr
    have hc2 : Below w.heap.size w w2 := bT hc1 hb2
    have HkL2 := Lib.hid (readsOver HL1.out hb2)
    clear HL1
    clear hb2
    unfold maxLen at lO2
    go_wp2_with fail
    refine (specCollectTaps_any AL xs.length cL xs _ (HkL2.out) rfl (by omega)).mono ?_
    rw [hP]
    rintro e w3 ⟨v, rfl, ho, hb3⟩
    obtain ⟨AW, cW, rfl, lW1, lW2, hr⟩ := ho.form
    have oW := ho.nilOk
    clear ho
    have Hn3 := Lib.hid hr; clear hr
    have hc3 : Below w.heap.size w w3 := bT hc2 hb3
    have HkL3 := Lib.hid (readsOver HkL2.out hb3)
    clear HkL2
    have HkO3 := Lib.hid (readsOver Hn2.out hb3)
    clear Hn2
    clear hb3
    unfold maxLen at lW2
    go_wp2_with fail
    refine (equalTaps_any AO AW _ _ cO cW out out _ (HkO3.out) (Hn3.out) rfl rfl (by omega) (by omega)).mono ?_
    rw [decide_eq_true (rfl : out = out)]
    rintro e w4 ⟨rfl, hb4⟩
    have hc4 : Below w.heap.size w w4 := bT hc3 hb4
    have HkL4 := Lib.hid (readsOver HkL3.out hb4)
    clear HkL3
    have HkO4 := Lib.hid (readsOver HkO3.out hb4)
    clear HkO3
    have HkW4 := Lib.hid (readsOver Hn3.out hb4)
    clear Hn3
    clear hb4
    have hvo : Fares.validTaps out = true := by rw [← hP]; exact Fares.collect_valid xs
    have hR1 := Fares.collect_rev hvo
    have hR2 := Fares.collect_rev2 hvo
    clear hP hvo
    obtain ⟨R, hR⟩ : ∃ R, out.reverse = R := ⟨_, rfl⟩
    have HRl := Lib.hid (show R.length = out.length by rw [← hR, List.length_reverse])
    have hRb : R.length ≤ 49 := by have := HRl.out; omega
    have HRk := Lib.hid (fun (k : Nat) (hk : k < out.length) => (show R[k]? = out[out.length - 1 - k]? by rw [← hR]; exact List.getElem?_reverse hk))
    rw [hR] at hR1 hR2
    clear hR
    obtain ⟨ti, hi0, hz0, hz1, hz2⟩ := info_parts info_tap4
    have HITap := Lib.hid hi0; clear hi0
    have HZ0Tap := Lib.hid hz0; clear hz0
    have HZ1Tap := Lib.hid hz1; clear hz1
    have HZ2Tap := Lib.hid hz2; clear hz2
    have HOkeep := Lib.hid (HkO4.out)
    have hcN := hc4
    have Hnew := Lib.hid (World.ownsRow_lit (base := w4.heap.size) (e := 30) (size := 6) w4 #[] 0 (Nat.le_refl _) (by unfold maxLen; omega) rfl)
    go_wp2
    go_loopw [6, 5] (fun i v wr => ∃ k : Nat, k ≤ out.length ∧ i = .int .i64 ((out.length : Int) - 1 - (k : Int)) ∧ OwnTaps wr w4.heap.size v (R.take k) ∧ Below w4.heap.size w4 wr) (fun i _ _ => (intOf i + 1).toNat)
    case atStart => exact ⟨0, Nat.zero_le _, by go_num, by rw [List.take_zero]; exact Hnew.out, bA (Below.refl _ _) _⟩
    case round =>
      obtain ⟨k, hk, rfl, hown, hb⟩ := hrel
      obtain ⟨ys, hys⟩ : ∃ ys, R.take k = ys := ⟨_, rfl⟩
      have Hyl := Lib.hid (show ys.length = k by rw [← hys, List.length_take]; have := HRl.out; omega)
      have hyb : ys.length ≤ 49 := by have := Hyl.out; omega
      rw [hys] at hown
      have Hown := Lib.hid hown; clear hown
      by_cases hlt : k < out.length
      · obtain ⟨j, hj⟩ : ∃ j : Nat, (out.length : Int) - 1 - (k : Int) = (j : Int) := ⟨out.length - 1 - k, by omega⟩
        have hjl : j < out.length := by omega
        obtain ⟨x, hxj⟩ : ∃ x, out[j]? = some x := ⟨out[j], List.getElem?_eq_getElem hjl⟩
        have hxk : R[k]? = some x := by rw [HRk.out k hlt, show out.length - 1 - k = j by omega]; exact hxj
        have HN := Lib.hid (show R.take (k + 1) = ys ++ [x] by rw [take_next hxk, hys])
        obtain ⟨b1, o1, eAO, hb1, hr1⟩ := Taps.row HkO4.out (by omega)
        subst eAO
        obtain ⟨p0, p1, p2, p3, p4, p5⟩ := (hr1 j x hxj).below hb hb1
        clear hr1 hxj hxk
        rw [hj]
        have j0 : (0 : Int) ≤ (j : Int) := by omega
        have j1 : (j : Int) < (out.length : Int) := by omega
        have hsz := hb.size
        go_wp2_with (at_builtin; refine wpList_append_lies _ rfl (.tmp 27) (.tmp 32) _ rfl (w4.heap.size) 30 ti _ 6 48 Try.underlying26 HITap.out HZ0Tap.out HZ1Tap.out HZ2Tap.out rfl (by omega) _ _ _ rfl (World.ownsRow.alloc Hown.out _) ⟨wr.heap.size, 0, none⟩ 1 1 (tapCells x) rfl rfl ?c1 ?c2 (by omega) ?c3 ?c4 ?c5 _ rfl ?_)
        case c1 => exact World.news_of_block (Blk.new' (t := 30) (cs := #[.int .i64 x.v, .int .i64 x.n, .int .i64 x.c, .int .i64 x.m, .int .i64 x.s, .bool x.o]) (by simp))
        case c2 => simp [tapCells, Value.oneCell']
        case c3 => unfold maxLen; omega
        case c4 => omega
        case c5 => first | omega | (simp; omega) | simp
        intro gb cap wz hown2 hgrow2 hat2 hlt2
        have HX := Lib.hid (OwnTaps.snoc hown2); clear hown2 hat2
        have hbz : Below w4.heap.size w4 wz := Below.grown (bA hb _) hgrow2 (Below.size (bA hb _)) (fun r hr => (World.ownsRow.lt Hown.out r hr).1)
        clear hgrow2
        go_wp2
        go_roundw
        case rel => exact ⟨k + 1, by omega, by go_num, by rw [show List.take (k + 1) R = _ from HN.out]; exact HX.out, hbz⟩
        case measure => simp [intOf] <;> omega
      · obtain rfl : k = out.length := by omega
        rw [show (out.length : Int) - 1 - (out.length : Int) = -1 by omega]
        have hown := Hown.out
        rw [← hys, List.take_of_length_le (show R.length ≤ out.length by have := HRl.out; omega)] at hown
        clear Hown Hyl hyb hys
        obtain ⟨AR, cR, rfl, lR1, lR2, hr⟩ := OwnTaps.form hown
        have oR := OwnTaps.nilOk hown
        have HnR := Lib.hid hr; clear hr
        have HOR := Lib.hid hown; clear hown
        unfold maxLen at lR2
        obtain ⟨w5, hw5⟩ : ∃ w5, w5 = wr := ⟨_, rfl⟩
        subst hw5
        have hBN5 := hb
        have hc5 : Below w.heap.size w w5 := bT hc4 hb
        have HkL5 := Lib.hid (readsOver HkL4.out hb)
        clear HkL4
        have HkO5 := Lib.hid (readsOver HkO4.out hb)
        clear HkO4
        have HkW5 := Lib.hid (readsOver HkW4.out hb)
        clear HkW4
        clear hb
        go_wp2_with fail
        refine (implCollectTaps_any AR R.length cR R _ (HnR.out) rfl (by omega)).mono ?_
        rw [hR1]
        rintro e w6 ⟨v, rfl, ho, hb6⟩
        obtain ⟨AC, cC, rfl, lC1, lC2, hr⟩ := ho.form
        have oC := ho.nilOk
        clear ho
        have Hn6 := Lib.hid hr; clear hr
        have HOR6 := Lib.hid (OwnTaps.below HOR.out hb6)
        clear HOR
        have hBN6 := bT hBN5 hb6
        have hc6 : Below w.heap.size w w6 := bT hc5 hb6
        have HkL6 := Lib.hid (readsOver HkL5.out hb6)
        clear HkL5
        have HkO6 := Lib.hid (readsOver HkO5.out hb6)
        clear HkO5
        have HkW6 := Lib.hid (readsOver HkW5.out hb6)
        clear HkW5
        have HkR6 := Lib.hid (readsOver HnR.out hb6)
        clear HnR
        clear hb6
        unfold maxLen at lC2
        go_wp2_with fail
        refine (equalTaps_any AC AO _ _ cC cO out out _ (Hn6.out) (HkO6.out) rfl rfl (by omega) (by omega)).mono ?_
        rw [decide_eq_true (rfl : out = out)]
        rintro e w7 ⟨rfl, hb7⟩
        have HOR7 := Lib.hid (OwnTaps.below HOR6.out hb7)
        clear HOR6
        have hBN7 := bT hBN6 hb7
        have hc7 : Below w.heap.size w w7 := bT hc6 hb7
        have HkL7 := Lib.hid (readsOver HkL6.out hb7)
        clear HkL6
        have HkO7 := Lib.hid (readsOver HkO6.out hb7)
        clear HkO6
        have HkW7 := Lib.hid (readsOver HkW6.out hb7)
        clear HkW6
        have HkR7 := Lib.hid (readsOver HkR6.out hb7)
        clear HkR6
        have HkC7 := Lib.hid (readsOver Hn6.out hb7)
        clear Hn6
        clear hb7
        have hsb := (hBN7).size
        go_wp2_with (at_builtin; refine append_src_guard (by rfl) (.tmp 39) (.tmp 40) _ rfl (w4.heap.size) 30 ti _ 6 48 Try.underlying26 HITap.out HZ0Tap.out HZ1Tap.out HZ2Tap.out rfl (by omega) _ _ _ rfl HOR7.out AO (out.length) cO _ (out.flatMap tapCells) rfl oO (by rw [flat_length tapCells 6 (fun _ => rfl)]) HkO7.out (one_flat tapCells (by intro x u hu; simp only [tapCells, List.mem_cons, List.not_mem_nil, or_false] at hu; rcases hu with rfl | rfl | rfl | rfl | rfl | rfl <;> rfl) _) (by unfold maxLen; omega) (by omega) (by first | omega | (simp; omega) | simp) ?_)
        intro v2 w8 hown2 hgrow2 hat2
        have hby : Below w4.heap.size w4 w8 := Below.grown hBN7 hgrow2 (Below.size hBN7) (fun r hr => (World.ownsRow.lt HOR7.out r hr).1)
        have hbO : Below w1.heap.size w1 w1 := Below.refl _ _
        obtain ⟨zz, hzz⟩ : ∃ zz, R ++ out = zz := ⟨_, rfl⟩
        have hzl : zz.length ≤ 98 := by rw [← hzz]; simp only [List.length_append, List.length_reverse]; omega
        have ho2 : OwnTaps w8 w4.heap.size v2 zz := by unfold OwnTaps; rw [← hzz]; have h := hown2; simpa [List.flatMap_append] using h
        obtain ⟨A2, c2, rfl, l21, l22, hr2⟩ := ho2.form
        have H2 := Lib.hid hr2; clear hr2 ho2 hown2
        rw [hzz] at hR2
        have HOz := Lib.hid (readsOver HOkeep.out hby)
        have hcz : Below w.heap.size w w8 := bT hcN hby
        clear hgrow2 hat2
        go_wp2_with fail
        refine (implCollectTaps_any A2 zz.length c2 zz _ (H2.out) rfl (by omega)).mono ?_
        rw [hR2]
        rintro e w9 ⟨v, rfl, ho, hb9⟩
        obtain ⟨AD, cD, rfl, lD1, lD2, hr⟩ := ho.form
        have oD := ho.nilOk
        clear ho
        have Hn9 := Lib.hid hr; clear hr
        have hc9 : Below w.heap.size w w9 := bT hcz hb9
        have HkO9 := Lib.hid (readsOver HOz.out hb9)
        clear HOz
        have HkZ9 := Lib.hid (readsOver H2.out hb9)
        clear H2
        clear hb9
        unfold maxLen at lD2
        go_wp2_with fail
        refine (equalTaps_any AD AO _ _ cD cO out out _ (Hn9.out) (HkO9.out) rfl rfl (by omega) (by omega)).mono ?_
        rw [decide_eq_true (rfl : out = out)]
        rintro e w10 ⟨rfl, hb10⟩
        have hc10 : Below w.heap.size w w10 := bT hc9 hb10
        have HkO10 := Lib.hid (readsOver HkO9.out hb10)
        clear HkO9
        have HkZ10 := Lib.hid (readsOver HkZ9.out hb10)
        clear HkZ9
        have HkD10 := Lib.hid (readsOver Hn9.out hb10)
        clear Hn9
        clear hb10
        go_wp2
        go_ret
        exact ⟨ret_bool (by simp), hc10⟩

set_option maxRecDepth 100000 in
theorem lifted (os : Os) (started : os.Started) (H : Type) (enc : TypeId × Value → H) :
    ReturnsInHanded {} Try.checked os 9 .any (Rows.fnCollectTapsReverseSpec.pre6 enc Try.prog Try.f9 Rows.fnCollectTapsReverseRow.domain false) (Rows.fnCollectTapsReverseSpec.post enc Try.prog Try.f9 false true false false) := by
  refine returnsInHanded_of_change (C := Try.checked) Cells.own started (by kernel_rfl) Try.func9
    (ChangeSpec.witness6 (enc := enc) (C := Try.checked) false ⟨#[], #[.slice none 0 0], []⟩ 8 (by kernel_rfl) (by kernel_rfl) (by kernel_rfl) (by kernel_rfl)) ?_
  intro W base args ds gs before hval0 hW _ _
  have hval : ∀ (j : Nat) t v, Try.f9.params[j]? = some t → args[j]? = some v → Value.okWide Try.prog W .any base t v := hval0
  have hW' := hW
  obtain ⟨p, q, hA0, hV, rfl, _, _⟩ := hW
  have hA : DataW.TrodAll enc Try.prog W 0 (fun _ => true) true Try.f9.params.toList args.toList ds p := hA0
  rw [Try.params9] at hA hval
  obtain ⟨v0, d0, rfl, rfl, h0⟩ := trodAll_one hA
  obtain ⟨rfl, rfl⟩ := trodVars_none hV
  obtain ⟨a0, len, cap, rfl⟩ := okWide_slice Try.underlying37 (hval 0 37 v0 rfl rfl)
  clear hA0 hval0
  simp only [List.append_nil] at hW'
  obtain ⟨hb, hargs⟩ := opened h0 (fun x hx => by simpa using hW'.lt x hx)
  refine (walk a0 len cap W hb).mono fun e W' ⟨he, hnx⟩ => ?_
  subst he
  exact ⟨_, rfl, _, _, _, [], _, [], hW', trodAll_mk1 (shut_bool Try.underlying4 _), trodAll_mk1 (hargs _ hnx), rfl, hnx.frame _, fun h => by cases h⟩

theorem closed : joinedFacts Try.prog 9 Try.f9 Rows.fnCollectTapsReverseSpec Rows.fnCollectTapsReverseRow = true := by
  unfold joinedFacts
  rw [Cells.laidOut, Cells.mapsRowed_, Cells.stops, Cells.stopKnobs, Cells.plainKeys, Cells.stopsHeard, Cells.mayEnter, Cells.liftsFinal, Cells.make]
  kernel_rfl

theorem over : Rows.fnCollectTapsReverseRow.holds Try.pinned (OpenSpec.ofChange Rows.fnCollectTapsReverseSpec) :=
  OpenClaim.holds_of_wide 9 Try.f9 rfl rfl rfl rfl rfl rfl rfl ⟨rfl, rfl, rfl, rfl, rfl⟩ rfl rfl rfl rfl rfl (by kernel_rfl) Try.func9 closed
    (of_decide_eq_true (by kernel_rfl)) (by unfold Func.isWrapper; first | (rw [if_pos (by decide +kernel)]; kernel_rfl) | (rw [if_neg (by decide +kernel)]; exact ⟨rfl, rfl⟩))
    (fun os started H enc _ => lifted os started H enc)

/-- THE STATEMENT -/
theorem proved : Rows.FnCollectTapsReverseSaid := over
#print axioms proved
end Go.Proofs.Ytmbgaohnnkmidaa.fnCollectTapsReverse
