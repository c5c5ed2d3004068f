/-
  Taps that come twice are collected once: at every code, with the taps drawn from it, the law FnCollectTapsTwice returns true and leaves the code as it was. No conditions.
-/
import Derived.Test.YtmbgaohnnkmidaaCollect
import Derived.Test.YtmbgaohnnkmidaaCollectLaw
import Derived.Test.YtmbgaohnnkmidaaEqualTap
import Derived.Test.YtmbgaohnnkmidaaDrawCollect
import Derived.Test.YtmbgaohnnkmidaaAppendSrc
import Derived.Test.YtmbgaohnnkmidaaLiftBytes
set_option linter.unusedSimpArgs false
namespace Go.Proofs.Ytmbgaohnnkmidaa.fnCollectTapsTwice
open Go.ChangeShapes Go.WideShapes Go.ChangeAt Go.RowKit
set_option linter.unusedVariables false

set_option maxRecDepth 100000 in
set_option maxHeartbeats 2000000 in
theorem walk (A : Option Addr) (n c : Nat) (w : World) (h : Bytes w w.heap.size A n c) : Calls Try.prog 10 #[.slice A n c] w (TrueBelow w) := by
  by_cases hn : 1048576 < n
  · go_enter Try.func10, Try.ntmps10
    go_wp2
    go_ret
    exact ⟨rfl, Below.refl _ _⟩
  · go_enter Try.func10, Try.ntmps10
    go_wp2_with fail
    refine (drawCollect_any A n c w h).mono ?_
    rintro e w1 ⟨v, xs, rfl, ho, hlen, hsm, hc1⟩
    have hcode : n ≤ 1048576 := by omega
    clear h hsm
    obtain ⟨AL, cL, rfl, lL1, lL2, hr⟩ := ho.form
    have oL := ho.nilOk
    clear ho
    have HL1 := Lib.hid hr; clear hr
    unfold maxLen at lL2
    obtain ⟨out, hP⟩ : ∃ out, Fares.collectTaps xs = out := ⟨_, rfl⟩
    have hol : out.length ≤ 49 := by have := Fares.collectTaps_length xs; rw [hP] at this; exact this
    go_wp2_with fail
    refine (implCollectTaps_any AL xs.length cL xs _ (HL1.out) rfl (by omega)).mono ?_
    rw [hP]
    rintro e w2 ⟨v, rfl, ho, hb2⟩
    obtain ⟨AO, cO, rfl, lO1, lO2, hr⟩ := ho.form
    have oO := ho.nilOk
    clear ho
    have Hn2 := Lib.hid hr; clear hr
    have hc2 : Below w.heap.size w w2 := bT hc1 hb2
    have HkL2 := Lib.hid (readsOver HL1.out hb2)
    clear HL1
    clear hb2
    unfold maxLen at lO2
    go_wp2_with fail
    refine (specCollectTaps_any AL xs.length cL xs _ (HkL2.out) rfl (by omega)).mono ?_
    rw [hP]
    rintro e w3 ⟨v, rfl, ho, hb3⟩
    obtain ⟨AW, cW, rfl, lW1, lW2, hr⟩ := ho.form
    have oW := ho.nilOk
    clear ho
    have Hn3 := Lib.hid hr; clear hr
    have hc3 : Below w.heap.size w w3 := bT hc2 hb3
    have HkL3 := Lib.hid (readsOver HkL2.out hb3)
    clear HkL2
    have HkO3 := Lib.hid (readsOver Hn2.out hb3)
    clear Hn2
    clear hb3
    unfold maxLen at lW2
    go_wp2_with fail
    refine (equalTaps_any AO AW _ _ cO cW out out _ (HkO3.out) (Hn3.out) rfl rfl (by omega) (by omega)).mono ?_
    rw [decide_eq_true (rfl : out = out)]
    rintro e w4 ⟨rfl, hb4⟩
    have hc4 : Below w.heap.size w w4 := bT hc3 hb4
    have HkL4 := Lib.hid (readsOver HkL3.out hb4)
    clear HkL3
    have HkO4 := Lib.hid (readsOver HkO3.out hb4)
    clear HkO3
    have HkW4 := Lib.hid (readsOver Hn3.out hb4)
    clear Hn3
    clear hb4
    by_cases hl : xs.length ≤ 24
    · have e24 : decide ((24 : Int) < (xs.length : Int)) = false := by rw [decide_eq_false_iff_not]; omega
      have e24n : decide (24 < xs.length) = false := by rw [decide_eq_false_iff_not]; omega
      have hQ := (Fares.collect_twice hl).trans hP
      obtain ⟨ti, hi0, hz0, hz1, hz2⟩ := info_parts info_tap4
      have HITap := Lib.hid hi0; clear hi0
      have HZ0Tap := Lib.hid hz0; clear hz0
      have HZ1Tap := Lib.hid hz1; clear hz1
      have HZ2Tap := Lib.hid hz2; clear hz2
      have Hnew := Lib.hid (World.ownsRow_lit (base := w4.heap.size) (e := 30) (size := 6) w4 #[] 0 (Nat.le_refl _) (by unfold maxLen; omega) rfl)
      go_wp2_with (at_builtin; refine append_src rfl (.tmp 26) (.tmp 27) _ rfl (w4.heap.size) 30 ti _ 6 48 Try.underlying26 HITap.out HZ0Tap.out HZ1Tap.out HZ2Tap.out rfl (by omega) _ 0 _ rfl Hnew.out AL (xs.length) cL _ (xs.flatMap tapCells) rfl oL (by rw [flat_length tapCells 6 (fun _ => rfl)]) (readsOver HkL4.out (bA (Below.refl _ _) _)) (one_flat tapCells (by intro x u hu; simp only [tapCells, List.mem_cons, List.not_mem_nil, or_false] at hu; rcases hu with rfl | rfl | rfl | rfl | rfl | rfl <;> rfl) _) (by unfold maxLen; omega) (by omega) (by first | omega | (simp; omega) | simp) ?_)
      intro v1 w5 hown1 hgrow1 hat1
      have hbx : Below w4.heap.size w4 w5 := Below.grown (bA (Below.refl _ _) _) hgrow1 (Below.size (bA (Below.refl _ _) _)) (fun r hr => (World.ownsRow.lt Hnew.out r hr).1)
      have hsx := hbx.size
      clear hgrow1 hat1
      go_wp2_with (at_builtin; refine append_src rfl (.tmp 28) (.tmp 29) _ rfl (w4.heap.size) 30 ti _ 6 48 Try.underlying26 HITap.out HZ0Tap.out HZ1Tap.out HZ2Tap.out rfl (by omega) _ _ _ rfl hown1 AL (xs.length) cL _ (xs.flatMap tapCells) rfl oL (by rw [flat_length tapCells 6 (fun _ => rfl)]) (readsOver HkL4.out hbx) (one_flat tapCells (by intro x u hu; simp only [tapCells, List.mem_cons, List.not_mem_nil, or_false] at hu; rcases hu with rfl | rfl | rfl | rfl | rfl | rfl <;> rfl) _) (by unfold maxLen; omega) (by omega) (by first | omega | (simp; omega) | simp) ?_)
      intro v2 w6 hown2 hgrow2 hat2
      have hby : Below w4.heap.size w4 w6 := Below.grown hbx hgrow2 (Below.size hbx) (fun r hr => (World.ownsRow.lt hown1 r hr).1)
      clear hgrow2 hat2 hown1 hbx hsx
      obtain ⟨zz, hzz⟩ : ∃ zz, xs ++ xs = zz := ⟨_, rfl⟩
      have hzl : zz.length ≤ 98 := by rw [← hzz]; simp only [List.length_append, List.length_reverse]; omega
      have ho2 : OwnTaps w6 w4.heap.size v2 zz := by unfold OwnTaps; rw [← hzz]; have h := hown2; simpa [List.flatMap_append] using h
      obtain ⟨A2, c2, rfl, l21, l22, hr2⟩ := ho2.form
      have H2 := Lib.hid hr2; clear hr2 ho2 hown2
      have hc6 : Below w.heap.size w w6 := bT hc4 hby
      have HkL6 := Lib.hid (readsOver HkL4.out hby)
      clear HkL4
      have HkO6 := Lib.hid (readsOver HkO4.out hby)
      clear HkO4
      have HkW6 := Lib.hid (readsOver HkW4.out hby)
      clear HkW4
      clear hby
      rw [hzz] at hQ
      go_wp2_with fail
      refine (implCollectTaps_any A2 zz.length c2 zz _ (H2.out) rfl (by omega)).mono ?_
      rw [hQ]
      rintro e w7 ⟨v, rfl, ho, hb7⟩
      obtain ⟨AD, cD, rfl, lD1, lD2, hr⟩ := ho.form
      have oD := ho.nilOk
      clear ho
      have Hn7 := Lib.hid hr; clear hr
      have hc7 : Below w.heap.size w w7 := bT hc6 hb7
      have HkL7 := Lib.hid (readsOver HkL6.out hb7)
      clear HkL6
      have HkO7 := Lib.hid (readsOver HkO6.out hb7)
      clear HkO6
      have HkW7 := Lib.hid (readsOver HkW6.out hb7)
      clear HkW6
      have HkZ7 := Lib.hid (readsOver H2.out hb7)
      clear H2
      clear hb7
      unfold maxLen at lD2
      go_wp2_with fail
      refine (equalTaps_any AD AO _ _ cD cO out out _ (Hn7.out) (HkO7.out) rfl rfl (by omega) (by omega)).mono ?_
      rw [decide_eq_true (rfl : out = out)]
      rintro e w8 ⟨rfl, hb8⟩
      have hc8 : Below w.heap.size w w8 := bT hc7 hb8
      have HkL8 := Lib.hid (readsOver HkL7.out hb8)
      clear HkL7
      have HkO8 := Lib.hid (readsOver HkO7.out hb8)
      clear HkO7
      have HkW8 := Lib.hid (readsOver HkW7.out hb8)
      clear HkW7
      have HkZ8 := Lib.hid (readsOver HkZ7.out hb8)
      clear HkZ7
      have HkD8 := Lib.hid (readsOver Hn7.out hb8)
      clear Hn7
      clear hb8
      go_wp2
      go_ret
      exact ⟨ret_bool (by simp), hc8⟩
    · have e24 : decide ((24 : Int) < (xs.length : Int)) = true := by rw [decide_eq_true_eq]; omega
      have e24n : decide (24 < xs.length) = true := by rw [decide_eq_true_eq]; omega
      go_wp2_with fail
      refine (specCollectTaps_any AL xs.length cL xs _ (HkL4.out) rfl (by omega)).mono ?_
      rw [hP]
      rintro e w5 ⟨v, rfl, ho, hb5⟩
      obtain ⟨AZ, cZ, rfl, lZ1, lZ2, hr⟩ := ho.form
      have oZ := ho.nilOk
      clear ho
      have Hn5 := Lib.hid hr; clear hr
      have hc5 : Below w.heap.size w w5 := bT hc4 hb5
      have HkL5 := Lib.hid (readsOver HkL4.out hb5)
      clear HkL4
      have HkO5 := Lib.hid (readsOver HkO4.out hb5)
      clear HkO4
      have HkW5 := Lib.hid (readsOver HkW4.out hb5)
      clear HkW4
      clear hb5
      unfold maxLen at lZ2
      go_wp2_with fail
      refine (equalTaps_any AO AZ _ _ cO cZ out out _ (HkO5.out) (Hn5.out) rfl rfl (by omega) (by omega)).mono ?_
      rw [decide_eq_true (rfl : out = out)]
      rintro e w6 ⟨rfl, hb6⟩
      have hc6 : Below w.heap.size w w6 := bT hc5 hb6
      have HkL6 := Lib.hid (readsOver HkL5.out hb6)
      clear HkL5
      have HkO6 := Lib.hid (readsOver HkO5.out hb6)
      clear HkO5
      have HkW6 := Lib.hid (readsOver HkW5.out hb6)
      clear HkW5
      have HkZ6 := Lib.hid (readsOver Hn5.out hb6)
      clear Hn5
      clear hb6
      go_wp2
      go_ret
      exact ⟨ret_bool (by simp), hc6⟩

set_option maxRecDepth 100000 in
theorem lifted (os : Os) (started : os.Started) (H : Type) (enc : TypeId × Value → H) :
    ReturnsInHanded {} Try.checked os 10 .any (Rows.fnCollectTapsTwiceSpec.pre6 enc Try.prog Try.f10 Rows.fnCollectTapsTwiceRow.domain false) (Rows.fnCollectTapsTwiceSpec.post enc Try.prog Try.f10 false true false false) := by
  refine returnsInHanded_of_change (C := Try.checked) Cells.own started (by kernel_rfl) Try.func10
    (ChangeSpec.witness6 (enc := enc) (C := Try.checked) false ⟨#[], #[.slice none 0 0], []⟩ 8 (by kernel_rfl) (by kernel_rfl) (by kernel_rfl) (by kernel_rfl)) ?_
  intro W base args ds gs before hval0 hW _ _
  have hval : ∀ (j : Nat) t v, Try.f10.params[j]? = some t → args[j]? = some v → Value.okWide Try.prog W .any base t v := hval0
  have hW' := hW
  obtain ⟨p, q, hA0, hV, rfl, _, _⟩ := hW
  have hA : DataW.TrodAll enc Try.prog W 0 (fun _ => true) true Try.f10.params.toList args.toList ds p := hA0
  rw [Try.params10] at hA hval
  obtain ⟨v0, d0, rfl, rfl, h0⟩ := trodAll_one hA
  obtain ⟨rfl, rfl⟩ := trodVars_none hV
  obtain ⟨a0, len, cap, rfl⟩ := okWide_slice Try.underlying37 (hval 0 37 v0 rfl rfl)
  clear hA0 hval0
  simp only [List.append_nil] at hW'
  obtain ⟨hb, hargs⟩ := opened h0 (fun x hx => by simpa using hW'.lt x hx)
  refine (walk a0 len cap W hb).mono fun e W' ⟨he, hnx⟩ => ?_
  subst he
  exact ⟨_, rfl, _, _, _, [], _, [], hW', trodAll_mk1 (shut_bool Try.underlying4 _), trodAll_mk1 (hargs _ hnx), rfl, hnx.frame _, fun h => by cases h⟩

theorem closed : joinedFacts Try.prog 10 Try.f10 Rows.fnCollectTapsTwiceSpec Rows.fnCollectTapsTwiceRow = true := by
  unfold joinedFacts
  rw [Cells.laidOut, Cells.mapsRowed_, Cells.stops, Cells.stopKnobs, Cells.plainKeys, Cells.stopsHeard, Cells.mayEnter, Cells.liftsFinal, Cells.make]
  kernel_rfl

theorem over : Rows.fnCollectTapsTwiceRow.holds Try.pinned (OpenSpec.ofChange Rows.fnCollectTapsTwiceSpec) :=
  OpenClaim.holds_of_wide 10 Try.f10 rfl rfl rfl rfl rfl rfl rfl ⟨rfl, rfl, rfl, rfl, rfl⟩ rfl rfl rfl rfl rfl (by kernel_rfl) Try.func10 closed
    (of_decide_eq_true (by kernel_rfl)) (by unfold Func.isWrapper; first | (rw [if_pos (by decide +kernel)]; kernel_rfl) | (rw [if_neg (by decide +kernel)]; exact ⟨rfl, rfl⟩))
    (fun os started H enc _ => lifted os started H enc)

/-- THE STATEMENT -/
theorem proved : Rows.FnCollectTapsTwiceSaid := over
#print axioms proved
end Go.Proofs.Ytmbgaohnnkmidaa.fnCollectTapsTwice
