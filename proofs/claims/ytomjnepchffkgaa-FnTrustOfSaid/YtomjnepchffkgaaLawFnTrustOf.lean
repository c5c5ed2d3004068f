/-
  Trust is bounded, 0 behind a day that was not paid and not less behind one that was: at every code, the law FnTrustOf returns true and leaves the code as it was. No conditions.
-/
import Derived.Test.YtomjnepchffkgaaRiskFn
import Derived.Test.YtomjnepchffkgaaRiskLaw
import Derived.Test.YtomjnepchffkgaaDrawsRisk
import Derived.Test.YtomjnepchffkgaaAppendSrc
import Derived.Test.YtomjnepchffkgaaOver2
import Derived.Test.YtomjnepchffkgaaLiftBytes
set_option linter.unusedSimpArgs false
namespace Go.Proofs.Ytomjnepchffkgaa.fnTrustOf
open Go.ChangeShapes Go.WideShapes Go.ChangeAt Go.RowKit
set_option linter.unusedVariables false

set_option maxRecDepth 100000 in
set_option maxHeartbeats 2000000 in
theorem walk (A : Option Addr) (n c : Nat) (w : World) (h : Bytes w w.heap.size A n c) : Calls Try.prog 3 #[.slice A n c] w (TrueBelow w) := by
  by_cases hn : 1048576 < n
  · go_enter Try.func3, Try.ntmps3
    go_wp2
    go_ret
    exact ⟨rfl, Below.refl _ _⟩
  · go_enter Try.func3, Try.ntmps3
    go_wp2_with fail
    refine (drawTrustOf_any A n c w h).mono ?_
    rintro e w1 ⟨vv, xs, f, t, rfl, ho, hlen, f0, f1, t0, t1, hc1⟩
    have hcode : n ≤ 1048576 := by omega
    clear h
    obtain ⟨AL, cL, rfl, lL1, lL2, hr⟩ := ho.form
    have oL := ho.nilOk
    clear ho
    have HL1 := Lib.hid hr; clear hr
    unfold maxLen at lL2
    obtain ⟨v, hv⟩ : ∃ v, Fares.trustOf xs f t = v := ⟨_, rfl⟩
    have hr : v = -1 ∨ (0 ≤ v ∧ v ≤ 5000) := hv ▸ Fares.trustOf_range xs f t
    go_wp2_with fail
    refine (implTrustOf_any AL xs.length cL xs f t _ (HL1.out) rfl (by omega)).mono ?_
    rw [hv]
    rintro e w2 ⟨rfl, hb2⟩
    have hc2 : Below w.heap.size w w2 := bT hc1 hb2
    have HkL2 := Lib.hid (readsOver HL1.out hb2)
    clear HL1
    clear hb2
    go_wp2_with fail
    refine (specTrustOf_any AL xs.length cL xs f t _ (HkL2.out) rfl (by omega)).mono ?_
    rw [hv]
    rintro e w3 ⟨rfl, hb3⟩
    have hc3 : Below w.heap.size w w3 := bT hc2 hb3
    have HkL3 := Lib.hid (readsOver HkL2.out hb3)
    clear HkL2
    clear hb3
    by_cases hp : 0 ≤ v
    · by_cases h30 : xs.length = 30
      · have e30 : ((xs.length : Int) == 30) = true := by simp; omega
        have e30b : ((xs.length : Int) = 30) := by omega
        have H30 := Lib.hid h30; clear h30
        go_wp2_with fail
        refine (specTrustOf_any AL xs.length cL xs f t _ (HkL3.out) rfl (by omega)).mono ?_
        rw [hv]
        rintro e w4 ⟨rfl, hb4⟩
        have hc4 : Below w.heap.size w w4 := bT hc3 hb4
        have HkL4 := Lib.hid (readsOver HkL3.out hb4)
        clear HkL3
        clear hb4
        go_wp2
        all_goals first | (go_ret; exact ⟨ret_bool (by first | rfl | (simp; done) | (simp; omega) | omega), hc4⟩) | (exfalso; omega)
      · have e30 : ((xs.length : Int) == 30) = false := by simp; omega
        obtain ⟨q1, q2⟩ := Fares.trust_law hv hp (by omega) (by omega)
        obtain ⟨m, Em⟩ : ∃ m, (if (5000 : Int) < v + t then 5000 else v + t) = m := ⟨_, rfl⟩
        rw [Em] at q1
        obtain ⟨ti, hi0, hz0, hz1, hz2⟩ := info_parts info_bool2
        have HI := Lib.hid hi0; clear hi0
        have HZ0 := Lib.hid hz0; clear hz0
        have HZ1 := Lib.hid hz1; clear hz1
        have HZ2 := Lib.hid hz2; clear hz2
        have Hnew := Lib.hid (World.ownsRow_lit (base := w3.heap.size) (e := 4) (size := 1) w3 #[] 0 (Nat.le_refl _) (by unfold maxLen; omega) rfl)
        go_wp2_with (at_builtin; refine append_src rfl (.tmp 43) (.tmp 44) _ rfl (w3.heap.size) 4 ti _ 1 1 Try.underlying23 HI.out HZ0.out HZ1.out HZ2.out rfl (by omega) _ 0 _ rfl Hnew.out AL xs.length cL _ (xs.flatMap boolCells) rfl oL (by rw [flat_length boolCells 1 (fun _ => rfl)]) (readsOver HkL3.out (bA (Below.refl _ _) _)) (one_flat boolCells (by intro x u hu; simp only [boolCells, List.mem_cons, List.not_mem_nil, or_false] at hu; subst hu; rfl) _) (by unfold maxLen; omega) (by omega) (by first | omega | (simp; omega) | simp) ?_)
        intro v1 w4 hown1 hgrow1 hat1
        have hbx : Below w3.heap.size w3 w4 := Below.grown (bA (Below.refl _ _) _) hgrow1 (Below.size (bA (Below.refl _ _) _)) (fun r hr => (World.ownsRow.lt Hnew.out r hr).1)
        have hsx := hbx.size
        clear hgrow1 hat1
        have Hown1 := Lib.hid (show OwnBools w4 w3.heap.size v1 xs from by simpa [OwnBools] using hown1); clear hown1
        go_wp2_with (at_builtin; refine wpList_append_lies _ rfl (.tmp 45) (.tmp 46) _ rfl (w3.heap.size) 4 ti _ 1 1 Try.underlying23 HI.out HZ0.out HZ1.out HZ2.out rfl (by omega) _ _ _ rfl (World.ownsRow.alloc Hown1.out _) ⟨w4.heap.size, 0, none⟩ 1 1 (boolCells true) rfl rfl ?c1 ?c2 (by omega) ?c3 ?c4 ?c5 _ rfl ?_)
        case c1 => exact World.news_of_block (Blk.new' (t := 4) (cs := #[.bool true]) (by simp))
        case c2 => simp [boolCells, Value.oneCell']
        case c3 => unfold maxLen; omega
        case c4 => omega
        case c5 => first | omega | (simp; omega) | simp
        intro gb cap w5 hown2 hgrow2 hat2 hlt2
        have HX := Lib.hid (OwnBools.snoc hown2); clear hown2 hat2 hlt2
        have hby : Below w3.heap.size w3 w5 := Below.grown (bA hbx _) hgrow2 (Below.size (bA hbx _)) (fun r hr => (World.ownsRow.lt Hown1.out r hr).1)
        clear hgrow2 hbx hsx
        obtain ⟨A2, c2, ev2, l21, l22, hr2⟩ := HX.out.form
        injection ev2 with ev21 ev22 ev23
        subst ev21 ev23
        have H2 := Lib.hid hr2; clear hr2 HX Hown1 Hnew ev22 l21 l22
        have hc5 : Below w.heap.size w w5 := bT hc3 hby
        have HkL5 := Lib.hid (readsOver HkL3.out hby)
        clear HkL3
        clear hby
        go_wp2_with fail
        refine (implTrustOf_any _ _ _ (xs ++ [true]) f t _ (H2.out) (by simp) (by omega)).mono ?_
        rw [q1]
        rintro e w6 ⟨rfl, hb6⟩
        have hc6 : Below w.heap.size w w6 := bT hc5 hb6
        have HkL6 := Lib.hid (readsOver HkL5.out hb6)
        clear HkL5
        have HkG6 := Lib.hid (readsOver H2.out hb6)
        clear H2
        clear hb6
        clear HkG6
        have Hnew := Lib.hid (World.ownsRow_lit (base := w6.heap.size) (e := 4) (size := 1) w6 #[] 0 (Nat.le_refl _) (by unfold maxLen; omega) rfl)
        go_wp2_with (at_builtin; refine append_src rfl (.tmp 51) (.tmp 52) _ rfl (w6.heap.size) 4 ti _ 1 1 Try.underlying23 HI.out HZ0.out HZ1.out HZ2.out rfl (by omega) _ 0 _ rfl Hnew.out AL xs.length cL _ (xs.flatMap boolCells) rfl oL (by rw [flat_length boolCells 1 (fun _ => rfl)]) (readsOver HkL6.out (bA (Below.refl _ _) _)) (one_flat boolCells (by intro x u hu; simp only [boolCells, List.mem_cons, List.not_mem_nil, or_false] at hu; subst hu; rfl) _) (by unfold maxLen; omega) (by omega) (by first | omega | (simp; omega) | simp) ?_)
        intro v1 w7 hown1 hgrow1 hat1
        have hbx : Below w6.heap.size w6 w7 := Below.grown (bA (Below.refl _ _) _) hgrow1 (Below.size (bA (Below.refl _ _) _)) (fun r hr => (World.ownsRow.lt Hnew.out r hr).1)
        have hsx := hbx.size
        clear hgrow1 hat1
        have Hown1 := Lib.hid (show OwnBools w7 w6.heap.size v1 xs from by simpa [OwnBools] using hown1); clear hown1
        go_wp2_with (at_builtin; refine wpList_append_lies _ rfl (.tmp 53) (.tmp 54) _ rfl (w6.heap.size) 4 ti _ 1 1 Try.underlying23 HI.out HZ0.out HZ1.out HZ2.out rfl (by omega) _ _ _ rfl (World.ownsRow.alloc Hown1.out _) ⟨w7.heap.size, 0, none⟩ 1 1 (boolCells false) rfl rfl ?c1 ?c2 (by omega) ?c3 ?c4 ?c5 _ rfl ?_)
        case c1 => exact World.news_of_block (Blk.new' (t := 4) (cs := #[.bool false]) (by simp))
        case c2 => simp [boolCells, Value.oneCell']
        case c3 => unfold maxLen; omega
        case c4 => omega
        case c5 => first | omega | (simp; omega) | simp
        intro gb cap w8 hown2 hgrow2 hat2 hlt2
        have HX := Lib.hid (OwnBools.snoc hown2); clear hown2 hat2 hlt2
        have hby : Below w6.heap.size w6 w8 := Below.grown (bA hbx _) hgrow2 (Below.size (bA hbx _)) (fun r hr => (World.ownsRow.lt Hown1.out r hr).1)
        clear hgrow2 hbx hsx
        obtain ⟨A2, c2, ev2, l21, l22, hr2⟩ := HX.out.form
        injection ev2 with ev21 ev22 ev23
        subst ev21 ev23
        have H2 := Lib.hid hr2; clear hr2 HX Hown1 Hnew ev22 l21 l22
        have hc8 : Below w.heap.size w w8 := bT hc6 hby
        have HkL8 := Lib.hid (readsOver HkL6.out hby)
        clear HkL6
        clear hby
        go_wp2_with fail
        refine (implTrustOf_any _ _ _ (xs ++ [false]) f t _ (H2.out) (by simp) (by omega)).mono ?_
        rw [q2]
        rintro e w9 ⟨rfl, hb9⟩
        have hc9 : Below w.heap.size w w9 := bT hc8 hb9
        have HkL9 := Lib.hid (readsOver HkL8.out hb9)
        clear HkL8
        have HkG9 := Lib.hid (readsOver H2.out hb9)
        clear H2
        clear hb9
        clear HkG9
        go_wp2
        all_goals first | (go_ret; exact ⟨ret_bool (by first | rfl | (simp; done) | (simp; omega) | omega), hc9⟩) | (exfalso; omega)
    · obtain rfl : v = -1 := by omega
      go_wp2_with fail
      refine (specTrustOf_any AL xs.length cL xs f t _ (HkL3.out) rfl (by omega)).mono ?_
      rw [hv]
      rintro e w4 ⟨rfl, hb4⟩
      have hc4 : Below w.heap.size w w4 := bT hc3 hb4
      have HkL4 := Lib.hid (readsOver HkL3.out hb4)
      clear HkL3
      clear hb4
      go_wp2
      all_goals first | (go_ret; exact ⟨ret_bool (by first | rfl | (simp; done) | (simp; omega) | omega), hc4⟩) | (exfalso; omega)

set_option maxRecDepth 100000 in
theorem lifted (os : Os) (started : os.Started) (H : Type) (enc : TypeId × Value → H) :
    ReturnsInHanded {} Try.checked os 3 .any (Rows.fnTrustOfSpec.pre6 enc Try.prog Try.f3 Rows.fnTrustOfRow.domain false) (Rows.fnTrustOfSpec.post enc Try.prog Try.f3 false true false false) := by
  refine returnsInHanded_of_change (C := Try.checked) Cells.own started (by kernel_rfl) Try.func3
    (ChangeSpec.witness6 (enc := enc) (C := Try.checked) false ⟨#[], #[.slice none 0 0], []⟩ 8 (by kernel_rfl) (by kernel_rfl) (by kernel_rfl) (by kernel_rfl)) ?_
  intro W base args ds gs before hval0 hW _ _
  have hval : ∀ (j : Nat) t v, Try.f3.params[j]? = some t → args[j]? = some v → Value.okWide Try.prog W .any base t v := hval0
  have hW' := hW
  obtain ⟨p, q, hA0, hV, rfl, _, _⟩ := hW
  have hA : DataW.TrodAll enc Try.prog W 0 (fun _ => true) true Try.f3.params.toList args.toList ds p := hA0
  rw [Try.params3] at hA hval
  obtain ⟨v0, d0, rfl, rfl, h0⟩ := trodAll_one hA
  obtain ⟨rfl, rfl⟩ := trodVars_none hV
  obtain ⟨a0, len, cap, rfl⟩ := okWide_slice Try.underlying22 (hval 0 22 v0 rfl rfl)
  clear hA0 hval0
  simp only [List.append_nil] at hW'
  obtain ⟨hb, hargs⟩ := opened h0 (fun x hx => by simpa using hW'.lt x hx)
  refine (walk a0 len cap W hb).mono fun e W' ⟨he, hnx⟩ => ?_
  subst he
  exact ⟨_, rfl, _, _, _, [], _, [], hW', trodAll_mk1 (shut_bool Try.underlying4 _), trodAll_mk1 (hargs _ hnx), rfl, hnx.frame _, fun h => by cases h⟩

theorem closed : joinedFacts Try.prog 3 Try.f3 Rows.fnTrustOfSpec Rows.fnTrustOfRow = true := by
  unfold joinedFacts
  rw [Cells.laidOut, Cells.mapsRowed_, Cells.stops, Cells.stopKnobs, Cells.plainKeys, Cells.stopsHeard, Cells.mayEnter, Cells.liftsFinal, Cells.make]
  kernel_rfl

theorem over : Rows.fnTrustOfRow.holds Try.pinned (OpenSpec.ofChange Rows.fnTrustOfSpec) :=
  OpenClaim.holds_of_wide 3 Try.f3 rfl rfl rfl rfl rfl rfl rfl ⟨rfl, rfl, rfl, rfl, rfl⟩ rfl rfl rfl rfl rfl (by kernel_rfl) Try.func3 closed
    (of_decide_eq_true (by kernel_rfl)) (by unfold Func.isWrapper; first | (rw [if_pos (by decide +kernel)]; kernel_rfl) | (rw [if_neg (by decide +kernel)]; exact ⟨rfl, rfl⟩))
    (fun os started H enc _ => lifted os started H enc)

/-- THE STATEMENT -/
theorem proved : Rows.FnTrustOfSaid := over
#print axioms proved
end Go.Proofs.Ytomjnepchffkgaa.fnTrustOf
