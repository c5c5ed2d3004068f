/-
  Denied cards can be left out: at every code the law FnValidDeny returns true. No conditions.
-/
import Derived.Test.YtpijjlggmibfnaaDrawsDeny
import Derived.Test.YtpijjlggmibfnaaDenyFn
import Derived.Test.YtpijjlggmibfnaaLiftBytes
set_option linter.unusedSimpArgs false
namespace Go.Proofs.Ytpijjlggmibfnaa.fnValidDeny
open Go.ChangeShapes Go.WideShapes Go.ChangeAt Go.RowKit Go.Deep
set_option linter.unusedVariables false

set_option maxRecDepth 100000 in
set_option maxHeartbeats 2000000 in
theorem walk (A : Option Addr) (n c : Nat) (w : World) (h : Bytes w w.heap.size A n c) : Calls Try.prog 7 #[.slice A n c] w (TrueBelow w) := by
  by_cases hn : 1048576 < n
  · go_enter Try.func7, Try.ntmps7
    go_wp2
    go_ret
    exact ⟨rfl, Below.refl _ _⟩
  · go_enter Try.func7, Try.ntmps7
    have Hh := Lib.hid h; clear h
    go_wp2_with fail
    refine (drawValidDeny_any A n c w Hh.out).mono ?_
    rintro e w0 ⟨u, rfl, hin0, hl, hc0⟩
    have hsm : DenySmall u := Nat.le_trans hl (by omega)
    have Hsm := Lib.hid hsm; clear hsm
    have Hin0 := Lib.hid hin0; clear hin0
    unfold denyV
    have HB0 := Lib.hid hc0; clear hc0
    go_wp2_with fail
    generalize hW : World.alloc _ _ = w1
    have hbx1 : Blk w1 w0.heap.size 30 (DenyR.cells u) := by rw [← hW]; exact Blk.new w0 _ _
    have hb1 : Below w0.heap.size w0 w1 := by rw [← hW]; exact bA (Below.refl _ _) _
    have hy1 : w0.heap.size < w1.heap.size := by rw [← hW]; simp
    clear hW
    have hz1 : w0.heap.size ≤ w1.heap.size := by have := hb1.size; (try simp at this); omega
    have HB1 := Lib.hid (bT HB0.out hb1)
    clear HB0
    have Hin1 := Lib.hid (DenyIn.over Hin0.out hb1)
    clear Hin0
    clear hb1
    have Hbx1 := Lib.hid hbx1; clear hbx1
    refine (implValidDeny_any u _ Hin1.out Hsm.out).mono ?_
    rintro e w2 ⟨rfl, hb2⟩
    have hz2 : w1.heap.size ≤ w2.heap.size := by have := hb2.size; (try simp at this); omega
    have HB2 := Lib.hid (bT HB1.out hb2)
    clear HB1
    have Hin2 := Lib.hid (DenyIn.over Hin1.out hb2)
    clear Hin1
    have HD2 := Lib.hid (Blk.belowAll Hbx1.out hb2)
    clear Hbx1
    clear hb2
    obtain ⟨cD2_0, cD2_1⟩ := denyCells (t := 30) (v := u) HD2.out
    go_wp2_with fail
    refine (specValidDeny_any u _ Hin2.out Hsm.out).mono ?_
    rintro e w3 ⟨rfl, hb3⟩
    clear cD2_0 cD2_1
    have hz3 : w2.heap.size ≤ w3.heap.size := by have := hb3.size; (try simp at this); omega
    have HB3 := Lib.hid (bT HB2.out hb3)
    clear HB2
    have Hin3 := Lib.hid (DenyIn.over Hin2.out hb3)
    clear Hin2
    have HD3 := Lib.hid (Blk.belowAll HD2.out hb3)
    clear HD2
    clear hb3
    obtain ⟨cD3_0, cD3_1⟩ := denyCells (t := 30) (v := u) HD3.out
    cases hv : Fares.validDeny u.of
    · have hE := Lib.hid hv
      go_wp2_with fail
      refine (specValidDeny_any u _ Hin3.out Hsm.out).mono ?_
      rintro e w4 ⟨rfl, hb4⟩
      clear cD3_0 cD3_1
      have hz4 : w3.heap.size ≤ w4.heap.size := by have := hb4.size; (try simp at this); omega
      have HB4 := Lib.hid (bT HB3.out hb4)
      clear HB3
      have Hin4 := Lib.hid (DenyIn.over Hin3.out hb4)
      clear Hin3
      have HD4 := Lib.hid (Blk.belowAll HD3.out hb4)
      clear HD3
      clear hb4
      go_wp2
      go_ret
      exact ⟨ret_bool (by simp [hE.out]), HB4.out⟩
    · by_cases h0 : u.cards.length = 0
      · have h0' : ((u.cards.length : Int) == 0) = true := by rw [beq_iff_eq]; omega
        have hE := Lib.hid hv
        clear h0
        go_wp2_with fail
        refine (specValidDeny_any u _ Hin3.out Hsm.out).mono ?_
        rintro e w4 ⟨rfl, hb4⟩
        clear cD3_0 cD3_1
        have hz4 : w3.heap.size ≤ w4.heap.size := by have := hb4.size; (try simp at this); omega
        have HB4 := Lib.hid (bT HB3.out hb4)
        clear HB3
        have Hin4 := Lib.hid (DenyIn.over Hin3.out hb4)
        clear Hin3
        have HD4 := Lib.hid (Blk.belowAll HD3.out hb4)
        clear HD3
        clear hb4
        go_wp2
        go_ret
        exact ⟨ret_bool (by simp [hE.out]), HB4.out⟩
      · have h0' : ((u.cards.length : Int) == 0) = false := by rw [beq_eq_false_iff_ne]; omega
        have hE := Lib.hid hv
        have hi_ := Hin3.out
        have hlc : u.cards.length ≤ u.cardsc := hi_.2.1
        have hcm : u.cardsc ≤ maxLen := hi_.2.2.1
        clear hi_
        have ht : Fares.validDeny (DenyR.of (⟨u.ver, u.cardsA, u.cardsc, u.cards.take (u.cards.length - 1)⟩ : DenyR)) = true := by
          have h := hE.out
          unfold Fares.validDeny at h ⊢
          rw [Bool.and_eq_true, decide_eq_true_eq, Fares.ascends_iff] at h ⊢
          exact ⟨⟨h.1.1, h.1.2.1, by have h12 : u.cards.length ≤ 12 := h.1.2.2; show (u.cards.take _).length ≤ 12; rw [List.length_take]; omega⟩, Fares.ascOk_take h.2 _⟩
        have Ht := Lib.hid ht; clear ht
        have hln : (u.cards.take (u.cards.length - 1)).length = u.cards.length - 1 := by rw [List.length_take]; omega
        have Hln := Lib.hid hln; clear hln
        obtain ⟨m, hm⟩ : ∃ m, u.cards.length = m + 1 := ⟨u.cards.length - 1, by omega⟩
        have hn1 : (u.cards.length : Int) - 1 = (m : Int) := by omega
        have i0 : (0 : Int) ≤ (u.cards.length : Int) - 1 := by omega
        have i5 : (1 : Int) ≤ (u.cards.length : Int) := by omega
        have i1 : (u.cards.length : Int) - 1 ≤ (u.cardsc : Int) := by omega
        have hwr : IntKind.i64.wrap ((u.cards.length : Int) - 1) = (u.cards.length : Int) - 1 := IntWalk.i64_in _ (by unfold maxLen at hcm; omega)
        have htn : ((u.cards.length : Int) - 1).toNat = u.cards.length - 1 := by omega
        have Hm := Lib.hid hm; clear hm hn1
        go_wp2
        clear cD3_0 cD3_1
        refine wp_region_held_drew (S := fun w' => w'.cell? ⟨w0.heap.size, 0, none⟩ = some (.int .i64 u.ver) ∧ w'.cell? ⟨w0.heap.size, 1, none⟩ = some (.slice u.cardsA u.cards.length u.cardsc)) (by kernel_rfl) (by exact denyCells (t := 30) (v := u) HD3.out) (fun hS => ?_)
        refine take_at 0 30 (v := ?_) rfl rfl (by kernel_rfl) (by kernel_rfl) (by kernel_rfl) (fun _ _ _ h => h) (by rfl) ?_ hS ?_
        rotate_left 1
        · (intro w hSw; (try dsimp only at hSw); (try go_split_ands); go_simp; try with_reducible rfl)
        simp only [List.setIfInBounds_toArray, List.set_cons_zero, List.set_cons_succ]
        refine take_at 1 31 (v := ?_) rfl rfl (by kernel_rfl) (by kernel_rfl) (by kernel_rfl) (fun _ _ _ h => h) (by rfl) ?_ hS ?_
        rotate_left 1
        · (intro w hSw; (try dsimp only at hSw); (try go_split_ands); go_simp; try with_reducible rfl)
        simp only [List.setIfInBounds_toArray, List.set_cons_zero, List.set_cons_succ]
        refine take_at 2 32 (v := ?_) rfl rfl (by kernel_rfl) (by kernel_rfl) (by kernel_rfl) (fun _ _ _ h => h) (by rfl) ?_ hS ?_
        rotate_left 1
        · (intro w hSw; (try dsimp only at hSw); (try go_split_ands); go_simp; try with_reducible rfl)
        simp only [List.setIfInBounds_toArray, List.set_cons_zero, List.set_cons_succ]
        refine take_at 3 33 (v := ?_) rfl rfl (by kernel_rfl) (by kernel_rfl) (by kernel_rfl) (fun _ _ _ h => h) (by rfl) ?_ hS ?_
        rotate_left 1
        · (intro w hSw; (try dsimp only at hSw); (try go_split_ands); go_simp; try with_reducible rfl)
        simp only [List.setIfInBounds_toArray, List.set_cons_zero, List.set_cons_succ]
        refine take_at 4 34 (v := ?_) rfl rfl (by kernel_rfl) (by kernel_rfl) (by kernel_rfl) (fun _ _ _ h => h) (by rfl) ?_ hS ?_
        rotate_left 1
        · (intro w hSw; (try dsimp only at hSw); (try go_split_ands); go_simp; try with_reducible rfl)
        simp only [List.setIfInBounds_toArray, List.set_cons_zero, List.set_cons_succ]
        refine take_at 5 35 (v := ?_) rfl rfl (by kernel_rfl) (by kernel_rfl) (by kernel_rfl) (fun _ _ _ h => h) (by rfl) ?_ hS ?_
        rotate_left 1
        · (intro w hSw; (try dsimp only at hSw); (try go_split_ands); go_simp; try with_reducible rfl)
        simp only [List.setIfInBounds_toArray, List.set_cons_zero, List.set_cons_succ]
        refine take_at 6 36 (v := ?_) rfl rfl (by kernel_rfl) (by kernel_rfl) (by kernel_rfl) (fun _ _ _ h => h) (by rfl) ?_ hS ?_
        rotate_left 1
        · (intro w hSw; (try dsimp only at hSw); (try go_split_ands); go_simp; try with_reducible rfl)
        simp only [List.setIfInBounds_toArray, List.set_cons_zero, List.set_cons_succ]
        refine take_at 7 37 (v := ?_) rfl rfl (by kernel_rfl) (by kernel_rfl) (by kernel_rfl) (fun _ _ _ h => h) (by rfl) ?_ hS ?_
        rotate_left 1
        · (intro w hSw; (try dsimp only at hSw); (try go_split_ands); go_simp; try with_reducible rfl)
        simp only [List.setIfInBounds_toArray, List.set_cons_zero, List.set_cons_succ]
        refine take_at 8 38 (v := ?_) rfl rfl (by kernel_rfl) (by kernel_rfl) (by kernel_rfl) (fun _ _ _ h => h) (by rfl) ?_ hS ?_
        rotate_left 1
        · (intro w hSw; (try dsimp only at hSw); (try go_split_ands); go_simp; try with_reducible rfl)
        simp only [List.setIfInBounds_toArray, List.set_cons_zero, List.set_cons_succ]
        refine take_at 9 39 (v := ?_) rfl rfl (by kernel_rfl) (by kernel_rfl) (by kernel_rfl) (fun _ _ _ h => h) (by rfl) ?_ hS ?_
        rotate_left 1
        · (intro w hSw; (try dsimp only at hSw); (try go_split_ands); go_simp; try with_reducible rfl)
        simp only [List.setIfInBounds_toArray, List.set_cons_zero, List.set_cons_succ]
        refine wpAnyH_ready (rs := [10]) (by kernel_rfl) (by simp) ?_
        refine AllReadyH.cons rfl (fun K hK => ?_) (AllReadyH.nil)
        go_simp
        have hin2 : DenyIn w3.drew w3.drew.heap.size (⟨u.ver, u.cardsA, u.cardsc, u.cards.take (u.cards.length - 1)⟩ : DenyR) := ⟨Ints.take ((denyInDrew Hin3.out)).1 _, (show (u.cards.take (u.cards.length - 1)).length ≤ u.cardsc by rw [Hln.out]; omega), hcm, fun e => by have h3 := ((denyInDrew Hin3.out)).2.2.2 e; show (u.cards.take (u.cards.length - 1)).length = 0 ∧ u.cardsc = 0; rw [Hln.out]; omega⟩
        have Hin2 := Lib.hid hin2; clear hin2
        have hc2 := implValidDeny_any (⟨u.ver, u.cardsA, u.cardsc, u.cards.take (u.cards.length - 1)⟩ : DenyR) _ Hin2.out (Nat.le_trans (by rw [Hln.out]; exact Nat.sub_le _ _) Hsm.out)
        unfold denyV at hc2
        rw [show (DenyR.cards (⟨u.ver, u.cardsA, u.cardsc, u.cards.take (u.cards.length - 1)⟩ : DenyR)).length = u.cards.length - 1 from Hln.out] at hc2
        have Hc2 := Lib.hid hc2; clear hc2
        go_wp2_with fail
        refine (Hc2.out).mono ?_
        rintro e w4 ⟨rfl, hb4⟩
        rw [show Fares.validDeny (DenyR.of (⟨u.ver, u.cardsA, u.cardsc, u.cards.take (u.cards.length - 1)⟩ : DenyR)) = true from Ht.out]
        have hz4 : w3.heap.size ≤ w4.heap.size := by have := hb4.size; (try simp at this); omega
        have HB4 := Lib.hid (bT (bD1 HB3.out) hb4)
        clear HB3
        have Hin4 := Lib.hid (DenyIn.over (denyInDrew Hin3.out) hb4)
        clear Hin3
        have HD4 := Lib.hid (Blk.belowAll (blkDrew HD3.out) hb4)
        clear HD3
        clear hb4
        go_simp
        refine hK.out _ _ (by exact denyCells (t := 30) (v := u) HD4.out) (fun hS => ?_)
        clear hK K
        refine take_at 11 2 (v := ?_) rfl rfl (by kernel_rfl) (by kernel_rfl) (by kernel_rfl) (fun _ _ _ h => h) (by rfl) ?_ hS ?_
        rotate_left 1
        · (intro w hSw; (try dsimp only at hSw); (try go_split_ands); go_simp; try with_reducible rfl)
        simp only [List.setIfInBounds_toArray, List.set_cons_zero, List.set_cons_succ]
        refine wpAnyH_done (by kernel_rfl) ?_ _
        clear hS
        go_wp2
        go_ret
        exact ⟨rfl, HB4.out⟩

set_option maxRecDepth 100000 in
theorem lifted (os : Os) (started : os.Started) (H : Type) (enc : TypeId × Value → H) :
    ReturnsInHanded {} Try.checked os 7 .any (Rows.fnValidDenySpec.pre6 enc Try.prog Try.f7 Rows.fnValidDenyRow.domain false) (Rows.fnValidDenySpec.post enc Try.prog Try.f7 false true false false) := by
  refine returnsInHanded_of_change (C := Try.checked) Cells.own started (by kernel_rfl) Try.func7
    (ChangeSpec.witness6 (enc := enc) (C := Try.checked) false ⟨#[], #[.slice none 0 0], []⟩ 8 (by kernel_rfl) (by kernel_rfl) (by kernel_rfl) (by kernel_rfl)) ?_
  intro W base args ds gs before hval0 hW _ _
  have hval : ∀ (j : Nat) t v, Try.f7.params[j]? = some t → args[j]? = some v → Value.okWide Try.prog W .any base t v := hval0
  have hW' := hW
  obtain ⟨p, q, hA0, hV, rfl, _, _⟩ := hW
  have hA : DataW.TrodAll enc Try.prog W 0 (fun _ => true) true Try.f7.params.toList args.toList ds p := hA0
  rw [Try.params7] at hA hval
  obtain ⟨v0, d0, rfl, rfl, h0⟩ := trodAll_one hA
  obtain ⟨rfl, rfl⟩ := trodVars_none hV
  obtain ⟨a0, len, cap, rfl⟩ := okWide_slice Try.underlying22 (hval 0 22 v0 rfl rfl)
  clear hA0 hval0
  simp only [List.append_nil] at hW'
  obtain ⟨hb, hargs⟩ := opened h0 (fun x hx => by simpa using hW'.lt x hx)
  refine (walk a0 len cap W hb).mono fun e W' ⟨he, hnx⟩ => ?_
  subst he
  exact ⟨_, rfl, _, _, _, [], _, [], hW', trodAll_mk1 (shut_bool Try.underlying4 _), trodAll_mk1 (hargs _ hnx), rfl, hnx.frame _, fun h => by cases h⟩

theorem closed : joinedFacts Try.prog 7 Try.f7 Rows.fnValidDenySpec Rows.fnValidDenyRow = true := by
  unfold joinedFacts
  rw [Cells.laidOut, Cells.mapsRowed_, Cells.stops, Cells.stopKnobs, Cells.plainKeys, Cells.stopsHeard, Cells.mayEnter, Cells.liftsFinal, Cells.make]
  kernel_rfl

theorem over : Rows.fnValidDenyRow.holds Try.pinned (OpenSpec.ofChange Rows.fnValidDenySpec) :=
  OpenClaim.holds_of_wide 7 Try.f7 rfl rfl rfl rfl rfl rfl rfl ⟨rfl, rfl, rfl, rfl, rfl⟩ rfl rfl rfl rfl rfl (by kernel_rfl) Try.func7 closed
    (of_decide_eq_true (by kernel_rfl)) (by unfold Func.isWrapper; first | (rw [if_pos (by decide +kernel)]; kernel_rfl) | (rw [if_neg (by decide +kernel)]; exact ⟨rfl, rfl⟩))
    (fun os started H enc _ => lifted os started H enc)

/-- THE STATEMENT -/
theorem proved : Rows.FnValidDenySaid := over
#print axioms proved
end Go.Proofs.Ytpijjlggmibfnaa.fnValidDeny
