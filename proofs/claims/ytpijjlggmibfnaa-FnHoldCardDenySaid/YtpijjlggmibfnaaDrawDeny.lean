/-
  Drawn deny lists.
-/
import Derived.Test.YtpijjlggmibfnaaDenyCardFn
import Derived.Test.YtpijjlggmibfnaaRdTouch
import Derived.Test.YtpijjlggmibfnaaLiftBytes
import Derived.Deep.AppendLies
set_option linter.unusedSimpArgs false
namespace Go.Proofs.Ytpijjlggmibfnaa
open Go.RowKit Go.Deep
set_option linter.unusedVariables false

theorem Fares.denyCard_valid {d : Fares.Deny} {c : Int} {b : Bool} (h : (Fares.denyCard d c b).2 = true) : Fares.validDeny (Fares.denyCard d c b).1 = true := by
  unfold Fares.denyCard at h ⊢
  split
  · rename_i hh
    rw [Bool.and_eq_true] at hh
    exact hh.2
  · rename_i hh
    rw [if_neg hh] at h
    cases h
theorem Fares.validDeny_start (v : Int) (h0 : 0 ≤ v) (h1 : v ≤ 999) : Fares.validDeny ⟨v, []⟩ = true := by
  unfold Fares.validDeny
  rw [decide_eq_true ⟨h0, h1, by simp⟩, Fares.ascends_true (Fares.ascOk_nil 99)]
  rfl
theorem Fares.validDeny_facts {d : Fares.Deny} (h : Fares.validDeny d = true) : 0 ≤ d.ver ∧ d.ver ≤ 999 ∧ d.cards.length ≤ 12 ∧ ∀ x ∈ d.cards, 0 ≤ x ∧ x ≤ 99 := by
  unfold Fares.validDeny at h
  rw [Bool.and_eq_true, decide_eq_true_eq, Fares.ascends_iff] at h
  refine ⟨h.1.1, h.1.2.1, h.1.2.2, fun x hx => ?_⟩
  obtain ⟨k, hk⟩ := List.getElem?_of_mem hx
  exact h.2.1 k x hk
/-- A valid deny list that was drawn: it owns its memory. -/
def SomeDeny (M g p : Nat) (w : World) (e : Ending) (w' : World) : Prop :=
  ∃ (u : DenyR) (q : Nat), e = .returned (denyV u) ∧ DenyOwn w' w.heap.size u ∧ Fares.validDeny u.of = true ∧ q ≤ p + M ∧ Rd w' g q ∧ w.grownBy w' (some g)
/-- A deny list that was drawn. -/
def AnyDeny (M g p : Nat) (w : World) (e : Ending) (w' : World) : Prop :=
  ∃ (u : DenyR) (q : Nat), e = .returned (denyV u) ∧ DenyIn w' w'.heap.size u ∧ (∀ a, u.cardsA = some a → w.heap.size ≤ a.block) ∧ u.cards.length ≤ 14 ∧ (∀ x ∈ u.cards, -1 ≤ x ∧ x ≤ 100) ∧ -1 ≤ u.ver ∧ u.ver ≤ 1000 ∧ q ≤ p + M ∧ Rd w' g q ∧ w.grownBy w' (some g)
set_option maxRecDepth 100000 in
set_option maxHeartbeats 4000000 in
theorem randomDeny_any (g p : Nat) (w : World) (hr : Rd w g p) (hp : p ≤ 50000) :
    Calls Try.prog 86 #[.pointer (some ⟨g, 0, none⟩)] w (SomeDeny 16 g p w) := by
  have hgw := hr.lt
  have Hr0 := Lib.hid hr; clear hr
  go_enter Try.func86, Try.ntmps86
  go_wp2_with fail
  generalize hW : World.alloc _ _ = w1
  have hr1 : Blk w1 w.heap.size 30 (DenyR.cells (⟨0, none, 0, []⟩ : DenyR)) := by rw [← hW]; exact Blk.new w _ _
  have HG1 : Hid (w.grownBy w1 (some g)) := Lib.hid (by rw [← hW]; exact grown_alloc (grown_refl _ _) _)
  have Hrd1 : Hid (Rd w1 g p) := Lib.hid (by rw [← hW]; exact Rd.alloc Hr0.out _)
  have hz1 : w.heap.size < w1.heap.size := by rw [← hW]; simp
  clear hW Hr0
  have Hbr1 := Lib.hid hr1; clear hr1
  refine (pick_any g (p) (20) _ Hrd1.out (by omega)).mono ?_
  rintro e w2 ⟨v0, rfl, v00, v01, hr2, hg2⟩
  have v02 := v01 (by omega)
  clear v01
  have hz2 : w1.heap.size ≤ w2.heap.size := by have := hg2.size; (try simp at this); omega
  have HG2 := Lib.hid (grown_trans HG1.out hg2)
  clear HG1
  have HR2 := Lib.hid (Blk.grown Hbr1.out hg2 (by intro e; injection e with e; omega))
  clear Hbr1
  clear hg2
  clear Hrd1
  have Hrd2 := Lib.hid hr2; clear hr2
  have hgl2 : g < w2.heap.size := (Hrd2.out).lt
  go_wp2_with fail
  generalize hW : World.alloc _ _ = w3
  have hU : DenyOwn w3 (w.heap.size + 1) (⟨v0, some ⟨w2.heap.size, 0, none⟩, 0, []⟩ : DenyR) := by rw [← hW]; exact ⟨World.ownsRow.alloc (World.ownsRow.alloc (World.ownsRow_lit (base := w.heap.size + 1) (e := 3) (size := 1) w2 #[] 0 (by omega) (by unfold maxLen; omega) rfl) _) _, trivial⟩
  have hD : Blk w3 (w2.heap.size + 1) 30 (DenyR.cells (⟨v0, some ⟨w2.heap.size, 0, none⟩, 0, []⟩ : DenyR)) := by rw [← hW]; exact (Blk.new' (by simp)).alloc _
  have hN : Blk w3 (w2.heap.size + 1 + 1) 3 #[.int .i64 3, .int .i64 5, .int .i64 2, .int .i64 0, .int .i64 1, .int .i64 14] := by rw [← hW]; exact Blk.new' (by simp)
  have hb3 : Below w2.heap.size w2 w3 := by rw [← hW]; exact bA (bA (bA (Below.refl _ _) _) _) _
  have hy3 : w2.heap.size + 1 + 1 < w3.heap.size := by rw [← hW]; simp
  clear hW
  have hz3 : w2.heap.size ≤ w3.heap.size := by have := hb3.size; (try simp at this); omega
  have HG3 := Lib.hid (grown_trans HG2.out (grown_of_below hb3 _))
  clear HG2
  have Hrd3 := Lib.hid (Rd.belowAll Hrd2.out hb3)
  clear Hrd2
  have HR3 := Lib.hid (Blk.belowAll HR2.out hb3)
  clear HR2
  clear hb3
  have HbD := Lib.hid hD; clear hD
  have hUne : ∀ k, DenyBlocks (⟨v0, some ⟨w2.heap.size, 0, none⟩, 0, []⟩ : DenyR) k → k ≠ w2.heap.size + 1 := fun k hk e => by unfold DenyBlocks Value.ownBlock at hk; injection hk with hk; dsimp only at hk; omega
  have LTU := Lib.hid (fun k hk => (DenyOwn.lt hU k hk).1)
  have UPU := Lib.hid (fun k hk => (DenyOwn.lt hU k hk).2)
  have HoU := Lib.hid hU; clear hU
  have NEU := Lib.hid hUne; clear hUne
  refine (one_in g (p + 1) _ [3, 5, 2, 0, 1, 14] (0) 14 6 6 _ _ Hrd3.out (by omega) hN (by omega) rfl rfl (by omega) (by omega) (by decide)).mono ?_
  rintro e w4 ⟨nn, rfl, nn0, nn1, hr4, hg4⟩
  have hz4 : w3.heap.size ≤ w4.heap.size := by have := hg4.size; (try simp at this); omega
  have HG4 := Lib.hid (grown_trans HG3.out hg4)
  clear HG3
  have HR4 := Lib.hid (Blk.grown HR3.out hg4 (by intro e; injection e with e; omega))
  clear HR3
  have HD4 := Lib.hid (Blk.grown HbD.out hg4 (by intro e; injection e with e; omega))
  clear HbD
  have HU4 := Lib.hid (DenyOwn.touch HoU.out (Touch.of_grown hg4) (fun i hi e0 => by injection e0 with e0; have a1 := LTU.out _ hi; omega))
  clear HoU
  clear hg4
  clear Hrd3
  have Hrd4 := Lib.hid hr4; clear hr4
  have hgl4 : g < w4.heap.size := (Hrd4.out).lt
  clear hN
  obtain ⟨nk, rfl⟩ := Int.eq_ofNat_of_zero_le nn0
  have hvs := Lib.hid (Fares.validDeny_start v0 (by omega) (by omega))
  go_wp2
  go_loopw [4] (fun i wr => ∃ (k : Nat) (u : DenyR) (q : Nat), i = .int .i64 k ∧ q + k ≤ p + 16 ∧ Blk wr (w2.heap.size + 1) 30 u.cells ∧ Blk wr w.heap.size 30 (DenyR.cells (⟨0, none, 0, []⟩ : DenyR)) ∧ DenyOwn wr (w.heap.size + 1) u ∧ Hid (∀ k, DenyBlocks u k → k ≠ w2.heap.size + 1) ∧ Hid (Fares.validDeny u.of = true) ∧ Rd wr g q ∧ w.grownBy wr (some g) ∧ w4.heap.size ≤ wr.heap.size) (fun i _ => (intOf i).toNat)
  case atStart => exact ⟨nk, (⟨v0, some ⟨w2.heap.size, 0, none⟩, 0, []⟩ : DenyR), p + 1 + 1, rfl, by omega, HD4.out, HR4.out, HU4.out, NEU, hvs, Hrd4.out, HG4.out, by omega⟩
  case round =>
    obtain ⟨k, u, q, rfl, hqk, hD, hR, hU, NEU1, Hv, hrd, hG, hzr⟩ := hrel
    have HD := Lib.hid hD; clear hD
    have HR := Lib.hid hR; clear hR
    have Hrd := Lib.hid hrd; clear hrd
    have HG := Lib.hid hG; clear hG
    skip
    have hz20 := hzr
    have LTV := Lib.hid (fun k hk => (DenyOwn.lt hU k hk).1)
    have UPV := Lib.hid (fun k hk => (DenyOwn.lt hU k hk).2)
    have HoV := Lib.hid hU; clear hU
    obtain ⟨cD20_0, cD20_1⟩ := denyCells (t := 30) (v := u) HD.out
    obtain ⟨cR20_0, cR20_1⟩ := denyCells (t := 30) (v := (⟨0, none, 0, []⟩ : DenyR)) HR.out
    by_cases hk0 : 0 < k
    · have hk1 : (0 : Int) < (k : Int) := by omega
      obtain ⟨k', rfl⟩ : ∃ k', k = k' + 1 := ⟨k - 1, by omega⟩
      have hvf := Fares.validDeny_facts Hv.out
      have hsm : DenySmall u := Nat.le_trans hvf.2.2.1 (by omega)
      clear hvf
      have Hsm := Lib.hid hsm; clear hsm
      go_wp2
      clear cD20_0 cD20_1 cR20_0 cR20_1
      refine wp_region_held_drew (S := fun w' => w'.cell? ⟨w2.heap.size + 1, 0, none⟩ = some (.int .i64 u.ver) ∧ w'.cell? ⟨w2.heap.size + 1, 1, none⟩ = some (.slice u.cardsA u.cards.length u.cardsc)) (by kernel_rfl) (by exact denyCells (t := 30) (v := u) HD.out) (fun hS => ?_)
      refine take_at 0 19 (v := ?_) rfl rfl (by kernel_rfl) (by kernel_rfl) (by kernel_rfl) (fun _ _ _ h => h) (by rfl) ?_ hS ?_
      rotate_left 1
      · (intro w hSw; (try dsimp only at hSw); (try go_split_ands); go_simp; try with_reducible rfl)
      simp only [List.setIfInBounds_toArray, List.set_cons_zero, List.set_cons_succ]
      refine take_at 1 20 (v := ?_) rfl rfl (by kernel_rfl) (by kernel_rfl) (by kernel_rfl) (fun _ _ _ h => h) (by rfl) ?_ hS ?_
      rotate_left 1
      · (intro w hSw; (try dsimp only at hSw); (try go_split_ands); go_simp; try with_reducible rfl)
      simp only [List.setIfInBounds_toArray, List.set_cons_zero, List.set_cons_succ]
      refine wpAnyH_ready (rs := [2, 7]) (by kernel_rfl) (by simp) ?_
      refine AllReadyH.cons rfl (fun K hK => ?_) (AllReadyH.cons rfl (fun K hK => ?_) (AllReadyH.nil))
      · go_simp
        go_wp2_with fail
        refine (pick_any g (q) (20) _ (Rd.drew Hrd.out) (by omega)).mono ?_
        rintro e w21 ⟨x, rfl, x0, x1, hr21, hg21⟩
        have x2 := x1 (by omega)
        clear x1
        have hz21 : wr.heap.size ≤ w21.heap.size := by have := hg21.size; (try simp at this); omega
        have HG21 := Lib.hid (grown_trans (grownDrew HG.out) hg21)
        clear HG
        have HR21 := Lib.hid (Blk.grown (blkDrew HR.out) hg21 (by intro e; injection e with e; omega))
        clear HR
        have HD21 := Lib.hid (Blk.grown (blkDrew HD.out) hg21 (by intro e; injection e with e; omega))
        clear HD
        have HV21 := Lib.hid (DenyOwn.touch (DenyOwn.drew HoV.out) (Touch.of_grown hg21) (fun i hi e0 => by injection e0 with e0; have a1 := LTV.out _ hi; omega))
        clear HoV
        clear hg21
        clear Hrd
        have Hrd21 := Lib.hid hr21; clear hr21
        have hgl21 : g < w21.heap.size := (Hrd21.out).lt
        go_simp
        refine hK.out _ _ (by exact denyCells (t := 30) (v := u) HD21.out) (fun hS => ?_)
        clear hK K
        refine wpAnyH_ready (rs := [3, 7]) (by kernel_rfl) (by simp) ?_
        refine AllReadyH.cons rfl (fun K hK => ?_) (AllReadyH.cons rfl (fun K hK => ?_) (AllReadyH.nil))
        · go_simp
          go_wp2_with fail
          refine (specDenyCard_any u x true _ (DenyOwn.in_ HV21.out) Hsm.out).mono ?_
          rintro e w22 ⟨⟨un, rfl, hofn, hownn, hsmn⟩, hb22⟩
          have hz22 : w21.heap.size ≤ w22.heap.size := by have := hb22.size; (try simp at this); omega
          have HG22 := Lib.hid (grown_trans HG21.out (grown_of_below hb22 _))
          clear HG21
          have Hrd22 := Lib.hid (Rd.belowAll Hrd21.out hb22)
          clear Hrd21
          have HR22 := Lib.hid (Blk.belowAll HR21.out hb22)
          clear HR21
          have HD22 := Lib.hid (Blk.belowAll HD21.out hb22)
          clear HD21
          have HV22 := Lib.hid (DenyOwn.below HV21.out hb22)
          clear HV21
          clear hb22
          have Hofn := Lib.hid hofn; clear hofn
          have Hsmn := Lib.hid hsmn; clear hsmn
          unfold denyV
          have LTX := Lib.hid (fun k hk => (DenyOwn.lt hownn k hk).1)
          have UPX := Lib.hid (fun k hk => (DenyOwn.lt hownn k hk).2)
          have HoX := Lib.hid hownn; clear hownn
          go_simp
          refine hK.out _ _ (by exact denyCells (t := 30) (v := u) HD22.out) (fun hS => ?_)
          clear hK K
          refine take_at 4 18 (v := ?_) rfl rfl (by kernel_rfl) (by kernel_rfl) (by kernel_rfl) (fun _ _ _ h => h) (by rfl) ?_ hS ?_
          rotate_left 1
          · (intro w hSw; (try dsimp only at hSw); (try go_split_ands); go_simp; try with_reducible rfl)
          simp only [List.setIfInBounds_toArray, List.set_cons_zero, List.set_cons_succ]
          refine take_at 5 23 (v := ?_) rfl rfl (by kernel_rfl) (by kernel_rfl) (by kernel_rfl) (fun _ _ _ h => h) (by rfl) ?_ hS ?_
          rotate_left 1
          · (intro w hSw; (try dsimp only at hSw); (try go_split_ands); go_simp; try with_reducible rfl)
          simp only [List.setIfInBounds_toArray, List.set_cons_zero, List.set_cons_succ]
          refine take_at 6 24 (v := ?_) rfl rfl (by kernel_rfl) (by kernel_rfl) (by kernel_rfl) (fun _ _ _ h => h) (by rfl) ?_ hS ?_
          rotate_left 1
          · (intro w hSw; (try dsimp only at hSw); (try go_split_ands); go_simp; try with_reducible rfl)
          simp only [List.setIfInBounds_toArray, List.set_cons_zero, List.set_cons_succ]
          refine wpAnyH_ready (rs := [7]) (by kernel_rfl) (by simp) ?_
          refine AllReadyH.cons rfl (fun K hK => ?_) (AllReadyH.nil)
          go_simp
          generalize hW : World.alloc _ _ = w23
          have hbx23 : Blk w23 w22.heap.size 30 (DenyR.cells (⟨0, none, 0, []⟩ : DenyR)) := by rw [← hW]; exact Blk.new' (by simp)
          have hb23 : Below w22.heap.size w22 w23 := by rw [← hW]; exact bA (Below.refl _ _) _
          have hy23 : w22.heap.size < w23.heap.size := by rw [← hW]; simp
          clear hW
          have hz23 : w22.heap.size ≤ w23.heap.size := by have := hb23.size; (try simp at this); omega
          have HG23 := Lib.hid (grown_trans HG22.out (grown_of_below hb23 _))
          clear HG22
          have Hrd23 := Lib.hid (Rd.belowAll Hrd22.out hb23)
          clear Hrd22
          have HR23 := Lib.hid (Blk.belowAll HR22.out hb23)
          clear HR22
          have HD23 := Lib.hid (Blk.belowAll HD22.out hb23)
          clear HD22
          have HV23 := Lib.hid (DenyOwn.below HV22.out hb23)
          clear HV22
          have HX23 := Lib.hid (DenyOwn.below HoX.out hb23)
          clear HoX
          clear hb23
          have Hbx23 := Lib.hid hbx23; clear hbx23
          obtain ⟨cN23_0, cN23_1⟩ := denyCells (t := 30) (v := (⟨0, none, 0, []⟩ : DenyR)) Hbx23.out
          have fn230 := (Hbx23.out).free 0
          have fn231 := (Hbx23.out).free 1
          refine hK.out _ _ (by exact denyCells (t := 30) (v := u) HD23.out) (fun hS => ?_)
          clear hK K
          refine wpAnyH_ready (rs := [8]) (by kernel_rfl) (by simp) ?_
          refine AllReadyH.cons rfl (fun K hK => ?_) (AllReadyH.nil)
          go_simp
          generalize hW : World.setCell _ _ _ = w24
          have ht24 : Touch (fun i => i = w22.heap.size) w23 w24 := by rw [← hW]; exact (Touch.far (K := fun i => i = w22.heap.size) (Touch.far (K := fun i => i = w22.heap.size) (Touch.refl _ _) (p := ⟨w22.heap.size, 0, none⟩) rfl _) (p := ⟨w22.heap.size, 1, none⟩) rfl _)
          have hbx24 : Blk w24 (w22.heap.size) 30 (DenyR.cells un) := by rw [← hW]; exact (Blk.put (Blk.put Hbx23.out 0 (.int .i64 un.ver)) 1 (.slice un.cardsA un.cards.length un.cardsc))
          clear hW
          clear cN23_0 cN23_1 fn230 fn231
          have hz24 : w23.heap.size ≤ w24.heap.size := by have := ht24.size; (try simp at this); omega
          have HG24 := Lib.hid (grown_touch HG23.out ht24 (fun i hi => by omega))
          clear HG23
          have Hrd24 := Lib.hid (Rd.touch Hrd23.out ht24 (fun i hi => by omega))
          clear Hrd23
          have HR24 := Lib.hid (Blk.touch HR23.out ht24 (show ¬ (w.heap.size = w22.heap.size) by omega))
          clear HR23
          have HD24 := Lib.hid (Blk.touch HD23.out ht24 (show ¬ (w2.heap.size + 1 = w22.heap.size) by omega))
          clear HD23
          have HV24 := Lib.hid (DenyOwn.touch HV23.out ht24 (fun i hi e0 => by have a1 := LTV.out _ hi; have a2 := UPV.out _ hi; have a7 := NEU1.out _ hi; omega))
          clear HV23
          have HX24 := Lib.hid (DenyOwn.touch HX23.out ht24 (fun i hi e0 => by have a1 := LTX.out _ hi; have a2 := UPX.out _ hi; omega))
          clear HX23
          clear ht24 Hbx23
          have Hbx24 := Lib.hid hbx24; clear hbx24
          refine hK.out _ _ (by exact denyCells (t := 30) (v := u) HD24.out) (fun hS => ?_)
          clear hK K
          refine take_at 9 6 (v := ?_) rfl rfl (by kernel_rfl) (by kernel_rfl) (by kernel_rfl) (fun _ _ _ h => h) (by rfl) ?_ hS ?_
          rotate_left 1
          · (intro w hSw; (try dsimp only at hSw); (try go_split_ands); go_simp; try with_reducible rfl)
          simp only [List.setIfInBounds_toArray, List.set_cons_zero, List.set_cons_succ]
          refine wpAnyH_done (by kernel_rfl) ?_ _
          clear hS
          obtain ⟨cN24_0, cN24_1⟩ := denyCells (t := 30) (v := un) Hbx24.out
          obtain ⟨cD24_0, cD24_1⟩ := denyCells (t := 30) (v := u) HD24.out
          have fd240 := (HD24.out).free 0
          have fd241 := (HD24.out).free 1
          cases hq : (Fares.denyCard u.of x true).2
          · go_wp2
            go_roundw
            case rel => exact ⟨k', u, q + 1, by go_num, by omega, HD24.out, HR24.out, HV24.out, NEU1, Hv, Hrd24.out, HG24.out, by omega⟩
            case measure => simp [intOf]
          · have Hw := Lib.hid (show Fares.validDeny un.of = true by rw [Hofn.out]; exact Fares.denyCard_valid hq)
            go_wp2
            generalize hW : World.setCell _ _ _ = w25
            have ht25 : Touch (fun i => i = w2.heap.size + 1) w24 w25 := by rw [← hW]; exact (Touch.far (K := fun i => i = w2.heap.size + 1) (Touch.far (K := fun i => i = w2.heap.size + 1) (Touch.refl _ _) (p := ⟨w2.heap.size + 1, 0, none⟩) rfl _) (p := ⟨w2.heap.size + 1, 1, none⟩) rfl _)
            have hbx25 : Blk w25 (w2.heap.size + 1) 30 (DenyR.cells un) := by rw [← hW]; exact (Blk.put (Blk.put HD24.out 0 (.int .i64 un.ver)) 1 (.slice un.cardsA un.cards.length un.cardsc))
            clear hW
            clear cN24_0 cN24_1 cD24_0 cD24_1 fd240 fd241
            have hz25 : w24.heap.size ≤ w25.heap.size := by have := ht25.size; (try simp at this); omega
            have HG25 := Lib.hid (grown_touch HG24.out ht25 (fun i hi => by omega))
            clear HG24
            have Hrd25 := Lib.hid (Rd.touch Hrd24.out ht25 (fun i hi => by omega))
            clear Hrd24
            have HR25 := Lib.hid (Blk.touch HR24.out ht25 (show ¬ (w.heap.size = w2.heap.size + 1) by omega))
            clear HR24
            have HV25 := Lib.hid (DenyOwn.touch HV24.out ht25 (fun i hi e0 => by have a1 := LTV.out _ hi; have a2 := UPV.out _ hi; have a7 := NEU1.out _ hi; omega))
            clear HV24
            have HX25 := Lib.hid (DenyOwn.touch HX24.out ht25 (fun i hi e0 => by have a1 := LTX.out _ hi; have a2 := UPX.out _ hi; omega))
            clear HX24
            have HN25 := Lib.hid (Blk.touch Hbx24.out ht25 (show ¬ (w22.heap.size = w2.heap.size + 1) by omega))
            clear Hbx24
            clear ht25 HD24
            have Hbx25 := Lib.hid hbx25; clear hbx25
            have NEX := Lib.hid (show ∀ k, DenyBlocks un k → k ≠ w2.heap.size + 1 from fun k hk e => by have a1 := LTX.out _ hk; omega)
            go_roundw
            case rel => exact ⟨k', un, q + 1, by go_num, by omega, Hbx25.out, HR25.out, DenyOwn.base HX25.out (by omega), NEX, Hw, Hrd25.out, HG25.out, by omega⟩
            case measure => simp [intOf]
        · go_simp
          generalize hW : World.alloc _ _ = w22
          have hbx22 : Blk w22 w21.heap.size 30 (DenyR.cells (⟨0, none, 0, []⟩ : DenyR)) := by rw [← hW]; exact Blk.new' (by simp)
          have hb22 : Below w21.heap.size w21 w22 := by rw [← hW]; exact bA (Below.refl _ _) _
          have hy22 : w21.heap.size < w22.heap.size := by rw [← hW]; simp
          clear hW
          have hz22 : w21.heap.size ≤ w22.heap.size := by have := hb22.size; (try simp at this); omega
          have HG22 := Lib.hid (grown_trans HG21.out (grown_of_below hb22 _))
          clear HG21
          have Hrd22 := Lib.hid (Rd.belowAll Hrd21.out hb22)
          clear Hrd21
          have HR22 := Lib.hid (Blk.belowAll HR21.out hb22)
          clear HR21
          have HD22 := Lib.hid (Blk.belowAll HD21.out hb22)
          clear HD21
          have HV22 := Lib.hid (DenyOwn.below HV21.out hb22)
          clear HV21
          clear hb22
          have Hbx22 := Lib.hid hbx22; clear hbx22
          obtain ⟨cN22_0, cN22_1⟩ := denyCells (t := 30) (v := (⟨0, none, 0, []⟩ : DenyR)) Hbx22.out
          have fn220 := (Hbx22.out).free 0
          have fn221 := (Hbx22.out).free 1
          refine hK.out _ _ (by exact denyCells (t := 30) (v := u) HD22.out) (fun hS => ?_)
          clear hK K
          refine wpAnyH_ready (rs := [3]) (by kernel_rfl) (by simp) ?_
          refine AllReadyH.cons rfl (fun K hK => ?_) (AllReadyH.nil)
          go_simp
          go_wp2_with fail
          refine (specDenyCard_any u x true _ (DenyOwn.in_ HV22.out) Hsm.out).mono ?_
          rintro e w23 ⟨⟨un, rfl, hofn, hownn, hsmn⟩, hb23⟩
          clear cN22_0 cN22_1 fn220 fn221
          have hz23 : w22.heap.size ≤ w23.heap.size := by have := hb23.size; (try simp at this); omega
          have HG23 := Lib.hid (grown_trans HG22.out (grown_of_below hb23 _))
          clear HG22
          have Hrd23 := Lib.hid (Rd.belowAll Hrd22.out hb23)
          clear Hrd22
          have HR23 := Lib.hid (Blk.belowAll HR22.out hb23)
          clear HR22
          have HD23 := Lib.hid (Blk.belowAll HD22.out hb23)
          clear HD22
          have HV23 := Lib.hid (DenyOwn.below HV22.out hb23)
          clear HV22
          have HN23 := Lib.hid (Blk.belowAll Hbx22.out hb23)
          clear Hbx22
          clear hb23
          have Hofn := Lib.hid hofn; clear hofn
          have Hsmn := Lib.hid hsmn; clear hsmn
          unfold denyV
          have LTX := Lib.hid (fun k hk => (DenyOwn.lt hownn k hk).1)
          have UPX := Lib.hid (fun k hk => (DenyOwn.lt hownn k hk).2)
          have HoX := Lib.hid hownn; clear hownn
          obtain ⟨cN23_0, cN23_1⟩ := denyCells (t := 30) (v := (⟨0, none, 0, []⟩ : DenyR)) HN23.out
          have fn230 := (HN23.out).free 0
          have fn231 := (HN23.out).free 1
          go_simp
          refine hK.out _ _ (by exact denyCells (t := 30) (v := u) HD23.out) (fun hS => ?_)
          clear hK K
          refine take_at 4 18 (v := ?_) rfl rfl (by kernel_rfl) (by kernel_rfl) (by kernel_rfl) (fun _ _ _ h => h) (by rfl) ?_ hS ?_
          rotate_left 1
          · (intro w hSw; (try dsimp only at hSw); (try go_split_ands); go_simp; try with_reducible rfl)
          simp only [List.setIfInBounds_toArray, List.set_cons_zero, List.set_cons_succ]
          refine take_at 5 23 (v := ?_) rfl rfl (by kernel_rfl) (by kernel_rfl) (by kernel_rfl) (fun _ _ _ h => h) (by rfl) ?_ hS ?_
          rotate_left 1
          · (intro w hSw; (try dsimp only at hSw); (try go_split_ands); go_simp; try with_reducible rfl)
          simp only [List.setIfInBounds_toArray, List.set_cons_zero, List.set_cons_succ]
          refine take_at 6 24 (v := ?_) rfl rfl (by kernel_rfl) (by kernel_rfl) (by kernel_rfl) (fun _ _ _ h => h) (by rfl) ?_ hS ?_
          rotate_left 1
          · (intro w hSw; (try dsimp only at hSw); (try go_split_ands); go_simp; try with_reducible rfl)
          simp only [List.setIfInBounds_toArray, List.set_cons_zero, List.set_cons_succ]
          refine wpAnyH_ready (rs := [8]) (by kernel_rfl) (by simp) ?_
          refine AllReadyH.cons rfl (fun K hK => ?_) (AllReadyH.nil)
          go_simp
          generalize hW : World.setCell _ _ _ = w24
          have ht24 : Touch (fun i => i = w21.heap.size) w23 w24 := by rw [← hW]; exact (Touch.far (K := fun i => i = w21.heap.size) (Touch.far (K := fun i => i = w21.heap.size) (Touch.refl _ _) (p := ⟨w21.heap.size, 0, none⟩) rfl _) (p := ⟨w21.heap.size, 1, none⟩) rfl _)
          have hbx24 : Blk w24 (w21.heap.size) 30 (DenyR.cells un) := by rw [← hW]; exact (Blk.put (Blk.put HN23.out 0 (.int .i64 un.ver)) 1 (.slice un.cardsA un.cards.length un.cardsc))
          clear hW
          clear cN23_0 cN23_1 fn230 fn231
          have hz24 : w23.heap.size ≤ w24.heap.size := by have := ht24.size; (try simp at this); omega
          have HG24 := Lib.hid (grown_touch HG23.out ht24 (fun i hi => by omega))
          clear HG23
          have Hrd24 := Lib.hid (Rd.touch Hrd23.out ht24 (fun i hi => by omega))
          clear Hrd23
          have HR24 := Lib.hid (Blk.touch HR23.out ht24 (show ¬ (w.heap.size = w21.heap.size) by omega))
          clear HR23
          have HD24 := Lib.hid (Blk.touch HD23.out ht24 (show ¬ (w2.heap.size + 1 = w21.heap.size) by omega))
          clear HD23
          have HV24 := Lib.hid (DenyOwn.touch HV23.out ht24 (fun i hi e0 => by have a1 := LTV.out _ hi; have a2 := UPV.out _ hi; have a7 := NEU1.out _ hi; omega))
          clear HV23
          have HX24 := Lib.hid (DenyOwn.touch HoX.out ht24 (fun i hi e0 => by have a1 := LTX.out _ hi; have a2 := UPX.out _ hi; omega))
          clear HoX
          clear ht24 HN23
          have Hbx24 := Lib.hid hbx24; clear hbx24
          refine hK.out _ _ (by exact denyCells (t := 30) (v := u) HD24.out) (fun hS => ?_)
          clear hK K
          refine take_at 9 6 (v := ?_) rfl rfl (by kernel_rfl) (by kernel_rfl) (by kernel_rfl) (fun _ _ _ h => h) (by rfl) ?_ hS ?_
          rotate_left 1
          · (intro w hSw; (try dsimp only at hSw); (try go_split_ands); go_simp; try with_reducible rfl)
          simp only [List.setIfInBounds_toArray, List.set_cons_zero, List.set_cons_succ]
          refine wpAnyH_done (by kernel_rfl) ?_ _
          clear hS
          obtain ⟨cN24_0, cN24_1⟩ := denyCells (t := 30) (v := un) Hbx24.out
          obtain ⟨cD24_0, cD24_1⟩ := denyCells (t := 30) (v := u) HD24.out
          have fd240 := (HD24.out).free 0
          have fd241 := (HD24.out).free 1
          cases hq : (Fares.denyCard u.of x true).2
          · go_wp2
            go_roundw
            case rel => exact ⟨k', u, q + 1, by go_num, by omega, HD24.out, HR24.out, HV24.out, NEU1, Hv, Hrd24.out, HG24.out, by omega⟩
            case measure => simp [intOf]
          · have Hw := Lib.hid (show Fares.validDeny un.of = true by rw [Hofn.out]; exact Fares.denyCard_valid hq)
            go_wp2
            generalize hW : World.setCell _ _ _ = w25
            have ht25 : Touch (fun i => i = w2.heap.size + 1) w24 w25 := by rw [← hW]; exact (Touch.far (K := fun i => i = w2.heap.size + 1) (Touch.far (K := fun i => i = w2.heap.size + 1) (Touch.refl _ _) (p := ⟨w2.heap.size + 1, 0, none⟩) rfl _) (p := ⟨w2.heap.size + 1, 1, none⟩) rfl _)
            have hbx25 : Blk w25 (w2.heap.size + 1) 30 (DenyR.cells un) := by rw [← hW]; exact (Blk.put (Blk.put HD24.out 0 (.int .i64 un.ver)) 1 (.slice un.cardsA un.cards.length un.cardsc))
            clear hW
            clear cN24_0 cN24_1 cD24_0 cD24_1 fd240 fd241
            have hz25 : w24.heap.size ≤ w25.heap.size := by have := ht25.size; (try simp at this); omega
            have HG25 := Lib.hid (grown_touch HG24.out ht25 (fun i hi => by omega))
            clear HG24
            have Hrd25 := Lib.hid (Rd.touch Hrd24.out ht25 (fun i hi => by omega))
            clear Hrd24
            have HR25 := Lib.hid (Blk.touch HR24.out ht25 (show ¬ (w.heap.size = w2.heap.size + 1) by omega))
            clear HR24
            have HV25 := Lib.hid (DenyOwn.touch HV24.out ht25 (fun i hi e0 => by have a1 := LTV.out _ hi; have a2 := UPV.out _ hi; have a7 := NEU1.out _ hi; omega))
            clear HV24
            have HX25 := Lib.hid (DenyOwn.touch HX24.out ht25 (fun i hi e0 => by have a1 := LTX.out _ hi; have a2 := UPX.out _ hi; omega))
            clear HX24
            have HN25 := Lib.hid (Blk.touch Hbx24.out ht25 (show ¬ (w21.heap.size = w2.heap.size + 1) by omega))
            clear Hbx24
            clear ht25 HD24
            have Hbx25 := Lib.hid hbx25; clear hbx25
            have NEX := Lib.hid (show ∀ k, DenyBlocks un k → k ≠ w2.heap.size + 1 from fun k hk e => by have a1 := LTX.out _ hk; omega)
            go_roundw
            case rel => exact ⟨k', un, q + 1, by go_num, by omega, Hbx25.out, HR25.out, DenyOwn.base HX25.out (by omega), NEX, Hw, Hrd25.out, HG25.out, by omega⟩
            case measure => simp [intOf]
      · go_simp
        generalize hW : World.alloc _ _ = w21
        have hbx21 : Blk w21 wr.heap.size 30 (DenyR.cells (⟨0, none, 0, []⟩ : DenyR)) := by rw [← hW]; exact Blk.new' (by simp)
        have hb21 : Below wr.heap.size wr w21 := by rw [← hW]; exact bA (Below.refl _ _) _
        have hy21 : wr.heap.size < w21.heap.size := by rw [← hW]; simp
        clear hW
        have hz21 : wr.heap.size ≤ w21.heap.size := by have := hb21.size; (try simp at this); omega
        have HG21 := Lib.hid (grown_trans HG.out (grown_of_below hb21 _))
        clear HG
        have Hrd21 := Lib.hid (Rd.belowAll Hrd.out hb21)
        clear Hrd
        have HR21 := Lib.hid (Blk.belowAll HR.out hb21)
        clear HR
        have HD21 := Lib.hid (Blk.belowAll HD.out hb21)
        clear HD
        have HV21 := Lib.hid (DenyOwn.below HoV.out hb21)
        clear HoV
        clear hb21
        have Hbx21 := Lib.hid hbx21; clear hbx21
        obtain ⟨cN21_0, cN21_1⟩ := denyCells (t := 30) (v := (⟨0, none, 0, []⟩ : DenyR)) (blkDrew Hbx21.out)
        have fn210 := ((blkDrew Hbx21.out)).free 0
        have fn211 := ((blkDrew Hbx21.out)).free 1
        refine hK.out _ _ (by exact denyCells (t := 30) (v := u) (blkDrew HD21.out)) (fun hS => ?_)
        clear hK K
        refine wpAnyH_ready (rs := [2]) (by kernel_rfl) (by simp) ?_
        refine AllReadyH.cons rfl (fun K hK => ?_) (AllReadyH.nil)
        go_simp
        go_wp2_with fail
        refine (pick_any g (q) (20) _ (Rd.drew Hrd21.out) (by omega)).mono ?_
        rintro e w22 ⟨x, rfl, x0, x1, hr22, hg22⟩
        have x2 := x1 (by omega)
        clear x1
        clear cN21_0 cN21_1 fn210 fn211
        have hz22 : w21.heap.size ≤ w22.heap.size := by have := hg22.size; (try simp at this); omega
        have HG22 := Lib.hid (grown_trans (grownDrew HG21.out) hg22)
        clear HG21
        have HR22 := Lib.hid (Blk.grown (blkDrew HR21.out) hg22 (by intro e; injection e with e; omega))
        clear HR21
        have HD22 := Lib.hid (Blk.grown (blkDrew HD21.out) hg22 (by intro e; injection e with e; omega))
        clear HD21
        have HV22 := Lib.hid (DenyOwn.touch (DenyOwn.drew HV21.out) (Touch.of_grown hg22) (fun i hi e0 => by injection e0 with e0; have a1 := LTV.out _ hi; omega))
        clear HV21
        have HN22 := Lib.hid (Blk.grown (blkDrew Hbx21.out) hg22 (by intro e; injection e with e; omega))
        clear Hbx21
        clear hg22
        clear Hrd21
        have Hrd22 := Lib.hid hr22; clear hr22
        have hgl22 : g < w22.heap.size := (Hrd22.out).lt
        obtain ⟨cN22_0, cN22_1⟩ := denyCells (t := 30) (v := (⟨0, none, 0, []⟩ : DenyR)) HN22.out
        have fn220 := (HN22.out).free 0
        have fn221 := (HN22.out).free 1
        go_simp
        refine hK.out _ _ (by exact denyCells (t := 30) (v := u) HD22.out) (fun hS => ?_)
        clear hK K
        refine wpAnyH_ready (rs := [3]) (by kernel_rfl) (by simp) ?_
        refine AllReadyH.cons rfl (fun K hK => ?_) (AllReadyH.nil)
        go_simp
        go_wp2_with fail
        refine (specDenyCard_any u x true _ (DenyOwn.in_ HV22.out) Hsm.out).mono ?_
        rintro e w23 ⟨⟨un, rfl, hofn, hownn, hsmn⟩, hb23⟩
        clear cN22_0 cN22_1 fn220 fn221
        have hz23 : w22.heap.size ≤ w23.heap.size := by have := hb23.size; (try simp at this); omega
        have HG23 := Lib.hid (grown_trans HG22.out (grown_of_below hb23 _))
        clear HG22
        have Hrd23 := Lib.hid (Rd.belowAll Hrd22.out hb23)
        clear Hrd22
        have HR23 := Lib.hid (Blk.belowAll HR22.out hb23)
        clear HR22
        have HD23 := Lib.hid (Blk.belowAll HD22.out hb23)
        clear HD22
        have HV23 := Lib.hid (DenyOwn.below HV22.out hb23)
        clear HV22
        have HN23 := Lib.hid (Blk.belowAll HN22.out hb23)
        clear HN22
        clear hb23
        have Hofn := Lib.hid hofn; clear hofn
        have Hsmn := Lib.hid hsmn; clear hsmn
        unfold denyV
        have LTX := Lib.hid (fun k hk => (DenyOwn.lt hownn k hk).1)
        have UPX := Lib.hid (fun k hk => (DenyOwn.lt hownn k hk).2)
        have HoX := Lib.hid hownn; clear hownn
        obtain ⟨cN23_0, cN23_1⟩ := denyCells (t := 30) (v := (⟨0, none, 0, []⟩ : DenyR)) HN23.out
        have fn230 := (HN23.out).free 0
        have fn231 := (HN23.out).free 1
        go_simp
        refine hK.out _ _ (by exact denyCells (t := 30) (v := u) HD23.out) (fun hS => ?_)
        clear hK K
        refine take_at 4 18 (v := ?_) rfl rfl (by kernel_rfl) (by kernel_rfl) (by kernel_rfl) (fun _ _ _ h => h) (by rfl) ?_ hS ?_
        rotate_left 1
        · (intro w hSw; (try dsimp only at hSw); (try go_split_ands); go_simp; try with_reducible rfl)
        simp only [List.setIfInBounds_toArray, List.set_cons_zero, List.set_cons_succ]
        refine take_at 5 23 (v := ?_) rfl rfl (by kernel_rfl) (by kernel_rfl) (by kernel_rfl) (fun _ _ _ h => h) (by rfl) ?_ hS ?_
        rotate_left 1
        · (intro w hSw; (try dsimp only at hSw); (try go_split_ands); go_simp; try with_reducible rfl)
        simp only [List.setIfInBounds_toArray, List.set_cons_zero, List.set_cons_succ]
        refine take_at 6 24 (v := ?_) rfl rfl (by kernel_rfl) (by kernel_rfl) (by kernel_rfl) (fun _ _ _ h => h) (by rfl) ?_ hS ?_
        rotate_left 1
        · (intro w hSw; (try dsimp only at hSw); (try go_split_ands); go_simp; try with_reducible rfl)
        simp only [List.setIfInBounds_toArray, List.set_cons_zero, List.set_cons_succ]
        refine wpAnyH_ready (rs := [8]) (by kernel_rfl) (by simp) ?_
        refine AllReadyH.cons rfl (fun K hK => ?_) (AllReadyH.nil)
        go_simp
        generalize hW : World.setCell _ _ _ = w24
        have ht24 : Touch (fun i => i = wr.heap.size) w23 w24 := by rw [← hW]; exact (Touch.far (K := fun i => i = wr.heap.size) (Touch.far (K := fun i => i = wr.heap.size) (Touch.refl _ _) (p := ⟨wr.heap.size, 0, none⟩) rfl _) (p := ⟨wr.heap.size, 1, none⟩) rfl _)
        have hbx24 : Blk w24 (wr.heap.size) 30 (DenyR.cells un) := by rw [← hW]; exact (Blk.put (Blk.put HN23.out 0 (.int .i64 un.ver)) 1 (.slice un.cardsA un.cards.length un.cardsc))
        clear hW
        clear cN23_0 cN23_1 fn230 fn231
        have hz24 : w23.heap.size ≤ w24.heap.size := by have := ht24.size; (try simp at this); omega
        have HG24 := Lib.hid (grown_touch HG23.out ht24 (fun i hi => by omega))
        clear HG23
        have Hrd24 := Lib.hid (Rd.touch Hrd23.out ht24 (fun i hi => by omega))
        clear Hrd23
        have HR24 := Lib.hid (Blk.touch HR23.out ht24 (show ¬ (w.heap.size = wr.heap.size) by omega))
        clear HR23
        have HD24 := Lib.hid (Blk.touch HD23.out ht24 (show ¬ (w2.heap.size + 1 = wr.heap.size) by omega))
        clear HD23
        have HV24 := Lib.hid (DenyOwn.touch HV23.out ht24 (fun i hi e0 => by have a1 := LTV.out _ hi; have a2 := UPV.out _ hi; have a7 := NEU1.out _ hi; omega))
        clear HV23
        have HX24 := Lib.hid (DenyOwn.touch HoX.out ht24 (fun i hi e0 => by have a1 := LTX.out _ hi; have a2 := UPX.out _ hi; omega))
        clear HoX
        clear ht24 HN23
        have Hbx24 := Lib.hid hbx24; clear hbx24
        refine hK.out _ _ (by exact denyCells (t := 30) (v := u) HD24.out) (fun hS => ?_)
        clear hK K
        refine take_at 9 6 (v := ?_) rfl rfl (by kernel_rfl) (by kernel_rfl) (by kernel_rfl) (fun _ _ _ h => h) (by rfl) ?_ hS ?_
        rotate_left 1
        · (intro w hSw; (try dsimp only at hSw); (try go_split_ands); go_simp; try with_reducible rfl)
        simp only [List.setIfInBounds_toArray, List.set_cons_zero, List.set_cons_succ]
        refine wpAnyH_done (by kernel_rfl) ?_ _
        clear hS
        obtain ⟨cN24_0, cN24_1⟩ := denyCells (t := 30) (v := un) Hbx24.out
        obtain ⟨cD24_0, cD24_1⟩ := denyCells (t := 30) (v := u) HD24.out
        have fd240 := (HD24.out).free 0
        have fd241 := (HD24.out).free 1
        cases hq : (Fares.denyCard u.of x true).2
        · go_wp2
          go_roundw
          case rel => exact ⟨k', u, q + 1, by go_num, by omega, HD24.out, HR24.out, HV24.out, NEU1, Hv, Hrd24.out, HG24.out, by omega⟩
          case measure => simp [intOf]
        · have Hw := Lib.hid (show Fares.validDeny un.of = true by rw [Hofn.out]; exact Fares.denyCard_valid hq)
          go_wp2
          generalize hW : World.setCell _ _ _ = w25
          have ht25 : Touch (fun i => i = w2.heap.size + 1) w24 w25 := by rw [← hW]; exact (Touch.far (K := fun i => i = w2.heap.size + 1) (Touch.far (K := fun i => i = w2.heap.size + 1) (Touch.refl _ _) (p := ⟨w2.heap.size + 1, 0, none⟩) rfl _) (p := ⟨w2.heap.size + 1, 1, none⟩) rfl _)
          have hbx25 : Blk w25 (w2.heap.size + 1) 30 (DenyR.cells un) := by rw [← hW]; exact (Blk.put (Blk.put HD24.out 0 (.int .i64 un.ver)) 1 (.slice un.cardsA un.cards.length un.cardsc))
          clear hW
          clear cN24_0 cN24_1 cD24_0 cD24_1 fd240 fd241
          have hz25 : w24.heap.size ≤ w25.heap.size := by have := ht25.size; (try simp at this); omega
          have HG25 := Lib.hid (grown_touch HG24.out ht25 (fun i hi => by omega))
          clear HG24
          have Hrd25 := Lib.hid (Rd.touch Hrd24.out ht25 (fun i hi => by omega))
          clear Hrd24
          have HR25 := Lib.hid (Blk.touch HR24.out ht25 (show ¬ (w.heap.size = w2.heap.size + 1) by omega))
          clear HR24
          have HV25 := Lib.hid (DenyOwn.touch HV24.out ht25 (fun i hi e0 => by have a1 := LTV.out _ hi; have a2 := UPV.out _ hi; have a7 := NEU1.out _ hi; omega))
          clear HV24
          have HX25 := Lib.hid (DenyOwn.touch HX24.out ht25 (fun i hi e0 => by have a1 := LTX.out _ hi; have a2 := UPX.out _ hi; omega))
          clear HX24
          have HN25 := Lib.hid (Blk.touch Hbx24.out ht25 (show ¬ (wr.heap.size = w2.heap.size + 1) by omega))
          clear Hbx24
          clear ht25 HD24
          have Hbx25 := Lib.hid hbx25; clear hbx25
          have NEX := Lib.hid (show ∀ k, DenyBlocks un k → k ≠ w2.heap.size + 1 from fun k hk e => by have a1 := LTX.out _ hk; omega)
          go_roundw
          case rel => exact ⟨k', un, q + 1, by go_num, by omega, Hbx25.out, HR25.out, DenyOwn.base HX25.out (by omega), NEX, Hw, Hrd25.out, HG25.out, by omega⟩
          case measure => simp [intOf]
    · have hk1 : decide ((0 : Int) < (k : Int)) = false := by simp; omega
      have fr0 := (HR.out).free 0
      have fr1 := (HR.out).free 1
      go_wp2
      generalize hW : World.setCell _ _ _ = w21
      have ht21 : Touch (fun i => i = w.heap.size) wr w21 := by rw [← hW]; exact (Touch.far (K := fun i => i = w.heap.size) (Touch.far (K := fun i => i = w.heap.size) (Touch.refl _ _) (p := ⟨w.heap.size, 0, none⟩) rfl _) (p := ⟨w.heap.size, 1, none⟩) rfl _)
      have hbx21 : Blk w21 (w.heap.size) 30 (DenyR.cells u) := by rw [← hW]; exact (Blk.put (Blk.put HR.out 0 (.int .i64 u.ver)) 1 (.slice u.cardsA u.cards.length u.cardsc))
      clear hW
      clear cD20_0 cD20_1 cR20_0 cR20_1 fr0 fr1
      have hz21 : wr.heap.size ≤ w21.heap.size := by have := ht21.size; (try simp at this); omega
      have HG21 := Lib.hid (grown_touch HG.out ht21 (fun i hi => by omega))
      clear HG
      have Hrd21 := Lib.hid (Rd.touch Hrd.out ht21 (fun i hi => by omega))
      clear Hrd
      have HD21 := Lib.hid (Blk.touch HD.out ht21 (show ¬ (w2.heap.size + 1 = w.heap.size) by omega))
      clear HD
      have HV21 := Lib.hid (DenyOwn.touch HoV.out ht21 (fun i hi e0 => by have a1 := LTV.out _ hi; have a2 := UPV.out _ hi; have a7 := NEU1.out _ hi; omega))
      clear HoV
      clear ht21 HR
      have Hbx21 := Lib.hid hbx21; clear hbx21
      obtain ⟨z0, z1⟩ := denyCells (t := 30) (v := u) Hbx21.out
      exact bodyPost_ret (v := denyV u) (by simp [results, Try.results86, go_sem, denyV, z0, z1]) rfl ⟨u, q, rfl, DenyOwn.base HV21.out (by omega), Hv.out, by omega, Hrd21.out, HG21.out⟩
set_option maxRecDepth 100000 in
set_option maxHeartbeats 4000000 in
theorem anyDeny_any (g p : Nat) (w : World) (hr : Rd w g p) (hp : p ≤ 40000) :
    Calls Try.prog 59 #[.pointer (some ⟨g, 0, none⟩)] w (AnyDeny 25 g p w) := by
  have hgw := hr.lt
  have Hr0 := Lib.hid hr; clear hr
  obtain ⟨ti, hi0, hz0_, hz1_, hz2_⟩ := info_parts info_intS
  have HIInt := Lib.hid hi0; clear hi0
  have HZ0Int := Lib.hid hz0_; clear hz0_
  have HZ1Int := Lib.hid hz1_; clear hz1_
  have HZ2Int := Lib.hid hz2_; clear hz2_
  go_enter Try.func59, Try.ntmps59
  go_wp2_with fail
  generalize hW : World.alloc _ _ = w1
  have hr1 : Blk w1 w.heap.size 30 (DenyR.cells (⟨0, none, 0, []⟩ : DenyR)) := by rw [← hW]; exact Blk.new w _ _
  have HG1 : Hid (w.grownBy w1 (some g)) := Lib.hid (by rw [← hW]; exact grown_alloc (grown_refl _ _) _)
  have Hrd1 : Hid (Rd w1 g p) := Lib.hid (by rw [← hW]; exact Rd.alloc Hr0.out _)
  have hz1 : w.heap.size < w1.heap.size := by rw [← hW]; simp
  clear hW Hr0
  have Hbr1 := Lib.hid hr1; clear hr1
  refine (randomDeny_any g p _ Hrd1.out (by omega)).mono ?_
  rintro e w2 ⟨u, q, rfl, hown, hv, hq, hr2, hg2⟩
  have hz2 : w1.heap.size ≤ w2.heap.size := by have := hg2.size; (try simp at this); omega
  have HG2 := Lib.hid (grown_trans HG1.out hg2)
  clear HG1
  have HR2 := Lib.hid (Blk.grown Hbr1.out hg2 (by intro e; injection e with e; omega))
  clear Hbr1
  clear hg2
  clear Hrd1
  have Hrd2 := Lib.hid hr2; clear hr2
  have hgl2 : g < w2.heap.size := (Hrd2.out).lt
  unfold denyV
  have hvf := Fares.validDeny_facts hv
  clear hv
  obtain ⟨hv0, hv1, hl, hxb⟩ := hvf
  have Hxb := Lib.hid hxb; clear hxb
  have LTU := Lib.hid (fun k hk => (DenyOwn.lt hown k hk).1)
  have UPU := Lib.hid (fun k hk => (DenyOwn.lt hown k hk).2)
  have HoU := Lib.hid hown; clear hown
  have hl' : u.cards.length ≤ 12 := hl
  have hv0' : 0 ≤ u.ver := hv0
  have hv1' : u.ver ≤ 999 := hv1
  clear hl hv0 hv1
  go_wp2_with fail
  generalize hW : World.alloc _ _ = w3
  have hbx3 : Blk w3 w2.heap.size 30 (DenyR.cells u) := by rw [← hW]; exact Blk.new w2 _ _
  have hb3 : Below w2.heap.size w2 w3 := by rw [← hW]; exact bA (Below.refl _ _) _
  have hy3 : w2.heap.size < w3.heap.size := by rw [← hW]; simp
  clear hW
  have hz3 : w2.heap.size ≤ w3.heap.size := by have := hb3.size; (try simp at this); omega
  have HG3 := Lib.hid (grown_trans HG2.out (grown_of_below hb3 _))
  clear HG2
  have Hrd3 := Lib.hid (Rd.belowAll Hrd2.out hb3)
  clear Hrd2
  have HR3 := Lib.hid (Blk.belowAll HR2.out hb3)
  clear HR2
  have HU3 := Lib.hid (DenyOwn.below HoU.out hb3)
  clear HoU
  clear hb3
  have Hbx3 := Lib.hid hbx3; clear hbx3
  have NEU := Lib.hid (show ∀ k, DenyBlocks u k → k ≠ w2.heap.size from fun k hk e => by have a1 := UPU.out _ hk; omega)
  refine (pick_any g (q) (24) _ Hrd3.out (by omega)).mono ?_
  rintro e w4 ⟨k, rfl, k0, k1, hr4, hg4⟩
  have k2 := k1 (by omega)
  clear k1
  have hz4 : w3.heap.size ≤ w4.heap.size := by have := hg4.size; (try simp at this); omega
  have HG4 := Lib.hid (grown_trans HG3.out hg4)
  clear HG3
  have HR4 := Lib.hid (Blk.grown HR3.out hg4 (by intro e; injection e with e; omega))
  clear HR3
  have HU4 := Lib.hid (DenyOwn.touch HU3.out (Touch.of_grown hg4) (fun i hi e0 => by injection e0 with e0; have a1 := LTU.out _ hi; omega))
  clear HU3
  have HD4 := Lib.hid (Blk.grown Hbx3.out hg4 (by intro e; injection e with e; omega))
  clear Hbx3
  clear hg4
  clear Hrd3
  have Hrd4 := Lib.hid hr4; clear hr4
  have hgl4 : g < w4.heap.size := (Hrd4.out).lt
  by_cases hk0 : k = 0
  · subst hk0
    obtain ⟨cD4_0, cD4_1⟩ := denyCells (t := 30) (v := u) HD4.out
    obtain ⟨cR4_0, cR4_1⟩ := denyCells (t := 30) (v := (⟨0, none, 0, []⟩ : DenyR)) HR4.out
    have frD40 := (HD4.out).free 0
    have frD41 := (HD4.out).free 1
    have frR40 := (HR4.out).free 0
    have frR41 := (HR4.out).free 1
    go_wp2_with fail
    generalize hW : World.alloc _ _ = w5
    have hN : Blk w5 w4.heap.size 3 #[.int .i64 (-1), .int .i64 999, .int .i64 1000] := by rw [← hW]; exact Blk.new _ _ _
    have hb5 : Below w4.heap.size w4 w5 := by rw [← hW]; exact bA (Below.refl _ _) _
    clear hW
    clear cD4_0 cD4_1 cR4_0 cR4_1 frD40 frD41 frR40 frR41
    have hz5 : w4.heap.size ≤ w5.heap.size := by have := hb5.size; (try simp at this); omega
    have HG5 := Lib.hid (grown_trans HG4.out (grown_of_below hb5 _))
    clear HG4
    have Hrd5 := Lib.hid (Rd.belowAll Hrd4.out hb5)
    clear Hrd4
    have HR5 := Lib.hid (Blk.belowAll HR4.out hb5)
    clear HR4
    have HU5 := Lib.hid (DenyOwn.below HU4.out hb5)
    clear HU4
    have HD5 := Lib.hid (Blk.belowAll HD4.out hb5)
    clear HD4
    clear hb5
    refine (one_in g (q + 1) _ [-1, 999, 1000] (-1) 1000 3 3 _ _ Hrd5.out (by omega) hN (by omega) rfl rfl (by omega) (by omega) (by decide)).mono ?_
    rintro e w6 ⟨x, rfl, x0, x1, hr6, hg6⟩
    have hz6 : w5.heap.size ≤ w6.heap.size := by have := hg6.size; (try simp at this); omega
    have HG6 := Lib.hid (grown_trans HG5.out hg6)
    clear HG5
    have HR6 := Lib.hid (Blk.grown HR5.out hg6 (by intro e; injection e with e; omega))
    clear HR5
    have HU6 := Lib.hid (DenyOwn.touch HU5.out (Touch.of_grown hg6) (fun i hi e0 => by injection e0 with e0; have a1 := LTU.out _ hi; omega))
    clear HU5
    have HD6 := Lib.hid (Blk.grown HD5.out hg6 (by intro e; injection e with e; omega))
    clear HD5
    clear hg6
    clear Hrd5
    have Hrd6 := Lib.hid hr6; clear hr6
    have hgl6 : g < w6.heap.size := (Hrd6.out).lt
    clear hN
    obtain ⟨cD6_0, cD6_1⟩ := denyCells (t := 30) (v := u) HD6.out
    obtain ⟨cR6_0, cR6_1⟩ := denyCells (t := 30) (v := (⟨0, none, 0, []⟩ : DenyR)) HR6.out
    have frD60 := (HD6.out).free 0
    have frD61 := (HD6.out).free 1
    have frR60 := (HR6.out).free 0
    have frR61 := (HR6.out).free 1
    go_wp2
    generalize hW : World.setCell _ _ _ = wf
    have ha1 : Touch (fun i => i = w2.heap.size ∨ i = w.heap.size) w6 wf := by rw [← hW]; exact Touch.far (K := fun i => i = w2.heap.size ∨ i = w.heap.size) (Touch.far (K := fun i => i = w2.heap.size ∨ i = w.heap.size) (Touch.far (K := fun i => i = w2.heap.size ∨ i = w.heap.size) (Touch.refl _ _) (p := ⟨w2.heap.size, 0, none⟩) (.inl rfl) _) (p := ⟨w.heap.size, 0, none⟩) (.inr rfl) _) (p := ⟨w.heap.size, 1, none⟩) (.inr rfl) _
    have hrb : Blk wf (w.heap.size) 30 (DenyR.cells (⟨x, u.cardsA, u.cardsc, u.cards⟩ : DenyR)) := by rw [← hW]; exact ((Blk.far HR6.out (p := ⟨w2.heap.size, 0, none⟩) (show w.heap.size ≠ w2.heap.size by omega) _).put 0 _).put 1 _
    obtain ⟨z0, z1⟩ := denyCells (t := 30) (v := (⟨x, u.cardsA, u.cardsc, u.cards⟩ : DenyR)) hrb
    have hU2 : DenyOwn wf (w1.heap.size) u := DenyOwn.touch HU6.out ha1 (fun i hi e => by have a1 := LTU.out _ hi; have a2 := UPU.out _ hi; have a3 := NEU.out _ hi; omega)
    have hin : DenyIn wf wf.heap.size (⟨x, u.cardsA, u.cardsc, u.cards⟩ : DenyR) := DenyOwn.in_ hU2
    exact bodyPost_ret (v := denyV (⟨x, u.cardsA, u.cardsc, u.cards⟩ : DenyR)) (by simp [results, Try.results59, go_sem, denyV, z0, z1]) rfl ⟨(⟨x, u.cardsA, u.cardsc, u.cards⟩ : DenyR), q + 1 + 1, rfl, hin, (fun a ha => by have a1 := LTU.out a.block (show Value.ownBlock _ = _ by rw [ha]; rfl); omega), show u.cards.length ≤ 14 by omega, (fun x hx => by have := Hxb.out x hx; omega), x0, x1, by omega, Rd.touch Hrd6.out ha1 (fun i hi => by rcases hi with hi | hi <;> omega), grown_touch HG6.out ha1 (fun i hi => by rcases hi with hi | hi <;> omega)⟩
  · have hk0' : (k == 0) = false := by simpa using hk0
    by_cases hk1 : k = 1
    · subst hk1
      obtain ⟨cD4_0, cD4_1⟩ := denyCells (t := 30) (v := u) HD4.out
      have Hcr := Lib.hid (show World.ownsRow w4 (w1.heap.size) 3 1 (.slice u.cardsA u.cards.length u.cardsc) u.cards.length (u.cards.flatMap intCells) from HU4.out.1)
      have LTcr := Lib.hid (fun k hk => (World.ownsRow.lt Hcr.out k hk).1)
      have UPcr := Lib.hid (fun k hk => (World.ownsRow.lt Hcr.out k hk).2)
      have NEcr := Lib.hid (show ∀ k, (.slice u.cardsA u.cards.length u.cardsc : Value).ownBlock = some k → k ≠ w2.heap.size from fun k hk => NEU.out k hk)
      have hszc := (HG4.out).size
      have hbase : w1.heap.size ≤ w4.heap.size := by omega
      go_wp2_with (at_builtin; refine wpList_append_lies _ rfl (.tmp 18) (.tmp 19) _ rfl (w1.heap.size) 3 ti _ 1 8 Try.underlying28 HIInt.out HZ0Int.out HZ1Int.out HZ2Int.out rfl (by omega) _ _ _ rfl (World.ownsRow.alloc Hcr.out _) ⟨w4.heap.size, 0, none⟩ 1 1 (intCells 99) rfl rfl ?c1 ?c2 (by omega) ?c3 ?c4 ?c5 _ rfl ?_)
      case c1 => exact World.news_of_block (Blk.new' (t := 3) (cs := #[.int .i64 99]) (by simp))
      case c2 => simp [intCells, Value.oneCell']
      case c3 => unfold maxLen; omega
      case c4 => omega
      case c5 => first | omega | (simp; omega) | simp
      intro gb5 cap5 w5 hown5 hgrow5 hat5 hlt5
      have HX5 := Lib.hid (OwnInts.snoc hown5); clear hown5 hat5
      clear cD4_0 cD4_1
      have hz5 : w4.heap.size + 1 ≤ w5.heap.size := by have := hgrow5.size; (try simp at this); omega
      have HG5 := Lib.hid (grown_touch (grown_alloc HG4.out _) (Touch.of_grown hgrow5) (fun i hi => by have a1 := LTcr.out _ hi; omega))
      clear HG4
      have Hrd5 := Lib.hid (Rd.touch (Rd.alloc Hrd4.out _) (Touch.of_grown hgrow5) (fun i hi => by have a1 := LTcr.out _ hi; omega))
      clear Hrd4
      have HR5 := Lib.hid (Blk.grown (Blk.alloc HR4.out _) hgrow5 (by intro e; have a1 := LTcr.out _ e.symm; have a2 := UPcr.out _ e.symm; have a7 := NEcr.out _ e.symm; omega))
      clear HR4
      have HD5 := Lib.hid (Blk.grown (Blk.alloc HD4.out _) hgrow5 (by intro e; have a1 := LTcr.out _ e.symm; have a2 := UPcr.out _ e.symm; have a7 := NEcr.out _ e.symm; omega))
      clear HD4
      clear hgrow5 Hcr
      obtain ⟨Av, cv, ev, hcv1, hcv2, hrs⟩ := OwnInts.form HX5.out
      injection ev with ev1 ev2 ev3
      subst ev1 ev3
      clear ev2
      have hlx : (u.cards ++ [99]).length = u.cards.length + 1 := by simp
      go_wp2_with fail
      refine (spoil_any g (q + 1) _ (u.cards.length + 1) _ (u.cards ++ [99]) 100 (-1) 100 _ Hrd5.out (by omega) hrs hlx (fun e => by cases e) (by omega) (fun x hx => by
            rcases List.mem_append.1 hx with h | h
            · have := Hxb.out x h; omega
            · simp at h; omega) (by omega) (by omega) (by omega) (by omega)).mono ?_
      rintro e w6 ⟨As, ns, cs, ys, q2, rfl, hxs, hAb, hAn, hyl, hnc, hcm, hyM, hyb, hq2, hr6, hg6⟩
      have hz6 : w5.heap.size ≤ w6.heap.size := by have := hg6.size; (try simp at this); omega
      have HG6 := Lib.hid (grown_trans HG5.out hg6)
      clear HG5
      have HR6 := Lib.hid (Blk.grown HR5.out hg6 (by intro e; injection e with e; omega))
      clear HR5
      have HD6 := Lib.hid (Blk.grown HD5.out hg6 (by intro e; injection e with e; omega))
      clear HD5
      clear hg6
      clear Hrd5
      have Hrd6 := Lib.hid hr6; clear hr6
      have hgl6 : g < w6.heap.size := (Hrd6.out).lt
      have Hxs := Lib.hid hxs; clear hxs hrs
      have HAb := Lib.hid hAb; clear hAb
      have HAn := Lib.hid hAn; clear hAn
      have Hyb := Lib.hid hyb; clear hyb
      subst hyl
      obtain ⟨cD6_0, cD6_1⟩ := denyCells (t := 30) (v := u) HD6.out
      obtain ⟨cR6_0, cR6_1⟩ := denyCells (t := 30) (v := (⟨0, none, 0, []⟩ : DenyR)) HR6.out
      have frD60 := (HD6.out).free 0
      have frD61 := (HD6.out).free 1
      have frR60 := (HR6.out).free 0
      have frR61 := (HR6.out).free 1
      go_wp2
      generalize hW : World.setCell _ _ _ = wf
      have ha1 : Touch (fun i => i = w2.heap.size ∨ i = w.heap.size) w6 wf := by rw [← hW]; exact Touch.far (K := fun i => i = w2.heap.size ∨ i = w.heap.size) (Touch.far (K := fun i => i = w2.heap.size ∨ i = w.heap.size) (Touch.far (K := fun i => i = w2.heap.size ∨ i = w.heap.size) (Touch.refl _ _) (p := ⟨w2.heap.size, 1, none⟩) (.inl rfl) _) (p := ⟨w.heap.size, 0, none⟩) (.inr rfl) _) (p := ⟨w.heap.size, 1, none⟩) (.inr rfl) _
      have hrb : Blk wf (w.heap.size) 30 (DenyR.cells (⟨u.ver, As, cs, ys⟩ : DenyR)) := by rw [← hW]; exact ((Blk.far HR6.out (p := ⟨w2.heap.size, 1, none⟩) (show w.heap.size ≠ w2.heap.size by omega) _).put 0 _).put 1 _
      obtain ⟨z0, z1⟩ := denyCells (t := 30) (v := (⟨u.ver, As, cs, ys⟩ : DenyR)) hrb
      have hrf : Reads wf wf.heap.size As (ys.flatMap intCells) := fun hne => by
            obtain ⟨a0, e0, hb0, hc0⟩ := Hxs.out hne
            have h0 := HAb.out a0 e0
            refine ⟨a0, e0, Nat.lt_of_lt_of_le hb0 ha1.size, fun i t ht => ?_⟩
            rw [World.cell?_of_block (ha1.block _ (by rw [add_block]; exact hb0) (by rw [add_block]; intro h; rcases h with h | h <;> omega))]
            exact hc0 i t ht
      have hin : DenyIn wf wf.heap.size (⟨u.ver, As, cs, ys⟩ : DenyR) := ⟨hrf, hnc, hcm, HAn.out⟩
      exact bodyPost_ret (v := denyV (⟨u.ver, As, cs, ys⟩ : DenyR)) (by simp [results, Try.results59, go_sem, denyV, z0, z1]) rfl ⟨(⟨u.ver, As, cs, ys⟩ : DenyR), q2, rfl, hin, (fun a ha => by have := HAb.out a ha; omega), show ys.length ≤ 14 by omega, Hyb.out, show -1 ≤ u.ver by omega, show u.ver ≤ 1000 by omega, by omega, Rd.touch Hrd6.out ha1 (fun i hi => by rcases hi with hi | hi <;> omega), grown_touch HG6.out ha1 (fun i hi => by rcases hi with hi | hi <;> omega)⟩
    · have hk1' : (k == 1) = false := by simpa using hk1
      obtain ⟨cD4_0, cD4_1⟩ := denyCells (t := 30) (v := u) HD4.out
      obtain ⟨cR4_0, cR4_1⟩ := denyCells (t := 30) (v := (⟨0, none, 0, []⟩ : DenyR)) HR4.out
      have frR40 := (HR4.out).free 0
      have frR41 := (HR4.out).free 1
      go_wp2
      generalize hW : World.setCell _ _ _ = w5
      have ht5 : Touch (fun i => i = w.heap.size) w4 w5 := by rw [← hW]; exact (Touch.far (K := fun i => i = w.heap.size) (Touch.far (K := fun i => i = w.heap.size) (Touch.refl _ _) (p := ⟨w.heap.size, 0, none⟩) rfl _) (p := ⟨w.heap.size, 1, none⟩) rfl _)
      have hbx5 : Blk w5 (w.heap.size) 30 (DenyR.cells u) := by rw [← hW]; exact (Blk.put (Blk.put HR4.out 0 (.int .i64 u.ver)) 1 (.slice (u).cardsA (u).cards.length (u).cardsc))
      clear hW
      clear cD4_0 cD4_1 cR4_0 cR4_1 frR40 frR41
      have hz5 : w4.heap.size ≤ w5.heap.size := by have := ht5.size; (try simp at this); omega
      have HG5 := Lib.hid (grown_touch HG4.out ht5 (fun i hi => by omega))
      clear HG4
      have Hrd5 := Lib.hid (Rd.touch Hrd4.out ht5 (fun i hi => by omega))
      clear Hrd4
      have HU5 := Lib.hid (DenyOwn.touch HU4.out ht5 (fun i hi e0 => by have a1 := LTU.out _ hi; have a2 := UPU.out _ hi; omega))
      clear HU4
      have HD5 := Lib.hid (Blk.touch HD4.out ht5 (show ¬ (w2.heap.size = w.heap.size) by omega))
      clear HD4
      clear ht5 HR4
      have Hbx5 := Lib.hid hbx5; clear hbx5
      obtain ⟨z0, z1⟩ := denyCells (t := 30) (v := u) Hbx5.out
      exact bodyPost_ret (v := denyV u) (by simp [results, Try.results59, go_sem, denyV, z0, z1]) rfl ⟨u, q + 1, rfl, DenyOwn.in_ HU5.out, (fun a ha => by have a1 := LTU.out a.block (show Value.ownBlock _ = _ by rw [ha]; rfl); omega), show u.cards.length ≤ 14 by omega, (fun x hx => by have := Hxb.out x hx; omega), show -1 ≤ u.ver by omega, show u.ver ≤ 1000 by omega, by omega, Hrd5.out, HG5.out⟩
end Go.Proofs.Ytpijjlggmibfnaa
