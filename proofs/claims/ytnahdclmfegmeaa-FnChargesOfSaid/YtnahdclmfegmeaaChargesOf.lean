/-
  The charges of journeys: the program's function and its model.
-/
import Derived.Test.YtnahdclmfegmeaaChargesFn
import Derived.StillTactics
namespace Go.Proofs.Ytnahdclmfegmeaa
open Go.RowKit Go.Deep
set_option linter.unusedVariables false

theorem info_chargeX : (Try.prog.info? 59).map (fun i => (i.zero, i.size, i.bytes)) = some (some (.agg #[.int .i64 0, .int .i64 0]), 2, 16) := by kernel_rfl
def HandsCharges (xs : List Fares.Journey) (am : List Int) (w : World) (e : Ending) (w' : World) : Prop :=
  ∃ v, e = .returned (.tuple #[v, .bool (Fares.chargesOf xs am).2]) ∧ OwnCharges w' w.heap.size v (Fares.chargesOf xs am).1 ∧ Below w.heap.size w w'

set_option maxRecDepth 100000 in
set_option maxHeartbeats 2000000 in
theorem specChargesOf_any (A B : Option Addr) (n c m d : Nat) (xs : List Fares.Journey) (am : List Int) (w : World) (hx : Journeys w w.heap.size A xs) (hi : Ints w w.heap.size B am) (hn : xs.length = n) (hm : am.length = m) (hl : n ≤ 1000000000) (hl2 : m ≤ 1000000000) :
    Calls Try.prog 59 #[.slice A n c, .slice B m d] w (HandsCharges xs am w) := by
  subst hn
  subst hm
  have HE : Hid (Fares.chargesOf xs am = if Fares.validJourneys xs && decide (am.length = xs.length) && Fares.amountsOk am then (Fares.chargeList xs am, true) else ([], false)) := rfl
  have HX0 := Lib.hid (Reads.more (Reads.alloc hx (Nat.le_refl _) (.cells #[] 59)) (B' := (w.alloc (.cells #[] 59)).heap.size) (by simp))
  have HI0 := Lib.hid (Reads.more (Reads.alloc hi (Nat.le_refl _) (.cells #[] 59)) (B' := (w.alloc (.cells #[] 59)).heap.size) (by simp))
  by_cases hv : Fares.validJourneys xs = true
  · have hlen := Fares.length_of_valid hv
    have Hok : Hid (∀ {k : Nat} {j : Fares.Journey}, xs[k]? = some j → 0 ≤ j.x ∧ j.x ≤ 40319 ∧ 0 ≤ j.y ∧ j.y ≤ 40319) := fun h => by
      have := Fares.validJourney_of hv h
      unfold Fares.validJourney at this
      rw [decide_eq_true_eq] at this
      omega
    by_cases he : am.length = xs.length
    · have l1 : ((am.length : Int) != (xs.length : Int)) = false := by simp; omega
      by_cases ha : Fares.amountsOk am = true
      · have HE2 := Lib.hid (show Fares.chargesOf xs am = (Fares.chargeList xs am, true) by rw [HE.out, hv, ha, decide_eq_true he]; rfl)
        have HA : Hid (∀ {k : Nat} {a : Int}, am[k]? = some a → 0 ≤ a ∧ a ≤ 4000) := fun h => Fares.amountsOk_of ha h
        have Hlen := Lib.hid he; clear he
        have hlen2 : am.length ≤ 24 := by have := Hlen.out; omega
        obtain ⟨ti, hi0, hz0, hz1, hz2⟩ := info_parts info_chargeX
        have HI := Lib.hid hi0; clear hi0
        have HZ0 := Lib.hid hz0; clear hz0
        have HZ1 := Lib.hid hz1; clear hz1
        have HZ2 := Lib.hid hz2; clear hz2
        go_enter Try.func59, Try.ntmps59
        go_wp2_with fail
        refine (specvalidJourneys_any A _ c xs _ HX0.out rfl hl).mono ?_
        rintro e w1 ⟨rfl, hb1⟩
        have hc1 : Below w.heap.size w w1 := bT (bA (Below.refl _ _) _) hb1
        have HX1 := Lib.hid (Reads.more (Reads.below HX0.out hb1 (Nat.le_refl _)) hb1.size)
        have HI1 := Lib.hid (Reads.more (Reads.below HI0.out hb1 (Nat.le_refl _)) hb1.size)
        rw [hv]
        go_wp2_with (go_at_call 105; refine (specallIn_any B _ d am _ HI1.out rfl (by omega)).mono ?_; rintro e w' ⟨rfl, rfl⟩; rw [ha])
        clear l1
        go_loopw [7, 6] (fun i v wr => ∃ k : Nat, k ≤ xs.length ∧ i = .int .i64 k ∧ OwnCharges wr w.heap.size v (Fares.chargeList (xs.take k) (am.take k)) ∧ Below w.heap.size w wr) (fun i _ _ => xs.length - (intOf i).toNat)
        case atStart => exact ⟨0, Nat.zero_le _, rfl, (by
          have h := World.ownsRow_lit (base := w.heap.size) (e := 59) (size := 2) w #[] 0 (Nat.le_refl _) (by unfold maxLen; omega) rfl
          exact show OwnCharges _ w.heap.size _ [] from own_below h hb1), hc1⟩
        case round =>
          obtain ⟨k, hk, rfl, hown, hb⟩ := hrel
          have Hown := Lib.hid hown; clear hown
          have hsz := hb.size
          by_cases hlt : k < xs.length
          · obtain ⟨x, hxk⟩ : ∃ x, xs[k]? = some x := ⟨_, List.getElem?_eq_getElem hlt⟩
            obtain ⟨a, hak⟩ : ∃ a, am[k]? = some a := ⟨_, List.getElem?_eq_getElem (by have := Hlen.out; omega)⟩
            obtain ⟨x0, x1, _, _⟩ := Hok.out hxk
            obtain ⟨b1, o1, rfl, hbb, hr1⟩ := hx.row (by omega)
            obtain ⟨b2, o2, rfl, hbb2, hr2⟩ := hi.row (by have := Hlen.out; omega)
            obtain ⟨p0, p1, p2, p3, p4⟩ := (hr1 k x hxk).below hb hbb
            have q0 := (hb.cell (p := ⟨b2, o2 + k, none⟩) hbb2).trans (hr2 k a hak)
            have Hnx := Lib.hid (Fares.chargeList_next hxk hak)
            have hcl := Fares.chargeList_length (xs.take k) (am.take k)
            have hcl2 : (Fares.chargeList (xs.take k) (am.take k)).length ≤ 24 := by rw [hcl, List.length_take, List.length_take]; omega
            have Hxk := Lib.hid hxk
            have Hak := Lib.hid hak
            have Hr1 := Lib.hid hr1
            have Hr2 := Lib.hid hr2
            clear hcl hxk hak hr1 hr2 hx hi
            have i0 : (0 : Int) ≤ (k : Int) := by omega
            have i1 : (k : Int) < (xs.length : Int) := by omega
            have i2 : (k : Int) < (am.length : Int) := by have := Hlen.out; omega
            go_wp2
            refine wp_region_held_drew (S := fun w' => w'.cell? ⟨b1, o1 + k * 5 + 2, none⟩ = some (.int .i64 x.x) ∧ w'.cell? ⟨b2, o2 + k, none⟩ = some (.int .i64 a)) (by kernel_rfl) (by exact ⟨p2, q0⟩) (fun hS => ?_)
            refine take_at 0 30 (v := ?_) rfl rfl (by kernel_rfl) (by kernel_rfl) (by kernel_rfl) (fun _ _ _ h => h) (by rfl) ?_ hS ?_
            rotate_left 1
            · (intro w hSw; (try dsimp only at hSw); (try go_split_ands); go_simp; try with_reducible rfl)
            simp only [List.setIfInBounds_toArray, List.set_cons_zero, List.set_cons_succ]
            refine take_at 1 31 (v := ?_) rfl rfl (by kernel_rfl) (by kernel_rfl) (by kernel_rfl) (fun _ _ _ h => h) (by rfl) ?_ hS ?_
            rotate_left 1
            · (intro w hSw; (try dsimp only at hSw); (try go_split_ands); go_simp; try with_reducible rfl)
            simp only [List.setIfInBounds_toArray, List.set_cons_zero, List.set_cons_succ]
            refine take_at 2 32 (v := ?_) rfl rfl (by kernel_rfl) (by kernel_rfl) (by kernel_rfl) (fun _ _ _ h => h) (by rfl) ?_ hS ?_
            rotate_left 1
            · (intro w hSw; (try dsimp only at hSw); (try go_split_ands); go_simp; try with_reducible rfl)
            simp only [List.setIfInBounds_toArray, List.set_cons_zero, List.set_cons_succ]
            refine take_at 3 33 (v := ?_) rfl rfl (by kernel_rfl) (by kernel_rfl) (by kernel_rfl) (fun _ _ _ h => h) (by rfl) ?_ hS ?_
            rotate_left 1
            · (intro w hSw; (try dsimp only at hSw); (try go_split_ands); go_simp; try with_reducible rfl)
            simp only [List.setIfInBounds_toArray, List.set_cons_zero, List.set_cons_succ]
            refine take_at 4 34 (v := ?_) rfl rfl (by kernel_rfl) (by kernel_rfl) (by kernel_rfl) (fun _ _ _ h => h) (by rfl) ?_ hS ?_
            rotate_left 1
            · (intro w hSw; (try dsimp only at hSw); (try go_split_ands); go_simp; try with_reducible rfl)
            simp only [List.setIfInBounds_toArray, List.set_cons_zero, List.set_cons_succ]
            refine take_at 5 35 (v := ?_) rfl rfl (by kernel_rfl) (by kernel_rfl) (by kernel_rfl) (fun _ _ _ h => h) (by rfl) ?_ hS ?_
            rotate_left 1
            · (intro w hSw; (try dsimp only at hSw); (try go_split_ands); go_simp; try with_reducible rfl)
            simp only [List.setIfInBounds_toArray, List.set_cons_zero, List.set_cons_succ]
            refine take_at 7 37 (v := ?_) rfl rfl (by kernel_rfl) (by kernel_rfl) (by kernel_rfl) (fun _ _ _ h => h) (by rfl) ?_ hS ?_
            rotate_left 1
            · (intro w hSw; (try dsimp only at hSw); (try go_split_ands); go_simp; try with_reducible rfl)
            simp only [List.setIfInBounds_toArray, List.set_cons_zero, List.set_cons_succ]
            refine take_at 8 38 (v := ?_) rfl rfl (by kernel_rfl) (by kernel_rfl) (by kernel_rfl) (fun _ _ _ h => h) (by rfl) ?_ hS ?_
            rotate_left 1
            · (intro w hSw; (try dsimp only at hSw); (try go_split_ands); go_simp; try with_reducible rfl)
            simp only [List.setIfInBounds_toArray, List.set_cons_zero, List.set_cons_succ]
            refine take_at 9 39 (v := ?_) rfl rfl (by kernel_rfl) (by kernel_rfl) (by kernel_rfl) (fun _ _ _ h => h) (by rfl) ?_ hS ?_
            rotate_left 1
            · (intro w hSw; (try dsimp only at hSw); (try go_split_ands); go_simp; try with_reducible rfl)
            simp only [List.setIfInBounds_toArray, List.set_cons_zero, List.set_cons_succ]
            refine take_at 10 40 (v := ?_) rfl rfl (by kernel_rfl) (by kernel_rfl) (by kernel_rfl) (fun _ _ _ h => h) (by rfl) ?_ hS ?_
            rotate_left 1
            · (intro w hSw; (try dsimp only at hSw); (try go_split_ands); go_simp; try with_reducible rfl)
            simp only [List.setIfInBounds_toArray, List.set_cons_zero, List.set_cons_succ]
            refine wpAnyH_ready (rs := [6]) (by kernel_rfl) (by simp) ?_
            refine AllReadyH.cons rfl (fun K hK => ?_) AllReadyH.nil
            go_simp
            go_wp2_with fail
            refine (specdayOf_any x.x _ x0 x1).mono ?_
            rintro e w' ⟨rfl, rfl⟩
            go_simp
            refine hK.out _ _ (by assumption) (fun hS => ?_)
            clear hK K
            refine take_at 11 41 (v := ?_) rfl rfl (by kernel_rfl) (by kernel_rfl) (by kernel_rfl) (fun _ _ _ h => h) (by rfl) ?_ hS ?_
            rotate_left 1
            · (intro w hSw; (try dsimp only at hSw); (try go_split_ands); go_simp; try with_reducible rfl)
            simp only [List.setIfInBounds_toArray, List.set_cons_zero, List.set_cons_succ]
            refine wpAnyH_ready (rs := [12]) (by kernel_rfl) (by simp) ?_
            refine AllReadyH.cons rfl (fun K hK => ?_) AllReadyH.nil
            go_simp
            refine hK.out _ _ (by exact ⟨((bA (bD1 (Below.refl wr.heap.size wr)) _).cell (show b1 < wr.heap.size by omega)).trans p2, ((bA (bD1 (Below.refl wr.heap.size wr)) _).cell (show b2 < wr.heap.size by omega)).trans q0⟩) (fun hS => ?_)
            clear hK K
            refine wpAnyH_ready (rs := [13]) (by kernel_rfl) (by simp) ?_
            refine AllReadyH.cons rfl (fun K hK => ?_) AllReadyH.nil
            refine step_append_lies _ rfl (.tmp 30) (.tmp 42) _ rfl w.heap.size 59 ti _ 2 16 Try.underlying54 HI.out HZ0.out HZ1.out HZ2.out rfl (by omega) _ _ _ rfl (World.ownsRow.alloc (w := wr.drew) Hown.out _) ⟨wr.heap.size, 0, none⟩ 1 1 (chargeCells ⟨(x.x + 1200) / 1440, a⟩) rfl rfl ?c1 ?c2 (by omega) ?c3 ?c4 ?c5 _ rfl ?_
            case c1 => exact World.news_of_block (heap_alloc_new wr.drew (.cells #[.int .i64 ((x.x + 1200) / 1440), .int .i64 a] 59))
            case c2 => simp [chargeCells, Value.oneCell']
            case c3 => unfold maxLen; omega
            case c4 => omega
            case c5 => simp; omega
            intro g cap w2 hown2 hgrow hat hlt2
            have hb4 : Below w.heap.size w w2 := Below.grown (bA (bD1 hb) _) hgrow (by simp; omega) (fun r hr => (World.ownsRow.lt Hown.out r hr).1)
            have hcl1 : w2.cell? ⟨b1, o1 + k * 5 + 2, none⟩ = some (.int .i64 x.x) := (hb4.cell (p := ⟨b1, _, none⟩) hbb).trans ((Hr1.out k x Hxk.out).2.2.1)
            have hcl2 : w2.cell? ⟨b2, o2 + k, none⟩ = some (.int .i64 a) := (hb4.cell (p := ⟨b2, _, none⟩) hbb2).trans (Hr2.out k a Hak.out)
            have Hown2 := Lib.hid (OwnCharges.snoc hown2); clear hown2 hgrow hat
            go_simp
            refine hK.out _ _ (by exact ⟨hcl1, hcl2⟩) (fun hS => ?_)
            clear hK K hcl1 hcl2
            refine take_at 14 6 (v := ?_) rfl rfl (by kernel_rfl) (by kernel_rfl) (by kernel_rfl) (fun _ _ _ h => h) (by rfl) ?_ hS ?_
            rotate_left 1
            · (intro w hSw; (try dsimp only at hSw); (try go_split_ands); go_simp; try with_reducible rfl)
            simp only [List.setIfInBounds_toArray, List.set_cons_zero, List.set_cons_succ]
            refine wpAnyH_done (by kernel_rfl) ?_ _
            go_wp2
            go_roundw
            case rel => exact ⟨k + 1, by omega, by go_num, by rw [Hnx.out]; exact Hown2.out, hb4⟩
            case measure => simp [intOf]; omega
          · have Hfin := Lib.hid (show xs.take k = xs ∧ am.take k = am from ⟨List.take_of_length_le (by omega), List.take_of_length_le (by have := Hlen.out; omega)⟩)
            go_wp2
            go_ret2
            exact ⟨_, by rw [HE2.out]; rfl, by rw [HE2.out]; have := Hown.out; rw [Hfin.out.1, Hfin.out.2] at this; exact this, hb⟩
      · have ha' : Fares.amountsOk am = false := by simpa using ha
        clear ha
        have HE2 := Lib.hid (show Fares.chargesOf xs am = ([], false) by rw [HE.out, hv, ha', decide_eq_true he]; rfl)
        have Hlen := Lib.hid he; clear he
        go_enter Try.func59, Try.ntmps59
        go_wp2_with fail
        refine (specvalidJourneys_any A _ c xs _ HX0.out rfl hl).mono ?_
        rintro e w1 ⟨rfl, hb1⟩
        have hc1 : Below w.heap.size w w1 := bT (bA (Below.refl _ _) _) hb1
        have HX1 := Lib.hid (Reads.more (Reads.below HX0.out hb1 (Nat.le_refl _)) hb1.size)
        have HI1 := Lib.hid (Reads.more (Reads.below HI0.out hb1 (Nat.le_refl _)) hb1.size)
        rw [hv]
        go_wp2_with (go_at_call 105; refine (specallIn_any B _ d am _ HI1.out rfl (by omega)).mono ?_; rintro e w' ⟨rfl, rfl⟩; rw [ha'])
        go_ret2
        exact ⟨_, by rw [HE2.out]; rfl, by rw [HE2.out]; exact OwnCharges.none_ _ _, hc1⟩
    · have l1 : ((am.length : Int) != (xs.length : Int)) = true := by simp; omega
      have HE2 := Lib.hid (show Fares.chargesOf xs am = ([], false) by rw [HE.out, hv, decide_eq_false he]; rfl)
      have Hlen := Lib.hid he; clear he
      go_enter Try.func59, Try.ntmps59
      go_wp2_with fail
      refine (specvalidJourneys_any A _ c xs _ HX0.out rfl hl).mono ?_
      rintro e w1 ⟨rfl, hb1⟩
      have hc1 : Below w.heap.size w w1 := bT (bA (Below.refl _ _) _) hb1
      have HX1 := Lib.hid (Reads.more (Reads.below HX0.out hb1 (Nat.le_refl _)) hb1.size)
      have HI1 := Lib.hid (Reads.more (Reads.below HI0.out hb1 (Nat.le_refl _)) hb1.size)
      rw [hv]
      go_wp2
      go_ret2
      exact ⟨_, by rw [HE2.out]; rfl, by rw [HE2.out]; exact OwnCharges.none_ _ _, hc1⟩
  · have hv' : Fares.validJourneys xs = false := by simpa using hv
    have HE2 := Lib.hid (show Fares.chargesOf xs am = ([], false) by rw [HE.out, hv']; rfl)
    clear hv
    go_enter Try.func59, Try.ntmps59
    go_wp2_with fail
    refine (specvalidJourneys_any A _ c xs _ HX0.out rfl hl).mono ?_
    rintro e w1 ⟨rfl, hb1⟩
    have hc1 : Below w.heap.size w w1 := bT (bA (Below.refl _ _) _) hb1
    have HX1 := Lib.hid (Reads.more (Reads.below HX0.out hb1 (Nat.le_refl _)) hb1.size)
    have HI1 := Lib.hid (Reads.more (Reads.below HI0.out hb1 (Nat.le_refl _)) hb1.size)
    rw [hv']
    go_wp2
    go_ret2
    exact ⟨_, by rw [HE2.out]; rfl, by rw [HE2.out]; exact OwnCharges.none_ _ _, hc1⟩

set_option maxRecDepth 100000 in
set_option maxHeartbeats 2000000 in
theorem implChargesOf_any (A B : Option Addr) (n c m d : Nat) (xs : List Fares.Journey) (am : List Int) (w : World) (hx : Journeys w w.heap.size A xs) (hi : Ints w w.heap.size B am) (hn : xs.length = n) (hm : am.length = m) (hl : n ≤ 1000000000) (hl2 : m ≤ 1000000000) :
    Calls Try.prog 58 #[.slice A n c, .slice B m d] w (HandsCharges xs am w) := by
  subst hn
  subst hm
  have HE : Hid (Fares.chargesOf xs am = if Fares.validJourneys xs && decide (am.length = xs.length) && Fares.amountsOk am then (Fares.chargeList xs am, true) else ([], false)) := rfl
  have HX0 := Lib.hid hx
  have HI0 := Lib.hid hi
  by_cases hv : Fares.validJourneys xs = true
  · have hlen := Fares.length_of_valid hv
    have Hok : Hid (∀ {k : Nat} {j : Fares.Journey}, xs[k]? = some j → 0 ≤ j.x ∧ j.x ≤ 40319 ∧ 0 ≤ j.y ∧ j.y ≤ 40319) := fun h => by
      have := Fares.validJourney_of hv h
      unfold Fares.validJourney at this
      rw [decide_eq_true_eq] at this
      omega
    by_cases he : am.length = xs.length
    · have l1 : ((am.length : Int) != (xs.length : Int)) = false := by simp; omega
      by_cases ha : Fares.amountsOk am = true
      · have HE2 := Lib.hid (show Fares.chargesOf xs am = (Fares.chargeList xs am, true) by rw [HE.out, hv, ha, decide_eq_true he]; rfl)
        have HA : Hid (∀ {k : Nat} {a : Int}, am[k]? = some a → 0 ≤ a ∧ a ≤ 4000) := fun h => Fares.amountsOk_of ha h
        have Hlen := Lib.hid he; clear he
        have hlen2 : am.length ≤ 24 := by have := Hlen.out; omega
        obtain ⟨Z, hZ, hmk⟩ := run_make_n (P := Try.prog) 54 59 _ 2 16 Try.underlying54 info_chargeX xs.length (by omega) (by omega)
        have HZ := Lib.hid hZ; clear hZ
        go_enter Try.func58, Try.ntmps58
        go_wp2_with fail
        refine (implValidJourneys_any A _ c xs _ HX0.out rfl (by omega)).mono ?_
        rintro e w1 ⟨rfl, hb1⟩
        have hc1 : Below w.heap.size w w1 := hb1
        have HX1 := Lib.hid (Reads.more (Reads.below HX0.out hb1 (Nat.le_refl _)) hb1.size)
        have HI1 := Lib.hid (Reads.more (Reads.below HI0.out hb1 (Nat.le_refl _)) hb1.size)
        rw [hv]
        go_wp2_with (go_at_call 104; refine (implallWithin_any B _ d am _ HI1.out rfl (by omega)).mono ?_; rintro e w' ⟨rfl, rfl⟩; rw [ha])
        clear l1 hmk
        have hs1 := hc1.size
        go_loopw [29] (fun i wr => ∃ k : Nat, k ≤ xs.length ∧ i = .int .i64 k ∧ Starts wr w1.heap.size 59 (xs.length * 2) (((Fares.chargeList xs am).take k).flatMap chargeCells) ∧ Below w.heap.size w wr) (fun i _ => xs.length - (intOf i).toNat)
        case atStart => exact ⟨0, Nat.zero_le _, rfl, ⟨Z, Blk.new w1 _ _, HZ.out, by simp⟩, bA hc1 _⟩
        case round =>
          obtain ⟨k, hk, rfl, hst, hb⟩ := hrel
          have hsz := hb.size
          have hz1 := hst.lt
          by_cases hlt : k < xs.length
          · obtain ⟨x, hxk⟩ : ∃ x, xs[k]? = some x := ⟨_, List.getElem?_eq_getElem hlt⟩
            obtain ⟨a, hak⟩ : ∃ a, am[k]? = some a := ⟨_, List.getElem?_eq_getElem (by have := Hlen.out; omega)⟩
            obtain ⟨x0, x1, _, _⟩ := Hok.out hxk
            obtain ⟨b1, o1, rfl, hbb, hr1⟩ := hx.row (by omega)
            obtain ⟨b2, o2, rfl, hbb2, hr2⟩ := hi.row (by have := Hlen.out; omega)
            obtain ⟨p0, p1, p2, p3, p4⟩ := (hr1 k x hxk).below hb hbb
            have q0 := ((bA hb (.cells #[.int .i64 x.a, .int .i64 x.b, .int .i64 x.x, .int .i64 x.y, .bool x.f] 45)).cell (p := ⟨b2, o2 + k, none⟩) hbb2).trans (hr2 k a hak)
            obtain ⟨_, s0, s1, s2, s3, s4⟩ := JourneyBox.new wr x 45
            have hck : (Fares.chargeList xs am)[k]? = some ⟨(x.x + 1200) / 1440, a⟩ := by
              have h1 := Fares.chargeList_next hxk hak
              have h2 := Fares.chargeList_length (xs.take k) (am.take k)
              rw [List.length_take, List.length_take] at h2
              have h4 : ∀ (n : Nat) (us : List Fares.Journey) (bs : List Int), Fares.chargeList (us.take n) (bs.take n) = (Fares.chargeList us bs).take n := by
                intro n
                induction n with
                | zero => intro us bs; simp [Fares.chargeList]
                | succ n ih =>
                  intro us bs
                  cases us with
                  | nil => simp [Fares.chargeList]
                  | cons u us =>
                    cases bs with
                    | nil => simp [Fares.chargeList]
                    | cons b bs => simp only [List.take_succ_cons, Fares.chargeList, ih]
              rw [h4, h4] at h1
              have h5 : ((Fares.chargeList xs am).take (k + 1))[k]? = (Fares.chargeList xs am)[k]? := by rw [List.getElem?_take, if_pos (by omega)]
              rw [h4] at h2
              rw [← h5, h1, List.getElem?_append_right (by omega)]
              have h6 : k - ((Fares.chargeList xs am).take k).length = 0 := by have := Hlen.out; omega
              rw [h6]
              rfl
            have Hck := Lib.hid hck; clear hck
            have hsta := hst.below (bA (Below.refl wr.heap.size wr) (.cells #[.int .i64 x.a, .int .i64 x.b, .int .i64 x.x, .int .i64 x.y, .bool x.f] 45)) hz1
            have hba := bA hb (.cells #[.int .i64 x.a, .int .i64 x.b, .int .i64 x.x, .int .i64 x.y, .bool x.f] 45)
            obtain ⟨u0, t0⟩ := hsta.there (i := k * 2) (by omega)
            obtain ⟨u1, t1⟩ := hsta.there (i := k * 2 + 1) (by omega)
            have e0 := hsta.free (k * 2)
            have e1 := hsta.free (k * 2 + 1)
            have Hsta := Lib.hid hsta; clear hsta hst hb
            clear hxk hak hr1 hr2 hx hi
            have i0 : (0 : Int) ≤ (k : Int) := by omega
            have i1 : (k : Int) < (xs.length : Int) := by omega
            have i2 : (k : Int) < (am.length : Int) := by have := Hlen.out; omega
            go_wp2
            generalize wr.alloc (.cells #[.int .i64 x.a, .int .i64 x.b, .int .i64 x.x, .int .i64 x.y, .bool x.f] 45) = wa at q0 s0 s1 s2 s3 s4 t0 t1 e0 e1 Hsta hba ⊢
            go_still_tail 11, (by kernel_rfl)
            still_call (back (serviceDay_in x.x _ x0 x1))
            repeat still_step
            refine wpStill_nil ?_
            change wpList _ _ _ _ _ _
            go_wp2
            go_roundw
            case rel => exact ⟨k + 1, by omega, by go_num, (show Starts (wa.drew.setCells w1.heap.size (k * 2) (chargeCells ⟨(x.x + 1200) / 1440, a⟩)) w1.heap.size 59 (xs.length * 2) (((Fares.chargeList xs am).take (k + 1)).flatMap chargeCells) from Starts.next (w := wa.drew) chargeCells 2 (fun _ => rfl) Hsta.out Hck.out (by omega)), below_setCells hs1 (chargeCells ⟨(x.x + 1200) / 1440, a⟩) wa.drew (k * 2) (bD1 hba)⟩
            case measure => simp [intOf]; omega
          · have hcl := Fares.chargeList_length xs am
            have hcl2 : (Fares.chargeList xs am).length = xs.length := by have := Hlen.out; omega
            rw [List.take_of_length_le (by omega)] at hst
            have hown := own_of_starts (base := w.heap.size) hst (by rw [length_flat chargeCells 2 (fun _ => rfl), hcl2]) (Nat.le_refl _) (by unfold maxLen; omega) hs1
            rw [← hcl2] at hown
            have Hown := Lib.hid hown; clear hown hst
            go_wp2
            go_ret2
            exact ⟨_, by rw [HE2.out]; rfl, by rw [HE2.out]; have := Hown.out; rw [hcl2] at this; unfold OwnCharges; dsimp only; rw [hcl2]; exact this, hb⟩
      · have ha' : Fares.amountsOk am = false := by simpa using ha
        clear ha
        have HE2 := Lib.hid (show Fares.chargesOf xs am = ([], false) by rw [HE.out, hv, ha', decide_eq_true he]; rfl)
        have Hlen := Lib.hid he; clear he
        go_enter Try.func58, Try.ntmps58
        go_wp2_with fail
        refine (implValidJourneys_any A _ c xs _ HX0.out rfl (by omega)).mono ?_
        rintro e w1 ⟨rfl, hb1⟩
        have hc1 : Below w.heap.size w w1 := hb1
        have HX1 := Lib.hid (Reads.more (Reads.below HX0.out hb1 (Nat.le_refl _)) hb1.size)
        have HI1 := Lib.hid (Reads.more (Reads.below HI0.out hb1 (Nat.le_refl _)) hb1.size)
        rw [hv]
        go_wp2_with (go_at_call 104; refine (implallWithin_any B _ d am _ HI1.out rfl (by omega)).mono ?_; rintro e w' ⟨rfl, rfl⟩; rw [ha'])
        go_ret2
        exact ⟨_, by rw [HE2.out]; rfl, by rw [HE2.out]; exact OwnCharges.none_ _ _, hc1⟩
    · have l1 : ((am.length : Int) != (xs.length : Int)) = true := by simp; omega
      have HE2 := Lib.hid (show Fares.chargesOf xs am = ([], false) by rw [HE.out, hv, decide_eq_false he]; rfl)
      have Hlen := Lib.hid he; clear he
      go_enter Try.func58, Try.ntmps58
      go_wp2_with fail
      refine (implValidJourneys_any A _ c xs _ HX0.out rfl (by omega)).mono ?_
      rintro e w1 ⟨rfl, hb1⟩
      have hc1 : Below w.heap.size w w1 := hb1
      have HX1 := Lib.hid (Reads.more (Reads.below HX0.out hb1 (Nat.le_refl _)) hb1.size)
      have HI1 := Lib.hid (Reads.more (Reads.below HI0.out hb1 (Nat.le_refl _)) hb1.size)
      rw [hv]
      go_wp2
      go_ret2
      exact ⟨_, by rw [HE2.out]; rfl, by rw [HE2.out]; exact OwnCharges.none_ _ _, hc1⟩
  · have hv' : Fares.validJourneys xs = false := by simpa using hv
    have HE2 := Lib.hid (show Fares.chargesOf xs am = ([], false) by rw [HE.out, hv']; rfl)
    clear hv
    go_enter Try.func58, Try.ntmps58
    go_wp2_with fail
    refine (implValidJourneys_any A _ c xs _ HX0.out rfl (by omega)).mono ?_
    rintro e w1 ⟨rfl, hb1⟩
    have hc1 : Below w.heap.size w w1 := hb1
    have HX1 := Lib.hid (Reads.more (Reads.below HX0.out hb1 (Nat.le_refl _)) hb1.size)
    have HI1 := Lib.hid (Reads.more (Reads.below HI0.out hb1 (Nat.le_refl _)) hb1.size)
    rw [hv']
    go_wp2
    go_ret2
    exact ⟨_, by rw [HE2.out]; rfl, by rw [HE2.out]; exact OwnCharges.none_ _ _, hc1⟩
end Go.Proofs.Ytnahdclmfegmeaa
