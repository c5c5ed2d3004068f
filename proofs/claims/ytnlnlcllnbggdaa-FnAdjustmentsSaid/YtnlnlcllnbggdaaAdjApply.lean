/-
  Chapter 19: adjustments laid on amounts: the program's function and its model.
-/
import Derived.Test.YtnlnlcllnbggdaaAdjFn
import Derived.Test.YtnlnlcllnbggdaaPutInt
import Derived.StillTactics
set_option linter.unusedSimpArgs false
namespace Go.Proofs.Ytnlnlcllnbggdaa
open Go.RowKit Go.Deep
set_option linter.unusedVariables false

theorem Fares.applyOne_eq {xs : List Int} {c : Fares.Adjust} {dn : Nat} (h : c.d = dn) : Fares.applyOne xs c = xs.set dn (Fares.nth xs dn + c.a) := by
  unfold Fares.applyOne
  rw [h]
  rfl
def AppliesAdjust (xs : List Int) (cs : List Fares.Adjust) (w : World) (e : Ending) (w' : World) : Prop :=
  ∃ v, e = .returned (.tuple #[v, .bool (Fares.applyAdjust xs cs).2]) ∧ OwnInts w' w.heap.size v (Fares.applyAdjust xs cs).1 ∧ Below w.heap.size w w'
set_option maxRecDepth 100000 in
set_option maxHeartbeats 4000000 in
theorem implApplyAdjust_any (A B : Option Addr) (n m c d : Nat) (xs : List Int) (cs : List Fares.Adjust) (w : World) (hx : Ints w w.heap.size A xs) (hy : Adjusts w w.heap.size B cs) (hn : xs.length = n) (hm : cs.length = m) (hl : n ≤ 1000000000) (hl2 : m ≤ 1048576) :
    Calls Try.prog 12 #[.slice A n c, .slice B m d] w (AppliesAdjust xs cs w) := by
  subst hn
  subst hm
  have none_ : ∀ (w' : World), Fares.applyAdjust xs cs = ([], false) → Below w.heap.size w w' → AppliesAdjust xs cs w (.returned (.tuple #[.slice none 0 0, .bool false])) w' := fun w' h hb => by
    unfold AppliesAdjust
    rw [h]
    exact ⟨_, rfl, OwnInts.none_ _ _, hb⟩
  have some_ : ∀ (w' : World) (v : Value), Fares.applyAdjust xs cs = (Fares.applyTo xs cs, true) → OwnInts w' w.heap.size v (Fares.applyTo xs cs) → Below w.heap.size w w' → AppliesAdjust xs cs w (.returned (.tuple #[v, .bool true])) w' := fun w' v h ho hb => by
    unfold AppliesAdjust
    rw [h]
    exact ⟨_, rfl, ho, hb⟩
  by_cases h1 : Fares.dueOk xs = true
  · obtain ⟨h29, hin⟩ := Fares.dueOk_iff.1 h1
    have H29 := Lib.hid h29; clear h29
    have Hin := Lib.hid hin; clear hin
    by_cases h2 : Fares.daysOk cs
    · obtain ⟨ba, oa, rfl, _, _⟩ := hx.row (by have := H29.out; omega)
      have Hd := Lib.hid h2
      have h2' : Fares.ascends (cs.map (·.d)) 28 = true := Fares.ascends_true h2
      clear h2
      go_enter Try.func12, Try.ntmps12
      go_wp2_with fail
      refine (validAmounts_any _ _ c xs _ hx rfl (by omega)).mono ?_
      rw [h1]
      rintro e w' ⟨rfl, rfl⟩
      go_wp2_with fail
      refine (validChanges_any B _ d cs _ hy rfl (by omega)).mono ?_
      rw [h2']
      rintro e w1 ⟨rfl, hb1⟩
      go_wp2_with fail
      refine (cloneInts_any _ _ c xs _ (readsOver hx hb1) rfl (fun e => by cases e) (by have := H29.out; omega)).mono ?_
      rintro e w2 ⟨v, rfl, ho, hb2⟩
      have hc2 := bT hb1 hb2
      have hz1 := hb1.size
      clear hb2 h2'
      obtain ⟨gb, cap, rfl, hcap1, hcap2, hgb⟩ := own_some ho (by have := H29.out; omega)
      unfold maxLen at hcap2
      have Ho := Lib.hid ho; clear ho
      go_wp2
      go_loopw [21] (fun i wr => ∃ k : Nat, k ≤ cs.length ∧ i = .int .i64 k ∧ OwnInts wr w1.heap.size (.slice (some ⟨gb, 0, none⟩) xs.length cap) (Fares.applyTo xs (cs.take k)) ∧ (∀ j c, j < k → cs[j]? = some c → 0 ≤ Fares.nth xs c.d.toNat + c.a ∧ Fares.nth xs c.d.toNat + c.a ≤ 100000) ∧ Below w.heap.size w wr) (fun i _ => cs.length - (intOf i).toNat)
      case atStart => exact ⟨0, Nat.zero_le _, rfl, Ho.out, fun j c hj => by omega, hc2⟩
      case round =>
        obtain ⟨k, hk, rfl, hown, hfit, hb⟩ := hrel
        have Hfit := Lib.hid hfit; clear hfit
        have Hown := Lib.hid hown; clear hown
        have hbs := hb.size
        by_cases hlt : k < cs.length
        · obtain ⟨c, hck⟩ : ∃ c, cs[k]? = some c := ⟨cs[k], List.getElem?_eq_getElem hlt⟩
          obtain ⟨b1, o1, rfl, hb1, hr1⟩ := hy.row (by omega)
          obtain ⟨p0, p1⟩ := (hr1 k c hck).below hb hb1
          have i0 : (0 : Int) ≤ (k : Int) := by omega
          have i1 : (k : Int) < (cs.length : Int) := by omega
          have hdd := Fares.days_in Hd.out hck
          obtain ⟨dn, hdn⟩ : ∃ dn : Nat, c.d = dn := ⟨c.d.toNat, by omega⟩
          have hdn2 : c.d.toNat = dn := by omega
          have hd29 : dn < 29 := by omega
          obtain ⟨x0, hx0⟩ : ∃ x0, Fares.nth xs dn = x0 := ⟨_, rfl⟩
          have x01 := Hin.out dn hd29
          rw [hx0] at x01
          have hbef := Fares.nth_before Hd.out H29.out hck
          rw [hdn2, hx0] at hbef
          have Hcur : Hid ((Fares.applyTo xs (cs.take k))[dn]? = some x0) := Lib.hid (by rw [← hbef]; exact Fares.nth_some (by rw [Fares.applyTo_length]; have := H29.out; omega))
          have Hnx := Lib.hid (show Fares.applyTo xs (cs.take (k + 1)) = (Fares.applyTo xs (cs.take k)).set dn (x0 + c.a) by rw [Fares.applyTo_next hck, Fares.applyOne_eq hdn, hbef])
          have Hno := Lib.hid (fun h => Fares.apply_no_fit (xs := xs) hck (by rw [hdn2, hx0]; exact h))
          have Hck := Lib.hid hck
          have HD2 := Lib.hid (show Fares.nth xs c.d.toNat = x0 by rw [hdn2, hx0])
          obtain ⟨g', cap', ev, hbg, hlg, hle, hmx, hcell, hfree, hthere⟩ := own_at intCells 1 (fun _ => rfl) Hown.out (show 0 < (Fares.applyTo xs (cs.take k)).length by rw [Fares.applyTo_length]; have := H29.out; omega)
          injection ev with ev1 ev2 ev3
          injection ev1 with ev1
          injection ev1 with ev1
          subst ev1
          clear ev2 ev3 hle hmx hthere
          have q0 : wr.cell? ⟨gb, dn, none⟩ = some (.int .i64 x0) := by
            have h9 := hcell dn x0 0 _ Hcur.out rfl
            simpa using h9
          have f0 : wr.frozen? ⟨gb, dn, none⟩ = false := hfree dn
          clear hcell hfree
          obtain ⟨_, s0, s1⟩ := AdjustBox.new wr c 34
          have q0a : (wr.alloc (.cells #[.int .i64 c.d, .int .i64 c.a] 34)).cell? ⟨gb, dn, none⟩ = some (.int .i64 x0) := ((bA (Below.refl wr.heap.size wr) _).cell (p := ⟨gb, dn, none⟩) hlg).trans q0
          have f0a : (wr.alloc (.cells #[.int .i64 c.d, .int .i64 c.a] 34)).frozen? ⟨gb, dn, none⟩ = false := ((bA (Below.refl wr.heap.size wr) _).frozen (p := ⟨gb, dn, none⟩) hlg).trans f0
          have hba := bA hb (.cells #[.int .i64 c.d, .int .i64 c.a] 34)
          have Howna := Lib.hid (show OwnInts (wr.alloc (.cells #[.int .i64 c.d, .int .i64 c.a] 34)) w1.heap.size (.slice (some ⟨gb, 0, none⟩) xs.length cap) (Fares.applyTo xs (cs.take k)) from OwnInts.below Hown.out (bA (Below.refl _ _) _))
          have hwrs : wr.heap.size < (wr.alloc (.cells #[.int .i64 c.d, .int .i64 c.a] 34)).heap.size := by simp
          have Hbx : gb ≠ wr.heap.size := by omega
          have j0 : (0 : Int) ≤ (dn : Int) := by omega
          have j1 : (dn : Int) < (xs.length : Int) := by have := H29.out; omega
          rw [hdn] at p0 s0
          have s0' := s0
          clear hck hr1 hx hy hdn2 hx0 hbef q0 f0 hdd
          have Hdn := Lib.hid hdn
          go_wp2
          generalize hwa : wr.alloc (.cells #[.int .i64 (dn : Int), .int .i64 c.a] 34) = wa
          simp only [hdn, hwa] at q0a f0a hba Howna hwrs s0 s1
          have hgw : gb < wa.heap.size := by omega
          clear hwa hdn s0'
          go_still_tail 6, (by kernel_rfl)
          change wpList _ _ _ _ _ wa.drew
          go_wp2_with fail
          have e1 : (Value.agg #[.int .i64 (dn : Int), .int .i64 c.a]) = adjustV c := by unfold adjustV; rw [Hdn.out]
          rw [e1]
          refine (fits_any c x0 _ x01.1 x01.2).mono ?_
          rintro e w3 ⟨rfl, hb3⟩
          have hb3' : Below wa.heap.size wa w3 := bT (bD1 (Below.refl _ _)) hb3
          have hc3 : Below w.heap.size w w3 := bT hba hb3'
          by_cases hf : 0 ≤ x0 + c.a ∧ x0 + c.a ≤ 100000
          · rw [decide_eq_true hf]
            obtain ⟨hf0, hf1⟩ := hf
            have s0 := (hb3'.cell (p := ⟨wr.heap.size, 0, none⟩) hwrs).trans s0
            have s1 := (hb3'.cell (p := ⟨wr.heap.size, 1, none⟩) hwrs).trans s1
            have q0 := (hb3'.cell (p := ⟨gb, dn, none⟩) hgw).trans q0a
            have f0 := (hb3'.frozen (p := ⟨gb, dn, none⟩) hgw).trans f0a
            have Hown3 := Lib.hid (OwnInts.below Howna.out hb3')
            clear hb3 hb3' q0a f0a hba p0 p1
            go_wp2
            go_still_tail 9, (by kernel_rfl)
            change wpList _ _ _ _ _ _
            go_wp2
            go_roundw
            case rel => exact ⟨k + 1, by omega, by go_num, by rw [Hnx.out]; exact OwnInts.put (w := w3.drew) Hown3.out (Fares.applyTo_length _ _) (by rw [Fares.applyTo_length]; have := H29.out; omega), fun j c' hj hc' => by
              rcases Nat.lt_or_ge j k with h | h
              · exact Hfit.out j c' h hc'
              · have e : j = k := by omega
                subst e
                rw [Hck.out] at hc'
                injection hc' with hc'
                subst hc'
                rw [HD2.out]
                exact ⟨hf0, hf1⟩, bS (bD1 hc3) (by show w.heap.size ≤ gb; omega) _⟩
            case measure => simp [intOf]; omega
          · rw [decide_eq_false hf]
            have HN := Lib.hid (Hno.out hf)
            go_wp2
            go_ret2
            exact none_ _ HN.out hc3
        · rw [List.take_of_length_le (by omega)] at Hown
          have Hyes := Lib.hid (Fares.apply_yes h1 Hd.out (fun c hc => by
            obtain ⟨j, hj⟩ := List.getElem?_of_mem hc
            exact Hfit.out j c (by have := (List.getElem?_eq_some_iff.1 hj).1; omega) hj))
          go_wp2
          go_ret2
          exact some_ _ _ Hyes.out (ownBase Hown.out hz1) hb
    · have h2' : Fares.ascends (cs.map (·.d)) 28 = false := Fares.ascends_false h2
      go_enter Try.func12, Try.ntmps12
      go_wp2_with fail
      refine (validAmounts_any A _ c xs _ hx rfl (by omega)).mono ?_
      rw [h1]
      rintro e w' ⟨rfl, rfl⟩
      go_wp2_with fail
      refine (validChanges_any B _ d cs _ hy rfl (by omega)).mono ?_
      rw [h2']
      rintro e w1 ⟨rfl, hb1⟩
      go_wp2
      go_ret2
      exact none_ _ (Fares.apply_no_days xs h2) hb1
  · have h1' : Fares.dueOk xs = false := by simpa using h1
    go_enter Try.func12, Try.ntmps12
    go_wp2_with fail
    refine (validAmounts_any A _ c xs _ hx rfl (by omega)).mono ?_
    rw [h1']
    rintro e w' ⟨rfl, rfl⟩
    go_wp2
    go_ret2
    exact none_ _ (Fares.apply_no_due cs h1') (Below.refl _ _)
end Go.Proofs.Ytnlnlcllnbggdaa
