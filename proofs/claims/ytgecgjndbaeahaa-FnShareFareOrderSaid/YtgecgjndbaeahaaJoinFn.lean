/-
  Chapter 18: legs that are joined: the program's function and its model.
-/
import Derived.Test.YtgecgjndbaeahaaLegFn
import Derived.Test.YtgecgjndbaeahaaOwnCell
import Derived.Test.YtgecgjndbaeahaaOver2
import Derived.Deep.AppendLies
import Derived.StillTactics
set_option linter.unusedSimpArgs false
namespace Go.Proofs.Ytgecgjndbaeahaa
open Go.RowKit Go.Deep
set_option linter.unusedVariables false

theorem OwnLegs.nilOk {w : World} {base : Nat} {A : Option Addr} {n c : Nat} {ys : List Fares.Leg} (h : OwnLegs w base (.slice A n c) ys) : A = none → n = 0 ∧ c = 0 := by
  rcases h.2 with ⟨e, _⟩ | ⟨g, cap, cur, e, _⟩
  · injection e with e1 e2 e3
    exact fun _ => ⟨e2, e3⟩
  · injection e with e1
    exact fun h => by rw [h] at e1; cases e1
set_option maxHeartbeats 1000000 in
theorem takes_yes (y g : Fares.Leg) (w : World) (h0 : y.o = g.o) (h1 : y.l + g.l ≤ 500) (h2 : 0 ≤ y.l) (h3 : 0 ≤ g.l) : Calls Try.prog 44 #[.agg #[.int .i64 y.o, .int .i64 y.l], .agg #[.int .i64 g.o, .int .i64 g.l]] w fun e w' => e = .returned (.bool true) ∧ Below w.heap.size w w' := by
  have d0 : (y.o == g.o) = true := by simpa using h0
  clear h0
  go_enter Try.func44, Try.ntmps44
  go_wp2
  all_goals first | (go_ret; exact ⟨ret_bool (by first | rfl | (simp; done) | (simp; omega)), bA (bA (Below.refl _ _) _) _⟩) | (exfalso; omega)
set_option maxHeartbeats 1000000 in
theorem takes_no (y g : Fares.Leg) (w : World) (h : ¬ (y.o = g.o ∧ y.l + g.l ≤ 500)) (h2 : 0 ≤ y.l) (h3 : 0 ≤ g.l) (h4 : y.l ≤ 500) (h5 : g.l ≤ 500) : Calls Try.prog 44 #[.agg #[.int .i64 y.o, .int .i64 y.l], .agg #[.int .i64 g.o, .int .i64 g.l]] w fun e w' => e = .returned (.bool false) ∧ Below w.heap.size w w' := by
  by_cases h0 : y.o = g.o
  · have h1 : ¬ (y.l + g.l ≤ 500) := fun x => h ⟨h0, x⟩
    have d0 : (y.o == g.o) = true := by simpa using h0
    clear h0 h
    go_enter Try.func44, Try.ntmps44
    go_wp2
    all_goals first | (go_ret; exact ⟨ret_bool (by first | rfl | (simp; done) | (simp; omega)), bA (bA (Below.refl _ _) _) _⟩) | (exfalso; omega)
  · have d0 : (y.o == g.o) = false := by simpa using h0
    clear h0 h
    go_enter Try.func44, Try.ntmps44
    go_wp2
    all_goals first | (go_ret; exact ⟨ret_bool (by first | rfl | (simp; done) | (simp; omega)), bA (bA (Below.refl _ _) _) _⟩) | (exfalso; omega)
theorem info_legJ : (Try.prog.info? 33).map (fun i => (i.zero, i.size, i.bytes)) = some (some (.agg #[.int .i64 0, .int .i64 0]), 2, 16) := by kernel_rfl
def JoinsLegs (xs : List Fares.Leg) (w : World) (e : Ending) (w' : World) : Prop := ∃ v, e = .returned v ∧ OwnLegs w' w.heap.size v (Fares.joinLegs xs) ∧ Below w.heap.size w w'
theorem OwnLegs.last {w : World} {base gb cap : Nat} {y z : Fares.Leg} {r : List Fares.Leg} (h : OwnLegs w base (.slice (some ⟨gb, 0, none⟩) (r.length + 1) cap) (y :: r).reverse) :
    OwnLegs (w.setCells gb (r.length * 2) (legCells z)) base (.slice (some ⟨gb, 0, none⟩) (r.length + 1) cap) (z :: r).reverse := by
  have hl : (y :: r).reverse.length = r.length + 1 := by simp
  have hl' : (z :: r).reverse.length = r.length + 1 := by simp
  unfold OwnLegs at h ⊢
  rw [hl]at h
  have h1 := own_store (x := z) legCells 2 (fun _ => rfl) (by omega) (ys := (y :: r).reverse) (i := r.length) (cap := cap) (by rw [hl]; exact h) (by rw [hl]; omega)
  have e : (y :: r).reverse.set r.length z = (z :: r).reverse := by
    rw [List.reverse_cons, List.reverse_cons, List.set_append_right _ _ (by simp)]
    simp
  rw [e, hl] at h1
  rw [hl']
  exact h1
theorem OwnLegs.lastLen {w : World} {base gb cap : Nat} {y : Fares.Leg} {z : Int} {r : List Fares.Leg} (h : OwnLegs w base (.slice (some ⟨gb, 0, none⟩) (r.length + 1) cap) (y :: r).reverse) :
    OwnLegs (w.setCell ⟨gb, r.length * 2 + 1, none⟩ (.int .i64 z)) base (.slice (some ⟨gb, 0, none⟩) (r.length + 1) cap) ((⟨y.o, z⟩ : Fares.Leg) :: r).reverse := by
  have hl : (y :: r).reverse.length = r.length + 1 := by simp
  have hl' : ((⟨y.o, z⟩ : Fares.Leg) :: r).reverse.length = r.length + 1 := by simp
  have hf : (r.reverse.flatMap legCells).length = r.length * 2 := by rw [length_flat legCells 2 (fun _ => rfl), List.length_reverse]
  unfold OwnLegs at h ⊢
  rw [hl] at h
  have h1 := own_setCell (.int .i64 z) h (i := r.length * 2 + 1) (by rw [length_flat legCells 2 (fun _ => rfl), hl]; omega)
  have e : ((y :: r).reverse.flatMap legCells).set (r.length * 2 + 1) (.int .i64 z) = (((⟨y.o, z⟩ : Fares.Leg) :: r).reverse).flatMap legCells := by
    rw [List.reverse_cons, List.reverse_cons, List.flatMap_append, List.flatMap_append, List.set_append_right _ _ (by rw [hf]; omega), hf]
    congr 1
    rw [show r.length * 2 + 1 - r.length * 2 = 1 by omega]
    rfl
  rw [e] at h1
  rw [hl']
  exact h1
theorem OwnLegs.asRow {w : World} {base : Nat} {v : Value} {y : Fares.Leg} {r : List Fares.Leg} (h : OwnLegs w base v (y :: r).reverse) : w.ownsRow base 33 2 v (r.length + 1) ((y :: r).reverse.flatMap legCells) := by
  have hl : (y :: r).reverse.length = r.length + 1 := by simp
  unfold OwnLegs at h
  rwa [hl] at h
set_option maxRecDepth 100000 in
set_option maxHeartbeats 4000000 in
theorem implJoinLegs_any (A : Option Addr) (n c : Nat) (xs : List Fares.Leg) (w : World) (hx : Legs w w.heap.size A xs) (hn : xs.length = n) (hl : n ≤ 1000000000) (hnc : n ≤ c) (hcm : c ≤ 9223372036854775807) :
    Calls Try.prog 18 #[.slice A n c] w (JoinsLegs xs w) := by
  subst hn
  obtain ⟨ti, hi0, hz0, hz1, hz2⟩ := info_parts info_legJ
  have HILeg := Lib.hid hi0; clear hi0
  have HZ0Leg := Lib.hid hz0; clear hz0
  have HZ1Leg := Lib.hid hz1; clear hz1
  have HZ2Leg := Lib.hid hz2; clear hz2
  by_cases hv : Fares.validLegs xs = true
  · have hlv := (Fares.validLegs_iff.1 hv)
    obtain ⟨⟨l1, l8⟩, hin⟩ := hlv
    have Hin := Lib.hid hin; clear hin
    have HM := Lib.hid (show Fares.joinLegs xs = (xs.foldl Fares.joinR []).reverse by unfold Fares.joinLegs; rw [if_pos hv]; rfl)
    obtain ⟨g0, hg0⟩ : ∃ g0, xs[0]? = some g0 := ⟨xs[0], List.getElem?_eq_getElem (by omega)⟩
    obtain ⟨b1, o1, rfl, hbb, hr1⟩ := hx.row (by omega)
    obtain ⟨A2, hA2⟩ : ∃ A2, (if c = 1 then some (⟨b1, o1, none⟩ : Addr) else some ⟨b1, o1 + 2, none⟩) = A2 := ⟨_, rfl⟩
    have hy := reads_from_if (A := A2) legCells 2 (fun _ => rfl) (k := 1) hx (by omega) hnc hA2
    have Hy := Lib.hid (show Legs w w.heap.size A2 (xs.drop 1) from hy); clear hy
    have HA2 := Lib.hid hA2; clear hA2
    go_enter Try.func18, Try.ntmps18
    go_wp2_with fail
    refine (implvalidLegs_any _ _ c xs _ hx rfl (by omega)).mono ?_
    rw [hv]
    rintro e w1 ⟨rfl, hb1⟩
    have hb1' : Below w.heap.size w w1 := hb1
    have hz1 := hb1.size
    obtain ⟨p0, p1⟩ := (hr1 0 g0 hg0).below hb1 hbb
    simp only [Nat.zero_mul, Nat.add_zero] at p0 p1
    have Hown1 := Lib.hid (show OwnLegs (w1.alloc (.cells #[.int .i64 g0.o, .int .i64 g0.l] 33)) w.heap.size (.slice (some ⟨w1.heap.size, 0, none⟩) 1 1) [g0] from World.ownsRow_lit w1 #[.int .i64 g0.o, .int .i64 g0.l] 1 hz1 (by unfold maxLen; omega) rfl)
    have Hf1 := Lib.hid (show (xs.take 1).foldl Fares.joinR [] = [g0] by rw [Fares.join_next hg0]; rfl)
    have hb2 := bA hb1 (.cells #[.int .i64 g0.o, .int .i64 g0.l] 33)
    clear hr1 hb1 hg0 hx
    have eA := HA2.out
    have l2 : (1 : Int) ≤ (xs.length : Int) := by omega
    have l3 : (1 : Int) ≤ (c : Int) := by omega
    go_wp2
    clear eA p0 p1
    go_loopw [17, 3] (fun i v wr => ∃ k : Nat, k ≤ xs.length - 1 ∧ i = .int .i64 k ∧ OwnLegs wr w.heap.size v ((xs.take (k + 1)).foldl Fares.joinR []).reverse ∧ Below w.heap.size w wr) (fun i _ _ => xs.length - 1 - (intOf i).toNat)
    case atStart => exact ⟨0, Nat.zero_le _, rfl, by rw [Hf1.out]; exact Hown1.out, hb2⟩
    case round =>
      obtain ⟨k, hk, rfl, hown, hb⟩ := hrel
      by_cases hlt : k < xs.length - 1
      · obtain ⟨g, hgk⟩ : ∃ g, xs[k + 1]? = some g := ⟨_, List.getElem?_eq_getElem (by omega)⟩
        have hgd : (xs.drop 1)[k]? = some g := by rw [List.getElem?_drop, Nat.add_comm]; exact hgk
        have HN := Lib.hid (Fares.join_next hgk)
        have hgi := Hin.out g (List.mem_of_getElem? hgk)
        obtain ⟨_, _, gl0, gl1⟩ := hgi
        have hacc : ∀ x ∈ (xs.take (k + 1)).foldl Fares.joinR [], Fares.legIn x := Fares.fold_in _ [] (by simp) (fun x hx => Hin.out x (List.mem_of_mem_take hx))
        have haln := Fares.fold_length (xs.take (k + 1)) []
        obtain ⟨y, r, hyr⟩ : ∃ y r, (xs.take (k + 1)).foldl Fares.joinR [] = y :: r := by
          have := Fares.fold_ne (xs.take (k + 1)) [] (.inr (List.ne_nil_of_length_pos (by rw [List.length_take]; omega)))
          cases h9 : (xs.take (k + 1)).foldl Fares.joinR [] with
          | nil => exact absurd h9 this
          | cons y r => exact ⟨y, r, rfl⟩
        rw [hyr] at hacc haln hown HN
        have hrlen : r.length ≤ 8 := by simp at haln; omega
        obtain ⟨_, _, yl0, yl1⟩ := hacc y (List.mem_cons_self ..)
        have Hown := Lib.hid hown; clear hown hacc haln hyr hgk
        obtain ⟨b2, o2, hA2e, hb2b, hr2⟩ := Hy.out.row (by simp; omega)
        obtain ⟨p0, p1⟩ := (hr2 k g hgd).below hb hb2b
        subst hA2e
        clear hr2 hgd
        obtain ⟨gb, cap, ev, hbg, hlg, hcap, hmx, hcell, hfree, hthere⟩ := own_at legCells 2 (fun _ => rfl) Hown.out (show 0 < (y :: r).reverse.length by simp)
        have hrl : (y :: r).reverse.length = r.length + 1 := by simp
        rw [hrl] at ev hcap
        subst ev
        have hyk : (y :: r).reverse[r.length]? = some y := by rw [List.reverse_cons, List.getElem?_append_right (by simp)]; simp
        have t0 : wr.cell? ⟨gb, r.length * 2, none⟩ = some (.int .i64 y.o) := hcell r.length y 0 _ hyk rfl
        have t1 : wr.cell? ⟨gb, r.length * 2 + 1, none⟩ = some (.int .i64 y.l) := hcell r.length y 1 _ hyk rfl
        have f0 : wr.frozen? ⟨gb, r.length * 2, none⟩ = false := hfree _
        have f1 : wr.frozen? ⟨gb, r.length * 2 + 1, none⟩ = false := hfree _
        unfold maxLen at hmx
        clear hcell hfree hthere hyk hrl
        have r0 : (0 : Int) ≤ (r.length : Int) := by omega
        have r1 : (r.length : Int) < (r.length : Int) + 1 := by omega
        obtain ⟨_, q0, q1⟩ := LegBox.new wr g 33
        have hba := bA hb (.cells #[.int .i64 g.o, .int .i64 g.l] 33)
        have t0a := ((bA (Below.refl wr.heap.size wr) (.cells #[.int .i64 g.o, .int .i64 g.l] 33)).cell (p := ⟨gb, r.length * 2, none⟩) hlg).trans t0
        have t1a := ((bA (Below.refl wr.heap.size wr) (.cells #[.int .i64 g.o, .int .i64 g.l] 33)).cell (p := ⟨gb, r.length * 2 + 1, none⟩) hlg).trans t1
        have f0a := ((bA (Below.refl wr.heap.size wr) (.cells #[.int .i64 g.o, .int .i64 g.l] 33)).frozen (p := ⟨gb, r.length * 2, none⟩) hlg).trans f0
        have f1a := ((bA (Below.refl wr.heap.size wr) (.cells #[.int .i64 g.o, .int .i64 g.l] 33)).frozen (p := ⟨gb, r.length * 2 + 1, none⟩) hlg).trans f1
        have Howna := Lib.hid (OwnLegs.below Hown.out (bA (Below.refl _ _) (.cells #[.int .i64 g.o, .int .i64 g.l] 33)))
        have hwrs : wr.heap.size < (wr.alloc (.cells #[.int .i64 g.o, .int .i64 g.l] 33)).heap.size := by simp
        have Hne : gb ≠ wr.heap.size := by omega
        have i0 : (0 : Int) ≤ (k : Int) := by omega
        have i1 : k < xs.length - 1 := hlt
        clear t0 t1 f0 f1
        go_wp2
        generalize wr.alloc (.cells #[.int .i64 g.o, .int .i64 g.l] 33) = wa at t0a t1a f0a f1a hba Howna hwrs q0 q1 ⊢
        have hgw : gb < wa.heap.size := by omega
        go_still_tail 4, (by kernel_rfl)
        change wpList _ _ _ _ _ wa.drew
        by_cases hj : y.o = g.o ∧ y.l + g.l ≤ 500
        · have Hj := Lib.hid (Fares.joinR_yes (r := r) hj)
          have hjs := hj.2
          have Hyo := Lib.hid hj.1
          clear hj
          go_wp2_with fail
          refine (takes_yes y g _ Hyo.out hjs (by omega) (by omega)).mono ?_
          rintro e w3 ⟨rfl, hb3⟩
          have hb3' : Below wa.heap.size wa w3 := bT (bD1 (Below.refl _ _)) hb3
          have hc3 : Below w.heap.size w w3 := bT hba hb3'
          have t1 := (hb3'.cell (p := ⟨gb, r.length * 2 + 1, none⟩) hgw).trans t1a
          have f1 := (hb3'.frozen (p := ⟨gb, r.length * 2 + 1, none⟩) hgw).trans f1a
          have q1 := (hb3'.cell (p := ⟨wr.heap.size, 1, none⟩) hwrs).trans q1
          have Hown3 := Lib.hid (OwnLegs.below Howna.out hb3')
          clear hb3 hb3' t0a t1a f0a f1a hba p0 p1 q0 Howna
          go_wp2
          go_still_tail 9, (by kernel_rfl)
          change wpList _ _ _ _ _ _
          go_wp2
          go_roundw
          case rel => exact ⟨k + 1, by omega, by go_num, by
            rw [HN.out, Hj.out, ← Hyo.out]
            exact OwnLegs.lastLen (w := w3.drew) Hown3.out, bS (bD1 hc3) (by show w.heap.size ≤ gb; omega) _⟩
          case measure => simp [intOf]; omega
        · have Hj := Lib.hid (Fares.joinR_no (r := r) hj)
          have Hjn := Lib.hid hj; clear hj
          go_wp2_with fail
          refine (takes_no y g _ Hjn.out (by omega) (by omega) yl1 gl1).mono ?_
          rintro e w3 ⟨rfl, hb3⟩
          have hb3' : Below wa.heap.size wa w3 := bT (bD1 (Below.refl _ _)) hb3
          have hc3 : Below w.heap.size w w3 := bT hba hb3'
          have q0 := (hb3'.cell (p := ⟨wr.heap.size, 0, none⟩) hwrs).trans q0
          have q1 := (hb3'.cell (p := ⟨wr.heap.size, 1, none⟩) hwrs).trans q1
          have Hown3 := Lib.hid (OwnLegs.below Howna.out hb3')
          clear hb3 hb3' t0a t1a f0a f1a hba p0 p1 Howna
          have hz3 := hc3.size
          go_wp2_with (at_builtin; refine wpList_append_lies _ rfl (.tmp 40) (.tmp 42) _ rfl (w.heap.size) 33 ti _ 2 16 Try.underlying23 HILeg.out HZ0Leg.out HZ1Leg.out HZ2Leg.out rfl (by omega) _ _ _ rfl (World.ownsRow.alloc (OwnLegs.asRow Hown3.out) _) ⟨w3.heap.size, 0, none⟩ 1 1 (legCells g) rfl rfl ?c1 ?c2 (by omega) ?c3 ?c4 ?c5 _ rfl ?_)
          case c1 => exact World.news_of_block (Blk.new' (t := 33) (cs := #[.int .i64 g.o, .int .i64 g.l]) (by simp))
          case c2 => simp [legCells, Value.oneCell']
          case c3 => unfold maxLen; omega
          case c4 => omega
          case c5 => first | omega | (simp; omega) | simp
          intro gb9 cap9 w9 hown9 hgrow9 hat9 hlt9
          have hb4 : Below w.heap.size w w9 := Below.grown (bA hc3 _) hgrow9 (by have := hc3.size; simp; omega) (fun r hr => (World.ownsRow.lt Hown3.out r hr).1)
          have Hown9 := Lib.hid (show OwnLegs w9 w.heap.size (.slice (some ⟨gb9, 0, none⟩) (r.length + 1 + 1) cap9) (g :: y :: r).reverse by
            unfold OwnLegs
            rw [show (g :: y :: r).reverse.length = r.length + 1 + 1 by simp]
            simpa [List.flatMap_append, List.append_assoc] using hown9)
          clear hown9 hgrow9 hat9
          go_wp2
          go_roundw
          case rel => exact ⟨k + 1, by omega, by go_num, by rw [HN.out, Hj.out]; exact Hown9.out, hb4⟩
          case measure => simp [intOf]; omega
      · rw [List.take_of_length_le (by omega)] at hown
        have Hown := Lib.hid hown; clear hown
        go_wp2
        go_ret
        exact ⟨_, rfl, by rw [HM.out]; exact Hown.out, hb⟩
  · have hv' : Fares.validLegs xs = false := by simpa using hv
    have HM := Lib.hid (show Fares.joinLegs xs = [] by unfold Fares.joinLegs; rw [hv']; rfl)
    go_enter Try.func18, Try.ntmps18
    go_wp2_with fail
    refine (implvalidLegs_any A _ c xs _ hx rfl (by omega)).mono ?_
    rw [hv']
    rintro e w1 ⟨rfl, hb1⟩
    go_wp2
    go_ret
    exact ⟨_, rfl, by rw [HM.out]; exact OwnLegs.none_ _ _, hb1⟩
end Go.Proofs.Ytgecgjndbaeahaa
