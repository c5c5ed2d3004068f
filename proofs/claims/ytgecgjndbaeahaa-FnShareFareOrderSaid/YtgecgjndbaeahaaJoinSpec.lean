/-
  Chapter 18: legs that are joined: the model's function.
-/
import Derived.Test.YtgecgjndbaeahaaJoinFn
import Derived.BigQuiet
set_option linter.unusedSimpArgs false
namespace Go.Proofs.Ytgecgjndbaeahaa
open Go.RowKit Go.Deep
set_option linter.unusedVariables false

set_option maxRecDepth 100000 in
set_option maxHeartbeats 4000000 in
theorem specJoinLegs_any (A : Option Addr) (n c : Nat) (xs : List Fares.Leg) (w : World) (hx : Legs w w.heap.size A xs) (hn : xs.length = n) (hl : n ≤ 1000000000) (hnc : n ≤ c) (hcm : c ≤ 9223372036854775807) :
    Calls Try.prog 23 #[.slice A n c] w (JoinsLegs xs w) := by
  subst hn
  obtain ⟨ti, hi0, hz0, hz1, hz2⟩ := info_parts info_legJ
  have HILeg := Lib.hid hi0; clear hi0
  have HZ0Leg := Lib.hid hz0; clear hz0
  have HZ1Leg := Lib.hid hz1; clear hz1
  have HZ2Leg := Lib.hid hz2; clear hz2
  by_cases hv : Fares.validLegs xs = true
  · have hlv := (Fares.validLegs_iff.1 hv)
    obtain ⟨⟨l1, l8⟩, hin⟩ := hlv
    have Hin := Lib.hid hin; clear hin
    have HM := Lib.hid (show Fares.joinLegs xs = (xs.foldl Fares.joinR []).reverse by unfold Fares.joinLegs; rw [if_pos hv]; rfl)
    have Hnew := Lib.hid (World.ownsRow_lit (base := w.heap.size) (e := 33) (size := 2) w #[] 0 (Nat.le_refl _) (by unfold maxLen; omega) rfl)
    go_enter Try.func23, Try.ntmps23
    go_wp2_with fail
    refine (specvalidLegs_any A _ c xs _ (readsUp hx _) rfl (by omega)).mono ?_
    rw [hv]
    rintro e w' ⟨rfl, rfl⟩
    go_wp2
    go_loopw [4, 3] (fun i v wr => ∃ k : Nat, k ≤ xs.length ∧ i = .int .i64 k ∧ OwnLegs wr w.heap.size v ((xs.take k).foldl Fares.joinR []).reverse ∧ Below w.heap.size w wr) (fun i _ _ => xs.length - (intOf i).toNat)
    case atStart => exact ⟨0, Nat.zero_le _, rfl, Hnew.out, bA (Below.refl _ _) _⟩
    case round =>
      obtain ⟨k, hk, rfl, hown, hb⟩ := hrel
      have hbz := hb.size
      by_cases hlt : k < xs.length
      · obtain ⟨g, hgk⟩ : ∃ g, xs[k]? = some g := ⟨_, List.getElem?_eq_getElem hlt⟩
        have HN := Lib.hid (Fares.join_next hgk)
        have hgi := Hin.out g (List.mem_of_getElem? hgk)
        obtain ⟨_, _, gl0, gl1⟩ := hgi
        have hacc : ∀ x ∈ (xs.take k).foldl Fares.joinR [], Fares.legIn x := Fares.fold_in _ [] (by simp) (fun x hx => Hin.out x (List.mem_of_mem_take hx))
        have haln := Fares.fold_length (xs.take k) []
        obtain ⟨b2, o2, rfl, hb2b, hr2⟩ := hx.row (by omega)
        obtain ⟨p0, p1⟩ := (hr2 k g hgk).below hb hb2b
        have i0 : (0 : Int) ≤ (k : Int) := by omega
        have i1 : (k : Int) < (xs.length : Int) := by omega
        clear hr2 hgk hx
        cases h9 : (xs.take k).foldl Fares.joinR [] with
        | nil =>
          rw [h9] at hown HN
          have Hj := Lib.hid (show Fares.joinR [] g = [g] from rfl)
          have hown' : OwnLegs wr w.heap.size _ [] := hown
          obtain ⟨Av, cv, hvv, hcv1, hcv2, hrs⟩ := OwnLegs.form hown'
          have hvv' : _ = Value.slice Av 0 cv := hvv
          subst hvv'
          clear hrs hvv hown
          unfold maxLen at hcv2
          have Hown := Lib.hid hown'; clear hown' hacc haln h9
          go_wp2
          go_quiet (fail)
          generalize hwq : wr.drewN nq = wq
          have p0 : wq.cell? ⟨b2, o2 + k * 2, none⟩ = some (.int .i64 g.o) := by rw [← hwq]; exact p0
          have p1 : wq.cell? ⟨b2, o2 + k * 2 + 1, none⟩ = some (.int .i64 g.l) := by rw [← hwq]; exact p1
          have hbq : Below w.heap.size w wq := by rw [← hwq]; exact bD hb nq
          have hbqz := hbq.size
          have Hownq := Lib.hid (show OwnLegs wq w.heap.size (.slice Av 0 cv) [] by rw [← hwq]; exact Hown.out)
          clear hwq
          go_wp2_with (at_builtin; refine wpList_append_lies _ rfl (.tmp 68) (.tmp 73) _ rfl (w.heap.size) 33 ti _ 2 16 Try.underlying23 HILeg.out HZ0Leg.out HZ1Leg.out HZ2Leg.out rfl (by omega) _ _ _ rfl (World.ownsRow.alloc (show wq.ownsRow w.heap.size 33 2 (.slice Av 0 cv) 0 [] from Hownq.out) _) ⟨wq.heap.size, 0, none⟩ 1 1 (legCells g) rfl rfl ?c1 ?c2 (by omega) ?c3 ?c4 ?c5 _ rfl ?_)
          case c1 => exact World.news_of_block (Blk.new' (t := 33) (cs := #[.int .i64 g.o, .int .i64 g.l]) (by simp))
          case c2 => simp [legCells, Value.oneCell']
          case c3 => unfold maxLen; omega
          case c4 => omega
          case c5 => first | omega | (simp; omega) | simp
          intro gb9 cap9 w9 hown9 hgrow9 hat9 hlt9
          have hb4 : Below w.heap.size w w9 := Below.grown (bA hbq _) hgrow9 (by simp; omega) (fun r hr => (World.ownsRow.lt Hownq.out r hr).1)
          have Hown9 := Lib.hid (show OwnLegs w9 w.heap.size (.slice (some ⟨gb9, 0, none⟩) (0 + 1) cap9) [g].reverse by
            unfold OwnLegs
            rw [show [g].reverse.length = 0 + 1 by simp]
            simpa [List.flatMap_append, List.append_assoc] using hown9)
          clear hown9 hgrow9 hat9
          go_wp2
          go_roundw
          case rel => exact ⟨k + 1, by omega, by go_num, by rw [HN.out, Hj.out]; exact Hown9.out, hb4⟩
          case measure => simp [intOf]; omega
        | cons y r =>
          rw [h9] at hacc haln hown HN
          have hrlen : r.length ≤ 8 := by simp at haln; omega
          obtain ⟨_, _, yl0, yl1⟩ := hacc y (List.mem_cons_self ..)
          have Hown := Lib.hid hown; clear hown hacc haln h9
          obtain ⟨gb, cap, ev, hbg, hlg, hcap, hmx, hcell, hfree, hthere⟩ := own_at legCells 2 (fun _ => rfl) Hown.out (show 0 < (y :: r).reverse.length by simp)
          have hrl : (y :: r).reverse.length = r.length + 1 := by simp
          rw [hrl] at ev hcap
          subst ev
          have hyk : (y :: r).reverse[r.length]? = some y := by rw [List.reverse_cons, List.getElem?_append_right (by simp)]; simp
          have t0 : wr.cell? ⟨gb, r.length * 2, none⟩ = some (.int .i64 y.o) := hcell r.length y 0 _ hyk rfl
          have t1 : wr.cell? ⟨gb, r.length * 2 + 1, none⟩ = some (.int .i64 y.l) := hcell r.length y 1 _ hyk rfl
          have f0 : wr.frozen? ⟨gb, r.length * 2, none⟩ = false := hfree _
          have f1 : wr.frozen? ⟨gb, r.length * 2 + 1, none⟩ = false := hfree _
          unfold maxLen at hmx
          clear hcell hfree hthere hyk hrl
          have r0 : (0 : Int) ≤ (r.length : Int) := by omega
          have r1 : (r.length : Int) < (r.length : Int) + 1 := by omega
          have W1 : IntKind.i64.wrap (y.l + g.l) = y.l + g.l := IntWalk.i64_in _ (by omega)
          have d3 : decide ((0 : Int) ≤ (r.length : Int)) = true := decide_eq_true r0
          by_cases ho : y.o = g.o
          · have d0 : (y.o == g.o) = true := by simpa using ho
            have Hyo := Lib.hid ho; clear ho
            by_cases hjs : y.l + g.l ≤ 500
            · have Hj := Lib.hid (Fares.joinR_yes (r := r) ⟨Hyo.out, hjs⟩)
              have d1 : decide (y.l + g.l ≤ 500) = true := decide_eq_true hjs
              go_wp2
              go_quiet (fail)
              generalize hwq : wr.drewN nq = wq
              have p0 : wq.cell? ⟨b2, o2 + k * 2, none⟩ = some (.int .i64 g.o) := by rw [← hwq]; exact p0
              have p1 : wq.cell? ⟨b2, o2 + k * 2 + 1, none⟩ = some (.int .i64 g.l) := by rw [← hwq]; exact p1
              have hbq : Below w.heap.size w wq := by rw [← hwq]; exact bD hb nq
              have hbqz := hbq.size
              have t0 : wq.cell? ⟨gb, r.length * 2, none⟩ = some (.int .i64 y.o) := by rw [← hwq]; exact t0
              have t1 : wq.cell? ⟨gb, r.length * 2 + 1, none⟩ = some (.int .i64 y.l) := by rw [← hwq]; exact t1
              have f0 : wq.frozen? ⟨gb, r.length * 2, none⟩ = false := by rw [← hwq]; exact f0
              have f1 : wq.frozen? ⟨gb, r.length * 2 + 1, none⟩ = false := by rw [← hwq]; exact f1
              have Hownq := Lib.hid (show OwnLegs wq w.heap.size (.slice (some ⟨gb, 0, none⟩) (r.length + 1) cap) (y :: r).reverse by rw [← hwq]; exact Hown.out)
              clear hwq
              go_wp2
              go_still_tail 20, (by kernel_rfl)
              change wpList _ _ _ _ _ _
              go_wp2
              go_roundw
              case rel => exact ⟨k + 1, by omega, by go_num, by rw [HN.out, Hj.out]; exact OwnLegs.last (w := wq.drew) (z := ⟨g.o, y.l + g.l⟩) Hownq.out, below_setCells (by omega) (legCells ⟨g.o, y.l + g.l⟩) wq.drew (r.length * 2) (bD1 hbq)⟩
              case measure => simp [intOf]; omega
            · have Hj := Lib.hid (Fares.joinR_no (y := y) (g := g) (r := r) (fun h => hjs h.2))
              have d1 : decide (y.l + g.l ≤ 500) = false := decide_eq_false hjs
              go_wp2
              go_quiet (fail)
              generalize hwq : wr.drewN nq = wq
              have p0 : wq.cell? ⟨b2, o2 + k * 2, none⟩ = some (.int .i64 g.o) := by rw [← hwq]; exact p0
              have p1 : wq.cell? ⟨b2, o2 + k * 2 + 1, none⟩ = some (.int .i64 g.l) := by rw [← hwq]; exact p1
              have hbq : Below w.heap.size w wq := by rw [← hwq]; exact bD hb nq
              have hbqz := hbq.size
              have t0 : wq.cell? ⟨gb, r.length * 2, none⟩ = some (.int .i64 y.o) := by rw [← hwq]; exact t0
              have t1 : wq.cell? ⟨gb, r.length * 2 + 1, none⟩ = some (.int .i64 y.l) := by rw [← hwq]; exact t1
              have f0 : wq.frozen? ⟨gb, r.length * 2, none⟩ = false := by rw [← hwq]; exact f0
              have f1 : wq.frozen? ⟨gb, r.length * 2 + 1, none⟩ = false := by rw [← hwq]; exact f1
              have Hownq := Lib.hid (show OwnLegs wq w.heap.size (.slice (some ⟨gb, 0, none⟩) (r.length + 1) cap) (y :: r).reverse by rw [← hwq]; exact Hown.out)
              clear hwq
              go_wp2_with (at_builtin; refine wpList_append_lies _ rfl (.tmp 68) (.tmp 73) _ rfl (w.heap.size) 33 ti _ 2 16 Try.underlying23 HILeg.out HZ0Leg.out HZ1Leg.out HZ2Leg.out rfl (by omega) _ _ _ rfl (World.ownsRow.alloc (OwnLegs.asRow Hownq.out) _) ⟨wq.heap.size, 0, none⟩ 1 1 (legCells g) rfl rfl ?c1 ?c2 (by omega) ?c3 ?c4 ?c5 _ rfl ?_)
              case c1 => exact World.news_of_block (Blk.new' (t := 33) (cs := #[.int .i64 g.o, .int .i64 g.l]) (by simp))
              case c2 => simp [legCells, Value.oneCell']
              case c3 => unfold maxLen; omega
              case c4 => omega
              case c5 => first | omega | (simp; omega) | simp
              intro gb9 cap9 w9 hown9 hgrow9 hat9 hlt9
              have hb4 : Below w.heap.size w w9 := Below.grown (bA hbq _) hgrow9 (by simp; omega) (fun r hr => (World.ownsRow.lt Hownq.out r hr).1)
              have Hown9 := Lib.hid (show OwnLegs w9 w.heap.size (.slice (some ⟨gb9, 0, none⟩) (r.length + 1 + 1) cap9) (g :: y :: r).reverse by
                unfold OwnLegs
                rw [show (g :: y :: r).reverse.length = r.length + 1 + 1 by simp]
                simpa [List.flatMap_append, List.append_assoc] using hown9)
              clear hown9 hgrow9 hat9
              go_wp2
              go_roundw
              case rel => exact ⟨k + 1, by omega, by go_num, by rw [HN.out, Hj.out]; exact Hown9.out, hb4⟩
              case measure => simp [intOf]; omega
          · have Hj := Lib.hid (Fares.joinR_no (y := y) (g := g) (r := r) (fun h => ho h.1))
            have d0 : (y.o == g.o) = false := by simpa using ho
            clear ho
            go_wp2
            go_quiet (fail)
            generalize hwq : wr.drewN nq = wq
            have p0 : wq.cell? ⟨b2, o2 + k * 2, none⟩ = some (.int .i64 g.o) := by rw [← hwq]; exact p0
            have p1 : wq.cell? ⟨b2, o2 + k * 2 + 1, none⟩ = some (.int .i64 g.l) := by rw [← hwq]; exact p1
            have hbq : Below w.heap.size w wq := by rw [← hwq]; exact bD hb nq
            have hbqz := hbq.size
            have t0 : wq.cell? ⟨gb, r.length * 2, none⟩ = some (.int .i64 y.o) := by rw [← hwq]; exact t0
            have t1 : wq.cell? ⟨gb, r.length * 2 + 1, none⟩ = some (.int .i64 y.l) := by rw [← hwq]; exact t1
            have f0 : wq.frozen? ⟨gb, r.length * 2, none⟩ = false := by rw [← hwq]; exact f0
            have f1 : wq.frozen? ⟨gb, r.length * 2 + 1, none⟩ = false := by rw [← hwq]; exact f1
            have Hownq := Lib.hid (show OwnLegs wq w.heap.size (.slice (some ⟨gb, 0, none⟩) (r.length + 1) cap) (y :: r).reverse by rw [← hwq]; exact Hown.out)
            clear hwq
            go_wp2_with (at_builtin; refine wpList_append_lies _ rfl (.tmp 68) (.tmp 73) _ rfl (w.heap.size) 33 ti _ 2 16 Try.underlying23 HILeg.out HZ0Leg.out HZ1Leg.out HZ2Leg.out rfl (by omega) _ _ _ rfl (World.ownsRow.alloc (OwnLegs.asRow Hownq.out) _) ⟨wq.heap.size, 0, none⟩ 1 1 (legCells g) rfl rfl ?c1 ?c2 (by omega) ?c3 ?c4 ?c5 _ rfl ?_)
            case c1 => exact World.news_of_block (Blk.new' (t := 33) (cs := #[.int .i64 g.o, .int .i64 g.l]) (by simp))
            case c2 => simp [legCells, Value.oneCell']
            case c3 => unfold maxLen; omega
            case c4 => omega
            case c5 => first | omega | (simp; omega) | simp
            intro gb9 cap9 w9 hown9 hgrow9 hat9 hlt9
            have hb4 : Below w.heap.size w w9 := Below.grown (bA hbq _) hgrow9 (by simp; omega) (fun r hr => (World.ownsRow.lt Hownq.out r hr).1)
            have Hown9 := Lib.hid (show OwnLegs w9 w.heap.size (.slice (some ⟨gb9, 0, none⟩) (r.length + 1 + 1) cap9) (g :: y :: r).reverse by
              unfold OwnLegs
              rw [show (g :: y :: r).reverse.length = r.length + 1 + 1 by simp]
              simpa [List.flatMap_append, List.append_assoc] using hown9)
            clear hown9 hgrow9 hat9
            go_wp2
            go_roundw
            case rel => exact ⟨k + 1, by omega, by go_num, by rw [HN.out, Hj.out]; exact Hown9.out, hb4⟩
            case measure => simp [intOf]; omega
      · rw [List.take_of_length_le (by omega)] at hown
        have Hown := Lib.hid hown; clear hown
        go_wp2
        go_ret
        exact ⟨_, rfl, by rw [HM.out]; exact Hown.out, hb⟩
  · have hv' : Fares.validLegs xs = false := by simpa using hv
    have HM := Lib.hid (show Fares.joinLegs xs = [] by unfold Fares.joinLegs; rw [hv']; rfl)
    go_enter Try.func23, Try.ntmps23
    go_wp2_with fail
    refine (specvalidLegs_any A _ c xs _ (readsUp hx _) rfl (by omega)).mono ?_
    rw [hv']
    rintro e w' ⟨rfl, rfl⟩
    go_wp2
    go_ret
    exact ⟨_, rfl, by rw [HM.out]; exact OwnLegs.none_ _ _, bA (Below.refl _ _) _⟩
end Go.Proofs.Ytgecgjndbaeahaa
