/-
  The taps of a card: the program's function and its model.
-/
import Derived.Test.YtllhjgheffemnaaTapValid2
import Derived.Deep.AppendLies
set_option linter.unusedSimpArgs false
namespace Go.Proofs.Ytllhjgheffemnaa
open Go.RowKit Go.Deep
set_option linter.unusedVariables false

namespace Fares
def cardTaps (xs : List Tap) (card : Int) : List Tap := if validTaps xs then xs.filter (fun t => decide (t.c = card)) else []
theorem filter_next {xs : List Tap} {k : Nat} {x : Tap} (h : xs[k]? = some x) (p : Tap → Bool) : (xs.take (k + 1)).filter p = (xs.take k).filter p ++ (if p x then [x] else []) := by
  rw [List.take_add_one, h, List.filter_append]
  simp only [Option.toList_some, List.filter_cons, List.filter_nil]
theorem filter_length_le (xs : List Tap) (k : Nat) (p : Tap → Bool) : ((xs.take k).filter p).length ≤ k := by
  have h1 := List.length_filter_le p (xs.take k)
  have h2 := List.length_take_le k xs
  omega
theorem length_of_validTaps {xs : List Tap} (h : validTaps xs = true) : xs.length ≤ 24 := by
  unfold validTaps at h
  simp only [Bool.and_eq_true, decide_eq_true_eq] at h
  exact h.1
theorem cardTaps_length (xs : List Tap) (card : Int) : (cardTaps xs card).length ≤ 24 := by
  unfold cardTaps
  split
  · rename_i h
    have h1 := length_of_validTaps h
    have h2 := List.length_filter_le (fun t : Tap => decide (t.c = card)) xs
    omega
  · simp
end Fares

set_option maxRecDepth 100000 in
set_option maxHeartbeats 2000000 in
theorem implCardTaps_any (A : Option Addr) (n c : Nat) (xs : List Fares.Tap) (card : Int) (w : World) (hx : Taps w w.heap.size A xs) (hn : xs.length = n) (hc : n ≤ c) (hl : c ≤ 9223372036854775807) :
    Calls Try.prog 14 #[.slice A n c, .int .i64 card] w fun e w' => ∃ v, e = .returned v ∧ OwnTaps w' w.heap.size v (Fares.cardTaps xs card) ∧ Below w.heap.size w w' := by
  have hn1 := hn
  subst hn
  obtain ⟨ti, hi0, hz0, hz1, hz2⟩ := info_parts info_tap
  by_cases hv : Fares.validTaps xs = true
  · have hlen := Fares.length_of_validTaps hv
    go_enter Try.func14, Try.ntmps14
    go_wp2_with fail
    refine (implValidTaps_any A _ c xs _ hx rfl hc hl).mono ?_
    rintro e w1 ⟨rfl, hb1⟩
    have HI := Lib.hid hi0; clear hi0
    have HZ0 := Lib.hid hz0; clear hz0
    have HZ1 := Lib.hid hz1; clear hz1
    have HZ2 := Lib.hid hz2; clear hz2
    go_wp2
    go_loopw [5, 13] (fun v i wr => ∃ k : Nat, k ≤ xs.length ∧ i = .int .i64 k ∧ OwnTaps wr w.heap.size v ((xs.take k).filter fun t => decide (t.c = card)) ∧ Below w.heap.size w wr) (fun _ i _ => xs.length - (intOf i).toNat)
    case atStart => exact ⟨0, Nat.zero_le _, rfl, by simpa [OwnTaps] using World.ownsRow_nil _ _ _ _, hb1⟩
    case round =>
      rename_i v i
      obtain ⟨k, hk, rfl, hown, hb⟩ := hrel
      have hs1 := hb.size
      have hfl := Fares.filter_length_le xs k (fun t => decide (t.c = card))
      by_cases hlt : k < xs.length
      · obtain ⟨x, hxk⟩ : ∃ x, xs[k]? = some x := ⟨xs[k], List.getElem?_eq_getElem hlt⟩
        obtain ⟨b1, o1, rfl, hb1, hr1⟩ := hx.row (by omega)
        obtain ⟨p0, p1, p2, p3, p4, p5⟩ := (hr1 k x hxk).below hb hb1
        have Hnx := Lib.hid (Fares.filter_next hxk (fun t => decide (t.c = card)))
        clear hxk hr1
        have Hown := Lib.hid hown; clear hown
        have i0 : (0 : Int) ≤ (k : Int) := by omega
        have i1 : (k : Int) < (xs.length : Int) := by omega
        by_cases hcard : x.c = card
        · have hd : (x.c == card) = true := by simpa using hcard
          have Hcard := Lib.hid hcard; clear hcard
          go_wp2_with (at_builtin; refine wpList_append_lies _ rfl (.tmp 21) (.tmp 23) _ rfl w.heap.size 36 ti _ 6 48 Try.underlying23 HI.out HZ0.out HZ1.out HZ2.out rfl (by omega) _ _ _ rfl ((World.ownsRow.alloc Hown.out _).alloc _) ⟨wr.heap.size + 1, 0, none⟩ 1 1 (tapCells x) rfl rfl ?c1 ?c2 (by omega) ?c3 ?c4 ?c5 _ rfl ?_)
          case c1 =>
            have hq := heap_alloc_new (wr.alloc (.cells #[.int .i64 x.v, .int .i64 x.n, .int .i64 x.c, .int .i64 x.m, .int .i64 x.s, .bool x.o] 36)) (.cells #[.int .i64 x.v, .int .i64 x.n, .int .i64 x.c, .int .i64 x.m, .int .i64 x.s, .bool x.o] 36)
            rw [World.size_alloc] at hq
            exact World.news_of_block hq
          case c2 => simp [tapCells, Value.oneCell']
          case c3 => unfold maxLen; omega
          case c4 => omega
          case c5 => simp; omega
          intro g cap w2 hown2 hgrow hat hlt2
          have hb4 : Below w.heap.size w w2 := Below.grown (bA (bA hb _) _) hgrow (by simp; omega) (fun r hr => (World.ownsRow.lt Hown.out r hr).1)
          have Hown2 := Lib.hid hown2; clear hown2 hgrow hat
          go_wp2
          go_roundw
          case rel => exact ⟨k + 1, by omega, by go_num, by rw [Hnx.out, if_pos (by simp [Hcard.out])]; exact OwnTaps.snoc Hown2.out, hb4⟩
          case measure => simp [intOf]; omega
        · have hd : (x.c == card) = false := by simpa using hcard
          have Hcard := Lib.hid hcard; clear hcard
          go_wp2
          go_roundw
          case rel => exact ⟨k + 1, by omega, by go_num, by rw [Hnx.out]; simp only [Hcard.out, decide_false, if_neg, List.append_nil, Bool.false_eq_true, not_false_eq_true]; exact World.ownsRow.alloc Hown.out _, (by repeat (first | exact hb | exact Below.refl _ _ | refine bA ?_ _ | refine bD ?_ _ | refine bD1 ?_ | refine bS ?_ (by simp) _))⟩
          case measure => simp [intOf]; omega
      · go_wp2
        go_ret
        exact ⟨_, rfl, by unfold Fares.cardTaps; rw [if_pos hv]; rwa [List.take_of_length_le (by omega)] at hown, hb⟩
  · have hv' : Fares.validTaps xs = false := by simpa using hv
    go_enter Try.func14, Try.ntmps14
    go_wp2_with fail
    refine (implValidTaps_any A _ c xs _ hx rfl hc hl).mono ?_
    rintro e w1 ⟨rfl, hb1⟩
    go_wp2
    go_ret
    exact ⟨_, rfl, by unfold Fares.cardTaps; rw [if_neg hv]; exact World.ownsRow_nil _ _ _ _, hb1⟩

set_option maxRecDepth 100000 in
set_option maxHeartbeats 2000000 in
theorem specCardTaps_any (A : Option Addr) (n c : Nat) (xs : List Fares.Tap) (card : Int) (w : World) (hx : Taps w w.heap.size A xs) (hn : xs.length = n) (hl : n ≤ 1000000000) :
    Calls Try.prog 29 #[.slice A n c, .int .i64 card] w fun e w' => ∃ v, e = .returned v ∧ OwnTaps w' w.heap.size v (Fares.cardTaps xs card) ∧ Below w.heap.size w w' := by
  have hn1 := hn
  subst hn
  obtain ⟨ti, hi0, hz0, hz1, hz2⟩ := info_parts info_tap
  have HI := Lib.hid hi0; clear hi0
  have HZ0 := Lib.hid hz0; clear hz0
  have HZ1 := Lib.hid hz1; clear hz1
  have HZ2 := Lib.hid hz2; clear hz2
  by_cases hv : Fares.validTaps xs = true
  · have hlen := Fares.length_of_validTaps hv
    go_enter Try.func29, Try.ntmps29
    go_wp2_with fail
    refine (specvalidTaps_any A _ c xs _ ((hx.alloc (Nat.le_refl _) _).more (by simp)) rfl hl).mono ?_
    rintro e w1 ⟨rfl, hb1⟩
    have hc1 : Below w.heap.size w w1 := bT (bA (Below.refl _ _) _) hb1
    have Hstart : Hid (OwnTaps w1 w.heap.size (.slice (some ⟨w.heap.size, 0, none⟩) 0 0) []) :=
      World.ownsRow.kept (World.ownsRow_lit w #[] 0 (Nat.le_refl _) (by unfold maxLen; omega) rfl) (grown_of_below hb1 none) (.inr (by simp [Value.ownBlock]))
    clear hb1
    go_wp2
    go_loopw [5, 6] (fun v i wr => ∃ k : Nat, k ≤ xs.length ∧ i = .int .i64 k ∧ OwnTaps wr w.heap.size v ((xs.take k).filter fun t => decide (t.c = card)) ∧ Below w.heap.size w wr) (fun _ i _ => xs.length - (intOf i).toNat)
    case atStart => exact ⟨0, Nat.zero_le _, rfl, by simpa using Hstart.out, hc1⟩
    case round =>
      rename_i v i
      obtain ⟨k, hk, rfl, hown, hb⟩ := hrel
      have hs1 := hb.size
      have hfl := Fares.filter_length_le xs k (fun t => decide (t.c = card))
      by_cases hlt : k < xs.length
      · obtain ⟨x, hxk⟩ : ∃ x, xs[k]? = some x := ⟨xs[k], List.getElem?_eq_getElem hlt⟩
        obtain ⟨b1, o1, rfl, hb1, hr1⟩ := hx.row (by omega)
        obtain ⟨p0, p1, p2, p3, p4, p5⟩ := (hr1 k x hxk).below hb hb1
        have Hnx := Lib.hid (Fares.filter_next hxk (fun t => decide (t.c = card)))
        clear hxk hr1
        have Hown := Lib.hid hown; clear hown
        have i0 : (0 : Int) ≤ (k : Int) := by omega
        have i1 : (k : Int) < (xs.length : Int) := by omega
        by_cases hcard : x.c = card
        · have hd : (x.c == card) = true := by simpa using hcard
          have Hcard := Lib.hid hcard; clear hcard
          go_wp2_with (at_builtin; refine wpList_append_lies _ rfl (.tmp 24) (.tmp 29) _ rfl w.heap.size 36 ti _ 6 48 Try.underlying23 HI.out HZ0.out HZ1.out HZ2.out rfl (by omega) _ _ _ rfl (World.ownsRow.alloc Hown.out _) ⟨wr.heap.size, 0, none⟩ 1 1 (tapCells x) rfl rfl ?c1 ?c2 (by omega) ?c3 ?c4 ?c5 _ rfl ?_)
          case c1 => exact World.news_of_block (heap_alloc_new wr (.cells #[.int .i64 x.v, .int .i64 x.n, .int .i64 x.c, .int .i64 x.m, .int .i64 x.s, .bool x.o] 36))
          case c2 => simp [tapCells, Value.oneCell']
          case c3 => unfold maxLen; omega
          case c4 => omega
          case c5 => simp; omega
          intro g cap w2 hown2 hgrow hat hlt2
          have hb4 : Below w.heap.size w w2 := Below.grown (bA hb _) hgrow (by simp; omega) (fun r hr => (World.ownsRow.lt Hown.out r hr).1)
          have Hown2 := Lib.hid hown2; clear hown2 hgrow hat
          go_wp2
          go_roundw
          case rel => exact ⟨k + 1, by omega, by go_num, by rw [Hnx.out, if_pos (by simp [Hcard.out])]; exact OwnTaps.snoc Hown2.out, hb4⟩
          case measure => simp [intOf]; omega
        · have hd : (x.c == card) = false := by simpa using hcard
          have Hcard := Lib.hid hcard; clear hcard
          go_wp2
          go_roundw
          case rel => exact ⟨k + 1, by omega, by go_num, by rw [Hnx.out, if_neg (by simp [Hcard.out]), List.append_nil]; exact Hown.out, (by repeat (first | exact hb | exact Below.refl _ _ | refine bA ?_ _ | refine bD ?_ _ | refine bD1 ?_ | refine bS ?_ (by simp) _))⟩
          case measure => simp [intOf]; omega
      · go_wp2
        go_ret
        exact ⟨_, rfl, by unfold Fares.cardTaps; rw [if_pos hv]; rwa [List.take_of_length_le (by omega)] at hown, hb⟩
  · have hv' : Fares.validTaps xs = false := by simpa using hv
    go_enter Try.func29, Try.ntmps29
    go_wp2_with fail
    refine (specvalidTaps_any A _ c xs _ ((hx.alloc (Nat.le_refl _) _).more (by simp)) rfl hl).mono ?_
    rintro e w1 ⟨rfl, hb1⟩
    have hc1 : Below w.heap.size w w1 := bT (bA (Below.refl _ _) _) hb1
    go_wp2
    go_ret
    exact ⟨_, rfl, by unfold Fares.cardTaps; rw [if_neg hv]; exact World.ownsRow_nil _ _ _ _, hc1⟩
end Go.Proofs.Ytllhjgheffemnaa
