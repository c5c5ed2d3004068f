/-
  Chapter 18: the library's stable sort, on a row of at most twenty shares: it is the insertion sort.
-/
import Derived.Test.YtgecgjndbaeahaaShareMath
import Derived.Test.YtgecgjndbaeahaaLegFn
import Derived.Test.YtgecgjndbaeahaaAscCmp
import Derived.Test.YtgecgjndbaeahaaSubQuiet
import Derived.Test.YtgecgjndbaeahaaOwnCell
import Derived.Test.YtgecgjndbaeahaaOver2
import Derived.BigQuiet
import Derived.BigRegion
import Derived.StillTailTactics
set_option linter.unusedSimpArgs false
namespace Go.Proofs.Ytgecgjndbaeahaa
open Go.RowKit Go.Deep
set_option linter.unusedVariables false

def shareCells (s : Fares.Share) : List Value := [.int .i64 s.o, .int .i64 s.a, .int .i64 s.r]
/-- The slice value v owns the shares ys, in blocks from base on. -/
def OwnShares (w : World) (base : Nat) (v : Value) (ys : List Fares.Share) : Prop := w.ownsRow base 51 3 v ys.length (ys.flatMap shareCells)
theorem OwnShares.below {w w' : World} {base : Nat} {v : Value} {ys : List Fares.Share} (h : OwnShares w base v ys) (hb : Below w.heap.size w w') : OwnShares w' base v ys := own_below h hb
theorem OwnShares.put {w : World} {base g n cap d : Nat} {x : Fares.Share} {ys : List Fares.Share} (h : OwnShares w base (.slice (some ⟨g, 0, none⟩) n cap) ys) (hn : ys.length = n) (hd : d < ys.length) :
    OwnShares (w.setCells g (d * 3) (shareCells x)) base (.slice (some ⟨g, 0, none⟩) n cap) (ys.set d x) := by
  subst hn
  unfold OwnShares at h ⊢
  rw [List.length_set]
  exact own_store (x := x) shareCells 3 (fun _ => rfl) (by omega) h hd

set_option maxHeartbeats 1000000 in
theorem shareCmp_any (x y : Fares.Share) (w : World) :
    Calls Try.prog 38 #[.agg #[.int .i64 x.o, .int .i64 x.a, .int .i64 x.r], .agg #[.int .i64 y.o, .int .i64 y.a, .int .i64 y.r]] w fun e w' => e = .returned (.int .i64 (cmpOf y.r x.r)) ∧ Below w.heap.size w w' := by
  go_enter Try.func38, Try.ntmps38
  go_wp2_with (go_at_call 39; refine (compare_any _ _ _).mono ?_; rintro e w' ⟨rfl, rfl⟩)
  go_ret
  exact ⟨rfl, bA (bA (Below.refl _ _) _) _⟩
theorem cmpOf_neg {a b : Int} : cmpOf a b < 0 ↔ a < b := by
  unfold cmpOf
  split
  · simp; omega
  · split <;> simp <;> omega

/-- the row while x (which stood at place acc.length) has gone ahead of t others -/
def Fares.rowAt (acc : List Fares.Share) (x : Fares.Share) (rest : List Fares.Share) (t : Nat) : List Fares.Share := (acc.drop t).reverse ++ x :: ((acc.take t).reverse ++ rest)
theorem Fares.rowAt_length (acc : List Fares.Share) (x : Fares.Share) (rest : List Fares.Share) (t : Nat) (ht : t ≤ acc.length) : (Fares.rowAt acc x rest t).length = acc.length + 1 + rest.length := by
  unfold Fares.rowAt
  simp only [List.length_append, List.length_reverse, List.length_drop, List.length_cons, List.length_take]
  omega
theorem Fares.rowAt_x (acc : List Fares.Share) (x : Fares.Share) (rest : List Fares.Share) (t : Nat) : (Fares.rowAt acc x rest t)[acc.length - t]? = some x := by
  unfold Fares.rowAt
  rw [List.getElem?_append_right (by simp)]
  simp
theorem Fares.drop_head {acc : List Fares.Share} {t : Nat} {y : Fares.Share} (h : acc[t]? = some y) : acc.drop t = y :: acc.drop (t + 1) := by
  have hl := (List.getElem?_eq_some_iff.1 h).1
  rw [List.drop_eq_getElem_cons hl]
  congr 1
  rw [List.getElem?_eq_getElem hl] at h
  injection h
theorem Fares.rowAt_y {acc : List Fares.Share} {x y : Fares.Share} {rest : List Fares.Share} {t : Nat} (h : acc[t]? = some y) : (Fares.rowAt acc x rest t)[acc.length - t - 1]? = some y := by
  have hl := (List.getElem?_eq_some_iff.1 h).1
  unfold Fares.rowAt
  rw [Fares.drop_head h, List.reverse_cons, List.append_assoc]
  rw [List.getElem?_append_right (by simp; omega)]
  simp only [List.length_reverse, List.length_drop]
  rw [show acc.length - t - 1 - (acc.length - (t + 1)) = 0 by omega]
  rfl
theorem Fares.rowAt_next {acc : List Fares.Share} {x y : Fares.Share} {rest : List Fares.Share} {t : Nat} (h : acc[t]? = some y) :
    ((Fares.rowAt acc x rest t).set (acc.length - t) y).set (acc.length - t - 1) x = Fares.rowAt acc x rest (t + 1) := by
  have hl := (List.getElem?_eq_some_iff.1 h).1
  unfold Fares.rowAt
  rw [Fares.drop_head h, List.reverse_cons, List.append_assoc]
  have e : acc.length - t = (acc.drop (t + 1)).reverse.length + 1 := by simp; omega
  rw [e, Nat.add_sub_cancel, List.set_append_right _ _ (by omega), List.set_append_right _ _ (by omega)]
  simp only [Nat.add_sub_cancel_left, Nat.sub_self, List.singleton_append, List.set_cons_succ, List.set_cons_zero]
  rw [take_next h, List.reverse_append]
  rfl
theorem Fares.insR_split : ∀ (acc : List Fares.Share) (x : Fares.Share) (t : Nat), t ≤ acc.length → (∀ s y, s < t → acc[s]? = some y → y.r < x.r) → (∀ y, acc[t]? = some y → ¬ y.r < x.r) → Fares.insR acc x = acc.take t ++ x :: acc.drop t
  | [], x, t, ht, _, _ => by
    obtain rfl : t = 0 := by simpa using ht
    rfl
  | y :: acc, x, 0, _, _, h => by
    have := h y rfl
    show (if y.r < x.r then _ else _) = _
    rw [if_neg this]
    rfl
  | y :: acc, x, t + 1, ht, h1, h2 => by
    have hy := h1 0 y (by omega) rfl
    show (if y.r < x.r then _ else _) = _
    rw [if_pos hy, Fares.insR_split acc x t (by simpa using ht) (fun s z hs hz => h1 (s + 1) z (by omega) (by simpa using hz)) (fun z hz => h2 z (by simpa using hz))]
    rfl
theorem Fares.insR_row {acc : List Fares.Share} {x : Fares.Share} {rest : List Fares.Share} {t : Nat} (ht : t ≤ acc.length) (h1 : ∀ s y, s < t → acc[s]? = some y → y.r < x.r) (h2 : ∀ y, acc[t]? = some y → ¬ y.r < x.r) :
    Fares.rowAt acc x rest t = (Fares.insR acc x).reverse ++ rest := by
  rw [Fares.insR_split acc x t ht h1 h2]
  unfold Fares.rowAt
  simp

theorem own_drewN {w : World} {base : Nat} {v : Value} {ys : List Fares.Share} (h : OwnShares w base v ys) (n : Nat) : OwnShares (w.drewN n) base v ys := h
set_option maxRecDepth 100000 in
set_option maxHeartbeats 2000000 in
theorem insertSort_any (gb n cap base : Nat) (xs : List Fares.Share) (w : World) (h : OwnShares w base (.slice (some ⟨gb, 0, none⟩) n cap) xs) (hn : xs.length = n) (hl : n ≤ 20) (hl1 : 1 ≤ n) :
    Calls Try.prog 52 #[.slice (some ⟨gb, 0, none⟩) n cap, .int .i64 0, .int .i64 n, .func (.func 38) #[] #[]] w fun e w' =>
      e = .returned (.tuple #[]) ∧ OwnShares w' base (.slice (some ⟨gb, 0, none⟩) n cap) (Fares.sortS xs) ∧ w.grownBy w' (some gb) := by
  have HN := Lib.hid hn; clear hn
  have Hown0 := Lib.hid h; clear h
  go_enter Try.func52, Try.ntmps52
  go_wp2
  go_loopw [8] (fun vi wr => ∃ i : Nat, vi = .int .i64 i ∧ 1 ≤ i ∧ i ≤ n ∧ OwnShares wr base (.slice (some ⟨gb, 0, none⟩) n cap) (((xs.take i).foldl Fares.insR []).reverse ++ xs.drop i) ∧ w.grownBy wr (some gb)) (fun vi _ => n - (intOf vi).toNat)
  case atStart =>
    refine ⟨1, rfl, Nat.le_refl _, hl1, ?_, grown_refl _ _⟩
    have e : ((xs.take 1).foldl Fares.insR []).reverse ++ xs.drop 1 = xs := by
      cases xs with
      | nil => rfl
      | cons x r => rfl
    rw [e]
    exact Hown0.out
  case round =>
    obtain ⟨i, rfl, hi1, hin, hown, hg⟩ := hrel
    have Hg := Lib.hid hg; clear hg
    by_cases hlt : i < n
    · obtain ⟨x, hx⟩ : ∃ x, xs[i]? = some x := ⟨_, List.getElem?_eq_getElem (by have := HN.out; omega)⟩
      obtain ⟨acc, hacc⟩ : ∃ acc, (xs.take i).foldl Fares.insR [] = acc := ⟨_, rfl⟩
      have hal : acc.length = i := by rw [← hacc, Fares.fold_insR_length]; simp; have := HN.out; omega
      have hd : xs.drop i = x :: xs.drop (i + 1) := Fares.drop_head hx
      have hnext : (xs.take (i + 1)).foldl Fares.insR [] = Fares.insR acc x := by rw [List.take_add_one, hx, List.foldl_append, hacc]; rfl
      rw [hacc, hd] at hown
      have Hnext := Lib.hid hnext; clear hnext
      have Hown := Lib.hid (show OwnShares wr base (.slice (some ⟨gb, 0, none⟩) n cap) (Fares.rowAt acc x (xs.drop (i + 1)) 0) from hown); clear hown
      have Hrl : Hid (∀ t, t ≤ i → (Fares.rowAt acc x (xs.drop (i + 1)) t).length = n) := fun t ht => by rw [Fares.rowAt_length _ _ _ _ (by omega), List.length_drop]; have := HN.out; omega
      have Hal := Lib.hid hal; clear hal hx hacc hd
      have i0 : (i : Int) < (n : Int) := by omega
      obtain ⟨wo, hwo⟩ : ∃ wo, wo = wr := ⟨_, rfl⟩
      subst hwo
      go_wp2
      go_loopw [9] (fun vj wr => ∃ t : Nat, t ≤ i ∧ vj = .int .i64 ((i - t : Nat) : Int) ∧ OwnShares wr base (.slice (some ⟨gb, 0, none⟩) n cap) (Fares.rowAt acc x (xs.drop (i + 1)) t) ∧ (∀ s y, s < t → acc[s]? = some y → y.r < x.r) ∧ wo.grownBy wr (some gb)) (fun vj _ => (intOf vj).toNat)
      case atStart => exact ⟨0, Nat.zero_le _, rfl, Hown.out, fun s y hs => by omega, grown_refl _ _⟩
      case round =>
        obtain ⟨t, hti, rfl, hown, hless, hg⟩ := hrel
        have Hless := Lib.hid hless; clear hless
        have Hown2 := Lib.hid hown; clear hown
        have Hg2 := Lib.hid hg; clear hg
        by_cases hj : t < i
        · obtain ⟨y, hy⟩ : ∃ y, acc[t]? = some y := ⟨_, List.getElem?_eq_getElem (by have := Hal.out; omega)⟩
          obtain ⟨jp, hjp⟩ : ∃ jp, i - t = jp + 1 := ⟨i - t - 1, by omega⟩
          have hjn : jp + 1 < n := by omega
          obtain ⟨g', cap', ev, hbg, hlg, hcap, hmx, hcell, hfree, hthere⟩ := own_at shareCells 3 (fun _ => rfl) Hown2.out (by rw [Hrl.out t hti]; omega)
          injection ev with ev1 ev2 ev3
          injection ev1 with ev1
          injection ev1 with ev1
          subst ev1
          clear ev2 ev3 hcap hmx hthere
          have hxk := Fares.rowAt_x acc x (xs.drop (i + 1)) t
          have hyk := Fares.rowAt_y (x := x) (rest := xs.drop (i + 1)) hy
          rw [Hal.out, hjp] at hxk hyk
          rw [Nat.add_sub_cancel] at hyk
          have p0 := hcell _ _ 0 _ hxk rfl
          have p1 := hcell _ _ 1 _ hxk rfl
          have p2 := hcell _ _ 2 _ hxk rfl
          have q0 := hcell _ _ 0 _ hyk rfl
          have q1 := hcell _ _ 1 _ hyk rfl
          have q2 := hcell _ _ 2 _ hyk rfl
          simp only [Nat.add_zero] at p0 q0
          have Hnx := Lib.hid (by have h9 := Fares.rowAt_next (x := x) (rest := xs.drop (i + 1)) hy; rw [Hal.out, hjp, Nat.add_sub_cancel] at h9; exact h9)
          have Hfree := Lib.hid hfree
          clear hcell hxk hyk hfree
          rw [hjp]
          have hjp' := Lib.hid hjp; clear hjp
          have a0 : (0 : Int) < (jp : Int) + 1 := by omega
          have a1 : (jp : Int) + 1 < (n : Int) := by omega
          have a2 : (0 : Int) ≤ (jp : Int) := by omega
          have a3 : (jp : Int) < (n : Int) := by omega
          have a4 : IntKind.i64.wrap ((jp : Int) + 1 - 1) = (jp : Int) := by rw [IntKind.wrap_i64]; omega
          have a5 : ((jp : Int) + 1).toNat = jp + 1 := by omega
          have a6 : (0 : Int) ≤ (jp : Int) + 1 := by omega
          have a7 : IntKind.i64.wrap (jp : Int) = (jp : Int) := IntWalk.i64_in _ (by omega)
          have m0 := fun x0 : WIn (fun w' => Below wr.heap.size wr w') => x0.cell p0 hlg
          have m1 := fun x0 : WIn (fun w' => Below wr.heap.size wr w') => x0.cell p1 hlg
          have m2 := fun x0 : WIn (fun w' => Below wr.heap.size wr w') => x0.cell p2 hlg
          have n0 := fun x0 : WIn (fun w' => Below wr.heap.size wr w') => x0.cell q0 hlg
          have n1 := fun x0 : WIn (fun w' => Below wr.heap.size wr w') => x0.cell q1 hlg
          have n2 := fun x0 : WIn (fun w' => Below wr.heap.size wr w') => x0.cell q2 hlg
          by_cases hc : y.r < x.r
          · obtain ⟨cv, hcv⟩ : ∃ cv, cmpOf y.r x.r = cv := ⟨_, rfl⟩
            have hneg : cv < 0 := by rw [← hcv]; exact cmpOf_neg.2 hc
            have Hc := Lib.hid hc; clear hc
            have Hcv := Lib.hid hcv; clear hcv
            go_wp2
            refine wp_region_win (B := fun w' => Below wr.heap.size wr w') (by kernel_rfl) (by kernel_rfl) (bD1 (Below.refl _ _)) ?_
            repeat (go_big_quiet_step (fail))
            go_big_quiet_step ((rename_i x0; refine WIn.calls (v := .int .i64 cv) ((shareCmp_any x y _).mono fun e w' he => ⟨by rw [he.1, Hcv.out], he.2⟩) (fun w' hb => bT x0.h hb)))
            repeat (go_big_quiet_step (fail))
            refine wpQuiet_nil ?_
            intro w9 hw'
            obtain ⟨⟨wq, hb9⟩, e8⟩ := hw'
            dsimp only at e8
            subst wq
            have hb9' : Below wr.heap.size wr w9 := hb9
            have p0 := (hb9'.cell (p := ⟨gb, _, none⟩) hlg).trans p0
            have p1 := (hb9'.cell (p := ⟨gb, _, none⟩) hlg).trans p1
            have p2 := (hb9'.cell (p := ⟨gb, _, none⟩) hlg).trans p2
            have q0 := (hb9'.cell (p := ⟨gb, _, none⟩) hlg).trans q0
            have q1 := (hb9'.cell (p := ⟨gb, _, none⟩) hlg).trans q1
            have q2 := (hb9'.cell (p := ⟨gb, _, none⟩) hlg).trans q2
            have f0 := (hb9'.frozen (p := ⟨gb, (jp + 1) * 3, none⟩) hlg).trans (Hfree.out _)
            have f1 := (hb9'.frozen (p := ⟨gb, (jp + 1) * 3 + 1, none⟩) hlg).trans (Hfree.out _)
            have f2 := (hb9'.frozen (p := ⟨gb, (jp + 1) * 3 + 2, none⟩) hlg).trans (Hfree.out _)
            have g0 := (hb9'.frozen (p := ⟨gb, jp * 3, none⟩) hlg).trans (Hfree.out _)
            have g1 := (hb9'.frozen (p := ⟨gb, jp * 3 + 1, none⟩) hlg).trans (Hfree.out _)
            have g2 := (hb9'.frozen (p := ⟨gb, jp * 3 + 2, none⟩) hlg).trans (Hfree.out _)
            have Hown9 := Lib.hid (OwnShares.below Hown2.out hb9')
            have HB9 := Lib.hid hb9'
            clear m0 m1 m2 n0 n1 n2 hb9 hb9'
            have HO9 := Lib.hid (show OwnShares ((w9.setCells gb ((jp + 1) * 3) (shareCells y)).setCells gb (jp * 3) (shareCells x)).drew base (.slice (some ⟨gb, 0, none⟩) n cap) (Fares.rowAt acc x (xs.drop (i + 1)) (t + 1)) by
              rw [← Hnx.out]
              refine ownDrew ?_
              exact OwnShares.put (x := x) (d := jp) (OwnShares.put (w := w9) (x := y) (d := jp + 1) Hown9.out (Hrl.out t hti) (by rw [Hrl.out t hti]; omega)) (by rw [List.length_set]; exact Hrl.out t hti) (by rw [List.length_set, Hrl.out t hti]; omega))
            have HG9 := Lib.hid (show wo.grownBy ((w9.setCells gb ((jp + 1) * 3) (shareCells y)).setCells gb (jp * 3) (shareCells x)).drew (some gb) from grownDrew (grown_setCells (g := gb) (shareCells x) (w9.setCells gb ((jp + 1) * 3) (shareCells y)) (jp * 3) (grown_setCells (g := gb) (shareCells y) w9 ((jp + 1) * 3) (grown_trans Hg2.out (grown_of_below HB9.out _)))))
            clear Hown9 HB9 Hnx
            go_wp2
            go_region
            go_wp2
            go_roundw
            case rel => exact ⟨t + 1, by omega, by have h9 := hjp'.out; first | rfl | (congr 1; omega), HO9.out, fun s z hs hz => by
              rcases Nat.lt_or_ge s t with h | h
              · exact Hless.out s z h hz
              · have e : s = t := by omega
                subst e
                rw [hy] at hz
                injection hz with hz
                rw [← hz]
                exact Hc.out, HG9.out⟩
            case measure => first | (simp [intOf]; done) | (simp [intOf]; omega)
          · obtain ⟨cv, hcv⟩ : ∃ cv, cmpOf y.r x.r = cv := ⟨_, rfl⟩
            have hneg : ¬ cv < 0 := by rw [← hcv]; exact fun h => hc (cmpOf_neg.1 h)
            have Hc := Lib.hid hc; clear hc
            have Hcv := Lib.hid hcv; clear hcv
            go_wp2
            refine wp_region_win (B := fun w' => Below wr.heap.size wr w') (by kernel_rfl) (by kernel_rfl) (bD1 (Below.refl _ _)) ?_
            repeat (go_big_quiet_step (fail))
            go_big_quiet_step ((rename_i x0; refine WIn.calls (v := .int .i64 cv) ((shareCmp_any x y _).mono fun e w' he => ⟨by rw [he.1, Hcv.out], he.2⟩) (fun w' hb => bT x0.h hb)))
            repeat (go_big_quiet_step (fail))
            refine wpQuiet_nil ?_
            intro w9 hw'
            obtain ⟨⟨wq, hb9⟩, e8⟩ := hw'
            dsimp only at e8
            subst wq
            have hb9' : Below wr.heap.size wr w9 := hb9
            have Hown9 := Lib.hid (OwnShares.below Hown2.out hb9')
            have HB9 := Lib.hid hb9'
            have Hrow := Lib.hid (Fares.insR_row (rest := xs.drop (i + 1)) (by have := Hal.out; omega) Hless.out (fun z hz => by rw [hy] at hz; injection hz with hz; rw [← hz]; have := Hc.out; omega))
            clear m0 m1 m2 n0 n1 n2 hb9 hb9'
            go_wp2
            go_roundw
            case rel => exact ⟨i + 1, by go_num, by omega, by omega, by rw [Hnext.out, ← Hrow.out]; exact Hown9.out, grown_trans Hg.out (grown_trans Hg2.out (grown_of_below HB9.out _))⟩
            case measure => simp [intOf]; omega
        · obtain rfl : t = i := by omega
          have Hrow := Lib.hid (Fares.insR_row (x := x) (rest := xs.drop (t + 1)) (by have := Hal.out; omega) Hless.out (fun z hz => by have := (List.getElem?_eq_some_iff.1 hz).1; have := Hal.out; omega))
          rw [Nat.sub_self]
          go_wp2
          go_quiet (fail)
          go_wp2
          go_roundw
          case rel => exact ⟨t + 1, by go_num, by omega, by omega, by rw [Hnext.out, ← Hrow.out]; first | exact Hown2.out | exact own_drewN Hown2.out _, by first | exact grown_trans Hg.out Hg2.out | exact grown_trans Hg.out (grown_drewN Hg2.out _)⟩
          case measure => simp [intOf]; omega
    · rw [List.take_of_length_le (by have := HN.out; omega), List.drop_of_length_le (by have := HN.out; omega), List.append_nil] at hown
      have Hown := Lib.hid (show OwnShares wr base (.slice (some ⟨gb, 0, none⟩) n cap) (Fares.sortS xs) from hown); clear hown
      have i9 : ¬ ((i : Int) < (n : Int)) := by omega
      go_wp2
      exact bodyPost_end (results_none rfl _ _ _) rfl ⟨rfl, Hown.out, Hg.out⟩
set_option maxRecDepth 100000 in
set_option maxHeartbeats 2000000 in
theorem stableSort_any (gb n cap base : Nat) (xs : List Fares.Share) (w : World) (h : OwnShares w base (.slice (some ⟨gb, 0, none⟩) n cap) xs) (hn : xs.length = n) (hl : n < 20) (hl1 : 1 ≤ n) :
    Calls Try.prog 50 #[.slice (some ⟨gb, 0, none⟩) n cap, .int .i64 n, .func (.func 38) #[] #[]] w fun e w' =>
      e = .returned (.tuple #[]) ∧ OwnShares w' base (.slice (some ⟨gb, 0, none⟩) n cap) (Fares.sortS xs) ∧ w.grownBy w' (some gb) := by
  have HN := Lib.hid hn; clear hn
  have Hown0 := Lib.hid h; clear h
  have i1 : ¬ (20 : Int) ≤ (n : Int) := by omega
  have i2 : ¬ (20 : Int) < (n : Int) := by omega
  go_enter Try.func50, Try.ntmps50
  go_wp2
  go_loopw [7, 8] (fun a b wr => a = .int .i64 0 ∧ b = .int .i64 20 ∧ wr = w) (fun _ _ _ => 0)
  case atStart => exact ⟨rfl, rfl, rfl⟩
  case round =>
    obtain ⟨rfl, rfl, rfl⟩ := hrel
    go_wp2_with fail
    refine (insertSort_any gb n cap base xs _ Hown0.out HN.out (by omega) hl1).mono ?_
    rintro e w1 ⟨rfl, ho, hg⟩
    have Ho := Lib.hid ho; clear ho
    have Hg := Lib.hid hg; clear hg
    go_wp2
    go_loopw [6] (fun a wr => a = .int .i64 20 ∧ wr = w1) (fun _ _ => 0)
    case atStart => exact ⟨rfl, rfl⟩
    case round =>
      obtain ⟨rfl, rfl⟩ := hrel
      go_wp2
      exact bodyPost_end (results_none rfl _ _ _) rfl ⟨rfl, Ho.out, Hg.out⟩
set_option maxHeartbeats 1000000 in
theorem sortStable_any (gb n cap base : Nat) (xs : List Fares.Share) (w : World) (h : OwnShares w base (.slice (some ⟨gb, 0, none⟩) n cap) xs) (hn : xs.length = n) (hl : n < 20) (hl1 : 1 ≤ n) :
    Calls Try.prog 37 #[.slice (some ⟨gb, 0, none⟩) n cap, .func (.func 38) #[] #[]] w fun e w' =>
      e = .returned (.tuple #[]) ∧ OwnShares w' base (.slice (some ⟨gb, 0, none⟩) n cap) (Fares.sortS xs) ∧ w.grownBy w' (some gb) := by
  have HN := Lib.hid hn; clear hn
  go_enter Try.func37, Try.ntmps37
  go_wp2_with fail
  refine (stableSort_any gb n cap base xs _ h HN.out hl hl1).mono ?_
  rintro e w1 ⟨rfl, ho, hg⟩
  have Ho := Lib.hid ho; clear ho
  have Hg := Lib.hid hg; clear hg
  go_wp2
  exact bodyPost_end (results_none rfl _ _ _) rfl ⟨rfl, Ho.out, Hg.out⟩
end Go.Proofs.Ytgecgjndbaeahaa
