/-
  Chapter 3: the place of a tap in taps in order; a copy of taps.
-/
import Derived.Test.YtmbgaohnnkmidaaTapFn
import Derived.Test.YtmbgaohnnkmidaaTapLaw
import Derived.Test.YtmbgaohnnkmidaaAddMath
import Derived.Test.YtmbgaohnnkmidaaAppendSrc
import Derived.Test.YtmbgaohnnkmidaaOver2
import Derived.Test.YtmbgaohnnkmidaaTouch
import Derived.Test.YtmbgaohnnkmidaaInsTap
import Derived.Deep.AppendLies
import Derived.Lib.SliceRun
set_option linter.unusedSimpArgs false
namespace Go.Proofs.Ytmbgaohnnkmidaa
open Go.RowKit Go.Deep
set_option linter.unusedVariables false

namespace Fares
theorem compare_neg (a b : Tap) : decide (compareTaps a b < 0) = earlier a b := by
  have h := compare_earlier a b
  by_cases hc : compareTaps a b < 0
  · rw [decide_eq_true hc]
    rw [decide_eq_false (by omega)] at h
    simpa using h
  · rw [decide_eq_false hc]
    rw [decide_eq_true (by omega)] at h
    simpa using h
def InOrder (xs : List Tap) : Prop := xs.Pairwise (fun a b => earlier a b = true)
theorem inOrder_of {xs : List Tap} (h : validTaps xs = true) : InOrder xs := (valid_pairs.1 h).2.2.imp (fun h => h.1)
def PlaceT (xs : List Tap) (t : Tap) (i j : Nat) : Prop := (∀ k x, k < i → xs[k]? = some x → earlier x t = true) ∧ (∀ k x, j ≤ k → xs[k]? = some x → earlier x t = false)
theorem PlaceT.up {xs : List Tap} {t x : Tap} {i j h : Nat} (hs : PlaceT xs t i j) (hp : InOrder xs) (hx : xs[h]? = some x) (hd : earlier x t = true) : PlaceT xs t (h + 1) j :=
  ⟨fun k y hk hy => by
    obtain ⟨h1, e1⟩ := List.getElem?_eq_some_iff.1 hy
    obtain ⟨h2, e2⟩ := List.getElem?_eq_some_iff.1 hx
    rcases Nat.lt_or_ge k h with hlt | hge
    · have := List.pairwise_iff_getElem.1 hp k h h1 h2 hlt
      rw [e1, e2] at this
      exact earlier_trans this hd
    · obtain rfl : k = h := by omega
      rw [hx] at hy; injection hy with hy; subst hy; exact hd, hs.2⟩
theorem PlaceT.down {xs : List Tap} {t x : Tap} {i j h : Nat} (hs : PlaceT xs t i j) (hp : InOrder xs) (hx : xs[h]? = some x) (hd : earlier x t = false) : PlaceT xs t i h :=
  ⟨hs.1, fun k y hk hy => by
    obtain ⟨h1, e1⟩ := List.getElem?_eq_some_iff.1 hy
    obtain ⟨h2, e2⟩ := List.getElem?_eq_some_iff.1 hx
    rcases Nat.lt_or_ge h k with hlt | hge
    · have := List.pairwise_iff_getElem.1 hp h k h2 h1 hlt
      rw [e1, e2] at this
      cases hy2 : earlier y t with
      | false => rfl
      | true => rw [earlier_trans this hy2] at hd; cases hd
    · obtain rfl : k = h := by omega
      rw [hx] at hy; injection hy with hy; subst hy; exact hd⟩
theorem later_of {x t : Tap} (h1 : earlier x t = false) (h2 : sameTap x t = false) : earlier t x = true := by
  unfold earlier sameTap at *
  simp only [decide_eq_true_eq, decide_eq_false_iff_not] at *
  omega
theorem insertTap_at {xs : List Tap} {t : Tap} {i : Nat} (hi : i ≤ xs.length) (hs : PlaceT xs t i i) (hn : known xs t = false) : insertTap xs t = xs.take i ++ t :: xs.drop i := by
  have e1 : xs.filter (fun o => earlier o t) = xs.take i := by
    conv => lhs; rw [← List.take_append_drop i xs]
    rw [List.filter_append]
    have f1 : (xs.take i).filter (fun o => earlier o t) = xs.take i := by
      rw [List.filter_eq_self]
      intro x hx
      obtain ⟨k, hk, e⟩ := List.mem_iff_getElem.1 hx
      rw [List.length_take] at hk
      rw [List.getElem_take] at e
      exact hs.1 k x (by omega) (by rw [List.getElem?_eq_getElem (by omega), e])
    have f2 : (xs.drop i).filter (fun o => earlier o t) = [] := by
      rw [List.filter_eq_nil_iff]
      intro x hx
      obtain ⟨k, hk, e⟩ := List.mem_iff_getElem.1 hx
      rw [List.getElem_drop] at e
      have := hs.2 (i + k) x (by omega) (by rw [List.getElem?_eq_getElem (by rw [List.length_drop] at hk; omega), e])
      rw [this]; simp
    rw [f1, f2, List.append_nil]
  have e2 : xs.filter (fun o => earlier t o) = xs.drop i := by
    conv => lhs; rw [← List.take_append_drop i xs]
    rw [List.filter_append]
    have f1 : (xs.take i).filter (fun o => earlier t o) = [] := by
      rw [List.filter_eq_nil_iff]
      intro x hx
      obtain ⟨k, hk, e⟩ := List.mem_iff_getElem.1 hx
      rw [List.length_take] at hk
      rw [List.getElem_take] at e
      have := hs.1 k x (by omega) (by rw [List.getElem?_eq_getElem (by omega), e])
      rw [earlier_apart t x this]; simp
    have f2 : (xs.drop i).filter (fun o => earlier t o) = xs.drop i := by
      rw [List.filter_eq_self]
      intro x hx
      have hm : x ∈ xs := List.mem_of_mem_drop hx
      obtain ⟨k, hk, e⟩ := List.mem_iff_getElem.1 hx
      rw [List.getElem_drop] at e
      have := hs.2 (i + k) x (by omega) (by rw [List.getElem?_eq_getElem (by rw [List.length_drop] at hk; omega), e])
      exact later_of this (known_false.1 hn x hm)
    rw [f1, f2, List.nil_append]
  unfold insertTap
  rw [e1, e2, List.append_assoc]
  rfl
end Fares

set_option maxRecDepth 100000 in
set_option maxHeartbeats 2000000 in
theorem searchTap_any (A : Option Addr) (n c : Nat) (xs : List Fares.Tap) (t : Fares.Tap) (w : World) (hx : Taps w w.heap.size A xs) (hn : xs.length = n) (hl : n ≤ 1000000) (hp : Fares.InOrder xs) :
    Calls Try.prog 48 #[.slice A n c, tapV t, .func (.func 49) #[] #[]] w fun e w' =>
      ∃ (i : Nat) (b : Bool), e = .returned (.tuple #[.int .i64 i, .bool b]) ∧ i ≤ n ∧ Fares.PlaceT xs t i i ∧ Below w.heap.size w w' := by
  subst hn
  have Hp := Lib.hid hp; clear hp
  have Hx := Lib.hid hx; clear hx
  have HV : Hid (tapV t = .agg #[.int .i64 t.v, .int .i64 t.n, .int .i64 t.c, .int .i64 t.m, .int .i64 t.s, .bool t.o]) := rfl
  rw [HV.out]
  go_enter Try.func48, Try.ntmps48
  go_wp2
  go_loopw [9, 10] (fun p q wr => ∃ i j : Nat, i ≤ j ∧ j ≤ xs.length ∧ p = .int .i64 i ∧ q = .int .i64 j ∧ Hid (Fares.PlaceT xs t i j) ∧ TapBox wr w.heap.size t ∧ Below w.heap.size w wr) (fun p q _ => (intOf q).toNat - (intOf p).toNat)
  case atStart => exact ⟨0, xs.length, Nat.zero_le _, Nat.le_refl _, rfl, rfl, (⟨fun k x hk => absurd hk (by omega), fun k x hk hx => absurd (List.getElem?_eq_some_iff.1 hx).1 (by omega)⟩ : Fares.PlaceT xs t 0 xs.length), TapBox.new w t _, bA (Below.refl _ _) _⟩
  case round =>
    obtain ⟨i, j, hij, hj, rfl, rfl, HS, hbx, hb⟩ := hrel
    obtain ⟨hbl, q0, q1, q2, q3, q4, q5⟩ := id hbx
    have HBX := Lib.hid hbx; clear hbx
    by_cases hlt : i < j
    · obtain ⟨h, hhe⟩ : ∃ h, (i + j) / 2 = h := ⟨_, rfl⟩
      have hmid : ((i : Int) + (j : Int)) / 2 = (h : Int) := by omega
      have hh : h < xs.length := by omega
      have hi0 : (0 : Int) ≤ (h : Int) := by omega
      have hi1 : (h : Int) < (xs.length : Int) := by omega
      obtain ⟨x, hxk⟩ : ∃ x, xs[h]? = some x := ⟨xs[h], List.getElem?_eq_getElem hh⟩
      obtain ⟨b1, o1, rfl, hb1, hr1⟩ := Taps.row Hx.out (by omega)
      obtain ⟨p0, p1, p2, p3, p4, p5⟩ := (hr1 _ x hxk).below hb hb1
      have HX := Lib.hid hxk
      clear hr1 hxk
      have hcn := Fares.compare_neg x t
      obtain ⟨cv, hcv⟩ : ∃ cv, Fares.compareTaps x t = cv := ⟨_, rfl⟩
      rw [hcv] at hcn
      have HC := Lib.hid hcv; clear hcv
      cases he : Fares.earlier x t
      · rw [he, decide_eq_false_iff_not] at hcn
        go_wp2
        go_region_held3 (fun w' => w'.cell? ⟨b1, o1 + h * 6, none⟩ = some (.int .i64 x.v) ∧ w'.cell? ⟨b1, o1 + h * 6 + 1, none⟩ = some (.int .i64 x.n) ∧ w'.cell? ⟨b1, o1 + h * 6 + 2, none⟩ = some (.int .i64 x.c) ∧ w'.cell? ⟨b1, o1 + h * 6 + 3, none⟩ = some (.int .i64 x.m) ∧ w'.cell? ⟨b1, o1 + h * 6 + 4, none⟩ = some (.int .i64 x.s) ∧ w'.cell? ⟨b1, o1 + h * 6 + 5, none⟩ = some (.bool x.o) ∧ w'.cell? ⟨w.heap.size, 0, none⟩ = some (.int .i64 t.v) ∧ w'.cell? ⟨w.heap.size, 1, none⟩ = some (.int .i64 t.n) ∧ w'.cell? ⟨w.heap.size, 2, none⟩ = some (.int .i64 t.c) ∧ w'.cell? ⟨w.heap.size, 3, none⟩ = some (.int .i64 t.m) ∧ w'.cell? ⟨w.heap.size, 4, none⟩ = some (.int .i64 t.s) ∧ w'.cell? ⟨w.heap.size, 5, none⟩ = some (.bool t.o))
          (first | go_keep | (go_split_ands; refine ⟨?_, ?_, ?_, ?_, ?_, ?_, ?_, ?_, ?_, ?_, ?_, ?_⟩ <;> (first | (exact (hb2.cell (show b1 < wr.heap.size by have := hb.size; omega)).trans (by assumption)) | (exact (hb2.cell (show w.heap.size < wr.heap.size from hbl)).trans (by assumption)))))
          (first | (go_at_call 49; refine (compareTaps_any x t _).mono ?_; rw [HC.out]; rintro e w1 ⟨rfl, hb2⟩; have hbx1 : TapBox w1 w.heap.size t := (show TapBox wr.drew w.heap.size t from HBX.out).below hb2 hbl; have hb3 : Below w.heap.size w w1 := bT (bD1 hb) hb2))
        go_wp2
        go_roundw
        case rel => exact ⟨i, h, by omega, by omega, rfl, rfl, (HS.out.down Hp.out HX.out he : Fares.PlaceT xs t i h), hbx1, hb3⟩
        case measure => simp [intOf]; omega
      · rw [he, decide_eq_true_eq] at hcn
        go_wp2
        go_region_held3 (fun w' => w'.cell? ⟨b1, o1 + h * 6, none⟩ = some (.int .i64 x.v) ∧ w'.cell? ⟨b1, o1 + h * 6 + 1, none⟩ = some (.int .i64 x.n) ∧ w'.cell? ⟨b1, o1 + h * 6 + 2, none⟩ = some (.int .i64 x.c) ∧ w'.cell? ⟨b1, o1 + h * 6 + 3, none⟩ = some (.int .i64 x.m) ∧ w'.cell? ⟨b1, o1 + h * 6 + 4, none⟩ = some (.int .i64 x.s) ∧ w'.cell? ⟨b1, o1 + h * 6 + 5, none⟩ = some (.bool x.o) ∧ w'.cell? ⟨w.heap.size, 0, none⟩ = some (.int .i64 t.v) ∧ w'.cell? ⟨w.heap.size, 1, none⟩ = some (.int .i64 t.n) ∧ w'.cell? ⟨w.heap.size, 2, none⟩ = some (.int .i64 t.c) ∧ w'.cell? ⟨w.heap.size, 3, none⟩ = some (.int .i64 t.m) ∧ w'.cell? ⟨w.heap.size, 4, none⟩ = some (.int .i64 t.s) ∧ w'.cell? ⟨w.heap.size, 5, none⟩ = some (.bool t.o))
          (first | go_keep | (go_split_ands; refine ⟨?_, ?_, ?_, ?_, ?_, ?_, ?_, ?_, ?_, ?_, ?_, ?_⟩ <;> (first | (exact (hb2.cell (show b1 < wr.heap.size by have := hb.size; omega)).trans (by assumption)) | (exact (hb2.cell (show w.heap.size < wr.heap.size from hbl)).trans (by assumption)))))
          (first | (go_at_call 49; refine (compareTaps_any x t _).mono ?_; rw [HC.out]; rintro e w1 ⟨rfl, hb2⟩; have hbx1 : TapBox w1 w.heap.size t := (show TapBox wr.drew w.heap.size t from HBX.out).below hb2 hbl; have hb3 : Below w.heap.size w w1 := bT (bD1 hb) hb2))
        go_wp2
        go_roundw
        case rel => exact ⟨h + 1, j, by omega, hj, by first | rfl | go_num, rfl, (HS.out.up Hp.out HX.out he : Fares.PlaceT xs t (h + 1) j), hbx1, hb3⟩
        case measure => simp [intOf]; omega
    · obtain rfl : i = j := by omega
      by_cases hil : i < xs.length
      · obtain ⟨x, hxk⟩ : ∃ x, xs[i]? = some x := ⟨xs[i], List.getElem?_eq_getElem hil⟩
        obtain ⟨b1, o1, rfl, hb1, hr1⟩ := Taps.row Hx.out (by omega)
        obtain ⟨p0, p1, p2, p3, p4, p5⟩ := (hr1 _ x hxk).below hb hb1
        clear hr1 hxk
        have i1 : decide ((i : Int) < (xs.length : Int)) = true := by simp; omega
        go_wp2
        go_region_held3 (fun w' => w'.cell? ⟨b1, o1 + i * 6, none⟩ = some (.int .i64 x.v) ∧ w'.cell? ⟨b1, o1 + i * 6 + 1, none⟩ = some (.int .i64 x.n) ∧ w'.cell? ⟨b1, o1 + i * 6 + 2, none⟩ = some (.int .i64 x.c) ∧ w'.cell? ⟨b1, o1 + i * 6 + 3, none⟩ = some (.int .i64 x.m) ∧ w'.cell? ⟨b1, o1 + i * 6 + 4, none⟩ = some (.int .i64 x.s) ∧ w'.cell? ⟨b1, o1 + i * 6 + 5, none⟩ = some (.bool x.o) ∧ w'.cell? ⟨w.heap.size, 0, none⟩ = some (.int .i64 t.v) ∧ w'.cell? ⟨w.heap.size, 1, none⟩ = some (.int .i64 t.n) ∧ w'.cell? ⟨w.heap.size, 2, none⟩ = some (.int .i64 t.c) ∧ w'.cell? ⟨w.heap.size, 3, none⟩ = some (.int .i64 t.m) ∧ w'.cell? ⟨w.heap.size, 4, none⟩ = some (.int .i64 t.s) ∧ w'.cell? ⟨w.heap.size, 5, none⟩ = some (.bool t.o))
          (first | go_keep | (go_split_ands; refine ⟨?_, ?_, ?_, ?_, ?_, ?_, ?_, ?_, ?_, ?_, ?_, ?_⟩ <;> (first | (exact (hb2.cell (show b1 < wr.heap.size by have := hb.size; omega)).trans (by assumption)) | (exact (hb2.cell (show w.heap.size < wr.heap.size from hbl)).trans (by assumption)))))
          (first | (go_at_call 49; refine (compareTaps_any x t _).mono ?_; rintro e w1 ⟨rfl, hb2⟩; have hb3 : Below w.heap.size w w1 := bT (bD1 hb) hb2))
        go_wp2
        go_ret2
        exact ⟨i, _, rfl, by omega, HS.out, hb3⟩
      · have i1 : decide ((i : Int) < (xs.length : Int)) = false := by simp; omega
        go_wp2
        go_quiet (fail)
        go_wp2
        go_ret2
        exact ⟨i, _, rfl, by omega, HS.out, bD hb _⟩

set_option maxRecDepth 100000 in
set_option maxHeartbeats 1000000 in
theorem cloneTaps2_any (A : Option Addr) (n c : Nat) (xs : List Fares.Tap) (w : World) (hx : Reads w w.heap.size A (xs.flatMap tapCells)) (hn : xs.length = n) (hA : NilOk A n c) (hl : n ≤ 1000000) :
    Calls Try.prog 47 #[.slice A n c] w fun e w' => ∃ v, e = .returned v ∧ OwnTaps w' w.heap.size v xs ∧ Below w.heap.size w w' := by
  subst hn
  obtain ⟨ti, hi0, hz0, hz1, hz2⟩ := info_parts info_insTap
  have HITap := Lib.hid hi0; clear hi0
  have HZ0Tap := Lib.hid hz0; clear hz0
  have HZ1Tap := Lib.hid hz1; clear hz1
  have HZ2Tap := Lib.hid hz2; clear hz2
  cases A with
  | none =>
    have qe := fun (w : World) => Lib.run_eql_slice_nil w _ _ none 0 0 0 0 Try.underlying26
    obtain ⟨h1, h2⟩ := hA rfl
    have e0 : xs = [] := List.eq_nil_of_length_eq_zero h1
    subst e0
    subst h2
    go_enter Try.func47, Try.ntmps47
    go_wp2
    go_ret
    exact ⟨_, rfl, World.ownsRow_nil _ _ _ _, Below.refl _ _⟩
  | some ad =>
    have qe := fun (w : World) => Lib.run_eql_slice_nil w _ _ (some ad) xs.length c 0 0 Try.underlying26
    have HA := Lib.hid (show (some ad : Option Addr) = none → xs.length = 0 ∧ c = 0 from fun e => by cases e)
    have Hx := Lib.hid hx; clear hx
    have HB := Lib.hid (Below.refl w.heap.size w)
    clear hA
    have Hnew := Lib.hid (World.ownsRow_lit (base := w.heap.size) (e := 30) (size := 6) w #[] 0 (Nat.le_refl _) (by unfold maxLen; omega) rfl)
    go_enter Try.func47, Try.ntmps47
    have hsz1 := (HB.out).size
    go_wp2_with (at_builtin; refine append_src rfl (.tmp 5) (.tmp 6) _ rfl (w.heap.size) 30 ti _ 6 48 Try.underlying26 HITap.out HZ0Tap.out HZ1Tap.out HZ2Tap.out rfl (by omega) _ 0 _ rfl Hnew.out ((some ad)) (xs.length) (c) _ (xs.flatMap tapCells) rfl HA.out (by rw [flat_length tapCells 6 (fun _ => rfl)]) (readsOver Hx.out (bA HB.out _)) (one_flat tapCells (by intro x u hu; simp only [tapCells, List.mem_cons, List.not_mem_nil, or_false] at hu; rcases hu with rfl | rfl | rfl | rfl | rfl | rfl <;> rfl) _) (by unfold maxLen; omega) (by omega) (by first | omega | (simp; omega) | simp) ?_)
    intro v1 w1 hown1 hgrow1 hat1
    have HBo1 := Lib.hid (Below.grown (bA HB.out _) hgrow1 (Below.size (bA HB.out _)) (fun r hr => (World.ownsRow.lt Hnew.out r hr).1))
    clear HB
    have HX1 := Lib.hid hown1; clear hown1 hgrow1 hat1 Hnew
    go_wp2
    go_ret
    exact ⟨_, rfl, by unfold OwnTaps; have h := HX1.out; simpa using h, HBo1.out⟩
end Go.Proofs.Ytmbgaohnnkmidaa
