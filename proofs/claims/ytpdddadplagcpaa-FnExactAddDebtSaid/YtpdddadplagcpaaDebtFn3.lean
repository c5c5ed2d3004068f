/-
  Chapter 16: sums of debts; a place in sorted debts; old debts.
-/
import Derived.Test.YtpdddadplagcpaaDebtFn2
import Derived.Test.YtpdddadplagcpaaAppendSrc
import Derived.Test.YtpdddadplagcpaaOver2
import Derived.Test.YtpdddadplagcpaaTouch
import Derived.Deep.AppendLies
import Derived.Lib.SliceRun
set_option linter.unusedSimpArgs false
namespace Go.Proofs.Ytpdddadplagcpaa
open Go.RowKit Go.Deep
set_option linter.unusedVariables false

set_option maxRecDepth 100000 in
set_option maxHeartbeats 2000000 in
theorem specDebtOf_any (A : Option Addr) (n c : Nat) (xs : List Fares.Debt) (w : World) (hx : Debts w w.heap.size A xs) (hn : xs.length = n) (hl : n ≤ 1000000000) :
    Calls Try.prog 23 #[.slice A n c] w fun e w' => e = .returned (.int .i64 (Fares.debtOf xs)) ∧ Below w.heap.size w w' := by
  subst hn
  have Hd : Hid (Fares.debtOf xs = if Fares.validDebts xs then Fares.debtSum xs else -1) := rfl
  have Hx := Lib.hid hx; clear hx
  go_enter Try.func23, Try.ntmps23
  go_wp2_with fail
  refine (specvalidDebts_any A _ c xs _ Hx.out rfl hl).mono ?_
  rintro e w1 ⟨rfl, hb⟩
  cases hv : Fares.validDebts xs
  · go_wp2
    go_ret
    exact ⟨ret_int (by rw [Hd.out, hv]; rfl), hb⟩
  · have hok := (Fares.validDebts_iff xs).1 hv
    have Hs := Lib.hid (fun k => Fares.debtSum_take hok k)
    have Ha := Lib.hid hok; clear hok
    have Hy := Lib.hid ((Hx.out.below hb (Nat.le_refl _)).more hb.size)
    go_wp2
    go_loop [4, 3] (fun i v => ∃ k : Nat, k ≤ xs.length ∧ i = .int .i64 k ∧ v = .int .i64 (Fares.debtSum (xs.take k))) (fun i _ => xs.length - (intOf i).toNat)
    case atStart => exact ⟨0, Nat.zero_le _, rfl, rfl⟩
    case round =>
      obtain ⟨k, hk, rfl, rfl⟩ := hrel
      obtain ⟨s0, s1⟩ := Hs.out k
      by_cases hlt : k < xs.length
      · obtain ⟨x, hxk⟩ : ∃ x, xs[k]? = some x := ⟨xs[k], List.getElem?_eq_getElem hlt⟩
        obtain ⟨a0, a1, a2, a3⟩ := Ha.out.1 x (List.mem_of_getElem? hxk)
        have Hn := Lib.hid (Fares.debtSum_next hxk)
        obtain ⟨b1, o1, rfl, hb1, hr1⟩ := Hy.out.row (by omega)
        obtain ⟨p0, p1⟩ := hr1 k x hxk
        clear hr1 hxk
        generalize Fares.debtSum (xs.take k) = s at s0 s1 Hn ⊢
        have i0 : (0 : Int) ≤ (k : Int) := by omega
        have i1 : (k : Int) < (xs.length : Int) := by omega
        go_wp2
        go_round
        case rel => exact ⟨k + 1, by omega, by go_num, by rw [Hn.out]⟩
        case measure => simp [intOf]; omega
      · have i1 : ¬ (k : Int) < (xs.length : Int) := by omega
        go_wp2
        go_ret
        exact ⟨ret_int (by rw [Hd.out, hv, if_pos rfl, List.take_of_length_le (by omega)]), hb⟩

set_option maxRecDepth 100000 in
set_option maxHeartbeats 2000000 in
theorem implDebtOf_any (A : Option Addr) (n c : Nat) (xs : List Fares.Debt) (w : World) (hx : Debts w w.heap.size A xs) (hn : xs.length = n) (hl : n ≤ 1000000000) :
    Calls Try.prog 22 #[.slice A n c] w fun e w' => e = .returned (.int .i64 (Fares.debtOf xs)) ∧ Below w.heap.size w w' := by
  subst hn
  have Hd : Hid (Fares.debtOf xs = if Fares.validDebts xs then Fares.debtSum xs else -1) := rfl
  have Hx := Lib.hid hx; clear hx
  go_enter Try.func22, Try.ntmps22
  go_wp2_with fail
  refine (implValidDebts_any A _ c xs _ Hx.out rfl (by omega)).mono ?_
  rintro e w1 ⟨rfl, hb⟩
  cases hv : Fares.validDebts xs
  · go_wp2
    go_ret
    exact ⟨ret_int (by rw [Hd.out, hv]; rfl), hb⟩
  · have hok := (Fares.validDebts_iff xs).1 hv
    have Hs := Lib.hid (fun k => Fares.debtSum_take hok k)
    have Ha := Lib.hid hok; clear hok
    have Hy := Lib.hid ((Hx.out.below hb (Nat.le_refl _)).more hb.size)
    go_wp2
    go_loopw [11, 3] (fun i v wr => ∃ k : Nat, k ≤ xs.length ∧ i = .int .i64 k ∧ v = .int .i64 (Fares.debtSum (xs.take k)) ∧ Below w1.heap.size w1 wr) (fun i _ _ => xs.length - (intOf i).toNat)
    case atStart => exact ⟨0, Nat.zero_le _, rfl, rfl, Below.refl _ _⟩
    case round =>
      obtain ⟨k, hk, rfl, rfl, hb2⟩ := hrel
      obtain ⟨s0, s1⟩ := Hs.out k
      by_cases hlt : k < xs.length
      · obtain ⟨x, hxk⟩ : ∃ x, xs[k]? = some x := ⟨xs[k], List.getElem?_eq_getElem hlt⟩
        obtain ⟨a0, a1, a2, a3⟩ := Ha.out.1 x (List.mem_of_getElem? hxk)
        have Hn := Lib.hid (Fares.debtSum_next hxk)
        obtain ⟨b1, o1, rfl, hb1, hr1⟩ := Hy.out.row (by omega)
        obtain ⟨p0, p1⟩ := (hr1 k x hxk).below hb2 hb1
        obtain ⟨_, q0, q1⟩ := DebtBox.new wr x 37
        clear hr1 hxk
        generalize Fares.debtSum (xs.take k) = s at s0 s1 Hn ⊢
        have i0 : (0 : Int) ≤ (k : Int) := by omega
        have i1 : (k : Int) < (xs.length : Int) := by omega
        go_wp2
        go_roundw
        case rel => exact ⟨k + 1, by omega, by go_num, by rw [Hn.out], bA hb2 _⟩
        case measure => simp [intOf]; omega
      · have i1 : ¬ (k : Int) < (xs.length : Int) := by omega
        go_wp2
        go_ret
        exact ⟨ret_int (by rw [Hd.out, hv, if_pos rfl, List.take_of_length_le (by omega)]), bT hb hb2⟩

set_option maxHeartbeats 400000 in
theorem isNaN_any (a : Int) (w : World) :
    Calls Try.prog 59 #[.int .i64 a] w fun e w' => e = .returned (.bool false) ∧ w = w' := by
  go_enter Try.func59, Try.ntmps59
  go_wp2
  go_ret
  exact ⟨ret_bool (by simp), rfl⟩
def cmpOf (a b : Int) : Int := if a < b then -1 else if b < a then 1 else 0
set_option maxHeartbeats 400000 in
theorem compare_any (a b : Int) (w : World) :
    Calls Try.prog 56 #[.int .i64 a, .int .i64 b] w fun e w' => e = .returned (.int .i64 (cmpOf a b)) ∧ w = w' := by
  unfold cmpOf
  by_cases h1 : a < b
  · rw [if_pos h1]
    go_enter Try.func56, Try.ntmps56
    go_wp2_with (go_at_call 59; refine (isNaN_any _ _).mono ?_; rintro e w' ⟨rfl, rfl⟩)
    all_goals (go_ret; exact ⟨rfl, rfl⟩)
  · rw [if_neg h1]
    by_cases h2 : b < a
    · rw [if_pos h2]
      go_enter Try.func56, Try.ntmps56
      go_wp2_with (go_at_call 59; refine (isNaN_any _ _).mono ?_; rintro e w' ⟨rfl, rfl⟩)
      all_goals (go_ret; exact ⟨rfl, rfl⟩)
    · rw [if_neg h2]
      go_enter Try.func56, Try.ntmps56
      go_wp2_with (go_at_call 59; refine (isNaN_any _ _).mono ?_; rintro e w' ⟨rfl, rfl⟩)
      all_goals (go_ret; exact ⟨rfl, rfl⟩)
set_option maxHeartbeats 400000 in
theorem placeCmp_any (x : Fares.Debt) (day : Int) (w : World) :
    Calls Try.prog 55 #[debtV x, .int .i64 day] w fun e w' => e = .returned (.int .i64 (cmpOf x.d day)) ∧ Below w.heap.size w w' := by
  unfold debtV
  go_enter Try.func55, Try.ntmps55
  go_wp2_with (go_at_call 56; refine (compare_any _ _ _).mono ?_; rintro e w' ⟨rfl, rfl⟩)
  go_ret
  exact ⟨rfl, bA (Below.refl _ _) _⟩

def SortedAt (xs : List Fares.Debt) (day : Int) (i j : Nat) : Prop := (∀ t x, t < i → xs[t]? = some x → x.d < day) ∧ (∀ t x, j ≤ t → xs[t]? = some x → day ≤ x.d)
theorem SortedAt.up {xs : List Fares.Debt} {day : Int} {i j h : Nat} {x : Fares.Debt} (hs : SortedAt xs day i j) (hp : xs.Pairwise (fun x y => x.d < y.d)) (hx : xs[h]? = some x) (hd : x.d < day) : SortedAt xs day (h + 1) j :=
  ⟨fun t y ht hy => by
    obtain ⟨h1, e1⟩ := List.getElem?_eq_some_iff.1 hy
    obtain ⟨h2, e2⟩ := List.getElem?_eq_some_iff.1 hx
    rcases Nat.lt_or_ge t h with hlt | hge
    · have := List.pairwise_iff_getElem.1 hp t h h1 h2 hlt; rw [e1, e2] at this; omega
    · obtain rfl : t = h := by omega
      rw [hx] at hy; injection hy with hy; subst hy; exact hd, hs.2⟩
theorem SortedAt.down {xs : List Fares.Debt} {day : Int} {i j h : Nat} {x : Fares.Debt} (hs : SortedAt xs day i j) (hp : xs.Pairwise (fun x y => x.d < y.d)) (hx : xs[h]? = some x) (hd : day ≤ x.d) : SortedAt xs day i h :=
  ⟨hs.1, fun t y ht hy => by
    obtain ⟨h1, e1⟩ := List.getElem?_eq_some_iff.1 hy
    obtain ⟨h2, e2⟩ := List.getElem?_eq_some_iff.1 hx
    rcases Nat.lt_or_ge h t with hlt | hge
    · have := List.pairwise_iff_getElem.1 hp h t h2 h1 hlt; rw [e1, e2] at this; omega
    · obtain rfl : t = h := by omega
      rw [hx] at hy; injection hy with hy; subst hy; exact hd⟩
def foundAt (xs : List Fares.Debt) (day : Int) (i : Nat) : Bool := match xs[i]? with | some x => decide (x.d = day) | none => false

set_option maxRecDepth 100000 in
set_option maxHeartbeats 2000000 in
theorem search_any (A : Option Addr) (n c : Nat) (xs : List Fares.Debt) (day : Int) (w : World) (hx : Debts w w.heap.size A xs) (hn : xs.length = n) (hl : n ≤ 1000000) (hp : xs.Pairwise (fun x y => x.d < y.d)) :
    Calls Try.prog 54 #[.slice A n c, .int .i64 day, .func (.func 55) #[] #[]] w fun e w' =>
      ∃ i : Nat, e = .returned (.tuple #[.int .i64 i, .bool (foundAt xs day i)]) ∧ i ≤ n ∧ SortedAt xs day i i ∧ Below w.heap.size w w' := by
  subst hn
  have Hp := Lib.hid hp; clear hp
  have Hx := Lib.hid hx; clear hx
  go_enter Try.func54, Try.ntmps54
  go_wp2
  go_loopw [9, 10] (fun p q wr => ∃ i j : Nat, i ≤ j ∧ j ≤ xs.length ∧ p = .int .i64 i ∧ q = .int .i64 j ∧ Hid (SortedAt xs day i j) ∧ Below w.heap.size w wr) (fun p q _ => (intOf q).toNat - (intOf p).toNat)
  case atStart => exact ⟨0, xs.length, Nat.zero_le _, Nat.le_refl _, rfl, rfl, (⟨fun t x ht => absurd ht (by omega), fun t x ht hx => absurd (List.getElem?_eq_some_iff.1 hx).1 (by omega)⟩ : SortedAt xs day 0 xs.length), Below.refl _ _⟩
  case round =>
    obtain ⟨i, j, hij, hj, rfl, rfl, HS, hb⟩ := hrel
    by_cases hlt : i < j
    · have hh : (i + j) / 2 < xs.length := by omega
      obtain ⟨x, hxk⟩ : ∃ x, xs[(i + j) / 2]? = some x := ⟨xs[(i + j) / 2], List.getElem?_eq_getElem hh⟩
      obtain ⟨b1, o1, rfl, hb1, hr1⟩ := Hx.out.row (by omega)
      obtain ⟨p0, p1⟩ := (hr1 _ x hxk).below hb hb1
      have HX := Lib.hid hxk
      clear hr1 hxk
      by_cases hd : x.d < day
      · have hc : cmpOf x.d day = -1 := if_pos hd
        go_wp2_with (go_at_call 55; refine (placeCmp_any x day _).mono ?_; rintro e w1 ⟨rfl, hb2⟩; rw [hc])
        go_roundw
        case rel => exact ⟨(i + j) / 2 + 1, j, by omega, hj, by first | rfl | (congr 1; omega), rfl, (HS.out.up Hp.out HX.out hd : SortedAt xs day ((i + j) / 2 + 1) j), bT hb hb2⟩
        case measure => simp [intOf]; omega
      · have hc : ¬ cmpOf x.d day < 0 := by unfold cmpOf; rw [if_neg hd]; split <;> omega
        obtain ⟨cv, hcv⟩ : ∃ cv, cmpOf x.d day = cv := ⟨_, rfl⟩
        rw [hcv] at hc
        go_wp2_with (go_at_call 55; refine (placeCmp_any x day _).mono ?_; rintro e w1 ⟨rfl, hb2⟩; rw [hcv])
        go_roundw
        case rel => exact ⟨i, (i + j) / 2, by omega, by omega, rfl, by first | rfl | (congr 1; omega), (HS.out.down Hp.out HX.out (by omega) : SortedAt xs day i ((i + j) / 2)), bT hb hb2⟩
        case measure => simp [intOf]; omega
    · obtain rfl : i = j := by omega
      by_cases hil : i < xs.length
      · obtain ⟨x, hxk⟩ : ∃ x, xs[i]? = some x := ⟨xs[i], List.getElem?_eq_getElem hil⟩
        obtain ⟨b1, o1, rfl, hb1, hr1⟩ := Hx.out.row (by omega)
        obtain ⟨p0, p1⟩ := (hr1 _ x hxk).below hb hb1
        have hf : foundAt xs day i = decide (x.d = day) := by unfold foundAt; rw [hxk]
        have hc : (cmpOf x.d day == 0) = decide (x.d = day) := by
          unfold cmpOf
          rw [Bool.eq_iff_iff]
          simp only [beq_iff_eq, decide_eq_true_eq]
          split
          · constructor <;> intro <;> omega
          · split <;> (constructor <;> intro <;> omega)
        have HF := Lib.hid (hf.trans hc.symm)
        clear hr1 hxk hf hc
        go_wp2_with (go_at_call 55; refine (placeCmp_any x day _).mono ?_; rintro e w1 ⟨rfl, hb2⟩)
        go_ret2
        exact ⟨i, by simp [HF.out], by omega, HS.out, bT hb hb2⟩
      · have hf : foundAt xs day i = false := by unfold foundAt; rw [List.getElem?_eq_none (by omega)]
        have i1 : ¬ (i : Int) < (xs.length : Int) := by omega
        go_wp2
        go_ret2
        exact ⟨i, by simp [hf], by omega, HS.out, hb⟩

set_option maxRecDepth 100000 in
set_option maxHeartbeats 1000000 in
theorem placeOf_any (A : Option Addr) (n c : Nat) (xs : List Fares.Debt) (day : Int) (w : World) (hx : Debts w w.heap.size A xs) (hn : xs.length = n) (hl : n ≤ 1000000) (hp : xs.Pairwise (fun x y => x.d < y.d)) :
    Calls Try.prog 47 #[.slice A n c, .int .i64 day] w fun e w' =>
      ∃ i : Nat, e = .returned (.tuple #[.int .i64 i, .bool (foundAt xs day i)]) ∧ i ≤ n ∧ SortedAt xs day i i ∧ Below w.heap.size w w' := by
  go_enter Try.func47, Try.ntmps47
  go_wp2_with fail
  refine (search_any A n c xs day _ hx hn hl hp).mono ?_
  rintro e w1 ⟨i, rfl, h1, h2, h3⟩
  go_wp2
  go_ret2
  exact ⟨i, rfl, h1, h2, h3⟩

set_option maxRecDepth 100000 in
set_option maxHeartbeats 1000000 in
theorem cloneDebts_any (A : Option Addr) (n c : Nat) (xs : List Fares.Debt) (w : World) (hx : Reads w w.heap.size A (xs.flatMap debtCells)) (hn : xs.length = n) (hA : NilOk A n c) (hl : n ≤ 1000000) :
    Calls Try.prog 46 #[.slice A n c] w fun e w' => ∃ v, e = .returned v ∧ OwnDebts w' w.heap.size v xs ∧ Below w.heap.size w w' := by
  subst hn
  obtain ⟨ti, hi0, hz0, hz1, hz2⟩ := info_parts info_debt
  have HID := Lib.hid hi0; clear hi0
  have HZ0D := Lib.hid hz0; clear hz0
  have HZ1D := Lib.hid hz1; clear hz1
  have HZ2D := Lib.hid hz2; clear hz2
  cases A with
  | none =>
    have qe := fun (w : World) => Lib.run_eql_slice_nil w _ _ none 0 0 0 0 Try.underlying23
    obtain ⟨h1, h2⟩ := hA rfl
    have e0 : xs = [] := List.eq_nil_of_length_eq_zero h1
    subst e0
    subst h2
    go_enter Try.func46, Try.ntmps46
    go_wp2
    go_ret
    exact ⟨_, rfl, World.ownsRow_nil _ _ _ _, Below.refl _ _⟩
  | some ad =>
    have qe := fun (w : World) => Lib.run_eql_slice_nil w _ _ (some ad) xs.length c 0 0 Try.underlying23
    have HA := Lib.hid (show (some ad : Option Addr) = none → xs.length = 0 ∧ c = 0 from fun e => by cases e)
    have Hx := Lib.hid hx; clear hx
    have HB := Lib.hid (Below.refl w.heap.size w)
    clear hA
    have Hnew := Lib.hid (World.ownsRow_lit (base := w.heap.size) (e := 37) (size := 2) w #[] 0 (Nat.le_refl _) (by unfold maxLen; omega) rfl)
    go_enter Try.func46, Try.ntmps46
    have hsz1 := (HB.out).size
    go_wp2_with (at_builtin; refine append_src rfl (.tmp 5) (.tmp 6) _ rfl (w.heap.size) 37 ti _ 2 16 Try.underlying23 HID.out HZ0D.out HZ1D.out HZ2D.out rfl (by omega) _ 0 _ rfl Hnew.out ((some ad)) (xs.length) (c) _ (xs.flatMap debtCells) rfl HA.out (by rw [flat_length debtCells 2 (fun _ => rfl)]) (readsOver Hx.out (bA HB.out _)) (one_flat debtCells (by intro x u hu; simp only [debtCells, List.mem_cons, List.not_mem_nil, or_false] at hu; rcases hu with rfl | rfl <;> rfl) _) (by unfold maxLen; omega) (by omega) (by first | omega | (simp; omega) | simp) ?_)
    intro v1 w1 hown1 hgrow1 hat1
    have HBo1 := Lib.hid (Below.grown (bA HB.out _) hgrow1 (Below.size (bA HB.out _)) (fun r hr => (World.ownsRow.lt Hnew.out r hr).1))
    clear HB
    have HX1 := Lib.hid hown1; clear hown1 hgrow1 hat1 Hnew
    go_wp2
    go_ret
    exact ⟨_, rfl, by unfold OwnDebts; have h := HX1.out; simpa using h, HBo1.out⟩
end Go.Proofs.Ytpdddadplagcpaa
