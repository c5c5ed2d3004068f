/-
  Charges with caps: the model's functions.
-/
import Derived.Test.YtdokilpinjabcaaChargeFn
import Derived.Test.YtdokilpinjabcaaStInt
import Derived.Deep.AppendLies
namespace Go.Proofs.Ytdokilpinjabcaa
open Go.RowKit Go.Deep
set_option linter.unusedVariables false

set_option maxRecDepth 100000 in
set_option maxHeartbeats 2000000 in
theorem specpaid_any (A B : Option Addr) (n c m d : Nat) (xs : List Fares.Charge) (out : List Int) (day span : Int) (w : World) (hx : Charges w w.heap.size A xs) (ho : Ints w w.heap.size B out) (hn : xs.length = n) (hm : out.length = m) (hmn : m ≤ n)
    (hl : n ≤ 1000) (hd : ∀ c ∈ xs, 0 ≤ c.d ∧ c.d ≤ 28) (hb : ∀ o ∈ out, 0 ≤ o ∧ o ≤ 4000) (hday : 0 ≤ day) (hday2 : day ≤ 28) (hs1 : 1 ≤ span) (hs2 : span ≤ 7) :
    Calls Try.prog 77 #[.slice A n c, .slice B m d, .int .i64 day, .int .i64 span] w fun e w' => e = .returned (.int .i64 (Fares.paidBy (Fares.inSpan day span) xs out)) ∧ ∃ q, w.drewN q = w' := by
  subst hn
  subst hm
  have Hd := Lib.hid hd; clear hd
  have Hb := Lib.hid hb; clear hb
  have hz : (span == 0) = false := by rw [beq_eq_false_iff_ne]; omega
  go_enter Try.func77, Try.ntmps77
  go_wp2
  go_loopw [10, 9] (fun i v wr => ∃ (k q : Nat) (s : Int), k ≤ out.length ∧ i = .int .i64 k ∧ v = .int .i64 s ∧ 0 ≤ s ∧ s ≤ 4000 * k ∧ s = Fares.paidBy (Fares.inSpan day span) xs (out.take k) ∧ w.drewN q = wr) (fun i _ _ => out.length - (intOf i).toNat)
  case atStart => exact ⟨0, 0, 0, Nat.zero_le _, rfl, rfl, by omega, by omega, by simp [Fares.paidBy_nil], rfl⟩
  case round =>
    obtain ⟨k, q, s, hk, rfl, rfl, s0, s1, hs, rfl⟩ := hrel
    have Hs := Lib.hid hs; clear hs
    by_cases hlt : k < out.length
    · obtain ⟨x, hxk⟩ : ∃ x, xs[k]? = some x := ⟨xs[k], List.getElem?_eq_getElem (by omega)⟩
      obtain ⟨y, hyk⟩ : ∃ y, out[k]? = some y := ⟨out[k], List.getElem?_eq_getElem hlt⟩
      obtain ⟨d0, d1⟩ := Hd.out x (List.mem_of_getElem? hxk)
      obtain ⟨y0, y1⟩ := Hb.out y (List.mem_of_getElem? hyk)
      obtain ⟨b1, o1, rfl, hb1, hr1⟩ := hx.row (by omega)
      obtain ⟨b2, o2, rfl, hb2, hr2⟩ := ho.row (by omega)
      obtain ⟨p0, p1⟩ := hr1 k x hxk
      have q0 := hr2 k y hyk
      have Hnx := Lib.hid (Fares.paidBy_next (Fares.inSpan day span) xs out k x y hxk hyk)
      clear hxk hyk hr1 hr2 hx ho
      have i0 : (0 : Int) ≤ (k : Int) := by omega
      have i1 : (k : Int) < (out.length : Int) := by omega
      have i2 : (k : Int) < (xs.length : Int) := by omega
      have t1 : x.d.tdiv span = x.d / span := Int.tdiv_eq_ediv_of_nonneg d0
      have t2 : day.tdiv span = day / span := Int.tdiv_eq_ediv_of_nonneg hday
      by_cases he : x.d / span = day / span
      · have hq : (x.d / span == day / span) = true := by simpa using he
        have hq2 : (x.d.tdiv span == day.tdiv span) = true := by rw [t1, t2]; exact hq
        clear t1 t2
        have Hp := Lib.hid (show Fares.inSpan day span x = true by unfold Fares.inSpan; simpa using he)
        clear he
        go_wp2
        go_quiet (fail)
        go_wp2
        clear hq hq2
        go_roundw
        case rel => exact ⟨k + 1, _, s + y, by omega, by go_num, rfl, by omega, by push_cast; omega, by rw [Hnx.out, ← Hs.out, if_pos Hp.out], rfl⟩
        case measure => simp [intOf]; omega
      · have hq : (x.d / span == day / span) = false := by simpa using he
        have hq2 : (x.d.tdiv span == day.tdiv span) = false := by rw [t1, t2]; exact hq
        clear t1 t2
        have Hp := Lib.hid (show ¬ Fares.inSpan day span x = true by unfold Fares.inSpan; simpa using he)
        clear he
        go_wp2
        go_quiet (fail)
        go_wp2
        clear hq hq2
        go_roundw
        case rel => exact ⟨k + 1, _, s, by omega, by go_num, rfl, by omega, by push_cast; omega, by rw [Hnx.out, ← Hs.out, if_neg Hp.out, Int.add_zero], rfl⟩
        case measure => simp [intOf]; omega
    · go_wp2
      go_ret
      exact ⟨ret_int (by have := Hs.out; rw [List.take_of_length_le (by omega)] at this; exact this), q, rfl⟩

set_option maxRecDepth 100000 in
set_option maxHeartbeats 2000000 in
theorem speccapped_any (A : Option Addr) (n c : Nat) (xs : List Fares.Charge) (day week : Int) (w : World) (hx : Charges w w.heap.size A xs) (hn : xs.length = n) (hl : n ≤ 24) (hc : ∀ c ∈ xs, 0 ≤ c.d ∧ c.d ≤ 28 ∧ 0 ≤ c.a ∧ c.a ≤ 4000)
    (hd0 : 0 ≤ day) (hd1 : day ≤ 50000) (hw0 : 0 ≤ week) (hw1 : week ≤ 50000) :
    Calls Try.prog 56 #[.slice A n c, .int .i64 day, .int .i64 week] w fun e w' => ∃ v, e = .returned v ∧ OwnInts w' w.heap.size v (Fares.capRun xs day week n) ∧ Below w.heap.size w w' := by
  subst hn
  obtain ⟨ti, hi0, hz0, hz1, hz2⟩ := info_parts info_int
  have HI := Lib.hid hi0; clear hi0
  have HZ0 := Lib.hid hz0; clear hz0
  have HZ1 := Lib.hid hz1; clear hz1
  have HZ2 := Lib.hid hz2; clear hz2
  have Hc := Lib.hid hc
  have Hdays := Lib.hid (fun (c : Fares.Charge) (h : c ∈ xs) => (⟨(hc c h).1, (hc c h).2.1⟩ : 0 ≤ c.d ∧ c.d ≤ 28))
  have Hbd := Lib.hid (Fares.capRun_bounds day week (fun c h => ⟨(hc c h).2.2.1, (hc c h).2.2.2⟩)); clear hc
  go_enter Try.func56, Try.ntmps56
  go_wp2
  go_loopw [8, 7] (fun i v wr => ∃ k : Nat, k ≤ xs.length ∧ i = .int .i64 k ∧ OwnInts wr w.heap.size v (Fares.capRun xs day week k) ∧ Below w.heap.size w wr) (fun i _ _ => xs.length - (intOf i).toNat)
  case atStart => exact ⟨0, Nat.zero_le _, rfl, show OwnInts _ w.heap.size _ [] from World.ownsRow_lit (base := w.heap.size) (e := 3) (size := 1) w #[] 0 (Nat.le_refl _) (by unfold maxLen; omega) rfl, bA (Below.refl _ _) _⟩
  case round =>
    obtain ⟨k, hk, rfl, hown, hb⟩ := hrel
    by_cases hlt : k < xs.length
    · obtain ⟨x, hxk⟩ : ∃ x, xs[k]? = some x := ⟨xs[k], List.getElem?_eq_getElem hlt⟩
      obtain ⟨d0, d1, a0, a1⟩ := Hc.out x (List.mem_of_getElem? hxk)
      have hlen : (Fares.capRun xs day week k).length = k := Fares.capRun_length xs day week k (by omega)
      have Hr := Lib.hid (Fares.capRun_succ (day := day) (week := week) hxk)
      have Hx := Lib.hid ((hx.below hb (Nat.le_refl _)).more hb.size)
      obtain ⟨Av, cv, rfl, hcv1, hcv2, hri⟩ := hown.form
      have Hri := Lib.hid hri; clear hri
      obtain ⟨b1, o1, rfl, hb1, hr1⟩ := hx.row (by omega)
      obtain ⟨p0, p1⟩ := (hr1 k x hxk).below hb hb1
      clear hr1 hx hxk
      have hp1 := Fares.paidBy_bounds (Fares.inSpan x.d 1) 4000 xs (Fares.capRun xs day week k) (Hbd.out k)
      have hp7 := Fares.paidBy_bounds (Fares.inSpan x.d 7) 4000 xs (Fares.capRun xs day week k) (Hbd.out k)
      have Hpay : Hid (Fares.capPay xs (Fares.capRun xs day week k) day week x = max 0 (min x.a (min (day - Fares.paidBy (Fares.inSpan x.d 1) xs (Fares.capRun xs day week k)) (week - Fares.paidBy (Fares.inSpan x.d 7) xs (Fares.capRun xs day week k))))) := rfl
      unfold OwnInts at hown
      rw [hlen] at hp1 hp7 hcv1 hown ⊢
      have Hlen := Lib.hid hlen; clear hlen
      have Hown := Lib.hid hown; clear hown
      have i0 : (0 : Int) ≤ (k : Int) := by omega
      have i1 : (k : Int) < (xs.length : Int) := by omega
      have W1 : IntKind.i64.wrap (day - Fares.paidBy (Fares.inSpan x.d 1) xs (Fares.capRun xs day week k)) = day - Fares.paidBy (Fares.inSpan x.d 1) xs (Fares.capRun xs day week k) := IntWalk.i64_in _ (by omega)
      have W7 : IntKind.i64.wrap (week - Fares.paidBy (Fares.inSpan x.d 7) xs (Fares.capRun xs day week k)) = week - Fares.paidBy (Fares.inSpan x.d 7) xs (Fares.capRun xs day week k) := IntWalk.i64_in _ (by omega)
      go_wp2
      go_quiet ((go_at_call 77; refine quiet_some (specpaid_any _ _ _ _ _ _ xs (Fares.capRun xs day week k) x.d _ _ Hx.out Hri.out rfl Hlen.out (by omega) (by omega) Hdays.out (Hbd.out k) d0 d1 (by omega) (by omega))))
      clear W1 W7
      generalize hM : (if week - Fares.paidBy (Fares.inSpan x.d 7) xs (Fares.capRun xs day week k) < day - Fares.paidBy (Fares.inSpan x.d 1) xs (Fares.capRun xs day week k) then week - Fares.paidBy (Fares.inSpan x.d 7) xs (Fares.capRun xs day week k) else day - Fares.paidBy (Fares.inSpan x.d 1) xs (Fares.capRun xs day week k)) = m
      have HM := Lib.hid hM; clear hM
      obtain ⟨p1, E1⟩ : ∃ p1, (if m < x.a then m else x.a) = p1 := ⟨_, rfl⟩
      obtain ⟨p2, E2⟩ : ∃ p2, (if 0 < p1 then p1 else 0) = p2 := ⟨_, rfl⟩
      have Hp := Lib.hid (show p2 = Fares.capPay xs (Fares.capRun xs day week k) day week x by
        rw [Hpay.out]
        have hm := HM.out
        clear Hpay HM
        split at hm <;> split at E1 <;> split at E2 <;> omega)
      go_wp2_with (at_builtin; refine wpList_append_lies _ rfl (.tmp 38) (.tmp 47) _ rfl w.heap.size 3 ti _ 1 8 Try.underlying26 HI.out HZ0.out HZ1.out HZ2.out rfl (by omega) _ _ _ rfl (World.ownsRow.alloc (w := wr.drewN nq) Hown.out _) ⟨wr.heap.size, 0, none⟩ 1 1 (intCells p2) rfl rfl ?c1 ?c2 (by omega) ?c3 ?c4 ?c5 _ rfl ?_)
      case c1 => exact World.news_of_block (heap_alloc_new (wr.drewN nq) (.cells #[.int .i64 p2] 3))
      case c2 => simp [intCells, Value.oneCell']
      case c3 => unfold maxLen; omega
      case c4 => omega
      case c5 => have := hb.size; simp; omega
      intro g cap w2 hown2 hgrow hat hlt2
      clear E1 E2
      have hb4 : Below w.heap.size w w2 := Below.grown (bA (bD hb nq) _) hgrow (by have := hb.size; simp; omega) (fun r hr => (World.ownsRow.lt Hown.out r hr).1)
      have Hown2 := Lib.hid hown2; clear hown2 hgrow hat
      go_wp2
      go_roundw
      case rel => exact ⟨k + 1, by omega, by go_num, by
        rw [Hr.out, ← Hp.out]
        have h := Hown2.out
        have hl := Hlen.out
        generalize Fares.capRun xs day week k = out at h hl ⊢
        subst hl
        exact OwnInts.snoc h, hb4⟩
      case measure => simp [intOf]; omega
    · go_wp2
      go_ret
      exact ⟨_, rfl, by have : k = xs.length := by omega
                        rwa [this] at hown, hb⟩
end Go.Proofs.Ytdokilpinjabcaa
