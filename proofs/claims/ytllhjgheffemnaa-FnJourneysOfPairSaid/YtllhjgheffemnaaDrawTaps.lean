/-
  Drawn lists of taps.
-/
import Derived.Test.YtllhjgheffemnaaAddTap
import Derived.Test.YtllhjgheffemnaaDrawAnyTap
import Derived.Test.YtllhjgheffemnaaCarry
set_option linter.unusedSimpArgs false
namespace Go.Proofs.Ytllhjgheffemnaa
open Go.RowKit Go.Deep
set_option linter.unusedVariables false

def SomeTaps (N M g p : Nat) (w : World) (e : Ending) (w' : World) : Prop :=
  ∃ (v : Value) (ys : List Fares.Tap) (q : Nat), e = .returned v ∧ OwnTaps w' w.heap.size v ys ∧ ys.length ≤ N ∧ (∀ t ∈ ys, tapSmall t) ∧ q ≤ p + M ∧ Rd w' g q ∧ w.grownBy w' (some g)

set_option maxRecDepth 100000 in
set_option maxHeartbeats 2000000 in
theorem randomTaps_any (g p : Nat) (st : Int) (w : World) (hr : Rd w g p) (hp : p ≤ 40000) (hst0 : 1 ≤ st) (hst1 : st ≤ 100) :
    Calls Try.prog 50 #[.pointer (some ⟨g, 0, none⟩), .int .i64 st] w (SomeTaps 24 300 g p w) := by
  have hgw := hr.lt
  have HG0 := Lib.hid (grown_refl w (some g))
  have Hr0 := Lib.hid hr; clear hr
  go_enter Try.func50, Try.ntmps50
  have Hn0 := Lib.hid (World.ownsRow_lit (base := w.heap.size) (e := 36) (size := 6) w #[] 0 (Nat.le_refl _) (by unfold maxLen; omega) rfl)
  have Hr0a := Lib.hid (Rd.alloc Hr0.out (.cells #[] 36)); clear Hr0
  have HG0a := Lib.hid (grown_alloc HG0.out (.cells #[] 36)); clear HG0
  have hgw1 : g < (w.alloc (.cells #[] 36)).heap.size := by simp; omega
  go_wp2_with fail
  refine (pick_any g (p) (3) _ Hr0a.out (by omega)).mono ?_
  rintro e w1 ⟨k, rfl, k0, k1, hr1, hg1⟩
  have k2 := k1 (by omega)
  clear k1
  have HG1 := Lib.hid (grown_trans HG0a.out hg1)
  clear HG0a
  have Hown1 := Lib.hid (World.ownsRow.kept Hn0.out hg1 (apart_of (fun j hj e => by have := (World.ownsRow.lt Hn0.out j hj).1; injection e with e; omega)))
  clear Hn0
  clear hg1
  clear Hr0a
  have Hrd1 := Lib.hid hr1; clear hr1
  have hgl1 : g < w1.heap.size := (Hrd1.out).lt
  by_cases hk0 : k = 0
  · subst hk0
    go_wp2_with fail
    refine (one_in g (p + 1) _ [6, 8, 4, 10, 2] (2) 10 5 5 _ _ (Rd.alloc Hrd1.out _) (by omega) (Blk.new' (by simp)) (by have := (Hrd1.out).lt; (try simp); omega) rfl rfl (by omega) (by omega) (by decide)).mono ?_
    rintro e w2 ⟨n, rfl, n0, n1, hr2, hg2⟩
    have HG2 := Lib.hid (grown_trans (grown_alloc HG1.out _) hg2)
    clear HG1
    have Hown2 := Lib.hid (World.ownsRow.kept (World.ownsRow.alloc Hown1.out _) hg2 (apart_of (fun j hj e => by have := (World.ownsRow.lt Hown1.out j hj).1; injection e with e; omega)))
    clear Hown1
    clear hg2
    clear Hrd1
    have Hrd2 := Lib.hid hr2; clear hr2
    have hgl2 : g < w2.heap.size := (Hrd2.out).lt
    obtain ⟨kn, rfl⟩ := Int.eq_ofNat_of_zero_le (show 0 ≤ n by omega)
    go_wp2
    go_loopw [5, 6, 7] (fun v mi m wr => ∃ (ys : List Fares.Tap) (mn : Int) (k q : Nat), OwnTaps wr w.heap.size v ys ∧ ys.length ≤ 24 ∧ (∀ t ∈ ys, tapSmall t) ∧ mi = .int .i64 mn ∧ 0 ≤ mn ∧ mn + 700 * k ≤ 7400 ∧ m = .int .i64 k ∧ k ≤ 10 ∧ q + 2 * k ≤ p + 22 ∧ Rd wr g q ∧ w.grownBy wr (some g)) (fun _ _ m _ => (intOf m).toNat)
    case atStart => exact ⟨[], 400, kn, p + 2, Hown2.out, by simp, (fun t ht => by cases ht), rfl, by omega, by omega, rfl, by omega, by omega, Hrd2.out, HG2.out⟩
    case round =>
      obtain ⟨ys, mn, k, q, hown, hlen, hsm, rfl, mn0, mn1, rfl, hk, hq, hrd, hg⟩ := hrel
      have Hsm := Lib.hid hsm; clear hsm
      have Hr := Lib.hid hrd; clear hrd
      have HG := Lib.hid hg; clear hg
      obtain ⟨Av, cv, rfl, hcv1, hcv2, hrs⟩ := hown.form
      clear hrs
      have Hown := Lib.hid hown; clear hown
      by_cases hk0 : 0 < k
      · have hk1 : (0 : Int) < (k : Int) := by omega
        have HFin := Lib.hid (show True from trivial)
        go_wp2_with fail
        refine (one_in g (q) _ [5, 20, 40, 15, 700, 200] (5) 700 6 6 _ _ (Rd.alloc Hr.out _) (by omega) (Blk.new' (by simp)) (by have := (Hr.out).lt; (try simp); omega) rfl rfl (by omega) (by omega) (by decide)).mono ?_
        rintro e w3 ⟨d, rfl, d0, d1, hr3, hg3⟩
        have HG3 := Lib.hid (grown_trans (grown_alloc HG.out _) hg3)
        clear HG
        have Hown3 := Lib.hid (World.ownsRow.kept (World.ownsRow.alloc Hown.out _) hg3 (apart_of (fun j hj e => by have := (World.ownsRow.lt Hown.out j hj).1; injection e with e; omega)))
        clear Hown
        clear hg3
        clear Hr
        have Hrd3 := Lib.hid hr3; clear hr3
        have hgl3 : g < w3.heap.size := (Hrd3.out).lt
        have m0 : 0 ≤ (ys.length : Int) % 2 := Int.emod_nonneg _ (by omega)
        have m1 : (ys.length : Int) % 2 < 2 := Int.emod_lt_of_pos _ (by omega)
        go_wp2_with fail
        refine (pick_any g (q + 1) (st) _ Hrd3.out (by omega)).mono ?_
        rintro e w4 ⟨x, rfl, x0, x1, hr4, hg4⟩
        have x2 := x1 (by omega)
        clear x1
        have HG4 := Lib.hid (grown_trans HG3.out hg4)
        clear HG3
        have Hown4 := Lib.hid (World.ownsRow.kept Hown3.out hg4 (apart_of (fun j hj e => by have := (World.ownsRow.lt Hown3.out j hj).1; injection e with e; omega)))
        clear Hown3
        clear hg4
        clear Hrd3
        have Hrd4 := Lib.hid hr4; clear hr4
        have hgl4 : g < w4.heap.size := (Hrd4.out).lt
        obtain ⟨k', rfl⟩ : ∃ k', k = k' + 1 := ⟨k - 1, by omega⟩
        have hbase : w.heap.size ≤ w4.heap.size := by have := (HG4.out).size; (try simp at this); omega
        obtain ⟨Ax, cx, ex, hcx1, hcx2, hrx⟩ := OwnTaps.form Hown4.out
        injection ex with ex1 ex2 ex3
        subst ex1 ex3
        have Hrx := Lib.hid hrx; clear hrx ex2
        unfold maxLen at hcx2
        by_cases hok : (Fares.addTap ys ⟨1, (ys.length : Int), 1, mn + d, x, ((ys.length : Int) % 2 == 1)⟩).2 = true
        · obtain ⟨hl1, hm1⟩ := Fares.addTap_ok hok
          have Hm1 := Lib.hid hm1; clear hm1
          go_wp2_with fail
          refine (specAddTap_any Av _ cv ys ⟨1, (ys.length : Int), 1, mn + d, x, ((ys.length : Int) % 2 == 1)⟩ _ Hrx.out rfl (by omega)).mono ?_
          rintro e w5 ⟨vn, rfl, hown2, hb5⟩
          rw [hok]
          have Hown2 := Lib.hid (ownBase hown2 hbase); clear hown2
          have Hrd5 := Lib.hid (Rd.belowAll Hrd4.out hb5)
          clear Hrd4
          have HG5 := Lib.hid (grown_trans HG4.out (grown_of_below hb5 _))
          clear HG4
          have Hown5 := Lib.hid (own_below Hown4.out hb5)
          clear Hown4
          clear hb5
          go_wp2
          go_roundw
          case rel => exact ⟨_, mn + d, k', q + 1 + 1, Hown2.out, hl1, (fun t ht => by
                          rcases Hm1.out t ht with h | h
                          · exact Hsm.out t h
                          · subst h; unfold tapSmall; dsimp only; omega), by go_num, by omega, by omega, by go_num, by omega, by omega, Hrd5.out, HG5.out⟩
          case measure => simp [intOf]
        · have hok' : (Fares.addTap ys ⟨1, (ys.length : Int), 1, mn + d, x, ((ys.length : Int) % 2 == 1)⟩).2 = false := by simpa using hok
          clear hok
          go_wp2_with fail
          refine (specAddTap_any Av _ cv ys ⟨1, (ys.length : Int), 1, mn + d, x, ((ys.length : Int) % 2 == 1)⟩ _ Hrx.out rfl (by omega)).mono ?_
          rintro e w5 ⟨vn, rfl, hown2, hb5⟩
          rw [hok']
          have Hown2 := Lib.hid (ownBase hown2 hbase); clear hown2
          have Hrd5 := Lib.hid (Rd.belowAll Hrd4.out hb5)
          clear Hrd4
          have HG5 := Lib.hid (grown_trans HG4.out (grown_of_below hb5 _))
          clear HG4
          have Hown5 := Lib.hid (own_below Hown4.out hb5)
          clear Hown4
          clear hb5
          go_wp2
          go_roundw
          case rel => exact ⟨ys, mn + d, k', q + 1 + 1, Hown5.out, hlen, Hsm.out, by go_num, by omega, by omega, by go_num, by omega, by omega, Hrd5.out, HG5.out⟩
          case measure => simp [intOf]
      · have hk1 : decide ((0 : Int) < (k : Int)) = false := by simp; omega
        go_wp2
        go_ret
        exact ⟨_, ys, q, rfl, Hown.out, by omega, Hsm.out, by omega, Hr.out, HG.out⟩
  · have hk0' : (k == 0) = false := by simpa using hk0
    go_wp2_with fail
    refine (one_in g (p + 1) _ [6, 8, 4, 12, 2, 0, 24] (0) 24 7 7 _ _ (Rd.alloc Hrd1.out _) (by omega) (Blk.new' (by simp)) (by have := (Hrd1.out).lt; (try simp); omega) rfl rfl (by omega) (by omega) (by decide)).mono ?_
    rintro e w2 ⟨n, rfl, n0, n1, hr2, hg2⟩
    have HG2 := Lib.hid (grown_trans (grown_alloc HG1.out _) hg2)
    clear HG1
    have Hown2 := Lib.hid (World.ownsRow.kept (World.ownsRow.alloc Hown1.out _) hg2 (apart_of (fun j hj e => by have := (World.ownsRow.lt Hown1.out j hj).1; injection e with e; omega)))
    clear Hown1
    clear hg2
    clear Hrd1
    have Hrd2 := Lib.hid hr2; clear hr2
    have hgl2 : g < w2.heap.size := (Hrd2.out).lt
    obtain ⟨kn, rfl⟩ := Int.eq_ofNat_of_zero_le (show 0 ≤ n by omega)
    go_wp2
    go_loopw [5, 10] (fun v m wr => ∃ (ys : List Fares.Tap) (k q : Nat), OwnTaps wr w.heap.size v ys ∧ ys.length ≤ 24 ∧ (∀ t ∈ ys, tapSmall t) ∧ m = .int .i64 k ∧ k ≤ 24 ∧ q + 10 * k ≤ p + 242 ∧ Rd wr g q ∧ w.grownBy wr (some g)) (fun _ m _ => (intOf m).toNat)
    case atStart => exact ⟨[], kn, p + 2, Hown2.out, by simp, (fun t ht => by cases ht), rfl, by omega, by omega, Hrd2.out, HG2.out⟩
    case round =>
      obtain ⟨ys, k, q, hown, hlen, hsm, rfl, hk, hq, hrd, hg⟩ := hrel
      have Hsm := Lib.hid hsm; clear hsm
      have Hr := Lib.hid hrd; clear hrd
      have HG := Lib.hid hg; clear hg
      obtain ⟨Av, cv, rfl, hcv1, hcv2, hrs⟩ := hown.form
      clear hrs
      have Hown := Lib.hid hown; clear hown
      by_cases hk0 : 0 < k
      · have hk1 : (0 : Int) < (k : Int) := by omega
        go_wp2_with fail
        refine (randomTap_any g (q) st _ Hr.out (by omega) hst0 hst1).mono ?_
        rintro e w3 ⟨t, q1, rfl, ht, hq1, hr3, hg3⟩
        have Ht := Lib.hid ht; clear ht
        have HG3 := Lib.hid (grown_trans HG.out hg3)
        clear HG
        have Hown3 := Lib.hid (World.ownsRow.kept Hown.out hg3 (apart_of (fun j hj e => by have := (World.ownsRow.lt Hown.out j hj).1; injection e with e; omega)))
        clear Hown
        clear hg3
        clear Hr
        have Hrd3 := Lib.hid hr3; clear hr3
        have hgl3 : g < w3.heap.size := (Hrd3.out).lt
        obtain ⟨k', rfl⟩ : ∃ k', k = k' + 1 := ⟨k - 1, by omega⟩
        have hbase : w.heap.size ≤ w3.heap.size := by have := (HG3.out).size; (try simp at this); omega
        obtain ⟨Ax, cx, ex, hcx1, hcx2, hrx⟩ := OwnTaps.form Hown3.out
        injection ex with ex1 ex2 ex3
        subst ex1 ex3
        have Hrx := Lib.hid hrx; clear hrx ex2
        unfold maxLen at hcx2
        by_cases hok : (Fares.addTap ys t).2 = true
        · obtain ⟨hl1, hm1⟩ := Fares.addTap_ok hok
          have Hm1 := Lib.hid hm1; clear hm1
          go_wp2_with fail
          refine (specAddTap_any Av _ cv ys t _ Hrx.out rfl (by omega)).mono ?_
          rintro e w4 ⟨vn, rfl, hown2, hb4⟩
          rw [hok]
          have Hown2 := Lib.hid (ownBase hown2 hbase); clear hown2
          have Hrd4 := Lib.hid (Rd.belowAll Hrd3.out hb4)
          clear Hrd3
          have HG4 := Lib.hid (grown_trans HG3.out (grown_of_below hb4 _))
          clear HG3
          have Hown4 := Lib.hid (own_below Hown3.out hb4)
          clear Hown3
          clear hb4
          go_wp2
          go_roundw
          case rel => exact ⟨_, k', q1, Hown2.out, hl1, (fun t' ht => by
                          rcases Hm1.out t' ht with h | h
                          · exact Hsm.out t' h
                          · subst h; exact Ht.out), by go_num, by omega, by omega, Hrd4.out, HG4.out⟩
          case measure => simp [intOf]
        · have hok' : (Fares.addTap ys t).2 = false := by simpa using hok
          clear hok
          go_wp2_with fail
          refine (specAddTap_any Av _ cv ys t _ Hrx.out rfl (by omega)).mono ?_
          rintro e w4 ⟨vn, rfl, hown2, hb4⟩
          rw [hok']
          have Hown2 := Lib.hid (ownBase hown2 hbase); clear hown2
          have Hrd4 := Lib.hid (Rd.belowAll Hrd3.out hb4)
          clear Hrd3
          have HG4 := Lib.hid (grown_trans HG3.out (grown_of_below hb4 _))
          clear HG3
          have Hown4 := Lib.hid (own_below Hown3.out hb4)
          clear Hown3
          clear hb4
          go_wp2
          go_roundw
          case rel => exact ⟨ys, k', q1, Hown4.out, hlen, Hsm.out, by go_num, by omega, by omega, Hrd4.out, HG4.out⟩
          case measure => simp [intOf]
      · have hk1 : decide ((0 : Int) < (k : Int)) = false := by simp; omega
        go_wp2
        go_ret
        exact ⟨_, ys, q, rfl, Hown.out, by omega, Hsm.out, by omega, Hr.out, HG.out⟩

theorem info_tap4 : (Try.prog.info? 36).map (fun i => (i.zero, i.size, i.bytes)) = some (some (.agg #[.int .i64 0, .int .i64 0, .int .i64 0, .int .i64 0, .int .i64 0, .bool false]), 6, 48) := by kernel_rfl
set_option maxRecDepth 100000 in
set_option maxHeartbeats 2000000 in
theorem anyTaps_any (g p : Nat) (w : World) (hr : Rd w g p) (hp : p ≤ 30000) :
    Calls Try.prog 38 #[.pointer (some ⟨g, 0, none⟩)] w (SomeTaps 25 330 g p w) := by
  have hgw := hr.lt
  have Hr0 := Lib.hid hr; clear hr
  obtain ⟨ti, hi0, hz0, hz1, hz2⟩ := info_parts info_tap4
  have HITap := Lib.hid hi0; clear hi0
  have HZ0Tap := Lib.hid hz0; clear hz0
  have HZ1Tap := Lib.hid hz1; clear hz1
  have HZ2Tap := Lib.hid hz2; clear hz2
  go_enter Try.func38, Try.ntmps38
  go_wp2_with fail
  refine (randomTaps_any g p 10 _ Hr0.out (by omega) (by omega) (by omega)).mono ?_
  rintro e w1 ⟨v0, ys, q, rfl, hown1, hlen, hsm, hq, hr1, hg1⟩
  have Hsm := Lib.hid hsm; clear hsm
  have Hown1 := Lib.hid hown1; clear hown1
  have Hr1 := Lib.hid hr1; clear hr1
  have HG1 := Lib.hid hg1; clear hg1
  obtain ⟨Av, cv, rfl, hcv1, hcv2, hrs⟩ := (OwnTaps.form Hown1.out)
  unfold maxLen at hcv2
  clear hrs
  go_wp2_with fail
  refine (pick_any g (q) (24) _ Hr1.out (by omega)).mono ?_
  rintro e w2 ⟨k, rfl, k0, k1, hr2, hg2⟩
  have k2 := k1 (by omega)
  clear k1
  have HG2 := Lib.hid (grown_trans HG1.out hg2)
  clear HG1
  have Hown2 := Lib.hid (World.ownsRow.kept Hown1.out hg2 (apart_of (fun j hj e => by have := (World.ownsRow.lt Hown1.out j hj).1; injection e with e; omega)))
  clear Hown1
  clear hg2
  clear Hr1
  have Hrd2 := Lib.hid hr2; clear hr2
  have hgl2 : g < w2.heap.size := (Hrd2.out).lt
  by_cases hk0 : k = 0
  · subst hk0
    go_wp2_with fail
    refine (anyTap_any g (q + 1) _ Hrd2.out (by omega)).mono ?_
    rintro e w3 ⟨t, q1, rfl, ht, hq1, hr3, hg3⟩
    have Ht := Lib.hid ht; clear ht
    have HG3 := Lib.hid (grown_trans HG2.out hg3)
    clear HG2
    have Hown3 := Lib.hid (World.ownsRow.kept Hown2.out hg3 (apart_of (fun j hj e => by have := (World.ownsRow.lt Hown2.out j hj).1; injection e with e; omega)))
    clear Hown2
    clear hg3
    clear Hrd2
    have Hrd3 := Lib.hid hr3; clear hr3
    have hgl3 : g < w3.heap.size := (Hrd3.out).lt
    unfold tapV
    have hsz4 := (HG3.out).size
    go_wp2_with (at_builtin; refine wpList_append_lies _ rfl (.tmp 11) (.tmp 14) _ rfl (w.heap.size) 36 ti _ 6 48 Try.underlying23 HITap.out HZ0Tap.out HZ1Tap.out HZ2Tap.out rfl (by omega) _ _ _ rfl (World.ownsRow.alloc Hown3.out _) ⟨w3.heap.size, 0, none⟩ 1 1 (tapCells t) rfl rfl ?c1 ?c2 (by omega) ?c3 ?c4 ?c5 _ rfl ?_)
    case c1 => exact World.news_of_block (Blk.new' (t := 36) (cs := #[.int .i64 t.v, .int .i64 t.n, .int .i64 t.c, .int .i64 t.m, .int .i64 t.s, .bool t.o]) (by simp))
    case c2 => simp [tapCells, Value.oneCell']
    case c3 => unfold maxLen; omega
    case c4 => omega
    case c5 => (try simp); omega
    intro gb4 cap4 w4 hown4 hgrow4 hat4 hlt4
    have HX4 := Lib.hid (OwnTaps.snoc hown4); clear hown4 hat4
    have Hrd4 := Lib.hid (Rd.grown_new (Rd.alloc Hrd3.out _) hgrow4 (fun r hr => by have := (World.ownsRow.lt Hown3.out r hr).1; omega))
    clear Hrd3
    have HG4 := Lib.hid (grown_new (grown_alloc HG3.out _) hgrow4 (fun r hr => (World.ownsRow.lt Hown3.out r hr).1))
    clear HG3
    clear hgrow4
    clear Hown3
    go_wp2
    go_ret
    exact ⟨_, ys ++ [t], _, rfl, HX4.out, by simp; omega, (fun t' ht => by
          rcases List.mem_append.1 ht with h | h
          · exact Hsm.out t' h
          · simp at h; subst h; exact Ht.out), by omega, Hrd4.out, HG4.out⟩
  · have hk0' : (k == 0) = false := by simpa using hk0
    by_cases hk1 : k = 1
    · subst hk1
      by_cases hl1 : 1 < ys.length
      · have hl2 : (1 : Int) < (ys.length : Int) := by omega
        obtain ⟨gb, cgb, evgb, hbgb, hltgb, hlegb, hmxgb, hcellgb, hfreegb, htheregb⟩ := own_at tapCells 6 (fun _ => rfl) Hown2.out (show 0 < ys.length by omega)
        have Hcellgb := Lib.hid hcellgb; clear hcellgb
        have Hfreegb := Lib.hid hfreegb; clear hfreegb
        have Htheregb := Lib.hid htheregb; clear htheregb
        obtain ⟨x0, hx0⟩ : ∃ x, ys[0]? = some x := ⟨_, List.getElem?_eq_getElem (show 0 < ys.length by omega)⟩
        obtain ⟨x1, hx1⟩ : ∃ x, ys[1]? = some x := ⟨_, List.getElem?_eq_getElem hl1⟩
        injection evgb with e1 e2 e3
        subst e1 e3
        have p0 : w2.cell? ⟨gb, 0, none⟩ = some (.int .i64 x0.v) := Hcellgb.out 0 x0 0 _ hx0 rfl
        have fp0 : w2.frozen? ⟨gb, 0, none⟩ = false := Hfreegb.out _
        have p1 : w2.cell? ⟨gb, 1, none⟩ = some (.int .i64 x0.n) := Hcellgb.out 0 x0 1 _ hx0 rfl
        have fp1 : w2.frozen? ⟨gb, 1, none⟩ = false := Hfreegb.out _
        have p2 : w2.cell? ⟨gb, 2, none⟩ = some (.int .i64 x0.c) := Hcellgb.out 0 x0 2 _ hx0 rfl
        have fp2 : w2.frozen? ⟨gb, 2, none⟩ = false := Hfreegb.out _
        have p3 : w2.cell? ⟨gb, 3, none⟩ = some (.int .i64 x0.m) := Hcellgb.out 0 x0 3 _ hx0 rfl
        have fp3 : w2.frozen? ⟨gb, 3, none⟩ = false := Hfreegb.out _
        have p4 : w2.cell? ⟨gb, 4, none⟩ = some (.int .i64 x0.s) := Hcellgb.out 0 x0 4 _ hx0 rfl
        have fp4 : w2.frozen? ⟨gb, 4, none⟩ = false := Hfreegb.out _
        have p5 : w2.cell? ⟨gb, 5, none⟩ = some (.bool x0.o) := Hcellgb.out 0 x0 5 _ hx0 rfl
        have fp5 : w2.frozen? ⟨gb, 5, none⟩ = false := Hfreegb.out _
        have q0 : w2.cell? ⟨gb, 6, none⟩ = some (.int .i64 x1.v) := Hcellgb.out 1 x1 0 _ hx1 rfl
        have fq0 : w2.frozen? ⟨gb, 6, none⟩ = false := Hfreegb.out _
        have q1 : w2.cell? ⟨gb, 7, none⟩ = some (.int .i64 x1.n) := Hcellgb.out 1 x1 1 _ hx1 rfl
        have fq1 : w2.frozen? ⟨gb, 7, none⟩ = false := Hfreegb.out _
        have q2 : w2.cell? ⟨gb, 8, none⟩ = some (.int .i64 x1.c) := Hcellgb.out 1 x1 2 _ hx1 rfl
        have fq2 : w2.frozen? ⟨gb, 8, none⟩ = false := Hfreegb.out _
        have q3 : w2.cell? ⟨gb, 9, none⟩ = some (.int .i64 x1.m) := Hcellgb.out 1 x1 3 _ hx1 rfl
        have fq3 : w2.frozen? ⟨gb, 9, none⟩ = false := Hfreegb.out _
        have q4 : w2.cell? ⟨gb, 10, none⟩ = some (.int .i64 x1.s) := Hcellgb.out 1 x1 4 _ hx1 rfl
        have fq4 : w2.frozen? ⟨gb, 10, none⟩ = false := Hfreegb.out _
        have q5 : w2.cell? ⟨gb, 11, none⟩ = some (.bool x1.o) := Hcellgb.out 1 x1 5 _ hx1 rfl
        have fq5 : w2.frozen? ⟨gb, 11, none⟩ = false := Hfreegb.out _
        have Hx0 := Lib.hid hx0; clear hx0
        have Hx1 := Lib.hid hx1; clear hx1
        have hbn : gb ≠ w2.heap.size := by omega
        have hbn' : w2.heap.size ≠ gb := by omega
        clear e2 hmxgb
        have h1 : OwnTaps (w2.setCells gb 0 (tapCells x1)) w.heap.size (.slice (some ⟨gb, 0, none⟩) (ys.set 0 x1).length cv) (ys.set 0 x1) := by
          unfold OwnTaps
          rw [List.length_set]
          exact own_store tapCells 6 (fun _ => rfl) (by omega) (x := x1) (i := 0) Hown2.out (by omega)
        have h2 : OwnTaps (((w2.setCells gb 0 (tapCells x1)).setCells gb 6 (tapCells x0)).alloc (.cells #[.int .i64 x0.v, .int .i64 x0.n, .int .i64 x0.c, .int .i64 x0.m, .int .i64 x0.s, .bool x0.o] 36)) w.heap.size (.slice (some ⟨gb, 0, none⟩) ys.length cv) ((ys.set 0 x1).set 1 x0) := by
          have h := own_store tapCells 6 (fun _ => rfl) (by omega) (x := x0) (i := 1) h1 (by rw [List.length_set]; omega)
          unfold OwnTaps
          simp only [List.length_set] at h ⊢
          exact World.ownsRow.alloc h _
        have h3 : Rd (((w2.setCells gb 0 (tapCells x1)).setCells gb 6 (tapCells x0)).alloc (.cells #[.int .i64 x0.v, .int .i64 x0.n, .int .i64 x0.c, .int .i64 x0.m, .int .i64 x0.s, .bool x0.o] 36)) g (q + 1) := Rd.alloc (Rd.setCells (Rd.setCells Hrd2.out (show g < gb by omega) (tapCells x1) 0) (show g < gb by omega) (tapCells x0) 6) _
        have h4 : w.grownBy (((w2.setCells gb 0 (tapCells x1)).setCells gb 6 (tapCells x0)).alloc (.cells #[.int .i64 x0.v, .int .i64 x0.n, .int .i64 x0.c, .int .i64 x0.m, .int .i64 x0.s, .bool x0.o] 36)) (some g) := grown_alloc (grown_cells (show w.heap.size ≤ gb by omega) (tapCells x0) _ 6 (grown_cells (show w.heap.size ≤ gb by omega) (tapCells x1) _ 0 HG2.out)) _
        have H1 := Lib.hid h2; clear h1 h2
        have H3 := Lib.hid h3; clear h3
        have H4 := Lib.hid h4; clear h4
        go_wp2
        go_ret
        refine ⟨_, (ys.set 0 x1).set 1 x0, q + 1, rfl, H1.out, by simp only [List.length_set]; omega, (fun t ht => ?_), by omega, H3.out, H4.out⟩
        rcases List.mem_or_eq_of_mem_set ht with h | h
        · rcases List.mem_or_eq_of_mem_set h with h | h
          · exact Hsm.out t h
          · subst h; exact Hsm.out _ (List.mem_of_getElem? Hx1.out)
        · subst h; exact Hsm.out _ (List.mem_of_getElem? Hx0.out)
      · have hl2 : decide ((1 : Int) < (ys.length : Int)) = false := by rw [decide_eq_false_iff_not]; omega
        go_wp2
        go_ret
        exact ⟨_, ys, _, rfl, Hown2.out, by omega, Hsm.out, by omega, Hrd2.out, HG2.out⟩
    · have hk1' : (k == 1) = false := by simpa using hk1
      by_cases hk2 : k = 2
      · subst hk2
        by_cases hl1 : 0 < ys.length
        · have hl2 : (0 : Int) < (ys.length : Int) := by omega
          obtain ⟨gb, cgb, evgb, hbgb, hltgb, hlegb, hmxgb, hcellgb, hfreegb, htheregb⟩ := own_at tapCells 6 (fun _ => rfl) Hown2.out (show 0 < ys.length by omega)
          have Hcellgb := Lib.hid hcellgb; clear hcellgb
          have Hfreegb := Lib.hid hfreegb; clear hfreegb
          have Htheregb := Lib.hid htheregb; clear htheregb
          obtain ⟨x0, hx0⟩ : ∃ x, ys[0]? = some x := ⟨_, List.getElem?_eq_getElem hl1⟩
          injection evgb with e1 e2 e3
          subst e1 e3
          have p0 : w2.cell? ⟨gb, 0, none⟩ = some (.int .i64 x0.v) := Hcellgb.out 0 x0 0 _ hx0 rfl
          have p1 : w2.cell? ⟨gb, 1, none⟩ = some (.int .i64 x0.n) := Hcellgb.out 0 x0 1 _ hx0 rfl
          have p2 : w2.cell? ⟨gb, 2, none⟩ = some (.int .i64 x0.c) := Hcellgb.out 0 x0 2 _ hx0 rfl
          have p3 : w2.cell? ⟨gb, 3, none⟩ = some (.int .i64 x0.m) := Hcellgb.out 0 x0 3 _ hx0 rfl
          have p4 : w2.cell? ⟨gb, 4, none⟩ = some (.int .i64 x0.s) := Hcellgb.out 0 x0 4 _ hx0 rfl
          have p5 : w2.cell? ⟨gb, 5, none⟩ = some (.bool x0.o) := Hcellgb.out 0 x0 5 _ hx0 rfl
          have Hx0 := Lib.hid hx0; clear hx0
          clear e2 hmxgb
          have hsz3 := (HG2.out).size
          go_wp2_with (at_builtin; refine wpList_append_lies _ rfl (.tmp 37) (.tmp 41) _ rfl (w.heap.size) 36 ti _ 6 48 Try.underlying23 HITap.out HZ0Tap.out HZ1Tap.out HZ2Tap.out rfl (by omega) _ _ _ rfl (World.ownsRow.alloc Hown2.out _) ⟨w2.heap.size, 0, none⟩ 1 1 (tapCells x0) rfl rfl ?c1 ?c2 (by omega) ?c3 ?c4 ?c5 _ rfl ?_)
          case c1 => exact World.news_of_block (Blk.new' (t := 36) (cs := #[.int .i64 x0.v, .int .i64 x0.n, .int .i64 x0.c, .int .i64 x0.m, .int .i64 x0.s, .bool x0.o]) (by simp))
          case c2 => simp [tapCells, Value.oneCell']
          case c3 => unfold maxLen; omega
          case c4 => omega
          case c5 => (try simp); omega
          intro gb3 cap3 w3 hown3 hgrow3 hat3 hlt3
          have HX3 := Lib.hid (OwnTaps.snoc hown3); clear hown3 hat3
          have Hrd3 := Lib.hid (Rd.grown_new (Rd.alloc Hrd2.out _) hgrow3 (fun r hr => by have := (World.ownsRow.lt Hown2.out r hr).1; omega))
          clear Hrd2
          have HG3 := Lib.hid (grown_new (grown_alloc HG2.out _) hgrow3 (fun r hr => (World.ownsRow.lt Hown2.out r hr).1))
          clear HG2
          clear hgrow3
          clear Hown2
          go_wp2
          go_ret
          exact ⟨_, ys ++ [x0], _, rfl, HX3.out, by simp; omega, (fun t' ht => by
                    rcases List.mem_append.1 ht with h | h
                    · exact Hsm.out t' h
                    · simp at h; subst h; exact Hsm.out _ (List.mem_of_getElem? Hx0.out)), by omega, Hrd3.out, HG3.out⟩
        · have hl2 : decide ((0 : Int) < (ys.length : Int)) = false := by rw [decide_eq_false_iff_not]; omega
          go_wp2
          go_ret
          exact ⟨_, ys, _, rfl, Hown2.out, by omega, Hsm.out, by omega, Hrd2.out, HG2.out⟩
      · have hk2' : (k == 2) = false := by simpa using hk2
        go_wp2
        go_ret
        exact ⟨_, ys, _, rfl, Hown2.out, by omega, Hsm.out, by omega, Hrd2.out, HG2.out⟩
end Go.Proofs.Ytllhjgheffemnaa
