/-
  Drawn taps, some of them twice.
-/
import Derived.Test.YtmbgaohnnkmidaaDrawTaps
import Derived.Test.YtmbgaohnnkmidaaLiftBytes
set_option linter.unusedSimpArgs false
namespace Go.Proofs.Ytmbgaohnnkmidaa
open Go.RowKit Go.Deep
set_option linter.unusedVariables false

def DrawsCollect (w : World) (e : Ending) (w' : World) : Prop :=
  ∃ (v : Value) (ys : List Fares.Tap), e = .returned v ∧ OwnTaps w' w.heap.size v ys ∧ ys.length ≤ 49 ∧ (∀ t ∈ ys, tapSmall t) ∧ Below w.heap.size w w'
theorem rd_cells_far {g q b : Nat} : ∀ (vs : List Value) (w : World) (o : Nat), Rd w g q → g < b → Rd (w.setCells b o vs) g q := fun vs w o h hb => Rd.setCells h hb vs o
set_option maxRecDepth 100000 in
set_option maxHeartbeats 2000000 in
theorem drawCollect_any (A : Option Addr) (n c : Nat) (w : World) (h : Bytes w w.heap.size A n c) : Calls Try.prog 31 #[.slice A n c] w (DrawsCollect w) := by
  obtain ⟨ti, hi0, hz0, hz1, hz2⟩ := info_parts info_tap4
  have HITap := Lib.hid hi0; clear hi0
  have HZ0Tap := Lib.hid hz0; clear hz0
  have HZ1Tap := Lib.hid hz1; clear hz1
  have HZ2Tap := Lib.hid hz2; clear hz2
  go_enter Try.func31, Try.ntmps31
  go_wp2_with fail
  refine (newReader_any A n c w h).mono ?_
  rintro e w1 ⟨rfl, hr1, hb1, hz1⟩
  have Hr1 := Lib.hid hr1; clear hr1
  have HB1 := Lib.hid hb1; clear hb1
  have HZ := Lib.hid hz1; clear hz1
  have hs1 : w.heap.size < w1.heap.size := Hr1.out.lt
  have Hn1 := Lib.hid (World.ownsRow_lit (base := w.heap.size + 1) (e := 30) (size := 6) w1 #[] 0 (by omega) (by unfold maxLen; omega) rfl)
  have Hr1a := Lib.hid (Rd.alloc Hr1.out (.cells #[] 30)); clear Hr1
  have HB1a := Lib.hid (show Below w.heap.size w (w1.alloc (.cells #[] 30)) from bA HB1.out _); clear HB1
  have hgl1 : w.heap.size < (w1.alloc (.cells #[] 30)).heap.size := by simp; omega
  go_wp2_with fail
  refine (one_in w.heap.size (0) _ [6, 10, 4, 20, 0, 48, 49] (0) 49 7 7 _ _ (Rd.alloc Hr1a.out _) (by omega) (Blk.new' (by simp)) (by have := (Hr1a.out).lt; (try simp); omega) rfl rfl (by omega) (by omega) (by decide)).mono ?_
  rintro e w2 ⟨n, rfl, n0, n1, hr2, hg2⟩
  have HB2 := Lib.hid (Below.trans (bA HB1a.out _) (below_of_grown hg2 (Below.size (bA HB1a.out _)) (by omega)))
  clear HB1a
  have Hown2 := Lib.hid (World.ownsRow.kept (World.ownsRow.alloc Hn1.out _) hg2 (apart_of (fun j hj e => by have := (World.ownsRow.lt Hn1.out j hj).1; injection e with e; omega)))
  clear Hn1
  clear hg2
  clear Hr1a
  have Hrd2 := Lib.hid hr2; clear hr2
  have hgl2 : w.heap.size < w2.heap.size := (Hrd2.out).lt
  obtain ⟨kn, rfl⟩ := Int.eq_ofNat_of_zero_le (show 0 ≤ n by omega)
  go_wp2
  go_loopw [4, 5] (fun v m wr => ∃ (ys : List Fares.Tap) (k q : Nat), OwnTaps wr (w.heap.size + 1) v ys ∧ ys.length + k ≤ 49 ∧ (∀ t ∈ ys, tapSmall t) ∧ m = .int .i64 k ∧ q + 20 * k ≤ 1000 ∧ Rd wr w.heap.size q ∧ Below w.heap.size w wr) (fun _ m _ => (intOf m).toNat)
  case atStart => exact ⟨[], kn, 0 + 1, Hown2.out, by simp; omega, (fun t ht => by cases ht), rfl, by omega, Hrd2.out, HB2.out⟩
  case round =>
    obtain ⟨ys, k, q, hown, hlen, hsm, rfl, hq, hrd, hb⟩ := hrel
    have Hsm := Lib.hid hsm; clear hsm
    have hgw := hrd.lt
    have Hr := Lib.hid hrd; clear hrd
    have HB := Lib.hid hb; clear hb
    obtain ⟨Av, cv, rfl, hcv1, hcv2, hrs⟩ := hown.form
    clear hrs
    unfold maxLen at hcv2
    have HLT := Lib.hid (fun j hj => (World.ownsRow.lt hown j hj).2)
    have Hown := Lib.hid hown; clear hown
    by_cases hk0 : 0 < k
    · have hk1 : (0 : Int) < (k : Int) := by omega
      obtain ⟨k', rfl⟩ : ∃ k', k = k' + 1 := ⟨k - 1, by omega⟩
      go_wp2_with fail
      refine (anyTap_any w.heap.size (q) _ Hr.out (by omega)).mono ?_
      rintro e w3 ⟨t, q1, rfl, ht, hq1, hr3, hg3⟩
      have Ht := Lib.hid ht; clear ht
      have hz3 := hg3.size
      have HB3 := Lib.hid (Below.trans HB.out (below_of_grown hg3 (Below.size HB.out) (by omega)))
      clear HB
      have Hown3 := Lib.hid (World.ownsRow.kept Hown.out hg3 (apart_of (fun j hj e => by have := (World.ownsRow.lt Hown.out j hj).1; injection e with e; omega)))
      clear Hown
      clear hg3
      clear Hr
      have Hrd3 := Lib.hid hr3; clear hr3
      have hgl3 : w.heap.size < w3.heap.size := (Hrd3.out).lt
      unfold tapV
      have Hktb3 := Lib.hid (Blk.new' (w := w3) (t := 30) (cs := #[.int .i64 t.v, .int .i64 t.n, .int .i64 t.c, .int .i64 t.m, .int .i64 t.s, .bool t.o]) (b := w3.heap.size) (by (try simp)))
      have hbt0 : w.heap.size < w3.heap.size := hgl3
      have hsB := (HB3.out).size
      by_cases hl0 : 0 < ys.length
      · have hl1 : (0 : Int) < (ys.length : Int) := by omega
        go_wp2_with fail
        refine (pick_any w.heap.size (q1) (5) _ (Rd.alloc Hrd3.out _) (by omega)).mono ?_
        rintro e w4 ⟨u, rfl, u0, u1, hr4, hg4⟩
        have u2 := u1 (by omega)
        clear u1
        have HB4 := Lib.hid (Below.trans (bA HB3.out _) (below_of_grown hg4 (Below.size (bA HB3.out _)) (by omega)))
        clear HB3
        have Hown4 := Lib.hid (World.ownsRow.kept (World.ownsRow.alloc Hown3.out _) hg4 (apart_of (fun j hj e => by have := (World.ownsRow.lt Hown3.out j hj).1; injection e with e; omega)))
        clear Hown3
        have Htb4 := Lib.hid (Blk.grown Hktb3.out hg4 (by intro e; injection e with e; omega))
        clear Hktb3
        clear hg4
        clear Hrd3
        have Hrd4 := Lib.hid hr4; clear hr4
        have hgl4 : w.heap.size < w4.heap.size := (Hrd4.out).lt
        by_cases hu : u = 0
        · subst hu
          go_wp2_with fail
          refine (pick_any w.heap.size (q1 + 1) ((ys.length : Int)) _ Hrd4.out (by omega)).mono ?_
          rintro e w5 ⟨i, rfl, i0, i1, hr5, hg5⟩
          have i2 := i1 (by omega)
          clear i1
          have HB5 := Lib.hid (Below.trans HB4.out (below_of_grown hg5 (Below.size HB4.out) (by omega)))
          clear HB4
          have Hown5 := Lib.hid (World.ownsRow.kept Hown4.out hg5 (apart_of (fun j hj e => by have := (World.ownsRow.lt Hown4.out j hj).1; injection e with e; omega)))
          clear Hown4
          have Htb5 := Lib.hid (Blk.grown Htb4.out hg5 (by intro e; injection e with e; omega))
          clear Htb4
          clear hg5
          clear Hrd4
          have Hrd5 := Lib.hid hr5; clear hr5
          have hgl5 : w.heap.size < w5.heap.size := (Hrd5.out).lt
          obtain ⟨i, rfl⟩ := Int.eq_ofNat_of_zero_le i0
          have hi : i < ys.length := by omega
          obtain ⟨gb, cgb, evgb, hbgb, hltgb, hlegb, hmxgb, hcellgb, hfreegb, htheregb⟩ := own_at tapCells 6 (fun _ => rfl) Hown5.out (show 0 < ys.length by omega)
          have Hcellgb := Lib.hid hcellgb; clear hcellgb
          have Hfreegb := Lib.hid hfreegb; clear hfreegb
          have Htheregb := Lib.hid htheregb; clear htheregb
          injection evgb with e1 e2 e3
          subst e1 e3
          clear e2 hmxgb
          obtain ⟨x, hx⟩ : ∃ x, ys[i]? = some x := ⟨_, List.getElem?_eq_getElem hi⟩
          have p0 : w5.cell? ⟨gb, i * 6, none⟩ = some (.int .i64 x.v) := Hcellgb.out i x 0 _ hx rfl
          have p1 : w5.cell? ⟨gb, i * 6 + 1, none⟩ = some (.int .i64 x.n) := Hcellgb.out i x 1 _ hx rfl
          have p2 : w5.cell? ⟨gb, i * 6 + 2, none⟩ = some (.int .i64 x.c) := Hcellgb.out i x 2 _ hx rfl
          have p3 : w5.cell? ⟨gb, i * 6 + 3, none⟩ = some (.int .i64 x.m) := Hcellgb.out i x 3 _ hx rfl
          have p4 : w5.cell? ⟨gb, i * 6 + 4, none⟩ = some (.int .i64 x.s) := Hcellgb.out i x 4 _ hx rfl
          have p5 : w5.cell? ⟨gb, i * 6 + 5, none⟩ = some (.bool x.o) := Hcellgb.out i x 5 _ hx rfl
          have Hxi := Lib.hid hx; clear hx
          have HQ := Lib.hid (Htb5.out)
          have q_0 := HQ.out.cell 0
          have q_1 := HQ.out.cell 1
          have q_2 := HQ.out.cell 2
          have q_3 := HQ.out.cell 3
          have q_4 := HQ.out.cell 4
          have q_5 := HQ.out.cell 5
          have f0 := HQ.out.free 0
          have f1 := HQ.out.free 1
          have f2 := HQ.out.free 2
          have f3 := HQ.out.free 3
          have f4 := HQ.out.free 4
          have f5 := HQ.out.free 5
          skip
          have hrd9 := rd_cells_far (tapCells x) w5 0 Hrd5.out (show w.heap.size < w3.heap.size from hbt0)
          have hB9 := below_setCells (show w.heap.size ≤ w3.heap.size from Nat.le_of_lt hbt0) (tapCells x) w5 0 HB5.out
          have hG9 := grown_setCells (tapCells x) w5 0 (grown_refl w5 (some w3.heap.size))
          have hO9 := World.ownsRow.kept Hown5.out hG9 (apart_of (fun j hj e => by have := HLT.out j hj; injection e with e; omega))
          have Hrd9 := Lib.hid hrd9; clear hrd9
          have HB9 := Lib.hid hB9; clear hB9
          have hsz9 := (HB5.out).size
          have HO9 := Lib.hid (show OwnTaps (w5.setCells w3.heap.size 0 (tapCells x)) (w.heap.size + 1) (.slice (some ⟨gb, 0, none⟩) ys.length cv) ys from hO9); clear hO9 hG9
          have hsz6 := (HB9.out).size
          go_wp2_with (at_builtin; refine wpList_append_lies _ rfl (.tmp 34) (.tmp 36) _ rfl (w.heap.size + 1) 30 ti _ 6 48 Try.underlying26 HITap.out HZ0Tap.out HZ1Tap.out HZ2Tap.out rfl (by omega) _ _ _ rfl (World.ownsRow.alloc HO9.out _) ⟨w5.heap.size, 0, none⟩ 1 1 (tapCells x) rfl rfl ?c1 ?c2 (by omega) ?c3 ?c4 ?c5 _ rfl ?_)
          case c1 => exact World.news_of_block (Blk.new' (t := 30) (cs := #[.int .i64 x.v, .int .i64 x.n, .int .i64 x.c, .int .i64 x.m, .int .i64 x.s, .bool x.o]) (by simp))
          case c2 => simp [tapCells, Value.oneCell']
          case c3 => unfold maxLen; omega
          case c4 => omega
          case c5 => first | omega | (simp; omega) | simp
          intro gb6 cap6 w6 hown6 hgrow6 hat6 hlt6
          have HX6 := Lib.hid (OwnTaps.snoc hown6); clear hown6 hat6
          have Hrd6 := Lib.hid (Rd.grown_new (Rd.alloc Hrd9.out _) hgrow6 (fun r hr => by have := (World.ownsRow.lt HO9.out r hr).1; omega))
          clear Hrd9
          have HB6 := Lib.hid (Below.grown (bA HB9.out _) hgrow6 (Below.size (bA HB9.out _)) (fun r hr => Nat.le_of_lt (World.ownsRow.lt HO9.out r hr).1))
          clear HB9
          clear hgrow6
          clear HO9
          go_wp2
          go_roundw
          case rel => exact ⟨ys ++ [x], k', _, HX6.out, by simp; omega, (fun t' ht => by
              rcases List.mem_append.1 ht with h | h
              · exact Hsm.out t' h
              · simp at h; subst h; exact Hsm.out _ (List.mem_of_getElem? Hxi.out)), by go_num, by omega, Hrd6.out, HB6.out⟩
          case measure => simp [intOf]
        · have hu0 : (u == 0) = false := by simpa using hu
          have HQ := Lib.hid (Htb4.out)
          have q_0 := HQ.out.cell 0
          have q_1 := HQ.out.cell 1
          have q_2 := HQ.out.cell 2
          have q_3 := HQ.out.cell 3
          have q_4 := HQ.out.cell 4
          have q_5 := HQ.out.cell 5
          have hsz5 := (HB4.out).size
          go_wp2_with (at_builtin; refine wpList_append_lies _ rfl (.tmp 34) (.tmp 36) _ rfl (w.heap.size + 1) 30 ti _ 6 48 Try.underlying26 HITap.out HZ0Tap.out HZ1Tap.out HZ2Tap.out rfl (by omega) _ _ _ rfl (World.ownsRow.alloc Hown4.out _) ⟨w4.heap.size, 0, none⟩ 1 1 (tapCells t) rfl rfl ?c1 ?c2 (by omega) ?c3 ?c4 ?c5 _ rfl ?_)
          case c1 => exact World.news_of_block (Blk.new' (t := 30) (cs := #[.int .i64 t.v, .int .i64 t.n, .int .i64 t.c, .int .i64 t.m, .int .i64 t.s, .bool t.o]) (by simp))
          case c2 => simp [tapCells, Value.oneCell']
          case c3 => unfold maxLen; omega
          case c4 => omega
          case c5 => first | omega | (simp; omega) | simp
          intro gb5 cap5 w5 hown5 hgrow5 hat5 hlt5
          have HX5 := Lib.hid (OwnTaps.snoc hown5); clear hown5 hat5
          have Hrd5 := Lib.hid (Rd.grown_new (Rd.alloc Hrd4.out _) hgrow5 (fun r hr => by have := (World.ownsRow.lt Hown4.out r hr).1; omega))
          clear Hrd4
          have HB5 := Lib.hid (Below.grown (bA HB4.out _) hgrow5 (Below.size (bA HB4.out _)) (fun r hr => Nat.le_of_lt (World.ownsRow.lt Hown4.out r hr).1))
          clear HB4
          clear hgrow5
          clear Hown4
          go_wp2
          go_roundw
          case rel => exact ⟨ys ++ [t], k', _, HX5.out, by simp; omega, (fun t' ht => by
              rcases List.mem_append.1 ht with h | h
              · exact Hsm.out t' h
              · simp at h; subst h; exact Ht.out), by go_num, by omega, Hrd5.out, HB5.out⟩
          case measure => simp [intOf]
      · have hl1 : decide ((0 : Int) < (ys.length : Int)) = false := by rw [decide_eq_false_iff_not]; omega
        have hsz4 := (HB3.out).size
        go_wp2_with (at_builtin; refine wpList_append_lies _ rfl (.tmp 34) (.tmp 36) _ rfl (w.heap.size + 1) 30 ti _ 6 48 Try.underlying26 HITap.out HZ0Tap.out HZ1Tap.out HZ2Tap.out rfl (by omega) _ _ _ rfl (World.ownsRow.alloc (World.ownsRow.alloc Hown3.out _) _) ⟨w3.heap.size + 1, 0, none⟩ 1 1 (tapCells t) rfl rfl ?c1 ?c2 (by omega) ?c3 ?c4 ?c5 _ rfl ?_)
        case c1 => exact World.news_of_block (Blk.new' (t := 30) (cs := #[.int .i64 t.v, .int .i64 t.n, .int .i64 t.c, .int .i64 t.m, .int .i64 t.s, .bool t.o]) (by simp))
        case c2 => simp [tapCells, Value.oneCell']
        case c3 => unfold maxLen; omega
        case c4 => omega
        case c5 => first | omega | (simp; omega) | simp
        intro gb4 cap4 w4 hown4 hgrow4 hat4 hlt4
        have HX4 := Lib.hid (OwnTaps.snoc hown4); clear hown4 hat4
        have Hrd4 := Lib.hid (Rd.grown_new (Rd.alloc (Rd.alloc Hrd3.out _) _) hgrow4 (fun r hr => by have := (World.ownsRow.lt Hown3.out r hr).1; omega))
        clear Hrd3
        have HB4 := Lib.hid (Below.grown (bA (bA HB3.out _) _) hgrow4 (Below.size (bA (bA HB3.out _) _)) (fun r hr => Nat.le_of_lt (World.ownsRow.lt Hown3.out r hr).1))
        clear HB3
        clear hgrow4
        clear Hown3
        go_wp2
        go_roundw
        case rel => exact ⟨ys ++ [t], k', _, HX4.out, by simp; omega, (fun t' ht => by
            rcases List.mem_append.1 ht with h | h
            · exact Hsm.out t' h
            · simp at h; subst h; exact Ht.out), by go_num, by omega, Hrd4.out, HB4.out⟩
        case measure => simp [intOf]
    · have hk1 : decide ((0 : Int) < (k : Int)) = false := by simp; omega
      go_wp2
      go_ret
      exact ⟨_, ys, rfl, ownBase Hown.out (by omega), by omega, Hsm.out, HB.out⟩
end Go.Proofs.Ytmbgaohnnkmidaa
