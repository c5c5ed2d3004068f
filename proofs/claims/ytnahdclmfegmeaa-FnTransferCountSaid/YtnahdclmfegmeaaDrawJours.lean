/-
  Drawn journeys.
-/
import Derived.Test.YtnahdclmfegmeaaDrawTaps
import Derived.Test.YtnahdclmfegmeaaMake
import Derived.Deep.CutRange
import Derived.StillTailTactics
namespace Go.Proofs.Ytnahdclmfegmeaa
open Go.RowKit Go.Deep
set_option linter.unusedVariables false

def jourSmall (j : Fares.Journey) : Prop := -1 ≤ j.a ∧ j.a ≤ 1000 ∧ -1 ≤ j.b ∧ j.b ≤ 1000 ∧ -1 ≤ j.x ∧ j.x ≤ 60000 ∧ -2 ≤ j.y ∧ j.y ≤ 70000
def SomeJourneys (N M g p : Nat) (w : World) (e : Ending) (w' : World) : Prop :=
  ∃ (v : Value) (ys : List Fares.Journey) (q : Nat), e = .returned v ∧ OwnJourneys w' w.heap.size v ys ∧ ys.length ≤ N ∧ (∀ j ∈ ys, jourSmall j) ∧ q ≤ p + M ∧ Rd w' g q ∧ w.grownBy w' (some g)
theorem jourSmall_of {xs : List Fares.Tap} {j : Fares.Journey} (hs : ∀ t ∈ xs, tapSmall t) (h : Fares.ofTaps xs j) : jourSmall j := by
  obtain ⟨t, ht, u, hu, e1, e2, e3, e4⟩ := h
  have h1 := hs t ht
  have h2 := hs u hu
  unfold tapSmall at h1 h2
  unfold jourSmall
  omega
theorem info_jour4 : (Try.prog.info? 45).map (fun i => (i.zero, i.size, i.bytes)) = some (some (.agg #[.int .i64 0, .int .i64 0, .int .i64 0, .int .i64 0, .bool false]), 5, 40) := by kernel_rfl
set_option maxRecDepth 100000 in
set_option maxHeartbeats 8000000 in
theorem anyJourneys_any (g p : Nat) (st : Int) (w : World) (hr : Rd w g p) (hp : p ≤ 20000) (hst0 : 1 ≤ st) (hst1 : st ≤ 100) :
    Calls Try.prog 95 #[.pointer (some ⟨g, 0, none⟩), .int .i64 st] w (SomeJourneys 25 440 g p w) := by
  have hgw := hr.lt
  have Hr0 := Lib.hid hr; clear hr
  obtain ⟨ti, hi0, hz0, hz1, hz2⟩ := info_parts info_jour4
  have HIJourney := Lib.hid hi0; clear hi0
  have HZ0Journey := Lib.hid hz0; clear hz0
  have HZ1Journey := Lib.hid hz1; clear hz1
  have HZ2Journey := Lib.hid hz2; clear hz2
  go_enter Try.func95, Try.ntmps95
  go_wp2_with fail
  refine (randomTaps_any g p st _ Hr0.out (by omega) hst0 hst1).mono ?_
  rintro e w1 ⟨v0, ts, q, rfl, hown1, hlen, hsm, hq, hr1, hg1⟩
  have hsz1 := hg1.size
  have Hr1 := Lib.hid hr1; clear hr1
  have HG1 := Lib.hid hg1; clear hg1
  obtain ⟨At, ct, rfl, _, _, hrt⟩ := OwnTaps.form hown1
  have Hts := Lib.hid hrt; clear hrt hown1
  go_wp2_with fail
  refine (specjourneys_any At _ ct ts _ Hts.out rfl (by omega) (fun t ht => by have := hsm t ht; unfold tapSmall at this; omega)).mono ?_
  rintro e w2 ⟨v1, rfl, hown2, hb2⟩
  have Hown2 := Lib.hid (ownBase hown2 hsz1); clear hown2
  obtain ⟨ys0, hys0⟩ : ∃ ys, ys = Fares.journeysOf ts := ⟨_, rfl⟩
  have hl0 : ys0.length ≤ 24 := by rw [hys0]; have := Fares.journeysOf_length ts; omega
  have hm0 : ∀ j ∈ ys0, jourSmall j := by rw [hys0]; exact fun j hj => jourSmall_of hsm (Fares.journeysOf_taps hj)
  rw [← hys0] at Hown2
  clear hys0 hsm Hts
  have Hm0 := Lib.hid hm0; clear hm0
  have Hrd2 := Lib.hid (Rd.belowAll Hr1.out hb2)
  clear Hr1
  have HG2 := Lib.hid (grown_trans HG1.out (grown_of_below hb2 _))
  clear HG1
  clear hb2
  have hgl2 : g < w2.heap.size := (Hrd2.out).lt
  go_wp2_with fail
  refine (pick_any g (q) (3) _ Hrd2.out (by omega)).mono ?_
  rintro e w3 ⟨k, rfl, k0, k1, hr3, hg3⟩
  have k2 := k1 (by omega)
  clear k1
  have HG3 := Lib.hid (grown_trans HG2.out hg3)
  clear HG2
  have Hown3 := Lib.hid (World.ownsRow.kept Hown2.out hg3 (apart_of (fun j hj e => by have := (World.ownsRow.lt Hown2.out j hj).1; injection e with e; omega)))
  clear Hown2
  clear hg3
  clear Hrd2
  have Hrd3 := Lib.hid hr3; clear hr3
  have hgl3 : g < w3.heap.size := (Hrd3.out).lt
  go_upto_if 16 with (fail)
  go_cut [5] from 10 (fun v wx => ∃ (ys : List Fares.Journey) (q : Nat), OwnJourneys wx w.heap.size v ys ∧ ys.length ≤ 25 ∧ (∀ j ∈ ys, jourSmall j) ∧ q ≤ p + 430 ∧ Rd wx g q ∧ w.grownBy wx (some g))
  case first =>
    by_cases hk0 : k = 0
    · subst hk0
      go_wp2_with fail
      refine (pick_any g (q + 1) (100) _ Hrd3.out (by omega)).mono ?_
      rintro e w4 ⟨t0, rfl, t00, t01, hr4, hg4⟩
      have t02 := t01 (by omega)
      clear t01
      have HG4 := Lib.hid (grown_trans HG3.out hg4)
      clear HG3
      have Hown4 := Lib.hid (World.ownsRow.kept Hown3.out hg4 (apart_of (fun j hj e => by have := (World.ownsRow.lt Hown3.out j hj).1; injection e with e; omega)))
      clear Hown3
      clear hg4
      clear Hrd3
      have Hrd4 := Lib.hid hr4; clear hr4
      have hgl4 : g < w4.heap.size := (Hrd4.out).lt
      have HnA := Lib.hid (World.ownsRow_lit (base := w.heap.size) (e := 45) (size := 5) w4 #[] 0 (HG4.out.size) (by unfold maxLen; omega) rfl)
      go_wp2_with fail
      refine (one_in g (q + 1 + 1) _ [3, 4, 5, 2, 1, 0, 24, 25] (0) 25 8 8 _ _ (Rd.alloc (Rd.alloc Hrd4.out _) _) (by omega) (Blk.new' (by simp)) (by have := (Hrd4.out).lt; (try simp); omega) rfl rfl (by omega) (by omega) (by decide)).mono ?_
      rintro e w5 ⟨n, rfl, n0, n1, hr5, hg5⟩
      have HG5 := Lib.hid (grown_trans (grown_alloc (grown_alloc HG4.out _) _) hg5)
      clear HG4
      have Hown5 := Lib.hid (World.ownsRow.kept (World.ownsRow.alloc HnA.out _) hg5 (apart_of (fun j hj e => by have := (World.ownsRow.lt HnA.out j hj).1; injection e with e; omega)))
      clear HnA
      clear hg5
      clear Hrd4
      have Hrd5 := Lib.hid hr5; clear hr5
      have hgl5 : g < w5.heap.size := (Hrd5.out).lt
      obtain ⟨kn, rfl⟩ := Int.eq_ofNat_of_zero_le (show 0 ≤ n by omega)
      go_wp2
      go_loopw [5, 6, 7] (fun v mi m wr => ∃ (ys : List Fares.Journey) (at0 : Int) (k q : Nat), OwnJourneys wr w.heap.size v ys ∧ ys.length + k ≤ 25 ∧ (∀ j ∈ ys, jourSmall j) ∧ mi = .int .i64 at0 ∧ 0 ≤ at0 ∧ at0 + 1440 * k ≤ 36500 ∧ m = .int .i64 k ∧ q + 5 * k ≤ p + 430 ∧ Rd wr g q ∧ w.grownBy wr (some g)) (fun _ _ m _ => (intOf m).toNat)
      case atStart => exact ⟨[], 300 + t0, kn, _, Hown5.out, by simp; omega, (fun t ht => by cases ht), rfl, by omega, by omega, rfl, by omega, Hrd5.out, HG5.out⟩
      case round =>
        obtain ⟨ys, at0, k, q, hown, hlen, hsm, rfl, at1, at2, rfl, hq, hrd, hg⟩ := hrel
        have Hsm := Lib.hid hsm; clear hsm
        have hglr := hrd.lt
        have Hr := Lib.hid hrd; clear hrd
        have HG := Lib.hid hg; clear hg
        obtain ⟨Av, cv, rfl, hcv1, hcv2, hrs⟩ := OwnJourneys.form hown
        unfold maxLen at hcv2
        clear hrs
        have Hown := Lib.hid hown; clear hown
        by_cases hk0 : 0 < k
        · have hk1 : (0 : Int) < (k : Int) := by omega
          go_wp2_with fail
          refine (pick_any g (q) (st) _ Hr.out (by omega)).mono ?_
          rintro e w6 ⟨a, rfl, a0, a1, hr6, hg6⟩
          have a2 := a1 (by omega)
          clear a1
          have HG6 := Lib.hid (grown_trans HG.out hg6)
          clear HG
          have Hown6 := Lib.hid (World.ownsRow.kept Hown.out hg6 (apart_of (fun j hj e => by have := (World.ownsRow.lt Hown.out j hj).1; injection e with e; omega)))
          clear Hown
          clear hg6
          clear Hr
          have Hrd6 := Lib.hid hr6; clear hr6
          have hgl6 : g < w6.heap.size := (Hrd6.out).lt
          go_wp2_with fail
          refine (pick_any g (q + 1) (st) _ Hrd6.out (by omega)).mono ?_
          rintro e w7 ⟨b, rfl, b0, b1, hr7, hg7⟩
          have b2 := b1 (by omega)
          clear b1
          have HG7 := Lib.hid (grown_trans HG6.out hg7)
          clear HG6
          have Hown7 := Lib.hid (World.ownsRow.kept Hown6.out hg7 (apart_of (fun j hj e => by have := (World.ownsRow.lt Hown6.out j hj).1; injection e with e; omega)))
          clear Hown6
          clear hg7
          clear Hrd6
          have Hrd7 := Lib.hid hr7; clear hr7
          have hgl7 : g < w7.heap.size := (Hrd7.out).lt
          go_wp2_with fail
          refine (pick_any g (q + 1 + 1) (40) _ Hrd7.out (by omega)).mono ?_
          rintro e w8 ⟨c, rfl, c0, c1, hr8, hg8⟩
          have c2 := c1 (by omega)
          clear c1
          have HG8 := Lib.hid (grown_trans HG7.out hg8)
          clear HG7
          have Hown8 := Lib.hid (World.ownsRow.kept Hown7.out hg8 (apart_of (fun j hj e => by have := (World.ownsRow.lt Hown7.out j hj).1; injection e with e; omega)))
          clear Hown7
          clear hg8
          clear Hrd7
          have Hrd8 := Lib.hid hr8; clear hr8
          have hgl8 : g < w8.heap.size := (Hrd8.out).lt
          have Hkj8 := Lib.hid (Blk.new' (w := w8) (t := 45) (cs := #[.int .i64 a, .int .i64 b, .int .i64 at0, .int .i64 (at0 + c), .bool true]) (b := w8.heap.size) (by (try simp)))
          have hbw : w.heap.size ≤ w8.heap.size := HG8.out.size
          have hob : ∀ i, Value.ownBlock (.slice Av ys.length cv) = some i → i < w8.heap.size := fun i hi => (World.ownsRow.lt Hown8.out i hi).2
          go_wp2_with fail
          refine (pick_any g (q + 1 + 1 + 1) (5) _ (Rd.alloc Hrd8.out _) (by omega)).mono ?_
          rintro e w9 ⟨d, rfl, d0, d1, hr9, hg9⟩
          have d2 := d1 (by omega)
          clear d1
          have HG9 := Lib.hid (grown_trans (grown_alloc HG8.out _) hg9)
          clear HG8
          have Hown9 := Lib.hid (World.ownsRow.kept (World.ownsRow.alloc Hown8.out _) hg9 (apart_of (fun j hj e => by have := (World.ownsRow.lt Hown8.out j hj).1; injection e with e; omega)))
          clear Hown8
          have Hj9 := Lib.hid (Blk.grown Hkj8.out hg9 (by intro e; injection e with e; omega))
          clear Hkj8
          clear hg9
          clear Hrd8
          have Hrd9 := Lib.hid hr9; clear hr9
          have hgl9 : g < w9.heap.size := (Hrd9.out).lt
          go_upto_if 42 with (fail)
          go_cut [8] from 24 to 59 (fun s8 wx => ∃ (b' : Nat) (j : Fares.Journey), s8 = .pointer (some ⟨b', 0, none⟩) ∧ Blk wx b' 45 #[.int .i64 j.a, .int .i64 j.b, .int .i64 j.x, .int .i64 j.y, .bool j.f] ∧ jourSmall j ∧ 0 ≤ j.y ∧ j.y ≤ at0 + 40 ∧ b' ≠ g ∧ w.heap.size ≤ b' ∧ (∀ i, Value.ownBlock (.slice Av ys.length cv) = some i → i < b') ∧ OwnJourneys wx w.heap.size (.slice Av ys.length cv) ys ∧ Rd wx g (q + 1 + 1 + 1 + 1) ∧ w.grownBy wx (some g))
          case first =>
            by_cases hd : d = 0
            · subst hd
              have p0 : w9.cell? ⟨w8.heap.size, 0, none⟩ = some (.int .i64 a) := (Hj9.out).cell 0
              have p1 : w9.cell? ⟨w8.heap.size, 1, none⟩ = some (.int .i64 b) := (Hj9.out).cell 1
              have p2 : w9.cell? ⟨w8.heap.size, 2, none⟩ = some (.int .i64 at0) := (Hj9.out).cell 2
              have p3 : w9.cell? ⟨w8.heap.size, 3, none⟩ = some (.int .i64 (at0 + c)) := (Hj9.out).cell 3
              have p4 : w9.cell? ⟨w8.heap.size, 4, none⟩ = some (.bool true) := (Hj9.out).cell 4
              have f0 : w9.frozen? ⟨w8.heap.size, 0, none⟩ = false := (Hj9.out).free 0
              have f1 : w9.frozen? ⟨w8.heap.size, 1, none⟩ = false := (Hj9.out).free 1
              have f2 : w9.frozen? ⟨w8.heap.size, 2, none⟩ = false := (Hj9.out).free 2
              have f3 : w9.frozen? ⟨w8.heap.size, 3, none⟩ = false := (Hj9.out).free 3
              have f4 : w9.frozen? ⟨w8.heap.size, 4, none⟩ = false := (Hj9.out).free 4
              have h1 : Blk (w9.setCells w8.heap.size 0 [.int .i64 a, .int .i64 a, .int .i64 at0, .int .i64 at0, .bool false]) (w8.heap.size) 45 #[.int .i64 a, .int .i64 a, .int .i64 at0, .int .i64 at0, .bool false] := Blk.puts [.int .i64 a, .int .i64 a, .int .i64 at0, .int .i64 at0, .bool false] _ _ 0 Hj9.out
              have h2 : OwnJourneys (w9.setCells w8.heap.size 0 [.int .i64 a, .int .i64 a, .int .i64 at0, .int .i64 at0, .bool false]) w.heap.size (.slice Av ys.length cv) ys := World.ownsRow.kept Hown9.out (grown_setCells (g := w8.heap.size) [.int .i64 a, .int .i64 a, .int .i64 at0, .int .i64 at0, .bool false] _ 0 (grown_refl _ _)) (apart_of (fun i hi e => by have := hob i hi; injection e with e; omega))
              have h3 : Rd (w9.setCells w8.heap.size 0 [.int .i64 a, .int .i64 a, .int .i64 at0, .int .i64 at0, .bool false]) g (q + 1 + 1 + 1 + 1) := Rd.setCells Hrd9.out (show g < w8.heap.size by omega) [.int .i64 a, .int .i64 a, .int .i64 at0, .int .i64 at0, .bool false] 0
              have h4 : w.grownBy (w9.setCells w8.heap.size 0 [.int .i64 a, .int .i64 a, .int .i64 at0, .int .i64 at0, .bool false]) (some g) := grown_cells hbw [.int .i64 a, .int .i64 a, .int .i64 at0, .int .i64 at0, .bool false] _ 0 HG9.out
              have H1 := Lib.hid h1; clear h1
              have H2 := Lib.hid h2; clear h2
              have H3 := Lib.hid h3; clear h3
              have H4 := Lib.hid h4; clear h4
              go_wp2
              go_meet
              exact ⟨_, ⟨a, a, at0, at0, false⟩, rfl, H1.out, by unfold jourSmall; dsimp only; omega, by dsimp only; omega, by dsimp only; omega, by omega, by omega, hob, H2.out, H3.out, H4.out⟩
            · have hd' : (d == 0) = false := by simpa using hd
              go_wp2
              go_meet
              exact ⟨_, ⟨a, b, at0, at0 + c, true⟩, rfl, Hj9.out, by unfold jourSmall; dsimp only; omega, by dsimp only; omega, by dsimp only; omega, by omega, by omega, hob, Hown9.out, Hrd9.out, HG9.out⟩
          case rest =>
            clear hbw hob Hj9 Hown9 Hrd9 HG9
            obtain ⟨bj, j, rfl, hbj, hjs, hy0, hy1, hbg, hbw, hobb, hown, hrd, hg⟩ := hcut
            have Hobb := Lib.hid hobb; clear hobb
            have hglc := hrd.lt
            have Hjs := Lib.hid hjs; clear hjs
            have Hr := Lib.hid hrd; clear hrd
            have HG := Lib.hid hg; clear hg
            have Hown := Lib.hid hown; clear hown
            have Hbj := Lib.hid hbj; clear hbj
            have p0 : wc.cell? ⟨bj, 0, none⟩ = some (.int .i64 j.a) := Hbj.out.cell 0
            have p1 : wc.cell? ⟨bj, 1, none⟩ = some (.int .i64 j.b) := Hbj.out.cell 1
            have p2 : wc.cell? ⟨bj, 2, none⟩ = some (.int .i64 j.x) := Hbj.out.cell 2
            have p3 : wc.cell? ⟨bj, 3, none⟩ = some (.int .i64 j.y) := Hbj.out.cell 3
            have p4 : wc.cell? ⟨bj, 4, none⟩ = some (.bool j.f) := Hbj.out.cell 4
            have hcf : CF wc bj 3 (.int .i64 j.y) := ⟨p3, Hbj.out.lt⟩
            have Hcf := Lib.hid hcf; clear hcf
            clear Hbj
            have hsz11 := (HG.out).size
            go_wp2_with (at_builtin; refine wpList_append_lies _ rfl (.tmp 50) (.tmp 52) _ rfl (w.heap.size) 45 ti _ 5 40 Try.underlying41 HIJourney.out HZ0Journey.out HZ1Journey.out HZ2Journey.out rfl (by omega) _ _ _ rfl (World.ownsRow.alloc Hown.out _) ⟨wc.heap.size, 0, none⟩ 1 1 (journeyCells j) rfl rfl ?c1 ?c2 (by omega) ?c3 ?c4 ?c5 _ rfl ?_)
            case c1 => exact World.news_of_block (Blk.new' (t := 45) (cs := #[.int .i64 j.a, .int .i64 j.b, .int .i64 j.x, .int .i64 j.y, .bool j.f]) (by simp))
            case c2 => simp [journeyCells, Value.oneCell']
            case c3 => unfold maxLen; omega
            case c4 => omega
            case c5 => (try simp); omega
            intro gb11 cap11 w11 hown11 hgrow11 hat11 hlt11
            have HX11 := Lib.hid (OwnJourneys.snoc hown11); clear hown11 hat11
            have Hrd11 := Lib.hid (Rd.grown_new (Rd.alloc Hr.out _) hgrow11 (fun r hr => by have := (World.ownsRow.lt Hown.out r hr).1; omega))
            clear Hr
            have HG11 := Lib.hid (grown_new (grown_alloc HG.out _) hgrow11 (fun r hr => (World.ownsRow.lt Hown.out r hr).1))
            clear HG
            have Hje11 := Lib.hid (CF.grown (CF.up Hcf.out _) hgrow11 (fun e => by have := Hobb.out _ e.symm; omega))
            clear Hcf
            clear hgrow11
            clear Hown
            obtain ⟨k', rfl⟩ : ∃ k', k = k' + 1 := ⟨k - 1, by omega⟩
            clear p0 p1 p2 p3 p4
            have hglx : g < w11.heap.size := (Hrd11.out).lt
            go_wp2
            refine wp_region_held_drew (S := fun w' => w'.cell? ⟨bj, 3, none⟩ = some (.int .i64 j.y)) (by kernel_rfl) (by exact (Hje11.out).1) (fun hS => ?_)
            refine take_at 0 54 (v := ?_) rfl rfl (by kernel_rfl) (by kernel_rfl) (by kernel_rfl) (fun _ _ _ h => h) (by rfl) ?_ hS ?_
            rotate_left 1
            · (intro w hSw; (try dsimp only at hSw); (try go_split_ands); go_simp; try with_reducible rfl)
            simp only [List.setIfInBounds_toArray, List.set_cons_zero, List.set_cons_succ]
            refine take_at 1 55 (v := ?_) rfl rfl (by kernel_rfl) (by kernel_rfl) (by kernel_rfl) (fun _ _ _ h => h) (by rfl) ?_ hS ?_
            rotate_left 1
            · (intro w hSw; (try dsimp only at hSw); (try go_split_ands); go_simp; try with_reducible rfl)
            simp only [List.setIfInBounds_toArray, List.set_cons_zero, List.set_cons_succ]
            refine take_at 2 56 (v := ?_) rfl rfl (by kernel_rfl) (by kernel_rfl) (by kernel_rfl) (fun _ _ _ h => h) (by rfl) ?_ hS ?_
            rotate_left 1
            · (intro w hSw; (try dsimp only at hSw); (try go_split_ands); go_simp; try with_reducible rfl)
            simp only [List.setIfInBounds_toArray, List.set_cons_zero, List.set_cons_succ]
            refine wpAnyH_ready (rs := [3]) (by kernel_rfl) (by simp) ?_
            refine AllReadyH.cons rfl (fun K hK => ?_) (AllReadyH.nil)
            go_simp
            have Hkbl11 := Lib.hid (Blk.new' (w := w11.drew) (t := 3) (cs := #[.int .i64 0, .int .i64 10, .int .i64 30, .int .i64 31, .int .i64 100, .int .i64 1400]) (b := w11.heap.size) (by (try simp)))
            refine hK.out _ _ (by exact ((CF.up (CF.drew Hje11.out) _)).1) (fun hS => ?_)
            clear hK K
            refine wpAnyH_ready (rs := [4]) (by kernel_rfl) (by simp) ?_
            refine AllReadyH.cons rfl (fun K hK => ?_) (AllReadyH.nil)
            go_simp
            go_wp2_with fail
            refine (one_in g (q + 1 + 1 + 1 + 1) _ [0, 10, 30, 31, 100, 1400] (0) 1400 6 6 _ _ (Rd.alloc (Rd.drew Hrd11.out) _) (by omega) Hkbl11.out (by omega) rfl rfl (by omega) (by omega) (by decide)).mono ?_
            rintro e w12 ⟨m, rfl, m0, m1, hr12, hg12⟩
            have HG12 := Lib.hid (grown_trans (grown_alloc (grownDrew HG11.out) _) hg12)
            clear HG11
            have Hown12 := Lib.hid (World.ownsRow.kept (World.ownsRow.alloc (ownDrew HX11.out) _) hg12 (apart_of (fun j hj e => by have := (World.ownsRow.lt HX11.out j hj).1; injection e with e; omega)))
            clear HX11
            have Hje12 := Lib.hid (CF.grown (CF.up (CF.drew Hje11.out) _) hg12 (by intro e; injection e with e; omega))
            clear Hje11
            have Hbl12 := Lib.hid (Blk.grown Hkbl11.out hg12 (by intro e; injection e with e; omega))
            clear Hkbl11
            clear hg12
            clear Hrd11
            have Hrd12 := Lib.hid hr12; clear hr12
            have hgl12 : g < w12.heap.size := (Hrd12.out).lt
            go_simp
            refine hK.out _ _ (by exact (Hje12.out).1) (fun hS => ?_)
            clear hK K
            refine take_at 5 59 (v := ?_) rfl rfl (by kernel_rfl) (by kernel_rfl) (by kernel_rfl) (fun _ _ _ h => h) (by rfl) ?_ hS ?_
            rotate_left 1
            · (intro w hSw; (try dsimp only at hSw); (try go_split_ands); go_simp; try with_reducible rfl)
            simp only [List.setIfInBounds_toArray, List.set_cons_zero, List.set_cons_succ]
            refine take_at 6 6 (v := ?_) rfl rfl (by kernel_rfl) (by kernel_rfl) (by kernel_rfl) (fun _ _ _ h => h) (by rfl) ?_ hS ?_
            rotate_left 1
            · (intro w hSw; (try dsimp only at hSw); (try go_split_ands); go_simp; try with_reducible rfl)
            simp only [List.setIfInBounds_toArray, List.set_cons_zero, List.set_cons_succ]
            refine wpAnyH_done (by kernel_rfl) ?_ _
            have hw : IntKind.i64.wrap (j.y + m) = j.y + m := IntWalk.i64_in _ (by omega)
            go_wp2
            go_roundw
            case rel => exact ⟨ys ++ [j], j.y + m, k', _, Hown12.out, by simp; omega, (fun j' hj => by
                rcases List.mem_append.1 hj with h | h
                · exact Hsm.out j' h
                · simp at h; subst h; exact Hjs.out), by first | rfl | rw [hw], by omega, by push_cast at *; omega, by go_num, by omega, Hrd12.out, HG12.out⟩
            case measure => simp [intOf]
        · have hk1 : decide ((0 : Int) < (k : Int)) = false := by simp; omega
          go_wp2
          go_meet
          exact ⟨ys, q, Hown.out, by omega, Hsm.out, by omega, Hr.out, HG.out⟩
    · have hk0' : (k == 0) = false := by simpa using hk0
      go_wp2
      go_meet
      exact ⟨ys0, _, Hown3.out, by omega, Hm0.out, by omega, Hrd3.out, HG3.out⟩
  case rest =>
    clear Hown3 Hrd3 HG3 Hm0 hgl2 hsz1
    obtain ⟨ys, q, hown, hlen, hsm, hq, hrd, hg⟩ := hcut
    have hglc := hrd.lt
    have Hsm := Lib.hid hsm; clear hsm
    have Hr := Lib.hid hrd; clear hrd
    have HG := Lib.hid hg; clear hg
    obtain ⟨Av, cv, rfl, hcv1, hcv2, hrs⟩ := OwnJourneys.form hown
    unfold maxLen at hcv2
    clear hrs
    have Hown := Lib.hid hown; clear hown
    by_cases hl : 0 < ys.length
    · have hl1 : (0 : Int) < (ys.length : Int) := by omega
      go_wp2_with fail
      refine (pick_any g (q) (24) _ Hr.out (by omega)).mono ?_
      rintro e w21 ⟨f, rfl, f0, f1, hr21, hg21⟩
      have f2 := f1 (by omega)
      clear f1
      have HG21 := Lib.hid (grown_trans HG.out hg21)
      clear HG
      have Hown21 := Lib.hid (World.ownsRow.kept Hown.out hg21 (apart_of (fun j hj e => by have := (World.ownsRow.lt Hown.out j hj).1; injection e with e; omega)))
      clear Hown
      clear hg21
      clear Hr
      have Hrd21 := Lib.hid hr21; clear hr21
      have hgl21 : g < w21.heap.size := (Hrd21.out).lt
      by_cases hf : f = 0
      · subst hf
        go_wp2_with fail
        refine (pick_any g (q + 1) ((ys.length : Int)) _ Hrd21.out (by omega)).mono ?_
        rintro e w22 ⟨kk, rfl, kk0, kk1, hr22, hg22⟩
        have kk2 := kk1 (by omega)
        clear kk1
        have HG22 := Lib.hid (grown_trans HG21.out hg22)
        clear HG21
        have Hown22 := Lib.hid (World.ownsRow.kept Hown21.out hg22 (apart_of (fun j hj e => by have := (World.ownsRow.lt Hown21.out j hj).1; injection e with e; omega)))
        clear Hown21
        clear hg22
        clear Hrd21
        have Hrd22 := Lib.hid hr22; clear hr22
        have hgl22 : g < w22.heap.size := (Hrd22.out).lt
        obtain ⟨ki, rfl⟩ := Int.eq_ofNat_of_zero_le kk0
        have hki : ki < ys.length := by omega
        have kki : (0 : Int) ≤ (ki : Int) := by omega
        have kkj : (ki : Int) < (ys.length : Int) := by omega
        obtain ⟨gb, cgb, evgb, hbgb, hltgb, hlegb, hmxgb, hcellgb, hfreegb, htheregb⟩ := own_at journeyCells 5 (fun _ => rfl) Hown22.out (show 0 < ys.length by omega)
        have Hcellgb := Lib.hid hcellgb; clear hcellgb
        have Hfreegb := Lib.hid hfreegb; clear hfreegb
        have Htheregb := Lib.hid htheregb; clear htheregb
        injection evgb with e1 e2 e3
        subst e1 e3
        clear e2
        unfold maxLen at hmxgb
        obtain ⟨x, hx⟩ : ∃ x, ys[ki]? = some x := ⟨_, List.getElem?_eq_getElem hki⟩
        have hxs := Hsm.out x (List.mem_of_getElem? hx)
        have hcf : CF w22 gb (ki * 5 + 2) (.int .i64 x.x) := ⟨Hcellgb.out ki x 2 _ hx rfl, hltgb⟩
        have Hcf := Lib.hid hcf; clear hcf
        have Hx := Lib.hid hx; clear hx
        have hxb : -1 ≤ x.x ∧ x.x ≤ 60000 := by unfold jourSmall at hxs; omega
        obtain ⟨hxb0, hxb1⟩ := hxb
        clear hxs Hcellgb Hfreegb Htheregb
        go_wp2
        refine wp_region_held_drew (S := fun w' => w'.cell? ⟨gb, ki * 5 + 2, none⟩ = some (.int .i64 x.x)) (by kernel_rfl) (by exact (Hcf.out).1) (fun hS => ?_)
        refine take_at 0 72 (v := ?_) rfl rfl (by kernel_rfl) (by kernel_rfl) (by kernel_rfl) (fun _ _ _ h => h) (by rfl) ?_ hS ?_
        rotate_left 1
        · (intro w hSw; (try dsimp only at hSw); (try go_split_ands); go_simp; try with_reducible rfl)
        simp only [List.setIfInBounds_toArray, List.set_cons_zero, List.set_cons_succ]
        refine take_at 1 73 (v := ?_) rfl rfl (by kernel_rfl) (by kernel_rfl) (by kernel_rfl) (fun _ _ _ h => h) (by rfl) ?_ hS ?_
        rotate_left 1
        · (intro w hSw; (try dsimp only at hSw); (try go_split_ands); go_simp; try with_reducible rfl)
        simp only [List.setIfInBounds_toArray, List.set_cons_zero, List.set_cons_succ]
        refine take_at 2 74 (v := ?_) rfl rfl (by kernel_rfl) (by kernel_rfl) (by kernel_rfl) (fun _ _ _ h => h) (by rfl) ?_ hS ?_
        rotate_left 1
        · (intro w hSw; (try dsimp only at hSw); (try go_split_ands); go_simp; try with_reducible rfl)
        simp only [List.setIfInBounds_toArray, List.set_cons_zero, List.set_cons_succ]
        refine take_at 5 77 (v := ?_) rfl rfl (by kernel_rfl) (by kernel_rfl) (by kernel_rfl) (fun _ _ _ h => h) (by rfl) ?_ hS ?_
        rotate_left 1
        · (intro w hSw; (try dsimp only at hSw); (try go_split_ands); go_simp; try with_reducible rfl)
        simp only [List.setIfInBounds_toArray, List.set_cons_zero, List.set_cons_succ]
        refine take_at 8 80 (v := ?_) rfl rfl (by kernel_rfl) (by kernel_rfl) (by kernel_rfl) (fun _ _ _ h => h) (by rfl) ?_ hS ?_
        rotate_left 1
        · (intro w hSw; (try dsimp only at hSw); (try go_split_ands); go_simp; try with_reducible rfl)
        simp only [List.setIfInBounds_toArray, List.set_cons_zero, List.set_cons_succ]
        refine take_at 9 81 (v := ?_) rfl rfl (by kernel_rfl) (by kernel_rfl) (by kernel_rfl) (fun _ _ _ h => h) (by rfl) ?_ hS ?_
        rotate_left 1
        · (intro w hSw; (try dsimp only at hSw); (try go_split_ands); go_simp; try with_reducible rfl)
        simp only [List.setIfInBounds_toArray, List.set_cons_zero, List.set_cons_succ]
        refine take_at 10 82 (v := ?_) rfl rfl (by kernel_rfl) (by kernel_rfl) (by kernel_rfl) (fun _ _ _ h => h) (by rfl) ?_ hS ?_
        rotate_left 1
        · (intro w hSw; (try dsimp only at hSw); (try go_split_ands); go_simp; try with_reducible rfl)
        simp only [List.setIfInBounds_toArray, List.set_cons_zero, List.set_cons_succ]
        refine take_at 11 83 (v := ?_) rfl rfl (by kernel_rfl) (by kernel_rfl) (by kernel_rfl) (fun _ _ _ h => h) (by rfl) ?_ hS ?_
        rotate_left 1
        · (intro w hSw; (try dsimp only at hSw); (try go_split_ands); go_simp; try with_reducible rfl)
        simp only [List.setIfInBounds_toArray, List.set_cons_zero, List.set_cons_succ]
        refine take_at 12 84 (v := ?_) rfl rfl (by kernel_rfl) (by kernel_rfl) (by kernel_rfl) (fun _ _ _ h => h) (by rfl) ?_ hS ?_
        rotate_left 1
        · (intro w hSw; (try dsimp only at hSw); (try go_split_ands); go_simp; try with_reducible rfl)
        simp only [List.setIfInBounds_toArray, List.set_cons_zero, List.set_cons_succ]
        refine take_at 13 85 (v := ?_) rfl rfl (by kernel_rfl) (by kernel_rfl) (by kernel_rfl) (fun _ _ _ h => h) (by rfl) ?_ hS ?_
        rotate_left 1
        · (intro w hSw; (try dsimp only at hSw); (try go_split_ands); go_simp; try with_reducible rfl)
        simp only [List.setIfInBounds_toArray, List.set_cons_zero, List.set_cons_succ]
        refine take_at 14 86 (v := ?_) rfl rfl (by kernel_rfl) (by kernel_rfl) (by kernel_rfl) (fun _ _ _ h => h) (by rfl) ?_ hS ?_
        rotate_left 1
        · (intro w hSw; (try dsimp only at hSw); (try go_split_ands); go_simp; try with_reducible rfl)
        simp only [List.setIfInBounds_toArray, List.set_cons_zero, List.set_cons_succ]
        refine take_at 15 87 (v := ?_) rfl rfl (by kernel_rfl) (by kernel_rfl) (by kernel_rfl) (fun _ _ _ h => h) (by rfl) ?_ hS ?_
        rotate_left 1
        · (intro w hSw; (try dsimp only at hSw); (try go_split_ands); go_simp; try with_reducible rfl)
        simp only [List.setIfInBounds_toArray, List.set_cons_zero, List.set_cons_succ]
        refine take_at 16 88 (v := ?_) rfl rfl (by kernel_rfl) (by kernel_rfl) (by kernel_rfl) (fun _ _ _ h => h) (by rfl) ?_ hS ?_
        rotate_left 1
        · (intro w hSw; (try dsimp only at hSw); (try go_split_ands); go_simp; try with_reducible rfl)
        simp only [List.setIfInBounds_toArray, List.set_cons_zero, List.set_cons_succ]
        refine take_at 17 89 (v := ?_) rfl rfl (by kernel_rfl) (by kernel_rfl) (by kernel_rfl) (fun _ _ _ h => h) (by rfl) ?_ hS ?_
        rotate_left 1
        · (intro w hSw; (try dsimp only at hSw); (try go_split_ands); go_simp; try with_reducible rfl)
        simp only [List.setIfInBounds_toArray, List.set_cons_zero, List.set_cons_succ]
        refine take_at 18 90 (v := ?_) rfl rfl (by kernel_rfl) (by kernel_rfl) (by kernel_rfl) (fun _ _ _ h => h) (by rfl) ?_ hS ?_
        rotate_left 1
        · (intro w hSw; (try dsimp only at hSw); (try go_split_ands); go_simp; try with_reducible rfl)
        simp only [List.setIfInBounds_toArray, List.set_cons_zero, List.set_cons_succ]
        refine take_at 22 94 (v := ?_) rfl rfl (by kernel_rfl) (by kernel_rfl) (by kernel_rfl) (fun _ _ _ h => h) (by rfl) ?_ hS ?_
        rotate_left 1
        · (intro w hSw; (try dsimp only at hSw); (try go_split_ands); go_simp; try with_reducible rfl)
        simp only [List.setIfInBounds_toArray, List.set_cons_zero, List.set_cons_succ]
        refine wpAnyH_ready (rs := [3, 6, 19]) (by kernel_rfl) (by simp) ?_
        refine AllReadyH.cons rfl (fun K hK => ?_) (AllReadyH.cons rfl (fun K hK => ?_) (AllReadyH.cons rfl (fun K hK => ?_) (AllReadyH.nil)))
        · go_simp
          have Hkk122 := Lib.hid (Blk.new' (w := w22.drew) (t := 3) (cs := #[.int .i64 (-1), .int .i64 0, .int .i64 10]) (b := w22.heap.size) (by (try simp)))
          refine hK.out _ _ (by exact ((CF.up (CF.drew Hcf.out) _)).1) (fun hS => ?_)
          clear hK K
          refine wpAnyH_ready (rs := [4, 6, 19]) (by kernel_rfl) (by simp) ?_
          refine AllReadyH.cons rfl (fun K hK => ?_) (AllReadyH.cons rfl (fun K hK => ?_) (AllReadyH.cons rfl (fun K hK => ?_) (AllReadyH.nil)))
          · go_simp
            go_wp2_with fail
            refine (one_in g (q + 1 + 1) _ [-1, 0, 10] (-1) 10 3 3 _ _ (Rd.alloc (Rd.drew Hrd22.out) _) (by omega) Hkk122.out (by omega) rfl rfl (by omega) (by omega) (by decide)).mono ?_
            rintro e w23 ⟨z1, rfl, z10, z11, hr23, hg23⟩
            have HG23 := Lib.hid (grown_trans (grown_alloc (grownDrew HG22.out) _) hg23)
            clear HG22
            have Hown23 := Lib.hid (World.ownsRow.kept (World.ownsRow.alloc (ownDrew Hown22.out) _) hg23 (apart_of (fun j hj e => by have := (World.ownsRow.lt Hown22.out j hj).1; injection e with e; omega)))
            clear Hown22
            have Hjx23 := Lib.hid (CF.grown (CF.up (CF.drew Hcf.out) _) hg23 (by intro e; injection e with e; omega))
            clear Hcf
            have Hk123 := Lib.hid (Blk.grown Hkk122.out hg23 (by intro e; injection e with e; omega))
            clear Hkk122
            clear hg23
            clear Hrd22
            have Hrd23 := Lib.hid hr23; clear hr23
            have hgl23 : g < w23.heap.size := (Hrd23.out).lt
            go_simp
            refine hK.out _ _ (by exact (Hjx23.out).1) (fun hS => ?_)
            clear hK K
            refine wpAnyH_ready (rs := [6, 19]) (by kernel_rfl) (by simp) ?_
            refine AllReadyH.cons rfl (fun K hK => ?_) (AllReadyH.cons rfl (fun K hK => ?_) (AllReadyH.nil))
            · go_simp
              have Hkk223 := Lib.hid (Blk.new' (w := w23) (t := 3) (cs := #[.int .i64 0, .int .i64 1]) (b := w23.heap.size) (by (try simp)))
              refine hK.out _ _ (by exact ((CF.up Hjx23.out _)).1) (fun hS => ?_)
              clear hK K
              refine wpAnyH_ready (rs := [7, 19]) (by kernel_rfl) (by simp) ?_
              refine AllReadyH.cons rfl (fun K hK => ?_) (AllReadyH.cons rfl (fun K hK => ?_) (AllReadyH.nil))
              · go_simp
                go_wp2_with fail
                refine (one_in g (q + 1 + 1 + 1) _ [0, 1] (0) 1 2 2 _ _ (Rd.alloc Hrd23.out _) (by omega) Hkk223.out (by omega) rfl rfl (by omega) (by omega) (by decide)).mono ?_
                rintro e w24 ⟨z2, rfl, z20, z21, hr24, hg24⟩
                have HG24 := Lib.hid (grown_trans (grown_alloc HG23.out _) hg24)
                clear HG23
                have Hown24 := Lib.hid (World.ownsRow.kept (World.ownsRow.alloc Hown23.out _) hg24 (apart_of (fun j hj e => by have := (World.ownsRow.lt Hown23.out j hj).1; injection e with e; omega)))
                clear Hown23
                have Hjx24 := Lib.hid (CF.grown (CF.up Hjx23.out _) hg24 (by intro e; injection e with e; omega))
                clear Hjx23
                have Hk224 := Lib.hid (Blk.grown Hkk223.out hg24 (by intro e; injection e with e; omega))
                clear Hkk223
                clear hg24
                clear Hrd23
                have Hrd24 := Lib.hid hr24; clear hr24
                have hgl24 : g < w24.heap.size := (Hrd24.out).lt
                go_simp
                refine hK.out _ _ (by exact (Hjx24.out).1) (fun hS => ?_)
                clear hK K
                refine wpAnyH_ready (rs := [19]) (by kernel_rfl) (by simp) ?_
                refine AllReadyH.cons rfl (fun K hK => ?_) (AllReadyH.nil)
                go_simp
                have Hkk324 := Lib.hid (Blk.new' (w := w24) (t := 3) (cs := #[.int .i64 0, .int .i64 181, .int .i64 (-1)]) (b := w24.heap.size) (by (try simp)))
                refine hK.out _ _ (by exact ((CF.up Hjx24.out _)).1) (fun hS => ?_)
                clear hK K
                refine wpAnyH_ready (rs := [20]) (by kernel_rfl) (by simp) ?_
                refine AllReadyH.cons rfl (fun K hK => ?_) (AllReadyH.nil)
                go_simp
                go_wp2_with fail
                refine (one_in g (q + 1 + 1 + 1 + 1) _ [0, 181, -1] (-1) 181 3 3 _ _ (Rd.alloc Hrd24.out _) (by omega) Hkk324.out (by omega) rfl rfl (by omega) (by omega) (by decide)).mono ?_
                rintro e w25 ⟨z3, rfl, z30, z31, hr25, hg25⟩
                have HG25 := Lib.hid (grown_trans (grown_alloc HG24.out _) hg25)
                clear HG24
                have Hown25 := Lib.hid (World.ownsRow.kept (World.ownsRow.alloc Hown24.out _) hg25 (apart_of (fun j hj e => by have := (World.ownsRow.lt Hown24.out j hj).1; injection e with e; omega)))
                clear Hown24
                have Hjx25 := Lib.hid (CF.grown (CF.up Hjx24.out _) hg25 (by intro e; injection e with e; omega))
                clear Hjx24
                have Hk325 := Lib.hid (Blk.grown Hkk324.out hg25 (by intro e; injection e with e; omega))
                clear Hkk324
                clear hg25
                clear Hrd24
                have Hrd25 := Lib.hid hr25; clear hr25
                have hgl25 : g < w25.heap.size := (Hrd25.out).lt
                go_simp
                refine hK.out _ _ (by exact (Hjx25.out).1) (fun hS => ?_)
                clear hK K
                refine take_at 21 93 (v := ?_) rfl rfl (by kernel_rfl) (by kernel_rfl) (by kernel_rfl) (fun _ _ _ h => h) (by rfl) ?_ hS ?_
                rotate_left 1
                · (intro w hSw; (try dsimp only at hSw); (try go_split_ands); go_simp; try with_reducible rfl)
                simp only [List.setIfInBounds_toArray, List.set_cons_zero, List.set_cons_succ]
                refine wpAnyH_ready (rs := [23]) (by kernel_rfl) (by simp) ?_
                refine AllReadyH.cons rfl (fun K hK => ?_) (AllReadyH.nil)
                go_simp
                go_wp2_with fail
                refine (pick_any g (q + 1 + 1 + 1 + 1 + 1) (2) _ Hrd25.out (by omega)).mono ?_
                rintro e w26 ⟨z4, rfl, z40, z41, hr26, hg26⟩
                have z42 := z41 (by omega)
                clear z41
                have HG26 := Lib.hid (grown_trans HG25.out hg26)
                clear HG25
                have Hown26 := Lib.hid (World.ownsRow.kept Hown25.out hg26 (apart_of (fun j hj e => by have := (World.ownsRow.lt Hown25.out j hj).1; injection e with e; omega)))
                clear Hown25
                have Hjx26 := Lib.hid (CF.grown Hjx25.out hg26 (by intro e; injection e with e; omega))
                clear Hjx25
                clear hg26
                clear Hrd25
                have Hrd26 := Lib.hid hr26; clear hr26
                have hgl26 : g < w26.heap.size := (Hrd26.out).lt
                go_simp
                refine hK.out _ _ (by exact (Hjx26.out).1) (fun hS => ?_)
                clear hK K
                refine take_at 24 96 (v := ?_) rfl rfl (by kernel_rfl) (by kernel_rfl) (by kernel_rfl) (fun _ _ _ h => h) (by rfl) ?_ hS ?_
                rotate_left 1
                · (intro w hSw; (try dsimp only at hSw); (try go_split_ands); go_simp; try with_reducible rfl)
                simp only [List.setIfInBounds_toArray, List.set_cons_zero, List.set_cons_succ]
                refine take_at 25 97 (v := ?_) rfl rfl (by kernel_rfl) (by kernel_rfl) (by kernel_rfl) (fun _ _ _ h => h) (by rfl) ?_ hS ?_
                rotate_left 1
                · (intro w hSw; (try dsimp only at hSw); (try go_split_ands); go_simp; try with_reducible rfl)
                simp only [List.setIfInBounds_toArray, List.set_cons_zero, List.set_cons_succ]
                refine take_at 26 98 (v := ?_) rfl rfl (by kernel_rfl) (by kernel_rfl) (by kernel_rfl) (fun _ _ _ h => h) (by rfl) ?_ hS ?_
                rotate_left 1
                · (intro w hSw; (try dsimp only at hSw); (try go_split_ands); go_simp; try with_reducible rfl)
                simp only [List.setIfInBounds_toArray, List.set_cons_zero, List.set_cons_succ]
                refine wpAnyH_ready (rs := [27]) (by kernel_rfl) (by simp) ?_
                refine AllReadyH.cons rfl (fun K hK => ?_) (AllReadyH.nil)
                go_simp
                obtain ⟨gz, cgz, evgz, hbgz, hltgz, hlegz, hmxgz, hcellgz, hfreegz, htheregz⟩ := own_at journeyCells 5 (fun _ => rfl) Hown26.out (show 0 < ys.length by omega)
                have Hcellgz := Lib.hid hcellgz; clear hcellgz
                have Hfreegz := Lib.hid hfreegz; clear hfreegz
                have Htheregz := Lib.hid htheregz; clear htheregz
                injection evgz with e1 e2 e3
                injection e1 with e1
                injection e1 with e1
                subst e1
                clear e2 e3
                obtain ⟨u0, p0⟩ : ∃ u, w26.cell? ⟨gb, ki * 5, none⟩ = some u := Htheregz.out _ (by omega)
                have f0 : w26.frozen? ⟨gb, ki * 5, none⟩ = false := Hfreegz.out _
                obtain ⟨u1, p1⟩ : ∃ u, w26.cell? ⟨gb, ki * 5 + 1, none⟩ = some u := Htheregz.out _ (by omega)
                have f1 : w26.frozen? ⟨gb, ki * 5 + 1, none⟩ = false := Hfreegz.out _
                obtain ⟨u2, p2⟩ : ∃ u, w26.cell? ⟨gb, ki * 5 + 2, none⟩ = some u := Htheregz.out _ (by omega)
                have f2 : w26.frozen? ⟨gb, ki * 5 + 2, none⟩ = false := Hfreegz.out _
                obtain ⟨u3, p3⟩ : ∃ u, w26.cell? ⟨gb, ki * 5 + 3, none⟩ = some u := Htheregz.out _ (by omega)
                have f3 : w26.frozen? ⟨gb, ki * 5 + 3, none⟩ = false := Hfreegz.out _
                obtain ⟨u4, p4⟩ : ∃ u, w26.cell? ⟨gb, ki * 5 + 4, none⟩ = some u := Htheregz.out _ (by omega)
                have f4 : w26.frozen? ⟨gb, ki * 5 + 4, none⟩ = false := Hfreegz.out _
                clear Hcellgz Hfreegz Htheregz
                have h1 : OwnJourneys (w26.setCells gb (ki * 5) [.int .i64 z1, .int .i64 z2, .int .i64 x.x, .int .i64 (IntKind.i64.wrap (x.x + z3)), .bool (z4 == 0)]) w.heap.size (.slice (some ⟨gb, 0, none⟩) ys.length cv) (ys.set ki ⟨z1, z2, x.x, IntKind.i64.wrap (x.x + z3), (z4 == 0)⟩) := by
                  unfold OwnJourneys
                  rw [List.length_set]
                  exact own_store journeyCells 5 (fun _ => rfl) (by omega) (x := ⟨z1, z2, x.x, IntKind.i64.wrap (x.x + z3), (z4 == 0)⟩) (i := ki) Hown26.out hki
                have h3 : Rd (w26.setCells gb (ki * 5) [.int .i64 z1, .int .i64 z2, .int .i64 x.x, .int .i64 (IntKind.i64.wrap (x.x + z3)), .bool (z4 == 0)]) g (q + 1 + 1 + 1 + 1 + 1 + 1) := Rd.setCells Hrd26.out (show g < gb by omega) [.int .i64 z1, .int .i64 z2, .int .i64 x.x, .int .i64 (IntKind.i64.wrap (x.x + z3)), .bool (z4 == 0)] _
                have h4 : w.grownBy (w26.setCells gb (ki * 5) [.int .i64 z1, .int .i64 z2, .int .i64 x.x, .int .i64 (IntKind.i64.wrap (x.x + z3)), .bool (z4 == 0)]) (some g) := grown_cells (show w.heap.size ≤ gb by omega) [.int .i64 z1, .int .i64 z2, .int .i64 x.x, .int .i64 (IntKind.i64.wrap (x.x + z3)), .bool (z4 == 0)] _ _ HG26.out
                have h5 : (w26.setCells gb (ki * 5) [.int .i64 z1, .int .i64 z2, .int .i64 x.x, .int .i64 (IntKind.i64.wrap (x.x + z3)), .bool (z4 == 0)]).cell? ⟨gb, ki * 5 + 2, none⟩ = some (.int .i64 x.x) := cell_of_cells [.int .i64 z1, .int .i64 z2, .int .i64 x.x, .int .i64 (IntKind.i64.wrap (x.x + z3)), .bool (z4 == 0)] _ (ki * 5) 2 _ rfl ⟨_, p2⟩
                have H1 := Lib.hid h1; clear h1
                have H3 := Lib.hid h3; clear h3
                have H4 := Lib.hid h4; clear h4
                have H5 := Lib.hid h5; clear h5
                go_simp
                refine hK.out _ _ (by exact H5.out) (fun hS => ?_)
                clear hK K
                refine wpAnyH_done (by kernel_rfl) ?_ _
                go_wp2
                go_ret
                exact ⟨_, ys.set ki ⟨z1, z2, x.x, IntKind.i64.wrap (x.x + z3), (z4 == 0)⟩, _, rfl, H1.out, by rw [List.length_set]; exact hlen, (fun j hj => by
                    rcases List.mem_or_eq_of_mem_set hj with h | h
                    · exact Hsm.out j h
                    · subst h; unfold jourSmall; dsimp only; rw [IntWalk.i64_in (x.x + z3) (by omega)]; omega), by omega, H3.out, H4.out⟩
              · go_simp
                have Hkk323 := Lib.hid (Blk.new' (w := (w23.alloc (.cells #[.int .i64 0, .int .i64 1] 3))) (t := 3) (cs := #[.int .i64 0, .int .i64 181, .int .i64 (-1)]) (b := w23.heap.size + 1) (by (try simp)))
                refine hK.out _ _ (by exact ((CF.up (CF.up Hjx23.out _) _)).1) (fun hS => ?_)
                clear hK K
                refine wpAnyH_ready (rs := [7]) (by kernel_rfl) (by simp) ?_
                refine AllReadyH.cons rfl (fun K hK => ?_) (AllReadyH.nil)
                go_simp
                go_wp2_with fail
                refine (one_in g (q + 1 + 1 + 1) _ [0, 1] (0) 1 2 2 _ _ (Rd.alloc (Rd.alloc Hrd23.out _) _) (by omega) (Blk.alloc Hkk223.out _) (by omega) rfl rfl (by omega) (by omega) (by decide)).mono ?_
                rintro e w24 ⟨z2, rfl, z20, z21, hr24, hg24⟩
                have HG24 := Lib.hid (grown_trans (grown_alloc (grown_alloc HG23.out _) _) hg24)
                clear HG23
                have Hown24 := Lib.hid (World.ownsRow.kept (World.ownsRow.alloc (World.ownsRow.alloc Hown23.out _) _) hg24 (apart_of (fun j hj e => by have := (World.ownsRow.lt Hown23.out j hj).1; injection e with e; omega)))
                clear Hown23
                have Hjx24 := Lib.hid (CF.grown (CF.up (CF.up Hjx23.out _) _) hg24 (by intro e; injection e with e; omega))
                clear Hjx23
                have Hk224 := Lib.hid (Blk.grown (Blk.alloc Hkk223.out _) hg24 (by intro e; injection e with e; omega))
                clear Hkk223
                have Hk324 := Lib.hid (Blk.grown Hkk323.out hg24 (by intro e; injection e with e; omega))
                clear Hkk323
                clear hg24
                clear Hrd23
                have Hrd24 := Lib.hid hr24; clear hr24
                have hgl24 : g < w24.heap.size := (Hrd24.out).lt
                go_simp
                refine hK.out _ _ (by exact (Hjx24.out).1) (fun hS => ?_)
                clear hK K
                refine wpAnyH_ready (rs := [20]) (by kernel_rfl) (by simp) ?_
                refine AllReadyH.cons rfl (fun K hK => ?_) (AllReadyH.nil)
                go_simp
                go_wp2_with fail
                refine (one_in g (q + 1 + 1 + 1 + 1) _ [0, 181, -1] (-1) 181 3 3 _ _ Hrd24.out (by omega) Hk324.out (by omega) rfl rfl (by omega) (by omega) (by decide)).mono ?_
                rintro e w25 ⟨z3, rfl, z30, z31, hr25, hg25⟩
                have HG25 := Lib.hid (grown_trans HG24.out hg25)
                clear HG24
                have Hown25 := Lib.hid (World.ownsRow.kept Hown24.out hg25 (apart_of (fun j hj e => by have := (World.ownsRow.lt Hown24.out j hj).1; injection e with e; omega)))
                clear Hown24
                have Hjx25 := Lib.hid (CF.grown Hjx24.out hg25 (by intro e; injection e with e; omega))
                clear Hjx24
                have Hk325 := Lib.hid (Blk.grown Hk324.out hg25 (by intro e; injection e with e; omega))
                clear Hk324
                clear hg25
                clear Hrd24
                have Hrd25 := Lib.hid hr25; clear hr25
                have hgl25 : g < w25.heap.size := (Hrd25.out).lt
                go_simp
                refine hK.out _ _ (by exact (Hjx25.out).1) (fun hS => ?_)
                clear hK K
                refine take_at 21 93 (v := ?_) rfl rfl (by kernel_rfl) (by kernel_rfl) (by kernel_rfl) (fun _ _ _ h => h) (by rfl) ?_ hS ?_
                rotate_left 1
                · (intro w hSw; (try dsimp only at hSw); (try go_split_ands); go_simp; try with_reducible rfl)
                simp only [List.setIfInBounds_toArray, List.set_cons_zero, List.set_cons_succ]
                refine wpAnyH_ready (rs := [23]) (by kernel_rfl) (by simp) ?_
                refine AllReadyH.cons rfl (fun K hK => ?_) (AllReadyH.nil)
                go_simp
                go_wp2_with fail
                refine (pick_any g (q + 1 + 1 + 1 + 1 + 1) (2) _ Hrd25.out (by omega)).mono ?_
                rintro e w26 ⟨z4, rfl, z40, z41, hr26, hg26⟩
                have z42 := z41 (by omega)
                clear z41
                have HG26 := Lib.hid (grown_trans HG25.out hg26)
                clear HG25
                have Hown26 := Lib.hid (World.ownsRow.kept Hown25.out hg26 (apart_of (fun j hj e => by have := (World.ownsRow.lt Hown25.out j hj).1; injection e with e; omega)))
                clear Hown25
                have Hjx26 := Lib.hid (CF.grown Hjx25.out hg26 (by intro e; injection e with e; omega))
                clear Hjx25
                clear hg26
                clear Hrd25
                have Hrd26 := Lib.hid hr26; clear hr26
                have hgl26 : g < w26.heap.size := (Hrd26.out).lt
                go_simp
                refine hK.out _ _ (by exact (Hjx26.out).1) (fun hS => ?_)
                clear hK K
                refine take_at 24 96 (v := ?_) rfl rfl (by kernel_rfl) (by kernel_rfl) (by kernel_rfl) (fun _ _ _ h => h) (by rfl) ?_ hS ?_
                rotate_left 1
                · (intro w hSw; (try dsimp only at hSw); (try go_split_ands); go_simp; try with_reducible rfl)
                simp only [List.setIfInBounds_toArray, List.set_cons_zero, List.set_cons_succ]
                refine take_at 25 97 (v := ?_) rfl rfl (by kernel_rfl) (by kernel_rfl) (by kernel_rfl) (fun _ _ _ h => h) (by rfl) ?_ hS ?_
                rotate_left 1
                · (intro w hSw; (try dsimp only at hSw); (try go_split_ands); go_simp; try with_reducible rfl)
                simp only [List.setIfInBounds_toArray, List.set_cons_zero, List.set_cons_succ]
                refine take_at 26 98 (v := ?_) rfl rfl (by kernel_rfl) (by kernel_rfl) (by kernel_rfl) (fun _ _ _ h => h) (by rfl) ?_ hS ?_
                rotate_left 1
                · (intro w hSw; (try dsimp only at hSw); (try go_split_ands); go_simp; try with_reducible rfl)
                simp only [List.setIfInBounds_toArray, List.set_cons_zero, List.set_cons_succ]
                refine wpAnyH_ready (rs := [27]) (by kernel_rfl) (by simp) ?_
                refine AllReadyH.cons rfl (fun K hK => ?_) (AllReadyH.nil)
                go_simp
                obtain ⟨gz, cgz, evgz, hbgz, hltgz, hlegz, hmxgz, hcellgz, hfreegz, htheregz⟩ := own_at journeyCells 5 (fun _ => rfl) Hown26.out (show 0 < ys.length by omega)
                have Hcellgz := Lib.hid hcellgz; clear hcellgz
                have Hfreegz := Lib.hid hfreegz; clear hfreegz
                have Htheregz := Lib.hid htheregz; clear htheregz
                injection evgz with e1 e2 e3
                injection e1 with e1
                injection e1 with e1
                subst e1
                clear e2 e3
                obtain ⟨u0, p0⟩ : ∃ u, w26.cell? ⟨gb, ki * 5, none⟩ = some u := Htheregz.out _ (by omega)
                have f0 : w26.frozen? ⟨gb, ki * 5, none⟩ = false := Hfreegz.out _
                obtain ⟨u1, p1⟩ : ∃ u, w26.cell? ⟨gb, ki * 5 + 1, none⟩ = some u := Htheregz.out _ (by omega)
                have f1 : w26.frozen? ⟨gb, ki * 5 + 1, none⟩ = false := Hfreegz.out _
                obtain ⟨u2, p2⟩ : ∃ u, w26.cell? ⟨gb, ki * 5 + 2, none⟩ = some u := Htheregz.out _ (by omega)
                have f2 : w26.frozen? ⟨gb, ki * 5 + 2, none⟩ = false := Hfreegz.out _
                obtain ⟨u3, p3⟩ : ∃ u, w26.cell? ⟨gb, ki * 5 + 3, none⟩ = some u := Htheregz.out _ (by omega)
                have f3 : w26.frozen? ⟨gb, ki * 5 + 3, none⟩ = false := Hfreegz.out _
                obtain ⟨u4, p4⟩ : ∃ u, w26.cell? ⟨gb, ki * 5 + 4, none⟩ = some u := Htheregz.out _ (by omega)
                have f4 : w26.frozen? ⟨gb, ki * 5 + 4, none⟩ = false := Hfreegz.out _
                clear Hcellgz Hfreegz Htheregz
                have h1 : OwnJourneys (w26.setCells gb (ki * 5) [.int .i64 z1, .int .i64 z2, .int .i64 x.x, .int .i64 (IntKind.i64.wrap (x.x + z3)), .bool (z4 == 0)]) w.heap.size (.slice (some ⟨gb, 0, none⟩) ys.length cv) (ys.set ki ⟨z1, z2, x.x, IntKind.i64.wrap (x.x + z3), (z4 == 0)⟩) := by
                  unfold OwnJourneys
                  rw [List.length_set]
                  exact own_store journeyCells 5 (fun _ => rfl) (by omega) (x := ⟨z1, z2, x.x, IntKind.i64.wrap (x.x + z3), (z4 == 0)⟩) (i := ki) Hown26.out hki
                have h3 : Rd (w26.setCells gb (ki * 5) [.int .i64 z1, .int .i64 z2, .int .i64 x.x, .int .i64 (IntKind.i64.wrap (x.x + z3)), .bool (z4 == 0)]) g (q + 1 + 1 + 1 + 1 + 1 + 1) := Rd.setCells Hrd26.out (show g < gb by omega) [.int .i64 z1, .int .i64 z2, .int .i64 x.x, .int .i64 (IntKind.i64.wrap (x.x + z3)), .bool (z4 == 0)] _
                have h4 : w.grownBy (w26.setCells gb (ki * 5) [.int .i64 z1, .int .i64 z2, .int .i64 x.x, .int .i64 (IntKind.i64.wrap (x.x + z3)), .bool (z4 == 0)]) (some g) := grown_cells (show w.heap.size ≤ gb by omega) [.int .i64 z1, .int .i64 z2, .int .i64 x.x, .int .i64 (IntKind.i64.wrap (x.x + z3)), .bool (z4 == 0)] _ _ HG26.out
                have h5 : (w26.setCells gb (ki * 5) [.int .i64 z1, .int .i64 z2, .int .i64 x.x, .int .i64 (IntKind.i64.wrap (x.x + z3)), .bool (z4 == 0)]).cell? ⟨gb, ki * 5 + 2, none⟩ = some (.int .i64 x.x) := cell_of_cells [.int .i64 z1, .int .i64 z2, .int .i64 x.x, .int .i64 (IntKind.i64.wrap (x.x + z3)), .bool (z4 == 0)] _ (ki * 5) 2 _ rfl ⟨_, p2⟩
                have H1 := Lib.hid h1; clear h1
                have H3 := Lib.hid h3; clear h3
                have H4 := Lib.hid h4; clear h4
                have H5 := Lib.hid h5; clear h5
                go_simp
                refine hK.out _ _ (by exact H5.out) (fun hS => ?_)
                clear hK K
                refine wpAnyH_done (by kernel_rfl) ?_ _
                go_wp2
                go_ret
                exact ⟨_, ys.set ki ⟨z1, z2, x.x, IntKind.i64.wrap (x.x + z3), (z4 == 0)⟩, _, rfl, H1.out, by rw [List.length_set]; exact hlen, (fun j hj => by
                    rcases List.mem_or_eq_of_mem_set hj with h | h
                    · exact Hsm.out j h
                    · subst h; unfold jourSmall; dsimp only; rw [IntWalk.i64_in (x.x + z3) (by omega)]; omega), by omega, H3.out, H4.out⟩
            · go_simp
              have Hkk323 := Lib.hid (Blk.new' (w := w23) (t := 3) (cs := #[.int .i64 0, .int .i64 181, .int .i64 (-1)]) (b := w23.heap.size) (by (try simp)))
              refine hK.out _ _ (by exact ((CF.up Hjx23.out _)).1) (fun hS => ?_)
              clear hK K
              refine wpAnyH_ready (rs := [6]) (by kernel_rfl) (by simp) ?_
              refine AllReadyH.cons rfl (fun K hK => ?_) (AllReadyH.nil)
              go_simp
              have Hkk223 := Lib.hid (Blk.new' (w := (w23.alloc (.cells #[.int .i64 0, .int .i64 181, .int .i64 (-1)] 3))) (t := 3) (cs := #[.int .i64 0, .int .i64 1]) (b := w23.heap.size + 1) (by (try simp)))
              refine hK.out _ _ (by exact ((CF.up (CF.up Hjx23.out _) _)).1) (fun hS => ?_)
              clear hK K
              refine wpAnyH_ready (rs := [7]) (by kernel_rfl) (by simp) ?_
              refine AllReadyH.cons rfl (fun K hK => ?_) (AllReadyH.nil)
              go_simp
              go_wp2_with fail
              refine (one_in g (q + 1 + 1 + 1) _ [0, 1] (0) 1 2 2 _ _ (Rd.alloc (Rd.alloc Hrd23.out _) _) (by omega) Hkk223.out (by omega) rfl rfl (by omega) (by omega) (by decide)).mono ?_
              rintro e w24 ⟨z2, rfl, z20, z21, hr24, hg24⟩
              have HG24 := Lib.hid (grown_trans (grown_alloc (grown_alloc HG23.out _) _) hg24)
              clear HG23
              have Hown24 := Lib.hid (World.ownsRow.kept (World.ownsRow.alloc (World.ownsRow.alloc Hown23.out _) _) hg24 (apart_of (fun j hj e => by have := (World.ownsRow.lt Hown23.out j hj).1; injection e with e; omega)))
              clear Hown23
              have Hjx24 := Lib.hid (CF.grown (CF.up (CF.up Hjx23.out _) _) hg24 (by intro e; injection e with e; omega))
              clear Hjx23
              have Hk324 := Lib.hid (Blk.grown (Blk.alloc Hkk323.out _) hg24 (by intro e; injection e with e; omega))
              clear Hkk323
              have Hk224 := Lib.hid (Blk.grown Hkk223.out hg24 (by intro e; injection e with e; omega))
              clear Hkk223
              clear hg24
              clear Hrd23
              have Hrd24 := Lib.hid hr24; clear hr24
              have hgl24 : g < w24.heap.size := (Hrd24.out).lt
              go_simp
              refine hK.out _ _ (by exact (Hjx24.out).1) (fun hS => ?_)
              clear hK K
              refine wpAnyH_ready (rs := [20]) (by kernel_rfl) (by simp) ?_
              refine AllReadyH.cons rfl (fun K hK => ?_) (AllReadyH.nil)
              go_simp
              go_wp2_with fail
              refine (one_in g (q + 1 + 1 + 1 + 1) _ [0, 181, -1] (-1) 181 3 3 _ _ Hrd24.out (by omega) Hk324.out (by omega) rfl rfl (by omega) (by omega) (by decide)).mono ?_
              rintro e w25 ⟨z3, rfl, z30, z31, hr25, hg25⟩
              have HG25 := Lib.hid (grown_trans HG24.out hg25)
              clear HG24
              have Hown25 := Lib.hid (World.ownsRow.kept Hown24.out hg25 (apart_of (fun j hj e => by have := (World.ownsRow.lt Hown24.out j hj).1; injection e with e; omega)))
              clear Hown24
              have Hjx25 := Lib.hid (CF.grown Hjx24.out hg25 (by intro e; injection e with e; omega))
              clear Hjx24
              have Hk325 := Lib.hid (Blk.grown Hk324.out hg25 (by intro e; injection e with e; omega))
              clear Hk324
              clear hg25
              clear Hrd24
              have Hrd25 := Lib.hid hr25; clear hr25
              have hgl25 : g < w25.heap.size := (Hrd25.out).lt
              go_simp
              refine hK.out _ _ (by exact (Hjx25.out).1) (fun hS => ?_)
              clear hK K
              refine take_at 21 93 (v := ?_) rfl rfl (by kernel_rfl) (by kernel_rfl) (by kernel_rfl) (fun _ _ _ h => h) (by rfl) ?_ hS ?_
              rotate_left 1
              · (intro w hSw; (try dsimp only at hSw); (try go_split_ands); go_simp; try with_reducible rfl)
              simp only [List.setIfInBounds_toArray, List.set_cons_zero, List.set_cons_succ]
              refine wpAnyH_ready (rs := [23]) (by kernel_rfl) (by simp) ?_
              refine AllReadyH.cons rfl (fun K hK => ?_) (AllReadyH.nil)
              go_simp
              go_wp2_with fail
              refine (pick_any g (q + 1 + 1 + 1 + 1 + 1) (2) _ Hrd25.out (by omega)).mono ?_
              rintro e w26 ⟨z4, rfl, z40, z41, hr26, hg26⟩
              have z42 := z41 (by omega)
              clear z41
              have HG26 := Lib.hid (grown_trans HG25.out hg26)
              clear HG25
              have Hown26 := Lib.hid (World.ownsRow.kept Hown25.out hg26 (apart_of (fun j hj e => by have := (World.ownsRow.lt Hown25.out j hj).1; injection e with e; omega)))
              clear Hown25
              have Hjx26 := Lib.hid (CF.grown Hjx25.out hg26 (by intro e; injection e with e; omega))
              clear Hjx25
              clear hg26
              clear Hrd25
              have Hrd26 := Lib.hid hr26; clear hr26
              have hgl26 : g < w26.heap.size := (Hrd26.out).lt
              go_simp
              refine hK.out _ _ (by exact (Hjx26.out).1) (fun hS => ?_)
              clear hK K
              refine take_at 24 96 (v := ?_) rfl rfl (by kernel_rfl) (by kernel_rfl) (by kernel_rfl) (fun _ _ _ h => h) (by rfl) ?_ hS ?_
              rotate_left 1
              · (intro w hSw; (try dsimp only at hSw); (try go_split_ands); go_simp; try with_reducible rfl)
              simp only [List.setIfInBounds_toArray, List.set_cons_zero, List.set_cons_succ]
              refine take_at 25 97 (v := ?_) rfl rfl (by kernel_rfl) (by kernel_rfl) (by kernel_rfl) (fun _ _ _ h => h) (by rfl) ?_ hS ?_
              rotate_left 1
              · (intro w hSw; (try dsimp only at hSw); (try go_split_ands); go_simp; try with_reducible rfl)
              simp only [List.setIfInBounds_toArray, List.set_cons_zero, List.set_cons_succ]
              refine take_at 26 98 (v := ?_) rfl rfl (by kernel_rfl) (by kernel_rfl) (by kernel_rfl) (fun _ _ _ h => h) (by rfl) ?_ hS ?_
              rotate_left 1
              · (intro w hSw; (try dsimp only at hSw); (try go_split_ands); go_simp; try with_reducible rfl)
              simp only [List.setIfInBounds_toArray, List.set_cons_zero, List.set_cons_succ]
              refine wpAnyH_ready (rs := [27]) (by kernel_rfl) (by simp) ?_
              refine AllReadyH.cons rfl (fun K hK => ?_) (AllReadyH.nil)
              go_simp
              obtain ⟨gz, cgz, evgz, hbgz, hltgz, hlegz, hmxgz, hcellgz, hfreegz, htheregz⟩ := own_at journeyCells 5 (fun _ => rfl) Hown26.out (show 0 < ys.length by omega)
              have Hcellgz := Lib.hid hcellgz; clear hcellgz
              have Hfreegz := Lib.hid hfreegz; clear hfreegz
              have Htheregz := Lib.hid htheregz; clear htheregz
              injection evgz with e1 e2 e3
              injection e1 with e1
              injection e1 with e1
              subst e1
              clear e2 e3
              obtain ⟨u0, p0⟩ : ∃ u, w26.cell? ⟨gb, ki * 5, none⟩ = some u := Htheregz.out _ (by omega)
              have f0 : w26.frozen? ⟨gb, ki * 5, none⟩ = false := Hfreegz.out _
              obtain ⟨u1, p1⟩ : ∃ u, w26.cell? ⟨gb, ki * 5 + 1, none⟩ = some u := Htheregz.out _ (by omega)
              have f1 : w26.frozen? ⟨gb, ki * 5 + 1, none⟩ = false := Hfreegz.out _
              obtain ⟨u2, p2⟩ : ∃ u, w26.cell? ⟨gb, ki * 5 + 2, none⟩ = some u := Htheregz.out _ (by omega)
              have f2 : w26.frozen? ⟨gb, ki * 5 + 2, none⟩ = false := Hfreegz.out _
              obtain ⟨u3, p3⟩ : ∃ u, w26.cell? ⟨gb, ki * 5 + 3, none⟩ = some u := Htheregz.out _ (by omega)
              have f3 : w26.frozen? ⟨gb, ki * 5 + 3, none⟩ = false := Hfreegz.out _
              obtain ⟨u4, p4⟩ : ∃ u, w26.cell? ⟨gb, ki * 5 + 4, none⟩ = some u := Htheregz.out _ (by omega)
              have f4 : w26.frozen? ⟨gb, ki * 5 + 4, none⟩ = false := Hfreegz.out _
              clear Hcellgz Hfreegz Htheregz
              have h1 : OwnJourneys (w26.setCells gb (ki * 5) [.int .i64 z1, .int .i64 z2, .int .i64 x.x, .int .i64 (IntKind.i64.wrap (x.x + z3)), .bool (z4 == 0)]) w.heap.size (.slice (some ⟨gb, 0, none⟩) ys.length cv) (ys.set ki ⟨z1, z2, x.x, IntKind.i64.wrap (x.x + z3), (z4 == 0)⟩) := by
                unfold OwnJourneys
                rw [List.length_set]
                exact own_store journeyCells 5 (fun _ => rfl) (by omega) (x := ⟨z1, z2, x.x, IntKind.i64.wrap (x.x + z3), (z4 == 0)⟩) (i := ki) Hown26.out hki
              have h3 : Rd (w26.setCells gb (ki * 5) [.int .i64 z1, .int .i64 z2, .int .i64 x.x, .int .i64 (IntKind.i64.wrap (x.x + z3)), .bool (z4 == 0)]) g (q + 1 + 1 + 1 + 1 + 1 + 1) := Rd.setCells Hrd26.out (show g < gb by omega) [.int .i64 z1, .int .i64 z2, .int .i64 x.x, .int .i64 (IntKind.i64.wrap (x.x + z3)), .bool (z4 == 0)] _
              have h4 : w.grownBy (w26.setCells gb (ki * 5) [.int .i64 z1, .int .i64 z2, .int .i64 x.x, .int .i64 (IntKind.i64.wrap (x.x + z3)), .bool (z4 == 0)]) (some g) := grown_cells (show w.heap.size ≤ gb by omega) [.int .i64 z1, .int .i64 z2, .int .i64 x.x, .int .i64 (IntKind.i64.wrap (x.x + z3)), .bool (z4 == 0)] _ _ HG26.out
              have h5 : (w26.setCells gb (ki * 5) [.int .i64 z1, .int .i64 z2, .int .i64 x.x, .int .i64 (IntKind.i64.wrap (x.x + z3)), .bool (z4 == 0)]).cell? ⟨gb, ki * 5 + 2, none⟩ = some (.int .i64 x.x) := cell_of_cells [.int .i64 z1, .int .i64 z2, .int .i64 x.x, .int .i64 (IntKind.i64.wrap (x.x + z3)), .bool (z4 == 0)] _ (ki * 5) 2 _ rfl ⟨_, p2⟩
              have H1 := Lib.hid h1; clear h1
              have H3 := Lib.hid h3; clear h3
              have H4 := Lib.hid h4; clear h4
              have H5 := Lib.hid h5; clear h5
              go_simp
              refine hK.out _ _ (by exact H5.out) (fun hS => ?_)
              clear hK K
              refine wpAnyH_done (by kernel_rfl) ?_ _
              go_wp2
              go_ret
              exact ⟨_, ys.set ki ⟨z1, z2, x.x, IntKind.i64.wrap (x.x + z3), (z4 == 0)⟩, _, rfl, H1.out, by rw [List.length_set]; exact hlen, (fun j hj => by
                  rcases List.mem_or_eq_of_mem_set hj with h | h
                  · exact Hsm.out j h
                  · subst h; unfold jourSmall; dsimp only; rw [IntWalk.i64_in (x.x + z3) (by omega)]; omega), by omega, H3.out, H4.out⟩
          · go_simp
            have Hkk222 := Lib.hid (Blk.new' (w := (w22.drew.alloc (.cells #[.int .i64 (-1), .int .i64 0, .int .i64 10] 3))) (t := 3) (cs := #[.int .i64 0, .int .i64 1]) (b := w22.heap.size + 1) (by (try simp)))
            refine hK.out _ _ (by exact ((CF.up (CF.up (CF.drew Hcf.out) _) _)).1) (fun hS => ?_)
            clear hK K
            refine wpAnyH_ready (rs := [4, 19]) (by kernel_rfl) (by simp) ?_
            refine AllReadyH.cons rfl (fun K hK => ?_) (AllReadyH.cons rfl (fun K hK => ?_) (AllReadyH.nil))
            · go_simp
              go_wp2_with fail
              refine (one_in g (q + 1 + 1) _ [-1, 0, 10] (-1) 10 3 3 _ _ (Rd.alloc (Rd.alloc (Rd.drew Hrd22.out) _) _) (by omega) (Blk.alloc Hkk122.out _) (by omega) rfl rfl (by omega) (by omega) (by decide)).mono ?_
              rintro e w23 ⟨z1, rfl, z10, z11, hr23, hg23⟩
              have HG23 := Lib.hid (grown_trans (grown_alloc (grown_alloc (grownDrew HG22.out) _) _) hg23)
              clear HG22
              have Hown23 := Lib.hid (World.ownsRow.kept (World.ownsRow.alloc (World.ownsRow.alloc (ownDrew Hown22.out) _) _) hg23 (apart_of (fun j hj e => by have := (World.ownsRow.lt Hown22.out j hj).1; injection e with e; omega)))
              clear Hown22
              have Hjx23 := Lib.hid (CF.grown (CF.up (CF.up (CF.drew Hcf.out) _) _) hg23 (by intro e; injection e with e; omega))
              clear Hcf
              have Hk123 := Lib.hid (Blk.grown (Blk.alloc Hkk122.out _) hg23 (by intro e; injection e with e; omega))
              clear Hkk122
              have Hk223 := Lib.hid (Blk.grown Hkk222.out hg23 (by intro e; injection e with e; omega))
              clear Hkk222
              clear hg23
              clear Hrd22
              have Hrd23 := Lib.hid hr23; clear hr23
              have hgl23 : g < w23.heap.size := (Hrd23.out).lt
              go_simp
              refine hK.out _ _ (by exact (Hjx23.out).1) (fun hS => ?_)
              clear hK K
              refine wpAnyH_ready (rs := [7, 19]) (by kernel_rfl) (by simp) ?_
              refine AllReadyH.cons rfl (fun K hK => ?_) (AllReadyH.cons rfl (fun K hK => ?_) (AllReadyH.nil))
              · go_simp
                go_wp2_with fail
                refine (one_in g (q + 1 + 1 + 1) _ [0, 1] (0) 1 2 2 _ _ Hrd23.out (by omega) Hk223.out (by omega) rfl rfl (by omega) (by omega) (by decide)).mono ?_
                rintro e w24 ⟨z2, rfl, z20, z21, hr24, hg24⟩
                have HG24 := Lib.hid (grown_trans HG23.out hg24)
                clear HG23
                have Hown24 := Lib.hid (World.ownsRow.kept Hown23.out hg24 (apart_of (fun j hj e => by have := (World.ownsRow.lt Hown23.out j hj).1; injection e with e; omega)))
                clear Hown23
                have Hjx24 := Lib.hid (CF.grown Hjx23.out hg24 (by intro e; injection e with e; omega))
                clear Hjx23
                have Hk224 := Lib.hid (Blk.grown Hk223.out hg24 (by intro e; injection e with e; omega))
                clear Hk223
                clear hg24
                clear Hrd23
                have Hrd24 := Lib.hid hr24; clear hr24
                have hgl24 : g < w24.heap.size := (Hrd24.out).lt
                go_simp
                refine hK.out _ _ (by exact (Hjx24.out).1) (fun hS => ?_)
                clear hK K
                refine wpAnyH_ready (rs := [19]) (by kernel_rfl) (by simp) ?_
                refine AllReadyH.cons rfl (fun K hK => ?_) (AllReadyH.nil)
                go_simp
                have Hkk324 := Lib.hid (Blk.new' (w := w24) (t := 3) (cs := #[.int .i64 0, .int .i64 181, .int .i64 (-1)]) (b := w24.heap.size) (by (try simp)))
                refine hK.out _ _ (by exact ((CF.up Hjx24.out _)).1) (fun hS => ?_)
                clear hK K
                refine wpAnyH_ready (rs := [20]) (by kernel_rfl) (by simp) ?_
                refine AllReadyH.cons rfl (fun K hK => ?_) (AllReadyH.nil)
                go_simp
                go_wp2_with fail
                refine (one_in g (q + 1 + 1 + 1 + 1) _ [0, 181, -1] (-1) 181 3 3 _ _ (Rd.alloc Hrd24.out _) (by omega) Hkk324.out (by omega) rfl rfl (by omega) (by omega) (by decide)).mono ?_
                rintro e w25 ⟨z3, rfl, z30, z31, hr25, hg25⟩
                have HG25 := Lib.hid (grown_trans (grown_alloc HG24.out _) hg25)
                clear HG24
                have Hown25 := Lib.hid (World.ownsRow.kept (World.ownsRow.alloc Hown24.out _) hg25 (apart_of (fun j hj e => by have := (World.ownsRow.lt Hown24.out j hj).1; injection e with e; omega)))
                clear Hown24
                have Hjx25 := Lib.hid (CF.grown (CF.up Hjx24.out _) hg25 (by intro e; injection e with e; omega))
                clear Hjx24
                have Hk325 := Lib.hid (Blk.grown Hkk324.out hg25 (by intro e; injection e with e; omega))
                clear Hkk324
                clear hg25
                clear Hrd24
                have Hrd25 := Lib.hid hr25; clear hr25
                have hgl25 : g < w25.heap.size := (Hrd25.out).lt
                go_simp
                refine hK.out _ _ (by exact (Hjx25.out).1) (fun hS => ?_)
                clear hK K
                refine take_at 21 93 (v := ?_) rfl rfl (by kernel_rfl) (by kernel_rfl) (by kernel_rfl) (fun _ _ _ h => h) (by rfl) ?_ hS ?_
                rotate_left 1
                · (intro w hSw; (try dsimp only at hSw); (try go_split_ands); go_simp; try with_reducible rfl)
                simp only [List.setIfInBounds_toArray, List.set_cons_zero, List.set_cons_succ]
                refine wpAnyH_ready (rs := [23]) (by kernel_rfl) (by simp) ?_
                refine AllReadyH.cons rfl (fun K hK => ?_) (AllReadyH.nil)
                go_simp
                go_wp2_with fail
                refine (pick_any g (q + 1 + 1 + 1 + 1 + 1) (2) _ Hrd25.out (by omega)).mono ?_
                rintro e w26 ⟨z4, rfl, z40, z41, hr26, hg26⟩
                have z42 := z41 (by omega)
                clear z41
                have HG26 := Lib.hid (grown_trans HG25.out hg26)
                clear HG25
                have Hown26 := Lib.hid (World.ownsRow.kept Hown25.out hg26 (apart_of (fun j hj e => by have := (World.ownsRow.lt Hown25.out j hj).1; injection e with e; omega)))
                clear Hown25
                have Hjx26 := Lib.hid (CF.grown Hjx25.out hg26 (by intro e; injection e with e; omega))
                clear Hjx25
                clear hg26
                clear Hrd25
                have Hrd26 := Lib.hid hr26; clear hr26
                have hgl26 : g < w26.heap.size := (Hrd26.out).lt
                go_simp
                refine hK.out _ _ (by exact (Hjx26.out).1) (fun hS => ?_)
                clear hK K
                refine take_at 24 96 (v := ?_) rfl rfl (by kernel_rfl) (by kernel_rfl) (by kernel_rfl) (fun _ _ _ h => h) (by rfl) ?_ hS ?_
                rotate_left 1
                · (intro w hSw; (try dsimp only at hSw); (try go_split_ands); go_simp; try with_reducible rfl)
                simp only [List.setIfInBounds_toArray, List.set_cons_zero, List.set_cons_succ]
                refine take_at 25 97 (v := ?_) rfl rfl (by kernel_rfl) (by kernel_rfl) (by kernel_rfl) (fun _ _ _ h => h) (by rfl) ?_ hS ?_
                rotate_left 1
                · (intro w hSw; (try dsimp only at hSw); (try go_split_ands); go_simp; try with_reducible rfl)
                simp only [List.setIfInBounds_toArray, List.set_cons_zero, List.set_cons_succ]
                refine take_at 26 98 (v := ?_) rfl rfl (by kernel_rfl) (by kernel_rfl) (by kernel_rfl) (fun _ _ _ h => h) (by rfl) ?_ hS ?_
                rotate_left 1
                · (intro w hSw; (try dsimp only at hSw); (try go_split_ands); go_simp; try with_reducible rfl)
                simp only [List.setIfInBounds_toArray, List.set_cons_zero, List.set_cons_succ]
                refine wpAnyH_ready (rs := [27]) (by kernel_rfl) (by simp) ?_
                refine AllReadyH.cons rfl (fun K hK => ?_) (AllReadyH.nil)
                go_simp
                obtain ⟨gz, cgz, evgz, hbgz, hltgz, hlegz, hmxgz, hcellgz, hfreegz, htheregz⟩ := own_at journeyCells 5 (fun _ => rfl) Hown26.out (show 0 < ys.length by omega)
                have Hcellgz := Lib.hid hcellgz; clear hcellgz
                have Hfreegz := Lib.hid hfreegz; clear hfreegz
                have Htheregz := Lib.hid htheregz; clear htheregz
                injection evgz with e1 e2 e3
                injection e1 with e1
                injection e1 with e1
                subst e1
                clear e2 e3
                obtain ⟨u0, p0⟩ : ∃ u, w26.cell? ⟨gb, ki * 5, none⟩ = some u := Htheregz.out _ (by omega)
                have f0 : w26.frozen? ⟨gb, ki * 5, none⟩ = false := Hfreegz.out _
                obtain ⟨u1, p1⟩ : ∃ u, w26.cell? ⟨gb, ki * 5 + 1, none⟩ = some u := Htheregz.out _ (by omega)
                have f1 : w26.frozen? ⟨gb, ki * 5 + 1, none⟩ = false := Hfreegz.out _
                obtain ⟨u2, p2⟩ : ∃ u, w26.cell? ⟨gb, ki * 5 + 2, none⟩ = some u := Htheregz.out _ (by omega)
                have f2 : w26.frozen? ⟨gb, ki * 5 + 2, none⟩ = false := Hfreegz.out _
                obtain ⟨u3, p3⟩ : ∃ u, w26.cell? ⟨gb, ki * 5 + 3, none⟩ = some u := Htheregz.out _ (by omega)
                have f3 : w26.frozen? ⟨gb, ki * 5 + 3, none⟩ = false := Hfreegz.out _
                obtain ⟨u4, p4⟩ : ∃ u, w26.cell? ⟨gb, ki * 5 + 4, none⟩ = some u := Htheregz.out _ (by omega)
                have f4 : w26.frozen? ⟨gb, ki * 5 + 4, none⟩ = false := Hfreegz.out _
                clear Hcellgz Hfreegz Htheregz
                have h1 : OwnJourneys (w26.setCells gb (ki * 5) [.int .i64 z1, .int .i64 z2, .int .i64 x.x, .int .i64 (IntKind.i64.wrap (x.x + z3)), .bool (z4 == 0)]) w.heap.size (.slice (some ⟨gb, 0, none⟩) ys.length cv) (ys.set ki ⟨z1, z2, x.x, IntKind.i64.wrap (x.x + z3), (z4 == 0)⟩) := by
                  unfold OwnJourneys
                  rw [List.length_set]
                  exact own_store journeyCells 5 (fun _ => rfl) (by omega) (x := ⟨z1, z2, x.x, IntKind.i64.wrap (x.x + z3), (z4 == 0)⟩) (i := ki) Hown26.out hki
                have h3 : Rd (w26.setCells gb (ki * 5) [.int .i64 z1, .int .i64 z2, .int .i64 x.x, .int .i64 (IntKind.i64.wrap (x.x + z3)), .bool (z4 == 0)]) g (q + 1 + 1 + 1 + 1 + 1 + 1) := Rd.setCells Hrd26.out (show g < gb by omega) [.int .i64 z1, .int .i64 z2, .int .i64 x.x, .int .i64 (IntKind.i64.wrap (x.x + z3)), .bool (z4 == 0)] _
                have h4 : w.grownBy (w26.setCells gb (ki * 5) [.int .i64 z1, .int .i64 z2, .int .i64 x.x, .int .i64 (IntKind.i64.wrap (x.x + z3)), .bool (z4 == 0)]) (some g) := grown_cells (show w.heap.size ≤ gb by omega) [.int .i64 z1, .int .i64 z2, .int .i64 x.x, .int .i64 (IntKind.i64.wrap (x.x + z3)), .bool (z4 == 0)] _ _ HG26.out
                have h5 : (w26.setCells gb (ki * 5) [.int .i64 z1, .int .i64 z2, .int .i64 x.x, .int .i64 (IntKind.i64.wrap (x.x + z3)), .bool (z4 == 0)]).cell? ⟨gb, ki * 5 + 2, none⟩ = some (.int .i64 x.x) := cell_of_cells [.int .i64 z1, .int .i64 z2, .int .i64 x.x, .int .i64 (IntKind.i64.wrap (x.x + z3)), .bool (z4 == 0)] _ (ki * 5) 2 _ rfl ⟨_, p2⟩
                have H1 := Lib.hid h1; clear h1
                have H3 := Lib.hid h3; clear h3
                have H4 := Lib.hid h4; clear h4
                have H5 := Lib.hid h5; clear h5
                go_simp
                refine hK.out _ _ (by exact H5.out) (fun hS => ?_)
                clear hK K
                refine wpAnyH_done (by kernel_rfl) ?_ _
                go_wp2
                go_ret
                exact ⟨_, ys.set ki ⟨z1, z2, x.x, IntKind.i64.wrap (x.x + z3), (z4 == 0)⟩, _, rfl, H1.out, by rw [List.length_set]; exact hlen, (fun j hj => by
                    rcases List.mem_or_eq_of_mem_set hj with h | h
                    · exact Hsm.out j h
                    · subst h; unfold jourSmall; dsimp only; rw [IntWalk.i64_in (x.x + z3) (by omega)]; omega), by omega, H3.out, H4.out⟩
              · go_simp
                have Hkk323 := Lib.hid (Blk.new' (w := w23) (t := 3) (cs := #[.int .i64 0, .int .i64 181, .int .i64 (-1)]) (b := w23.heap.size) (by (try simp)))
                refine hK.out _ _ (by exact ((CF.up Hjx23.out _)).1) (fun hS => ?_)
                clear hK K
                refine wpAnyH_ready (rs := [7]) (by kernel_rfl) (by simp) ?_
                refine AllReadyH.cons rfl (fun K hK => ?_) (AllReadyH.nil)
                go_simp
                go_wp2_with fail
                refine (one_in g (q + 1 + 1 + 1) _ [0, 1] (0) 1 2 2 _ _ (Rd.alloc Hrd23.out _) (by omega) (Blk.alloc Hk223.out _) (by omega) rfl rfl (by omega) (by omega) (by decide)).mono ?_
                rintro e w24 ⟨z2, rfl, z20, z21, hr24, hg24⟩
                have HG24 := Lib.hid (grown_trans (grown_alloc HG23.out _) hg24)
                clear HG23
                have Hown24 := Lib.hid (World.ownsRow.kept (World.ownsRow.alloc Hown23.out _) hg24 (apart_of (fun j hj e => by have := (World.ownsRow.lt Hown23.out j hj).1; injection e with e; omega)))
                clear Hown23
                have Hjx24 := Lib.hid (CF.grown (CF.up Hjx23.out _) hg24 (by intro e; injection e with e; omega))
                clear Hjx23
                have Hk224 := Lib.hid (Blk.grown (Blk.alloc Hk223.out _) hg24 (by intro e; injection e with e; omega))
                clear Hk223
                have Hk324 := Lib.hid (Blk.grown Hkk323.out hg24 (by intro e; injection e with e; omega))
                clear Hkk323
                clear hg24
                clear Hrd23
                have Hrd24 := Lib.hid hr24; clear hr24
                have hgl24 : g < w24.heap.size := (Hrd24.out).lt
                go_simp
                refine hK.out _ _ (by exact (Hjx24.out).1) (fun hS => ?_)
                clear hK K
                refine wpAnyH_ready (rs := [20]) (by kernel_rfl) (by simp) ?_
                refine AllReadyH.cons rfl (fun K hK => ?_) (AllReadyH.nil)
                go_simp
                go_wp2_with fail
                refine (one_in g (q + 1 + 1 + 1 + 1) _ [0, 181, -1] (-1) 181 3 3 _ _ Hrd24.out (by omega) Hk324.out (by omega) rfl rfl (by omega) (by omega) (by decide)).mono ?_
                rintro e w25 ⟨z3, rfl, z30, z31, hr25, hg25⟩
                have HG25 := Lib.hid (grown_trans HG24.out hg25)
                clear HG24
                have Hown25 := Lib.hid (World.ownsRow.kept Hown24.out hg25 (apart_of (fun j hj e => by have := (World.ownsRow.lt Hown24.out j hj).1; injection e with e; omega)))
                clear Hown24
                have Hjx25 := Lib.hid (CF.grown Hjx24.out hg25 (by intro e; injection e with e; omega))
                clear Hjx24
                have Hk325 := Lib.hid (Blk.grown Hk324.out hg25 (by intro e; injection e with e; omega))
                clear Hk324
                clear hg25
                clear Hrd24
                have Hrd25 := Lib.hid hr25; clear hr25
                have hgl25 : g < w25.heap.size := (Hrd25.out).lt
                go_simp
                refine hK.out _ _ (by exact (Hjx25.out).1) (fun hS => ?_)
                clear hK K
                refine take_at 21 93 (v := ?_) rfl rfl (by kernel_rfl) (by kernel_rfl) (by kernel_rfl) (fun _ _ _ h => h) (by rfl) ?_ hS ?_
                rotate_left 1
                · (intro w hSw; (try dsimp only at hSw); (try go_split_ands); go_simp; try with_reducible rfl)
                simp only [List.setIfInBounds_toArray, List.set_cons_zero, List.set_cons_succ]
                refine wpAnyH_ready (rs := [23]) (by kernel_rfl) (by simp) ?_
                refine AllReadyH.cons rfl (fun K hK => ?_) (AllReadyH.nil)
                go_simp
                go_wp2_with fail
                refine (pick_any g (q + 1 + 1 + 1 + 1 + 1) (2) _ Hrd25.out (by omega)).mono ?_
                rintro e w26 ⟨z4, rfl, z40, z41, hr26, hg26⟩
                have z42 := z41 (by omega)
                clear z41
                have HG26 := Lib.hid (grown_trans HG25.out hg26)
                clear HG25
                have Hown26 := Lib.hid (World.ownsRow.kept Hown25.out hg26 (apart_of (fun j hj e => by have := (World.ownsRow.lt Hown25.out j hj).1; injection e with e; omega)))
                clear Hown25
                have Hjx26 := Lib.hid (CF.grown Hjx25.out hg26 (by intro e; injection e with e; omega))
                clear Hjx25
                clear hg26
                clear Hrd25
                have Hrd26 := Lib.hid hr26; clear hr26
                have hgl26 : g < w26.heap.size := (Hrd26.out).lt
                go_simp
                refine hK.out _ _ (by exact (Hjx26.out).1) (fun hS => ?_)
                clear hK K
                refine take_at 24 96 (v := ?_) rfl rfl (by kernel_rfl) (by kernel_rfl) (by kernel_rfl) (fun _ _ _ h => h) (by rfl) ?_ hS ?_
                rotate_left 1
                · (intro w hSw; (try dsimp only at hSw); (try go_split_ands); go_simp; try with_reducible rfl)
                simp only [List.setIfInBounds_toArray, List.set_cons_zero, List.set_cons_succ]
                refine take_at 25 97 (v := ?_) rfl rfl (by kernel_rfl) (by kernel_rfl) (by kernel_rfl) (fun _ _ _ h => h) (by rfl) ?_ hS ?_
                rotate_left 1
                · (intro w hSw; (try dsimp only at hSw); (try go_split_ands); go_simp; try with_reducible rfl)
                simp only [List.setIfInBounds_toArray, List.set_cons_zero, List.set_cons_succ]
                refine take_at 26 98 (v := ?_) rfl rfl (by kernel_rfl) (by kernel_rfl) (by kernel_rfl) (fun _ _ _ h => h) (by rfl) ?_ hS ?_
                rotate_left 1
                · (intro w hSw; (try dsimp only at hSw); (try go_split_ands); go_simp; try with_reducible rfl)
                simp only [List.setIfInBounds_toArray, List.set_cons_zero, List.set_cons_succ]
                refine wpAnyH_ready (rs := [27]) (by kernel_rfl) (by simp) ?_
                refine AllReadyH.cons rfl (fun K hK => ?_) (AllReadyH.nil)
                go_simp
                obtain ⟨gz, cgz, evgz, hbgz, hltgz, hlegz, hmxgz, hcellgz, hfreegz, htheregz⟩ := own_at journeyCells 5 (fun _ => rfl) Hown26.out (show 0 < ys.length by omega)
                have Hcellgz := Lib.hid hcellgz; clear hcellgz
                have Hfreegz := Lib.hid hfreegz; clear hfreegz
                have Htheregz := Lib.hid htheregz; clear htheregz
                injection evgz with e1 e2 e3
                injection e1 with e1
                injection e1 with e1
                subst e1
                clear e2 e3
                obtain ⟨u0, p0⟩ : ∃ u, w26.cell? ⟨gb, ki * 5, none⟩ = some u := Htheregz.out _ (by omega)
                have f0 : w26.frozen? ⟨gb, ki * 5, none⟩ = false := Hfreegz.out _
                obtain ⟨u1, p1⟩ : ∃ u, w26.cell? ⟨gb, ki * 5 + 1, none⟩ = some u := Htheregz.out _ (by omega)
                have f1 : w26.frozen? ⟨gb, ki * 5 + 1, none⟩ = false := Hfreegz.out _
                obtain ⟨u2, p2⟩ : ∃ u, w26.cell? ⟨gb, ki * 5 + 2, none⟩ = some u := Htheregz.out _ (by omega)
                have f2 : w26.frozen? ⟨gb, ki * 5 + 2, none⟩ = false := Hfreegz.out _
                obtain ⟨u3, p3⟩ : ∃ u, w26.cell? ⟨gb, ki * 5 + 3, none⟩ = some u := Htheregz.out _ (by omega)
                have f3 : w26.frozen? ⟨gb, ki * 5 + 3, none⟩ = false := Hfreegz.out _
                obtain ⟨u4, p4⟩ : ∃ u, w26.cell? ⟨gb, ki * 5 + 4, none⟩ = some u := Htheregz.out _ (by omega)
                have f4 : w26.frozen? ⟨gb, ki * 5 + 4, none⟩ = false := Hfreegz.out _
                clear Hcellgz Hfreegz Htheregz
                have h1 : OwnJourneys (w26.setCells gb (ki * 5) [.int .i64 z1, .int .i64 z2, .int .i64 x.x, .int .i64 (IntKind.i64.wrap (x.x + z3)), .bool (z4 == 0)]) w.heap.size (.slice (some ⟨gb, 0, none⟩) ys.length cv) (ys.set ki ⟨z1, z2, x.x, IntKind.i64.wrap (x.x + z3), (z4 == 0)⟩) := by
                  unfold OwnJourneys
                  rw [List.length_set]
                  exact own_store journeyCells 5 (fun _ => rfl) (by omega) (x := ⟨z1, z2, x.x, IntKind.i64.wrap (x.x + z3), (z4 == 0)⟩) (i := ki) Hown26.out hki
                have h3 : Rd (w26.setCells gb (ki * 5) [.int .i64 z1, .int .i64 z2, .int .i64 x.x, .int .i64 (IntKind.i64.wrap (x.x + z3)), .bool (z4 == 0)]) g (q + 1 + 1 + 1 + 1 + 1 + 1) := Rd.setCells Hrd26.out (show g < gb by omega) [.int .i64 z1, .int .i64 z2, .int .i64 x.x, .int .i64 (IntKind.i64.wrap (x.x + z3)), .bool (z4 == 0)] _
                have h4 : w.grownBy (w26.setCells gb (ki * 5) [.int .i64 z1, .int .i64 z2, .int .i64 x.x, .int .i64 (IntKind.i64.wrap (x.x + z3)), .bool (z4 == 0)]) (some g) := grown_cells (show w.heap.size ≤ gb by omega) [.int .i64 z1, .int .i64 z2, .int .i64 x.x, .int .i64 (IntKind.i64.wrap (x.x + z3)), .bool (z4 == 0)] _ _ HG26.out
                have h5 : (w26.setCells gb (ki * 5) [.int .i64 z1, .int .i64 z2, .int .i64 x.x, .int .i64 (IntKind.i64.wrap (x.x + z3)), .bool (z4 == 0)]).cell? ⟨gb, ki * 5 + 2, none⟩ = some (.int .i64 x.x) := cell_of_cells [.int .i64 z1, .int .i64 z2, .int .i64 x.x, .int .i64 (IntKind.i64.wrap (x.x + z3)), .bool (z4 == 0)] _ (ki * 5) 2 _ rfl ⟨_, p2⟩
                have H1 := Lib.hid h1; clear h1
                have H3 := Lib.hid h3; clear h3
                have H4 := Lib.hid h4; clear h4
                have H5 := Lib.hid h5; clear h5
                go_simp
                refine hK.out _ _ (by exact H5.out) (fun hS => ?_)
                clear hK K
                refine wpAnyH_done (by kernel_rfl) ?_ _
                go_wp2
                go_ret
                exact ⟨_, ys.set ki ⟨z1, z2, x.x, IntKind.i64.wrap (x.x + z3), (z4 == 0)⟩, _, rfl, H1.out, by rw [List.length_set]; exact hlen, (fun j hj => by
                    rcases List.mem_or_eq_of_mem_set hj with h | h
                    · exact Hsm.out j h
                    · subst h; unfold jourSmall; dsimp only; rw [IntWalk.i64_in (x.x + z3) (by omega)]; omega), by omega, H3.out, H4.out⟩
            · go_simp
              have Hkk322 := Lib.hid (Blk.new' (w := ((w22.drew.alloc (.cells #[.int .i64 (-1), .int .i64 0, .int .i64 10] 3)).alloc (.cells #[.int .i64 0, .int .i64 1] 3))) (t := 3) (cs := #[.int .i64 0, .int .i64 181, .int .i64 (-1)]) (b := w22.heap.size + 1 + 1) (by (try simp)))
              refine hK.out _ _ (by exact ((CF.up (CF.up (CF.up (CF.drew Hcf.out) _) _) _)).1) (fun hS => ?_)
              clear hK K
              refine wpAnyH_ready (rs := [4]) (by kernel_rfl) (by simp) ?_
              refine AllReadyH.cons rfl (fun K hK => ?_) (AllReadyH.nil)
              go_simp
              go_wp2_with fail
              refine (one_in g (q + 1 + 1) _ [-1, 0, 10] (-1) 10 3 3 _ _ (Rd.alloc (Rd.alloc (Rd.alloc (Rd.drew Hrd22.out) _) _) _) (by omega) (Blk.alloc (Blk.alloc Hkk122.out _) _) (by omega) rfl rfl (by omega) (by omega) (by decide)).mono ?_
              rintro e w23 ⟨z1, rfl, z10, z11, hr23, hg23⟩
              have HG23 := Lib.hid (grown_trans (grown_alloc (grown_alloc (grown_alloc (grownDrew HG22.out) _) _) _) hg23)
              clear HG22
              have Hown23 := Lib.hid (World.ownsRow.kept (World.ownsRow.alloc (World.ownsRow.alloc (World.ownsRow.alloc (ownDrew Hown22.out) _) _) _) hg23 (apart_of (fun j hj e => by have := (World.ownsRow.lt Hown22.out j hj).1; injection e with e; omega)))
              clear Hown22
              have Hjx23 := Lib.hid (CF.grown (CF.up (CF.up (CF.up (CF.drew Hcf.out) _) _) _) hg23 (by intro e; injection e with e; omega))
              clear Hcf
              have Hk123 := Lib.hid (Blk.grown (Blk.alloc (Blk.alloc Hkk122.out _) _) hg23 (by intro e; injection e with e; omega))
              clear Hkk122
              have Hk223 := Lib.hid (Blk.grown (Blk.alloc Hkk222.out _) hg23 (by intro e; injection e with e; omega))
              clear Hkk222
              have Hk323 := Lib.hid (Blk.grown Hkk322.out hg23 (by intro e; injection e with e; omega))
              clear Hkk322
              clear hg23
              clear Hrd22
              have Hrd23 := Lib.hid hr23; clear hr23
              have hgl23 : g < w23.heap.size := (Hrd23.out).lt
              go_simp
              refine hK.out _ _ (by exact (Hjx23.out).1) (fun hS => ?_)
              clear hK K
              refine wpAnyH_ready (rs := [7]) (by kernel_rfl) (by simp) ?_
              refine AllReadyH.cons rfl (fun K hK => ?_) (AllReadyH.nil)
              go_simp
              go_wp2_with fail
              refine (one_in g (q + 1 + 1 + 1) _ [0, 1] (0) 1 2 2 _ _ Hrd23.out (by omega) Hk223.out (by omega) rfl rfl (by omega) (by omega) (by decide)).mono ?_
              rintro e w24 ⟨z2, rfl, z20, z21, hr24, hg24⟩
              have HG24 := Lib.hid (grown_trans HG23.out hg24)
              clear HG23
              have Hown24 := Lib.hid (World.ownsRow.kept Hown23.out hg24 (apart_of (fun j hj e => by have := (World.ownsRow.lt Hown23.out j hj).1; injection e with e; omega)))
              clear Hown23
              have Hjx24 := Lib.hid (CF.grown Hjx23.out hg24 (by intro e; injection e with e; omega))
              clear Hjx23
              have Hk224 := Lib.hid (Blk.grown Hk223.out hg24 (by intro e; injection e with e; omega))
              clear Hk223
              have Hk324 := Lib.hid (Blk.grown Hk323.out hg24 (by intro e; injection e with e; omega))
              clear Hk323
              clear hg24
              clear Hrd23
              have Hrd24 := Lib.hid hr24; clear hr24
              have hgl24 : g < w24.heap.size := (Hrd24.out).lt
              go_simp
              refine hK.out _ _ (by exact (Hjx24.out).1) (fun hS => ?_)
              clear hK K
              refine wpAnyH_ready (rs := [20]) (by kernel_rfl) (by simp) ?_
              refine AllReadyH.cons rfl (fun K hK => ?_) (AllReadyH.nil)
              go_simp
              go_wp2_with fail
              refine (one_in g (q + 1 + 1 + 1 + 1) _ [0, 181, -1] (-1) 181 3 3 _ _ Hrd24.out (by omega) Hk324.out (by omega) rfl rfl (by omega) (by omega) (by decide)).mono ?_
              rintro e w25 ⟨z3, rfl, z30, z31, hr25, hg25⟩
              have HG25 := Lib.hid (grown_trans HG24.out hg25)
              clear HG24
              have Hown25 := Lib.hid (World.ownsRow.kept Hown24.out hg25 (apart_of (fun j hj e => by have := (World.ownsRow.lt Hown24.out j hj).1; injection e with e; omega)))
              clear Hown24
              have Hjx25 := Lib.hid (CF.grown Hjx24.out hg25 (by intro e; injection e with e; omega))
              clear Hjx24
              have Hk325 := Lib.hid (Blk.grown Hk324.out hg25 (by intro e; injection e with e; omega))
              clear Hk324
              clear hg25
              clear Hrd24
              have Hrd25 := Lib.hid hr25; clear hr25
              have hgl25 : g < w25.heap.size := (Hrd25.out).lt
              go_simp
              refine hK.out _ _ (by exact (Hjx25.out).1) (fun hS => ?_)
              clear hK K
              refine take_at 21 93 (v := ?_) rfl rfl (by kernel_rfl) (by kernel_rfl) (by kernel_rfl) (fun _ _ _ h => h) (by rfl) ?_ hS ?_
              rotate_left 1
              · (intro w hSw; (try dsimp only at hSw); (try go_split_ands); go_simp; try with_reducible rfl)
              simp only [List.setIfInBounds_toArray, List.set_cons_zero, List.set_cons_succ]
              refine wpAnyH_ready (rs := [23]) (by kernel_rfl) (by simp) ?_
              refine AllReadyH.cons rfl (fun K hK => ?_) (AllReadyH.nil)
              go_simp
              go_wp2_with fail
              refine (pick_any g (q + 1 + 1 + 1 + 1 + 1) (2) _ Hrd25.out (by omega)).mono ?_
              rintro e w26 ⟨z4, rfl, z40, z41, hr26, hg26⟩
              have z42 := z41 (by omega)
              clear z41
              have HG26 := Lib.hid (grown_trans HG25.out hg26)
              clear HG25
              have Hown26 := Lib.hid (World.ownsRow.kept Hown25.out hg26 (apart_of (fun j hj e => by have := (World.ownsRow.lt Hown25.out j hj).1; injection e with e; omega)))
              clear Hown25
              have Hjx26 := Lib.hid (CF.grown Hjx25.out hg26 (by intro e; injection e with e; omega))
              clear Hjx25
              clear hg26
              clear Hrd25
              have Hrd26 := Lib.hid hr26; clear hr26
              have hgl26 : g < w26.heap.size := (Hrd26.out).lt
              go_simp
              refine hK.out _ _ (by exact (Hjx26.out).1) (fun hS => ?_)
              clear hK K
              refine take_at 24 96 (v := ?_) rfl rfl (by kernel_rfl) (by kernel_rfl) (by kernel_rfl) (fun _ _ _ h => h) (by rfl) ?_ hS ?_
              rotate_left 1
              · (intro w hSw; (try dsimp only at hSw); (try go_split_ands); go_simp; try with_reducible rfl)
              simp only [List.setIfInBounds_toArray, List.set_cons_zero, List.set_cons_succ]
              refine take_at 25 97 (v := ?_) rfl rfl (by kernel_rfl) (by kernel_rfl) (by kernel_rfl) (fun _ _ _ h => h) (by rfl) ?_ hS ?_
              rotate_left 1
              · (intro w hSw; (try dsimp only at hSw); (try go_split_ands); go_simp; try with_reducible rfl)
              simp only [List.setIfInBounds_toArray, List.set_cons_zero, List.set_cons_succ]
              refine take_at 26 98 (v := ?_) rfl rfl (by kernel_rfl) (by kernel_rfl) (by kernel_rfl) (fun _ _ _ h => h) (by rfl) ?_ hS ?_
              rotate_left 1
              · (intro w hSw; (try dsimp only at hSw); (try go_split_ands); go_simp; try with_reducible rfl)
              simp only [List.setIfInBounds_toArray, List.set_cons_zero, List.set_cons_succ]
              refine wpAnyH_ready (rs := [27]) (by kernel_rfl) (by simp) ?_
              refine AllReadyH.cons rfl (fun K hK => ?_) (AllReadyH.nil)
              go_simp
              obtain ⟨gz, cgz, evgz, hbgz, hltgz, hlegz, hmxgz, hcellgz, hfreegz, htheregz⟩ := own_at journeyCells 5 (fun _ => rfl) Hown26.out (show 0 < ys.length by omega)
              have Hcellgz := Lib.hid hcellgz; clear hcellgz
              have Hfreegz := Lib.hid hfreegz; clear hfreegz
              have Htheregz := Lib.hid htheregz; clear htheregz
              injection evgz with e1 e2 e3
              injection e1 with e1
              injection e1 with e1
              subst e1
              clear e2 e3
              obtain ⟨u0, p0⟩ : ∃ u, w26.cell? ⟨gb, ki * 5, none⟩ = some u := Htheregz.out _ (by omega)
              have f0 : w26.frozen? ⟨gb, ki * 5, none⟩ = false := Hfreegz.out _
              obtain ⟨u1, p1⟩ : ∃ u, w26.cell? ⟨gb, ki * 5 + 1, none⟩ = some u := Htheregz.out _ (by omega)
              have f1 : w26.frozen? ⟨gb, ki * 5 + 1, none⟩ = false := Hfreegz.out _
              obtain ⟨u2, p2⟩ : ∃ u, w26.cell? ⟨gb, ki * 5 + 2, none⟩ = some u := Htheregz.out _ (by omega)
              have f2 : w26.frozen? ⟨gb, ki * 5 + 2, none⟩ = false := Hfreegz.out _
              obtain ⟨u3, p3⟩ : ∃ u, w26.cell? ⟨gb, ki * 5 + 3, none⟩ = some u := Htheregz.out _ (by omega)
              have f3 : w26.frozen? ⟨gb, ki * 5 + 3, none⟩ = false := Hfreegz.out _
              obtain ⟨u4, p4⟩ : ∃ u, w26.cell? ⟨gb, ki * 5 + 4, none⟩ = some u := Htheregz.out _ (by omega)
              have f4 : w26.frozen? ⟨gb, ki * 5 + 4, none⟩ = false := Hfreegz.out _
              clear Hcellgz Hfreegz Htheregz
              have h1 : OwnJourneys (w26.setCells gb (ki * 5) [.int .i64 z1, .int .i64 z2, .int .i64 x.x, .int .i64 (IntKind.i64.wrap (x.x + z3)), .bool (z4 == 0)]) w.heap.size (.slice (some ⟨gb, 0, none⟩) ys.length cv) (ys.set ki ⟨z1, z2, x.x, IntKind.i64.wrap (x.x + z3), (z4 == 0)⟩) := by
                unfold OwnJourneys
                rw [List.length_set]
                exact own_store journeyCells 5 (fun _ => rfl) (by omega) (x := ⟨z1, z2, x.x, IntKind.i64.wrap (x.x + z3), (z4 == 0)⟩) (i := ki) Hown26.out hki
              have h3 : Rd (w26.setCells gb (ki * 5) [.int .i64 z1, .int .i64 z2, .int .i64 x.x, .int .i64 (IntKind.i64.wrap (x.x + z3)), .bool (z4 == 0)]) g (q + 1 + 1 + 1 + 1 + 1 + 1) := Rd.setCells Hrd26.out (show g < gb by omega) [.int .i64 z1, .int .i64 z2, .int .i64 x.x, .int .i64 (IntKind.i64.wrap (x.x + z3)), .bool (z4 == 0)] _
              have h4 : w.grownBy (w26.setCells gb (ki * 5) [.int .i64 z1, .int .i64 z2, .int .i64 x.x, .int .i64 (IntKind.i64.wrap (x.x + z3)), .bool (z4 == 0)]) (some g) := grown_cells (show w.heap.size ≤ gb by omega) [.int .i64 z1, .int .i64 z2, .int .i64 x.x, .int .i64 (IntKind.i64.wrap (x.x + z3)), .bool (z4 == 0)] _ _ HG26.out
              have h5 : (w26.setCells gb (ki * 5) [.int .i64 z1, .int .i64 z2, .int .i64 x.x, .int .i64 (IntKind.i64.wrap (x.x + z3)), .bool (z4 == 0)]).cell? ⟨gb, ki * 5 + 2, none⟩ = some (.int .i64 x.x) := cell_of_cells [.int .i64 z1, .int .i64 z2, .int .i64 x.x, .int .i64 (IntKind.i64.wrap (x.x + z3)), .bool (z4 == 0)] _ (ki * 5) 2 _ rfl ⟨_, p2⟩
              have H1 := Lib.hid h1; clear h1
              have H3 := Lib.hid h3; clear h3
              have H4 := Lib.hid h4; clear h4
              have H5 := Lib.hid h5; clear h5
              go_simp
              refine hK.out _ _ (by exact H5.out) (fun hS => ?_)
              clear hK K
              refine wpAnyH_done (by kernel_rfl) ?_ _
              go_wp2
              go_ret
              exact ⟨_, ys.set ki ⟨z1, z2, x.x, IntKind.i64.wrap (x.x + z3), (z4 == 0)⟩, _, rfl, H1.out, by rw [List.length_set]; exact hlen, (fun j hj => by
                  rcases List.mem_or_eq_of_mem_set hj with h | h
                  · exact Hsm.out j h
                  · subst h; unfold jourSmall; dsimp only; rw [IntWalk.i64_in (x.x + z3) (by omega)]; omega), by omega, H3.out, H4.out⟩
          · go_simp
            have Hkk322 := Lib.hid (Blk.new' (w := (w22.drew.alloc (.cells #[.int .i64 (-1), .int .i64 0, .int .i64 10] 3))) (t := 3) (cs := #[.int .i64 0, .int .i64 181, .int .i64 (-1)]) (b := w22.heap.size + 1) (by (try simp)))
            refine hK.out _ _ (by exact ((CF.up (CF.up (CF.drew Hcf.out) _) _)).1) (fun hS => ?_)
            clear hK K
            refine wpAnyH_ready (rs := [4, 6]) (by kernel_rfl) (by simp) ?_
            refine AllReadyH.cons rfl (fun K hK => ?_) (AllReadyH.cons rfl (fun K hK => ?_) (AllReadyH.nil))
            · go_simp
              go_wp2_with fail
              refine (one_in g (q + 1 + 1) _ [-1, 0, 10] (-1) 10 3 3 _ _ (Rd.alloc (Rd.alloc (Rd.drew Hrd22.out) _) _) (by omega) (Blk.alloc Hkk122.out _) (by omega) rfl rfl (by omega) (by omega) (by decide)).mono ?_
              rintro e w23 ⟨z1, rfl, z10, z11, hr23, hg23⟩
              have HG23 := Lib.hid (grown_trans (grown_alloc (grown_alloc (grownDrew HG22.out) _) _) hg23)
              clear HG22
              have Hown23 := Lib.hid (World.ownsRow.kept (World.ownsRow.alloc (World.ownsRow.alloc (ownDrew Hown22.out) _) _) hg23 (apart_of (fun j hj e => by have := (World.ownsRow.lt Hown22.out j hj).1; injection e with e; omega)))
              clear Hown22
              have Hjx23 := Lib.hid (CF.grown (CF.up (CF.up (CF.drew Hcf.out) _) _) hg23 (by intro e; injection e with e; omega))
              clear Hcf
              have Hk123 := Lib.hid (Blk.grown (Blk.alloc Hkk122.out _) hg23 (by intro e; injection e with e; omega))
              clear Hkk122
              have Hk323 := Lib.hid (Blk.grown Hkk322.out hg23 (by intro e; injection e with e; omega))
              clear Hkk322
              clear hg23
              clear Hrd22
              have Hrd23 := Lib.hid hr23; clear hr23
              have hgl23 : g < w23.heap.size := (Hrd23.out).lt
              go_simp
              refine hK.out _ _ (by exact (Hjx23.out).1) (fun hS => ?_)
              clear hK K
              refine wpAnyH_ready (rs := [6]) (by kernel_rfl) (by simp) ?_
              refine AllReadyH.cons rfl (fun K hK => ?_) (AllReadyH.nil)
              go_simp
              have Hkk223 := Lib.hid (Blk.new' (w := w23) (t := 3) (cs := #[.int .i64 0, .int .i64 1]) (b := w23.heap.size) (by (try simp)))
              refine hK.out _ _ (by exact ((CF.up Hjx23.out _)).1) (fun hS => ?_)
              clear hK K
              refine wpAnyH_ready (rs := [7]) (by kernel_rfl) (by simp) ?_
              refine AllReadyH.cons rfl (fun K hK => ?_) (AllReadyH.nil)
              go_simp
              go_wp2_with fail
              refine (one_in g (q + 1 + 1 + 1) _ [0, 1] (0) 1 2 2 _ _ (Rd.alloc Hrd23.out _) (by omega) Hkk223.out (by omega) rfl rfl (by omega) (by omega) (by decide)).mono ?_
              rintro e w24 ⟨z2, rfl, z20, z21, hr24, hg24⟩
              have HG24 := Lib.hid (grown_trans (grown_alloc HG23.out _) hg24)
              clear HG23
              have Hown24 := Lib.hid (World.ownsRow.kept (World.ownsRow.alloc Hown23.out _) hg24 (apart_of (fun j hj e => by have := (World.ownsRow.lt Hown23.out j hj).1; injection e with e; omega)))
              clear Hown23
              have Hjx24 := Lib.hid (CF.grown (CF.up Hjx23.out _) hg24 (by intro e; injection e with e; omega))
              clear Hjx23
              have Hk324 := Lib.hid (Blk.grown (Blk.alloc Hk323.out _) hg24 (by intro e; injection e with e; omega))
              clear Hk323
              have Hk224 := Lib.hid (Blk.grown Hkk223.out hg24 (by intro e; injection e with e; omega))
              clear Hkk223
              clear hg24
              clear Hrd23
              have Hrd24 := Lib.hid hr24; clear hr24
              have hgl24 : g < w24.heap.size := (Hrd24.out).lt
              go_simp
              refine hK.out _ _ (by exact (Hjx24.out).1) (fun hS => ?_)
              clear hK K
              refine wpAnyH_ready (rs := [20]) (by kernel_rfl) (by simp) ?_
              refine AllReadyH.cons rfl (fun K hK => ?_) (AllReadyH.nil)
              go_simp
              go_wp2_with fail
              refine (one_in g (q + 1 + 1 + 1 + 1) _ [0, 181, -1] (-1) 181 3 3 _ _ Hrd24.out (by omega) Hk324.out (by omega) rfl rfl (by omega) (by omega) (by decide)).mono ?_
              rintro e w25 ⟨z3, rfl, z30, z31, hr25, hg25⟩
              have HG25 := Lib.hid (grown_trans HG24.out hg25)
              clear HG24
              have Hown25 := Lib.hid (World.ownsRow.kept Hown24.out hg25 (apart_of (fun j hj e => by have := (World.ownsRow.lt Hown24.out j hj).1; injection e with e; omega)))
              clear Hown24
              have Hjx25 := Lib.hid (CF.grown Hjx24.out hg25 (by intro e; injection e with e; omega))
              clear Hjx24
              have Hk325 := Lib.hid (Blk.grown Hk324.out hg25 (by intro e; injection e with e; omega))
              clear Hk324
              clear hg25
              clear Hrd24
              have Hrd25 := Lib.hid hr25; clear hr25
              have hgl25 : g < w25.heap.size := (Hrd25.out).lt
              go_simp
              refine hK.out _ _ (by exact (Hjx25.out).1) (fun hS => ?_)
              clear hK K
              refine take_at 21 93 (v := ?_) rfl rfl (by kernel_rfl) (by kernel_rfl) (by kernel_rfl) (fun _ _ _ h => h) (by rfl) ?_ hS ?_
              rotate_left 1
              · (intro w hSw; (try dsimp only at hSw); (try go_split_ands); go_simp; try with_reducible rfl)
              simp only [List.setIfInBounds_toArray, List.set_cons_zero, List.set_cons_succ]
              refine wpAnyH_ready (rs := [23]) (by kernel_rfl) (by simp) ?_
              refine AllReadyH.cons rfl (fun K hK => ?_) (AllReadyH.nil)
              go_simp
              go_wp2_with fail
              refine (pick_any g (q + 1 + 1 + 1 + 1 + 1) (2) _ Hrd25.out (by omega)).mono ?_
              rintro e w26 ⟨z4, rfl, z40, z41, hr26, hg26⟩
              have z42 := z41 (by omega)
              clear z41
              have HG26 := Lib.hid (grown_trans HG25.out hg26)
              clear HG25
              have Hown26 := Lib.hid (World.ownsRow.kept Hown25.out hg26 (apart_of (fun j hj e => by have := (World.ownsRow.lt Hown25.out j hj).1; injection e with e; omega)))
              clear Hown25
              have Hjx26 := Lib.hid (CF.grown Hjx25.out hg26 (by intro e; injection e with e; omega))
              clear Hjx25
              clear hg26
              clear Hrd25
              have Hrd26 := Lib.hid hr26; clear hr26
              have hgl26 : g < w26.heap.size := (Hrd26.out).lt
              go_simp
              refine hK.out _ _ (by exact (Hjx26.out).1) (fun hS => ?_)
              clear hK K
              refine take_at 24 96 (v := ?_) rfl rfl (by kernel_rfl) (by kernel_rfl) (by kernel_rfl) (fun _ _ _ h => h) (by rfl) ?_ hS ?_
              rotate_left 1
              · (intro w hSw; (try dsimp only at hSw); (try go_split_ands); go_simp; try with_reducible rfl)
              simp only [List.setIfInBounds_toArray, List.set_cons_zero, List.set_cons_succ]
              refine take_at 25 97 (v := ?_) rfl rfl (by kernel_rfl) (by kernel_rfl) (by kernel_rfl) (fun _ _ _ h => h) (by rfl) ?_ hS ?_
              rotate_left 1
              · (intro w hSw; (try dsimp only at hSw); (try go_split_ands); go_simp; try with_reducible rfl)
              simp only [List.setIfInBounds_toArray, List.set_cons_zero, List.set_cons_succ]
              refine take_at 26 98 (v := ?_) rfl rfl (by kernel_rfl) (by kernel_rfl) (by kernel_rfl) (fun _ _ _ h => h) (by rfl) ?_ hS ?_
              rotate_left 1
              · (intro w hSw; (try dsimp only at hSw); (try go_split_ands); go_simp; try with_reducible rfl)
              simp only [List.setIfInBounds_toArray, List.set_cons_zero, List.set_cons_succ]
              refine wpAnyH_ready (rs := [27]) (by kernel_rfl) (by simp) ?_
              refine AllReadyH.cons rfl (fun K hK => ?_) (AllReadyH.nil)
              go_simp
              obtain ⟨gz, cgz, evgz, hbgz, hltgz, hlegz, hmxgz, hcellgz, hfreegz, htheregz⟩ := own_at journeyCells 5 (fun _ => rfl) Hown26.out (show 0 < ys.length by omega)
              have Hcellgz := Lib.hid hcellgz; clear hcellgz
              have Hfreegz := Lib.hid hfreegz; clear hfreegz
              have Htheregz := Lib.hid htheregz; clear htheregz
              injection evgz with e1 e2 e3
              injection e1 with e1
              injection e1 with e1
              subst e1
              clear e2 e3
              obtain ⟨u0, p0⟩ : ∃ u, w26.cell? ⟨gb, ki * 5, none⟩ = some u := Htheregz.out _ (by omega)
              have f0 : w26.frozen? ⟨gb, ki * 5, none⟩ = false := Hfreegz.out _
              obtain ⟨u1, p1⟩ : ∃ u, w26.cell? ⟨gb, ki * 5 + 1, none⟩ = some u := Htheregz.out _ (by omega)
              have f1 : w26.frozen? ⟨gb, ki * 5 + 1, none⟩ = false := Hfreegz.out _
              obtain ⟨u2, p2⟩ : ∃ u, w26.cell? ⟨gb, ki * 5 + 2, none⟩ = some u := Htheregz.out _ (by omega)
              have f2 : w26.frozen? ⟨gb, ki * 5 + 2, none⟩ = false := Hfreegz.out _
              obtain ⟨u3, p3⟩ : ∃ u, w26.cell? ⟨gb, ki * 5 + 3, none⟩ = some u := Htheregz.out _ (by omega)
              have f3 : w26.frozen? ⟨gb, ki * 5 + 3, none⟩ = false := Hfreegz.out _
              obtain ⟨u4, p4⟩ : ∃ u, w26.cell? ⟨gb, ki * 5 + 4, none⟩ = some u := Htheregz.out _ (by omega)
              have f4 : w26.frozen? ⟨gb, ki * 5 + 4, none⟩ = false := Hfreegz.out _
              clear Hcellgz Hfreegz Htheregz
              have h1 : OwnJourneys (w26.setCells gb (ki * 5) [.int .i64 z1, .int .i64 z2, .int .i64 x.x, .int .i64 (IntKind.i64.wrap (x.x + z3)), .bool (z4 == 0)]) w.heap.size (.slice (some ⟨gb, 0, none⟩) ys.length cv) (ys.set ki ⟨z1, z2, x.x, IntKind.i64.wrap (x.x + z3), (z4 == 0)⟩) := by
                unfold OwnJourneys
                rw [List.length_set]
                exact own_store journeyCells 5 (fun _ => rfl) (by omega) (x := ⟨z1, z2, x.x, IntKind.i64.wrap (x.x + z3), (z4 == 0)⟩) (i := ki) Hown26.out hki
              have h3 : Rd (w26.setCells gb (ki * 5) [.int .i64 z1, .int .i64 z2, .int .i64 x.x, .int .i64 (IntKind.i64.wrap (x.x + z3)), .bool (z4 == 0)]) g (q + 1 + 1 + 1 + 1 + 1 + 1) := Rd.setCells Hrd26.out (show g < gb by omega) [.int .i64 z1, .int .i64 z2, .int .i64 x.x, .int .i64 (IntKind.i64.wrap (x.x + z3)), .bool (z4 == 0)] _
              have h4 : w.grownBy (w26.setCells gb (ki * 5) [.int .i64 z1, .int .i64 z2, .int .i64 x.x, .int .i64 (IntKind.i64.wrap (x.x + z3)), .bool (z4 == 0)]) (some g) := grown_cells (show w.heap.size ≤ gb by omega) [.int .i64 z1, .int .i64 z2, .int .i64 x.x, .int .i64 (IntKind.i64.wrap (x.x + z3)), .bool (z4 == 0)] _ _ HG26.out
              have h5 : (w26.setCells gb (ki * 5) [.int .i64 z1, .int .i64 z2, .int .i64 x.x, .int .i64 (IntKind.i64.wrap (x.x + z3)), .bool (z4 == 0)]).cell? ⟨gb, ki * 5 + 2, none⟩ = some (.int .i64 x.x) := cell_of_cells [.int .i64 z1, .int .i64 z2, .int .i64 x.x, .int .i64 (IntKind.i64.wrap (x.x + z3)), .bool (z4 == 0)] _ (ki * 5) 2 _ rfl ⟨_, p2⟩
              have H1 := Lib.hid h1; clear h1
              have H3 := Lib.hid h3; clear h3
              have H4 := Lib.hid h4; clear h4
              have H5 := Lib.hid h5; clear h5
              go_simp
              refine hK.out _ _ (by exact H5.out) (fun hS => ?_)
              clear hK K
              refine wpAnyH_done (by kernel_rfl) ?_ _
              go_wp2
              go_ret
              exact ⟨_, ys.set ki ⟨z1, z2, x.x, IntKind.i64.wrap (x.x + z3), (z4 == 0)⟩, _, rfl, H1.out, by rw [List.length_set]; exact hlen, (fun j hj => by
                  rcases List.mem_or_eq_of_mem_set hj with h | h
                  · exact Hsm.out j h
                  · subst h; unfold jourSmall; dsimp only; rw [IntWalk.i64_in (x.x + z3) (by omega)]; omega), by omega, H3.out, H4.out⟩
            · go_simp
              have Hkk222 := Lib.hid (Blk.new' (w := ((w22.drew.alloc (.cells #[.int .i64 (-1), .int .i64 0, .int .i64 10] 3)).alloc (.cells #[.int .i64 0, .int .i64 181, .int .i64 (-1)] 3))) (t := 3) (cs := #[.int .i64 0, .int .i64 1]) (b := w22.heap.size + 1 + 1) (by (try simp)))
              refine hK.out _ _ (by exact ((CF.up (CF.up (CF.up (CF.drew Hcf.out) _) _) _)).1) (fun hS => ?_)
              clear hK K
              refine wpAnyH_ready (rs := [4]) (by kernel_rfl) (by simp) ?_
              refine AllReadyH.cons rfl (fun K hK => ?_) (AllReadyH.nil)
              go_simp
              go_wp2_with fail
              refine (one_in g (q + 1 + 1) _ [-1, 0, 10] (-1) 10 3 3 _ _ (Rd.alloc (Rd.alloc (Rd.alloc (Rd.drew Hrd22.out) _) _) _) (by omega) (Blk.alloc (Blk.alloc Hkk122.out _) _) (by omega) rfl rfl (by omega) (by omega) (by decide)).mono ?_
              rintro e w23 ⟨z1, rfl, z10, z11, hr23, hg23⟩
              have HG23 := Lib.hid (grown_trans (grown_alloc (grown_alloc (grown_alloc (grownDrew HG22.out) _) _) _) hg23)
              clear HG22
              have Hown23 := Lib.hid (World.ownsRow.kept (World.ownsRow.alloc (World.ownsRow.alloc (World.ownsRow.alloc (ownDrew Hown22.out) _) _) _) hg23 (apart_of (fun j hj e => by have := (World.ownsRow.lt Hown22.out j hj).1; injection e with e; omega)))
              clear Hown22
              have Hjx23 := Lib.hid (CF.grown (CF.up (CF.up (CF.up (CF.drew Hcf.out) _) _) _) hg23 (by intro e; injection e with e; omega))
              clear Hcf
              have Hk123 := Lib.hid (Blk.grown (Blk.alloc (Blk.alloc Hkk122.out _) _) hg23 (by intro e; injection e with e; omega))
              clear Hkk122
              have Hk323 := Lib.hid (Blk.grown (Blk.alloc Hkk322.out _) hg23 (by intro e; injection e with e; omega))
              clear Hkk322
              have Hk223 := Lib.hid (Blk.grown Hkk222.out hg23 (by intro e; injection e with e; omega))
              clear Hkk222
              clear hg23
              clear Hrd22
              have Hrd23 := Lib.hid hr23; clear hr23
              have hgl23 : g < w23.heap.size := (Hrd23.out).lt
              go_simp
              refine hK.out _ _ (by exact (Hjx23.out).1) (fun hS => ?_)
              clear hK K
              refine wpAnyH_ready (rs := [7]) (by kernel_rfl) (by simp) ?_
              refine AllReadyH.cons rfl (fun K hK => ?_) (AllReadyH.nil)
              go_simp
              go_wp2_with fail
              refine (one_in g (q + 1 + 1 + 1) _ [0, 1] (0) 1 2 2 _ _ Hrd23.out (by omega) Hk223.out (by omega) rfl rfl (by omega) (by omega) (by decide)).mono ?_
              rintro e w24 ⟨z2, rfl, z20, z21, hr24, hg24⟩
              have HG24 := Lib.hid (grown_trans HG23.out hg24)
              clear HG23
              have Hown24 := Lib.hid (World.ownsRow.kept Hown23.out hg24 (apart_of (fun j hj e => by have := (World.ownsRow.lt Hown23.out j hj).1; injection e with e; omega)))
              clear Hown23
              have Hjx24 := Lib.hid (CF.grown Hjx23.out hg24 (by intro e; injection e with e; omega))
              clear Hjx23
              have Hk324 := Lib.hid (Blk.grown Hk323.out hg24 (by intro e; injection e with e; omega))
              clear Hk323
              have Hk224 := Lib.hid (Blk.grown Hk223.out hg24 (by intro e; injection e with e; omega))
              clear Hk223
              clear hg24
              clear Hrd23
              have Hrd24 := Lib.hid hr24; clear hr24
              have hgl24 : g < w24.heap.size := (Hrd24.out).lt
              go_simp
              refine hK.out _ _ (by exact (Hjx24.out).1) (fun hS => ?_)
              clear hK K
              refine wpAnyH_ready (rs := [20]) (by kernel_rfl) (by simp) ?_
              refine AllReadyH.cons rfl (fun K hK => ?_) (AllReadyH.nil)
              go_simp
              go_wp2_with fail
              refine (one_in g (q + 1 + 1 + 1 + 1) _ [0, 181, -1] (-1) 181 3 3 _ _ Hrd24.out (by omega) Hk324.out (by omega) rfl rfl (by omega) (by omega) (by decide)).mono ?_
              rintro e w25 ⟨z3, rfl, z30, z31, hr25, hg25⟩
              have HG25 := Lib.hid (grown_trans HG24.out hg25)
              clear HG24
              have Hown25 := Lib.hid (World.ownsRow.kept Hown24.out hg25 (apart_of (fun j hj e => by have := (World.ownsRow.lt Hown24.out j hj).1; injection e with e; omega)))
              clear Hown24
              have Hjx25 := Lib.hid (CF.grown Hjx24.out hg25 (by intro e; injection e with e; omega))
              clear Hjx24
              have Hk325 := Lib.hid (Blk.grown Hk324.out hg25 (by intro e; injection e with e; omega))
              clear Hk324
              clear hg25
              clear Hrd24
              have Hrd25 := Lib.hid hr25; clear hr25
              have hgl25 : g < w25.heap.size := (Hrd25.out).lt
              go_simp
              refine hK.out _ _ (by exact (Hjx25.out).1) (fun hS => ?_)
              clear hK K
              refine take_at 21 93 (v := ?_) rfl rfl (by kernel_rfl) (by kernel_rfl) (by kernel_rfl) (fun _ _ _ h => h) (by rfl) ?_ hS ?_
              rotate_left 1
              · (intro w hSw; (try dsimp only at hSw); (try go_split_ands); go_simp; try with_reducible rfl)
              simp only [List.setIfInBounds_toArray, List.set_cons_zero, List.set_cons_succ]
              refine wpAnyH_ready (rs := [23]) (by kernel_rfl) (by simp) ?_
              refine AllReadyH.cons rfl (fun K hK => ?_) (AllReadyH.nil)
              go_simp
              go_wp2_with fail
              refine (pick_any g (q + 1 + 1 + 1 + 1 + 1) (2) _ Hrd25.out (by omega)).mono ?_
              rintro e w26 ⟨z4, rfl, z40, z41, hr26, hg26⟩
              have z42 := z41 (by omega)
              clear z41
              have HG26 := Lib.hid (grown_trans HG25.out hg26)
              clear HG25
              have Hown26 := Lib.hid (World.ownsRow.kept Hown25.out hg26 (apart_of (fun j hj e => by have := (World.ownsRow.lt Hown25.out j hj).1; injection e with e; omega)))
              clear Hown25
              have Hjx26 := Lib.hid (CF.grown Hjx25.out hg26 (by intro e; injection e with e; omega))
              clear Hjx25
              clear hg26
              clear Hrd25
              have Hrd26 := Lib.hid hr26; clear hr26
              have hgl26 : g < w26.heap.size := (Hrd26.out).lt
              go_simp
              refine hK.out _ _ (by exact (Hjx26.out).1) (fun hS => ?_)
              clear hK K
              refine take_at 24 96 (v := ?_) rfl rfl (by kernel_rfl) (by kernel_rfl) (by kernel_rfl) (fun _ _ _ h => h) (by rfl) ?_ hS ?_
              rotate_left 1
              · (intro w hSw; (try dsimp only at hSw); (try go_split_ands); go_simp; try with_reducible rfl)
              simp only [List.setIfInBounds_toArray, List.set_cons_zero, List.set_cons_succ]
              refine take_at 25 97 (v := ?_) rfl rfl (by kernel_rfl) (by kernel_rfl) (by kernel_rfl) (fun _ _ _ h => h) (by rfl) ?_ hS ?_
              rotate_left 1
              · (intro w hSw; (try dsimp only at hSw); (try go_split_ands); go_simp; try with_reducible rfl)
              simp only [List.setIfInBounds_toArray, List.set_cons_zero, List.set_cons_succ]
              refine take_at 26 98 (v := ?_) rfl rfl (by kernel_rfl) (by kernel_rfl) (by kernel_rfl) (fun _ _ _ h => h) (by rfl) ?_ hS ?_
              rotate_left 1
              · (intro w hSw; (try dsimp only at hSw); (try go_split_ands); go_simp; try with_reducible rfl)
              simp only [List.setIfInBounds_toArray, List.set_cons_zero, List.set_cons_succ]
              refine wpAnyH_ready (rs := [27]) (by kernel_rfl) (by simp) ?_
              refine AllReadyH.cons rfl (fun K hK => ?_) (AllReadyH.nil)
              go_simp
              obtain ⟨gz, cgz, evgz, hbgz, hltgz, hlegz, hmxgz, hcellgz, hfreegz, htheregz⟩ := own_at journeyCells 5 (fun _ => rfl) Hown26.out (show 0 < ys.length by omega)
              have Hcellgz := Lib.hid hcellgz; clear hcellgz
              have Hfreegz := Lib.hid hfreegz; clear hfreegz
              have Htheregz := Lib.hid htheregz; clear htheregz
              injection evgz with e1 e2 e3
              injection e1 with e1
              injection e1 with e1
              subst e1
              clear e2 e3
              obtain ⟨u0, p0⟩ : ∃ u, w26.cell? ⟨gb, ki * 5, none⟩ = some u := Htheregz.out _ (by omega)
              have f0 : w26.frozen? ⟨gb, ki * 5, none⟩ = false := Hfreegz.out _
              obtain ⟨u1, p1⟩ : ∃ u, w26.cell? ⟨gb, ki * 5 + 1, none⟩ = some u := Htheregz.out _ (by omega)
              have f1 : w26.frozen? ⟨gb, ki * 5 + 1, none⟩ = false := Hfreegz.out _
              obtain ⟨u2, p2⟩ : ∃ u, w26.cell? ⟨gb, ki * 5 + 2, none⟩ = some u := Htheregz.out _ (by omega)
              have f2 : w26.frozen? ⟨gb, ki * 5 + 2, none⟩ = false := Hfreegz.out _
              obtain ⟨u3, p3⟩ : ∃ u, w26.cell? ⟨gb, ki * 5 + 3, none⟩ = some u := Htheregz.out _ (by omega)
              have f3 : w26.frozen? ⟨gb, ki * 5 + 3, none⟩ = false := Hfreegz.out _
              obtain ⟨u4, p4⟩ : ∃ u, w26.cell? ⟨gb, ki * 5 + 4, none⟩ = some u := Htheregz.out _ (by omega)
              have f4 : w26.frozen? ⟨gb, ki * 5 + 4, none⟩ = false := Hfreegz.out _
              clear Hcellgz Hfreegz Htheregz
              have h1 : OwnJourneys (w26.setCells gb (ki * 5) [.int .i64 z1, .int .i64 z2, .int .i64 x.x, .int .i64 (IntKind.i64.wrap (x.x + z3)), .bool (z4 == 0)]) w.heap.size (.slice (some ⟨gb, 0, none⟩) ys.length cv) (ys.set ki ⟨z1, z2, x.x, IntKind.i64.wrap (x.x + z3), (z4 == 0)⟩) := by
                unfold OwnJourneys
                rw [List.length_set]
                exact own_store journeyCells 5 (fun _ => rfl) (by omega) (x := ⟨z1, z2, x.x, IntKind.i64.wrap (x.x + z3), (z4 == 0)⟩) (i := ki) Hown26.out hki
              have h3 : Rd (w26.setCells gb (ki * 5) [.int .i64 z1, .int .i64 z2, .int .i64 x.x, .int .i64 (IntKind.i64.wrap (x.x + z3)), .bool (z4 == 0)]) g (q + 1 + 1 + 1 + 1 + 1 + 1) := Rd.setCells Hrd26.out (show g < gb by omega) [.int .i64 z1, .int .i64 z2, .int .i64 x.x, .int .i64 (IntKind.i64.wrap (x.x + z3)), .bool (z4 == 0)] _
              have h4 : w.grownBy (w26.setCells gb (ki * 5) [.int .i64 z1, .int .i64 z2, .int .i64 x.x, .int .i64 (IntKind.i64.wrap (x.x + z3)), .bool (z4 == 0)]) (some g) := grown_cells (show w.heap.size ≤ gb by omega) [.int .i64 z1, .int .i64 z2, .int .i64 x.x, .int .i64 (IntKind.i64.wrap (x.x + z3)), .bool (z4 == 0)] _ _ HG26.out
              have h5 : (w26.setCells gb (ki * 5) [.int .i64 z1, .int .i64 z2, .int .i64 x.x, .int .i64 (IntKind.i64.wrap (x.x + z3)), .bool (z4 == 0)]).cell? ⟨gb, ki * 5 + 2, none⟩ = some (.int .i64 x.x) := cell_of_cells [.int .i64 z1, .int .i64 z2, .int .i64 x.x, .int .i64 (IntKind.i64.wrap (x.x + z3)), .bool (z4 == 0)] _ (ki * 5) 2 _ rfl ⟨_, p2⟩
              have H1 := Lib.hid h1; clear h1
              have H3 := Lib.hid h3; clear h3
              have H4 := Lib.hid h4; clear h4
              have H5 := Lib.hid h5; clear h5
              go_simp
              refine hK.out _ _ (by exact H5.out) (fun hS => ?_)
              clear hK K
              refine wpAnyH_done (by kernel_rfl) ?_ _
              go_wp2
              go_ret
              exact ⟨_, ys.set ki ⟨z1, z2, x.x, IntKind.i64.wrap (x.x + z3), (z4 == 0)⟩, _, rfl, H1.out, by rw [List.length_set]; exact hlen, (fun j hj => by
                  rcases List.mem_or_eq_of_mem_set hj with h | h
                  · exact Hsm.out j h
                  · subst h; unfold jourSmall; dsimp only; rw [IntWalk.i64_in (x.x + z3) (by omega)]; omega), by omega, H3.out, H4.out⟩
        · go_simp
          have Hkk222 := Lib.hid (Blk.new' (w := w22.drew) (t := 3) (cs := #[.int .i64 0, .int .i64 1]) (b := w22.heap.size) (by (try simp)))
          refine hK.out _ _ (by exact ((CF.up (CF.drew Hcf.out) _)).1) (fun hS => ?_)
          clear hK K
          refine wpAnyH_ready (rs := [3, 19]) (by kernel_rfl) (by simp) ?_
          refine AllReadyH.cons rfl (fun K hK => ?_) (AllReadyH.cons rfl (fun K hK => ?_) (AllReadyH.nil))
          · go_simp
            have Hkk122 := Lib.hid (Blk.new' (w := (w22.drew.alloc (.cells #[.int .i64 0, .int .i64 1] 3))) (t := 3) (cs := #[.int .i64 (-1), .int .i64 0, .int .i64 10]) (b := w22.heap.size + 1) (by (try simp)))
            refine hK.out _ _ (by exact ((CF.up (CF.up (CF.drew Hcf.out) _) _)).1) (fun hS => ?_)
            clear hK K
            refine wpAnyH_ready (rs := [4, 19]) (by kernel_rfl) (by simp) ?_
            refine AllReadyH.cons rfl (fun K hK => ?_) (AllReadyH.cons rfl (fun K hK => ?_) (AllReadyH.nil))
            · go_simp
              go_wp2_with fail
              refine (one_in g (q + 1 + 1) _ [-1, 0, 10] (-1) 10 3 3 _ _ (Rd.alloc (Rd.alloc (Rd.drew Hrd22.out) _) _) (by omega) Hkk122.out (by omega) rfl rfl (by omega) (by omega) (by decide)).mono ?_
              rintro e w23 ⟨z1, rfl, z10, z11, hr23, hg23⟩
              have HG23 := Lib.hid (grown_trans (grown_alloc (grown_alloc (grownDrew HG22.out) _) _) hg23)
              clear HG22
              have Hown23 := Lib.hid (World.ownsRow.kept (World.ownsRow.alloc (World.ownsRow.alloc (ownDrew Hown22.out) _) _) hg23 (apart_of (fun j hj e => by have := (World.ownsRow.lt Hown22.out j hj).1; injection e with e; omega)))
              clear Hown22
              have Hjx23 := Lib.hid (CF.grown (CF.up (CF.up (CF.drew Hcf.out) _) _) hg23 (by intro e; injection e with e; omega))
              clear Hcf
              have Hk223 := Lib.hid (Blk.grown (Blk.alloc Hkk222.out _) hg23 (by intro e; injection e with e; omega))
              clear Hkk222
              have Hk123 := Lib.hid (Blk.grown Hkk122.out hg23 (by intro e; injection e with e; omega))
              clear Hkk122
              clear hg23
              clear Hrd22
              have Hrd23 := Lib.hid hr23; clear hr23
              have hgl23 : g < w23.heap.size := (Hrd23.out).lt
              go_simp
              refine hK.out _ _ (by exact (Hjx23.out).1) (fun hS => ?_)
              clear hK K
              refine wpAnyH_ready (rs := [7, 19]) (by kernel_rfl) (by simp) ?_
              refine AllReadyH.cons rfl (fun K hK => ?_) (AllReadyH.cons rfl (fun K hK => ?_) (AllReadyH.nil))
              · go_simp
                go_wp2_with fail
                refine (one_in g (q + 1 + 1 + 1) _ [0, 1] (0) 1 2 2 _ _ Hrd23.out (by omega) Hk223.out (by omega) rfl rfl (by omega) (by omega) (by decide)).mono ?_
                rintro e w24 ⟨z2, rfl, z20, z21, hr24, hg24⟩
                have HG24 := Lib.hid (grown_trans HG23.out hg24)
                clear HG23
                have Hown24 := Lib.hid (World.ownsRow.kept Hown23.out hg24 (apart_of (fun j hj e => by have := (World.ownsRow.lt Hown23.out j hj).1; injection e with e; omega)))
                clear Hown23
                have Hjx24 := Lib.hid (CF.grown Hjx23.out hg24 (by intro e; injection e with e; omega))
                clear Hjx23
                have Hk224 := Lib.hid (Blk.grown Hk223.out hg24 (by intro e; injection e with e; omega))
                clear Hk223
                clear hg24
                clear Hrd23
                have Hrd24 := Lib.hid hr24; clear hr24
                have hgl24 : g < w24.heap.size := (Hrd24.out).lt
                go_simp
                refine hK.out _ _ (by exact (Hjx24.out).1) (fun hS => ?_)
                clear hK K
                refine wpAnyH_ready (rs := [19]) (by kernel_rfl) (by simp) ?_
                refine AllReadyH.cons rfl (fun K hK => ?_) (AllReadyH.nil)
                go_simp
                have Hkk324 := Lib.hid (Blk.new' (w := w24) (t := 3) (cs := #[.int .i64 0, .int .i64 181, .int .i64 (-1)]) (b := w24.heap.size) (by (try simp)))
                refine hK.out _ _ (by exact ((CF.up Hjx24.out _)).1) (fun hS => ?_)
                clear hK K
                refine wpAnyH_ready (rs := [20]) (by kernel_rfl) (by simp) ?_
                refine AllReadyH.cons rfl (fun K hK => ?_) (AllReadyH.nil)
                go_simp
                go_wp2_with fail
                refine (one_in g (q + 1 + 1 + 1 + 1) _ [0, 181, -1] (-1) 181 3 3 _ _ (Rd.alloc Hrd24.out _) (by omega) Hkk324.out (by omega) rfl rfl (by omega) (by omega) (by decide)).mono ?_
                rintro e w25 ⟨z3, rfl, z30, z31, hr25, hg25⟩
                have HG25 := Lib.hid (grown_trans (grown_alloc HG24.out _) hg25)
                clear HG24
                have Hown25 := Lib.hid (World.ownsRow.kept (World.ownsRow.alloc Hown24.out _) hg25 (apart_of (fun j hj e => by have := (World.ownsRow.lt Hown24.out j hj).1; injection e with e; omega)))
                clear Hown24
                have Hjx25 := Lib.hid (CF.grown (CF.up Hjx24.out _) hg25 (by intro e; injection e with e; omega))
                clear Hjx24
                have Hk325 := Lib.hid (Blk.grown Hkk324.out hg25 (by intro e; injection e with e; omega))
                clear Hkk324
                clear hg25
                clear Hrd24
                have Hrd25 := Lib.hid hr25; clear hr25
                have hgl25 : g < w25.heap.size := (Hrd25.out).lt
                go_simp
                refine hK.out _ _ (by exact (Hjx25.out).1) (fun hS => ?_)
                clear hK K
                refine take_at 21 93 (v := ?_) rfl rfl (by kernel_rfl) (by kernel_rfl) (by kernel_rfl) (fun _ _ _ h => h) (by rfl) ?_ hS ?_
                rotate_left 1
                · (intro w hSw; (try dsimp only at hSw); (try go_split_ands); go_simp; try with_reducible rfl)
                simp only [List.setIfInBounds_toArray, List.set_cons_zero, List.set_cons_succ]
                refine wpAnyH_ready (rs := [23]) (by kernel_rfl) (by simp) ?_
                refine AllReadyH.cons rfl (fun K hK => ?_) (AllReadyH.nil)
                go_simp
                go_wp2_with fail
                refine (pick_any g (q + 1 + 1 + 1 + 1 + 1) (2) _ Hrd25.out (by omega)).mono ?_
                rintro e w26 ⟨z4, rfl, z40, z41, hr26, hg26⟩
                have z42 := z41 (by omega)
                clear z41
                have HG26 := Lib.hid (grown_trans HG25.out hg26)
                clear HG25
                have Hown26 := Lib.hid (World.ownsRow.kept Hown25.out hg26 (apart_of (fun j hj e => by have := (World.ownsRow.lt Hown25.out j hj).1; injection e with e; omega)))
                clear Hown25
                have Hjx26 := Lib.hid (CF.grown Hjx25.out hg26 (by intro e; injection e with e; omega))
                clear Hjx25
                clear hg26
                clear Hrd25
                have Hrd26 := Lib.hid hr26; clear hr26
                have hgl26 : g < w26.heap.size := (Hrd26.out).lt
                go_simp
                refine hK.out _ _ (by exact (Hjx26.out).1) (fun hS => ?_)
                clear hK K
                refine take_at 24 96 (v := ?_) rfl rfl (by kernel_rfl) (by kernel_rfl) (by kernel_rfl) (fun _ _ _ h => h) (by rfl) ?_ hS ?_
                rotate_left 1
                · (intro w hSw; (try dsimp only at hSw); (try go_split_ands); go_simp; try with_reducible rfl)
                simp only [List.setIfInBounds_toArray, List.set_cons_zero, List.set_cons_succ]
                refine take_at 25 97 (v := ?_) rfl rfl (by kernel_rfl) (by kernel_rfl) (by kernel_rfl) (fun _ _ _ h => h) (by rfl) ?_ hS ?_
                rotate_left 1
                · (intro w hSw; (try dsimp only at hSw); (try go_split_ands); go_simp; try with_reducible rfl)
                simp only [List.setIfInBounds_toArray, List.set_cons_zero, List.set_cons_succ]
                refine take_at 26 98 (v := ?_) rfl rfl (by kernel_rfl) (by kernel_rfl) (by kernel_rfl) (fun _ _ _ h => h) (by rfl) ?_ hS ?_
                rotate_left 1
                · (intro w hSw; (try dsimp only at hSw); (try go_split_ands); go_simp; try with_reducible rfl)
                simp only [List.setIfInBounds_toArray, List.set_cons_zero, List.set_cons_succ]
                refine wpAnyH_ready (rs := [27]) (by kernel_rfl) (by simp) ?_
                refine AllReadyH.cons rfl (fun K hK => ?_) (AllReadyH.nil)
                go_simp
                obtain ⟨gz, cgz, evgz, hbgz, hltgz, hlegz, hmxgz, hcellgz, hfreegz, htheregz⟩ := own_at journeyCells 5 (fun _ => rfl) Hown26.out (show 0 < ys.length by omega)
                have Hcellgz := Lib.hid hcellgz; clear hcellgz
                have Hfreegz := Lib.hid hfreegz; clear hfreegz
                have Htheregz := Lib.hid htheregz; clear htheregz
                injection evgz with e1 e2 e3
                injection e1 with e1
                injection e1 with e1
                subst e1
                clear e2 e3
                obtain ⟨u0, p0⟩ : ∃ u, w26.cell? ⟨gb, ki * 5, none⟩ = some u := Htheregz.out _ (by omega)
                have f0 : w26.frozen? ⟨gb, ki * 5, none⟩ = false := Hfreegz.out _
                obtain ⟨u1, p1⟩ : ∃ u, w26.cell? ⟨gb, ki * 5 + 1, none⟩ = some u := Htheregz.out _ (by omega)
                have f1 : w26.frozen? ⟨gb, ki * 5 + 1, none⟩ = false := Hfreegz.out _
                obtain ⟨u2, p2⟩ : ∃ u, w26.cell? ⟨gb, ki * 5 + 2, none⟩ = some u := Htheregz.out _ (by omega)
                have f2 : w26.frozen? ⟨gb, ki * 5 + 2, none⟩ = false := Hfreegz.out _
                obtain ⟨u3, p3⟩ : ∃ u, w26.cell? ⟨gb, ki * 5 + 3, none⟩ = some u := Htheregz.out _ (by omega)
                have f3 : w26.frozen? ⟨gb, ki * 5 + 3, none⟩ = false := Hfreegz.out _
                obtain ⟨u4, p4⟩ : ∃ u, w26.cell? ⟨gb, ki * 5 + 4, none⟩ = some u := Htheregz.out _ (by omega)
                have f4 : w26.frozen? ⟨gb, ki * 5 + 4, none⟩ = false := Hfreegz.out _
                clear Hcellgz Hfreegz Htheregz
                have h1 : OwnJourneys (w26.setCells gb (ki * 5) [.int .i64 z1, .int .i64 z2, .int .i64 x.x, .int .i64 (IntKind.i64.wrap (x.x + z3)), .bool (z4 == 0)]) w.heap.size (.slice (some ⟨gb, 0, none⟩) ys.length cv) (ys.set ki ⟨z1, z2, x.x, IntKind.i64.wrap (x.x + z3), (z4 == 0)⟩) := by
                  unfold OwnJourneys
                  rw [List.length_set]
                  exact own_store journeyCells 5 (fun _ => rfl) (by omega) (x := ⟨z1, z2, x.x, IntKind.i64.wrap (x.x + z3), (z4 == 0)⟩) (i := ki) Hown26.out hki
                have h3 : Rd (w26.setCells gb (ki * 5) [.int .i64 z1, .int .i64 z2, .int .i64 x.x, .int .i64 (IntKind.i64.wrap (x.x + z3)), .bool (z4 == 0)]) g (q + 1 + 1 + 1 + 1 + 1 + 1) := Rd.setCells Hrd26.out (show g < gb by omega) [.int .i64 z1, .int .i64 z2, .int .i64 x.x, .int .i64 (IntKind.i64.wrap (x.x + z3)), .bool (z4 == 0)] _
                have h4 : w.grownBy (w26.setCells gb (ki * 5) [.int .i64 z1, .int .i64 z2, .int .i64 x.x, .int .i64 (IntKind.i64.wrap (x.x + z3)), .bool (z4 == 0)]) (some g) := grown_cells (show w.heap.size ≤ gb by omega) [.int .i64 z1, .int .i64 z2, .int .i64 x.x, .int .i64 (IntKind.i64.wrap (x.x + z3)), .bool (z4 == 0)] _ _ HG26.out
                have h5 : (w26.setCells gb (ki * 5) [.int .i64 z1, .int .i64 z2, .int .i64 x.x, .int .i64 (IntKind.i64.wrap (x.x + z3)), .bool (z4 == 0)]).cell? ⟨gb, ki * 5 + 2, none⟩ = some (.int .i64 x.x) := cell_of_cells [.int .i64 z1, .int .i64 z2, .int .i64 x.x, .int .i64 (IntKind.i64.wrap (x.x + z3)), .bool (z4 == 0)] _ (ki * 5) 2 _ rfl ⟨_, p2⟩
                have H1 := Lib.hid h1; clear h1
                have H3 := Lib.hid h3; clear h3
                have H4 := Lib.hid h4; clear h4
                have H5 := Lib.hid h5; clear h5
                go_simp
                refine hK.out _ _ (by exact H5.out) (fun hS => ?_)
                clear hK K
                refine wpAnyH_done (by kernel_rfl) ?_ _
                go_wp2
                go_ret
                exact ⟨_, ys.set ki ⟨z1, z2, x.x, IntKind.i64.wrap (x.x + z3), (z4 == 0)⟩, _, rfl, H1.out, by rw [List.length_set]; exact hlen, (fun j hj => by
                    rcases List.mem_or_eq_of_mem_set hj with h | h
                    · exact Hsm.out j h
                    · subst h; unfold jourSmall; dsimp only; rw [IntWalk.i64_in (x.x + z3) (by omega)]; omega), by omega, H3.out, H4.out⟩
              · go_simp
                have Hkk323 := Lib.hid (Blk.new' (w := w23) (t := 3) (cs := #[.int .i64 0, .int .i64 181, .int .i64 (-1)]) (b := w23.heap.size) (by (try simp)))
                refine hK.out _ _ (by exact ((CF.up Hjx23.out _)).1) (fun hS => ?_)
                clear hK K
                refine wpAnyH_ready (rs := [7]) (by kernel_rfl) (by simp) ?_
                refine AllReadyH.cons rfl (fun K hK => ?_) (AllReadyH.nil)
                go_simp
                go_wp2_with fail
                refine (one_in g (q + 1 + 1 + 1) _ [0, 1] (0) 1 2 2 _ _ (Rd.alloc Hrd23.out _) (by omega) (Blk.alloc Hk223.out _) (by omega) rfl rfl (by omega) (by omega) (by decide)).mono ?_
                rintro e w24 ⟨z2, rfl, z20, z21, hr24, hg24⟩
                have HG24 := Lib.hid (grown_trans (grown_alloc HG23.out _) hg24)
                clear HG23
                have Hown24 := Lib.hid (World.ownsRow.kept (World.ownsRow.alloc Hown23.out _) hg24 (apart_of (fun j hj e => by have := (World.ownsRow.lt Hown23.out j hj).1; injection e with e; omega)))
                clear Hown23
                have Hjx24 := Lib.hid (CF.grown (CF.up Hjx23.out _) hg24 (by intro e; injection e with e; omega))
                clear Hjx23
                have Hk224 := Lib.hid (Blk.grown (Blk.alloc Hk223.out _) hg24 (by intro e; injection e with e; omega))
                clear Hk223
                have Hk324 := Lib.hid (Blk.grown Hkk323.out hg24 (by intro e; injection e with e; omega))
                clear Hkk323
                clear hg24
                clear Hrd23
                have Hrd24 := Lib.hid hr24; clear hr24
                have hgl24 : g < w24.heap.size := (Hrd24.out).lt
                go_simp
                refine hK.out _ _ (by exact (Hjx24.out).1) (fun hS => ?_)
                clear hK K
                refine wpAnyH_ready (rs := [20]) (by kernel_rfl) (by simp) ?_
                refine AllReadyH.cons rfl (fun K hK => ?_) (AllReadyH.nil)
                go_simp
                go_wp2_with fail
                refine (one_in g (q + 1 + 1 + 1 + 1) _ [0, 181, -1] (-1) 181 3 3 _ _ Hrd24.out (by omega) Hk324.out (by omega) rfl rfl (by omega) (by omega) (by decide)).mono ?_
                rintro e w25 ⟨z3, rfl, z30, z31, hr25, hg25⟩
                have HG25 := Lib.hid (grown_trans HG24.out hg25)
                clear HG24
                have Hown25 := Lib.hid (World.ownsRow.kept Hown24.out hg25 (apart_of (fun j hj e => by have := (World.ownsRow.lt Hown24.out j hj).1; injection e with e; omega)))
                clear Hown24
                have Hjx25 := Lib.hid (CF.grown Hjx24.out hg25 (by intro e; injection e with e; omega))
                clear Hjx24
                have Hk325 := Lib.hid (Blk.grown Hk324.out hg25 (by intro e; injection e with e; omega))
                clear Hk324
                clear hg25
                clear Hrd24
                have Hrd25 := Lib.hid hr25; clear hr25
                have hgl25 : g < w25.heap.size := (Hrd25.out).lt
                go_simp
                refine hK.out _ _ (by exact (Hjx25.out).1) (fun hS => ?_)
                clear hK K
                refine take_at 21 93 (v := ?_) rfl rfl (by kernel_rfl) (by kernel_rfl) (by kernel_rfl) (fun _ _ _ h => h) (by rfl) ?_ hS ?_
                rotate_left 1
                · (intro w hSw; (try dsimp only at hSw); (try go_split_ands); go_simp; try with_reducible rfl)
                simp only [List.setIfInBounds_toArray, List.set_cons_zero, List.set_cons_succ]
                refine wpAnyH_ready (rs := [23]) (by kernel_rfl) (by simp) ?_
                refine AllReadyH.cons rfl (fun K hK => ?_) (AllReadyH.nil)
                go_simp
                go_wp2_with fail
                refine (pick_any g (q + 1 + 1 + 1 + 1 + 1) (2) _ Hrd25.out (by omega)).mono ?_
                rintro e w26 ⟨z4, rfl, z40, z41, hr26, hg26⟩
                have z42 := z41 (by omega)
                clear z41
                have HG26 := Lib.hid (grown_trans HG25.out hg26)
                clear HG25
                have Hown26 := Lib.hid (World.ownsRow.kept Hown25.out hg26 (apart_of (fun j hj e => by have := (World.ownsRow.lt Hown25.out j hj).1; injection e with e; omega)))
                clear Hown25
                have Hjx26 := Lib.hid (CF.grown Hjx25.out hg26 (by intro e; injection e with e; omega))
                clear Hjx25
                clear hg26
                clear Hrd25
                have Hrd26 := Lib.hid hr26; clear hr26
                have hgl26 : g < w26.heap.size := (Hrd26.out).lt
                go_simp
                refine hK.out _ _ (by exact (Hjx26.out).1) (fun hS => ?_)
                clear hK K
                refine take_at 24 96 (v := ?_) rfl rfl (by kernel_rfl) (by kernel_rfl) (by kernel_rfl) (fun _ _ _ h => h) (by rfl) ?_ hS ?_
                rotate_left 1
                · (intro w hSw; (try dsimp only at hSw); (try go_split_ands); go_simp; try with_reducible rfl)
                simp only [List.setIfInBounds_toArray, List.set_cons_zero, List.set_cons_succ]
                refine take_at 25 97 (v := ?_) rfl rfl (by kernel_rfl) (by kernel_rfl) (by kernel_rfl) (fun _ _ _ h => h) (by rfl) ?_ hS ?_
                rotate_left 1
                · (intro w hSw; (try dsimp only at hSw); (try go_split_ands); go_simp; try with_reducible rfl)
                simp only [List.setIfInBounds_toArray, List.set_cons_zero, List.set_cons_succ]
                refine take_at 26 98 (v := ?_) rfl rfl (by kernel_rfl) (by kernel_rfl) (by kernel_rfl) (fun _ _ _ h => h) (by rfl) ?_ hS ?_
                rotate_left 1
                · (intro w hSw; (try dsimp only at hSw); (try go_split_ands); go_simp; try with_reducible rfl)
                simp only [List.setIfInBounds_toArray, List.set_cons_zero, List.set_cons_succ]
                refine wpAnyH_ready (rs := [27]) (by kernel_rfl) (by simp) ?_
                refine AllReadyH.cons rfl (fun K hK => ?_) (AllReadyH.nil)
                go_simp
                obtain ⟨gz, cgz, evgz, hbgz, hltgz, hlegz, hmxgz, hcellgz, hfreegz, htheregz⟩ := own_at journeyCells 5 (fun _ => rfl) Hown26.out (show 0 < ys.length by omega)
                have Hcellgz := Lib.hid hcellgz; clear hcellgz
                have Hfreegz := Lib.hid hfreegz; clear hfreegz
                have Htheregz := Lib.hid htheregz; clear htheregz
                injection evgz with e1 e2 e3
                injection e1 with e1
                injection e1 with e1
                subst e1
                clear e2 e3
                obtain ⟨u0, p0⟩ : ∃ u, w26.cell? ⟨gb, ki * 5, none⟩ = some u := Htheregz.out _ (by omega)
                have f0 : w26.frozen? ⟨gb, ki * 5, none⟩ = false := Hfreegz.out _
                obtain ⟨u1, p1⟩ : ∃ u, w26.cell? ⟨gb, ki * 5 + 1, none⟩ = some u := Htheregz.out _ (by omega)
                have f1 : w26.frozen? ⟨gb, ki * 5 + 1, none⟩ = false := Hfreegz.out _
                obtain ⟨u2, p2⟩ : ∃ u, w26.cell? ⟨gb, ki * 5 + 2, none⟩ = some u := Htheregz.out _ (by omega)
                have f2 : w26.frozen? ⟨gb, ki * 5 + 2, none⟩ = false := Hfreegz.out _
                obtain ⟨u3, p3⟩ : ∃ u, w26.cell? ⟨gb, ki * 5 + 3, none⟩ = some u := Htheregz.out _ (by omega)
                have f3 : w26.frozen? ⟨gb, ki * 5 + 3, none⟩ = false := Hfreegz.out _
                obtain ⟨u4, p4⟩ : ∃ u, w26.cell? ⟨gb, ki * 5 + 4, none⟩ = some u := Htheregz.out _ (by omega)
                have f4 : w26.frozen? ⟨gb, ki * 5 + 4, none⟩ = false := Hfreegz.out _
                clear Hcellgz Hfreegz Htheregz
                have h1 : OwnJourneys (w26.setCells gb (ki * 5) [.int .i64 z1, .int .i64 z2, .int .i64 x.x, .int .i64 (IntKind.i64.wrap (x.x + z3)), .bool (z4 == 0)]) w.heap.size (.slice (some ⟨gb, 0, none⟩) ys.length cv) (ys.set ki ⟨z1, z2, x.x, IntKind.i64.wrap (x.x + z3), (z4 == 0)⟩) := by
                  unfold OwnJourneys
                  rw [List.length_set]
                  exact own_store journeyCells 5 (fun _ => rfl) (by omega) (x := ⟨z1, z2, x.x, IntKind.i64.wrap (x.x + z3), (z4 == 0)⟩) (i := ki) Hown26.out hki
                have h3 : Rd (w26.setCells gb (ki * 5) [.int .i64 z1, .int .i64 z2, .int .i64 x.x, .int .i64 (IntKind.i64.wrap (x.x + z3)), .bool (z4 == 0)]) g (q + 1 + 1 + 1 + 1 + 1 + 1) := Rd.setCells Hrd26.out (show g < gb by omega) [.int .i64 z1, .int .i64 z2, .int .i64 x.x, .int .i64 (IntKind.i64.wrap (x.x + z3)), .bool (z4 == 0)] _
                have h4 : w.grownBy (w26.setCells gb (ki * 5) [.int .i64 z1, .int .i64 z2, .int .i64 x.x, .int .i64 (IntKind.i64.wrap (x.x + z3)), .bool (z4 == 0)]) (some g) := grown_cells (show w.heap.size ≤ gb by omega) [.int .i64 z1, .int .i64 z2, .int .i64 x.x, .int .i64 (IntKind.i64.wrap (x.x + z3)), .bool (z4 == 0)] _ _ HG26.out
                have h5 : (w26.setCells gb (ki * 5) [.int .i64 z1, .int .i64 z2, .int .i64 x.x, .int .i64 (IntKind.i64.wrap (x.x + z3)), .bool (z4 == 0)]).cell? ⟨gb, ki * 5 + 2, none⟩ = some (.int .i64 x.x) := cell_of_cells [.int .i64 z1, .int .i64 z2, .int .i64 x.x, .int .i64 (IntKind.i64.wrap (x.x + z3)), .bool (z4 == 0)] _ (ki * 5) 2 _ rfl ⟨_, p2⟩
                have H1 := Lib.hid h1; clear h1
                have H3 := Lib.hid h3; clear h3
                have H4 := Lib.hid h4; clear h4
                have H5 := Lib.hid h5; clear h5
                go_simp
                refine hK.out _ _ (by exact H5.out) (fun hS => ?_)
                clear hK K
                refine wpAnyH_done (by kernel_rfl) ?_ _
                go_wp2
                go_ret
                exact ⟨_, ys.set ki ⟨z1, z2, x.x, IntKind.i64.wrap (x.x + z3), (z4 == 0)⟩, _, rfl, H1.out, by rw [List.length_set]; exact hlen, (fun j hj => by
                    rcases List.mem_or_eq_of_mem_set hj with h | h
                    · exact Hsm.out j h
                    · subst h; unfold jourSmall; dsimp only; rw [IntWalk.i64_in (x.x + z3) (by omega)]; omega), by omega, H3.out, H4.out⟩
            · go_simp
              have Hkk322 := Lib.hid (Blk.new' (w := ((w22.drew.alloc (.cells #[.int .i64 0, .int .i64 1] 3)).alloc (.cells #[.int .i64 (-1), .int .i64 0, .int .i64 10] 3))) (t := 3) (cs := #[.int .i64 0, .int .i64 181, .int .i64 (-1)]) (b := w22.heap.size + 1 + 1) (by (try simp)))
              refine hK.out _ _ (by exact ((CF.up (CF.up (CF.up (CF.drew Hcf.out) _) _) _)).1) (fun hS => ?_)
              clear hK K
              refine wpAnyH_ready (rs := [4]) (by kernel_rfl) (by simp) ?_
              refine AllReadyH.cons rfl (fun K hK => ?_) (AllReadyH.nil)
              go_simp
              go_wp2_with fail
              refine (one_in g (q + 1 + 1) _ [-1, 0, 10] (-1) 10 3 3 _ _ (Rd.alloc (Rd.alloc (Rd.alloc (Rd.drew Hrd22.out) _) _) _) (by omega) (Blk.alloc Hkk122.out _) (by omega) rfl rfl (by omega) (by omega) (by decide)).mono ?_
              rintro e w23 ⟨z1, rfl, z10, z11, hr23, hg23⟩
              have HG23 := Lib.hid (grown_trans (grown_alloc (grown_alloc (grown_alloc (grownDrew HG22.out) _) _) _) hg23)
              clear HG22
              have Hown23 := Lib.hid (World.ownsRow.kept (World.ownsRow.alloc (World.ownsRow.alloc (World.ownsRow.alloc (ownDrew Hown22.out) _) _) _) hg23 (apart_of (fun j hj e => by have := (World.ownsRow.lt Hown22.out j hj).1; injection e with e; omega)))
              clear Hown22
              have Hjx23 := Lib.hid (CF.grown (CF.up (CF.up (CF.up (CF.drew Hcf.out) _) _) _) hg23 (by intro e; injection e with e; omega))
              clear Hcf
              have Hk223 := Lib.hid (Blk.grown (Blk.alloc (Blk.alloc Hkk222.out _) _) hg23 (by intro e; injection e with e; omega))
              clear Hkk222
              have Hk123 := Lib.hid (Blk.grown (Blk.alloc Hkk122.out _) hg23 (by intro e; injection e with e; omega))
              clear Hkk122
              have Hk323 := Lib.hid (Blk.grown Hkk322.out hg23 (by intro e; injection e with e; omega))
              clear Hkk322
              clear hg23
              clear Hrd22
              have Hrd23 := Lib.hid hr23; clear hr23
              have hgl23 : g < w23.heap.size := (Hrd23.out).lt
              go_simp
              refine hK.out _ _ (by exact (Hjx23.out).1) (fun hS => ?_)
              clear hK K
              refine wpAnyH_ready (rs := [7]) (by kernel_rfl) (by simp) ?_
              refine AllReadyH.cons rfl (fun K hK => ?_) (AllReadyH.nil)
              go_simp
              go_wp2_with fail
              refine (one_in g (q + 1 + 1 + 1) _ [0, 1] (0) 1 2 2 _ _ Hrd23.out (by omega) Hk223.out (by omega) rfl rfl (by omega) (by omega) (by decide)).mono ?_
              rintro e w24 ⟨z2, rfl, z20, z21, hr24, hg24⟩
              have HG24 := Lib.hid (grown_trans HG23.out hg24)
              clear HG23
              have Hown24 := Lib.hid (World.ownsRow.kept Hown23.out hg24 (apart_of (fun j hj e => by have := (World.ownsRow.lt Hown23.out j hj).1; injection e with e; omega)))
              clear Hown23
              have Hjx24 := Lib.hid (CF.grown Hjx23.out hg24 (by intro e; injection e with e; omega))
              clear Hjx23
              have Hk224 := Lib.hid (Blk.grown Hk223.out hg24 (by intro e; injection e with e; omega))
              clear Hk223
              have Hk324 := Lib.hid (Blk.grown Hk323.out hg24 (by intro e; injection e with e; omega))
              clear Hk323
              clear hg24
              clear Hrd23
              have Hrd24 := Lib.hid hr24; clear hr24
              have hgl24 : g < w24.heap.size := (Hrd24.out).lt
              go_simp
              refine hK.out _ _ (by exact (Hjx24.out).1) (fun hS => ?_)
              clear hK K
              refine wpAnyH_ready (rs := [20]) (by kernel_rfl) (by simp) ?_
              refine AllReadyH.cons rfl (fun K hK => ?_) (AllReadyH.nil)
              go_simp
              go_wp2_with fail
              refine (one_in g (q + 1 + 1 + 1 + 1) _ [0, 181, -1] (-1) 181 3 3 _ _ Hrd24.out (by omega) Hk324.out (by omega) rfl rfl (by omega) (by omega) (by decide)).mono ?_
              rintro e w25 ⟨z3, rfl, z30, z31, hr25, hg25⟩
              have HG25 := Lib.hid (grown_trans HG24.out hg25)
              clear HG24
              have Hown25 := Lib.hid (World.ownsRow.kept Hown24.out hg25 (apart_of (fun j hj e => by have := (World.ownsRow.lt Hown24.out j hj).1; injection e with e; omega)))
              clear Hown24
              have Hjx25 := Lib.hid (CF.grown Hjx24.out hg25 (by intro e; injection e with e; omega))
              clear Hjx24
              have Hk325 := Lib.hid (Blk.grown Hk324.out hg25 (by intro e; injection e with e; omega))
              clear Hk324
              clear hg25
              clear Hrd24
              have Hrd25 := Lib.hid hr25; clear hr25
              have hgl25 : g < w25.heap.size := (Hrd25.out).lt
              go_simp
              refine hK.out _ _ (by exact (Hjx25.out).1) (fun hS => ?_)
              clear hK K
              refine take_at 21 93 (v := ?_) rfl rfl (by kernel_rfl) (by kernel_rfl) (by kernel_rfl) (fun _ _ _ h => h) (by rfl) ?_ hS ?_
              rotate_left 1
              · (intro w hSw; (try dsimp only at hSw); (try go_split_ands); go_simp; try with_reducible rfl)
              simp only [List.setIfInBounds_toArray, List.set_cons_zero, List.set_cons_succ]
              refine wpAnyH_ready (rs := [23]) (by kernel_rfl) (by simp) ?_
              refine AllReadyH.cons rfl (fun K hK => ?_) (AllReadyH.nil)
              go_simp
              go_wp2_with fail
              refine (pick_any g (q + 1 + 1 + 1 + 1 + 1) (2) _ Hrd25.out (by omega)).mono ?_
              rintro e w26 ⟨z4, rfl, z40, z41, hr26, hg26⟩
              have z42 := z41 (by omega)
              clear z41
              have HG26 := Lib.hid (grown_trans HG25.out hg26)
              clear HG25
              have Hown26 := Lib.hid (World.ownsRow.kept Hown25.out hg26 (apart_of (fun j hj e => by have := (World.ownsRow.lt Hown25.out j hj).1; injection e with e; omega)))
              clear Hown25
              have Hjx26 := Lib.hid (CF.grown Hjx25.out hg26 (by intro e; injection e with e; omega))
              clear Hjx25
              clear hg26
              clear Hrd25
              have Hrd26 := Lib.hid hr26; clear hr26
              have hgl26 : g < w26.heap.size := (Hrd26.out).lt
              go_simp
              refine hK.out _ _ (by exact (Hjx26.out).1) (fun hS => ?_)
              clear hK K
              refine take_at 24 96 (v := ?_) rfl rfl (by kernel_rfl) (by kernel_rfl) (by kernel_rfl) (fun _ _ _ h => h) (by rfl) ?_ hS ?_
              rotate_left 1
              · (intro w hSw; (try dsimp only at hSw); (try go_split_ands); go_simp; try with_reducible rfl)
              simp only [List.setIfInBounds_toArray, List.set_cons_zero, List.set_cons_succ]
              refine take_at 25 97 (v := ?_) rfl rfl (by kernel_rfl) (by kernel_rfl) (by kernel_rfl) (fun _ _ _ h => h) (by rfl) ?_ hS ?_
              rotate_left 1
              · (intro w hSw; (try dsimp only at hSw); (try go_split_ands); go_simp; try with_reducible rfl)
              simp only [List.setIfInBounds_toArray, List.set_cons_zero, List.set_cons_succ]
              refine take_at 26 98 (v := ?_) rfl rfl (by kernel_rfl) (by kernel_rfl) (by kernel_rfl) (fun _ _ _ h => h) (by rfl) ?_ hS ?_
              rotate_left 1
              · (intro w hSw; (try dsimp only at hSw); (try go_split_ands); go_simp; try with_reducible rfl)
              simp only [List.setIfInBounds_toArray, List.set_cons_zero, List.set_cons_succ]
              refine wpAnyH_ready (rs := [27]) (by kernel_rfl) (by simp) ?_
              refine AllReadyH.cons rfl (fun K hK => ?_) (AllReadyH.nil)
              go_simp
              obtain ⟨gz, cgz, evgz, hbgz, hltgz, hlegz, hmxgz, hcellgz, hfreegz, htheregz⟩ := own_at journeyCells 5 (fun _ => rfl) Hown26.out (show 0 < ys.length by omega)
              have Hcellgz := Lib.hid hcellgz; clear hcellgz
              have Hfreegz := Lib.hid hfreegz; clear hfreegz
              have Htheregz := Lib.hid htheregz; clear htheregz
              injection evgz with e1 e2 e3
              injection e1 with e1
              injection e1 with e1
              subst e1
              clear e2 e3
              obtain ⟨u0, p0⟩ : ∃ u, w26.cell? ⟨gb, ki * 5, none⟩ = some u := Htheregz.out _ (by omega)
              have f0 : w26.frozen? ⟨gb, ki * 5, none⟩ = false := Hfreegz.out _
              obtain ⟨u1, p1⟩ : ∃ u, w26.cell? ⟨gb, ki * 5 + 1, none⟩ = some u := Htheregz.out _ (by omega)
              have f1 : w26.frozen? ⟨gb, ki * 5 + 1, none⟩ = false := Hfreegz.out _
              obtain ⟨u2, p2⟩ : ∃ u, w26.cell? ⟨gb, ki * 5 + 2, none⟩ = some u := Htheregz.out _ (by omega)
              have f2 : w26.frozen? ⟨gb, ki * 5 + 2, none⟩ = false := Hfreegz.out _
              obtain ⟨u3, p3⟩ : ∃ u, w26.cell? ⟨gb, ki * 5 + 3, none⟩ = some u := Htheregz.out _ (by omega)
              have f3 : w26.frozen? ⟨gb, ki * 5 + 3, none⟩ = false := Hfreegz.out _
              obtain ⟨u4, p4⟩ : ∃ u, w26.cell? ⟨gb, ki * 5 + 4, none⟩ = some u := Htheregz.out _ (by omega)
              have f4 : w26.frozen? ⟨gb, ki * 5 + 4, none⟩ = false := Hfreegz.out _
              clear Hcellgz Hfreegz Htheregz
              have h1 : OwnJourneys (w26.setCells gb (ki * 5) [.int .i64 z1, .int .i64 z2, .int .i64 x.x, .int .i64 (IntKind.i64.wrap (x.x + z3)), .bool (z4 == 0)]) w.heap.size (.slice (some ⟨gb, 0, none⟩) ys.length cv) (ys.set ki ⟨z1, z2, x.x, IntKind.i64.wrap (x.x + z3), (z4 == 0)⟩) := by
                unfold OwnJourneys
                rw [List.length_set]
                exact own_store journeyCells 5 (fun _ => rfl) (by omega) (x := ⟨z1, z2, x.x, IntKind.i64.wrap (x.x + z3), (z4 == 0)⟩) (i := ki) Hown26.out hki
              have h3 : Rd (w26.setCells gb (ki * 5) [.int .i64 z1, .int .i64 z2, .int .i64 x.x, .int .i64 (IntKind.i64.wrap (x.x + z3)), .bool (z4 == 0)]) g (q + 1 + 1 + 1 + 1 + 1 + 1) := Rd.setCells Hrd26.out (show g < gb by omega) [.int .i64 z1, .int .i64 z2, .int .i64 x.x, .int .i64 (IntKind.i64.wrap (x.x + z3)), .bool (z4 == 0)] _
              have h4 : w.grownBy (w26.setCells gb (ki * 5) [.int .i64 z1, .int .i64 z2, .int .i64 x.x, .int .i64 (IntKind.i64.wrap (x.x + z3)), .bool (z4 == 0)]) (some g) := grown_cells (show w.heap.size ≤ gb by omega) [.int .i64 z1, .int .i64 z2, .int .i64 x.x, .int .i64 (IntKind.i64.wrap (x.x + z3)), .bool (z4 == 0)] _ _ HG26.out
              have h5 : (w26.setCells gb (ki * 5) [.int .i64 z1, .int .i64 z2, .int .i64 x.x, .int .i64 (IntKind.i64.wrap (x.x + z3)), .bool (z4 == 0)]).cell? ⟨gb, ki * 5 + 2, none⟩ = some (.int .i64 x.x) := cell_of_cells [.int .i64 z1, .int .i64 z2, .int .i64 x.x, .int .i64 (IntKind.i64.wrap (x.x + z3)), .bool (z4 == 0)] _ (ki * 5) 2 _ rfl ⟨_, p2⟩
              have H1 := Lib.hid h1; clear h1
              have H3 := Lib.hid h3; clear h3
              have H4 := Lib.hid h4; clear h4
              have H5 := Lib.hid h5; clear h5
              go_simp
              refine hK.out _ _ (by exact H5.out) (fun hS => ?_)
              clear hK K
              refine wpAnyH_done (by kernel_rfl) ?_ _
              go_wp2
              go_ret
              exact ⟨_, ys.set ki ⟨z1, z2, x.x, IntKind.i64.wrap (x.x + z3), (z4 == 0)⟩, _, rfl, H1.out, by rw [List.length_set]; exact hlen, (fun j hj => by
                  rcases List.mem_or_eq_of_mem_set hj with h | h
                  · exact Hsm.out j h
                  · subst h; unfold jourSmall; dsimp only; rw [IntWalk.i64_in (x.x + z3) (by omega)]; omega), by omega, H3.out, H4.out⟩
          · go_simp
            have Hkk322 := Lib.hid (Blk.new' (w := (w22.drew.alloc (.cells #[.int .i64 0, .int .i64 1] 3))) (t := 3) (cs := #[.int .i64 0, .int .i64 181, .int .i64 (-1)]) (b := w22.heap.size + 1) (by (try simp)))
            refine hK.out _ _ (by exact ((CF.up (CF.up (CF.drew Hcf.out) _) _)).1) (fun hS => ?_)
            clear hK K
            refine wpAnyH_ready (rs := [3]) (by kernel_rfl) (by simp) ?_
            refine AllReadyH.cons rfl (fun K hK => ?_) (AllReadyH.nil)
            go_simp
            have Hkk122 := Lib.hid (Blk.new' (w := ((w22.drew.alloc (.cells #[.int .i64 0, .int .i64 1] 3)).alloc (.cells #[.int .i64 0, .int .i64 181, .int .i64 (-1)] 3))) (t := 3) (cs := #[.int .i64 (-1), .int .i64 0, .int .i64 10]) (b := w22.heap.size + 1 + 1) (by (try simp)))
            refine hK.out _ _ (by exact ((CF.up (CF.up (CF.up (CF.drew Hcf.out) _) _) _)).1) (fun hS => ?_)
            clear hK K
            refine wpAnyH_ready (rs := [4]) (by kernel_rfl) (by simp) ?_
            refine AllReadyH.cons rfl (fun K hK => ?_) (AllReadyH.nil)
            go_simp
            go_wp2_with fail
            refine (one_in g (q + 1 + 1) _ [-1, 0, 10] (-1) 10 3 3 _ _ (Rd.alloc (Rd.alloc (Rd.alloc (Rd.drew Hrd22.out) _) _) _) (by omega) Hkk122.out (by omega) rfl rfl (by omega) (by omega) (by decide)).mono ?_
            rintro e w23 ⟨z1, rfl, z10, z11, hr23, hg23⟩
            have HG23 := Lib.hid (grown_trans (grown_alloc (grown_alloc (grown_alloc (grownDrew HG22.out) _) _) _) hg23)
            clear HG22
            have Hown23 := Lib.hid (World.ownsRow.kept (World.ownsRow.alloc (World.ownsRow.alloc (World.ownsRow.alloc (ownDrew Hown22.out) _) _) _) hg23 (apart_of (fun j hj e => by have := (World.ownsRow.lt Hown22.out j hj).1; injection e with e; omega)))
            clear Hown22
            have Hjx23 := Lib.hid (CF.grown (CF.up (CF.up (CF.up (CF.drew Hcf.out) _) _) _) hg23 (by intro e; injection e with e; omega))
            clear Hcf
            have Hk223 := Lib.hid (Blk.grown (Blk.alloc (Blk.alloc Hkk222.out _) _) hg23 (by intro e; injection e with e; omega))
            clear Hkk222
            have Hk323 := Lib.hid (Blk.grown (Blk.alloc Hkk322.out _) hg23 (by intro e; injection e with e; omega))
            clear Hkk322
            have Hk123 := Lib.hid (Blk.grown Hkk122.out hg23 (by intro e; injection e with e; omega))
            clear Hkk122
            clear hg23
            clear Hrd22
            have Hrd23 := Lib.hid hr23; clear hr23
            have hgl23 : g < w23.heap.size := (Hrd23.out).lt
            go_simp
            refine hK.out _ _ (by exact (Hjx23.out).1) (fun hS => ?_)
            clear hK K
            refine wpAnyH_ready (rs := [7]) (by kernel_rfl) (by simp) ?_
            refine AllReadyH.cons rfl (fun K hK => ?_) (AllReadyH.nil)
            go_simp
            go_wp2_with fail
            refine (one_in g (q + 1 + 1 + 1) _ [0, 1] (0) 1 2 2 _ _ Hrd23.out (by omega) Hk223.out (by omega) rfl rfl (by omega) (by omega) (by decide)).mono ?_
            rintro e w24 ⟨z2, rfl, z20, z21, hr24, hg24⟩
            have HG24 := Lib.hid (grown_trans HG23.out hg24)
            clear HG23
            have Hown24 := Lib.hid (World.ownsRow.kept Hown23.out hg24 (apart_of (fun j hj e => by have := (World.ownsRow.lt Hown23.out j hj).1; injection e with e; omega)))
            clear Hown23
            have Hjx24 := Lib.hid (CF.grown Hjx23.out hg24 (by intro e; injection e with e; omega))
            clear Hjx23
            have Hk224 := Lib.hid (Blk.grown Hk223.out hg24 (by intro e; injection e with e; omega))
            clear Hk223
            have Hk324 := Lib.hid (Blk.grown Hk323.out hg24 (by intro e; injection e with e; omega))
            clear Hk323
            clear hg24
            clear Hrd23
            have Hrd24 := Lib.hid hr24; clear hr24
            have hgl24 : g < w24.heap.size := (Hrd24.out).lt
            go_simp
            refine hK.out _ _ (by exact (Hjx24.out).1) (fun hS => ?_)
            clear hK K
            refine wpAnyH_ready (rs := [20]) (by kernel_rfl) (by simp) ?_
            refine AllReadyH.cons rfl (fun K hK => ?_) (AllReadyH.nil)
            go_simp
            go_wp2_with fail
            refine (one_in g (q + 1 + 1 + 1 + 1) _ [0, 181, -1] (-1) 181 3 3 _ _ Hrd24.out (by omega) Hk324.out (by omega) rfl rfl (by omega) (by omega) (by decide)).mono ?_
            rintro e w25 ⟨z3, rfl, z30, z31, hr25, hg25⟩
            have HG25 := Lib.hid (grown_trans HG24.out hg25)
            clear HG24
            have Hown25 := Lib.hid (World.ownsRow.kept Hown24.out hg25 (apart_of (fun j hj e => by have := (World.ownsRow.lt Hown24.out j hj).1; injection e with e; omega)))
            clear Hown24
            have Hjx25 := Lib.hid (CF.grown Hjx24.out hg25 (by intro e; injection e with e; omega))
            clear Hjx24
            have Hk325 := Lib.hid (Blk.grown Hk324.out hg25 (by intro e; injection e with e; omega))
            clear Hk324
            clear hg25
            clear Hrd24
            have Hrd25 := Lib.hid hr25; clear hr25
            have hgl25 : g < w25.heap.size := (Hrd25.out).lt
            go_simp
            refine hK.out _ _ (by exact (Hjx25.out).1) (fun hS => ?_)
            clear hK K
            refine take_at 21 93 (v := ?_) rfl rfl (by kernel_rfl) (by kernel_rfl) (by kernel_rfl) (fun _ _ _ h => h) (by rfl) ?_ hS ?_
            rotate_left 1
            · (intro w hSw; (try dsimp only at hSw); (try go_split_ands); go_simp; try with_reducible rfl)
            simp only [List.setIfInBounds_toArray, List.set_cons_zero, List.set_cons_succ]
            refine wpAnyH_ready (rs := [23]) (by kernel_rfl) (by simp) ?_
            refine AllReadyH.cons rfl (fun K hK => ?_) (AllReadyH.nil)
            go_simp
            go_wp2_with fail
            refine (pick_any g (q + 1 + 1 + 1 + 1 + 1) (2) _ Hrd25.out (by omega)).mono ?_
            rintro e w26 ⟨z4, rfl, z40, z41, hr26, hg26⟩
            have z42 := z41 (by omega)
            clear z41
            have HG26 := Lib.hid (grown_trans HG25.out hg26)
            clear HG25
            have Hown26 := Lib.hid (World.ownsRow.kept Hown25.out hg26 (apart_of (fun j hj e => by have := (World.ownsRow.lt Hown25.out j hj).1; injection e with e; omega)))
            clear Hown25
            have Hjx26 := Lib.hid (CF.grown Hjx25.out hg26 (by intro e; injection e with e; omega))
            clear Hjx25
            clear hg26
            clear Hrd25
            have Hrd26 := Lib.hid hr26; clear hr26
            have hgl26 : g < w26.heap.size := (Hrd26.out).lt
            go_simp
            refine hK.out _ _ (by exact (Hjx26.out).1) (fun hS => ?_)
            clear hK K
            refine take_at 24 96 (v := ?_) rfl rfl (by kernel_rfl) (by kernel_rfl) (by kernel_rfl) (fun _ _ _ h => h) (by rfl) ?_ hS ?_
            rotate_left 1
            · (intro w hSw; (try dsimp only at hSw); (try go_split_ands); go_simp; try with_reducible rfl)
            simp only [List.setIfInBounds_toArray, List.set_cons_zero, List.set_cons_succ]
            refine take_at 25 97 (v := ?_) rfl rfl (by kernel_rfl) (by kernel_rfl) (by kernel_rfl) (fun _ _ _ h => h) (by rfl) ?_ hS ?_
            rotate_left 1
            · (intro w hSw; (try dsimp only at hSw); (try go_split_ands); go_simp; try with_reducible rfl)
            simp only [List.setIfInBounds_toArray, List.set_cons_zero, List.set_cons_succ]
            refine take_at 26 98 (v := ?_) rfl rfl (by kernel_rfl) (by kernel_rfl) (by kernel_rfl) (fun _ _ _ h => h) (by rfl) ?_ hS ?_
            rotate_left 1
            · (intro w hSw; (try dsimp only at hSw); (try go_split_ands); go_simp; try with_reducible rfl)
            simp only [List.setIfInBounds_toArray, List.set_cons_zero, List.set_cons_succ]
            refine wpAnyH_ready (rs := [27]) (by kernel_rfl) (by simp) ?_
            refine AllReadyH.cons rfl (fun K hK => ?_) (AllReadyH.nil)
            go_simp
            obtain ⟨gz, cgz, evgz, hbgz, hltgz, hlegz, hmxgz, hcellgz, hfreegz, htheregz⟩ := own_at journeyCells 5 (fun _ => rfl) Hown26.out (show 0 < ys.length by omega)
            have Hcellgz := Lib.hid hcellgz; clear hcellgz
            have Hfreegz := Lib.hid hfreegz; clear hfreegz
            have Htheregz := Lib.hid htheregz; clear htheregz
            injection evgz with e1 e2 e3
            injection e1 with e1
            injection e1 with e1
            subst e1
            clear e2 e3
            obtain ⟨u0, p0⟩ : ∃ u, w26.cell? ⟨gb, ki * 5, none⟩ = some u := Htheregz.out _ (by omega)
            have f0 : w26.frozen? ⟨gb, ki * 5, none⟩ = false := Hfreegz.out _
            obtain ⟨u1, p1⟩ : ∃ u, w26.cell? ⟨gb, ki * 5 + 1, none⟩ = some u := Htheregz.out _ (by omega)
            have f1 : w26.frozen? ⟨gb, ki * 5 + 1, none⟩ = false := Hfreegz.out _
            obtain ⟨u2, p2⟩ : ∃ u, w26.cell? ⟨gb, ki * 5 + 2, none⟩ = some u := Htheregz.out _ (by omega)
            have f2 : w26.frozen? ⟨gb, ki * 5 + 2, none⟩ = false := Hfreegz.out _
            obtain ⟨u3, p3⟩ : ∃ u, w26.cell? ⟨gb, ki * 5 + 3, none⟩ = some u := Htheregz.out _ (by omega)
            have f3 : w26.frozen? ⟨gb, ki * 5 + 3, none⟩ = false := Hfreegz.out _
            obtain ⟨u4, p4⟩ : ∃ u, w26.cell? ⟨gb, ki * 5 + 4, none⟩ = some u := Htheregz.out _ (by omega)
            have f4 : w26.frozen? ⟨gb, ki * 5 + 4, none⟩ = false := Hfreegz.out _
            clear Hcellgz Hfreegz Htheregz
            have h1 : OwnJourneys (w26.setCells gb (ki * 5) [.int .i64 z1, .int .i64 z2, .int .i64 x.x, .int .i64 (IntKind.i64.wrap (x.x + z3)), .bool (z4 == 0)]) w.heap.size (.slice (some ⟨gb, 0, none⟩) ys.length cv) (ys.set ki ⟨z1, z2, x.x, IntKind.i64.wrap (x.x + z3), (z4 == 0)⟩) := by
              unfold OwnJourneys
              rw [List.length_set]
              exact own_store journeyCells 5 (fun _ => rfl) (by omega) (x := ⟨z1, z2, x.x, IntKind.i64.wrap (x.x + z3), (z4 == 0)⟩) (i := ki) Hown26.out hki
            have h3 : Rd (w26.setCells gb (ki * 5) [.int .i64 z1, .int .i64 z2, .int .i64 x.x, .int .i64 (IntKind.i64.wrap (x.x + z3)), .bool (z4 == 0)]) g (q + 1 + 1 + 1 + 1 + 1 + 1) := Rd.setCells Hrd26.out (show g < gb by omega) [.int .i64 z1, .int .i64 z2, .int .i64 x.x, .int .i64 (IntKind.i64.wrap (x.x + z3)), .bool (z4 == 0)] _
            have h4 : w.grownBy (w26.setCells gb (ki * 5) [.int .i64 z1, .int .i64 z2, .int .i64 x.x, .int .i64 (IntKind.i64.wrap (x.x + z3)), .bool (z4 == 0)]) (some g) := grown_cells (show w.heap.size ≤ gb by omega) [.int .i64 z1, .int .i64 z2, .int .i64 x.x, .int .i64 (IntKind.i64.wrap (x.x + z3)), .bool (z4 == 0)] _ _ HG26.out
            have h5 : (w26.setCells gb (ki * 5) [.int .i64 z1, .int .i64 z2, .int .i64 x.x, .int .i64 (IntKind.i64.wrap (x.x + z3)), .bool (z4 == 0)]).cell? ⟨gb, ki * 5 + 2, none⟩ = some (.int .i64 x.x) := cell_of_cells [.int .i64 z1, .int .i64 z2, .int .i64 x.x, .int .i64 (IntKind.i64.wrap (x.x + z3)), .bool (z4 == 0)] _ (ki * 5) 2 _ rfl ⟨_, p2⟩
            have H1 := Lib.hid h1; clear h1
            have H3 := Lib.hid h3; clear h3
            have H4 := Lib.hid h4; clear h4
            have H5 := Lib.hid h5; clear h5
            go_simp
            refine hK.out _ _ (by exact H5.out) (fun hS => ?_)
            clear hK K
            refine wpAnyH_done (by kernel_rfl) ?_ _
            go_wp2
            go_ret
            exact ⟨_, ys.set ki ⟨z1, z2, x.x, IntKind.i64.wrap (x.x + z3), (z4 == 0)⟩, _, rfl, H1.out, by rw [List.length_set]; exact hlen, (fun j hj => by
                rcases List.mem_or_eq_of_mem_set hj with h | h
                · exact Hsm.out j h
                · subst h; unfold jourSmall; dsimp only; rw [IntWalk.i64_in (x.x + z3) (by omega)]; omega), by omega, H3.out, H4.out⟩
        · go_simp
          have Hkk322 := Lib.hid (Blk.new' (w := w22.drew) (t := 3) (cs := #[.int .i64 0, .int .i64 181, .int .i64 (-1)]) (b := w22.heap.size) (by (try simp)))
          refine hK.out _ _ (by exact ((CF.up (CF.drew Hcf.out) _)).1) (fun hS => ?_)
          clear hK K
          refine wpAnyH_ready (rs := [3, 6]) (by kernel_rfl) (by simp) ?_
          refine AllReadyH.cons rfl (fun K hK => ?_) (AllReadyH.cons rfl (fun K hK => ?_) (AllReadyH.nil))
          · go_simp
            have Hkk122 := Lib.hid (Blk.new' (w := (w22.drew.alloc (.cells #[.int .i64 0, .int .i64 181, .int .i64 (-1)] 3))) (t := 3) (cs := #[.int .i64 (-1), .int .i64 0, .int .i64 10]) (b := w22.heap.size + 1) (by (try simp)))
            refine hK.out _ _ (by exact ((CF.up (CF.up (CF.drew Hcf.out) _) _)).1) (fun hS => ?_)
            clear hK K
            refine wpAnyH_ready (rs := [4, 6]) (by kernel_rfl) (by simp) ?_
            refine AllReadyH.cons rfl (fun K hK => ?_) (AllReadyH.cons rfl (fun K hK => ?_) (AllReadyH.nil))
            · go_simp
              go_wp2_with fail
              refine (one_in g (q + 1 + 1) _ [-1, 0, 10] (-1) 10 3 3 _ _ (Rd.alloc (Rd.alloc (Rd.drew Hrd22.out) _) _) (by omega) Hkk122.out (by omega) rfl rfl (by omega) (by omega) (by decide)).mono ?_
              rintro e w23 ⟨z1, rfl, z10, z11, hr23, hg23⟩
              have HG23 := Lib.hid (grown_trans (grown_alloc (grown_alloc (grownDrew HG22.out) _) _) hg23)
              clear HG22
              have Hown23 := Lib.hid (World.ownsRow.kept (World.ownsRow.alloc (World.ownsRow.alloc (ownDrew Hown22.out) _) _) hg23 (apart_of (fun j hj e => by have := (World.ownsRow.lt Hown22.out j hj).1; injection e with e; omega)))
              clear Hown22
              have Hjx23 := Lib.hid (CF.grown (CF.up (CF.up (CF.drew Hcf.out) _) _) hg23 (by intro e; injection e with e; omega))
              clear Hcf
              have Hk323 := Lib.hid (Blk.grown (Blk.alloc Hkk322.out _) hg23 (by intro e; injection e with e; omega))
              clear Hkk322
              have Hk123 := Lib.hid (Blk.grown Hkk122.out hg23 (by intro e; injection e with e; omega))
              clear Hkk122
              clear hg23
              clear Hrd22
              have Hrd23 := Lib.hid hr23; clear hr23
              have hgl23 : g < w23.heap.size := (Hrd23.out).lt
              go_simp
              refine hK.out _ _ (by exact (Hjx23.out).1) (fun hS => ?_)
              clear hK K
              refine wpAnyH_ready (rs := [6]) (by kernel_rfl) (by simp) ?_
              refine AllReadyH.cons rfl (fun K hK => ?_) (AllReadyH.nil)
              go_simp
              have Hkk223 := Lib.hid (Blk.new' (w := w23) (t := 3) (cs := #[.int .i64 0, .int .i64 1]) (b := w23.heap.size) (by (try simp)))
              refine hK.out _ _ (by exact ((CF.up Hjx23.out _)).1) (fun hS => ?_)
              clear hK K
              refine wpAnyH_ready (rs := [7]) (by kernel_rfl) (by simp) ?_
              refine AllReadyH.cons rfl (fun K hK => ?_) (AllReadyH.nil)
              go_simp
              go_wp2_with fail
              refine (one_in g (q + 1 + 1 + 1) _ [0, 1] (0) 1 2 2 _ _ (Rd.alloc Hrd23.out _) (by omega) Hkk223.out (by omega) rfl rfl (by omega) (by omega) (by decide)).mono ?_
              rintro e w24 ⟨z2, rfl, z20, z21, hr24, hg24⟩
              have HG24 := Lib.hid (grown_trans (grown_alloc HG23.out _) hg24)
              clear HG23
              have Hown24 := Lib.hid (World.ownsRow.kept (World.ownsRow.alloc Hown23.out _) hg24 (apart_of (fun j hj e => by have := (World.ownsRow.lt Hown23.out j hj).1; injection e with e; omega)))
              clear Hown23
              have Hjx24 := Lib.hid (CF.grown (CF.up Hjx23.out _) hg24 (by intro e; injection e with e; omega))
              clear Hjx23
              have Hk324 := Lib.hid (Blk.grown (Blk.alloc Hk323.out _) hg24 (by intro e; injection e with e; omega))
              clear Hk323
              have Hk224 := Lib.hid (Blk.grown Hkk223.out hg24 (by intro e; injection e with e; omega))
              clear Hkk223
              clear hg24
              clear Hrd23
              have Hrd24 := Lib.hid hr24; clear hr24
              have hgl24 : g < w24.heap.size := (Hrd24.out).lt
              go_simp
              refine hK.out _ _ (by exact (Hjx24.out).1) (fun hS => ?_)
              clear hK K
              refine wpAnyH_ready (rs := [20]) (by kernel_rfl) (by simp) ?_
              refine AllReadyH.cons rfl (fun K hK => ?_) (AllReadyH.nil)
              go_simp
              go_wp2_with fail
              refine (one_in g (q + 1 + 1 + 1 + 1) _ [0, 181, -1] (-1) 181 3 3 _ _ Hrd24.out (by omega) Hk324.out (by omega) rfl rfl (by omega) (by omega) (by decide)).mono ?_
              rintro e w25 ⟨z3, rfl, z30, z31, hr25, hg25⟩
              have HG25 := Lib.hid (grown_trans HG24.out hg25)
              clear HG24
              have Hown25 := Lib.hid (World.ownsRow.kept Hown24.out hg25 (apart_of (fun j hj e => by have := (World.ownsRow.lt Hown24.out j hj).1; injection e with e; omega)))
              clear Hown24
              have Hjx25 := Lib.hid (CF.grown Hjx24.out hg25 (by intro e; injection e with e; omega))
              clear Hjx24
              have Hk325 := Lib.hid (Blk.grown Hk324.out hg25 (by intro e; injection e with e; omega))
              clear Hk324
              clear hg25
              clear Hrd24
              have Hrd25 := Lib.hid hr25; clear hr25
              have hgl25 : g < w25.heap.size := (Hrd25.out).lt
              go_simp
              refine hK.out _ _ (by exact (Hjx25.out).1) (fun hS => ?_)
              clear hK K
              refine take_at 21 93 (v := ?_) rfl rfl (by kernel_rfl) (by kernel_rfl) (by kernel_rfl) (fun _ _ _ h => h) (by rfl) ?_ hS ?_
              rotate_left 1
              · (intro w hSw; (try dsimp only at hSw); (try go_split_ands); go_simp; try with_reducible rfl)
              simp only [List.setIfInBounds_toArray, List.set_cons_zero, List.set_cons_succ]
              refine wpAnyH_ready (rs := [23]) (by kernel_rfl) (by simp) ?_
              refine AllReadyH.cons rfl (fun K hK => ?_) (AllReadyH.nil)
              go_simp
              go_wp2_with fail
              refine (pick_any g (q + 1 + 1 + 1 + 1 + 1) (2) _ Hrd25.out (by omega)).mono ?_
              rintro e w26 ⟨z4, rfl, z40, z41, hr26, hg26⟩
              have z42 := z41 (by omega)
              clear z41
              have HG26 := Lib.hid (grown_trans HG25.out hg26)
              clear HG25
              have Hown26 := Lib.hid (World.ownsRow.kept Hown25.out hg26 (apart_of (fun j hj e => by have := (World.ownsRow.lt Hown25.out j hj).1; injection e with e; omega)))
              clear Hown25
              have Hjx26 := Lib.hid (CF.grown Hjx25.out hg26 (by intro e; injection e with e; omega))
              clear Hjx25
              clear hg26
              clear Hrd25
              have Hrd26 := Lib.hid hr26; clear hr26
              have hgl26 : g < w26.heap.size := (Hrd26.out).lt
              go_simp
              refine hK.out _ _ (by exact (Hjx26.out).1) (fun hS => ?_)
              clear hK K
              refine take_at 24 96 (v := ?_) rfl rfl (by kernel_rfl) (by kernel_rfl) (by kernel_rfl) (fun _ _ _ h => h) (by rfl) ?_ hS ?_
              rotate_left 1
              · (intro w hSw; (try dsimp only at hSw); (try go_split_ands); go_simp; try with_reducible rfl)
              simp only [List.setIfInBounds_toArray, List.set_cons_zero, List.set_cons_succ]
              refine take_at 25 97 (v := ?_) rfl rfl (by kernel_rfl) (by kernel_rfl) (by kernel_rfl) (fun _ _ _ h => h) (by rfl) ?_ hS ?_
              rotate_left 1
              · (intro w hSw; (try dsimp only at hSw); (try go_split_ands); go_simp; try with_reducible rfl)
              simp only [List.setIfInBounds_toArray, List.set_cons_zero, List.set_cons_succ]
              refine take_at 26 98 (v := ?_) rfl rfl (by kernel_rfl) (by kernel_rfl) (by kernel_rfl) (fun _ _ _ h => h) (by rfl) ?_ hS ?_
              rotate_left 1
              · (intro w hSw; (try dsimp only at hSw); (try go_split_ands); go_simp; try with_reducible rfl)
              simp only [List.setIfInBounds_toArray, List.set_cons_zero, List.set_cons_succ]
              refine wpAnyH_ready (rs := [27]) (by kernel_rfl) (by simp) ?_
              refine AllReadyH.cons rfl (fun K hK => ?_) (AllReadyH.nil)
              go_simp
              obtain ⟨gz, cgz, evgz, hbgz, hltgz, hlegz, hmxgz, hcellgz, hfreegz, htheregz⟩ := own_at journeyCells 5 (fun _ => rfl) Hown26.out (show 0 < ys.length by omega)
              have Hcellgz := Lib.hid hcellgz; clear hcellgz
              have Hfreegz := Lib.hid hfreegz; clear hfreegz
              have Htheregz := Lib.hid htheregz; clear htheregz
              injection evgz with e1 e2 e3
              injection e1 with e1
              injection e1 with e1
              subst e1
              clear e2 e3
              obtain ⟨u0, p0⟩ : ∃ u, w26.cell? ⟨gb, ki * 5, none⟩ = some u := Htheregz.out _ (by omega)
              have f0 : w26.frozen? ⟨gb, ki * 5, none⟩ = false := Hfreegz.out _
              obtain ⟨u1, p1⟩ : ∃ u, w26.cell? ⟨gb, ki * 5 + 1, none⟩ = some u := Htheregz.out _ (by omega)
              have f1 : w26.frozen? ⟨gb, ki * 5 + 1, none⟩ = false := Hfreegz.out _
              obtain ⟨u2, p2⟩ : ∃ u, w26.cell? ⟨gb, ki * 5 + 2, none⟩ = some u := Htheregz.out _ (by omega)
              have f2 : w26.frozen? ⟨gb, ki * 5 + 2, none⟩ = false := Hfreegz.out _
              obtain ⟨u3, p3⟩ : ∃ u, w26.cell? ⟨gb, ki * 5 + 3, none⟩ = some u := Htheregz.out _ (by omega)
              have f3 : w26.frozen? ⟨gb, ki * 5 + 3, none⟩ = false := Hfreegz.out _
              obtain ⟨u4, p4⟩ : ∃ u, w26.cell? ⟨gb, ki * 5 + 4, none⟩ = some u := Htheregz.out _ (by omega)
              have f4 : w26.frozen? ⟨gb, ki * 5 + 4, none⟩ = false := Hfreegz.out _
              clear Hcellgz Hfreegz Htheregz
              have h1 : OwnJourneys (w26.setCells gb (ki * 5) [.int .i64 z1, .int .i64 z2, .int .i64 x.x, .int .i64 (IntKind.i64.wrap (x.x + z3)), .bool (z4 == 0)]) w.heap.size (.slice (some ⟨gb, 0, none⟩) ys.length cv) (ys.set ki ⟨z1, z2, x.x, IntKind.i64.wrap (x.x + z3), (z4 == 0)⟩) := by
                unfold OwnJourneys
                rw [List.length_set]
                exact own_store journeyCells 5 (fun _ => rfl) (by omega) (x := ⟨z1, z2, x.x, IntKind.i64.wrap (x.x + z3), (z4 == 0)⟩) (i := ki) Hown26.out hki
              have h3 : Rd (w26.setCells gb (ki * 5) [.int .i64 z1, .int .i64 z2, .int .i64 x.x, .int .i64 (IntKind.i64.wrap (x.x + z3)), .bool (z4 == 0)]) g (q + 1 + 1 + 1 + 1 + 1 + 1) := Rd.setCells Hrd26.out (show g < gb by omega) [.int .i64 z1, .int .i64 z2, .int .i64 x.x, .int .i64 (IntKind.i64.wrap (x.x + z3)), .bool (z4 == 0)] _
              have h4 : w.grownBy (w26.setCells gb (ki * 5) [.int .i64 z1, .int .i64 z2, .int .i64 x.x, .int .i64 (IntKind.i64.wrap (x.x + z3)), .bool (z4 == 0)]) (some g) := grown_cells (show w.heap.size ≤ gb by omega) [.int .i64 z1, .int .i64 z2, .int .i64 x.x, .int .i64 (IntKind.i64.wrap (x.x + z3)), .bool (z4 == 0)] _ _ HG26.out
              have h5 : (w26.setCells gb (ki * 5) [.int .i64 z1, .int .i64 z2, .int .i64 x.x, .int .i64 (IntKind.i64.wrap (x.x + z3)), .bool (z4 == 0)]).cell? ⟨gb, ki * 5 + 2, none⟩ = some (.int .i64 x.x) := cell_of_cells [.int .i64 z1, .int .i64 z2, .int .i64 x.x, .int .i64 (IntKind.i64.wrap (x.x + z3)), .bool (z4 == 0)] _ (ki * 5) 2 _ rfl ⟨_, p2⟩
              have H1 := Lib.hid h1; clear h1
              have H3 := Lib.hid h3; clear h3
              have H4 := Lib.hid h4; clear h4
              have H5 := Lib.hid h5; clear h5
              go_simp
              refine hK.out _ _ (by exact H5.out) (fun hS => ?_)
              clear hK K
              refine wpAnyH_done (by kernel_rfl) ?_ _
              go_wp2
              go_ret
              exact ⟨_, ys.set ki ⟨z1, z2, x.x, IntKind.i64.wrap (x.x + z3), (z4 == 0)⟩, _, rfl, H1.out, by rw [List.length_set]; exact hlen, (fun j hj => by
                  rcases List.mem_or_eq_of_mem_set hj with h | h
                  · exact Hsm.out j h
                  · subst h; unfold jourSmall; dsimp only; rw [IntWalk.i64_in (x.x + z3) (by omega)]; omega), by omega, H3.out, H4.out⟩
            · go_simp
              have Hkk222 := Lib.hid (Blk.new' (w := ((w22.drew.alloc (.cells #[.int .i64 0, .int .i64 181, .int .i64 (-1)] 3)).alloc (.cells #[.int .i64 (-1), .int .i64 0, .int .i64 10] 3))) (t := 3) (cs := #[.int .i64 0, .int .i64 1]) (b := w22.heap.size + 1 + 1) (by (try simp)))
              refine hK.out _ _ (by exact ((CF.up (CF.up (CF.up (CF.drew Hcf.out) _) _) _)).1) (fun hS => ?_)
              clear hK K
              refine wpAnyH_ready (rs := [4]) (by kernel_rfl) (by simp) ?_
              refine AllReadyH.cons rfl (fun K hK => ?_) (AllReadyH.nil)
              go_simp
              go_wp2_with fail
              refine (one_in g (q + 1 + 1) _ [-1, 0, 10] (-1) 10 3 3 _ _ (Rd.alloc (Rd.alloc (Rd.alloc (Rd.drew Hrd22.out) _) _) _) (by omega) (Blk.alloc Hkk122.out _) (by omega) rfl rfl (by omega) (by omega) (by decide)).mono ?_
              rintro e w23 ⟨z1, rfl, z10, z11, hr23, hg23⟩
              have HG23 := Lib.hid (grown_trans (grown_alloc (grown_alloc (grown_alloc (grownDrew HG22.out) _) _) _) hg23)
              clear HG22
              have Hown23 := Lib.hid (World.ownsRow.kept (World.ownsRow.alloc (World.ownsRow.alloc (World.ownsRow.alloc (ownDrew Hown22.out) _) _) _) hg23 (apart_of (fun j hj e => by have := (World.ownsRow.lt Hown22.out j hj).1; injection e with e; omega)))
              clear Hown22
              have Hjx23 := Lib.hid (CF.grown (CF.up (CF.up (CF.up (CF.drew Hcf.out) _) _) _) hg23 (by intro e; injection e with e; omega))
              clear Hcf
              have Hk323 := Lib.hid (Blk.grown (Blk.alloc (Blk.alloc Hkk322.out _) _) hg23 (by intro e; injection e with e; omega))
              clear Hkk322
              have Hk123 := Lib.hid (Blk.grown (Blk.alloc Hkk122.out _) hg23 (by intro e; injection e with e; omega))
              clear Hkk122
              have Hk223 := Lib.hid (Blk.grown Hkk222.out hg23 (by intro e; injection e with e; omega))
              clear Hkk222
              clear hg23
              clear Hrd22
              have Hrd23 := Lib.hid hr23; clear hr23
              have hgl23 : g < w23.heap.size := (Hrd23.out).lt
              go_simp
              refine hK.out _ _ (by exact (Hjx23.out).1) (fun hS => ?_)
              clear hK K
              refine wpAnyH_ready (rs := [7]) (by kernel_rfl) (by simp) ?_
              refine AllReadyH.cons rfl (fun K hK => ?_) (AllReadyH.nil)
              go_simp
              go_wp2_with fail
              refine (one_in g (q + 1 + 1 + 1) _ [0, 1] (0) 1 2 2 _ _ Hrd23.out (by omega) Hk223.out (by omega) rfl rfl (by omega) (by omega) (by decide)).mono ?_
              rintro e w24 ⟨z2, rfl, z20, z21, hr24, hg24⟩
              have HG24 := Lib.hid (grown_trans HG23.out hg24)
              clear HG23
              have Hown24 := Lib.hid (World.ownsRow.kept Hown23.out hg24 (apart_of (fun j hj e => by have := (World.ownsRow.lt Hown23.out j hj).1; injection e with e; omega)))
              clear Hown23
              have Hjx24 := Lib.hid (CF.grown Hjx23.out hg24 (by intro e; injection e with e; omega))
              clear Hjx23
              have Hk324 := Lib.hid (Blk.grown Hk323.out hg24 (by intro e; injection e with e; omega))
              clear Hk323
              have Hk224 := Lib.hid (Blk.grown Hk223.out hg24 (by intro e; injection e with e; omega))
              clear Hk223
              clear hg24
              clear Hrd23
              have Hrd24 := Lib.hid hr24; clear hr24
              have hgl24 : g < w24.heap.size := (Hrd24.out).lt
              go_simp
              refine hK.out _ _ (by exact (Hjx24.out).1) (fun hS => ?_)
              clear hK K
              refine wpAnyH_ready (rs := [20]) (by kernel_rfl) (by simp) ?_
              refine AllReadyH.cons rfl (fun K hK => ?_) (AllReadyH.nil)
              go_simp
              go_wp2_with fail
              refine (one_in g (q + 1 + 1 + 1 + 1) _ [0, 181, -1] (-1) 181 3 3 _ _ Hrd24.out (by omega) Hk324.out (by omega) rfl rfl (by omega) (by omega) (by decide)).mono ?_
              rintro e w25 ⟨z3, rfl, z30, z31, hr25, hg25⟩
              have HG25 := Lib.hid (grown_trans HG24.out hg25)
              clear HG24
              have Hown25 := Lib.hid (World.ownsRow.kept Hown24.out hg25 (apart_of (fun j hj e => by have := (World.ownsRow.lt Hown24.out j hj).1; injection e with e; omega)))
              clear Hown24
              have Hjx25 := Lib.hid (CF.grown Hjx24.out hg25 (by intro e; injection e with e; omega))
              clear Hjx24
              have Hk325 := Lib.hid (Blk.grown Hk324.out hg25 (by intro e; injection e with e; omega))
              clear Hk324
              clear hg25
              clear Hrd24
              have Hrd25 := Lib.hid hr25; clear hr25
              have hgl25 : g < w25.heap.size := (Hrd25.out).lt
              go_simp
              refine hK.out _ _ (by exact (Hjx25.out).1) (fun hS => ?_)
              clear hK K
              refine take_at 21 93 (v := ?_) rfl rfl (by kernel_rfl) (by kernel_rfl) (by kernel_rfl) (fun _ _ _ h => h) (by rfl) ?_ hS ?_
              rotate_left 1
              · (intro w hSw; (try dsimp only at hSw); (try go_split_ands); go_simp; try with_reducible rfl)
              simp only [List.setIfInBounds_toArray, List.set_cons_zero, List.set_cons_succ]
              refine wpAnyH_ready (rs := [23]) (by kernel_rfl) (by simp) ?_
              refine AllReadyH.cons rfl (fun K hK => ?_) (AllReadyH.nil)
              go_simp
              go_wp2_with fail
              refine (pick_any g (q + 1 + 1 + 1 + 1 + 1) (2) _ Hrd25.out (by omega)).mono ?_
              rintro e w26 ⟨z4, rfl, z40, z41, hr26, hg26⟩
              have z42 := z41 (by omega)
              clear z41
              have HG26 := Lib.hid (grown_trans HG25.out hg26)
              clear HG25
              have Hown26 := Lib.hid (World.ownsRow.kept Hown25.out hg26 (apart_of (fun j hj e => by have := (World.ownsRow.lt Hown25.out j hj).1; injection e with e; omega)))
              clear Hown25
              have Hjx26 := Lib.hid (CF.grown Hjx25.out hg26 (by intro e; injection e with e; omega))
              clear Hjx25
              clear hg26
              clear Hrd25
              have Hrd26 := Lib.hid hr26; clear hr26
              have hgl26 : g < w26.heap.size := (Hrd26.out).lt
              go_simp
              refine hK.out _ _ (by exact (Hjx26.out).1) (fun hS => ?_)
              clear hK K
              refine take_at 24 96 (v := ?_) rfl rfl (by kernel_rfl) (by kernel_rfl) (by kernel_rfl) (fun _ _ _ h => h) (by rfl) ?_ hS ?_
              rotate_left 1
              · (intro w hSw; (try dsimp only at hSw); (try go_split_ands); go_simp; try with_reducible rfl)
              simp only [List.setIfInBounds_toArray, List.set_cons_zero, List.set_cons_succ]
              refine take_at 25 97 (v := ?_) rfl rfl (by kernel_rfl) (by kernel_rfl) (by kernel_rfl) (fun _ _ _ h => h) (by rfl) ?_ hS ?_
              rotate_left 1
              · (intro w hSw; (try dsimp only at hSw); (try go_split_ands); go_simp; try with_reducible rfl)
              simp only [List.setIfInBounds_toArray, List.set_cons_zero, List.set_cons_succ]
              refine take_at 26 98 (v := ?_) rfl rfl (by kernel_rfl) (by kernel_rfl) (by kernel_rfl) (fun _ _ _ h => h) (by rfl) ?_ hS ?_
              rotate_left 1
              · (intro w hSw; (try dsimp only at hSw); (try go_split_ands); go_simp; try with_reducible rfl)
              simp only [List.setIfInBounds_toArray, List.set_cons_zero, List.set_cons_succ]
              refine wpAnyH_ready (rs := [27]) (by kernel_rfl) (by simp) ?_
              refine AllReadyH.cons rfl (fun K hK => ?_) (AllReadyH.nil)
              go_simp
              obtain ⟨gz, cgz, evgz, hbgz, hltgz, hlegz, hmxgz, hcellgz, hfreegz, htheregz⟩ := own_at journeyCells 5 (fun _ => rfl) Hown26.out (show 0 < ys.length by omega)
              have Hcellgz := Lib.hid hcellgz; clear hcellgz
              have Hfreegz := Lib.hid hfreegz; clear hfreegz
              have Htheregz := Lib.hid htheregz; clear htheregz
              injection evgz with e1 e2 e3
              injection e1 with e1
              injection e1 with e1
              subst e1
              clear e2 e3
              obtain ⟨u0, p0⟩ : ∃ u, w26.cell? ⟨gb, ki * 5, none⟩ = some u := Htheregz.out _ (by omega)
              have f0 : w26.frozen? ⟨gb, ki * 5, none⟩ = false := Hfreegz.out _
              obtain ⟨u1, p1⟩ : ∃ u, w26.cell? ⟨gb, ki * 5 + 1, none⟩ = some u := Htheregz.out _ (by omega)
              have f1 : w26.frozen? ⟨gb, ki * 5 + 1, none⟩ = false := Hfreegz.out _
              obtain ⟨u2, p2⟩ : ∃ u, w26.cell? ⟨gb, ki * 5 + 2, none⟩ = some u := Htheregz.out _ (by omega)
              have f2 : w26.frozen? ⟨gb, ki * 5 + 2, none⟩ = false := Hfreegz.out _
              obtain ⟨u3, p3⟩ : ∃ u, w26.cell? ⟨gb, ki * 5 + 3, none⟩ = some u := Htheregz.out _ (by omega)
              have f3 : w26.frozen? ⟨gb, ki * 5 + 3, none⟩ = false := Hfreegz.out _
              obtain ⟨u4, p4⟩ : ∃ u, w26.cell? ⟨gb, ki * 5 + 4, none⟩ = some u := Htheregz.out _ (by omega)
              have f4 : w26.frozen? ⟨gb, ki * 5 + 4, none⟩ = false := Hfreegz.out _
              clear Hcellgz Hfreegz Htheregz
              have h1 : OwnJourneys (w26.setCells gb (ki * 5) [.int .i64 z1, .int .i64 z2, .int .i64 x.x, .int .i64 (IntKind.i64.wrap (x.x + z3)), .bool (z4 == 0)]) w.heap.size (.slice (some ⟨gb, 0, none⟩) ys.length cv) (ys.set ki ⟨z1, z2, x.x, IntKind.i64.wrap (x.x + z3), (z4 == 0)⟩) := by
                unfold OwnJourneys
                rw [List.length_set]
                exact own_store journeyCells 5 (fun _ => rfl) (by omega) (x := ⟨z1, z2, x.x, IntKind.i64.wrap (x.x + z3), (z4 == 0)⟩) (i := ki) Hown26.out hki
              have h3 : Rd (w26.setCells gb (ki * 5) [.int .i64 z1, .int .i64 z2, .int .i64 x.x, .int .i64 (IntKind.i64.wrap (x.x + z3)), .bool (z4 == 0)]) g (q + 1 + 1 + 1 + 1 + 1 + 1) := Rd.setCells Hrd26.out (show g < gb by omega) [.int .i64 z1, .int .i64 z2, .int .i64 x.x, .int .i64 (IntKind.i64.wrap (x.x + z3)), .bool (z4 == 0)] _
              have h4 : w.grownBy (w26.setCells gb (ki * 5) [.int .i64 z1, .int .i64 z2, .int .i64 x.x, .int .i64 (IntKind.i64.wrap (x.x + z3)), .bool (z4 == 0)]) (some g) := grown_cells (show w.heap.size ≤ gb by omega) [.int .i64 z1, .int .i64 z2, .int .i64 x.x, .int .i64 (IntKind.i64.wrap (x.x + z3)), .bool (z4 == 0)] _ _ HG26.out
              have h5 : (w26.setCells gb (ki * 5) [.int .i64 z1, .int .i64 z2, .int .i64 x.x, .int .i64 (IntKind.i64.wrap (x.x + z3)), .bool (z4 == 0)]).cell? ⟨gb, ki * 5 + 2, none⟩ = some (.int .i64 x.x) := cell_of_cells [.int .i64 z1, .int .i64 z2, .int .i64 x.x, .int .i64 (IntKind.i64.wrap (x.x + z3)), .bool (z4 == 0)] _ (ki * 5) 2 _ rfl ⟨_, p2⟩
              have H1 := Lib.hid h1; clear h1
              have H3 := Lib.hid h3; clear h3
              have H4 := Lib.hid h4; clear h4
              have H5 := Lib.hid h5; clear h5
              go_simp
              refine hK.out _ _ (by exact H5.out) (fun hS => ?_)
              clear hK K
              refine wpAnyH_done (by kernel_rfl) ?_ _
              go_wp2
              go_ret
              exact ⟨_, ys.set ki ⟨z1, z2, x.x, IntKind.i64.wrap (x.x + z3), (z4 == 0)⟩, _, rfl, H1.out, by rw [List.length_set]; exact hlen, (fun j hj => by
                  rcases List.mem_or_eq_of_mem_set hj with h | h
                  · exact Hsm.out j h
                  · subst h; unfold jourSmall; dsimp only; rw [IntWalk.i64_in (x.x + z3) (by omega)]; omega), by omega, H3.out, H4.out⟩
          · go_simp
            have Hkk222 := Lib.hid (Blk.new' (w := (w22.drew.alloc (.cells #[.int .i64 0, .int .i64 181, .int .i64 (-1)] 3))) (t := 3) (cs := #[.int .i64 0, .int .i64 1]) (b := w22.heap.size + 1) (by (try simp)))
            refine hK.out _ _ (by exact ((CF.up (CF.up (CF.drew Hcf.out) _) _)).1) (fun hS => ?_)
            clear hK K
            refine wpAnyH_ready (rs := [3]) (by kernel_rfl) (by simp) ?_
            refine AllReadyH.cons rfl (fun K hK => ?_) (AllReadyH.nil)
            go_simp
            have Hkk122 := Lib.hid (Blk.new' (w := ((w22.drew.alloc (.cells #[.int .i64 0, .int .i64 181, .int .i64 (-1)] 3)).alloc (.cells #[.int .i64 0, .int .i64 1] 3))) (t := 3) (cs := #[.int .i64 (-1), .int .i64 0, .int .i64 10]) (b := w22.heap.size + 1 + 1) (by (try simp)))
            refine hK.out _ _ (by exact ((CF.up (CF.up (CF.up (CF.drew Hcf.out) _) _) _)).1) (fun hS => ?_)
            clear hK K
            refine wpAnyH_ready (rs := [4]) (by kernel_rfl) (by simp) ?_
            refine AllReadyH.cons rfl (fun K hK => ?_) (AllReadyH.nil)
            go_simp
            go_wp2_with fail
            refine (one_in g (q + 1 + 1) _ [-1, 0, 10] (-1) 10 3 3 _ _ (Rd.alloc (Rd.alloc (Rd.alloc (Rd.drew Hrd22.out) _) _) _) (by omega) Hkk122.out (by omega) rfl rfl (by omega) (by omega) (by decide)).mono ?_
            rintro e w23 ⟨z1, rfl, z10, z11, hr23, hg23⟩
            have HG23 := Lib.hid (grown_trans (grown_alloc (grown_alloc (grown_alloc (grownDrew HG22.out) _) _) _) hg23)
            clear HG22
            have Hown23 := Lib.hid (World.ownsRow.kept (World.ownsRow.alloc (World.ownsRow.alloc (World.ownsRow.alloc (ownDrew Hown22.out) _) _) _) hg23 (apart_of (fun j hj e => by have := (World.ownsRow.lt Hown22.out j hj).1; injection e with e; omega)))
            clear Hown22
            have Hjx23 := Lib.hid (CF.grown (CF.up (CF.up (CF.up (CF.drew Hcf.out) _) _) _) hg23 (by intro e; injection e with e; omega))
            clear Hcf
            have Hk323 := Lib.hid (Blk.grown (Blk.alloc (Blk.alloc Hkk322.out _) _) hg23 (by intro e; injection e with e; omega))
            clear Hkk322
            have Hk223 := Lib.hid (Blk.grown (Blk.alloc Hkk222.out _) hg23 (by intro e; injection e with e; omega))
            clear Hkk222
            have Hk123 := Lib.hid (Blk.grown Hkk122.out hg23 (by intro e; injection e with e; omega))
            clear Hkk122
            clear hg23
            clear Hrd22
            have Hrd23 := Lib.hid hr23; clear hr23
            have hgl23 : g < w23.heap.size := (Hrd23.out).lt
            go_simp
            refine hK.out _ _ (by exact (Hjx23.out).1) (fun hS => ?_)
            clear hK K
            refine wpAnyH_ready (rs := [7]) (by kernel_rfl) (by simp) ?_
            refine AllReadyH.cons rfl (fun K hK => ?_) (AllReadyH.nil)
            go_simp
            go_wp2_with fail
            refine (one_in g (q + 1 + 1 + 1) _ [0, 1] (0) 1 2 2 _ _ Hrd23.out (by omega) Hk223.out (by omega) rfl rfl (by omega) (by omega) (by decide)).mono ?_
            rintro e w24 ⟨z2, rfl, z20, z21, hr24, hg24⟩
            have HG24 := Lib.hid (grown_trans HG23.out hg24)
            clear HG23
            have Hown24 := Lib.hid (World.ownsRow.kept Hown23.out hg24 (apart_of (fun j hj e => by have := (World.ownsRow.lt Hown23.out j hj).1; injection e with e; omega)))
            clear Hown23
            have Hjx24 := Lib.hid (CF.grown Hjx23.out hg24 (by intro e; injection e with e; omega))
            clear Hjx23
            have Hk324 := Lib.hid (Blk.grown Hk323.out hg24 (by intro e; injection e with e; omega))
            clear Hk323
            have Hk224 := Lib.hid (Blk.grown Hk223.out hg24 (by intro e; injection e with e; omega))
            clear Hk223
            clear hg24
            clear Hrd23
            have Hrd24 := Lib.hid hr24; clear hr24
            have hgl24 : g < w24.heap.size := (Hrd24.out).lt
            go_simp
            refine hK.out _ _ (by exact (Hjx24.out).1) (fun hS => ?_)
            clear hK K
            refine wpAnyH_ready (rs := [20]) (by kernel_rfl) (by simp) ?_
            refine AllReadyH.cons rfl (fun K hK => ?_) (AllReadyH.nil)
            go_simp
            go_wp2_with fail
            refine (one_in g (q + 1 + 1 + 1 + 1) _ [0, 181, -1] (-1) 181 3 3 _ _ Hrd24.out (by omega) Hk324.out (by omega) rfl rfl (by omega) (by omega) (by decide)).mono ?_
            rintro e w25 ⟨z3, rfl, z30, z31, hr25, hg25⟩
            have HG25 := Lib.hid (grown_trans HG24.out hg25)
            clear HG24
            have Hown25 := Lib.hid (World.ownsRow.kept Hown24.out hg25 (apart_of (fun j hj e => by have := (World.ownsRow.lt Hown24.out j hj).1; injection e with e; omega)))
            clear Hown24
            have Hjx25 := Lib.hid (CF.grown Hjx24.out hg25 (by intro e; injection e with e; omega))
            clear Hjx24
            have Hk325 := Lib.hid (Blk.grown Hk324.out hg25 (by intro e; injection e with e; omega))
            clear Hk324
            clear hg25
            clear Hrd24
            have Hrd25 := Lib.hid hr25; clear hr25
            have hgl25 : g < w25.heap.size := (Hrd25.out).lt
            go_simp
            refine hK.out _ _ (by exact (Hjx25.out).1) (fun hS => ?_)
            clear hK K
            refine take_at 21 93 (v := ?_) rfl rfl (by kernel_rfl) (by kernel_rfl) (by kernel_rfl) (fun _ _ _ h => h) (by rfl) ?_ hS ?_
            rotate_left 1
            · (intro w hSw; (try dsimp only at hSw); (try go_split_ands); go_simp; try with_reducible rfl)
            simp only [List.setIfInBounds_toArray, List.set_cons_zero, List.set_cons_succ]
            refine wpAnyH_ready (rs := [23]) (by kernel_rfl) (by simp) ?_
            refine AllReadyH.cons rfl (fun K hK => ?_) (AllReadyH.nil)
            go_simp
            go_wp2_with fail
            refine (pick_any g (q + 1 + 1 + 1 + 1 + 1) (2) _ Hrd25.out (by omega)).mono ?_
            rintro e w26 ⟨z4, rfl, z40, z41, hr26, hg26⟩
            have z42 := z41 (by omega)
            clear z41
            have HG26 := Lib.hid (grown_trans HG25.out hg26)
            clear HG25
            have Hown26 := Lib.hid (World.ownsRow.kept Hown25.out hg26 (apart_of (fun j hj e => by have := (World.ownsRow.lt Hown25.out j hj).1; injection e with e; omega)))
            clear Hown25
            have Hjx26 := Lib.hid (CF.grown Hjx25.out hg26 (by intro e; injection e with e; omega))
            clear Hjx25
            clear hg26
            clear Hrd25
            have Hrd26 := Lib.hid hr26; clear hr26
            have hgl26 : g < w26.heap.size := (Hrd26.out).lt
            go_simp
            refine hK.out _ _ (by exact (Hjx26.out).1) (fun hS => ?_)
            clear hK K
            refine take_at 24 96 (v := ?_) rfl rfl (by kernel_rfl) (by kernel_rfl) (by kernel_rfl) (fun _ _ _ h => h) (by rfl) ?_ hS ?_
            rotate_left 1
            · (intro w hSw; (try dsimp only at hSw); (try go_split_ands); go_simp; try with_reducible rfl)
            simp only [List.setIfInBounds_toArray, List.set_cons_zero, List.set_cons_succ]
            refine take_at 25 97 (v := ?_) rfl rfl (by kernel_rfl) (by kernel_rfl) (by kernel_rfl) (fun _ _ _ h => h) (by rfl) ?_ hS ?_
            rotate_left 1
            · (intro w hSw; (try dsimp only at hSw); (try go_split_ands); go_simp; try with_reducible rfl)
            simp only [List.setIfInBounds_toArray, List.set_cons_zero, List.set_cons_succ]
            refine take_at 26 98 (v := ?_) rfl rfl (by kernel_rfl) (by kernel_rfl) (by kernel_rfl) (fun _ _ _ h => h) (by rfl) ?_ hS ?_
            rotate_left 1
            · (intro w hSw; (try dsimp only at hSw); (try go_split_ands); go_simp; try with_reducible rfl)
            simp only [List.setIfInBounds_toArray, List.set_cons_zero, List.set_cons_succ]
            refine wpAnyH_ready (rs := [27]) (by kernel_rfl) (by simp) ?_
            refine AllReadyH.cons rfl (fun K hK => ?_) (AllReadyH.nil)
            go_simp
            obtain ⟨gz, cgz, evgz, hbgz, hltgz, hlegz, hmxgz, hcellgz, hfreegz, htheregz⟩ := own_at journeyCells 5 (fun _ => rfl) Hown26.out (show 0 < ys.length by omega)
            have Hcellgz := Lib.hid hcellgz; clear hcellgz
            have Hfreegz := Lib.hid hfreegz; clear hfreegz
            have Htheregz := Lib.hid htheregz; clear htheregz
            injection evgz with e1 e2 e3
            injection e1 with e1
            injection e1 with e1
            subst e1
            clear e2 e3
            obtain ⟨u0, p0⟩ : ∃ u, w26.cell? ⟨gb, ki * 5, none⟩ = some u := Htheregz.out _ (by omega)
            have f0 : w26.frozen? ⟨gb, ki * 5, none⟩ = false := Hfreegz.out _
            obtain ⟨u1, p1⟩ : ∃ u, w26.cell? ⟨gb, ki * 5 + 1, none⟩ = some u := Htheregz.out _ (by omega)
            have f1 : w26.frozen? ⟨gb, ki * 5 + 1, none⟩ = false := Hfreegz.out _
            obtain ⟨u2, p2⟩ : ∃ u, w26.cell? ⟨gb, ki * 5 + 2, none⟩ = some u := Htheregz.out _ (by omega)
            have f2 : w26.frozen? ⟨gb, ki * 5 + 2, none⟩ = false := Hfreegz.out _
            obtain ⟨u3, p3⟩ : ∃ u, w26.cell? ⟨gb, ki * 5 + 3, none⟩ = some u := Htheregz.out _ (by omega)
            have f3 : w26.frozen? ⟨gb, ki * 5 + 3, none⟩ = false := Hfreegz.out _
            obtain ⟨u4, p4⟩ : ∃ u, w26.cell? ⟨gb, ki * 5 + 4, none⟩ = some u := Htheregz.out _ (by omega)
            have f4 : w26.frozen? ⟨gb, ki * 5 + 4, none⟩ = false := Hfreegz.out _
            clear Hcellgz Hfreegz Htheregz
            have h1 : OwnJourneys (w26.setCells gb (ki * 5) [.int .i64 z1, .int .i64 z2, .int .i64 x.x, .int .i64 (IntKind.i64.wrap (x.x + z3)), .bool (z4 == 0)]) w.heap.size (.slice (some ⟨gb, 0, none⟩) ys.length cv) (ys.set ki ⟨z1, z2, x.x, IntKind.i64.wrap (x.x + z3), (z4 == 0)⟩) := by
              unfold OwnJourneys
              rw [List.length_set]
              exact own_store journeyCells 5 (fun _ => rfl) (by omega) (x := ⟨z1, z2, x.x, IntKind.i64.wrap (x.x + z3), (z4 == 0)⟩) (i := ki) Hown26.out hki
            have h3 : Rd (w26.setCells gb (ki * 5) [.int .i64 z1, .int .i64 z2, .int .i64 x.x, .int .i64 (IntKind.i64.wrap (x.x + z3)), .bool (z4 == 0)]) g (q + 1 + 1 + 1 + 1 + 1 + 1) := Rd.setCells Hrd26.out (show g < gb by omega) [.int .i64 z1, .int .i64 z2, .int .i64 x.x, .int .i64 (IntKind.i64.wrap (x.x + z3)), .bool (z4 == 0)] _
            have h4 : w.grownBy (w26.setCells gb (ki * 5) [.int .i64 z1, .int .i64 z2, .int .i64 x.x, .int .i64 (IntKind.i64.wrap (x.x + z3)), .bool (z4 == 0)]) (some g) := grown_cells (show w.heap.size ≤ gb by omega) [.int .i64 z1, .int .i64 z2, .int .i64 x.x, .int .i64 (IntKind.i64.wrap (x.x + z3)), .bool (z4 == 0)] _ _ HG26.out
            have h5 : (w26.setCells gb (ki * 5) [.int .i64 z1, .int .i64 z2, .int .i64 x.x, .int .i64 (IntKind.i64.wrap (x.x + z3)), .bool (z4 == 0)]).cell? ⟨gb, ki * 5 + 2, none⟩ = some (.int .i64 x.x) := cell_of_cells [.int .i64 z1, .int .i64 z2, .int .i64 x.x, .int .i64 (IntKind.i64.wrap (x.x + z3)), .bool (z4 == 0)] _ (ki * 5) 2 _ rfl ⟨_, p2⟩
            have H1 := Lib.hid h1; clear h1
            have H3 := Lib.hid h3; clear h3
            have H4 := Lib.hid h4; clear h4
            have H5 := Lib.hid h5; clear h5
            go_simp
            refine hK.out _ _ (by exact H5.out) (fun hS => ?_)
            clear hK K
            refine wpAnyH_done (by kernel_rfl) ?_ _
            go_wp2
            go_ret
            exact ⟨_, ys.set ki ⟨z1, z2, x.x, IntKind.i64.wrap (x.x + z3), (z4 == 0)⟩, _, rfl, H1.out, by rw [List.length_set]; exact hlen, (fun j hj => by
                rcases List.mem_or_eq_of_mem_set hj with h | h
                · exact Hsm.out j h
                · subst h; unfold jourSmall; dsimp only; rw [IntWalk.i64_in (x.x + z3) (by omega)]; omega), by omega, H3.out, H4.out⟩
      · have hf' : (f == 0) = false := by simpa using hf
        go_wp2
        go_ret
        exact ⟨_, ys, _, rfl, Hown21.out, hlen, Hsm.out, by omega, Hrd21.out, HG21.out⟩
    · have hl1 : decide ((0 : Int) < (ys.length : Int)) = false := by rw [decide_eq_false_iff_not]; omega
      go_wp2
      go_ret
      exact ⟨_, ys, _, rfl, Hown.out, hlen, Hsm.out, by omega, Hr.out, HG.out⟩
end Go.Proofs.Ytnahdclmfegmeaa
