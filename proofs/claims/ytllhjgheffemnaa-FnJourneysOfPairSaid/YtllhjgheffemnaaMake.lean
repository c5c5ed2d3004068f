/-
  The model's journeys of taps.
-/
import Derived.Test.YtllhjgheffemnaaMakeMath
import Derived.Test.YtllhjgheffemnaaStTap
import Derived.Test.YtllhjgheffemnaaStJourney
import Derived.Test.YtllhjgheffemnaaBasic
import Derived.Test.YtllhjgheffemnaaReg
import Derived.StillTailTactics
import Derived.Deep.AppendLies
set_option linter.unusedSimpArgs false
namespace Go.Proofs.Ytllhjgheffemnaa
open Go.RowKit Go.Deep
set_option linter.unusedVariables false

theorem info_jour3 : (Try.prog.info? 31).map (fun i => (i.zero, i.size, i.bytes)) = some (some (.agg #[.int .i64 0, .int .i64 0, .int .i64 0, .int .i64 0, .bool false]), 5, 40) := by kernel_rfl

set_option maxRecDepth 100000 in
set_option maxHeartbeats 1000000 in
theorem half_any (t : Fares.Tap) (b : Bool) (w : World) :
    Calls Try.prog 45 #[.agg #[.int .i64 t.v, .int .i64 t.n, .int .i64 t.c, .int .i64 t.m, .int .i64 t.s, .bool b]] w fun e w' => e = .returned (.agg #[.int .i64 t.s, .int .i64 t.s, .int .i64 t.m, .int .i64 t.m, .bool false]) ∧ Below w.heap.size w w' := by
  go_enter Try.func45, Try.ntmps45
  go_wp2
  exact bodyPost_ret (v := .agg #[.int .i64 t.s, .int .i64 t.s, .int .i64 t.m, .int .i64 t.m, .bool false]) (by simp [results, Try.results45, go_sem]) rfl ⟨rfl, (by repeat (first | exact Below.refl _ _ | refine bA ?_ _ | refine bD ?_ _ | refine bD1 ?_ | refine bS ?_ (by simp) _))⟩

def MakesJourneys (xs : List Fares.Tap) (w : World) (e : Ending) (w' : World) : Prop :=
  ∃ v, e = .returned v ∧ OwnJourneys w' w.heap.size v (Fares.journeysOf xs) ∧ Below w.heap.size w w'
/-- The slot of the tap that is open. -/
def OpenAt (o : Option Nat) (v : Value) : Prop := (o = none ∧ v = .int .i64 (-1)) ∨ ∃ j : Nat, o = some j ∧ v = .int .i64 j

set_option maxRecDepth 100000 in
set_option maxHeartbeats 3000000 in
theorem specjourneys_any (A : Option Addr) (n c : Nat) (xs : List Fares.Tap) (w : World) (hx : Taps w w.heap.size A xs) (hn : xs.length = n) (hl : n ≤ 1000) (hm : ∀ t ∈ xs, -100000 ≤ t.m ∧ t.m ≤ 100000) :
    Calls Try.prog 28 #[.slice A n c] w (MakesJourneys xs w) := by
  subst hn
  obtain ⟨ti, hi0, hz0, hz1, hz2⟩ := info_parts info_jour3
  have HI := Lib.hid hi0; clear hi0
  have HZ0 := Lib.hid hz0; clear hz0
  have HZ1 := Lib.hid hz1; clear hz1
  have HZ2 := Lib.hid hz2; clear hz2
  have Hm := Lib.hid hm; clear hm
  go_enter Try.func28, Try.ntmps28
  go_wp2
  go_loopw [5, 3, 4] (fun i v op wr => ∃ (k : Nat), k ≤ xs.length ∧ i = .int .i64 k ∧ OwnJourneys wr w.heap.size v (Fares.jRun xs k).1 ∧ OpenAt (Fares.jRun xs k).2 op ∧ Below w.heap.size w wr) (fun i _ _ _ => xs.length - (intOf i).toNat)
  case atStart => exact ⟨0, Nat.zero_le _, rfl, show OwnJourneys _ w.heap.size _ [] from World.ownsRow_lit (base := w.heap.size) (e := 31) (size := 5) w #[] 0 (Nat.le_refl _) (by unfold maxLen; omega) rfl, .inl ⟨rfl, rfl⟩, bA (Below.refl _ _) _⟩
  case round =>
    obtain ⟨k, hk, rfl, hown, hop, hb⟩ := hrel
    have hfit := Fares.jRun_fits xs k hk
    have hsz := hb.size
    by_cases hlt : k < xs.length
    · obtain ⟨t, htk⟩ : ∃ t, xs[k]? = some t := ⟨_, List.getElem?_eq_getElem hlt⟩
      obtain ⟨m0, m1⟩ := Hm.out t (List.mem_of_getElem? htk)
      have HN := Lib.hid (Fares.jRun_succ htk)
      obtain ⟨b1, o1, rfl, hb1, hr1⟩ := hx.row (by omega)
      obtain ⟨p0, p1, p2, p3, p4, p5⟩ := (hr1 k t htk).below hb hb1
      have HB := Lib.hid (TapBox.new wr t 36)
      obtain ⟨_, s0, s1, s2, s3, s4, s5⟩ := HB.out
      have Hr1 := Lib.hid hr1
      obtain ⟨S, hS⟩ : ∃ S, S = Fares.jRun xs k := ⟨_, rfl⟩
      rw [← hS] at hown hop hfit
      obtain ⟨out, oo⟩ := S
      have HS := Lib.hid hS; clear hS
      dsimp only at hown hop
      have hlen : out.length ≤ k := by have := hfit.2; simp only at this; omega
      have Hown := Lib.hid hown; clear hown
      clear htk hr1 hx
      have i0 : (0 : Int) ≤ (k : Int) := by omega
      have i1 : (k : Int) < (xs.length : Int) := by omega
      have HownA := Lib.hid (World.ownsRow.alloc Hown.out (.cells #[.int .i64 t.v, .int .i64 t.n, .int .i64 t.c, .int .i64 t.m, .int .i64 t.s, .bool t.o] 36))
      have hba := bA hb (.cells #[.int .i64 t.v, .int .i64 t.n, .int .i64 t.c, .int .i64 t.m, .int .i64 t.s, .bool t.o] 36)
      have hbwa : wr.heap.size < (wr.alloc (.cells #[.int .i64 t.v, .int .i64 t.n, .int .i64 t.c, .int .i64 t.m, .int .i64 t.s, .bool t.o] 36)).heap.size := by simp
      have hb1wa : b1 < (wr.alloc (.cells #[.int .i64 t.v, .int .i64 t.n, .int .i64 t.c, .int .i64 t.m, .int .i64 t.s, .bool t.o] 36)).heap.size := by simp; omega
      rcases hop with ⟨rfl, rfl⟩ | ⟨j, rfl, rfl⟩
      · clear hfit
        by_cases hto : t.o = true
        · rw [hto] at p5 s5
          have HJ := Lib.hid (show Fares.jRun xs (k + 1) = (out ++ [Fares.halfOf t], none) by rw [HN.out, ← HS.out]; unfold Fares.jStep; rw [hto]; rfl)
          clear hbwa hb1wa
          rw [hto] at s0 s1 s2 s3 s4 HownA hba
          go_wp2
          generalize wr.alloc (.cells #[.int .i64 t.v, .int .i64 t.n, .int .i64 t.c, .int .i64 t.m, .int .i64 t.s, .bool true] 36) = wa at s0 s1 s2 s3 s4 s5 HownA hba ⊢
          go_quiet (fail)
          clear hto
          go_wp2_with fail
          refine (half_any t _ _).mono ?_
          rintro e w1 ⟨rfl, hb3⟩
          have hb4 : Below w.heap.size w w1 := bT (bD hba _) hb3
          have Hown1 := Lib.hid (own_below (w := wa.drewN _) (HownA.out) hb3)
          have hs4 := hb4.size
          clear hb3
          go_wp2_with (at_builtin; refine wpList_append_lies _ rfl (.tmp 19) (.tmp 22) _ rfl w.heap.size 31 ti _ 5 40 Try.underlying26 HI.out HZ0.out HZ1.out HZ2.out rfl (by omega) _ _ _ rfl (World.ownsRow.alloc (w := w1) (Hown1.out) _) ⟨(w1).heap.size, 0, none⟩ 1 1 (journeyCells (Fares.halfOf t)) rfl rfl ?c1 ?c2 (by omega) ?c3 ?c4 ?c5 _ rfl ?_)
          case c1 => exact World.news_of_block (heap_alloc_new (w1) (.cells #[.int .i64 t.s, .int .i64 t.s, .int .i64 t.m, .int .i64 t.m, .bool false] 31))
          case c2 => simp [journeyCells, Value.oneCell']
          case c3 => unfold maxLen; omega
          case c4 => omega
          case c5 => simp; omega
          intro g cap w2 hown2 hgrow hat hlt2
          have Hown2 := Lib.hid (OwnJourneys.snoc hown2)
          have hb5 : Below w.heap.size w w2 := Below.grown (bA hb4 _) hgrow (by simp; omega) (fun r hr => (World.ownsRow.lt Hown1.out r hr).1)
          clear hown2 hgrow hat
          go_wp2
          go_roundw
          case rel => exact ⟨k + 1, by omega, by go_num, by rw [HJ.out]; exact Hown2.out, by rw [HJ.out]; exact .inl ⟨rfl, rfl⟩, hb5⟩
          case measure => simp [intOf]; omega
        · have hto' : t.o = false := by simpa using hto
          clear hto
          have HJ := Lib.hid (show Fares.jRun xs (k + 1) = (out, some k) by rw [HN.out, ← HS.out]; unfold Fares.jStep; rw [hto']; rfl)
          rw [hto'] at p5 s5
          go_wp2
          go_roundw
          case rel => exact ⟨k + 1, by omega, by go_num, by rw [HJ.out]; exact World.ownsRow.alloc Hown.out _, by rw [HJ.out]; exact .inr ⟨k, rfl, rfl⟩, bA hb _⟩
          case measure => simp [intOf]; omega
      · have hjk : j < k := hfit.1 j rfl
        have hfo : out.length + 1 ≤ k := by have := hfit.2; simpa [Fares.openN] using this
        clear hfit
        obtain ⟨a, haj⟩ : ∃ a, xs[j]? = some a := ⟨_, List.getElem?_eq_getElem (by omega)⟩
        have HA := Lib.hid haj
        obtain ⟨am0, am1⟩ := Hm.out a (List.mem_of_getElem? haj)
        obtain ⟨r0, r1, r2, r3, r4, r5⟩ := (Hr1.out j a haj).below hba hb1
        have j0 : (0 : Int) ≤ (j : Int) := by omega
        have j1 : (j : Int) < (xs.length : Int) := by omega
        clear haj
        by_cases hto : t.o = true
        · have HJ := Lib.hid (show Fares.jRun xs (k + 1) = if t.m - a.m ≤ 180 then (out ++ [⟨a.s, t.s, a.m, t.m, true⟩], none) else (out ++ [Fares.halfOf a, Fares.halfOf t], none) by rw [HN.out, ← HS.out]; unfold Fares.jStep; rw [hto]; dsimp only; rw [HA.out]; rfl)
          rw [hto] at p5 s0 s1 s2 s3 s4 s5 HownA hba r0 r1 r2 r3 r4 r5 hbwa hb1wa
          clear hto
          go_wp2
          generalize wr.alloc (.cells #[.int .i64 t.v, .int .i64 t.n, .int .i64 t.c, .int .i64 t.m, .int .i64 t.s, .bool true] 36) = wa at s0 s1 s2 s3 s4 s5 HownA hba r0 r1 r2 r3 r4 r5 hbwa hb1wa ⊢
          by_cases hc : t.m - a.m ≤ 180
          · rw [if_pos hc] at HJ
            go_quiet (fail)
            have HownD := Lib.hid (own_below (w := wa) HownA.out (bD (Below.refl _ _) nq))
            have hbd := bD hba nq
            replace r0 : (wa.drewN nq).cell? _ = _ := r0
            replace r1 : (wa.drewN nq).cell? _ = _ := r1
            replace r2 : (wa.drewN nq).cell? _ = _ := r2
            replace r3 : (wa.drewN nq).cell? _ = _ := r3
            replace r4 : (wa.drewN nq).cell? _ = _ := r4
            replace r5 : (wa.drewN nq).cell? _ = _ := r5
            replace s0 : (wa.drewN nq).cell? _ = _ := s0
            replace s1 : (wa.drewN nq).cell? _ = _ := s1
            replace s2 : (wa.drewN nq).cell? _ = _ := s2
            replace s3 : (wa.drewN nq).cell? _ = _ := s3
            replace s4 : (wa.drewN nq).cell? _ = _ := s4
            replace s5 : (wa.drewN nq).cell? _ = _ := s5
            replace hbwa : wr.heap.size < (wa.drewN nq).heap.size := hbwa
            replace hb1wa : b1 < (wa.drewN nq).heap.size := hb1wa
            clear hba HownA
            generalize wa.drewN nq = wd at r0 r1 r2 r3 r4 r5 s0 s1 s2 s3 s4 s5 hbwa hb1wa HownD hbd ⊢
            have hsd := hbd.size
            have HownB := Lib.hid (own_below (w := wd) HownD.out (bA (Below.refl _ _) (.cells #[.int .i64 a.v, .int .i64 a.n, .int .i64 a.c, .int .i64 a.m, .int .i64 a.s, .bool a.o] 36)))
            have hbB := bA hbd (.cells #[.int .i64 a.v, .int .i64 a.n, .int .i64 a.c, .int .i64 a.m, .int .i64 a.s, .bool a.o] 36)
            have HB2 := Lib.hid (TapBox.new wd a 36)
            obtain ⟨_, q0, q1, q2, q3, q4, q5⟩ := HB2.out
            have s3' := ((bA (Below.refl wd.heap.size wd) (.cells #[.int .i64 a.v, .int .i64 a.n, .int .i64 a.c, .int .i64 a.m, .int .i64 a.s, .bool a.o] 36)).cell hbwa).trans s3
            have s4' := ((bA (Below.refl wd.heap.size wd) (.cells #[.int .i64 a.v, .int .i64 a.n, .int .i64 a.c, .int .i64 a.m, .int .i64 a.s, .bool a.o] 36)).cell hbwa).trans s4
            go_wp2_with (at_builtin; refine wpList_append_lies _ rfl (.tmp 64) (.tmp 74) _ rfl w.heap.size 31 ti _ 5 40 Try.underlying26 HI.out HZ0.out HZ1.out HZ2.out rfl (by omega) _ _ _ rfl (World.ownsRow.alloc (w := (wd.alloc (.cells #[.int .i64 a.v, .int .i64 a.n, .int .i64 a.c, .int .i64 a.m, .int .i64 a.s, .bool a.o] 36))) (HownB.out) _) ⟨wd.heap.size + 1, 0, none⟩ 1 1 (journeyCells ⟨a.s, t.s, a.m, t.m, true⟩) rfl rfl ?c1 ?c2 (by omega) ?c3 ?c4 ?c5 _ rfl ?_)
            case c1 =>
              have hz : (wd.alloc (.cells #[.int .i64 a.v, .int .i64 a.n, .int .i64 a.c, .int .i64 a.m, .int .i64 a.s, .bool a.o] 36)).heap.size = wd.heap.size + 1 := by simp
              have hh := World.news_of_block (heap_alloc_new (wd.alloc (.cells #[.int .i64 a.v, .int .i64 a.n, .int .i64 a.c, .int .i64 a.m, .int .i64 a.s, .bool a.o] 36)) (.cells #[.int .i64 a.s, .int .i64 t.s, .int .i64 a.m, .int .i64 t.m, .bool true] 31))
              rw [hz] at hh
              exact hh
            case c2 => simp [journeyCells, Value.oneCell']
            case c3 => unfold maxLen; omega
            case c4 => omega
            case c5 => simp; omega
            intro g cap w2 hown2 hgrow hat hlt2
            have Hown2 := Lib.hid (OwnJourneys.snoc hown2)
            have hb5 : Below w.heap.size w w2 := Below.grown (bA hbB _) hgrow (by simp; omega) (fun r hr => (World.ownsRow.lt HownB.out r hr).1)
            clear hown2 hgrow hat
            go_wp2
            go_roundw
            case rel => exact ⟨k + 1, by omega, by go_num, by rw [HJ.out]; exact Hown2.out, by rw [HJ.out]; exact .inl ⟨rfl, rfl⟩, hb5⟩
            case measure => simp [intOf]; omega
          · rw [if_neg hc] at HJ
            go_quiet (fail)
            have HownD := Lib.hid (own_below (w := wa) HownA.out (bD (Below.refl _ _) nq))
            have hbd := bD hba nq
            replace r0 : (wa.drewN nq).cell? _ = _ := r0
            replace r1 : (wa.drewN nq).cell? _ = _ := r1
            replace r2 : (wa.drewN nq).cell? _ = _ := r2
            replace r3 : (wa.drewN nq).cell? _ = _ := r3
            replace r4 : (wa.drewN nq).cell? _ = _ := r4
            replace r5 : (wa.drewN nq).cell? _ = _ := r5
            replace s0 : (wa.drewN nq).cell? _ = _ := s0
            replace s1 : (wa.drewN nq).cell? _ = _ := s1
            replace s2 : (wa.drewN nq).cell? _ = _ := s2
            replace s3 : (wa.drewN nq).cell? _ = _ := s3
            replace s4 : (wa.drewN nq).cell? _ = _ := s4
            replace s5 : (wa.drewN nq).cell? _ = _ := s5
            replace hbwa : wr.heap.size < (wa.drewN nq).heap.size := hbwa
            replace hb1wa : b1 < (wa.drewN nq).heap.size := hb1wa
            clear hba HownA
            generalize wa.drewN nq = wd at r0 r1 r2 r3 r4 r5 s0 s1 s2 s3 s4 s5 hbwa hb1wa HownD hbd ⊢
            have hsd := hbd.size
            go_wp2
            refine wp_region_held_drew (S := fun w' => w'.cell? ⟨b1, o1 + j * 6, none⟩ = some (.int .i64 a.v) ∧ w'.cell? ⟨b1, o1 + j * 6 + 1, none⟩ = some (.int .i64 a.n) ∧ w'.cell? ⟨b1, o1 + j * 6 + 2, none⟩ = some (.int .i64 a.c) ∧ w'.cell? ⟨b1, o1 + j * 6 + 3, none⟩ = some (.int .i64 a.m) ∧ w'.cell? ⟨b1, o1 + j * 6 + 4, none⟩ = some (.int .i64 a.s) ∧ w'.cell? ⟨b1, o1 + j * 6 + 5, none⟩ = some (.bool a.o) ∧ w'.cell? ⟨wr.heap.size, 0, none⟩ = some (.int .i64 t.v) ∧ w'.cell? ⟨wr.heap.size, 1, none⟩ = some (.int .i64 t.n) ∧ w'.cell? ⟨wr.heap.size, 2, none⟩ = some (.int .i64 t.c) ∧ w'.cell? ⟨wr.heap.size, 3, none⟩ = some (.int .i64 t.m) ∧ w'.cell? ⟨wr.heap.size, 4, none⟩ = some (.int .i64 t.s) ∧ w'.cell? ⟨wr.heap.size, 5, none⟩ = some (.bool true)) (by kernel_rfl) (by exact ⟨r0, r1, r2, r3, r4, r5, s0, s1, s2, s3, s4, s5⟩) (fun hS => ?_)
            refine take_at 0 79 (v := ?_) rfl rfl (by kernel_rfl) (by kernel_rfl) (by kernel_rfl) (fun _ _ _ h => h) (by rfl) ?_ hS ?_
            rotate_left 1
            · (intro w hSw; (try dsimp only at hSw); (try go_split_ands); go_simp; try with_reducible rfl)
            simp only [List.setIfInBounds_toArray, List.set_cons_zero, List.set_cons_succ]
            refine take_at 1 80 (v := ?_) rfl rfl (by kernel_rfl) (by kernel_rfl) (by kernel_rfl) (fun _ _ _ h => h) (by rfl) ?_ hS ?_
            rotate_left 1
            · (intro w hSw; (try dsimp only at hSw); (try go_split_ands); go_simp; try with_reducible rfl)
            simp only [List.setIfInBounds_toArray, List.set_cons_zero, List.set_cons_succ]
            refine take_at 2 81 (v := ?_) rfl rfl (by kernel_rfl) (by kernel_rfl) (by kernel_rfl) (fun _ _ _ h => h) (by rfl) ?_ hS ?_
            rotate_left 1
            · (intro w hSw; (try dsimp only at hSw); (try go_split_ands); go_simp; try with_reducible rfl)
            simp only [List.setIfInBounds_toArray, List.set_cons_zero, List.set_cons_succ]
            refine take_at 3 82 (v := ?_) rfl rfl (by kernel_rfl) (by kernel_rfl) (by kernel_rfl) (fun _ _ _ h => h) (by rfl) ?_ hS ?_
            rotate_left 1
            · (intro w hSw; (try dsimp only at hSw); (try go_split_ands); go_simp; try with_reducible rfl)
            simp only [List.setIfInBounds_toArray, List.set_cons_zero, List.set_cons_succ]
            refine take_at 4 83 (v := ?_) rfl rfl (by kernel_rfl) (by kernel_rfl) (by kernel_rfl) (fun _ _ _ h => h) (by rfl) ?_ hS ?_
            rotate_left 1
            · (intro w hSw; (try dsimp only at hSw); (try go_split_ands); go_simp; try with_reducible rfl)
            simp only [List.setIfInBounds_toArray, List.set_cons_zero, List.set_cons_succ]
            refine take_at 6 85 (v := ?_) rfl rfl (by kernel_rfl) (by kernel_rfl) (by kernel_rfl) (fun _ _ _ h => h) (by rfl) ?_ hS ?_
            rotate_left 1
            · (intro w hSw; (try dsimp only at hSw); (try go_split_ands); go_simp; try with_reducible rfl)
            simp only [List.setIfInBounds_toArray, List.set_cons_zero, List.set_cons_succ]
            refine wpAnyH_ready (rs := [5]) (by kernel_rfl) (by simp) ?_
            refine AllReadyH.cons rfl (fun K hK => ?_) AllReadyH.nil
            go_simp
            go_wp2_with fail
            refine (half_any a _ _).mono ?_
            rintro e w1 ⟨rfl, hb3⟩
            have hbq : Below wd.heap.size wd w1 := bT (bD1 (Below.refl _ _)) hb3
            clear hb3
            go_simp
            refine hK.out _ _ (by refine ⟨?_, ?_, ?_, ?_, ?_, ?_, ?_, ?_, ?_, ?_, ?_, ?_⟩ <;> (exact (hbq.cell (by first | exact hbwa | exact hb1wa)).trans (by assumption))) (fun hS => ?_)
            clear hK K
            refine wpAnyH_ready (rs := [7]) (by kernel_rfl) (by simp) ?_
            refine AllReadyH.cons rfl (fun K hK => ?_) AllReadyH.nil
            go_simp
            go_wp2_with fail
            refine (half_any t _ _).mono ?_
            rintro e w3 ⟨rfl, hb3⟩
            have hbp : Below wd.heap.size wd w3 := bT hbq hb3
            clear hb3
            go_simp
            refine hK.out _ _ (by refine ⟨?_, ?_, ?_, ?_, ?_, ?_, ?_, ?_, ?_, ?_, ?_, ?_⟩ <;> (exact (hbp.cell (by first | exact hbwa | exact hb1wa)).trans (by assumption))) (fun hS => ?_)
            clear hK K
            refine wpAnyH_ready (rs := [8]) (by kernel_rfl) (by simp) ?_
            refine AllReadyH.cons rfl (fun K hK => ?_) AllReadyH.nil
            go_simp
            refine hK.out _ _ (by refine ⟨?_, ?_, ?_, ?_, ?_, ?_, ?_, ?_, ?_, ?_, ?_, ?_⟩ <;> (exact ((bA hbp _).cell (by first | exact hbwa | exact hb1wa)).trans (by assumption))) (fun hS => ?_)
            clear hK K
            refine wpAnyH_ready (rs := [9]) (by kernel_rfl) (by simp) ?_
            refine AllReadyH.cons rfl (fun K hK => ?_) AllReadyH.nil
            have Hown3 := Lib.hid (own_below (w := wd) HownD.out hbp)
            have hb6 : Below w.heap.size w w3 := bT hbd hbp
            have hs6 := hb6.size
            refine step_append_lies _ rfl (.tmp 79) (.tmp 87) _ rfl w.heap.size 31 ti _ 5 40 Try.underlying26 HI.out HZ0.out HZ1.out HZ2.out rfl (by omega) _ _ _ rfl (World.ownsRow.alloc (w := w3) Hown3.out _) ⟨w3.heap.size, 0, none⟩ 2 2 (journeyCells (Fares.halfOf a) ++ journeyCells (Fares.halfOf t)) rfl rfl ?c1 ?c2 (by omega) ?c3 ?c4 ?c5 _ rfl ?_
            case c1 => exact World.news_of_block (heap_alloc_new w3 (.cells #[.int .i64 a.s, .int .i64 a.s, .int .i64 a.m, .int .i64 a.m, .bool false, .int .i64 t.s, .int .i64 t.s, .int .i64 t.m, .int .i64 t.m, .bool false] 31))
            case c2 => simp [journeyCells, Value.oneCell']
            case c3 => unfold maxLen; omega
            case c4 => omega
            case c5 => simp; omega
            intro g cap w2 hown2 hgrow hat hlt2
            have hb5 : Below w.heap.size w w2 := Below.grown (bA hb6 _) hgrow (by simp; omega) (fun r hr => (World.ownsRow.lt Hown3.out r hr).1)
            have hpz := hbp.size
            have hcz : ∀ q i, (q = wr.heap.size ∨ q = b1) → w2.cell? ⟨q, i, none⟩ = wd.cell? ⟨q, i, none⟩ := fun q i hq => (cell_grown hgrow (p := ⟨q, i, none⟩) (by show q < _; simp; rcases hq with rfl | rfl <;> omega) (fun e => by
              have h1 := World.ownsRow.lt Hown.out _ e.symm
              simp only at h1
              rcases hq with rfl | rfl <;> omega)).trans ((bA hbp _).cell (by show q < _; rcases hq with rfl | rfl <;> omega))
            have Hown2 := Lib.hid (show OwnJourneys w2 w.heap.size (.slice (some ⟨g, 0, none⟩) (out.length + 2) cap) (out ++ [Fares.halfOf a, Fares.halfOf t]) by unfold OwnJourneys; simpa using hown2)
            clear hown2 hat
            go_simp
            refine hK.out _ _ (by refine ⟨?_, ?_, ?_, ?_, ?_, ?_, ?_, ?_, ?_, ?_, ?_, ?_⟩ <;> first | exact (hcz _ _ (.inl rfl)).trans (by assumption) | exact (hcz _ _ (.inr rfl)).trans (by assumption)) (fun hS => ?_)
            clear hK K
            refine take_at 10 3 (v := ?_) rfl rfl (by kernel_rfl) (by kernel_rfl) (by kernel_rfl) (fun _ _ _ h => h) (by rfl) ?_ hS ?_
            rotate_left 1
            · (intro w hSw; (try dsimp only at hSw); (try go_split_ands); go_simp; try with_reducible rfl)
            simp only [List.setIfInBounds_toArray, List.set_cons_zero, List.set_cons_succ]
            refine wpAnyH_done (by kernel_rfl) ?_ _
            go_wp2
            go_roundw
            case rel => exact ⟨k + 1, by omega, by go_num, by rw [HJ.out]; exact Hown2.out, by rw [HJ.out]; exact .inl ⟨rfl, rfl⟩, hb5⟩
            case measure => simp [intOf]; omega
        · have hto' : t.o = false := by simpa using hto
          clear hto
          have HJ := Lib.hid (show Fares.jRun xs (k + 1) = (out ++ [Fares.halfOf a], some k) by rw [HN.out, ← HS.out]; unfold Fares.jStep; rw [hto']; dsimp only; rw [HA.out]; rfl)
          clear hbwa hb1wa
          rw [hto'] at p5 s0 s1 s2 s3 s4 s5 HownA hba r0 r1 r2 r3 r4 r5
          go_wp2_with fail
          generalize wr.alloc (.cells #[.int .i64 t.v, .int .i64 t.n, .int .i64 t.c, .int .i64 t.m, .int .i64 t.s, .bool false] 36) = wa at s0 s1 s2 s3 s4 s5 HownA hba r0 r1 r2 r3 r4 r5 ⊢
          refine (half_any a _ _).mono ?_
          rintro e w1 ⟨rfl, hb3⟩
          have hb4 : Below w.heap.size w w1 := bT (hba) hb3
          have Hown1 := Lib.hid (own_below (w := wa) (HownA.out) hb3)
          have hs4 := hb4.size
          clear hb3
          go_wp2_with (at_builtin; refine wpList_append_lies _ rfl (.tmp 32) (.tmp 38) _ rfl w.heap.size 31 ti _ 5 40 Try.underlying26 HI.out HZ0.out HZ1.out HZ2.out rfl (by omega) _ _ _ rfl (World.ownsRow.alloc (w := w1) (Hown1.out) _) ⟨(w1).heap.size, 0, none⟩ 1 1 (journeyCells (Fares.halfOf a)) rfl rfl ?c1 ?c2 (by omega) ?c3 ?c4 ?c5 _ rfl ?_)
          case c1 => exact World.news_of_block (heap_alloc_new (w1) (.cells #[.int .i64 a.s, .int .i64 a.s, .int .i64 a.m, .int .i64 a.m, .bool false] 31))
          case c2 => simp [journeyCells, Value.oneCell']
          case c3 => unfold maxLen; omega
          case c4 => omega
          case c5 => simp; omega
          intro g cap w2 hown2 hgrow hat hlt2
          have Hown2 := Lib.hid (OwnJourneys.snoc hown2)
          have hb5 : Below w.heap.size w w2 := Below.grown (bA hb4 _) hgrow (by simp; omega) (fun r hr => (World.ownsRow.lt Hown1.out r hr).1)
          clear hown2 hgrow hat
          go_wp2
          go_roundw
          case rel => exact ⟨k + 1, by omega, by go_num, by rw [HJ.out]; exact Hown2.out, by rw [HJ.out]; exact .inr ⟨k, rfl, rfl⟩, hb5⟩
          case measure => simp [intOf]; omega
    · have hke : k = xs.length := by omega
      subst hke
      obtain ⟨S, hS⟩ : ∃ S, S = Fares.jRun xs xs.length := ⟨_, rfl⟩
      rw [← hS] at hown hop hfit
      obtain ⟨out, oo⟩ := S
      have HS := Lib.hid hS; clear hS
      dsimp only at hown hop
      rcases hop with ⟨rfl, rfl⟩ | ⟨j, rfl, rfl⟩
      · have HJ := Lib.hid (show Fares.journeysOf xs = out by unfold Fares.journeysOf; rw [← HS.out])
        go_wp2
        exact bodyPost_ret (v := _) (by simp [results, Try.results28, go_sem]; rfl) rfl ⟨_, rfl, by rw [HJ.out]; exact hown, hb⟩
      · have hjk : j < xs.length := hfit.1 j rfl
        have hfo : out.length + 1 ≤ xs.length := by have := hfit.2; simpa [Fares.openN] using this
        clear hfit
        obtain ⟨b1, o1, rfl, hb1, hr1⟩ := hx.row (by omega)
        obtain ⟨a, haj⟩ : ∃ a, xs[j]? = some a := ⟨_, List.getElem?_eq_getElem (by omega)⟩
        have HA := Lib.hid haj
        obtain ⟨r0, r1, r2, r3, r4, r5⟩ := (hr1 j a haj).below hb hb1
        have j0 : (0 : Int) ≤ (j : Int) := by omega
        have j1 : (j : Int) < (xs.length : Int) := by omega
        have Hown := Lib.hid hown; clear hown
        clear haj hr1 hx
        have HJ := Lib.hid (show Fares.journeysOf xs = out ++ [Fares.halfOf a] by unfold Fares.journeysOf; rw [← HS.out]; dsimp only; rw [HA.out])
        go_wp2_with fail
        refine (half_any a _ _).mono ?_
        rintro e w1 ⟨rfl, hb3⟩
        have hb4 : Below w.heap.size w w1 := bT (hb) hb3
        have Hown1 := Lib.hid (own_below (w := wr) (Hown.out) hb3)
        have hs4 := hb4.size
        clear hb3
        go_wp2_with (at_builtin; refine wpList_append_lies _ rfl (.tmp 91) (.tmp 97) _ rfl w.heap.size 31 ti _ 5 40 Try.underlying26 HI.out HZ0.out HZ1.out HZ2.out rfl (by omega) _ _ _ rfl (World.ownsRow.alloc (w := w1) (Hown1.out) _) ⟨(w1).heap.size, 0, none⟩ 1 1 (journeyCells (Fares.halfOf a)) rfl rfl ?c1 ?c2 (by omega) ?c3 ?c4 ?c5 _ rfl ?_)
        case c1 => exact World.news_of_block (heap_alloc_new (w1) (.cells #[.int .i64 a.s, .int .i64 a.s, .int .i64 a.m, .int .i64 a.m, .bool false] 31))
        case c2 => simp [journeyCells, Value.oneCell']
        case c3 => unfold maxLen; omega
        case c4 => omega
        case c5 => simp; omega
        intro g cap w2 hown2 hgrow hat hlt2
        have Hown2 := Lib.hid (OwnJourneys.snoc hown2)
        have hb5 : Below w.heap.size w w2 := Below.grown (bA hb4 _) hgrow (by simp; omega) (fun r hr => (World.ownsRow.lt Hown1.out r hr).1)
        clear hown2 hgrow hat
        go_wp2
        exact bodyPost_ret (v := .slice (some ⟨g, 0, none⟩) (out.length + 1) cap) (by simp [results, Try.results28, go_sem]) rfl ⟨_, rfl, by rw [HJ.out]; exact Hown2.out, hb5⟩
end Go.Proofs.Ytllhjgheffemnaa
