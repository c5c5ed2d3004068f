/-
  The arguments of RunEvents, drawn.
-/
import Derived.Test.YtpdlngekeeaocabDoorDrawsSum
import Derived.Deep.AppendLies
set_option linter.unusedSimpArgs false
namespace Go.Proofs.YtpdlngekeeaocabDoor
open Go.RowKit Go.Deep
set_option linter.unusedVariables false

def DrawsRun (w : World) (r : Ending) (w' : World) : Prop :=
  ∃ (x : Fares.Sum) (A : Option Addr) (c : Nat) (l : List Fares.Event), r = .returned (.tuple #[.agg #[.int .i64 x.s, .int .i64 x.a, .int .i64 x.t], .slice A l.length c]) ∧ aggSmall x ∧ l.length ≤ 21 ∧ l.length ≤ c ∧ c ≤ maxLen ∧ (∀ e ∈ l, evtSmall e) ∧ Events w' w'.heap.size A l ∧ (A = none ∧ c = 0 ∨ ∃ g, A = some ⟨g, 0, none⟩) ∧ Below w.heap.size w w'
theorem info_event2 : (Tryd.prog.info? 26).map (fun i => (i.zero, i.size, i.bytes)) = some (some (.agg #[.int .i64 0, .int .i64 0]), 2, 16) := by kernel_rfl
theorem reads_far {w : World} {B : Nat} {A : Option Addr} {vs : List Value} {base : Nat} (h : Reads w B A vs) (hA : ∀ a, A = some a → base ≤ a.block) {p : Addr} (hp : p.block < base) (u : Value) : Reads (w.setCell p u) B A vs := fun hn => by
  obtain ⟨a, e, hb, hc⟩ := h hn
  refine ⟨a, e, hb, fun i u' hu => ?_⟩
  rw [World.cell?_setCell_other w p _ u (by intro e2; have := congrArg Addr.block e2; rw [add_block] at this; have := hA a e; omega)]
  exact hc i u' hu
theorem own_lies {w : World} {base size n m c : Nat} {t : TypeId} {A : Option Addr} {xs : List Value} (h : w.ownsRow base t size (.slice A m c) n xs) : A = none ∧ c = 0 ∨ ∃ g, A = some ⟨g, 0, none⟩ := by
  rcases h.2 with ⟨h, _⟩ | ⟨g, cap, cur, h, _⟩
  · injection h with h1 h2 h3; exact .inl ⟨h1, h3⟩
  · injection h with h1; exact .inr ⟨g, h1⟩
theorem own_addr {w : World} {base size n m c : Nat} {t : TypeId} {A : Option Addr} {xs : List Value} (h : w.ownsRow base t size (.slice A m c) n xs) : ∀ a, A = some a → base ≤ a.block := fun a e => by
  subst e
  rcases h.2 with ⟨h, _⟩ | ⟨g, cap, cur, h, hb, _⟩
  · injection h with h; cases h
  · injection h with h1; injection h1 with h1; subst h1; exact hb
set_option maxRecDepth 100000 in
set_option maxHeartbeats 4000000 in
theorem drawRunEvents_any (A : Option Addr) (n c : Nat) (w : World) (h : Bytes w w.heap.size A n c) : Calls Tryd.prog 14 #[.slice A n c] w (DrawsRun w) := by
  obtain ⟨ti, hi0, hz0, hz1, hz2⟩ := info_parts info_event2
  have HI := Lib.hid hi0; clear hi0
  have HZ0 := Lib.hid hz0; clear hz0
  have HZ1 := Lib.hid hz1; clear hz1
  have HZ2 := Lib.hid hz2; clear hz2
  go_enter Tryd.func14, Tryd.ntmps14
  go_wp2_with fail
  generalize hW : World.alloc _ _ = W0
  have h0 : Bytes W0 W0.heap.size A n c := by rw [← hW]; exact (Bytes.alloc' h _)
  have hRR0 : Blk W0 (w.heap.size) 24 (AggR.cells (⟨0, 0, 0⟩ : Fares.Sum)) := by rw [← hW]; exact Blk.new' (by simp)
  have hc0 : Below w.heap.size w W0 := by rw [← hW]; exact bA (Below.refl _ _) _
  have hs0 : W0.heap.size = w.heap.size + 1 := by rw [← hW]; simp
  clear hW
  refine (newReader_any A n c W0 h0).mono ?_
  rintro e w1 ⟨rfl, hr1, hb1, hz1'⟩
  have hRR1 := Lib.hid (hRR0.belowAll hb1)
  have HB1 := Lib.hid (bT hc0 hb1)
  have hz1 : w.heap.size + 1 ≤ w1.heap.size := by have := hb1.size; omega
  clear hRR0 hb1 h0 hc0
  rw [hs0] at hr1
  rw [hs0]
  clear hs0 hz1'
  have Hr1 := Lib.hid hr1; clear hr1
  have hgl1 : w.heap.size + 1 < w1.heap.size := Hr1.out.lt
  go_wp2_with fail
  refine (anySum_any (w.heap.size + 1) (0) _ Hr1.out (by omega)).mono ?_
  rintro e w2 ⟨x, q, rfl, hsm, hq, hr2, hg2⟩
  have hz2 : w1.heap.size ≤ w2.heap.size := by have := hg2.size; (try simp at this); omega
  have HR2 := Lib.hid (Blk.grown hRR1.out hg2 (by intro e; injection e with e; omega))
  clear hRR1
  have HB2 := Lib.hid (Touch.below HB1.out (Touch.of_grown hg2) (fun i hi => by injection hi with hi; omega))
  clear HB1
  clear hg2
  clear Hr1
  have Hrd2 := Lib.hid hr2; clear hr2
  have hgl2 : (w.heap.size + 1) < w2.heap.size := (Hrd2.out).lt
  have Hsm := Lib.hid hsm; clear hsm
  go_wp2_with fail
  generalize hW : World.alloc _ _ = w3
  have hX : Blk w3 w2.heap.size 24 (AggR.cells x) := by rw [← hW]; exact ((Blk.new w2 _ _).alloc _).alloc _
  have hU : OwnEvents w3 (w2.heap.size + 1) (.slice (some ⟨w2.heap.size + 1, 0, none⟩) 0 0) [] := by
    rw [← hW]
    have := World.ownsRow.alloc (World.ownsRow_lit (base := w2.heap.size + 1) (e := 26) (size := 2) (w2.alloc (.cells #[.int .i64 x.s, .int .i64 x.a, .int .i64 x.t] 24)) #[] 0 (by simp) (by unfold maxLen; omega) rfl) (.cells #[.int .i64 5, .int .i64 8, .int .i64 4, .int .i64 12, .int .i64 0, .int .i64 20, .int .i64 21] 3)
    simpa [OwnEvents] using this
  have hN : Blk w3 (w2.heap.size + 1 + 1) 3 #[.int .i64 5, .int .i64 8, .int .i64 4, .int .i64 12, .int .i64 0, .int .i64 20, .int .i64 21] := by rw [← hW]; exact Blk.new' (by simp)
  have hb3 : Below w2.heap.size w2 w3 := by rw [← hW]; exact bA (bA (bA (Below.refl _ _) _) _) _
  have hy3 : w2.heap.size + 1 + 1 < w3.heap.size := by rw [← hW]; simp
  clear hW
  have hz3 : w2.heap.size ≤ w3.heap.size := by have := hb3.size; (try simp at this); omega
  have Hrd3 := Lib.hid (Rd.belowAll Hrd2.out hb3)
  clear Hrd2
  have HR3 := Lib.hid (Blk.belowAll HR2.out hb3)
  clear HR2
  have HB3 := Lib.hid (bT HB2.out hb3)
  clear HB2
  clear hb3
  have HbX := Lib.hid hX; clear hX
  have LTU := Lib.hid (fun k hk => (World.ownsRow.lt hU k hk).1)
  have UPU := Lib.hid (fun k hk => (World.ownsRow.lt hU k hk).2)
  have HoU := Lib.hid hU; clear hU
  refine (one_in (w.heap.size + 1) (q) _ [5, 8, 4, 12, 0, 20, 21] 0 21 7 7 _ _ Hrd3.out (by omega) hN (by omega) rfl rfl (by omega) (by omega) (by decide)).mono ?_
  rintro e w4 ⟨nn, rfl, nn0, nn1, hr4, hg4⟩
  have hz4 : w3.heap.size ≤ w4.heap.size := by have := hg4.size; (try simp at this); omega
  have HR4 := Lib.hid (Blk.grown HR3.out hg4 (by intro e; injection e with e; omega))
  clear HR3
  have HB4 := Lib.hid (Touch.below HB3.out (Touch.of_grown hg4) (fun i hi => by injection hi with hi; omega))
  clear HB3
  have HX4 := Lib.hid (Blk.grown HbX.out hg4 (by intro e; injection e with e; omega))
  clear HbX
  have HU4 := Lib.hid (ownTouch HoU.out (Touch.of_grown hg4) (fun i hi e0 => by injection e0 with e0; have a1 := LTU.out _ hi; omega))
  clear HoU
  clear hg4
  clear Hrd3
  have Hrd4 := Lib.hid hr4; clear hr4
  have hgl4 : (w.heap.size + 1) < w4.heap.size := (Hrd4.out).lt
  clear hN
  obtain ⟨nk, rfl⟩ := Int.eq_ofNat_of_zero_le nn0
  go_wp2
  go_loopw [6, 7] (fun v i wr => ∃ (ys : List Fares.Event) (k q : Nat), OwnEvents wr (w2.heap.size + 1) v ys ∧ ys.length + k ≤ 21 ∧ i = .int .i64 k ∧ (∀ e ∈ ys, evtSmall e) ∧ q + 2 * k ≤ 200 ∧ Blk wr w2.heap.size 24 (AggR.cells x) ∧ Blk wr w.heap.size 24 (AggR.cells (⟨0, 0, 0⟩ : Fares.Sum)) ∧ Rd wr (w.heap.size + 1) q ∧ Below w.heap.size w wr) (fun _ i _ => (intOf i).toNat)
  case atStart => exact ⟨[], nk, q + 1, HU4.out, by simp; omega, rfl, (fun e he => by cases he), by omega, HX4.out, HR4.out, Hrd4.out, HB4.out⟩
  case round =>
    obtain ⟨ys, k, q, hU, hk, rfl, hev, hqk, hX, hR, hrd, hB⟩ := hrel
    have Hev := Lib.hid hev; clear hev
    have HX := Lib.hid hX; clear hX
    have HR := Lib.hid hR; clear hR
    have Hrd := Lib.hid hrd; clear hrd
    have HB := Lib.hid hB; clear hB
    have hz20 := HX.out.lt
    have LTV := Lib.hid (fun k hk => (World.ownsRow.lt hU k hk).1)
    have UPV := Lib.hid (fun k hk => (World.ownsRow.lt hU k hk).2)
    have HoV := Lib.hid hU; clear hU
    by_cases hk0 : 0 < k
    · have hk1 : (0 : Int) < (k : Int) := by omega
      obtain ⟨k', rfl⟩ : ∃ k', k = k' + 1 := ⟨k - 1, by omega⟩
      go_wp2_with fail
      refine (anyEvent_any (w.heap.size + 1) (q) _ Hrd.out (by omega)).mono ?_
      rintro e w21 ⟨ev, q1, rfl, hev, hq1, hr21, hg21⟩
      have hz21 : wr.heap.size ≤ w21.heap.size := by have := hg21.size; (try simp at this); omega
      have HR21 := Lib.hid (Blk.grown HR.out hg21 (by intro e; injection e with e; omega))
      clear HR
      have HX21 := Lib.hid (Blk.grown HX.out hg21 (by intro e; injection e with e; omega))
      clear HX
      have HB21 := Lib.hid (Touch.below HB.out (Touch.of_grown hg21) (fun i hi => by injection hi with hi; omega))
      clear HB
      have HV21 := Lib.hid (ownTouch HoV.out (Touch.of_grown hg21) (fun i hi e0 => by injection e0 with e0; have a1 := LTV.out _ hi; omega))
      clear HoV
      clear hg21
      clear Hrd
      have Hrd21 := Lib.hid hr21; clear hr21
      have hgl21 : (w.heap.size + 1) < w21.heap.size := (Hrd21.out).lt
      have hgs := Below.size HB21.out
      have hxl := Blk.lt HX21.out
      go_wp2_with (at_builtin; refine wpList_append_lies _ rfl (.tmp 20) (.tmp 23) _ rfl (w2.heap.size + 1) 26 ti _ 2 16 Tryd.underlying33 HI.out HZ0.out HZ1.out HZ2.out rfl (by omega) _ _ _ rfl (World.ownsRow.alloc HV21.out _) ⟨w21.heap.size, 0, none⟩ 1 1 (eventCells ev) rfl rfl ?c1 ?c2 (by omega) ?c3 ?c4 ?c5 _ rfl ?_)
      case c1 => exact World.news_of_block (heap_alloc_new w21 (.cells #[.int .i64 ev.k, .int .i64 ev.a] 26))
      case c2 => simp [eventCells, Value.oneCell']
      case c3 => unfold maxLen; omega
      case c4 => omega
      case c5 => first | omega | (simp; omega) | simp
      intro gb cap w9 hown9 hgrow hat hlt4
      have Hown9 := Lib.hid (OwnEvents.snoc hown9)
      have hb9 := Below.grown (bA HB21.out _) hgrow (Below.size (bA HB21.out _)) (fun r hr => by have := (World.ownsRow.lt HV21.out r hr).1; omega)
      have hr9 := Rd.grown_new (Rd.alloc Hrd21.out _) hgrow (fun r hr => by have := (World.ownsRow.lt HV21.out r hr).1; omega)
      have hX9 := Blk.grown (Blk.alloc HX21.out _) hgrow (by intro e; have := (World.ownsRow.lt HV21.out _ e.symm).1; omega)
      have hR9 := Blk.grown (Blk.alloc HR21.out _) hgrow (by intro e; have := (World.ownsRow.lt HV21.out _ e.symm).1; omega)
      have H9 := Lib.hid (And.intro hb9 (And.intro hr9 (And.intro hX9 hR9)))
      clear hown9 hgrow hat hb9 hr9 hX9 hR9
      go_wp2
      go_roundw
      case rel => exact ⟨ys ++ [ev], k', q1, Hown9.out, by simp; omega, by go_num, (fun e he => by
        rcases List.mem_append.1 he with h | h
        · exact Hev.out e h
        · simp at h; subst h; exact hev), by omega, H9.out.2.2.1, H9.out.2.2.2, H9.out.2.1, H9.out.1⟩
      case measure => simp [intOf]
    · have hk1 : decide ((0 : Int) < (k : Int)) = false := decide_eq_false (by omega)
      have hfo := HoV.out
      obtain ⟨A2, c2, rfl, hc1, hc2, hrs⟩ := OwnEvents.form hfo
      have HA2 := Lib.hid (own_addr hfo)
      have HA3 := Lib.hid (own_lies hfo); clear hfo
      have Hrs := Lib.hid hrs; clear hrs
      obtain ⟨cX20_0, cX20_1, cX20_2⟩ := aggCells (t := 24) (v := x) HX.out
      obtain ⟨cR20_0, cR20_1, cR20_2⟩ := aggCells (t := 24) (v := (⟨0, 0, 0⟩ : Fares.Sum)) HR.out
      have frR20_0 := (HR.out).free 0
      have frR20_1 := (HR.out).free 1
      have frR20_2 := (HR.out).free 2
      go_wp2
      generalize hW : World.setCell _ _ _ = w21
      have hE21 : Events w21 w21.heap.size A2 ys := by rw [← hW]; exact Reads.more (reads_far (reads_far (reads_far Hrs.out HA2.out (by show w.heap.size < _; omega) _) HA2.out (by show w.heap.size < _; omega) _) HA2.out (by show w.heap.size < _; omega) _) (by simp)
      have ht21 : Touch (fun i => i = w.heap.size) wr w21 := by rw [← hW]; exact (Touch.far (K := fun i => i = w.heap.size) (Touch.far (K := fun i => i = w.heap.size) (Touch.far (K := fun i => i = w.heap.size) (Touch.refl _ _) (p := ⟨w.heap.size, 0, none⟩) rfl _) (p := ⟨w.heap.size, 1, none⟩) rfl _) (p := ⟨w.heap.size, 2, none⟩) rfl _)
      have hbx21 : Blk w21 (w.heap.size) 24 (AggR.cells x) := by rw [← hW]; exact (Blk.put (Blk.put (Blk.put HR.out 0 (.int .i64 x.s)) 1 (.int .i64 x.a)) 2 (.int .i64 x.t))
      clear hW
      clear cX20_0 cX20_1 cX20_2 cR20_0 cR20_1 cR20_2 frR20_0 frR20_1 frR20_2
      have hz21 : wr.heap.size ≤ w21.heap.size := by have := ht21.size; (try simp at this); omega
      have HX21 := Lib.hid (Blk.touch HX.out ht21 (show ¬ (w2.heap.size = w.heap.size) by omega))
      clear HX
      have HB21 := Lib.hid (Touch.below HB.out ht21 (fun i hi => by omega))
      clear HB
      clear ht21 HR
      have Hbx21 := Lib.hid hbx21; clear hbx21
      obtain ⟨z0, z1, z2⟩ := aggCells Hbx21.out
      exact bodyPost_ret (v := .tuple #[.agg #[.int .i64 x.s, .int .i64 x.a, .int .i64 x.t], .slice A2 ys.length c2]) (by simp [results, Tryd.results14, go_sem, z0, z1, z2]) rfl ⟨x, A2, c2, ys, rfl, Hsm.out, by omega, hc1, hc2, Hev.out, hE21, HA3.out, HB21.out⟩
end Go.Proofs.YtpdlngekeeaocabDoor
