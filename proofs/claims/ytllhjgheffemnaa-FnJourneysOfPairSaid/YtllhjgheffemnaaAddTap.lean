/-
  The model's AddTap: what is known, the place of a tap.
-/
import Derived.Test.YtllhjgheffemnaaAddMath
import Derived.Test.YtllhjgheffemnaaTapValid2
import Derived.Deep.AppendLies
set_option linter.unusedSimpArgs false
namespace Go.Proofs.Ytllhjgheffemnaa
open Go.RowKit Go.Deep
set_option linter.unusedVariables false

theorem info_tap3 : (Try.prog.info? 36).map (fun i => (i.zero, i.size, i.bytes)) = some (some (.agg #[.int .i64 0, .int .i64 0, .int .i64 0, .int .i64 0, .int .i64 0, .bool false]), 6, 48) := by kernel_rfl

set_option maxRecDepth 100000 in
set_option maxHeartbeats 1000000 in
theorem specknown_any (A : Option Addr) (n c : Nat) (xs : List Fares.Tap) (t : Fares.Tap) (w : World) (hx : Taps w w.heap.size A xs) (hn : xs.length = n) (hl : n ≤ 1000000000) :
    Calls Try.prog 58 #[.slice A n c, tapV t] w fun e w' => e = .returned (.bool (Fares.known xs t)) ∧ Below w.heap.size w w' := by
  subst hn
  unfold tapV
  go_enter Try.func58, Try.ntmps58
  go_wp2
  go_loopw [5] (fun i wr => ∃ k : Nat, k ≤ xs.length ∧ i = .int .i64 k ∧ Below w.heap.size w wr ∧ TapBox wr w.heap.size t ∧ Fares.known (xs.take k) t = false) (fun i _ => xs.length - (intOf i).toNat)
  case atStart => exact ⟨0, Nat.zero_le _, rfl, bA (Below.refl _ _) _, TapBox.new w t _, by simp [Fares.known]⟩
  case round =>
    obtain ⟨k, hk, rfl, hb, hbx, he⟩ := hrel
    have He := Lib.hid he; clear he
    have HBX := Lib.hid hbx; clear hbx
    by_cases hlt : k < xs.length
    · obtain ⟨x, hxk⟩ : ∃ x, xs[k]? = some x := ⟨xs[k], List.getElem?_eq_getElem hlt⟩
      obtain ⟨b1, o1, rfl, hb1, hr1⟩ := hx.row (by omega)
      obtain ⟨p0, p1, p2, p3, p4, p5⟩ := (hr1 k x hxk).below hb hb1
      obtain ⟨hbl, q0, q1, q2, q3, q4, q5⟩ := HBX.out
      have Hx := Lib.hid hxk; clear hxk
      clear hr1 hx
      have i0 : (0 : Int) ≤ (k : Int) := by omega
      have i1 : (k : Int) < (xs.length : Int) := by omega
      by_cases h0 : Fares.sameTap x t = true
      · go_wp2
        go_still_tail 5, (by kernel_rfl)
        change wpList _ _ _ _ _ wr.drew
        go_wp2_with fail
        refine (sameTap_any x t _).mono ?_
        rintro e w1 ⟨rfl, hb3⟩
        rw [h0]
        have hb4 : Below w.heap.size w w1 := bT (bD1 hb) hb3
        go_wp2
        go_ret
        exact ⟨ret_bool (by
          refine (List.any_eq_true.2 ⟨x, List.mem_of_getElem? Hx.out, ?_⟩).symm
          exact h0), hb4⟩
      · have h0' : Fares.sameTap x t = false := by simpa using h0
        clear h0
        have H0 := Lib.hid h0'
        go_wp2
        go_still_tail 5, (by kernel_rfl)
        change wpList _ _ _ _ _ wr.drew
        go_wp2_with fail
        refine (sameTap_any x t _).mono ?_
        rintro e w1 ⟨rfl, hb3⟩
        rw [h0']
        have hb4 : Below w.heap.size w w1 := bT (bD1 hb) hb3
        have hbx1 : TapBox w1 w.heap.size t := (show TapBox wr.drew w.heap.size t from HBX.out).below hb3 hbl
        clear h0'
        go_wp2
        go_roundw
        case rel => exact ⟨k + 1, by omega, by go_num, hb4, hbx1, by rw [Fares.known_take_succ Hx.out, He.out, H0.out]; rfl⟩
        case measure => simp [intOf]; omega
    · go_wp2
      go_ret
      exact ⟨ret_bool (by have := He.out; rw [List.take_of_length_le (by omega)] at this; exact this.symm), hb⟩

theorem TapBox.grown {w w' : World} {b : Nat} {t : Fares.Tap} {row : Option Nat} (h : TapBox w b t) (hg : w.grownBy w' row) (hne : some b ≠ row) : TapBox w' b t := by
  obtain ⟨hl, h0, h1, h2, h3, h4, h5⟩ := h
  have hc : ∀ i, w'.cell? ⟨b, i, none⟩ = w.cell? ⟨b, i, none⟩ := fun i => cell_grown hg (p := ⟨b, i, none⟩) hl hne
  exact ⟨Nat.lt_of_lt_of_le hl hg.size, (hc 0).trans h0, (hc 1).trans h1, (hc 2).trans h2, (hc 3).trans h3, (hc 4).trans h4, (hc 5).trans h5⟩

set_option maxRecDepth 100000 in
set_option maxHeartbeats 2000000 in
theorem specinsert_any (A : Option Addr) (n c : Nat) (xs : List Fares.Tap) (t : Fares.Tap) (w : World) (hx : Taps w w.heap.size A xs) (hn : xs.length = n) (hl : n ≤ 24) :
    Calls Try.prog 59 #[.slice A n c, tapV t] w fun e w' => ∃ v, e = .returned v ∧ OwnTaps w' w.heap.size v (Fares.insertTap xs t) ∧ Below w.heap.size w w' := by
  subst hn
  obtain ⟨ti, hi0, hz0, hz1, hz2⟩ := info_parts info_tap3
  have HI := Lib.hid hi0; clear hi0
  have HZ0 := Lib.hid hz0; clear hz0
  have HZ1 := Lib.hid hz1; clear hz1
  have HZ2 := Lib.hid hz2; clear hz2
  obtain ⟨F, hF⟩ : ∃ F : List Fares.Tap → List Fares.Tap, F = fun l => l.filter (fun o => Fares.earlier o t) := ⟨_, rfl⟩
  obtain ⟨G, hG⟩ : ∃ G : List Fares.Tap → List Fares.Tap, G = fun l => l.filter (fun o => Fares.earlier t o) := ⟨_, rfl⟩
  have HFn := Lib.hid (fun (k : Nat) (x : Fares.Tap) (h : xs[k]? = some x) => (show F (xs.take (k + 1)) = F (xs.take k) ++ (if Fares.earlier x t then [x] else []) by rw [hF]; exact Fares.filterT_next h _))
  have HGn := Lib.hid (fun (k : Nat) (x : Fares.Tap) (h : xs[k]? = some x) => (show G (xs.take (k + 1)) = G (xs.take k) ++ (if Fares.earlier t x then [x] else []) by rw [hG]; exact Fares.filterT_next h _))
  have HFl := Lib.hid (fun (k : Nat) => (show (F (xs.take k)).length ≤ k by rw [hF]; exact Fares.filterT_length_le xs k _))
  have HGl := Lib.hid (fun (k : Nat) => (show (G (xs.take k)).length ≤ k by rw [hG]; exact Fares.filterT_length_le xs k _))
  have HFl2 := Lib.hid (show (F xs).length ≤ 24 by have := HFl.out xs.length; rw [List.take_length] at this; omega)
  obtain ⟨K, hK⟩ : ∃ K : Nat → List Fares.Tap, K = fun k => F xs ++ [t] ++ G (xs.take k) := ⟨_, rfl⟩
  have HKn := Lib.hid (fun (k : Nat) (x : Fares.Tap) (h : xs[k]? = some x) => (show K (k + 1) = K k ++ (if Fares.earlier t x then [x] else []) by rw [hK]; dsimp only; rw [HGn.out k x h]; simp only [List.append_assoc]))
  have HKl := Lib.hid (fun (k : Nat) => (show (K k).length ≤ 25 + k by
    rw [hK]
    have h1 := HFl2.out
    have h2 := HGl.out k
    simp only [List.length_append, List.length_cons, List.length_nil]
    omega))
  have HK0 := Lib.hid (show K 0 = F xs ++ [t] by rw [hK, hG]; simp)
  have HR := Lib.hid (show Fares.insertTap xs t = K xs.length by rw [hK, hF, hG]; dsimp only; rw [List.take_length]; rfl)
  clear hK
  have HF0 := Lib.hid (show F (xs.take 0) = [] by rw [hF]; simp)
  clear hF hG
  unfold tapV
  go_enter Try.func59, Try.ntmps59
  go_wp2
  go_loopw [6, 5] (fun i v wr => ∃ k : Nat, k ≤ xs.length ∧ i = .int .i64 k ∧ OwnTaps wr (w.heap.size + 1) v (F (xs.take k)) ∧ TapBox wr w.heap.size t ∧ Below w.heap.size w wr) (fun i _ _ => xs.length - (intOf i).toNat)
  case atStart => exact ⟨0, Nat.zero_le _, rfl, (by
    rw [HF0.out]
    have h := World.ownsRow_lit (base := w.heap.size + 1) (e := 36) (size := 6) (w.alloc (.cells #[.int .i64 t.v, .int .i64 t.n, .int .i64 t.c, .int .i64 t.m, .int .i64 t.s, .bool t.o] 36)) #[] 0 (by simp) (by unfold maxLen; omega) rfl
    rw [World.size_alloc] at h
    exact h), (TapBox.new w t 36).below (bA (Below.refl _ _) _) (by simp), (by repeat (first | exact Below.refl _ _ | refine bA ?_ _ | refine bD ?_ _ | refine bD1 ?_ | refine bS ?_ (by simp) _))⟩
  case round =>
    obtain ⟨k, hk, rfl, hown, hbx, hb⟩ := hrel
    have HBX := Lib.hid hbx; clear hbx
    have Hown := Lib.hid hown; clear hown
    have hfl := HFl.out k
    have hfl2 := HFl2.out
    have hsz := hb.size
    by_cases hlt : k < xs.length
    · obtain ⟨x, hxk⟩ : ∃ x, xs[k]? = some x := ⟨xs[k], List.getElem?_eq_getElem hlt⟩
      have HN := Lib.hid (HFn.out k x hxk)
      obtain ⟨b1, o1, rfl, hb1, hr1⟩ := hx.row (by omega)
      have Hr1 := Lib.hid (hr1 k x hxk)
      obtain ⟨p0, p1, p2, p3, p4, p5⟩ := Hr1.out.below hb hb1
      obtain ⟨hbl, q0, q1, q2, q3, q4, q5⟩ := HBX.out
      clear hxk hr1 hx
      have i0 : (0 : Int) ≤ (k : Int) := by omega
      have i1 : (k : Int) < (xs.length : Int) := by omega
      by_cases h0 : Fares.earlier x t = true
      · go_wp2
        go_still_tail 5, (by kernel_rfl)
        change wpList _ _ _ _ _ wr.drew
        go_wp2_with fail
        refine (earlier_any x t _).mono ?_
        rintro e w1 ⟨rfl, hb3⟩
        rw [h0]
        have hb4 : Below w.heap.size w w1 := bT (bD1 hb) hb3
        have HBX1 := Lib.hid ((show TapBox wr.drew w.heap.size t from HBX.out).below hb3 hbl)
        have Hown1 := Lib.hid (OwnTaps.below (w := wr.drew) Hown.out hb3)
        clear p0 p1 p2 p3 p4 p5 q0 q1 q2 q3 q4 q5
        obtain ⟨p0, p1, p2, p3, p4, p5⟩ := Hr1.out.below hb4 hb1
        have hs1 := hb4.size
        have hbl1 : w.heap.size < w1.heap.size := HBX1.out.1
        clear hb3
        have H0 := Lib.hid h0; clear h0
        go_wp2_with (at_builtin; refine wpList_append_lies _ rfl (.tmp 21) (.tmp 26) _ rfl (w.heap.size + 1) 36 ti _ 6 48 Try.underlying23 HI.out HZ0.out HZ1.out HZ2.out rfl (by omega) _ _ _ rfl (World.ownsRow.alloc (w := w1) (Hown1.out) _) ⟨(w1).heap.size, 0, none⟩ 1 1 (tapCells x) rfl rfl ?c1 ?c2 (by omega) ?c3 ?c4 ?c5 _ rfl ?_)
        case c1 => exact World.news_of_block (heap_alloc_new (w1) (.cells #[.int .i64 x.v, .int .i64 x.n, .int .i64 x.c, .int .i64 x.m, .int .i64 x.s, .bool x.o] 36))
        case c2 => simp [tapCells, Value.oneCell']
        case c3 => unfold maxLen; omega
        case c4 => omega
        case c5 => simp; omega
        intro g cap w2 hown2 hgrow hat hlt2
        have Hown2 := Lib.hid (OwnTaps.snoc hown2)
        have hb5 : Below w.heap.size w w2 := Below.grown (bA hb4 _) hgrow (by simp; omega) (fun r hr => by have := (World.ownsRow.lt Hown1.out r hr).1; omega)
        have HBX2 := Lib.hid (TapBox.grown (HBX1.out.below (bA (Below.refl w1.heap.size w1) _) hbl1) hgrow (fun e => by have := (World.ownsRow.lt Hown1.out _ e.symm).1; omega))
        clear hown2 hgrow hat
        go_wp2
        go_roundw
        case rel => exact ⟨k + 1, by omega, by go_num, by rw [HN.out, if_pos H0.out]; exact Hown2.out, HBX2.out, hb5⟩
        case measure => simp [intOf]; omega
      · have h0' : Fares.earlier x t = false := by simpa using h0
        clear h0
        have H0 := Lib.hid h0'
        go_wp2
        go_still_tail 5, (by kernel_rfl)
        change wpList _ _ _ _ _ wr.drew
        go_wp2_with fail
        refine (earlier_any x t _).mono ?_
        rintro e w1 ⟨rfl, hb3⟩
        rw [h0']
        have hb4 : Below w.heap.size w w1 := bT (bD1 hb) hb3
        have HBX1 := Lib.hid ((show TapBox wr.drew w.heap.size t from HBX.out).below hb3 hbl)
        have Hown1 := Lib.hid (OwnTaps.below (w := wr.drew) Hown.out hb3)
        clear h0' hb3
        go_wp2
        go_roundw
        case rel => exact ⟨k + 1, by omega, by go_num, by rw [HN.out, H0.out]; simpa using Hown1.out, HBX1.out, hb4⟩
        case measure => simp [intOf]; omega
    · have HfinF := Lib.hid (show F (xs.take k) = F xs by rw [List.take_of_length_le (by omega)])
      obtain ⟨hbl, q0, q1, q2, q3, q4, q5⟩ := HBX.out
      have Hown' := Lib.hid (show OwnTaps wr (w.heap.size + 1) _ (F xs) by rw [← HfinF.out]; exact Hown.out)
      clear Hown hfl
      go_wp2_with (at_builtin; refine wpList_append_lies _ rfl (.tmp 28) (.tmp 30) _ rfl (w.heap.size + 1) 36 ti _ 6 48 Try.underlying23 HI.out HZ0.out HZ1.out HZ2.out rfl (by omega) _ _ _ rfl (World.ownsRow.alloc (w := wr) (Hown'.out) _) ⟨(wr).heap.size, 0, none⟩ 1 1 (tapCells t) rfl rfl ?c1 ?c2 (by omega) ?c3 ?c4 ?c5 _ rfl ?_)
      case c1 => exact World.news_of_block (heap_alloc_new (wr) (.cells #[.int .i64 t.v, .int .i64 t.n, .int .i64 t.c, .int .i64 t.m, .int .i64 t.s, .bool t.o] 36))
      case c2 => simp [tapCells, Value.oneCell']
      case c3 => unfold maxLen; omega
      case c4 => omega
      case c5 => simp; omega
      intro g cap w2 hown2 hgrow hat hlt2
      have Hown2 := Lib.hid (OwnTaps.snoc hown2)
      have hb5 : Below w.heap.size w w2 := Below.grown (bA hb _) hgrow (by simp; omega) (fun r hr => by have := (World.ownsRow.lt Hown'.out r hr).1; omega)
      have HBX2 := Lib.hid (TapBox.grown (HBX.out.below (bA (Below.refl wr.heap.size wr) _) hbl) hgrow (fun e => by have := (World.ownsRow.lt Hown'.out _ e.symm).1; omega))
      clear hown2 hgrow hat HBX Hown' q0 q1 q2 q3 q4 q5 hbl hb hsz hk hlt
      go_wp2
      go_loopw [7, 5] (fun i v wr => ∃ k : Nat, k ≤ xs.length ∧ i = .int .i64 k ∧ OwnTaps wr (w.heap.size + 1) v (K k) ∧ TapBox wr w.heap.size t ∧ Below w.heap.size w wr) (fun i _ _ => xs.length - (intOf i).toNat)
      case atStart => exact ⟨0, Nat.zero_le _, rfl, (by rw [HK0.out]; exact Hown2.out), HBX2.out, hb5⟩
      case round =>
        clear HBX2 Hown2 hb5 hlt2
        obtain ⟨k, hk, rfl, hown, hbx, hb⟩ := hrel
        have HBX := Lib.hid hbx; clear hbx
        have Hown := Lib.hid hown; clear hown
        have hfl := HKl.out k
        have hfl2 := HFl2.out
        have hsz := hb.size
        by_cases hlt : k < xs.length
        · obtain ⟨x, hxk⟩ : ∃ x, xs[k]? = some x := ⟨xs[k], List.getElem?_eq_getElem hlt⟩
          have HN := Lib.hid (HKn.out k x hxk)
          obtain ⟨b1, o1, rfl, hb1, hr1⟩ := hx.row (by omega)
          have Hr1 := Lib.hid (hr1 k x hxk)
          obtain ⟨p0, p1, p2, p3, p4, p5⟩ := Hr1.out.below hb hb1
          obtain ⟨hbl, q0, q1, q2, q3, q4, q5⟩ := HBX.out
          clear hxk hr1 hx
          have i0 : (0 : Int) ≤ (k : Int) := by omega
          have i1 : (k : Int) < (xs.length : Int) := by omega
          by_cases h0 : Fares.earlier t x = true
          · go_wp2
            go_still_tail 5, (by kernel_rfl)
            change wpList _ _ _ _ _ wr.drew
            go_wp2_with fail
            refine (earlier_any t x _).mono ?_
            rintro e w1 ⟨rfl, hb3⟩
            rw [h0]
            have hb4 : Below w.heap.size w w1 := bT (bD1 hb) hb3
            have HBX1 := Lib.hid ((show TapBox wr.drew w.heap.size t from HBX.out).below hb3 hbl)
            have Hown1 := Lib.hid (OwnTaps.below (w := wr.drew) Hown.out hb3)
            clear p0 p1 p2 p3 p4 p5 q0 q1 q2 q3 q4 q5
            obtain ⟨p0, p1, p2, p3, p4, p5⟩ := Hr1.out.below hb4 hb1
            have hs1 := hb4.size
            have hbl1 : w.heap.size < w1.heap.size := HBX1.out.1
            clear hb3
            have H0 := Lib.hid h0; clear h0
            go_wp2_with (at_builtin; refine wpList_append_lies _ rfl (.tmp 44) (.tmp 49) _ rfl (w.heap.size + 1) 36 ti _ 6 48 Try.underlying23 HI.out HZ0.out HZ1.out HZ2.out rfl (by omega) _ _ _ rfl (World.ownsRow.alloc (w := w1) (Hown1.out) _) ⟨(w1).heap.size, 0, none⟩ 1 1 (tapCells x) rfl rfl ?c1 ?c2 (by omega) ?c3 ?c4 ?c5 _ rfl ?_)
            case c1 => exact World.news_of_block (heap_alloc_new (w1) (.cells #[.int .i64 x.v, .int .i64 x.n, .int .i64 x.c, .int .i64 x.m, .int .i64 x.s, .bool x.o] 36))
            case c2 => simp [tapCells, Value.oneCell']
            case c3 => unfold maxLen; omega
            case c4 => omega
            case c5 => simp; omega
            intro g cap w2 hown2 hgrow hat hlt2
            have Hown2 := Lib.hid (OwnTaps.snoc hown2)
            have hb5 : Below w.heap.size w w2 := Below.grown (bA hb4 _) hgrow (by simp; omega) (fun r hr => by have := (World.ownsRow.lt Hown1.out r hr).1; omega)
            have HBX2 := Lib.hid (TapBox.grown (HBX1.out.below (bA (Below.refl w1.heap.size w1) _) hbl1) hgrow (fun e => by have := (World.ownsRow.lt Hown1.out _ e.symm).1; omega))
            clear hown2 hgrow hat
            go_wp2
            go_roundw
            case rel => exact ⟨k + 1, by omega, by go_num, by rw [HN.out, if_pos H0.out]; exact Hown2.out, HBX2.out, hb5⟩
            case measure => simp [intOf]; omega
          · have h0' : Fares.earlier t x = false := by simpa using h0
            clear h0
            have H0 := Lib.hid h0'
            go_wp2
            go_still_tail 5, (by kernel_rfl)
            change wpList _ _ _ _ _ wr.drew
            go_wp2_with fail
            refine (earlier_any t x _).mono ?_
            rintro e w1 ⟨rfl, hb3⟩
            rw [h0']
            have hb4 : Below w.heap.size w w1 := bT (bD1 hb) hb3
            have HBX1 := Lib.hid ((show TapBox wr.drew w.heap.size t from HBX.out).below hb3 hbl)
            have Hown1 := Lib.hid (OwnTaps.below (w := wr.drew) Hown.out hb3)
            clear h0' hb3
            go_wp2
            go_roundw
            case rel => exact ⟨k + 1, by omega, by go_num, by rw [HN.out, H0.out]; simpa using Hown1.out, HBX1.out, hb4⟩
            case measure => simp [intOf]; omega
        · go_wp2
          go_ret
          exact ⟨_, rfl, by
            rw [HR.out]
            have h := Hown.out
            rw [show k = xs.length by omega] at h
            exact ownBase h (by omega), hb⟩

def AddsTap (xs : List Fares.Tap) (t : Fares.Tap) (w : World) (e : Ending) (w' : World) : Prop :=
  ∃ v, e = .returned (.tuple #[v, .bool (Fares.addTap xs t).2]) ∧ OwnTaps w' w.heap.size v (Fares.addTap xs t).1 ∧ Below w.heap.size w w'
set_option maxRecDepth 100000 in
set_option maxHeartbeats 2000000 in
theorem specAddTap_any (A : Option Addr) (n c : Nat) (xs : List Fares.Tap) (t : Fares.Tap) (w : World) (hx : Taps w w.heap.size A xs) (hn : xs.length = n) (hl : n ≤ 1000000000) :
    Calls Try.prog 56 #[.slice A n c, tapV t] w (AddsTap xs t w) := by
  subst hn
  obtain ⟨ti, hi0, hz0, hz1, hz2⟩ := info_parts info_tap3
  have HI := Lib.hid hi0; clear hi0
  have HZ0 := Lib.hid hz0; clear hz0
  have HZ1 := Lib.hid hz1; clear hz1
  have HZ2 := Lib.hid hz2; clear hz2
  have HE : Hid (Fares.addTap xs t = if !Fares.validTaps xs || !Fares.validTap t then ([], false) else if Fares.known xs t then (xs, true) else if xs.length = 24 then ([], false) else (Fares.insertTap xs t, true)) := rfl
  have HB0 := Lib.hid (TapBox.new w t 36)
  have HX0 := Lib.hid (Reads.more (Reads.alloc hx (Nat.le_refl _) (.cells #[.int .i64 t.v, .int .i64 t.n, .int .i64 t.c, .int .i64 t.m, .int .i64 t.s, .bool t.o] 36)) (B' := (w.alloc (.cells #[.int .i64 t.v, .int .i64 t.n, .int .i64 t.c, .int .i64 t.m, .int .i64 t.s, .bool t.o] 36)).heap.size) (by simp))
  by_cases hv : Fares.validTaps xs = true
  · have hlen := Fares.length_of_validTaps' hv
    by_cases ht : Fares.validTap t = true
    · unfold tapV
      go_enter Try.func56, Try.ntmps56
      go_wp2_with fail
      refine (specvalidTaps_any A _ c xs _ HX0.out rfl hl).mono ?_
      rintro e w1 ⟨rfl, hb1⟩
      rw [hv]
      have hc1 : Below w.heap.size w w1 := bT (bA (Below.refl _ _) _) hb1
      have HB1 := Lib.hid (HB0.out.below hb1 (by simp))
      have HX1 := Lib.hid (Reads.more (Reads.below HX0.out hb1 (Nat.le_refl _)) hb1.size)
      obtain ⟨hbl, q0, q1, q2, q3, q4, q5⟩ := HB1.out
      clear hb1
      go_wp2_with fail
      refine (specvalidTap_any t _).mono ?_
      rintro e w2 ⟨rfl, hb2⟩
      rw [ht]
      have hc2 : Below w.heap.size w w2 := bT hc1 hb2
      have HB2 := Lib.hid (HB1.out.below hb2 hbl)
      have HX2 := Lib.hid (Reads.more (Reads.below HX1.out hb2 (Nat.le_refl _)) hb2.size)
      clear hb2 q0 q1 q2 q3 q4 q5 hbl
      obtain ⟨hbl, q0, q1, q2, q3, q4, q5⟩ := HB2.out
      go_wp2_with fail
      refine (specknown_any A _ c xs t _ HX2.out rfl hl).mono ?_
      rintro e w3 ⟨rfl, hb3⟩
      have hc3 : Below w.heap.size w w3 := bT hc2 hb3
      have HB3 := Lib.hid (HB2.out.below hb3 hbl)
      have HX3 := Lib.hid (Reads.more (Reads.below HX2.out hb3 (Nat.le_refl _)) hb3.size)
      have hs3 := hc3.size
      clear hb3 q0 q1 q2 q3 q4 q5 hbl
      obtain ⟨hbl, q0, q1, q2, q3, q4, q5⟩ := HB3.out
      by_cases hk : Fares.known xs t = true
      · have HE2 := Lib.hid (show Fares.addTap xs t = (xs, true) by rw [HE.out, hv, ht, hk]; rfl)
        rw [hk]
        have hpos : 0 < xs.length := by
          cases xs with
          | nil => simp [Fares.known] at hk
          | cons a r => simp
        have hne : xs.flatMap tapCells ≠ [] := by
          intro e
          have := length_flat tapCells 6 (fun _ => rfl) xs
          rw [e] at this
          simp at this
          omega
        obtain ⟨ad, hA, had, hcell⟩ := HX3.out hne
        subst hA
        have Hcell := Lib.hid hcell; clear hcell
        have Hhk := Lib.hid hk; clear hk
        go_wp2_with (at_builtin; refine wpList_append_lies _ rfl (.tmp 17) (.tmp 18) _ rfl w.heap.size 36 ti _ 6 48 Try.underlying23 HI.out HZ0.out HZ1.out HZ2.out rfl (by omega) _ _ _ rfl (World.ownsRow_lit (base := w.heap.size) (e := 36) (size := 6) w3 #[] 0 (by omega) (by unfold maxLen; omega) rfl) ad xs.length c (xs.flatMap tapCells) rfl (length_flat tapCells 6 (fun _ => rfl) xs) ?c1 ?c2 hpos ?c3 ?c4 ?c5 _ rfl ?_)
        case c1 => exact fun j u hu => ((bA (Below.refl w3.heap.size w3) _).cell (by rw [add_block]; exact had)).trans (Hcell.out j u hu)
        case c2 =>
          intro u hu
          rw [List.mem_flatMap] at hu
          obtain ⟨x, _, hx⟩ := hu
          simp only [tapCells, List.mem_cons, List.not_mem_nil, or_false] at hx
          rcases hx with rfl | rfl | rfl | rfl | rfl | rfl <;> rfl
        case c3 => unfold maxLen; omega
        case c4 => omega
        case c5 => simp; omega
        intro g cap w4 hown4 hgrow hat hlt4
        have hb5 : Below w.heap.size w w4 := Below.grown (bA hc3 _) hgrow (by simp; omega) (fun r hr => by simp [Value.ownBlock] at hr; omega)
        (try simp only [List.nil_append, Nat.zero_add] at hown4)
        have Hown4 := Lib.hid hown4; clear hown4 hgrow hat
        go_wp2
        go_ret2
        exact ⟨_, by rw [HE2.out]; rfl, by rw [HE2.out]; exact Hown4.out, hb5⟩
      · have hk' : Fares.known xs t = false := by simpa using hk
        rw [hk']
        clear hk
        have Hk := Lib.hid hk'; clear hk'
        by_cases h24 : xs.length = 24
        · have HE2 := Lib.hid (show Fares.addTap xs t = ([], false) by rw [HE.out, hv, ht, Hk.out, if_pos h24]; rfl)
          have l1 : ((xs.length : Int) == 24) = true := by rw [beq_iff_eq]; omega
          have H24 := Lib.hid h24; clear h24
          go_wp2
          go_ret2
          exact ⟨_, by rw [HE2.out]; rfl, by rw [HE2.out]; exact OwnTaps.none_ _ _, hc3⟩
        · have HE2 := Lib.hid (show Fares.addTap xs t = (Fares.insertTap xs t, true) by rw [HE.out, hv, ht, Hk.out, if_neg h24]; rfl)
          have l1 : ((xs.length : Int) == 24) = false := by rw [beq_eq_false_iff_ne]; omega
          have H24 := Lib.hid h24; clear h24
          go_wp2_with fail
          refine (specinsert_any A _ c xs t _ HX3.out rfl hlen).mono ?_
          rintro e w4 ⟨v4, rfl, hown4, hb4⟩
          have Hown4 := Lib.hid hown4; clear hown4
          go_wp2
          go_ret2
          exact ⟨_, by rw [HE2.out]; rfl, by rw [HE2.out]; exact ownBase Hown4.out hc3.size, bT hc3 hb4⟩
    · have ht' : Fares.validTap t = false := by simpa using ht
      have HE2 := Lib.hid (show Fares.addTap xs t = ([], false) by rw [HE.out, hv, ht']; rfl)
      clear ht
      unfold tapV
      go_enter Try.func56, Try.ntmps56
      go_wp2_with fail
      refine (specvalidTaps_any A _ c xs _ HX0.out rfl hl).mono ?_
      rintro e w1 ⟨rfl, hb1⟩
      rw [hv]
      have hc1 : Below w.heap.size w w1 := bT (bA (Below.refl _ _) _) hb1
      have HB1 := Lib.hid (HB0.out.below hb1 (by simp))
      obtain ⟨hbl, q0, q1, q2, q3, q4, q5⟩ := HB1.out
      clear hb1
      go_wp2_with fail
      refine (specvalidTap_any t _).mono ?_
      rintro e w2 ⟨rfl, hb2⟩
      rw [ht']
      have hc2 : Below w.heap.size w w2 := bT hc1 hb2
      go_wp2
      go_ret2
      exact ⟨_, by rw [HE2.out]; rfl, by rw [HE2.out]; exact OwnTaps.none_ _ _, hc2⟩
  · have hv' : Fares.validTaps xs = false := by simpa using hv
    have HE2 := Lib.hid (show Fares.addTap xs t = ([], false) by rw [HE.out, hv']; rfl)
    clear hv
    unfold tapV
    go_enter Try.func56, Try.ntmps56
    go_wp2_with fail
    refine (specvalidTaps_any A _ c xs _ HX0.out rfl hl).mono ?_
    rintro e w1 ⟨rfl, hb1⟩
    rw [hv']
    have hc1 : Below w.heap.size w w1 := bT (bA (Below.refl _ _) _) hb1
    go_wp2
    go_ret2
    exact ⟨_, by rw [HE2.out]; rfl, by rw [HE2.out]; exact OwnTaps.none_ _ _, hc1⟩
end Go.Proofs.Ytllhjgheffemnaa
