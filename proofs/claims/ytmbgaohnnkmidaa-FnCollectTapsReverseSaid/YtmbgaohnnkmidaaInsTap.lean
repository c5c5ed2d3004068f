/-
  slices.Insert of one element at slices of Tap that the call owns.
-/
import Derived.Test.YtmbgaohnnkmidaaInsKit
import Derived.Test.YtmbgaohnnkmidaaStTap
import Derived.Test.YtmbgaohnnkmidaaTouch
import Derived.Lib.Walk
import Derived.Shelf.RegionOpenPlain
set_option linter.unusedSimpArgs false
namespace Go.Proofs.Ytmbgaohnnkmidaa
open Go.RowKit Go.Deep Go.Lib
set_option linter.unusedVariables false

theorem info_insTap : (Try.prog.info? 30).map (fun i => (i.zero, i.size, i.bytes)) = some (some (.agg #[.int .i64 0, .int .i64 0, .int .i64 0, .int .i64 0, .int .i64 0, .bool false]), 6, 48) := by kernel_rfl
theorem tapFlat_length (ys : List Fares.Tap) : (ys.flatMap tapCells).length = ys.length * 6 := by
  induction ys with
  | nil => rfl
  | cons y ys ih => rw [List.flatMap_cons, List.length_append, ih, List.length_cons, Nat.succ_mul]; simp [tapCells]; omega
theorem tap_one (y : Fares.Tap) : ∀ u ∈ tapCells y, u.oneCell' = true := by intro u hu; simp only [tapCells, List.mem_cons, List.not_mem_nil, or_false] at hu; rcases hu with rfl | rfl | rfl | rfl | rfl | rfl <;> rfl
theorem taps_one (ys : List Fares.Tap) : ∀ u ∈ ys.flatMap tapCells, u.oneCell' = true := by
  intro u hu
  rw [List.mem_flatMap] at hu
  obtain ⟨y, _, h⟩ := hu
  exact tap_one y u h

set_option maxRecDepth 100000 in
set_option maxHeartbeats 2000000 in
/-- AT THE END. -/
theorem insEndTap_any (base vb : Nat) (A : Option Addr) (n c : Nat) (ys : List Fares.Tap) (x : Fares.Tap) (w : World) (ho : OwnTaps w base (.slice A n c) ys) (hn : ys.length = n)
    (hv : Blk w vb 30 #[.int .i64 x.v, .int .i64 x.n, .int .i64 x.c, .int .i64 x.m, .int .i64 x.s, .bool x.o]) (hl : n ≤ 1000000) (hb : base ≤ w.heap.size) :
    Calls Try.prog 50 #[.slice A n c, .int .i64 n, .slice (some ⟨vb, 0, none⟩) 1 1] w fun e w' =>
      ∃ v, e = .returned v ∧ OwnTaps w' base v (ys ++ [x]) ∧ Below base w w' := by
  subst hn
  obtain ⟨ti, hi0, hz0, hz1, hz2⟩ := info_parts info_insTap
  have HI := Lib.hid hi0; clear hi0
  have HZ0 := Lib.hid hz0; clear hz0
  have HZ1 := Lib.hid hz1; clear hz1
  have HZ2 := Lib.hid hz2; clear hz2
  obtain ⟨_, _, e, hc1, hc2, _⟩ := ho.form
  injection e with e1 e2 e3
  subst e1 e3
  unfold maxLen at hc2
  have Ho := Lib.hid ho
  unfold OwnTaps at ho
  have Hown := Lib.hid ho; clear ho
  have Hv := Lib.hid hv; clear hv
  cases A with
  | none =>
    rcases Hown.out.2 with ⟨h, h0⟩ | ⟨g, cap, cur, h, _⟩
    · injection h with _ h1 h2
      have e0 : ys = [] := List.eq_nil_of_length_eq_zero h0
      subst e0
      subst h2
      go_enter Try.func50, Try.ntmps50
      go_wp2_with (at_builtin; refine wpList_append_lies _ rfl (.tmp 23) (.tmp 24) _ rfl base 30 ti _ 6 48 Try.underlying26 HI.out HZ0.out HZ1.out HZ2.out rfl (by omega) _ _ _ rfl Hown.out ⟨vb, 0, none⟩ 1 1 (tapCells x) rfl rfl (by intro j u hj; first | (rw [Addr.add_mid, Hv.out.cell]; simpa [tapCells] using hj) | (rw [Hv.out.cell]; simpa [tapCells] using hj)) (tap_one x) (by omega) (by unfold maxLen; first | omega | (simp; omega) | simp) (by first | omega | (simp; omega) | simp) hb _ rfl ?_)
      intro g cap w2 hown2 hgrow hat hlt2
      have hb4 : Below base w w2 := Below.grown (Below.refl _ _) hgrow hb (fun r hr => (World.ownsRow.lt Hown.out r hr).1)
      have Hown2 := Lib.hid (OwnTaps.snoc (ys := []) hown2); clear hown2 hgrow hat
      go_wp2
      go_ret
      exact ⟨_, rfl, Hown2.out, hb4⟩
    · injection h with h; cases h
  | some ad =>
    by_cases hcc : c = ys.length
    · subst hcc
      go_enter Try.func50, Try.ntmps50
      go_wp2_with (at_builtin; refine wpList_append_lies _ rfl (.tmp 23) (.tmp 24) _ rfl base 30 ti _ 6 48 Try.underlying26 HI.out HZ0.out HZ1.out HZ2.out rfl (by omega) _ _ _ rfl Hown.out ⟨vb, 0, none⟩ 1 1 (tapCells x) rfl rfl (by intro j u hj; first | (rw [Addr.add_mid, Hv.out.cell]; simpa [tapCells] using hj) | (rw [Hv.out.cell]; simpa [tapCells] using hj)) (tap_one x) (by omega) (by unfold maxLen; first | omega | (simp; omega) | simp) (by first | omega | (simp; omega) | simp) hb _ rfl ?_)
      intro g cap w2 hown2 hgrow hat hlt2
      have hb4 : Below base w w2 := Below.grown (Below.refl _ _) hgrow hb (fun r hr => (World.ownsRow.lt Hown.out r hr).1)
      have Hown2 := Lib.hid (OwnTaps.snoc hown2); clear hown2 hgrow hat
      go_wp2
      go_ret
      exact ⟨_, rfl, Hown2.out, hb4⟩
    · have hcc' : ¬ c = ys.length := hcc
      clear hcc
      go_enter Try.func50, Try.ntmps50
      go_wp2_with (at_builtin; refine wpList_append_lies _ rfl (.tmp 23) (.tmp 24) _ rfl base 30 ti _ 6 48 Try.underlying26 HI.out HZ0.out HZ1.out HZ2.out rfl (by omega) _ _ _ rfl Hown.out ⟨vb, 0, none⟩ 1 1 (tapCells x) rfl rfl (by intro j u hj; first | (rw [Addr.add_mid, Hv.out.cell]; simpa [tapCells] using hj) | (rw [Hv.out.cell]; simpa [tapCells] using hj)) (tap_one x) (by omega) (by unfold maxLen; first | omega | (simp; omega) | simp) (by first | omega | (simp; omega) | simp) hb _ rfl ?_)
      intro g cap w2 hown2 hgrow hat hlt2
      have hb4 : Below base w w2 := Below.grown (Below.refl _ _) hgrow hb (fun r hr => (World.ownsRow.lt Hown.out r hr).1)
      have Hown2 := Lib.hid (OwnTaps.snoc hown2); clear hown2 hgrow hat
      go_wp2
      go_ret
      exact ⟨_, rfl, Hown2.out, hb4⟩

set_option maxRecDepth 100000 in
set_option maxHeartbeats 4000000 in
/-- IN THE MIDDLE, THERE IS ROOM. -/
theorem insRoomTap_any (base vb g cap n i : Nat) (ys : List Fares.Tap) (x : Fares.Tap) (w : World) (ho : OwnTaps w base (.slice (some ⟨g, 0, none⟩) n cap) ys) (hn : ys.length = n)
    (hv : Blk w vb 30 #[.int .i64 x.v, .int .i64 x.n, .int .i64 x.c, .int .i64 x.m, .int .i64 x.s, .bool x.o]) (hne : vb ≠ g) (hi : i < n) (hroom : n + 1 ≤ cap) (hl : n ≤ 1000000) :
    Calls Try.prog 50 #[.slice (some ⟨g, 0, none⟩) n cap, .int .i64 i, .slice (some ⟨vb, 0, none⟩) 1 1] w fun e w' =>
      ∃ v, e = .returned v ∧ OwnTaps w' base v (ys.take i ++ x :: ys.drop i) ∧ Below base w w' := by
  have hszi : (Try.prog.info? 30).map (·.size) = some 6 := by
    obtain ⟨ti, hi0, _, hz1, _⟩ := info_parts info_insTap
    rw [hi0]; simp [hz1]
  have hbg : base ≤ g := (World.ownsRow.lt ho g rfl).1
  obtain ⟨C, hC, hCs, hCt, hcm⟩ : ∃ C : List Value, Blk w g 30 C.toArray ∧ C.length = cap * 6 ∧ C.take (n * 6) = ys.flatMap tapCells ∧ cap ≤ maxLen := by
    rcases ho.2 with ⟨h0, _⟩ | ⟨g', cap', cur, hv, _, hh, _, hm, hz, ht⟩
    · cases h0
    · injection hv with h1 h2 h3
      injection h1 with h1
      injection h1 with h1
      subst h1 h3
      exact ⟨cur.toList, by simpa [Blk] using hh, by simpa using hz, by rw [← hn]; exact ht, hm⟩
  clear ho
  unfold maxLen at hcm
  obtain ⟨P, hP⟩ : ∃ P, (ys.take i).flatMap tapCells = P := ⟨_, rfl⟩
  obtain ⟨D, hD⟩ : ∃ D, (ys.drop i).flatMap tapCells = D := ⟨_, rfl⟩
  obtain ⟨X, hX⟩ : ∃ X, tapCells x = X := ⟨_, rfl⟩
  have lP : P.length = i * 6 := by rw [← hP, tapFlat_length, List.length_take]; congr 1; omega
  have lD : D.length = (n - i) * 6 := by rw [← hD, tapFlat_length, List.length_drop, hn]
  have lX : X.length = 6 := by rw [← hX]; rfl
  have hPD : C.take (P.length + D.length) = P ++ D := by
    rw [lP, lD, show i * 6 + (n - i) * 6 = n * 6 by omega, hCt, ← hP, ← hD, ← List.flatMap_append, List.take_append_drop]
  have hCl : P.length + X.length + D.length ≤ C.length := by rw [lP, lX, lD, hCs]; omega
  have hres := ins_in_place hPD hCl
  obtain ⟨R1, hR1⟩ : ∃ R1, C.take (P.length + X.length) ++ D ++ C.drop (P.length + X.length + D.length) = R1 := ⟨_, rfl⟩
  simp only [hR1] at hres
  have lR1 : R1.length = C.length := by rw [← hR1]; simp only [List.length_append, List.length_take, List.length_drop]; omega
  obtain ⟨R2, hR2⟩ : ∃ R2, P ++ X ++ D ++ C.drop (P.length + X.length + D.length) = R2 := ⟨_, rfl⟩
  rw [hR2] at hres
  have lR2 : R2.length = cap * 6 := by rw [← hR2]; simp only [List.length_append, List.length_drop]; omega
  have tR2 : R2.take ((n + 1) * 6) = (ys.take i ++ x :: ys.drop i).flatMap tapCells := by
    have e : (ys.take i ++ x :: ys.drop i).flatMap tapCells = P ++ X ++ D := by rw [List.flatMap_append, List.flatMap_cons, hP, hX, hD, List.append_assoc]
    rw [e, ← hR2, List.take_append_of_le_length (by simp only [List.length_append]; omega), List.take_of_length_le (by simp only [List.length_append]; omega)]
  have srcD : ∀ j v, D[j]? = some v → (w.drew).cell? ((⟨g, i * 6, none⟩ : Addr).add j) = some v := fun j v hj => by
    rw [Addr.add_mid]
    show w.cell? _ = _
    rw [hC.cell]
    have hp : (C.take (P.length + D.length))[i * 6 + j]? = some v := by
      rw [hPD, List.getElem?_append_right (by omega)]
      rw [show i * 6 + j - P.length = j by omega]
      exact hj
    rw [List.getElem?_take] at hp
    split at hp
    · simpa using hp
    · cases hp
  have oneD : ∀ v ∈ D, v.oneCell' = true := by rw [← hD]; exact taps_one _
  have oneX : ∀ v ∈ X, v.oneCell' = true := by rw [← hX]; exact tap_one _
  have hcp1 : ∀ ty dc sc, (Builtin.copy_ #[26, 26] ty #[.slice (some ⟨g, (i + 1) * 6, none⟩) (n - i) dc, .slice (some ⟨g, i * 6, none⟩) (n + 1 - i) sc]).run Try.prog w.drew = .ok (goInt (n - i : Nat)) (w.drew.setRow g R1.toArray) := fun ty dc sc => by
    have h := run_copy_n (P := Try.prog) w.drew 26 26 ty 30 6 g ((i + 1) * 6) (n - i) dc ⟨g, i * 6, none⟩ (n + 1 - i) sc C.toArray 30 D Try.underlying26 hszi hC
      (by rw [lD]; congr 1; simp only [Nat.min_def]; split <;> omega) srcD (by rw [lD]; simp only [List.size_toArray, hCs]; omega) oneD
    have e1 : (i + 1) * 6 = P.length + X.length := by rw [lP, lX]; omega
    rw [e1, List.toList_toArray, hR1, show Nat.min (n + 1 - i) (n - i) = n - i by simp only [Nat.min_def]; split <;> omega] at h
    rw [e1]
    exact h
  have hcp2 : ∀ ty dc, (Builtin.copy_ #[26, 26] ty #[.slice (some ⟨g, i * 6, none⟩) (n + 1 - i) dc, .slice (some ⟨vb, 0, none⟩) 1 1]).run Try.prog (w.drew.setRow g R1.toArray) = .ok (goInt 1) ((w.drew.setRow g R1.toArray).setRow g R2.toArray) := fun ty dc => by
    have h := run_copy_n (P := Try.prog) (w.drew.setRow g R1.toArray) 26 26 ty 30 6 g (i * 6) (n + 1 - i) dc ⟨vb, 0, none⟩ 1 1 R1.toArray 30 X Try.underlying26 hszi (blk_setRow (w := w.drew) hC _)
      (by rw [lX, show Nat.min 1 (n + 1 - i) = 1 by simp only [Nat.min_def]; split <;> omega]) (fun j v hj => by
        rw [Addr.add_mid, (blk_setRow_far (w := w.drew) hv hne _).cell, Nat.zero_add]
        rw [← hX] at hj
        simpa [tapCells] using hj) (by rw [lX]; simp only [List.size_toArray, lR1, hCs]; omega) oneX
    rw [List.toList_toArray, show i * 6 = P.length from lP.symm, hres, show Nat.min 1 (n + 1 - i) = 1 by simp only [Nat.min_def]; split <;> omega] at h
    rw [show i * 6 = P.length from lP.symm]
    exact h
  have hov : ∀ lb cb, (callFunc 71 #[.slice (some ⟨vb, 0, none⟩) 1 1, .slice (some ⟨g, (i + 1) * 6, none⟩) lb cb]).run Try.prog w = .ok (.value (.bool false)) w := fun lb cb => by
    rw [run_callFunc_extern Try.func71 (by kernel_rfl) (by kernel_rfl) (by kernel_rfl) (e := Extern.SlicesOverlaps.overlaps #[26, 26] #[4]) (by kernel_rfl),
      Lib.run_overlaps_apart w 26 4 30 Try.underlying26 6 Try.sizeOf30 ⟨vb, 0, none⟩ ⟨g, (i + 1) * 6, none⟩ 1 1 lb cb hne 30 30 6 (cap * 6)
        (by unfold World.shape?; rw [show w.heap[vb]? = _ from hv]; rfl) (by unfold World.shape?; rw [show w.heap[g]? = _ from hC]; simp [hCs]) (by omega) (hv.free 0) (hv.free 6)]
    rfl
  have hfin : Hid (Blk ((w.drew.setRow g R1.toArray).setRow g R2.toArray) g 30 R2.toArray) := blk_setRow (blk_setRow (w := w.drew) hC _) _
  have hbf : Hid (Below base w ((w.drew.setRow g R1.toArray).setRow g R2.toArray)) := setRow_below (setRow_below (bD1 (Below.refl _ _)) hbg _) hbg _
  have HL := Lib.hid (show (ys.take i ++ x :: ys.drop i).length = n + 1 by rw [List.length_append, List.length_take, List.length_cons, List.length_drop]; omega)
  have Hcs := Lib.hid lR2
  have Ht := Lib.hid tR2
  obtain ⟨W1, hW1⟩ : ∃ W1, w.drew.setRow g R1.toArray = W1 := ⟨_, rfl⟩
  rw [hW1] at hcp1 hcp2 hfin hbf
  have z1 : ¬ ((i : Int) = (n : Int)) := by omega
  have z2 : ¬ ((cap : Int) < (n : Int) + 1) := by omega
  have b0 : (0 : Int) ≤ (i : Int) := by omega
  have b1 : (i : Int) ≤ (n : Int) := by omega
  have b2 : (n : Int) + 1 ≤ (cap : Int) := by omega
  have b3 : (0 : Int) ≤ (i : Int) + 1 := by omega
  have b4 : (i : Int) + 1 ≤ (n : Int) + 1 := by omega
  have b5 : ((i : Int) + 1).toNat = i + 1 := by omega
  have b6 : ((n : Int) + 1).toNat = n + 1 := by omega
  have b9 : (i : Int) ≤ (n : Int) + 1 := by omega
  have b7 : ¬ (cap = i + 1) := by omega
  have b8 : ¬ (cap = i) := by omega
  have W0 : IntKind.i64.wrap ((i : Int) + 1) = (i : Int) + 1 := IntWalk.i64_in _ (by omega)
  have W2 : IntKind.i64.wrap ((n : Int) + 1) = (n : Int) + 1 := IntWalk.i64_in _ (by omega)
  have e5 : n + 1 - (i + 1) = n - i := by omega
  have mixed : Try.prog.follows .mixedOrders = true := by kernel_rfl
  clear hres hPD hCl lR1 lR2 tR2 hR1 hR2 hP hD hX srcD oneD oneX hC hCs hCt lP lD lX hv
  go_enter Try.func50, Try.ntmps50
  go_wp2_with (simp only [hov])
  go_region_law_o (refine step_copy_runI rfl _ _ 26 26 rfl _ _ (by simp [Act.eval, Act.put]) (by simp [Act.eval, Act.put]) (hcp1 _ _ _) ?_)
  go_wp2_with (at_builtin; refine wpList_copy_runI _ rfl _ _ 26 26 rfl _ _ rfl rfl (hcp2 _ _) ?_)
  go_ret
  refine ⟨_, rfl, ?_, hbf.out⟩
  unfold OwnTaps
  rw [HL.out]
  exact row_of_blk hfin.out (by rw [tapFlat_length, HL.out]) Hcs.out Ht.out hroom (by unfold maxLen; omega) hbg

set_option maxRecDepth 100000 in
set_option maxHeartbeats 4000000 in
/-- IN THE MIDDLE, NO ROOM: a new row. -/
theorem insGrowTap_any (base vb g cap n i : Nat) (ys : List Fares.Tap) (x : Fares.Tap) (w : World) (ho : OwnTaps w base (.slice (some ⟨g, 0, none⟩) n cap) ys) (hn : ys.length = n)
    (hv : Blk w vb 30 #[.int .i64 x.v, .int .i64 x.n, .int .i64 x.c, .int .i64 x.m, .int .i64 x.s, .bool x.o]) (hi : i < n) (hroom : cap < n + 1) (hl : n ≤ 1000000) (hb : base ≤ w.heap.size) :
    Calls Try.prog 50 #[.slice (some ⟨g, 0, none⟩) n cap, .int .i64 i, .slice (some ⟨vb, 0, none⟩) 1 1] w fun e w' =>
      ∃ v, e = .returned v ∧ OwnTaps w' base v (ys.take i ++ x :: ys.drop i) ∧ Below base w w' := by
  obtain ⟨ti, hti, hz0, hz1, hz2⟩ := info_parts info_insTap
  have hszi : (Try.prog.info? 30).map (·.size) = some 6 := by rw [hti]; simp [hz1]
  have hgw : g < w.heap.size := (World.ownsRow.lt ho g rfl).2
  obtain ⟨C, hC, hCs, hCt, hnc⟩ : ∃ C : List Value, Blk w g 30 C.toArray ∧ C.length = cap * 6 ∧ C.take (n * 6) = ys.flatMap tapCells ∧ n ≤ cap := by
    rcases ho.2 with ⟨h0, _⟩ | ⟨g', cap', cur, hv, _, hh, hnc, hm, hz, ht⟩
    · cases h0
    · injection hv with h1 h2 h3
      injection h1 with h1
      injection h1 with h1
      subst h1 h3
      exact ⟨cur.toList, by simpa [Blk] using hh, by simpa using hz, by rw [← hn]; exact ht, by rw [← hn]; exact hnc⟩
  clear ho
  obtain ⟨P, hP⟩ : ∃ P, (ys.take i).flatMap tapCells = P := ⟨_, rfl⟩
  obtain ⟨D, hD⟩ : ∃ D, (ys.drop i).flatMap tapCells = D := ⟨_, rfl⟩
  obtain ⟨X, hX⟩ : ∃ X, tapCells x = X := ⟨_, rfl⟩
  have lP : P.length = i * 6 := by rw [← hP, tapFlat_length, List.length_take]; congr 1; omega
  have lD : D.length = (n - i) * 6 := by rw [← hD, tapFlat_length, List.length_drop, hn]
  have lX : X.length = 6 := by rw [← hX]; rfl
  have hPD : C.take (n * 6) = P ++ D := by rw [hCt, ← hP, ← hD, ← List.flatMap_append, List.take_append_drop]
  have cellC : ∀ j v, (P ++ D)[j]? = some v → w.cell? ⟨g, j, none⟩ = some v := fun j v hj => by
    rw [hC.cell]
    rw [← hPD, List.getElem?_take] at hj
    split at hj
    · simpa using hj
    · cases hj
  have srcP : ∀ j v, P[j]? = some v → w.cell? ((⟨g, 0, none⟩ : Addr).add j) = some v := fun j v hj => by
    rw [Addr.add_mid, Nat.zero_add]
    exact cellC j v (by rw [List.getElem?_append_left (List.getElem?_eq_some_iff.1 hj).1]; exact hj)
  have srcD : ∀ j v, D[j]? = some v → w.cell? ((⟨g, i * 6, none⟩ : Addr).add j) = some v := fun j v hj => by
    rw [Addr.add_mid]
    exact cellC _ v (by rw [List.getElem?_append_right (by omega), show i * 6 + j - P.length = j by omega]; exact hj)
  have oneP : ∀ v ∈ P, v.oneCell' = true := by rw [← hP]; exact taps_one _
  have oneD : ∀ v ∈ D, v.oneCell' = true := by rw [← hD]; exact taps_one _
  have oneX : ∀ v ∈ X, v.oneCell' = true := by rw [← hX]; exact tap_one _
  have hold : (Builtin.firstCells ti.size i (.slice (some ⟨g, 0, none⟩) i cap)).run Try.prog w.drew = .ok P.toArray w.drew := by
    rw [hz1]
    exact run_firstCells_some w.drew 6 i ⟨g, 0, none⟩ i cap P lP srcP
  have hik : i + (n + 1 - i) = n + 1 := by omega
  have hnx := nextslicecap_le (need := n + 1) (old := cap) hroom
  obtain ⟨G, hG⟩ : ∃ G, grownCap w (n + 1) cap 30 = G := ⟨_, rfl⟩
  have hGn : n + 1 ≤ G := by rw [← hG]; exact grownCap_ge w _ _ _
  have hGm : G ≤ maxLen := by rw [← hG]; exact grownCap_le_maxLen w (n + 1) cap _ (by unfold maxLen; omega)
  obtain ⟨ROW, hROW⟩ : ∃ ROW : Array Value, P.toArray ++ Builtin.zeroCells (Value.agg #[.int .i64 0, .int .i64 0, .int .i64 0, .int .i64 0, .int .i64 0, .bool false]).cells (n + 1 - i) ++ Builtin.zeroCells (Value.agg #[.int .i64 0, .int .i64 0, .int .i64 0, .int .i64 0, .int .i64 0, .bool false]).cells (G - (n + 1)) = ROW := ⟨_, rfl⟩
  have hrz : ∀ ty, (Builtin.append_ #[26, 3] ty #[.slice (some ⟨g, 0, none⟩) i cap, .int .i64 ((n : Int) + 1 - (i : Int))]).run Try.prog w = .ok (.slice (some ⟨w.heap.size, 0, none⟩) (n + 1) G) (w.drew.alloc (.cells ROW 30)) := fun ty => by
    have h := Lib.run_append_grow_zeros w 26 3 ty 30 ti _ .i64 .i64 Try.underlying26 Try.underlying3 hti hz0 (some ⟨g, 0, none⟩) i cap P hold (n + 1 - i) (by omega) (by omega) (by omega) (by omega) (by rw [hz2]; omega) (by rw [hz2, hik]; omega)
    rw [hik, hG, hROW] at h
    rw [show (n : Int) + 1 - (i : Int) = ((n + 1 - i : Nat) : Int) by omega]
    exact h
  have lROW : ROW.toList.length = G * 6 := by
    have : ROW.size = G * 6 := by
      rw [← hROW, Array.size_append, Array.size_append, size_zeroCells, size_zeroCells, List.size_toArray, lP]
      show i * 6 + (n + 1 - i) * 6 + (G - (n + 1)) * 6 = G * 6
      omega
    simpa using this
  have tROW : ROW.toList.take P.length = P := by rw [← hROW]; simp
  have hRl : P.length + X.length + D.length ≤ ROW.toList.length := by rw [lP, lX, lD, lROW]; omega
  have hres := ins_new tROW hRl
  obtain ⟨R1, hR1⟩ : ∃ R1, ROW.toList.take P.length ++ X ++ ROW.toList.drop (P.length + X.length) = R1 := ⟨_, rfl⟩
  simp only [hR1] at hres
  have lR1 : R1.length = G * 6 := by rw [← hR1]; simp only [List.length_append, List.length_take, List.length_drop]; omega
  obtain ⟨R2, hR2⟩ : ∃ R2, P ++ X ++ D ++ ROW.toList.drop (P.length + X.length + D.length) = R2 := ⟨_, rfl⟩
  rw [hR2] at hres
  have lR2 : R2.length = G * 6 := by rw [← hR2]; simp only [List.length_append, List.length_drop]; omega
  have tR2 : R2.take ((n + 1) * 6) = (ys.take i ++ x :: ys.drop i).flatMap tapCells := by
    have e : (ys.take i ++ x :: ys.drop i).flatMap tapCells = P ++ X ++ D := by rw [List.flatMap_append, List.flatMap_cons, hP, hX, hD, List.append_assoc]
    rw [e, ← hR2, List.take_append_of_le_length (by simp only [List.length_append]; omega), List.take_of_length_le (by simp only [List.length_append]; omega)]
  obtain ⟨N, hN⟩ : ∃ N, w.heap.size = N := ⟨_, rfl⟩
  obtain ⟨W1, hW1⟩ : ∃ W1, w.drew.alloc (.cells ROW 30) = W1 := ⟨_, rfl⟩
  have kN : Blk W1 N 30 ROW := by rw [← hW1, ← hN]; exact Blk.new w.drew _ _
  have kV : Blk W1 vb 30 #[.int .i64 x.v, .int .i64 x.n, .int .i64 x.c, .int .i64 x.m, .int .i64 x.s, .bool x.o] := by rw [← hW1]; exact Blk.alloc (w := w.drew) hv _
  have kg : ∀ j v, w.cell? ⟨g, j, none⟩ = some v → W1.cell? ⟨g, j, none⟩ = some v := fun j v h => by rw [← hW1]; exact (World.cell?_alloc_lt w.drew _ ⟨g, j, none⟩ hgw).trans h
  have bW : Below base w W1 := by rw [← hW1]; exact (bD1 (Below.refl base w)).alloc (by exact hb) _
  have nV : vb ≠ N := by have := hv.lt; omega
  have ng : g ≠ N := by omega
  have hcpA : ∀ ty dc, (Builtin.copy_ #[26, 26] ty #[.slice (some ⟨N, i * 6, none⟩) (n + 1 - i) dc, .slice (some ⟨vb, 0, none⟩) 1 1]).run Try.prog W1 = .ok (goInt 1) (W1.setRow N R1.toArray) := fun ty dc => by
    have h := run_copy_n (P := Try.prog) W1 26 26 ty 30 6 N (i * 6) (n + 1 - i) dc ⟨vb, 0, none⟩ 1 1 ROW 30 X Try.underlying26 hszi kN
      (by rw [lX, show Nat.min 1 (n + 1 - i) = 1 by simp only [Nat.min_def]; split <;> omega]) (fun j v hj => by
        rw [Addr.add_mid, kV.cell, Nat.zero_add]
        rw [← hX] at hj
        simpa [tapCells] using hj) (by rw [lX, ← Array.length_toList, lROW]; omega) oneX
    rw [show i * 6 = P.length from lP.symm, hR1, show Nat.min 1 (n + 1 - i) = 1 by simp only [Nat.min_def]; split <;> omega] at h
    rw [show i * 6 = P.length from lP.symm]
    exact h
  have hcpB : ∀ ty dc sc, (Builtin.copy_ #[26, 26] ty #[.slice (some ⟨N, (i + 1) * 6, none⟩) (n - i) dc, .slice (some ⟨g, i * 6, none⟩) (n - i) sc]).run Try.prog (W1.setRow N R1.toArray).drew = .ok (goInt (n - i : Nat)) ((W1.setRow N R1.toArray).drew.setRow N R2.toArray) := fun ty dc sc => by
    have h := run_copy_n (P := Try.prog) (W1.setRow N R1.toArray).drew 26 26 ty 30 6 N ((i + 1) * 6) (n - i) dc ⟨g, i * 6, none⟩ (n - i) sc R1.toArray 30 D Try.underlying26 hszi (blk_setRow kN _)
      (by rw [lD]; simp) (fun j v hj => by
        have h1 := srcD j v hj
        rw [Addr.add_mid] at h1 ⊢
        show (W1.setRow N R1.toArray).cell? _ = _
        have h2 := kg _ _ h1
        unfold World.cell? at h2 ⊢
        rw [setRow_other W1 N g R1.toArray ng]
        exact h2) (by rw [lD]; simp only [List.size_toArray, lR1]; omega) oneD
    have e1 : (i + 1) * 6 = P.length + X.length := by rw [lP, lX]; omega
    rw [e1, List.toList_toArray, hres, show Nat.min (n - i) (n - i) = n - i by simp] at h
    rw [e1]
    exact h
  have hfin : Hid (Blk ((W1.setRow N R1.toArray).drew.setRow N R2.toArray) N 30 R2.toArray) := blk_setRow (w := (W1.setRow N R1.toArray).drew) (blk_setRow kN _) _
  have hbf : Hid (Below base w ((W1.setRow N R1.toArray).drew.setRow N R2.toArray)) := setRow_below (bD1 (setRow_below bW (by omega) _)) (by omega) _
  have HL := Lib.hid (show (ys.take i ++ x :: ys.drop i).length = n + 1 by rw [List.length_append, List.length_take, List.length_cons, List.length_drop]; omega)
  have Hcs := Lib.hid lR2
  have Ht := Lib.hid tR2
  have hNb : base ≤ N := by omega
  obtain ⟨W2, hW2⟩ : ∃ W2, W1.setRow N R1.toArray = W2 := ⟨_, rfl⟩
  rw [hW2] at hcpA hcpB hfin hbf
  rw [hN, hW1] at hrz
  unfold maxLen at hGm
  have z1 : ¬ ((i : Int) = (n : Int)) := by omega
  have z2 : (cap : Int) < (n : Int) + 1 := by omega
  have b0 : (0 : Int) ≤ (i : Int) := by omega
  have b1 : (i : Int) ≤ (n : Int) := by omega
  have b2 : (i : Int) ≤ (cap : Int) := by omega
  have b3 : (0 : Int) ≤ (i : Int) + 1 := by omega
  have b4 : (i : Int) + 1 ≤ (n : Int) + 1 := by omega
  have b5 : ((i : Int) + 1).toNat = i + 1 := by omega
  have b9 : (i : Int) ≤ (n : Int) + 1 := by omega
  have b7 : ¬ (G = i + 1) := by omega
  have b8 : ¬ (cap = i) := by omega
  have b10 : ¬ (G = i) := by omega
  have W0 : IntKind.i64.wrap ((i : Int) + 1) = (i : Int) + 1 := IntWalk.i64_in _ (by omega)
  have W2' : IntKind.i64.wrap ((n : Int) + 1) = (n : Int) + 1 := IntWalk.i64_in _ (by omega)
  have W3' : IntKind.i64.wrap ((n : Int) + 1 - (i : Int)) = (n : Int) + 1 - (i : Int) := IntWalk.i64_in _ (by omega)
  have e5 : n + 1 - (i + 1) = n - i := by omega
  have mixed : Try.prog.follows .mixedOrders = true := by kernel_rfl
  clear hres hPD hRl lR1 lR2 tR2 hR1 hR2 hP hD hX srcD srcP cellC oneP oneD oneX hC hCs hCt lP lD lX hv kN kV kg bW nV ng hold hROW lROW tROW hG hW1 hW2 hN hik hnx
  go_enter Try.func50, Try.ntmps50
  go_wp2_with (first
    | (at_builtin; refine Lib.wpList_append_run _ rfl _ _ _ _ rfl _ _ rfl rfl _ _ (hrz _) ?_)
    | (at_builtin; refine wpList_copy_runI _ rfl _ _ 26 26 rfl _ _ rfl rfl (hcpA _ _) ?_))
  go_region_law_o (refine step_copy_runI rfl _ _ 26 26 rfl _ _ (by simp [Act.eval, Act.put]) (by simp [Act.eval, Act.put]) (hcpB _ _ _) ?_)
  go_wp2
  go_ret
  refine ⟨_, rfl, ?_, hbf.out⟩
  unfold OwnTaps
  rw [HL.out]
  exact row_of_blk hfin.out (by rw [tapFlat_length, HL.out]) Hcs.out Ht.out hGn (by unfold maxLen; omega) hNb

set_option maxHeartbeats 1000000 in
/-- slices.Insert of one element at a slice of the call's own, wherever. -/
theorem insTap_any (base vb : Nat) (A : Option Addr) (n c i : Nat) (ys : List Fares.Tap) (x : Fares.Tap) (w : World) (ho : OwnTaps w base (.slice A n c) ys) (hn : ys.length = n)
    (hv : Blk w vb 30 #[.int .i64 x.v, .int .i64 x.n, .int .i64 x.c, .int .i64 x.m, .int .i64 x.s, .bool x.o]) (hne : ∀ a, A = some a → vb ≠ a.block) (hi : i ≤ n) (hl : n ≤ 1000000) (hb : base ≤ w.heap.size) :
    Calls Try.prog 50 #[.slice A n c, .int .i64 i, .slice (some ⟨vb, 0, none⟩) 1 1] w fun e w' =>
      ∃ v, e = .returned v ∧ OwnTaps w' base v (ys.take i ++ x :: ys.drop i) ∧ Below base w w' := by
  by_cases hin : i = n
  · subst hin
    have e : ys.take i ++ x :: ys.drop i = ys ++ [x] := by rw [List.take_of_length_le (by omega), List.drop_of_length_le (by omega)]
    rw [e]
    exact insEndTap_any base vb A i c ys x w ho hn hv hl hb
  · obtain ⟨g, cap, e, h1, h2, h3⟩ := own_some (show w.ownsRow base 30 6 (.slice A n c) ys.length (ys.flatMap tapCells) from ho) (by omega)
    injection e with e1 e2 e3
    subst e1 e3
    by_cases hr : n + 1 ≤ c
    · exact insRoomTap_any base vb g c n i ys x w ho hn hv (hne _ rfl) (by omega) hr hl
    · exact insGrowTap_any base vb g c n i ys x w ho hn hv (by omega) (by omega) hl hb
end Go.Proofs.Ytmbgaohnnkmidaa
