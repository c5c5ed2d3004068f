/-
  At every tariff, ValidTariff of the program answers as its model, and leaves its argument as it was: the law FnExactValidTariff returns true. No conditions.
-/
import Derived.Test.YtgmphbkcblkmbaaOpen
import Derived.Test.YtgmphbkcblkmbaaTariffTo
import Derived.Test.YtgmphbkcblkmbaaTariffFn
set_option linter.unusedSimpArgs false
namespace Go.Proofs.Ytgmphbkcblkmbaa.fnExactValidTariff
open Go.ChangeShapes Go.WideShapes Go.ChangeAt Go.RowKit
set_option linter.unusedVariables false

set_option maxRecDepth 100000 in
set_option maxHeartbeats 2000000 in
theorem walk (w : World) (a0 : TariffR) (i0 : TariffIn w w.heap.size a0) (f0 : tariffFits a0) : Calls Try.prog 11 #[tariffV a0] w (TrueBelow w) := by
  have Hi := Lib.hid i0; clear i0
  unfold tariffV
  go_enter Try.func11, Try.ntmps11
  go_wp2_with fail
  generalize hW : World.alloc _ _ = W0
  have hP0 : Blk W0 w.heap.size 45 a0.cells := by rw [← hW]; exact Blk.new w _ _
  have hc0 : Below w.heap.size w W0 := by rw [← hW]; exact bA (Below.refl _ _) _
  clear hW
  refine (szTariff_any a0 _ (Hi.out.over hc0)).mono ?_
  rintro e w1 ⟨⟨r, rfl, hr0, hr1, hr⟩, hb1⟩
  have hc1 : Below w.heap.size w w1 := bT hc0 hb1
  have hP1 := hP0.belowAll hb1
  clear hP0 hb1 hc0
  rcases hr with hr | ⟨hr, hs⟩
  · have hd : decide (r < 0) = true := by rw [decide_eq_true_eq]; omega
    go_wp2
    go_ret
    exact ⟨rfl, hc1⟩
  · have hd : decide (r < 0) = false := by rw [decide_eq_false_iff_not]; omega
    have Hs := Lib.hid hs; clear hs
    obtain ⟨p0, p1, p2, p3, p4⟩ := tariffCells hP1
    have HP1 := Lib.hid hP1; clear hP1
    go_wp2_with fail
    refine (toTariff_any a0 _ (Hi.out.over hc1) Hs.out).mono ?_
    rintro e w2 ⟨⟨t2, rfl, ht2, hin2, hs2⟩, hb2⟩
    have hc2 : Below w.heap.size w w2 := bT hc1 hb2
    have HP2 := Lib.hid (HP1.out.belowAll hb2)
    clear p0 p1 p2 p3 p4 HP1 hb2 hc1
    go_wp2_with fail
    refine (specValidTariff_any t2 _ hin2 hs2).mono ?_
    rintro e w3 ⟨rfl, hb3⟩
    rw [ht2]
    have hc3 : Below w.heap.size w w3 := bT hc2 hb3
    have hP3 := HP2.out.belowAll hb3
    clear hin2 hs2 ht2 HP2 hb3 hc2
    obtain ⟨p0, p1, p2, p3, p4⟩ := tariffCells hP3
    have HP3 := Lib.hid hP3; clear hP3
    go_wp2_with fail
    refine (toTariff_any a0 _ (Hi.out.over hc3) Hs.out).mono ?_
    rintro e w4 ⟨⟨t4, rfl, ht4, hin4, hs4⟩, hb4⟩
    have hc4 : Below w.heap.size w w4 := bT hc3 hb4
    have HP4 := Lib.hid (HP3.out.belowAll hb4)
    clear p0 p1 p2 p3 p4 HP3 hb4 hc3
    unfold tariffV
    have Hin4 := Lib.hid hin4; clear hin4
    have Hs4 := Lib.hid hs4; clear hs4
    have Ht4 := Lib.hid ht4; clear ht4
    go_wp2_with fail
    generalize hW : World.alloc _ _ = W4
    have hX4 : Blk W4 w4.heap.size 27 t4.cells := by rw [← hW]; exact Blk.new w4 _ _
    have hP5 : Blk W4 w.heap.size 45 a0.cells := by rw [← hW]; exact HP4.out.alloc _
    have Hin5 : Hid (TariffIn W4 W4.heap.size t4) := Lib.hid (by rw [← hW]; exact Hin4.out.up _)
    have hc5 : Below w.heap.size w W4 := by rw [← hW]; exact bA hc4 _
    clear hW HP4 Hin4
    refine (implValidTariff_any t4 _ Hin5.out Hs4.out).mono ?_
    rintro e w5 ⟨rfl, hb5⟩
    rw [Ht4.out]
    have hc6 : Below w.heap.size w w5 := bT hc5 hb5
    have hX5 := hX4.belowAll hb5
    have hP6 := hP5.belowAll hb5
    have Hin6 := Lib.hid (Hin5.out.over hb5)
    clear hX4 hP5 Hin5 hb5 hc5
    obtain ⟨p0, p1, p2, p3, p4⟩ := tariffCells hP6
    obtain ⟨q0, q1, q2, q3, q4⟩ := tariffCells hX5
    have HP6 := Lib.hid hP6; clear hP6
    have HX5 := Lib.hid hX5; clear hX5
    go_wp2
    have hlt5 : w4.heap.size < w5.heap.size := HX5.out.lt
    have hlt6 : w.heap.size < w5.heap.size := HP6.out.lt
    refine wp_region_held_drew (S := fun w' => (w'.cell? ⟨w4.heap.size, 0, none⟩ = some (.slice t4.pA t4.L.length t4.pc) ∧ w'.cell? ⟨w4.heap.size, 1, none⟩ = some (.slice t4.zA t4.z.length t4.zc) ∧ w'.cell? ⟨w4.heap.size, 2, none⟩ = some (.slice t4.kA t4.k.length t4.kc) ∧ w'.cell? ⟨w4.heap.size, 3, none⟩ = some (.int .i64 t4.e) ∧ w'.cell? ⟨w4.heap.size, 4, none⟩ = some (.int .i64 t4.t)) ∧ (w'.cell? ⟨w.heap.size, 0, none⟩ = some (.slice a0.pA a0.L.length a0.pc) ∧ w'.cell? ⟨w.heap.size, 1, none⟩ = some (.slice a0.zA a0.z.length a0.zc) ∧ w'.cell? ⟨w.heap.size, 2, none⟩ = some (.slice a0.kA a0.k.length a0.kc) ∧ w'.cell? ⟨w.heap.size, 3, none⟩ = some (.int .i64 a0.e) ∧ w'.cell? ⟨w.heap.size, 4, none⟩ = some (.int .i64 a0.t))) (by kernel_rfl) (by exact ⟨⟨q0, q1, q2, q3, q4⟩, ⟨p0, p1, p2, p3, p4⟩⟩) (fun hS => ?_)
    refine take_at 0 22 (v := ?_) rfl rfl (by kernel_rfl) (by kernel_rfl) (by kernel_rfl) (fun _ _ _ h => h) (by rfl) ?_ hS ?_
    rotate_left 1
    · (intro w hSw; (try dsimp only at hSw); (try go_split_ands); go_simp; try with_reducible rfl)
    simp only [List.setIfInBounds_toArray, List.set_cons_zero, List.set_cons_succ]
    refine take_at 1 23 (v := ?_) rfl rfl (by kernel_rfl) (by kernel_rfl) (by kernel_rfl) (fun _ _ _ h => h) (by rfl) ?_ hS ?_
    rotate_left 1
    · (intro w hSw; (try dsimp only at hSw); (try go_split_ands); go_simp; try with_reducible rfl)
    simp only [List.setIfInBounds_toArray, List.set_cons_zero, List.set_cons_succ]
    refine wpAnyH_ready (rs := [2]) (by kernel_rfl) (by simp) ?_
    refine AllReadyH.cons rfl (fun K hK => ?_) AllReadyH.nil
    go_simp
    go_wp2_with fail
    refine (toTariff_any a0 _ (Hi.out.over (bD1 hc6)) Hs.out).mono ?_
    rintro e w6 ⟨⟨t6, rfl, ht6, hin6, hs6⟩, hb6⟩
    have hc7 : Below w.heap.size w w6 := bT (bD1 hc6) hb6
    have Hin4b := Lib.hid ((show TariffIn w5.drew w5.drew.heap.size t4 from Hin6.out.over (bD1 (Below.refl _ _))).over hb6)
    have hlt7 : w4.heap.size < w6.heap.size := Nat.lt_of_lt_of_le hlt5 hb6.size
    have hlt8 : w.heap.size < w6.heap.size := Nat.lt_of_lt_of_le hlt6 hb6.size
    have Hinx := Lib.hid hin6; clear hin6
    have Hs6 := Lib.hid hs6; clear hs6
    have Ht6 := Lib.hid ht6; clear ht6
    go_simp
    refine hK.out _ _ (by refine ⟨⟨?_, ?_, ?_, ?_, ?_⟩, ?_, ?_, ?_, ?_, ?_⟩ <;> first | exact (hb6.cell (p := ⟨w4.heap.size, _, none⟩) hlt5).trans (by assumption) | exact (hb6.cell (p := ⟨w.heap.size, _, none⟩) hlt6).trans (by assumption)) (fun hS => ?_)
    clear hK K
    refine wpAnyH_ready (rs := [3]) (by kernel_rfl) (by simp) ?_
    refine AllReadyH.cons rfl (fun K hK => ?_) AllReadyH.nil
    go_simp
    go_wp2_with fail
    refine (eqTariff_same t4 t6 _ Hin4b.out Hinx.out Hs4.out Hs6.out (Ht4.out.trans Ht6.out.symm)).mono ?_
    rintro e w7 ⟨rfl, hb7⟩
    have hc8 : Below w.heap.size w w7 := bT hc7 hb7
    go_simp
    refine hK.out _ _ (by go_split_ands; refine ⟨⟨?_, ?_, ?_, ?_, ?_⟩, ?_, ?_, ?_, ?_, ?_⟩ <;> first | exact (hb7.cell (p := ⟨w4.heap.size, _, none⟩) hlt7).trans (by assumption) | exact (hb7.cell (p := ⟨w.heap.size, _, none⟩) hlt8).trans (by assumption)) (fun hS => ?_)
    clear hK K
    refine take_at 4 26 (v := ?_) rfl rfl (by kernel_rfl) (by kernel_rfl) (by kernel_rfl) (fun _ _ _ h => h) (by rfl) ?_ hS ?_
    rotate_left 1
    · (intro w hSw; (try dsimp only at hSw); (try go_split_ands); go_simp; try with_reducible rfl)
    simp only [List.setIfInBounds_toArray, List.set_cons_zero, List.set_cons_succ]
    refine wpAnyH_done (by kernel_rfl) ?_ _
    go_wp2
    go_ret
    exact ⟨rfl, hc8⟩

set_option maxRecDepth 100000 in
theorem lifted (os : Os) (started : os.Started) (H : Type) (enc : TypeId × Value → H) :
    ReturnsInHanded {} Try.checked os 11 .any (Rows.fnExactValidTariffSpec.pre6 enc Try.prog Try.f11 Rows.fnExactValidTariffRow.domain false) (Rows.fnExactValidTariffSpec.post enc Try.prog Try.f11 false true false false) := by
  refine returnsInHanded_of_change (C := Try.checked) Cells.own started (by kernel_rfl) Try.func11
    (ChangeSpec.witness6 (enc := enc) (C := Try.checked) false ⟨#[], #[.agg #[.slice none 0 0, .slice none 0 0, .slice none 0 0, .int .i64 0, .int .i64 0]], []⟩ 8 (by kernel_rfl) (by kernel_rfl) (by kernel_rfl) (by kernel_rfl)) ?_
  intro W base args ds gs before hval0 hW _ _
  have hval : ∀ (j : Nat) t v, Try.f11.params[j]? = some t → args[j]? = some v → Value.okWide Try.prog W .any base t v := hval0
  have hW' := hW
  obtain ⟨p, q, hA0, hV, rfl, _, _⟩ := hW
  have hA : DataW.TrodAll enc Try.prog W 0 (fun _ => true) true Try.f11.params.toList args.toList ds p := hA0
  rw [Try.params11] at hA hval
  obtain ⟨v0, vs0, d0, ds0, p0, q0, hargs, rfl, rfl, h0, r0⟩ := trodAll_cons hA
  obtain ⟨rfl, rfl, rfl⟩ := trodAll_nil r0
  obtain rfl : args = #[v0] := by cases args; simp_all
  obtain ⟨rfl, rfl⟩ := trodVars_none hV
  clear hA0 hval0
  have hlt : ∀ x ∈ (p0 ++ []), x.block < W.heap.size := fun x hx => hW'.lt x (by simpa using hx)
  have k0 := fun (W' : World) (hn : Below W.heap.size W W') => Below.trod Cells.laidOut (by kernel_rfl) (of_decide_eq_true (by kernel_rfl)) h0 hn (fun x hx => hlt x (by simp [hx]))
  obtain ⟨a0, rfl, i0, f0⟩ := tariff_open (hval 0 45 v0 rfl rfl) h0
  refine (walk W a0 i0 f0).mono fun e W' ⟨he, hnx⟩ => ?_
  subst he
  refine ⟨_, rfl, _, _, _, [], (p0 ++ []), [], hW', trodAll_mk1 (shut_bool Try.underlying4 _), (trodAll_cons_mk (k0 _ hnx) trodAll_mk0), rfl, hnx.frame _, fun h => by cases h⟩

theorem closed : joinedFacts Try.prog 11 Try.f11 Rows.fnExactValidTariffSpec Rows.fnExactValidTariffRow = true := by
  unfold joinedFacts
  rw [Cells.laidOut, Cells.mapsRowed_, Cells.stops, Cells.stopKnobs, Cells.plainKeys, Cells.stopsHeard, Cells.mayEnter, Cells.liftsFinal, Cells.make]
  kernel_rfl

theorem over : Rows.fnExactValidTariffRow.holds Try.pinned (OpenSpec.ofChange Rows.fnExactValidTariffSpec) :=
  OpenClaim.holds_of_wide 11 Try.f11 rfl rfl rfl rfl rfl rfl rfl ⟨rfl, rfl, rfl, rfl, rfl⟩ rfl rfl rfl rfl rfl (by kernel_rfl) Try.func11 closed
    (of_decide_eq_true (by kernel_rfl)) (by unfold Func.isWrapper; first | (rw [if_pos (by decide +kernel)]; kernel_rfl) | (rw [if_neg (by decide +kernel)]; exact ⟨rfl, rfl⟩))
    (fun os started H enc _ => lifted os started H enc)

/-- THE STATEMENT -/
theorem proved : Rows.FnExactValidTariffSaid := over
#print axioms proved
end Go.Proofs.Ytgmphbkcblkmbaa.fnExactValidTariff
