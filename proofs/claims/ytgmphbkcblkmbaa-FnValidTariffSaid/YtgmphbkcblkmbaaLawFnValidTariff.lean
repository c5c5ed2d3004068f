/-
  At every code the law FnValidTariff returns true: ValidTariff of the program answers as its model, and a valid tariff without its last stop is valid. No conditions.
-/
import Derived.Test.YtgmphbkcblkmbaaTariffFn
import Derived.Test.YtgmphbkcblkmbaaDrawsTariff
import Derived.Test.YtgmphbkcblkmbaaPeakFn
import Derived.Test.YtgmphbkcblkmbaaLiftBytes
set_option linter.unusedSimpArgs false
namespace Go.Proofs.Ytgmphbkcblkmbaa.fnValidTariff
open Go.ChangeShapes Go.WideShapes Go.ChangeAt Go.RowKit Go.Deep
set_option linter.unusedVariables false

theorem _root_.Go.Proofs.Ytgmphbkcblkmbaa.TariffIn.drewn {w : World} {v : TariffR} (h : TariffIn w w.heap.size v) : TariffIn w.drew w.drew.heap.size v := h.over (bD1 (Below.refl _ _))

set_option maxRecDepth 100000 in
set_option maxHeartbeats 2000000 in
theorem walk (A : Option Addr) (n c : Nat) (w : World) (h : Bytes w w.heap.size A n c) : Calls Try.prog 3 #[.slice A n c] w (TrueBelow w) := by
  by_cases hn : 1048576 < n
  · go_enter Try.func3, Try.ntmps3
    go_wp2
    go_ret
    exact ⟨rfl, Below.refl _ _⟩
  · go_enter Try.func3, Try.ntmps3
    have Hh := Lib.hid h; clear h
    go_wp2_with fail
    refine (drawValidTariff_any A n c w Hh.out).mono ?_
    rintro e w0 ⟨u, rfl, hin0, h1, h2, h3, h4, hc0⟩
    have Hsm := Lib.hid (AnyTariff.small h1 h2 h3 h4); clear h2
    have Hin0 := Lib.hid hin0; clear hin0
    unfold tariffV
    go_wp2_with fail
    generalize hW : World.alloc _ _ = w1
    have hT1 : Blk w1 w0.heap.size 27 u.cells := by rw [← hW]; exact Blk.new w0 _ _
    have HB1 : Hid (Below w.heap.size w w1) := Lib.hid (by rw [← hW]; exact bA hc0 _)
    have Hin1 : Hid (TariffIn w1 w1.heap.size u) := Lib.hid (by rw [← hW]; exact Hin0.out.up _)
    clear hW hc0 Hin0
    have Htv1 := Lib.hid hT1; clear hT1
    refine (implValidTariff_any u _ Hin1.out Hsm.out).mono ?_
    rintro e w2 ⟨rfl, hb2⟩
    have HB2 := Lib.hid (bT HB1.out hb2)
    clear HB1
    have Htv2 := Lib.hid (Blk.belowAll Htv1.out hb2)
    clear Htv1
    have Hin2 := Lib.hid (TariffIn.over Hin1.out hb2)
    clear Hin1
    clear hb2
    obtain ⟨t2_0, t2_1, t2_2, t2_3, t2_4⟩ := tariffCells (t := 27) (Htv2.out)
    cases hv : Fares.validTariff u.of
    · have Hv := Lib.hid hv; clear hv
      go_wp2_with fail
      refine (specValidTariff_any u _ Hin2.out Hsm.out).mono ?_
      rintro e w3 ⟨rfl, hb3⟩
      rw [Hv.out]
      have HB3 := Lib.hid (bT HB2.out hb3)
      clear HB2
      have Htv3 := Lib.hid (Blk.belowAll Htv2.out hb3)
      clear Htv2
      have Hin3 := Lib.hid (TariffIn.over Hin2.out hb3)
      clear Hin2
      clear hb3
      clear t2_0 t2_1 t2_2 t2_3 t2_4
      obtain ⟨t3_0, t3_1, t3_2, t3_3, t3_4⟩ := tariffCells (t := 27) (Htv3.out)
      go_wp2_with fail
      refine (specValidTariff_any u _ Hin3.out Hsm.out).mono ?_
      rintro e w4 ⟨rfl, hb4⟩
      rw [Hv.out]
      have HB4 := Lib.hid (bT HB3.out hb4)
      clear HB3
      have Htv4 := Lib.hid (Blk.belowAll Htv3.out hb4)
      clear Htv3
      have Hin4 := Lib.hid (TariffIn.over Hin3.out hb4)
      clear Hin3
      clear hb4
      go_wp2
      go_ret
      exact ⟨rfl, HB4.out⟩
    · have Hv := Lib.hid hv; clear hv
      go_wp2_with fail
      refine (specValidTariff_any u _ Hin2.out Hsm.out).mono ?_
      rintro e w3 ⟨rfl, hb3⟩
      rw [Hv.out]
      have HB3 := Lib.hid (bT HB2.out hb3)
      clear HB2
      have Htv3 := Lib.hid (Blk.belowAll Htv2.out hb3)
      clear Htv2
      have Hin3 := Lib.hid (TariffIn.over Hin2.out hb3)
      clear Hin2
      clear hb3
      clear t2_0 t2_1 t2_2 t2_3 t2_4
      obtain ⟨t3_0, t3_1, t3_2, t3_3, t3_4⟩ := tariffCells (t := 27) (Htv3.out)
      by_cases hz : u.z.length < 2
      · have hz' : ((u.z.length : Int) < 2) := by omega
        go_wp2_with fail
        refine (specValidTariff_any u _ Hin3.out Hsm.out).mono ?_
        rintro e w4 ⟨rfl, hb4⟩
        rw [Hv.out]
        have HB4 := Lib.hid (bT HB3.out hb4)
        clear HB3
        have Htv4 := Lib.hid (Blk.belowAll Htv3.out hb4)
        clear Htv3
        have Hin4 := Lib.hid (TariffIn.over Hin3.out hb4)
        clear Hin3
        clear hb4
        go_wp2
        go_ret
        exact ⟨rfl, HB4.out⟩
      · have hz' : decide ((u.z.length : Int) < 2) = false := by rw [decide_eq_false_iff_not]; omega
        obtain ⟨m, hm⟩ : ∃ m, u.z.length = m + 1 := ⟨u.z.length - 1, by omega⟩
        have wm : IntKind.i64.wrap (m : Int) = (m : Int) := IntWalk.i64_in _ (by omega)
        have wm2 : (u.z.length : Int) - 1 = (m : Int) := by omega
        have hm1 : 1 ≤ m := by omega
        have hm2 : m ≤ u.z.length := by omega
        have i0 : (0 : Int) ≤ (m : Int) := by omega
        have hcap := (Hin3.out).2.2.2
        unfold maxLen at hcap
        have i1 : (m : Int) ≤ (u.zc : Int) := by omega
        have Hm := Lib.hid hm; clear hm
        go_wp2
        refine wp_region_held_drew (S := fun w' => w'.cell? ⟨w0.heap.size, 0, none⟩ = some (.slice u.pA u.L.length u.pc) ∧ w'.cell? ⟨w0.heap.size, 1, none⟩ = some (.slice u.zA u.z.length u.zc) ∧ w'.cell? ⟨w0.heap.size, 2, none⟩ = some (.slice u.kA u.k.length u.kc) ∧ w'.cell? ⟨w0.heap.size, 3, none⟩ = some (.int .i64 u.e) ∧ w'.cell? ⟨w0.heap.size, 4, none⟩ = some (.int .i64 u.t)) (by kernel_rfl) (by exact tariffCells (t := 27) (Htv3.out)) (fun hS => ?_)
        refine take_at 0 30 (v := ?_) rfl rfl (by kernel_rfl) (by kernel_rfl) (by kernel_rfl) (fun _ _ _ h => h) (by rfl) ?_ hS ?_
        rotate_left 1
        · (intro w hSw; (try dsimp only at hSw); (try go_split_ands); go_simp; try with_reducible rfl)
        simp only [List.setIfInBounds_toArray, List.set_cons_zero, List.set_cons_succ]
        refine take_at 1 31 (v := ?_) rfl rfl (by kernel_rfl) (by kernel_rfl) (by kernel_rfl) (fun _ _ _ h => h) (by rfl) ?_ hS ?_
        rotate_left 1
        · (intro w hSw; (try dsimp only at hSw); (try go_split_ands); go_simp; try with_reducible rfl)
        simp only [List.setIfInBounds_toArray, List.set_cons_zero, List.set_cons_succ]
        refine take_at 2 32 (v := ?_) rfl rfl (by kernel_rfl) (by kernel_rfl) (by kernel_rfl) (fun _ _ _ h => h) (by rfl) ?_ hS ?_
        rotate_left 1
        · (intro w hSw; (try dsimp only at hSw); (try go_split_ands); go_simp; try with_reducible rfl)
        simp only [List.setIfInBounds_toArray, List.set_cons_zero, List.set_cons_succ]
        refine take_at 3 33 (v := ?_) rfl rfl (by kernel_rfl) (by kernel_rfl) (by kernel_rfl) (fun _ _ _ h => h) (by rfl) ?_ hS ?_
        rotate_left 1
        · (intro w hSw; (try dsimp only at hSw); (try go_split_ands); go_simp; try with_reducible rfl)
        simp only [List.setIfInBounds_toArray, List.set_cons_zero, List.set_cons_succ]
        refine take_at 4 34 (v := ?_) rfl rfl (by kernel_rfl) (by kernel_rfl) (by kernel_rfl) (fun _ _ _ h => h) (by rfl) ?_ hS ?_
        rotate_left 1
        · (intro w hSw; (try dsimp only at hSw); (try go_split_ands); go_simp; try with_reducible rfl)
        simp only [List.setIfInBounds_toArray, List.set_cons_zero, List.set_cons_succ]
        refine take_at 5 35 (v := ?_) rfl rfl (by kernel_rfl) (by kernel_rfl) (by kernel_rfl) (fun _ _ _ h => h) (by rfl) ?_ hS ?_
        rotate_left 1
        · (intro w hSw; (try dsimp only at hSw); (try go_split_ands); go_simp; try with_reducible rfl)
        simp only [List.setIfInBounds_toArray, List.set_cons_zero, List.set_cons_succ]
        refine take_at 6 36 (v := ?_) rfl rfl (by kernel_rfl) (by kernel_rfl) (by kernel_rfl) (fun _ _ _ h => h) (by rfl) ?_ hS ?_
        rotate_left 1
        · (intro w hSw; (try dsimp only at hSw); (try go_split_ands); go_simp; try with_reducible rfl)
        simp only [List.setIfInBounds_toArray, List.set_cons_zero, List.set_cons_succ]
        refine take_at 7 37 (v := ?_) rfl rfl (by kernel_rfl) (by kernel_rfl) (by kernel_rfl) (fun _ _ _ h => h) (by rfl) ?_ hS ?_
        rotate_left 1
        · (intro w hSw; (try dsimp only at hSw); (try go_split_ands); go_simp; try with_reducible rfl)
        simp only [List.setIfInBounds_toArray, List.set_cons_zero, List.set_cons_succ]
        refine take_at 8 38 (v := ?_) rfl rfl (by kernel_rfl) (by kernel_rfl) (by kernel_rfl) (fun _ _ _ h => h) (by rfl) ?_ hS ?_
        rotate_left 1
        · (intro w hSw; (try dsimp only at hSw); (try go_split_ands); go_simp; try with_reducible rfl)
        simp only [List.setIfInBounds_toArray, List.set_cons_zero, List.set_cons_succ]
        refine take_at 9 39 (v := ?_) rfl rfl (by kernel_rfl) (by kernel_rfl) (by kernel_rfl) (fun _ _ _ h => h) (by rfl) ?_ hS ?_
        rotate_left 1
        · (intro w hSw; (try dsimp only at hSw); (try go_split_ands); go_simp; try with_reducible rfl)
        simp only [List.setIfInBounds_toArray, List.set_cons_zero, List.set_cons_succ]
        refine take_at 10 40 (v := ?_) rfl rfl (by kernel_rfl) (by kernel_rfl) (by kernel_rfl) (fun _ _ _ h => h) (by rfl) ?_ hS ?_
        rotate_left 1
        · (intro w hSw; (try dsimp only at hSw); (try go_split_ands); go_simp; try with_reducible rfl)
        simp only [List.setIfInBounds_toArray, List.set_cons_zero, List.set_cons_succ]
        refine take_at 11 41 (v := ?_) rfl rfl (by kernel_rfl) (by kernel_rfl) (by kernel_rfl) (fun _ _ _ h => h) (by rfl) ?_ hS ?_
        rotate_left 1
        · (intro w hSw; (try dsimp only at hSw); (try go_split_ands); go_simp; try with_reducible rfl)
        simp only [List.setIfInBounds_toArray, List.set_cons_zero, List.set_cons_succ]
        refine take_at 12 42 (v := ?_) rfl rfl (by kernel_rfl) (by kernel_rfl) (by kernel_rfl) (fun _ _ _ h => h) (by rfl) ?_ hS ?_
        rotate_left 1
        · (intro w hSw; (try dsimp only at hSw); (try go_split_ands); go_simp; try with_reducible rfl)
        simp only [List.setIfInBounds_toArray, List.set_cons_zero, List.set_cons_succ]
        refine take_at 13 43 (v := ?_) rfl rfl (by kernel_rfl) (by kernel_rfl) (by kernel_rfl) (fun _ _ _ h => h) (by rfl) ?_ hS ?_
        rotate_left 1
        · (intro w hSw; (try dsimp only at hSw); (try go_split_ands); go_simp; try with_reducible rfl)
        simp only [List.setIfInBounds_toArray, List.set_cons_zero, List.set_cons_succ]
        refine take_at 14 44 (v := ?_) rfl rfl (by kernel_rfl) (by kernel_rfl) (by kernel_rfl) (fun _ _ _ h => h) (by rfl) ?_ hS ?_
        rotate_left 1
        · (intro w hSw; (try dsimp only at hSw); (try go_split_ands); go_simp; try with_reducible rfl)
        simp only [List.setIfInBounds_toArray, List.set_cons_zero, List.set_cons_succ]
        refine take_at 15 45 (v := ?_) rfl rfl (by kernel_rfl) (by kernel_rfl) (by kernel_rfl) (fun _ _ _ h => h) (by rfl) ?_ hS ?_
        rotate_left 1
        · (intro w hSw; (try dsimp only at hSw); (try go_split_ands); go_simp; try with_reducible rfl)
        simp only [List.setIfInBounds_toArray, List.set_cons_zero, List.set_cons_succ]
        refine wpAnyH_ready (rs := [16]) (by kernel_rfl) (by simp) ?_
        refine AllReadyH.cons rfl (fun K hK => ?_) (AllReadyH.nil)
        go_simp
        have hin := (TariffIn.drewn Hin3.out)
        have htk : (u.z.take m).length = m := by rw [List.length_take]; omega
        have hin3 : TariffIn _ _ (⟨u.pA, u.pc, u.L, u.zA, u.zc, u.z.take m, u.kA, u.kc, u.k, u.e, u.t⟩ : TariffR) := ⟨hin.1, Ints.take hin.2.1 m, hin.2.2.1, hin.2.2.2.1, hin.2.2.2.2.1, by show (u.z.take m).length ≤ u.zc; rw [htk]; omega, hin.2.2.2.2.2.2⟩
        have hsm3 : TariffSmall (⟨u.pA, u.pc, u.L, u.zA, u.zc, u.z.take m, u.kA, u.kc, u.k, u.e, u.t⟩ : TariffR) := ⟨Hsm.out.1, Hsm.out.2.1, by show (u.z.take m).length ≤ 1048576; rw [htk]; omega, Hsm.out.2.2.2⟩
        have hv3 : Fares.validTariff (TariffR.of (⟨u.pA, u.pc, u.L, u.zA, u.zc, u.z.take m, u.kA, u.kc, u.k, u.e, u.t⟩ : TariffR)) = true := Fares.validTariff_take Hv.out hm1 hm2
        have hcl := implValidTariff_any (⟨u.pA, u.pc, u.L, u.zA, u.zc, u.z.take m, u.kA, u.kc, u.k, u.e, u.t⟩ : TariffR) _ hin3 hsm3
        rw [hv3] at hcl
        unfold tariffV at hcl
        dsimp only at hcl
        rw [htk] at hcl
        have Hcl := Lib.hid hcl
        clear hcl hin hin3 hsm3 hv3 htk
        go_wp2_with fail
        refine (Hcl.out).mono ?_
        rintro e w4 ⟨rfl, hb4⟩
        have HB4 := Lib.hid (bT (bD1 HB3.out) hb4)
        clear HB3
        have Htv4 := Lib.hid (Blk.belowAll (blkDrew Htv3.out) hb4)
        clear Htv3
        have Hin4 := Lib.hid (TariffIn.over (TariffIn.drewn Hin3.out) hb4)
        clear Hin3
        clear hb4
        go_simp
        refine hK.out _ _ (by exact tariffCells (t := 27) (Htv4.out)) (fun hS => ?_)
        clear hK K
        refine take_at 17 2 (v := ?_) rfl rfl (by kernel_rfl) (by kernel_rfl) (by kernel_rfl) (fun _ _ _ h => h) (by rfl) ?_ hS ?_
        rotate_left 1
        · (intro w hSw; (try dsimp only at hSw); (try go_split_ands); go_simp; try with_reducible rfl)
        simp only [List.setIfInBounds_toArray, List.set_cons_zero, List.set_cons_succ]
        refine wpAnyH_done (by kernel_rfl) ?_ _
        go_wp2
        go_ret
        exact ⟨rfl, HB4.out⟩

set_option maxRecDepth 100000 in
theorem lifted (os : Os) (started : os.Started) (H : Type) (enc : TypeId × Value → H) :
    ReturnsInHanded {} Try.checked os 3 .any (Rows.fnValidTariffSpec.pre6 enc Try.prog Try.f3 Rows.fnValidTariffRow.domain false) (Rows.fnValidTariffSpec.post enc Try.prog Try.f3 false true false false) := by
  refine returnsInHanded_of_change (C := Try.checked) Cells.own started (by kernel_rfl) Try.func3
    (ChangeSpec.witness6 (enc := enc) (C := Try.checked) false ⟨#[], #[.slice none 0 0], []⟩ 8 (by kernel_rfl) (by kernel_rfl) (by kernel_rfl) (by kernel_rfl)) ?_
  intro W base args ds gs before hval0 hW _ _
  have hval : ∀ (j : Nat) t v, Try.f3.params[j]? = some t → args[j]? = some v → Value.okWide Try.prog W .any base t v := hval0
  have hW' := hW
  obtain ⟨p, q, hA0, hV, rfl, _, _⟩ := hW
  have hA : DataW.TrodAll enc Try.prog W 0 (fun _ => true) true Try.f3.params.toList args.toList ds p := hA0
  rw [Try.params3] at hA hval
  obtain ⟨v0, d0, rfl, rfl, h0⟩ := trodAll_one hA
  obtain ⟨rfl, rfl⟩ := trodVars_none hV
  obtain ⟨a0, len, cap, rfl⟩ := okWide_slice Try.underlying22 (hval 0 22 v0 rfl rfl)
  clear hA0 hval0
  simp only [List.append_nil] at hW'
  obtain ⟨hb, hargs⟩ := opened h0 (fun x hx => by simpa using hW'.lt x hx)
  refine (walk a0 len cap W hb).mono fun e W' ⟨he, hnx⟩ => ?_
  subst he
  exact ⟨_, rfl, _, _, _, [], _, [], hW', trodAll_mk1 (shut_bool Try.underlying4 _), trodAll_mk1 (hargs _ hnx), rfl, hnx.frame _, fun h => by cases h⟩

theorem closed : joinedFacts Try.prog 3 Try.f3 Rows.fnValidTariffSpec Rows.fnValidTariffRow = true := by
  unfold joinedFacts
  rw [Cells.laidOut, Cells.mapsRowed_, Cells.stops, Cells.stopKnobs, Cells.plainKeys, Cells.stopsHeard, Cells.mayEnter, Cells.liftsFinal, Cells.make]
  kernel_rfl

theorem over : Rows.fnValidTariffRow.holds Try.pinned (OpenSpec.ofChange Rows.fnValidTariffSpec) :=
  OpenClaim.holds_of_wide 3 Try.f3 rfl rfl rfl rfl rfl rfl rfl ⟨rfl, rfl, rfl, rfl, rfl⟩ rfl rfl rfl rfl rfl (by kernel_rfl) Try.func3 closed
    (of_decide_eq_true (by kernel_rfl)) (by unfold Func.isWrapper; first | (rw [if_pos (by decide +kernel)]; kernel_rfl) | (rw [if_neg (by decide +kernel)]; exact ⟨rfl, rfl⟩))
    (fun os started H enc _ => lifted os started H enc)

/-- THE STATEMENT -/
theorem proved : Rows.FnValidTariffSaid := over
#print axioms proved
end Go.Proofs.Ytgmphbkcblkmbaa.fnValidTariff
