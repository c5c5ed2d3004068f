/-
  Debts can be left out: for every code, with the debts drawn from it, the law FnValidDebts returns true and leaves the code as it was. No conditions.
-/
import Derived.Test.YtpdddadplagcpaaDrawDebt
import Derived.Test.YtpdddadplagcpaaDebtFn2
import Derived.Test.YtpdddadplagcpaaDebtLaw
import Derived.Test.YtpdddadplagcpaaOver2
import Derived.Test.YtpdddadplagcpaaAppendSrc
import Derived.Test.YtpdddadplagcpaaLiftBytes
import Derived.Test.YtpdddadplagcpaaLiftBytes
set_option linter.unusedSimpArgs false
namespace Go.Proofs.Ytpdddadplagcpaa.fnValidDebts
open Go.ChangeShapes Go.WideShapes Go.ChangeAt Go.RowKit
set_option linter.unusedVariables false

theorem info_out : (Try.prog.info? 37).map (fun i => (i.zero, i.size, i.bytes)) = some (some (.agg #[.int .i64 0, .int .i64 0]), 2, 16) := by kernel_rfl
set_option maxRecDepth 100000 in
set_option maxHeartbeats 2000000 in
theorem walk (A : Option Addr) (n c : Nat) (w : World) (h : Bytes w w.heap.size A n c) : Calls Try.prog 3 #[.slice A n c] w (TrueBelow w) := by
  by_cases hn : 1048576 < n
  · go_enter Try.func3, Try.ntmps3
    go_wp2
    go_ret
    exact ⟨rfl, Below.refl _ _⟩
  · go_enter Try.func3, Try.ntmps3
    have Hh := Lib.hid h; clear h
    go_wp2_with fail
    refine (drawValidDebts_any A n c w Hh.out).mono ?_
    rintro e w1 ⟨v, ys, rfl, hown1, hlen, hsm, hb1⟩
    obtain ⟨Av, cv, rfl, hcv1, hcv2, hrs1⟩ := OwnDebts.form hown1
    unfold maxLen at hcv2
    have HB1 := Lib.hid hb1; clear hb1
    have Hxs1 := Lib.hid hrs1; clear hrs1
    have Hsm := Lib.hid hsm; clear hsm hown1
    obtain ⟨R, hR⟩ : ∃ R, R = Fares.validDebts ys := ⟨_, rfl⟩
    have HR := Lib.hid hR; clear hR
    obtain ⟨ti, hi0, hz0, hz1, hz2⟩ := info_parts info_out
    have HIDebt := Lib.hid hi0; clear hi0
    have HZ0Debt := Lib.hid hz0; clear hz0
    have HZ1Debt := Lib.hid hz1; clear hz1
    have HZ2Debt := Lib.hid hz2; clear hz2
    go_wp2_with fail
    refine (implValidDebts_any Av _ cv ys _ Hxs1.out rfl (by omega)).mono ?_
    rintro e w2 ⟨rfl, hb2⟩
    rw [← HR.out]
    have HB2 := Lib.hid (bT HB1.out hb2)
    clear HB1
    have Hxs2 := Lib.hid (readsOver Hxs1.out hb2)
    clear Hxs1
    clear hb2
    go_wp2_with fail
    refine (specValidDebts_any Av _ cv ys _ Hxs2.out rfl (by omega)).mono ?_
    rintro e w3 ⟨rfl, hb3⟩
    rw [← HR.out]
    have HB3 := Lib.hid (bT HB2.out hb3)
    clear HB2
    have Hxs3 := Lib.hid (readsOver Hxs2.out hb3)
    clear Hxs2
    clear hb3
    by_cases hr : R = true
    · subst hr
      by_cases hl : ys.length = 0
      · have hl1 : ((ys.length : Int) == 0) = true := by rw [beq_iff_eq]; omega
        have Hl := Lib.hid hl; clear hl
        go_wp2_with fail
        refine (specValidDebts_any Av _ cv ys _ Hxs3.out rfl (by omega)).mono ?_
        rintro e w4 ⟨rfl, hb4⟩
        rw [← HR.out]
        have HB4 := Lib.hid (bT HB3.out hb4)
        clear HB3
        have Hxs4 := Lib.hid (readsOver Hxs3.out hb4)
        clear Hxs3
        clear hb4
        go_wp2
        go_ret
        exact ⟨rfl, HB4.out⟩
      · have hl1 : ((ys.length : Int) == 0) = false := by rw [beq_eq_false_iff_ne]; omega
        have hlv : ys.length ≤ 24 := Nat.le_trans hlen (by omega)
        obtain ⟨k, hk⟩ : ∃ k, k = n % ys.length := ⟨_, rfl⟩
        have hkl : k < ys.length := by rw [hk]; exact Nat.mod_lt _ (by omega)
        have hkm : ((n : Int)) % (ys.length : Int) = (k : Int) := by rw [hk]; exact (Int.natCast_emod n ys.length).symm
        have hkt : ((n : Int)).tmod (ys.length : Int) = (k : Int) := by rw [Int.tmod_eq_emod_of_nonneg (by omega)]; exact hkm
        clear hk
        obtain ⟨bx, ox, rfl, hbx, hrow⟩ := Debts.row Hxs3.out (by omega)
        clear hrow
        have i0 : (0 : Int) ≤ (k : Int) := by omega
        have i1 : (k : Int) ≤ (cv : Int) := by omega
        have i2 : (0 : Int) < (ys.length : Int) := by omega
        obtain ⟨A2, hA2⟩ : ∃ A2, A2 = (if cv = k + 1 then some (⟨bx, ox, none⟩ : Addr) else some ⟨bx, ox + (k + 1) * 2, none⟩) := ⟨_, rfl⟩
        have HA2 := Lib.hid hA2.symm
        have hAn : A2 = none → ys.length - (k + 1) = 0 ∧ cv - (k + 1) = 0 := by rw [hA2]; split <;> (intro h; cases h)
        clear hA2
        have HAn := Lib.hid hAn; clear hAn
        obtain ⟨F, hF⟩ : ∃ F, F = ys.take k ++ ys.drop (k + 1) := ⟨_, rfl⟩
        have hval := Fares.validDebts_less HR.out.symm k
        rw [← hF] at hval
        have Hval := Lib.hid hval; clear hval
        have hlf : F.length ≤ 24 := by rw [hF, List.length_append, List.length_take, List.length_drop]; omega
        have HF := Lib.hid hF; clear hF
        go_wp2
        clear hkm hkt
        have e1 : IntKind.i64.wrap ((k : Int) + 1) = (k : Int) + 1 := IntWalk.i64_in _ (by omega)
        have e2 : (0 : Int) ≤ (k : Int) + 1 := by omega
        have e3 : ((k : Int) + 1).toNat = k + 1 := by omega
        have e4 : (k : Int) + 1 ≤ (ys.length : Int) := by omega
        have e5 := HA2.out
        have HBo := Lib.hid (Below.refl w3.heap.size w3)
        refine wp_region_held_drew (S := fun _ => True) (by kernel_rfl) (by trivial) (fun hS => ?_)
        refine take_at 1 36 (v := ?_) rfl rfl (by kernel_rfl) (by kernel_rfl) (by kernel_rfl) (fun _ _ _ h => h) (by rfl) ?_ hS ?_
        rotate_left 1
        · (intro w hSw; (try dsimp only at hSw); (try go_split_ands); go_simp; try with_reducible rfl)
        simp only [List.setIfInBounds_toArray, List.set_cons_zero, List.set_cons_succ]
        refine take_at 2 37 (v := ?_) rfl rfl (by kernel_rfl) (by kernel_rfl) (by kernel_rfl) (fun _ _ _ h => h) (by rfl) ?_ hS ?_
        rotate_left 1
        · (intro w hSw; (try dsimp only at hSw); (try go_split_ands); go_simp; try with_reducible rfl)
        simp only [List.setIfInBounds_toArray, List.set_cons_zero, List.set_cons_succ]
        refine take_at 3 38 (v := ?_) rfl rfl (by kernel_rfl) (by kernel_rfl) (by kernel_rfl) (fun _ _ _ h => h) (by rfl) ?_ hS ?_
        rotate_left 1
        · (intro w hSw; (try dsimp only at hSw); (try go_split_ands); go_simp; try with_reducible rfl)
        simp only [List.setIfInBounds_toArray, List.set_cons_zero, List.set_cons_succ]
        refine take_at 5 40 (v := ?_) rfl rfl (by kernel_rfl) (by kernel_rfl) (by kernel_rfl) (fun _ _ _ h => h) (by rfl) ?_ hS ?_
        rotate_left 1
        · (intro w hSw; (try dsimp only at hSw); (try go_split_ands); go_simp; try with_reducible rfl)
        simp only [List.setIfInBounds_toArray, List.set_cons_zero, List.set_cons_succ]
        refine take_at 6 41 (v := ?_) rfl rfl (by kernel_rfl) (by kernel_rfl) (by kernel_rfl) (fun _ _ _ h => h) (by rfl) ?_ hS ?_
        rotate_left 1
        · (intro w hSw; (try dsimp only at hSw); (try go_split_ands); go_simp; try with_reducible rfl)
        simp only [List.setIfInBounds_toArray, List.set_cons_zero, List.set_cons_succ]
        refine take_at 7 42 (v := ?_) rfl rfl (by kernel_rfl) (by kernel_rfl) (by kernel_rfl) (fun _ _ _ h => h) (by rfl) ?_ hS ?_
        rotate_left 1
        · (intro w hSw; (try dsimp only at hSw); (try go_split_ands); go_simp; try with_reducible rfl)
        simp only [List.setIfInBounds_toArray, List.set_cons_zero, List.set_cons_succ]
        refine take_at 8 43 (v := ?_) rfl rfl (by kernel_rfl) (by kernel_rfl) (by kernel_rfl) (fun _ _ _ h => h) (by rfl) ?_ hS ?_
        rotate_left 1
        · (intro w hSw; (try dsimp only at hSw); (try go_split_ands); go_simp; try with_reducible rfl)
        simp only [List.setIfInBounds_toArray, List.set_cons_zero, List.set_cons_succ]
        refine wpAnyH_ready (rs := [0]) (by kernel_rfl) (by simp) ?_
        refine AllReadyH.cons rfl (fun K hK => ?_) (AllReadyH.nil)
        go_simp
        have Hnew := Lib.hid (World.ownsRow_lit (base := w3.heap.size) (e := 37) (size := 2) w3.drew #[] 0 (by (try simp)) (by unfold maxLen; omega) rfl)
        refine hK.out _ _ (by trivial) (fun hS => ?_)
        clear hK K
        refine wpAnyH_ready (rs := [4]) (by kernel_rfl) (by simp) ?_
        refine AllReadyH.cons rfl (fun K hK => ?_) (AllReadyH.nil)
        have Hlen1 : Hid ((ys.take k).length = k) := Lib.hid (show (ys.take k).length = k by rw [List.length_take]; omega)
        have hsz4 := (HBo.out).size
        refine step_append_src rfl (.tmp 35) (.tmp 38) _ rfl (w3.heap.size) 37 ti _ 2 16 Try.underlying23 HIDebt.out HZ0Debt.out HZ1Debt.out HZ2Debt.out rfl (by omega) _ 0 _ rfl Hnew.out (some ⟨bx, ox, none⟩) (k) (cv) _ ((ys.take k).flatMap debtCells) rfl (fun h => by cases h) (by rw [flat_length debtCells 2 (fun _ => rfl)]; rw [Hlen1.out]) (reads_take debtCells 2 (fun _ => rfl) (readsOver Hxs3.out (bA (bD1 HBo.out) _)) k) (one_flat debtCells (by intro x u hu; simp only [debtCells, List.mem_cons, List.not_mem_nil, or_false] at hu; rcases hu with rfl | rfl <;> rfl) _) (by unfold maxLen; omega) (by omega) (by first | omega | (simp; omega) | simp) ?_
        intro v4 w4 hown4 hgrow4 hat4
        have HBo4 := Lib.hid (Below.grown (bA (bD1 HBo.out) _) hgrow4 (Below.size (bA (bD1 HBo.out) _)) (fun r hr => (World.ownsRow.lt Hnew.out r hr).1))
        clear HBo
        have HX4 := Lib.hid hown4; clear hown4 hgrow4 hat4 Hnew
        clear Hlen1
        go_simp
        refine hK.out _ _ (by trivial) (fun hS => ?_)
        clear hK K
        refine wpAnyH_ready (rs := [9]) (by kernel_rfl) (by simp) ?_
        refine AllReadyH.cons rfl (fun K hK => ?_) (AllReadyH.nil)
        have hsz5 := (HBo4.out).size
        refine step_append_src rfl (.tmp 39) (.tmp 43) _ rfl (w3.heap.size) 37 ti _ 2 16 Try.underlying23 HIDebt.out HZ0Debt.out HZ1Debt.out HZ2Debt.out rfl (by omega) _ _ _ rfl HX4.out (A2) (ys.length - (k + 1)) (cv - (k + 1)) _ ((ys.drop (k + 1)).flatMap debtCells) rfl HAn.out (by rw [flat_length debtCells 2 (fun _ => rfl)]; rw [List.length_drop]) (reads_from_if debtCells 2 (fun _ => rfl) (readsOver Hxs3.out HBo4.out) (by omega) hcv1 HA2.out) (one_flat debtCells (by intro x u hu; simp only [debtCells, List.mem_cons, List.not_mem_nil, or_false] at hu; rcases hu with rfl | rfl <;> rfl) _) (by unfold maxLen; omega) (by omega) (by first | omega | (simp; omega) | simp) ?_
        intro v5 w5 hown5 hgrow5 hat5
        have HBo5 := Lib.hid (Below.grown HBo4.out hgrow5 (Below.size HBo4.out) (fun r hr => (World.ownsRow.lt HX4.out r hr).1))
        clear HBo4
        have HX5 := Lib.hid hown5; clear hown5 hgrow5 hat5 HX4
        have hfin : OwnDebts w5 (w3.heap.size) v5 F := by
          rw [HF.out]
          unfold OwnDebts
          have hl : (ys.take k ++ ys.drop (k + 1)).length = 0 + k + (ys.length - (k + 1)) := by rw [List.length_append, List.length_take, List.length_drop]; omega
          rw [hl, List.flatMap_append]
          have h := HX5.out
          simpa using h
        obtain ⟨Af, cf, rfl, hcf1, hcf2, hrf⟩ := OwnDebts.form hfin
        unfold maxLen at hcf2
        have Hrf := Lib.hid hrf; clear hrf hfin
        go_simp
        refine hK.out _ _ (by trivial) (fun hS => ?_)
        clear hK K
        refine wpAnyH_ready (rs := [10]) (by kernel_rfl) (by simp) ?_
        refine AllReadyH.cons rfl (fun K hK => ?_) (AllReadyH.nil)
        go_simp
        go_wp2_with fail
        refine (implValidDebts_any Af _ cf _ _ Hrf.out rfl (by omega)).mono ?_
        rintro e w6 ⟨rfl, hb6⟩
        rw [Hval.out]
        have HBo6 := Lib.hid (bT HBo5.out hb6)
        clear HBo5
        have Hout6 := Lib.hid (own_below HX5.out hb6)
        clear HX5
        clear hb6
        go_simp
        refine hK.out _ _ (by trivial) (fun hS => ?_)
        clear hK K
        refine take_at 11 2 (v := ?_) rfl rfl (by kernel_rfl) (by kernel_rfl) (by kernel_rfl) (fun _ _ _ h => h) (by rfl) ?_ hS ?_
        rotate_left 1
        · (intro w hSw; (try dsimp only at hSw); (try go_split_ands); go_simp; try with_reducible rfl)
        simp only [List.setIfInBounds_toArray, List.set_cons_zero, List.set_cons_succ]
        refine wpAnyH_done (by kernel_rfl) ?_ _
        go_wp2
        go_ret
        exact ⟨rfl, bT HB3.out HBo6.out⟩
    · obtain rfl : R = false := by simpa using hr
      clear hr
      go_wp2_with fail
      refine (specValidDebts_any Av _ cv ys _ Hxs3.out rfl (by omega)).mono ?_
      rintro e w4 ⟨rfl, hb4⟩
      rw [← HR.out]
      have HB4 := Lib.hid (bT HB3.out hb4)
      clear HB3
      have Hxs4 := Lib.hid (readsOver Hxs3.out hb4)
      clear Hxs3
      clear hb4
      go_wp2
      go_ret
      exact ⟨rfl, HB4.out⟩

set_option maxRecDepth 100000 in
theorem lifted (os : Os) (started : os.Started) (H : Type) (enc : TypeId × Value → H) :
    ReturnsInHanded {} Try.checked os 3 .any (Rows.fnValidDebtsSpec.pre6 enc Try.prog Try.f3 Rows.fnValidDebtsRow.domain false) (Rows.fnValidDebtsSpec.post enc Try.prog Try.f3 false true false false) := by
  refine returnsInHanded_of_change (C := Try.checked) Cells.own started (by kernel_rfl) Try.func3
    (ChangeSpec.witness6 (enc := enc) (C := Try.checked) false ⟨#[], #[.slice none 0 0], []⟩ 8 (by kernel_rfl) (by kernel_rfl) (by kernel_rfl) (by kernel_rfl)) ?_
  intro W base args ds gs before hval0 hW _ _
  have hval : ∀ (j : Nat) t v, Try.f3.params[j]? = some t → args[j]? = some v → Value.okWide Try.prog W .any base t v := hval0
  have hW' := hW
  obtain ⟨p, q, hA0, hV, rfl, _, _⟩ := hW
  have hA : DataW.TrodAll enc Try.prog W 0 (fun _ => true) true Try.f3.params.toList args.toList ds p := hA0
  rw [Try.params3] at hA hval
  obtain ⟨v0, d0, rfl, rfl, h0⟩ := trodAll_one hA
  obtain ⟨rfl, rfl⟩ := trodVars_none hV
  obtain ⟨a0, len, cap, rfl⟩ := okWide_slice Try.underlying22 (hval 0 22 v0 rfl rfl)
  clear hA0 hval0
  simp only [List.append_nil] at hW'
  obtain ⟨hb, hargs⟩ := opened h0 (fun x hx => by simpa using hW'.lt x hx)
  refine (walk a0 len cap W hb).mono fun e W' ⟨he, hnx⟩ => ?_
  subst he
  exact ⟨_, rfl, _, _, _, [], _, [], hW', trodAll_mk1 (shut_bool Try.underlying4 _), trodAll_mk1 (hargs _ hnx), rfl, hnx.frame _, fun h => by cases h⟩

theorem closed : joinedFacts Try.prog 3 Try.f3 Rows.fnValidDebtsSpec Rows.fnValidDebtsRow = true := by
  unfold joinedFacts
  rw [Cells.laidOut, Cells.mapsRowed_, Cells.stops, Cells.stopKnobs, Cells.plainKeys, Cells.stopsHeard, Cells.mayEnter, Cells.liftsFinal, Cells.make]
  kernel_rfl

theorem over : Rows.fnValidDebtsRow.holds Try.pinned (OpenSpec.ofChange Rows.fnValidDebtsSpec) :=
  OpenClaim.holds_of_wide 3 Try.f3 rfl rfl rfl rfl rfl rfl rfl ⟨rfl, rfl, rfl, rfl, rfl⟩ rfl rfl rfl rfl rfl (by kernel_rfl) Try.func3 closed
    (of_decide_eq_true (by kernel_rfl)) (by unfold Func.isWrapper; first | (rw [if_pos (by decide +kernel)]; kernel_rfl) | (rw [if_neg (by decide +kernel)]; exact ⟨rfl, rfl⟩))
    (fun os started H enc _ => lifted os started H enc)

/-- THE STATEMENT -/
theorem proved : Rows.FnValidDebtsSaid := over
#print axioms proved
end Go.Proofs.Ytpdddadplagcpaa.fnValidDebts
