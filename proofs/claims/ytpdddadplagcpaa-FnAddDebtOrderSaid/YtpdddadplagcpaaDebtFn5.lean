/-
  Chapter 16: what is left when an amount is paid.
-/
import Derived.Test.YtpdddadplagcpaaDebtFn4
import Derived.Test.YtpdddadplagcpaaListMath
set_option linter.unusedSimpArgs false
namespace Go.Proofs.Ytpdddadplagcpaa
open Go.RowKit Go.Deep
set_option linter.unusedVariables false


theorem payRun_shift {x : Fares.Debt} {xs ys : List Fares.Debt} {m0 m : Int} {k : Nat} (hx : xs[k]? = some x) (h : Fares.payRun xs m0 = (ys ++ (Fares.payRun (xs.drop k) m).1, (Fares.payRun (xs.drop k) m).2)) :
    (x.a ≤ m → Fares.payRun xs m0 = (ys ++ (Fares.payRun (xs.drop (k + 1)) (m - x.a)).1, (Fares.payRun (xs.drop (k + 1)) (m - x.a)).2)) ∧
    (m < x.a → Fares.payRun xs m0 = ((ys ++ [⟨x.d, x.a - m⟩]) ++ (Fares.payRun (xs.drop (k + 1)) 0).1, (Fares.payRun (xs.drop (k + 1)) 0).2)) := by
  have hd : xs.drop k = x :: xs.drop (k + 1) := by
    obtain ⟨hk, e⟩ := List.getElem?_eq_some_iff.1 hx
    rw [List.drop_eq_getElem_cons hk, e]
  rw [hd] at h
  simp only [Fares.payRun] at h
  refine ⟨fun hm => by rw [if_pos hm] at h; exact h, fun hm => ?_⟩
  rw [if_neg (by omega)] at h
  rw [h, List.append_assoc]
  rfl

set_option maxRecDepth 100000 in
set_option maxHeartbeats 4000000 in
theorem specPayDebts_any (A : Option Addr) (n c : Nat) (xs : List Fares.Debt) (m0 : Int) (w : World) (hx : Debts w w.heap.size A xs) (hn : xs.length = n) (hl : n ≤ 1000000000) (hm1 : m0 ≤ 9223372036854775807) :
    Calls Try.prog 30 #[.slice A n c, .int .i64 m0] w fun e w' => ∃ v, e = .returned (.tuple #[v, .int .i64 (Fares.payDebts xs m0).2]) ∧ OwnDebts w' w.heap.size v (Fares.payDebts xs m0).1 ∧ Below w.heap.size w w' := by
  subst hn
  have Hd : Hid (Fares.payDebts xs m0 = if Fares.validDebts xs = true ∧ 0 ≤ m0 then Fares.payRun xs m0 else ([], -1)) := rfl
  have Hx := Lib.hid hx; clear hx
  have hb0 : Below w.heap.size w (w.alloc (.cells #[] 37)) := bA (Below.refl _ _) _
  obtain ⟨ti, hi0, hz0, hz1, hz2⟩ := info_parts info_debt
  have HI := Lib.hid hi0; clear hi0
  have HZ0 := Lib.hid hz0; clear hz0
  have HZ1 := Lib.hid hz1; clear hz1
  have HZ2 := Lib.hid hz2; clear hz2
  go_enter Try.func30, Try.ntmps30
  go_wp2_with fail
  refine (specvalidDebts_any A _ c xs _ (readsOver Hx.out hb0) rfl hl).mono ?_
  rintro e w1 ⟨rfl, hb⟩
  have hc1 : Below w.heap.size w w1 := bT hb0 hb
  cases hv : Fares.validDebts xs
  · have hd2' : Fares.payDebts xs m0 = ([], -1) := by rw [show Fares.payDebts xs m0 = _ from Hd.out, hv, if_neg (by simp)]
    have Hd2 := Lib.hid hd2'; clear hd2'
    go_wp2
    go_ret2
    exact ⟨_, by rw [Hd2.out]; rfl, by rw [Hd2.out]; exact OwnDebts.none_ _ _, hc1⟩
  · by_cases hm0 : 0 ≤ m0
    · have hd2' : Fares.payDebts xs m0 = Fares.payRun xs m0 := by rw [show Fares.payDebts xs m0 = _ from Hd.out, hv, if_pos ⟨rfl, hm0⟩]
      have Hd2 := Lib.hid hd2'; clear hd2'
      have hok := (Fares.validDebts_iff xs).1 hv
      have hlen := hok.length
      have Hok := Lib.hid hok.1; clear hok
      have hown0 := (own_lit_debts w).below hb
      clear hb hb0
      go_wp2
      go_loopw [7, 1, 6] (fun i q v wr => ∃ (k : Nat) (m : Int) (ys : List Fares.Debt), k ≤ xs.length ∧ 0 ≤ m ∧ m ≤ m0 ∧ i = .int .i64 k ∧ q = .int .i64 m ∧ OwnDebts wr w.heap.size v ys ∧ ys.length ≤ k ∧ Hid (Fares.payRun xs m0 = (ys ++ (Fares.payRun (xs.drop k) m).1, (Fares.payRun (xs.drop k) m).2)) ∧ Below w.heap.size w wr) (fun i _ _ _ => xs.length - (intOf i).toNat)
      case atStart => exact ⟨0, m0, [], Nat.zero_le _, hm0, Int.le_refl _, rfl, rfl, hown0, Nat.le_refl _, (by simp : Fares.payRun xs m0 = ([] ++ (Fares.payRun (xs.drop 0) m0).1, (Fares.payRun (xs.drop 0) m0).2)), hc1⟩
      case round =>
        clear hown0
        obtain ⟨k, m, ys, hk, g0, g1, rfl, rfl, hown, hyl, HR, hb⟩ := hrel
        by_cases hlt : k < xs.length
        · obtain ⟨x, hxk⟩ : ∃ x, xs[k]? = some x := ⟨xs[k], List.getElem?_eq_getElem hlt⟩
          obtain ⟨_, _, a2, a3⟩ := Hok.out x (List.mem_of_getElem? hxk)
          obtain ⟨hs1, hs2⟩ := payRun_shift hxk HR.out
          have HS1 := Lib.hid hs1; clear hs1
          have HS2 := Lib.hid hs2; clear hs2
          obtain ⟨b1, o1, rfl, hb1, hr1⟩ := Debts.row Hx.out (by omega)
          have Hp0 := Lib.hid (hr1 k x hxk).1
          have Hp1 := Lib.hid (hr1 k x hxk).2
          obtain ⟨p0, p1⟩ := (hr1 k x hxk).below hb hb1
          clear hr1 hxk
          obtain ⟨Av, cv, rfl, hcv1, hcv2, _⟩ := hown.form
          unfold OwnDebts at hown
          have Hown := Lib.hid hown; clear hown
          have i0 : (0 : Int) ≤ (k : Int) := by omega
          have i1 : (k : Int) < (xs.length : Int) := by omega
          by_cases hd : x.a ≤ m
          · by_cases hd2 : x.a < m
            · have d1 : ¬ x.a < x.a := by omega
              go_wp2
              go_roundw
              case rel => exact ⟨k + 1, m - x.a, ys, by omega, by omega, by omega, by go_num, rfl, Hown.out, by omega, (HS1.out hd : _ = _), hb⟩
              case measure => simp [intOf]; omega
            · have e : m = x.a := by omega
              have d1 : ¬ x.a < x.a := by omega
              have Hm := Lib.hid e
              clear hd2
              subst e
              go_wp2
              go_roundw
              case rel => exact ⟨k + 1, 0, ys, by omega, by omega, by omega, by go_num, by first | rfl | (congr 1; omega), Hown.out, by omega, (by rw [HS1.out hd, Int.sub_self] : Fares.payRun xs m0 = (ys ++ (Fares.payRun (xs.drop (k + 1)) 0).1, (Fares.payRun (xs.drop (k + 1)) 0).2)), hb⟩
              case measure => simp [intOf]; omega
          · have hd2 : m < x.a := by omega
            have hb1' : b1 < wr.heap.size := Nat.lt_of_lt_of_le hb1 hb.size
            have HSX := Lib.hid (Lib.hid (HS2.out hd2))
            have W1 : IntKind.i64.wrap (x.a - m) = x.a - m := IntWalk.i64_in _ (by omega)
            go_wp2
            refine wp_region_held_drew (S := fun w' => w'.cell? ⟨b1, o1 + k * 2, none⟩ = some (.int .i64 x.d) ∧ w'.cell? ⟨b1, o1 + k * 2 + 1, none⟩ = some (.int .i64 x.a)) (by kernel_rfl) (by exact ⟨p0, p1⟩) (fun hS => ?_)
            refine take_at 0 40 (v := ?_) rfl rfl (by kernel_rfl) (by kernel_rfl) (by kernel_rfl) (fun _ _ _ h => h) (by rfl) ?_ hS ?_
            rotate_left 1
            · (intro w hSw; (try dsimp only at hSw); (try go_split_ands); go_simp; try with_reducible rfl)
            simp only [List.setIfInBounds_toArray, List.set_cons_zero, List.set_cons_succ]
            refine take_at 1 41 (v := ?_) rfl rfl (by kernel_rfl) (by kernel_rfl) (by kernel_rfl) (fun _ _ _ h => h) (by rfl) ?_ hS ?_
            rotate_left 1
            · (intro w hSw; (try dsimp only at hSw); (try go_split_ands); go_simp; try with_reducible rfl)
            simp only [List.setIfInBounds_toArray, List.set_cons_zero, List.set_cons_succ]
            refine take_at 2 42 (v := ?_) rfl rfl (by kernel_rfl) (by kernel_rfl) (by kernel_rfl) (fun _ _ _ h => h) (by rfl) ?_ hS ?_
            rotate_left 1
            · (intro w hSw; (try dsimp only at hSw); (try go_split_ands); go_simp; try with_reducible rfl)
            simp only [List.setIfInBounds_toArray, List.set_cons_zero, List.set_cons_succ]
            refine take_at 3 43 (v := ?_) rfl rfl (by kernel_rfl) (by kernel_rfl) (by kernel_rfl) (fun _ _ _ h => h) (by rfl) ?_ hS ?_
            rotate_left 1
            · (intro w hSw; (try dsimp only at hSw); (try go_split_ands); go_simp; try with_reducible rfl)
            simp only [List.setIfInBounds_toArray, List.set_cons_zero, List.set_cons_succ]
            refine take_at 4 44 (v := ?_) rfl rfl (by kernel_rfl) (by kernel_rfl) (by kernel_rfl) (fun _ _ _ h => h) (by rfl) ?_ hS ?_
            rotate_left 1
            · (intro w hSw; (try dsimp only at hSw); (try go_split_ands); go_simp; try with_reducible rfl)
            simp only [List.setIfInBounds_toArray, List.set_cons_zero, List.set_cons_succ]
            refine take_at 5 45 (v := ?_) rfl rfl (by kernel_rfl) (by kernel_rfl) (by kernel_rfl) (fun _ _ _ h => h) (by rfl) ?_ hS ?_
            rotate_left 1
            · (intro w hSw; (try dsimp only at hSw); (try go_split_ands); go_simp; try with_reducible rfl)
            simp only [List.setIfInBounds_toArray, List.set_cons_zero, List.set_cons_succ]
            refine take_at 6 46 (v := ?_) rfl rfl (by kernel_rfl) (by kernel_rfl) (by kernel_rfl) (fun _ _ _ h => h) (by rfl) ?_ hS ?_
            rotate_left 1
            · (intro w hSw; (try dsimp only at hSw); (try go_split_ands); go_simp; try with_reducible rfl)
            simp only [List.setIfInBounds_toArray, List.set_cons_zero, List.set_cons_succ]
            refine take_at 7 47 (v := ?_) rfl rfl (by kernel_rfl) (by kernel_rfl) (by kernel_rfl) (fun _ _ _ h => h) (by rfl) ?_ hS ?_
            rotate_left 1
            · (intro w hSw; (try dsimp only at hSw); (try go_split_ands); go_simp; try with_reducible rfl)
            simp only [List.setIfInBounds_toArray, List.set_cons_zero, List.set_cons_succ]
            refine take_at 8 48 (v := ?_) rfl rfl (by kernel_rfl) (by kernel_rfl) (by kernel_rfl) (fun _ _ _ h => h) (by rfl) ?_ hS ?_
            rotate_left 1
            · (intro w hSw; (try dsimp only at hSw); (try go_split_ands); go_simp; try with_reducible rfl)
            simp only [List.setIfInBounds_toArray, List.set_cons_zero, List.set_cons_succ]
            refine take_at 9 49 (v := ?_) rfl rfl (by kernel_rfl) (by kernel_rfl) (by kernel_rfl) (fun _ _ _ h => h) (by rfl) ?_ hS ?_
            rotate_left 1
            · (intro w hSw; (try dsimp only at hSw); (try go_split_ands); go_simp; try with_reducible rfl)
            simp only [List.setIfInBounds_toArray, List.set_cons_zero, List.set_cons_succ]
            refine take_at 10 50 (v := ?_) rfl rfl (by kernel_rfl) (by kernel_rfl) (by kernel_rfl) (fun _ _ _ h => h) (by rfl) ?_ hS ?_
            rotate_left 1
            · (intro w hSw; (try dsimp only at hSw); (try go_split_ands); go_simp; try with_reducible rfl)
            simp only [List.setIfInBounds_toArray, List.set_cons_zero, List.set_cons_succ]
            refine take_at 11 51 (v := ?_) rfl rfl (by kernel_rfl) (by kernel_rfl) (by kernel_rfl) (fun _ _ _ h => h) (by rfl) ?_ hS ?_
            rotate_left 1
            · (intro w hSw; (try dsimp only at hSw); (try go_split_ands); go_simp; try with_reducible rfl)
            simp only [List.setIfInBounds_toArray, List.set_cons_zero, List.set_cons_succ]
            refine take_at 12 52 (v := ?_) rfl rfl (by kernel_rfl) (by kernel_rfl) (by kernel_rfl) (fun _ _ _ h => h) (by rfl) ?_ hS ?_
            rotate_left 1
            · (intro w hSw; (try dsimp only at hSw); (try go_split_ands); go_simp; try with_reducible rfl)
            simp only [List.setIfInBounds_toArray, List.set_cons_zero, List.set_cons_succ]
            refine take_at 13 53 (v := ?_) rfl rfl (by kernel_rfl) (by kernel_rfl) (by kernel_rfl) (fun _ _ _ h => h) (by rfl) ?_ hS ?_
            rotate_left 1
            · (intro w hSw; (try dsimp only at hSw); (try go_split_ands); go_simp; try with_reducible rfl)
            simp only [List.setIfInBounds_toArray, List.set_cons_zero, List.set_cons_succ]
            refine wpAnyH_ready (rs := [14]) (by kernel_rfl) (by simp) ?_
            refine AllReadyH.cons rfl (fun K hK => ?_) AllReadyH.nil
            go_simp
            refine hK.out _ _ (by exact ⟨((bA (bD1 (Below.refl wr.heap.size wr)) _).cell (show b1 < wr.heap.size by omega)).trans p0, ((bA (bD1 (Below.refl wr.heap.size wr)) _).cell (show b1 < wr.heap.size by omega)).trans p1⟩) (fun hS => ?_)
            clear hK K
            refine wpAnyH_ready (rs := [15]) (by kernel_rfl) (by simp) ?_
            refine AllReadyH.cons rfl (fun K hK => ?_) AllReadyH.nil
            refine step_append_lies _ rfl (.tmp 40) (.tmp 54) _ rfl w.heap.size 37 ti _ 2 16 Try.underlying23 HI.out HZ0.out HZ1.out HZ2.out rfl (by omega) _ _ _ rfl (World.ownsRow.alloc (w := wr.drew) Hown.out _) ⟨wr.heap.size, 0, none⟩ 1 1 (debtCells ⟨x.d, x.a - m⟩) rfl rfl ?c1 ?c2 (by omega) ?c3 ?c4 ?c5 _ rfl ?_
            case c1 => exact World.news_of_block (heap_alloc_new wr.drew (.cells #[.int .i64 x.d, .int .i64 (x.a - m)] 37))
            case c2 => simp [debtCells, Value.oneCell']
            case c3 => unfold maxLen; omega
            case c4 => omega
            case c5 => have := hb.size; simp; omega
            intro g cap w2 hown2 hgrow hat hlt2
            have hb4 : Below w.heap.size w w2 := Below.grown (bA (bD1 hb) _) hgrow (by have := hb.size; simp; omega) (fun r hr => (World.ownsRow.lt Hown.out r hr).1)
            have hcl1 : w2.cell? ⟨b1, o1 + k * 2, none⟩ = some (.int .i64 x.d) := (hb4.cell (p := ⟨b1, _, none⟩) hb1).trans Hp0.out
            have hcl2 : w2.cell? ⟨b1, o1 + k * 2 + 1, none⟩ = some (.int .i64 x.a) := (hb4.cell (p := ⟨b1, _, none⟩) hb1).trans Hp1.out
            have Hown2 := Lib.hid (OwnDebts.snoc hown2); clear hown2 hgrow hat
            go_simp
            refine hK.out _ _ (by exact ⟨hcl1, hcl2⟩) (fun hS => ?_)
            clear hK K hcl1 hcl2
            refine take_at 16 6 (v := ?_) rfl rfl (by kernel_rfl) (by kernel_rfl) (by kernel_rfl) (fun _ _ _ h => h) (by rfl) ?_ hS ?_
            rotate_left 1
            · (intro w hSw; (try dsimp only at hSw); (try go_split_ands); go_simp; try with_reducible rfl)
            simp only [List.setIfInBounds_toArray, List.set_cons_zero, List.set_cons_succ]
            refine wpAnyH_done (by kernel_rfl) ?_ _
            go_wp2
            go_roundw
            case rel => exact ⟨k + 1, 0, ys ++ [(⟨x.d, x.a - m⟩ : Fares.Debt)], by omega, by omega, by omega, by go_num, by first | rfl | (congr 1; omega), Hown2.out, by simp; omega, HSX.out, hb4⟩
            case measure => simp [intOf]; omega
        · have i1 : ¬ (k : Int) < (xs.length : Int) := by omega
          have Hfin := Lib.hid (show xs.drop k = [] from List.drop_of_length_le (by omega))
          have hF : Fares.payRun xs m0 = (ys, m) := by rw [show Fares.payRun xs m0 = _ from HR.out, Hfin.out]; simp [Fares.payRun]
          have HF := Lib.hid hF; clear hF
          go_wp2
          go_ret2
          exact ⟨_, by rw [Hd2.out, HF.out]; rfl, by rw [Hd2.out, HF.out]; exact hown, hb⟩
    · have hd2' : Fares.payDebts xs m0 = ([], -1) := by rw [show Fares.payDebts xs m0 = _ from Hd.out, if_neg (fun h => hm0 h.2)]
      have Hd2 := Lib.hid hd2'; clear hd2'
      go_wp2
      go_ret2
      exact ⟨_, by rw [Hd2.out]; rfl, by rw [Hd2.out]; exact OwnDebts.none_ _ _, hc1⟩
end Go.Proofs.Ytpdddadplagcpaa
