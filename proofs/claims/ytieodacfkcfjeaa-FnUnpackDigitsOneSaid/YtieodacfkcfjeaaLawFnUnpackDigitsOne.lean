/-
  Bytes have two digits: for every code, with the bytes drawn from it, the law FnUnpackDigitsOne returns true and leaves the code as it was. No conditions.
-/
import Derived.Test.YtieodacfkcfjeaaDigitFn
import Derived.Test.YtieodacfkcfjeaaDrawDigits
import Derived.Test.YtieodacfkcfjeaaLiftBytes
set_option linter.unusedSimpArgs false
namespace Go.Proofs.Ytieodacfkcfjeaa.fnUnpackDigitsOne
open Go.ChangeShapes Go.WideShapes Go.ChangeAt Go.RowKit
set_option linter.unusedVariables false

set_option maxRecDepth 100000 in
set_option maxHeartbeats 2000000 in
theorem walk (A : Option Addr) (n c : Nat) (w : World) (h : Bytes w w.heap.size A n c) : Calls Try.prog 4 #[.slice A n c] w (TrueBelow w) := by
  by_cases hn : 1048576 < n
  · go_enter Try.func4, Try.ntmps4
    go_wp2
    go_ret
    exact ⟨rfl, Below.refl _ _⟩
  · go_enter Try.func4, Try.ntmps4
    go_wp2_with fail
    refine (drawUnpackDigits_any A n c w h).mono ?_
    rintro e w1 ⟨A1, c1, ys, rfl, hc1, hm1, h5, hb, hx, hbel⟩
    have Hm1 := Lib.hid hm1; clear hm1
    have Hx := Lib.hid hx; clear hx
    have Hb := Lib.hid hb; clear hb
    have Hbel := Lib.hid hbel; clear hbel
    obtain ⟨U, hU⟩ : ∃ U, U = Fares.unpackDigits ys := ⟨_, rfl⟩
    go_wp2_with fail
    refine (implUnpackDigits_any A1 ys.length c1 ys _ Hx.out rfl (by omega) Hb.out).mono ?_
    rintro e w1 ⟨rfl, rfl⟩
    rw [← hU]
    have HU := Lib.hid hU; clear hU
    go_wp2_with fail
    refine (specUnpackDigits_any A1 ys.length c1 ys _ Hx.out rfl (by omega) Hb.out).mono ?_
    rintro e w1 ⟨rfl, rfl⟩
    rw [← HU.out]
    by_cases h0 : U < 0
    · go_wp2_with (first | (refine (specUnpackDigits_any A1 ys.length c1 ys _ Hx.out rfl (by omega) Hb.out).mono ?_; rintro e w1 ⟨rfl, rfl⟩; rw [← HU.out]))
      go_ret
      exact ⟨ret_bool (by simp), Hbel.out⟩
    · by_cases h2 : ys.length < 2
      · have d2 : decide ((ys.length : Int) < 2) = true := decide_eq_true (by omega)
        go_wp2_with (first | (refine (specUnpackDigits_any A1 ys.length c1 ys _ Hx.out rfl (by omega) Hb.out).mono ?_; rintro e w1 ⟨rfl, rfl⟩; rw [← HU.out]))
        go_ret
        exact ⟨ret_bool (by simp), Hbel.out⟩
      · have d2 : decide ((ys.length : Int) < 2) = false := decide_eq_false (by omega)
        have h4 : ys.length ≤ 4 := by
          rcases Nat.lt_or_ge 4 ys.length with h | h
          · exfalso
            have := HU.out
            unfold Fares.unpackDigits at this
            rw [if_pos (.inr h)] at this
            omega
          · exact h
        obtain ⟨e1, t0, t1, r0, r1⟩ := Fares.unpack_one (fun x hx => (Hb.out x hx).1) (by omega) h4 (by rw [← HU.out]; omega)
        have E1 := Lib.hid e1; clear e1
        go_wp2
        go_loop [6, 5] (fun i v => ∃ k : Nat, 1 ≤ k ∧ k ≤ ys.length ∧ i = .int .i64 k ∧ v = .int .i64 (pow100 (k - 1))) (fun i _ => ys.length - (intOf i).toNat)
        case atStart => exact ⟨1, by omega, by omega, rfl, rfl⟩
        case round =>
          obtain ⟨k, hk1, hk, rfl, rfl⟩ := hrel
          by_cases hlt : k < ys.length
          · have hl : (k : Int) < (ys.length : Int) := by omega
            obtain ⟨p0, p1⟩ := pow100_le (k := k - 1) (by omega)
            have p2 : 0 ≤ pow100 (k - 1) := by unfold pow100; exact Int.le_of_lt (Int.pow_pos (by omega))
            rw [show k - 1 + 1 = k by omega] at p1
            have HP := Lib.hid p1; clear p1
            go_wp2
            go_round
            case rel => exact ⟨k + 1, by omega, by omega, by go_num, by rw [Nat.add_sub_cancel, HP.out]⟩
            case measure => simp [intOf]; omega
          · obtain rfl : k = ys.length := by omega
            have dl : decide ((ys.length : Int) < (ys.length : Int)) = false := decide_eq_false (by omega)
            obtain ⟨b1, o1, rfl, hb1, -⟩ := Hx.out.row (by omega)
            obtain ⟨u1, hu1⟩ : ∃ u, u = Fares.unpackDigits (ys.take 1) := ⟨_, rfl⟩
            obtain ⟨u2, hu2⟩ : ∃ u, u = Fares.unpackDigits (ys.drop 1) := ⟨_, rfl⟩
            obtain ⟨p, hp⟩ : ∃ p, p = pow100 (ys.length - 1) := ⟨_, rfl⟩
            have C1 : ∀ (m c' : Nat), Calls Try.prog 7 #[.slice (some ⟨b1, o1, none⟩) 1 c'] (w1.drewN m) fun e w' => e = .returned (.int .i64 u1) ∧ w1.drewN m = w' := fun m c' => by
              rw [hu1]
              exact implUnpackDigits_any _ 1 c' (ys.take 1) _ (ByteL.take Hx.out 1) (by rw [List.length_take]; omega) (by omega) (fun x hx => Hb.out x (List.mem_of_mem_take hx))
            have C2 : ∀ (m c' : Nat), Calls Try.prog 7 #[.slice (some ⟨b1, o1 + 1, none⟩) (ys.length - 1) c'] (w1.drewN m) fun e w' => e = .returned (.int .i64 u2) ∧ w1.drewN m = w' := fun m c' => by
              rw [hu2]
              exact implUnpackDigits_any _ (ys.length - 1) c' (ys.drop 1) _ (ByteL.drop Hx.out 1) (by rw [List.length_drop]) (by omega) (fun x hx => Hb.out x (List.mem_of_mem_drop hx))
            have p3 : 0 ≤ p ∧ p ≤ 1000000 := by
              have := (pow100_le (k := ys.length - 1) (by omega)).1
              refine ⟨?_, by omega⟩
              rw [hp]; unfold pow100; exact Int.le_of_lt (Int.pow_pos (by omega))
            have e1 : u1 * p + u2 = U := by
              have := E1.out
              rw [← hu1, ← hu2, ← HU.out] at this
              rw [hp]; exact this
            rw [← hu1] at t0 t1
            rw [← hu2] at r0 r1
            have m0 : 0 ≤ u1 * p := Int.mul_nonneg t0 p3.1
            have m1 : u1 * p ≤ 99 * 1000000 := Int.mul_le_mul t1 p3.2 p3.1 (by omega)
            have W1 : IntKind.i64.wrap (u1 * p) = u1 * p := IntWalk.i64_in _ (by omega)
            have W2 : IntKind.i64.wrap (u1 * p + u2) = u1 * p + u2 := IntWalk.i64_in _ (by omega)
            rw [e1] at W2
            have HD1 := Lib.hid C1; clear C1
            have HD2 := Lib.hid C2; clear C2
            have H1 := Lib.hid hu1; clear hu1
            have H2 := Lib.hid hu2; clear hu2
            have i1 : 1 ≤ ys.length := by omega
            have i2 : (1 : Int) ≤ (ys.length : Int) := by omega
            have i3 : ys.length ≤ c1 := hc1
            have i4 : (ys.length : Int) ≤ (c1 : Int) := by omega
            have i5 : (1 : Int) ≤ (c1 : Int) := by omega
            have HP2 : Hid (p = pow100 (ys.length - 1)) := hp
            rw [← hp]
            clear hp
            go_wp2
            go_quiet (first | (with_reducible refine quiet_same (HD1.out _ _)) | (with_reducible refine quiet_same (HD2.out _ _)))
            go_wp2
            go_ret
            exact ⟨ret_bool (by simp), bD Hbel.out _⟩

set_option maxRecDepth 100000 in
theorem lifted (os : Os) (started : os.Started) (H : Type) (enc : TypeId × Value → H) :
    ReturnsInHanded {} Try.checked os 4 .any (Rows.fnUnpackDigitsOneSpec.pre6 enc Try.prog Try.f4 Rows.fnUnpackDigitsOneRow.domain false) (Rows.fnUnpackDigitsOneSpec.post enc Try.prog Try.f4 false true false false) := by
  refine returnsInHanded_of_change (C := Try.checked) Cells.own started (by kernel_rfl) Try.func4
    (ChangeSpec.witness6 (enc := enc) (C := Try.checked) false ⟨#[], #[.slice none 0 0], []⟩ 8 (by kernel_rfl) (by kernel_rfl) (by kernel_rfl) (by kernel_rfl)) ?_
  intro W base args ds gs before hval0 hW _ _
  have hval : ∀ (j : Nat) t v, Try.f4.params[j]? = some t → args[j]? = some v → Value.okWide Try.prog W .any base t v := hval0
  have hW' := hW
  obtain ⟨p, q, hA0, hV, rfl, _, _⟩ := hW
  have hA : DataW.TrodAll enc Try.prog W 0 (fun _ => true) true Try.f4.params.toList args.toList ds p := hA0
  rw [Try.params4] at hA hval
  obtain ⟨v0, d0, rfl, rfl, h0⟩ := trodAll_one hA
  obtain ⟨rfl, rfl⟩ := trodVars_none hV
  obtain ⟨a0, len, cap, rfl⟩ := okWide_slice Try.underlying22 (hval 0 22 v0 rfl rfl)
  clear hA0 hval0
  simp only [List.append_nil] at hW'
  obtain ⟨hb, hargs⟩ := opened h0 (fun x hx => by simpa using hW'.lt x hx)
  refine (walk a0 len cap W hb).mono fun e W' ⟨he, hnx⟩ => ?_
  subst he
  exact ⟨_, rfl, _, _, _, [], _, [], hW', trodAll_mk1 (shut_bool Try.underlying4 _), trodAll_mk1 (hargs _ hnx), rfl, hnx.frame _, fun h => by cases h⟩

theorem closed : joinedFacts Try.prog 4 Try.f4 Rows.fnUnpackDigitsOneSpec Rows.fnUnpackDigitsOneRow = true := by
  unfold joinedFacts
  rw [Cells.laidOut, Cells.mapsRowed_, Cells.stops, Cells.stopKnobs, Cells.plainKeys, Cells.stopsHeard, Cells.mayEnter, Cells.liftsFinal, Cells.make]
  kernel_rfl

theorem over : Rows.fnUnpackDigitsOneRow.holds Try.pinned (OpenSpec.ofChange Rows.fnUnpackDigitsOneSpec) :=
  OpenClaim.holds_of_wide 4 Try.f4 rfl rfl rfl rfl rfl rfl rfl ⟨rfl, rfl, rfl, rfl, rfl⟩ rfl rfl rfl rfl rfl (by kernel_rfl) Try.func4 closed
    (of_decide_eq_true (by kernel_rfl)) (by unfold Func.isWrapper; first | (rw [if_pos (by decide +kernel)]; kernel_rfl) | (rw [if_neg (by decide +kernel)]; exact ⟨rfl, rfl⟩))
    (fun os started H enc _ => lifted os started H enc)

/-- THE STATEMENT -/
theorem proved : Rows.FnUnpackDigitsOneSaid := over
#print axioms proved
end Go.Proofs.Ytieodacfkcfjeaa.fnUnpackDigitsOne
