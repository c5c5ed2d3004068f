/-
  Chapter 4: a ride between two taps; the program's isRide and journeyBetween.
-/
import Derived.Test.YtllhjgheffemnaaTapFn
import Derived.Test.YtllhjgheffemnaaStJourney
import Derived.Test.YtllhjgheffemnaaRideMath
set_option linter.unusedSimpArgs false
namespace Go.Proofs.Ytllhjgheffemnaa
open Go.RowKit
set_option linter.unusedVariables false

set_option maxRecDepth 100000 in
set_option maxHeartbeats 1000000 in
theorem isRide_any (a b : Fares.Tap) (w : World) (ha : -100000 ≤ a.m ∧ a.m ≤ 100000) (hb : -100000 ≤ b.m ∧ b.m ≤ 100000) :
    Calls Try.prog 41 #[tapV a, tapV b] w fun e w' => e = .returned (.bool (Fares.isRide a b)) ∧ Below w.heap.size w w' := by
  obtain ⟨a0, a1⟩ := ha
  obtain ⟨b0, b1⟩ := hb
  have W1 : IntKind.i64.wrap (b.m - a.m) = b.m - a.m := IntWalk.i64_in _ (by omega)
  have HE : Hid (Fares.isRide a b = (!a.o && b.o && decide (b.m - a.m ≤ 180))) := rfl
  unfold tapV
  cases ho : a.o
  · cases hp : b.o
    · go_enter Try.func41, Try.ntmps41
      go_wp2
      go_ret
      exact ⟨ret_bool (by rw [HE.out, ho, hp]; rfl), (by repeat (first | exact Below.refl _ _ | refine bA ?_ _ | refine bD ?_ _ | refine bD1 ?_ | refine bS ?_ (by simp) _))⟩
    · go_enter Try.func41, Try.ntmps41
      go_wp2
      go_ret
      exact ⟨ret_bool (by rw [HE.out, ho, hp]; simp), (by repeat (first | exact Below.refl _ _ | refine bA ?_ _ | refine bD ?_ _ | refine bD1 ?_ | refine bS ?_ (by simp) _))⟩
  · go_enter Try.func41, Try.ntmps41
    go_wp2
    go_ret
    exact ⟨ret_bool (by rw [HE.out, ho]; rfl), (by repeat (first | exact Below.refl _ _ | refine bA ?_ _ | refine bD ?_ _ | refine bD1 ?_ | refine bS ?_ (by simp) _))⟩

set_option maxRecDepth 100000 in
set_option maxHeartbeats 1000000 in
theorem journeyBetween_any (a b : Fares.Tap) (w : World) :
    Calls Try.prog 26 #[tapV a, tapV b] w fun e w' => e = .returned (journeyV (Fares.between a b)) ∧ Below w.heap.size w w' := by
  have HE : Hid (journeyV (Fares.between a b) = .agg #[.int .i64 a.s, .int .i64 b.s, .int .i64 a.m, .int .i64 b.m, .bool (a.o != b.o)]) := rfl
  rw [HE.out]
  unfold tapV
  go_enter Try.func26, Try.ntmps26
  go_wp2
  exact bodyPost_ret (v := .agg #[.int .i64 a.s, .int .i64 b.s, .int .i64 a.m, .int .i64 b.m, .bool (a.o != b.o)]) (by simp [results, Try.results26, go_sem, bne]) rfl ⟨rfl, (by repeat (first | exact Below.refl _ _ | refine bA ?_ _ | refine bD ?_ _ | refine bD1 ?_ | refine bS ?_ (by simp) _))⟩
end Go.Proofs.Ytllhjgheffemnaa
