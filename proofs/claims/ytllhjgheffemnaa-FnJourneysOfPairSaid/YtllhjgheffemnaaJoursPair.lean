/-
  Chapter 4: two taps of one card.
-/
import Derived.Test.YtllhjgheffemnaaJoursLaw
set_option linter.unusedSimpArgs false
namespace Go.Proofs.Ytllhjgheffemnaa.Fares
set_option linter.unusedVariables false

def tapA : Tap := ⟨1, 1, 5, 500, 2, false⟩
def tapB (m : Int) : Tap := ⟨2, 2, 5, m, 3, true⟩
theorem pair_valid {m : Int} (h0 : 501 ≤ m) (h1 : m ≤ 681) : cardTaps [tapA, tapB m] 5 = [tapA, tapB m] := by
  have hv : validTaps [tapA, tapB m] = true := by
    refine valid_pairs.2 ⟨by simp, ?_, ?_⟩
    · intro t ht
      simp only [List.mem_cons, List.not_mem_nil, or_false] at ht
      rcases ht with rfl | rfl
      · unfold validTap tapA; rw [decide_eq_true_eq]; dsimp only; omega
      · unfold validTap tapB; rw [decide_eq_true_eq]; dsimp only; omega
    · refine List.pairwise_cons.2 ⟨fun b hb => ?_, List.pairwise_cons.2 ⟨fun b hb => by simp at hb, List.Pairwise.nil⟩⟩
      simp only [List.mem_cons, List.not_mem_nil, or_false] at hb
      subst hb
      refine ⟨?_, ?_⟩
      · unfold earlier tapA tapB; rw [decide_eq_true_eq]; dsimp only; omega
      · unfold sameTap tapA tapB; rw [decide_eq_false_iff_not]; dsimp only; omega
  rw [cardTaps_pos 5 hv]
  simp [tapA, tapB]
theorem pair_ride {m : Int} (h0 : 501 ≤ m) (h1 : m ≤ 680) : journeysOf (cardTaps [tapA, tapB m] 5) = [⟨2, 3, 500, m, true⟩] := by
  rw [pair_valid h0 (by omega), journeysOf_rides]
  have hr : isRide tapA (tapB m) = true := by
    unfold isRide tapA tapB
    have : m - 500 ≤ 180 := by omega
    simpa using this
  simp [ridesOf, hr]
  rfl
theorem pair_halves : journeysOf (cardTaps [tapA, tapB 681] 5) = [⟨2, 2, 500, 500, false⟩, ⟨3, 3, 681, 681, false⟩] := by
  rw [pair_valid (by omega) (by omega), journeysOf_rides]
  have hr : isRide tapA (tapB 681) = false := by unfold isRide tapA tapB; decide
  simp [ridesOf, hr]
  exact ⟨rfl, rfl⟩
end Go.Proofs.Ytllhjgheffemnaa.Fares
