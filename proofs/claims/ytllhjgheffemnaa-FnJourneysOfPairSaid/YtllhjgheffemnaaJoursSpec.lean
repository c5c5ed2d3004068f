/-
  Chapter 4: the model's JourneysOf.
-/
import Derived.Test.YtllhjgheffemnaaTapCards
import Derived.Test.YtllhjgheffemnaaMake
import Derived.Test.YtllhjgheffemnaaJoursFact
set_option linter.unusedSimpArgs false
namespace Go.Proofs.Ytllhjgheffemnaa
open Go.RowKit
set_option linter.unusedVariables false

set_option maxRecDepth 100000 in
set_option maxHeartbeats 2000000 in
theorem specJourneysOf_any (A : Option Addr) (n c : Nat) (xs : List Fares.Tap) (card : Int) (w : World) (hx : Taps w w.heap.size A xs) (hn : xs.length = n) (hl : n ≤ 1000000000) :
    Calls Try.prog 12 #[.slice A n c, .int .i64 card] w fun e w' => ∃ v, e = .returned v ∧ OwnJourneys w' w.heap.size v (Fares.journeysOf (Fares.cardTaps xs card)) ∧ Below w.heap.size w w' := by
  subst hn
  have hcl := Fares.cardTaps_length xs card
  have HCI := Lib.hid (Fares.cardTaps_in xs card)
  by_cases hv : Fares.validTaps xs = true
  · go_enter Try.func12, Try.ntmps12
    go_wp2_with fail
    refine (specvalidTaps_any A _ c xs _ hx rfl (by omega)).mono ?_
    rw [hv]
    rintro e w1 ⟨rfl, hb1⟩
    go_wp2_with fail
    refine (specCardTaps_any A _ c xs card _ ((hx.below hb1 (Nat.le_refl _)).more hb1.size) rfl (by omega)).mono ?_
    rintro e w2 ⟨v, rfl, ho, hb2⟩
    obtain ⟨A2, c2, rfl, _, _, hr2⟩ := OwnTaps.form ho
    go_wp2_with fail
    refine (specjourneys_any A2 _ c2 _ _ hr2 rfl (by omega) HCI.out).mono ?_
    rintro e w3 ⟨v, rfl, ho3, hb3⟩
    go_wp2
    go_ret
    exact ⟨_, rfl, ownBase ho3 (Nat.le_trans hb1.size hb2.size), bT (bT hb1 hb2) hb3⟩
  · have hv' : Fares.validTaps xs = false := by simpa using hv
    have he : Fares.journeysOf (Fares.cardTaps xs card) = [] := by unfold Fares.cardTaps; rw [if_neg hv]; rfl
    have HE := Lib.hid he; clear he
    go_enter Try.func12, Try.ntmps12
    go_wp2_with fail
    refine (specvalidTaps_any A _ c xs _ hx rfl (by omega)).mono ?_
    rw [hv']
    rintro e w1 ⟨rfl, hb1⟩
    go_wp2
    go_ret
    exact ⟨_, rfl, by rw [HE.out]; exact OwnJourneys.none_ _ _, hb1⟩
end Go.Proofs.Ytllhjgheffemnaa
