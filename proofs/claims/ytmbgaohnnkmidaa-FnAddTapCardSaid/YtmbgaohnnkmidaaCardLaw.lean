/-
  Chapter 3: taps of one card, and a tap of another one; plain facts of the law.
-/
import Derived.Test.YtmbgaohnnkmidaaCollectLaw
import Derived.Test.YtmbgaohnnkmidaaTapCards
set_option linter.unusedSimpArgs false
set_option linter.unusedVariables false
namespace Go.Proofs.Ytmbgaohnnkmidaa.Fares
theorem card_add {xs : List Tap} {t : Tap} (h : (addTap xs t).2 = true) {card : Int} (hc : card ≠ t.c) : cardTaps (addTap xs t).1 card = cardTaps xs card := by
  obtain ⟨hv, ht, hd⟩ := add_ok h
  have hv2 := (add_law h).1
  rcases hd with ⟨_, e⟩ | ⟨hk, _, e⟩
  · rw [e]
  · unfold cardTaps
    rw [if_pos hv2, if_pos hv, e]
    rw [e] at hv2
    refine eq_of_mem _ _ ((valid_pairs.1 hv2).2.2.filter _) ((valid_pairs.1 hv).2.2.filter _) (fun o => ?_)
    rw [List.mem_filter, List.mem_filter, mem_insert_iff hk]
    constructor
    · rintro ⟨h1 | h1, h2⟩
      · exact ⟨h1, h2⟩
      · subst h1
        rw [decide_eq_true_eq] at h2
        exact absurd h2.symm hc
    · rintro ⟨h1, h2⟩
      exact ⟨.inl h1, h2⟩
end Go.Proofs.Ytmbgaohnnkmidaa.Fares
