/-
  A card is held to a validator.
-/
import Derived.Test.YtpijjlggmibfnaaGateMath
import Derived.Test.YtpijjlggmibfnaaDenyCardMath
set_option linter.unusedSimpArgs false
set_option linter.unusedVariables false
namespace Go.Proofs.Ytpijjlggmibfnaa.Fares
def cardOk (c m s : Int) : Prop := 0 ≤ c ∧ c ≤ 99 ∧ 0 ≤ m ∧ m ≤ 40319 ∧ 0 ≤ s ∧ s ≤ 9
instance (c m s : Int) : Decidable (cardOk c m s) := by unfold cardOk; exact inferInstance
def zeroGate : Gate := ⟨0, 0, ⟨0, []⟩, []⟩
def stays (g : Gate) (c : Int) (o : Bool) : Bool := (isIn g.deny.cards c && !o) || decide (g.kept.length = 10) || decide (999 < g.nxt)
def withTap (g : Gate) (c m s : Int) (o : Bool) : Gate := ⟨g.val, g.nxt + 1, g.deny, g.kept ++ [⟨g.val, g.nxt, c, m, s, o⟩]⟩
noncomputable def holdCard (g : Gate) (c m s : Int) (o : Bool) : Gate × Bool :=
  if validGate g = true ∧ cardOk c m s then (if stays g c o then (g, o) else (withTap g c m s o, true)) else (zeroGate, false)
theorem validGate_facts {g : Gate} (h : validGate g = true) : 0 ≤ g.val ∧ g.val ≤ 9 ∧ 0 ≤ g.nxt ∧ g.nxt ≤ 1000 ∧ g.kept.length ≤ 10 ∧ g.deny.cards.length ≤ 12 := by
  unfold validGate validDeny at h
  simp only [Bool.and_eq_true, decide_eq_true_eq] at h
  exact ⟨h.1.1.1.1, h.1.1.1.2.1, h.1.1.1.2.2.1, h.1.1.1.2.2.2, h.1.2, h.1.1.2.1.2.2⟩
theorem validTap_hold {v n c m s : Int} {o : Bool} (h0 : 0 ≤ v) (h1 : v ≤ 9) (h2 : 0 ≤ n) (h3 : n ≤ 999) : validTap ⟨v, n, c, m, s, o⟩ = decide (cardOk c m s) := by
  unfold validTap
  rw [Bool.eq_iff_iff]
  simp only [decide_eq_true_eq]
  unfold cardOk
  constructor
  · intro ⟨_, _, _, _, a, b, c, d, e, f⟩
    exact ⟨a, b, c, d, e, f⟩
  · intro ⟨a, b, c, d, e, f⟩
    exact ⟨h0, h1, h2, h3, a, b, c, d, e, f⟩
end Go.Proofs.Ytpijjlggmibfnaa.Fares
