/-
  One cell of an owned row is stored anew; the cells behind a place of a row.
-/
import Derived.Test.YtllhjgheffemnaaMem
set_option linter.unusedSimpArgs false
namespace Go.Proofs.Ytllhjgheffemnaa
open Go.RowKit
set_option linter.unusedVariables false

theorem own_setCell {w : World} {base g cap n size i : Nat} {t : TypeId} {vs : List Value} (u : Value)
    (h : w.ownsRow base t size (.slice (some ⟨g, 0, none⟩) n cap) n vs) (hi : i < vs.length) :
    (w.setCell ⟨g, i, none⟩ u).ownsRow base t size (.slice (some ⟨g, 0, none⟩) n cap) n (vs.set i u) := by
  have hl := h.1
  rcases h.2 with ⟨h0, _⟩ | ⟨g', cap', cur, hv, hb, hh, hn, hm, hz, ht⟩
  · cases h0
  · injection hv with h1 h2 h3
    injection h1 with h1
    injection h1 with h1
    subst h1
    subst h3
    have hblk : Blk w g t cur := hh
    refine own_of_starts (cap := cap) ⟨_, hblk.put i u, by rw [Array.size_setIfInBounds]; exact hz, fun p v hp => ?_⟩ (by rw [List.length_set]; exact hl) hn hm hb
    rw [List.getElem?_set] at hp
    rw [Array.getElem?_setIfInBounds]
    by_cases e : i = p
    · subst e
      rw [if_pos rfl] at hp ⊢
      rw [if_pos hi] at hp
      have hmul : n * size ≤ cap * size := Nat.mul_le_mul_right _ hn
      rw [if_pos (by omega)]
      exact hp
    · rw [if_neg e] at hp ⊢
      rw [← ht, List.getElem?_take] at hp
      split at hp
      · simpa using hp
      · cases hp
theorem own_blk {w : World} {base g cap n size : Nat} {t : TypeId} {vs : List Value} (h : w.ownsRow base t size (.slice (some ⟨g, 0, none⟩) n cap) n vs) : ∃ cs : Array Value, Blk w g t cs := by
  rcases h.2 with ⟨h0, _⟩ | ⟨g', cap', cur, hv, hb, hh, _⟩
  · cases h0
  · injection hv with h1
    injection h1 with h1
    injection h1 with h1
    subst h1
    exact ⟨cur, hh⟩
/-- The slice value of an owned row that isn't empty. -/
theorem own_some {w : World} {base n size : Nat} {t : TypeId} {v : Value} {vs : List Value} (h : w.ownsRow base t size v n vs) (hn : 0 < n) : ∃ g cap, v = .slice (some ⟨g, 0, none⟩) n cap ∧ n ≤ cap ∧ cap ≤ maxLen ∧ base ≤ g := by
  rcases h.2 with ⟨_, h0⟩ | ⟨g, cap, cur, rfl, hb, _, h1, h2, _⟩
  · omega
  · exact ⟨g, cap, rfl, h1, h2, hb⟩
/-- From place k on. -/
theorem Reads.drop_at {T : Type} {f : T → List Value} {s : Nat} (hf : ∀ x, (f x).length = s) {w : World} {B b o : Nat} {xs : List T} (h : Reads w B (some ⟨b, o, none⟩) (xs.flatMap f)) (k : Nat) (hk : k ≤ xs.length) :
    Reads w B (some ⟨b, o + k * s, none⟩) ((xs.drop k).flatMap f) := by
  have hlen : ∀ zs : List T, (zs.flatMap f).length = zs.length * s := by
    intro zs
    induction zs with
    | nil => simp
    | cons y zs ih => simp [ih, hf, Nat.succ_mul]; omega
  have e : xs.flatMap f = (xs.take k).flatMap f ++ (xs.drop k).flatMap f := by rw [← List.flatMap_append, List.take_append_drop]
  intro hne
  obtain ⟨a, ea, hb, hc⟩ := h (by intro h0; rw [e] at h0; exact hne (List.append_eq_nil_iff.1 h0).2)
  injection ea with ea
  subst ea
  refine ⟨_, rfl, hb, fun i u hu => ?_⟩
  have := hc (k * s + i) u (by
    rw [e, List.getElem?_append_right (by rw [hlen, List.length_take]; rw [Nat.min_eq_left hk]; omega)]
    rw [hlen, List.length_take, Nat.min_eq_left hk, Nat.add_sub_cancel_left]
    exact hu)
  rw [Addr.add_mid] at this ⊢
  rwa [Nat.add_assoc]
theorem Reads.take_of {T : Type} {f : T → List Value} {w : World} {B : Nat} {A : Option Addr} {xs : List T} (h : Reads w B A (xs.flatMap f)) (k : Nat) : Reads w B A ((xs.take k).flatMap f) := by
  have e : xs.flatMap f = (xs.take k).flatMap f ++ (xs.drop k).flatMap f := by rw [← List.flatMap_append, List.take_append_drop]
  intro hne
  obtain ⟨a, ea, hb, hc⟩ := h (by intro h0; rw [e] at h0; exact hne (List.append_eq_nil_iff.1 h0).1)
  exact ⟨a, ea, hb, fun i u hu => hc i u (by rw [e, List.getElem?_append_left (List.getElem?_eq_some_iff.1 hu).1]; exact hu)⟩
end Go.Proofs.Ytllhjgheffemnaa
