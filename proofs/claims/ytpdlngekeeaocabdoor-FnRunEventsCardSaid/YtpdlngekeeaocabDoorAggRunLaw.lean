/-
  RunEvents on both sides, cell for cell; what its answers are.
-/
import Derived.Test.YtpdlngekeeaocabDoorAggRun2
import Derived.Test.YtpdlngekeeaocabDoorAggBox2
set_option linter.unusedSimpArgs false
namespace Go.Proofs.YtpdlngekeeaocabDoor
open Go.RowKit
set_option linter.unusedVariables false

theorem implRun_cells (x : Fares.Sum) (A : Option Addr) (n c : Nat) (l : List Fares.Event) (s a t m : Int) (hP : ((⟨s, a, t⟩ : Fares.Sum), m) = Fares.runEvents x l) (w : World) (hx : Events w w.heap.size A l) (hn : l.length = n) (hl : n ≤ 1000000000) (hL : Limits w) (hT : Steps w) :
    Calls Tryd.prog 15 #[.agg #[.int .i64 x.s, .int .i64 x.a, .int .i64 x.t], .slice A n c] w fun r w' => r = .returned (.tuple #[.agg #[.int .i64 s, .int .i64 a, .int .i64 t], .int .i64 m]) ∧ Below w.heap.size w w' := by
  have h := implRunEvents_any x A n c l w hx hn hl hL hT
  rw [← hP] at h
  exact h
theorem specRun_cells (x : Fares.Sum) (A : Option Addr) (n c : Nat) (l : List Fares.Event) (s a t m : Int) (hP : ((⟨s, a, t⟩ : Fares.Sum), m) = Fares.runEvents x l) (w : World) (hx : Events w w.heap.size A l) (hn : l.length = n) (hl : n ≤ 1000000000) :
    Calls Tryd.prog 16 #[.agg #[.int .i64 x.s, .int .i64 x.a, .int .i64 x.t], .slice A n c] w fun r w' => r = .returned (.tuple #[.agg #[.int .i64 s, .int .i64 a, .int .i64 t], .int .i64 m]) ∧ Below w.heap.size w w' := by
  have h := specRunEvents_any x A n c l w hx hn hl
  rw [← hP] at h
  exact h
theorem run_yes {x : Fares.Sum} {l : List Fares.Event} {P : Fares.Sum} {m : Int} (h : (P, m) = Fares.runEvents x l) (hm : 0 ≤ m) : Fares.validSum x = true ∧ l.length ≤ 20 ∧ (P, m) = Fares.runAll x l := by
  cases hv : Fares.validSum x with
  | false =>
    rw [runEvents_bad (.inl hv)] at h
    injection h with h1 h2
    omega
  | true =>
    rcases Nat.lt_or_ge 20 l.length with hl | hl
    · rw [runEvents_bad (.inr hl)] at h
      injection h with h1 h2
      omega
    · exact ⟨rfl, hl, by rw [h, runEvents_ok hv hl]⟩
theorem run_range {x : Fares.Sum} {l : List Fares.Event} {P : Fares.Sum} {m : Int} (h : (P, m) = Fares.runEvents x l) : -1 ≤ m ∧ m ≤ 20 := by
  rcases (by omega : m < 0 ∨ 0 ≤ m) with hm | hm
  · unfold Fares.runEvents at h
    split at h
    · have := Fares.runAll_range x l
      rw [← h] at this
      dsimp only at this
      omega
    · injection h with h1 h2
      omega
  · obtain ⟨_, h2, h3⟩ := run_yes h hm
    have := Fares.runAll_range x l
    rw [← h3] at this
    dsimp only at this
    omega
theorem run_len {x : Fares.Sum} {l : List Fares.Event} {P : Fares.Sum} {m : Int} (h : (P, m) = Fares.runEvents x l) (hm : 0 ≤ m) : m ≤ l.length := by
  obtain ⟨_, _, h3⟩ := run_yes h hm
  have := Fares.runAll_range x l
  rw [← h3] at this
  exact this.2
theorem run_none {x : Fares.Sum} (hv : Fares.validSum x = true) : ((⟨x.s, x.a, x.t⟩ : Fares.Sum), (0 : Int)) = Fares.runEvents x [] := by
  rw [runEvents_ok hv (by simp)]; rfl
theorem step_zero (x : Fares.Sum) (k : Int) (hk : k = 0 ∨ k = 9) : (Fares.step x ⟨k, 0⟩).2 = false := by
  unfold Fares.step
  (repeat' split) <;> first | (exfalso; dsimp only at *; omega) | rfl
theorem run_two {x : Fares.Sum} (hv : Fares.validSum x = true) : ((⟨x.s, x.a, x.t⟩ : Fares.Sum), (0 : Int)) = Fares.runEvents x [⟨0, 0⟩, ⟨9, 0⟩] := by
  rw [runEvents_ok hv (by simp)]
  unfold Fares.runAll
  simp only [List.foldl_cons, List.foldl_nil, Fares.runNext, step_zero x 0 (.inl rfl), step_zero x 9 (.inr rfl)]
  rfl
theorem two_events {w : World} {g : Nat} {t : TypeId} (h : Blk w g t #[.int .i64 0, .int .i64 0, .int .i64 9, .int .i64 0]) : Events w w.heap.size (some ⟨g, 0, none⟩) [⟨0, 0⟩, ⟨9, 0⟩] :=
  Events.of (N := 4) ⟨_, h, rfl, by simp [eventCells]⟩
theorem Events.take {w : World} {B : Nat} {A : Option Addr} {l : List Fares.Event} (h : Events w B A l) (k : Nat) : Events w B A (l.take k) := by
  intro hn
  obtain ⟨a, e, hb, hc⟩ := h (by
    intro e
    apply hn
    cases l with
    | nil => simp
    | cons x r => simp [eventCells] at e)
  refine ⟨a, e, hb, fun i u hu => hc i u ?_⟩
  have hp : l.flatMap eventCells = (l.take k).flatMap eventCells ++ (l.drop k).flatMap eventCells := by rw [← List.flatMap_append, List.take_append_drop]
  rw [hp, List.getElem?_append_left (List.getElem?_eq_some_iff.1 hu).1]
  exact hu
theorem Events.drop {w : World} {B b o : Nat} {l : List Fares.Event} (h : Events w B (some ⟨b, o, none⟩) l) (k : Nat) (hk : k ≤ l.length) : Events w B (some ⟨b, o + k * 2, none⟩) (l.drop k) := by
  intro hn
  obtain ⟨a, e, hb, hc⟩ := h (by
    intro e
    apply hn
    cases l with
    | nil => simp
    | cons x r => simp [eventCells] at e)
  injection e with e
  subst e
  have hp : l.flatMap eventCells = (l.take k).flatMap eventCells ++ (l.drop k).flatMap eventCells := by rw [← List.flatMap_append, List.take_append_drop]
  have hlen : ((l.take k).flatMap eventCells).length = k * 2 := by
    have hg : ∀ zs : List Fares.Event, (zs.flatMap eventCells).length = zs.length * 2 := by
      intro zs
      induction zs with
      | nil => simp
      | cons y zs ih => simp [ih, eventCells, Nat.succ_mul]
    rw [hg, List.length_take, Nat.min_eq_left hk]
  refine ⟨_, rfl, hb, fun i u hu => ?_⟩
  have := hc (k * 2 + i) u (by
    rw [hp, List.getElem?_append_right (by omega), hlen, Nat.add_sub_cancel_left]
    exact hu)
  rw [Addr.add_mid] at this ⊢
  rw [Nat.add_assoc]
  exact this
end Go.Proofs.YtpdlngekeeaocabDoor
