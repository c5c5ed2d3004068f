/-
  Journey: its cells, slices of it, and what the exact laws' helpers do with them.
-/
import Derived.Test.YtllhjgheffemnaaTypes
import Derived.Test.YtllhjgheffemnaaOpen
import Derived.WalkKit
import Derived.WalkSpells
import Derived.WalkLawsBesides
import Derived.Deep.QuietTactic
import Derived.BigQuiet
import Derived.StillTailTactics
import Derived.Laws.MakeOwn
set_option linter.unusedSimpArgs false
namespace Go.Proofs.Ytllhjgheffemnaa
open Go.ChangeShapes Go.WideShapes Go.ChangeAt Go.RowKit Go.Deep
set_option linter.unusedVariables false

def journeyV (t : Fares.Journey) : Value := .agg #[.int .i64 t.a, .int .i64 t.b, .int .i64 t.x, .int .i64 t.y, .bool t.f]
def journeyCells (t : Fares.Journey) : List Value := [.int .i64 t.a, .int .i64 t.b, .int .i64 t.x, .int .i64 t.y, .bool t.f]
/-- The slice at A holds xs. -/
def Journeys (w : World) (B : Nat) (A : Option Addr) (xs : List Fares.Journey) : Prop := Reads w B A (xs.flatMap journeyCells)
/-- One from offset o of block b on. -/
def JourneyAt (w : World) (b o : Nat) (t : Fares.Journey) : Prop :=
  w.cell? ⟨b, o, none⟩ = some (.int .i64 t.a) ∧ w.cell? ⟨b, o + 1, none⟩ = some (.int .i64 t.b) ∧ w.cell? ⟨b, o + 2, none⟩ = some (.int .i64 t.x) ∧ w.cell? ⟨b, o + 3, none⟩ = some (.int .i64 t.y) ∧ w.cell? ⟨b, o + 4, none⟩ = some (.bool t.f)

theorem Journeys.row {w : World} {B : Nat} {A : Option Addr} {xs : List Fares.Journey} (h : Journeys w B A xs) (hn : 0 < xs.length) :
    ∃ b o, A = some ⟨b, o, none⟩ ∧ b < B ∧ ∀ k t, xs[k]? = some t → JourneyAt w b (o + k * 5) t := by
  obtain ⟨b, o, e, hb, hr⟩ := Reads.row h (by
    intro e
    have := flat_get journeyCells 5 (fun _ => rfl) xs 0 0 (by omega)
    rw [e, List.getElem?_eq_getElem hn] at this
    simp [journeyCells] at this)
  refine ⟨b, o, e, hb, fun k t hk => ?_⟩
  have hg : ∀ j u, j < 5 → (journeyCells t)[j]? = some u → w.cell? ⟨b, o + k * 5 + j, none⟩ = some u := fun j u hj hu => by
    have := hr (k * 5 + j) u (by rw [flat_get journeyCells 5 (fun _ => rfl) xs k j hj, hk]; exact hu)
    rwa [← Nat.add_assoc] at this
  exact ⟨hg 0 _ (by omega) rfl, hg 1 _ (by omega) rfl, hg 2 _ (by omega) rfl, hg 3 _ (by omega) rfl, hg 4 _ (by omega) rfl⟩
theorem JourneyAt.below {w w' : World} {B b o : Nat} {t : Fares.Journey} (h : JourneyAt w b o t) (hb : Below B w w') (hB : b < B) : JourneyAt w' b o t := by
  obtain ⟨h0, h1, h2, h3, h4⟩ := h
  exact ⟨(hb.cell hB).trans h0, (hb.cell hB).trans h1, (hb.cell hB).trans h2, (hb.cell hB).trans h3, (hb.cell hB).trans h4⟩
/-- A variable that holds one. -/
def JourneyBox (w : World) (b : Nat) (t : Fares.Journey) : Prop := b < w.heap.size ∧ w.cell? ⟨b, 0, none⟩ = some (.int .i64 t.a) ∧ w.cell? ⟨b, 1, none⟩ = some (.int .i64 t.b) ∧ w.cell? ⟨b, 2, none⟩ = some (.int .i64 t.x) ∧ w.cell? ⟨b, 3, none⟩ = some (.int .i64 t.y) ∧ w.cell? ⟨b, 4, none⟩ = some (.bool t.f)
theorem JourneyBox.below {w w' : World} {B b : Nat} {t : Fares.Journey} (h : JourneyBox w b t) (hb : Below B w w') (hB : b < B) : JourneyBox w' b t := by
  obtain ⟨hl, h0, h1, h2, h3, h4⟩ := h
  exact ⟨Nat.lt_of_lt_of_le hl hb.size, (hb.cell hB).trans h0, (hb.cell hB).trans h1, (hb.cell hB).trans h2, (hb.cell hB).trans h3, (hb.cell hB).trans h4⟩
theorem JourneyBox.new (w : World) (t : Fares.Journey) (e : TypeId) : JourneyBox (w.alloc (.cells #[.int .i64 t.a, .int .i64 t.b, .int .i64 t.x, .int .i64 t.y, .bool t.f] e)) w.heap.size t := by
  have hb : Blk (w.alloc (.cells #[.int .i64 t.a, .int .i64 t.b, .int .i64 t.x, .int .i64 t.y, .bool t.f] e)) w.heap.size e #[.int .i64 t.a, .int .i64 t.b, .int .i64 t.x, .int .i64 t.y, .bool t.f] := Blk.new w e _
  exact ⟨hb.lt, hb.cell 0, hb.cell 1, hb.cell 2, hb.cell 3, hb.cell 4⟩
theorem Journeys.below {w w' : World} {B B' : Nat} {A : Option Addr} {xs : List Fares.Journey} (h : Journeys w B A xs) (hb : Below B' w w') (hB : B ≤ B') : Journeys w' B A xs := Reads.below h hb hB
theorem Journeys.of {w : World} {g N : Nat} {t : TypeId} {xs : List Fares.Journey} (h : Starts w g t N (xs.flatMap journeyCells)) : Journeys w w.heap.size (some ⟨g, 0, none⟩) xs := h.reads
theorem Journeys.more {w : World} {B B' : Nat} {A : Option Addr} {xs : List Fares.Journey} (h : Journeys w B A xs) (hB : B ≤ B') : Journeys w B' A xs := Reads.more h hB

def journeyMark (k : Int) : List Value := [.int .i64 (k), .int .i64 (k + 1), .int .i64 (k + 1 + 1), .int .i64 (k + 1 + 1 + 1), .bool ((k + 1 + 1 + 1 + 1) % 3 == 0)]
def journeyMarks (n : Nat) (k : Int) : List Value := (List.range n).flatMap fun i : Nat => journeyMark (k + (i : Int) * 5)

/-- The slice value v owns the elements ys, in blocks from base on. -/
def OwnJourneys (w : World) (base : Nat) (v : Value) (ys : List Fares.Journey) : Prop := w.ownsRow base 31 5 v ys.length (ys.flatMap journeyCells)
theorem OwnJourneys.snoc {w : World} {base g cap : Nat} {ys : List Fares.Journey} {x : Fares.Journey}
    (h : w.ownsRow base 31 5 (.slice (some ⟨g, 0, none⟩) (ys.length + 1) cap) (ys.length + 1) (ys.flatMap journeyCells ++ journeyCells x)) : OwnJourneys w base (.slice (some ⟨g, 0, none⟩) (ys.length + 1) cap) (ys ++ [x]) := by
  unfold OwnJourneys
  simpa using h
theorem OwnJourneys.none_ (w : World) (base : Nat) : OwnJourneys w base (.slice none 0 0) [] := World.ownsRow_nil _ _ _ _
theorem OwnJourneys.form {w : World} {base : Nat} {v : Value} {ys : List Fares.Journey} (h : OwnJourneys w base v ys) :
    ∃ (A : Option Addr) (c : Nat), v = .slice A ys.length c ∧ ys.length ≤ c ∧ c ≤ maxLen ∧ Journeys w w.heap.size A ys := by
  rcases h.2 with ⟨rfl, h0⟩ | ⟨g, cap, cur, rfl, hb, hh, hn, hm, hs, ht⟩
  · have : ys = [] := List.eq_nil_of_length_eq_zero h0
    subst this
    exact ⟨none, 0, rfl, Nat.le_refl _, Nat.zero_le _, Reads.nil _ _ _⟩
  · refine ⟨_, _, rfl, hn, hm, fun hne => ⟨_, rfl, ?_, World.ownsRow.cells h (g := g) rfl⟩⟩
    exact (World.ownsRow.lt h g rfl).2
theorem OwnJourneys.kept {w w' : World} {base : Nat} {v : Value} {ys : List Fares.Journey} {row : Option Nat} (h : OwnJourneys w base v ys) (hg : w.grownBy w' row) (hne : v.ownBlock = none ∨ v.ownBlock ≠ row) : OwnJourneys w' base v ys :=
  World.ownsRow.kept h hg hne
theorem OwnJourneys.below {w w' : World} {base : Nat} {v : Value} {ys : List Fares.Journey} (h : OwnJourneys w base v ys) (hb : Below w.heap.size w w') : OwnJourneys w' base v ys := by
  refine World.ownsRow.kept h (grown_of_below hb none) ?_
  cases v.ownBlock with
  | none => exact .inl rfl
  | some k => exact .inr (by simp)

set_option maxRecDepth 100000 in
set_option maxHeartbeats 1000000 in
theorem eqJourney_any (a b : Fares.Journey) (w : World) :
    Calls Try.prog 35 #[journeyV a, journeyV b] w fun e w' => e = .returned (.bool (decide (a = b))) ∧ Below w.heap.size w w' := by
  unfold journeyV
  go_enter Try.func35, Try.ntmps35
  go_wp2
  all_goals (go_ret; exact ⟨ret_bool (by cases a; cases b; simp_all), (by repeat (first | exact Below.refl _ _ | refine bA ?_ _ | refine bD ?_ _ | refine bD1 ?_ | refine bS ?_ (by simp) _))⟩)
set_option maxRecDepth 100000 in
set_option maxHeartbeats 1000000 in
theorem eqJourneyS_any (A B : Option Addr) (n m c d : Nat) (xs ys : List Fares.Journey) (w : World) (hx : Journeys w w.heap.size A xs) (hy : Journeys w w.heap.size B ys) (hxn : xs.length = n) (hym : ys.length = m) (hl : n ≤ 1000000000) (hl' : m ≤ 1000000000) :
    Calls Try.prog 19 #[.slice A n c, .slice B m d] w fun e w' => e = .returned (.bool (decide (xs = ys))) ∧ Below w.heap.size w w' := by
  subst hxn
  subst hym
  by_cases hlen : xs.length = ys.length
  · have hne : ((xs.length : Int) != (ys.length : Int)) = false := by simp [hlen]
    have H := Lib.hid hlen; clear hlen
    go_enter Try.func19, Try.ntmps19
    go_wp2
    go_loopw [5] (fun i wr => ∃ k : Nat, k ≤ xs.length ∧ i = .int .i64 k ∧ Below w.heap.size w wr ∧ xs.take k = ys.take k) (fun i _ => xs.length - (intOf i).toNat)
    case atStart => exact ⟨0, Nat.zero_le _, rfl, Below.refl _ _, by simp⟩
    case round =>
      obtain ⟨k, hk, rfl, hb, he⟩ := hrel
      have He := Lib.hid he; clear he
      by_cases hlt : k < xs.length
      · obtain ⟨x, hxk⟩ : ∃ x, xs[k]? = some x := ⟨xs[k], List.getElem?_eq_getElem hlt⟩
        obtain ⟨y, hyk⟩ : ∃ y, ys[k]? = some y := ⟨ys[k]'(by have := H.out; omega), List.getElem?_eq_getElem (by have := H.out; omega)⟩
        obtain ⟨b1, o1, rfl, hb1, hr1⟩ := hx.row (by omega)
        have hlt2 : k < ys.length := by have := H.out; omega
        obtain ⟨b2, o2, rfl, hb2, hr2⟩ := hy.row (by omega)
        obtain ⟨p0, p1, p2, p3, p4⟩ := (hr1 k x hxk).below hb hb1
        obtain ⟨q0, q1, q2, q3, q4⟩ := (hr2 k y hyk).below hb hb2
        have Hx := Lib.hid hxk; clear hxk
        have Hy := Lib.hid hyk; clear hyk
        clear hr1 hr2 hx hy
        have i0 : (0 : Int) ≤ (k : Int) := by omega
        have i1 : (k : Int) < (xs.length : Int) := by omega
        have i2 : (k : Int) < (ys.length : Int) := by omega
        by_cases hxy : x = y
        · have hd : decide (x = y) = true := by simpa using hxy
          have Hxy := Lib.hid hxy; clear hxy
          go_wp2
          go_still_tail 8, (by kernel_rfl)
          change wpList _ _ _ _ _ wr.drew
          go_wp2_with fail
          refine (eqJourney_any x y _).mono ?_
          rintro e w1 ⟨rfl, hb3⟩
          have hb4 : Below w.heap.size w w1 := (bD1 hb).trans (hb3.mono hb.size)
          clear hb3 hb
          go_wp2
          go_roundw
          case rel => exact ⟨k + 1, by omega, by go_num, hb4, by rw [take_next Hx.out, take_next Hy.out, He.out, Hxy.out]⟩
          case measure => simp [intOf]; omega
        · have hd : decide (x = y) = false := by simpa using hxy
          have Hxy := Lib.hid hxy; clear hxy
          go_wp2
          go_still_tail 8, (by kernel_rfl)
          change wpList _ _ _ _ _ wr.drew
          go_wp2_with fail
          refine (eqJourney_any x y _).mono ?_
          rintro e w1 ⟨rfl, hb3⟩
          have hb4 : Below w.heap.size w w1 := (bD1 hb).trans (hb3.mono hb.size)
          clear hb3 hb
          go_wp2
          go_ret
          exact ⟨ret_bool (by
            have h1 := Hx.out
            have h2 := Hy.out
            have h3 := Hxy.out
            simp only [Bool.false_eq, decide_eq_false_iff_not]
            intro e
            rw [e, h2] at h1
            injection h1 with h1
            exact h3 h1.symm), hb4⟩
      · go_wp2
        go_ret
        exact ⟨ret_bool (by
          have h1 : xs.take k = xs := List.take_of_length_le (by omega)
          have h2 : ys.take k = ys := List.take_of_length_le (by have := H.out; omega)
          have := He.out
          rw [h1, h2] at this
          simp [this]), hb⟩
  · have hne : ((xs.length : Int) != (ys.length : Int)) = true := by rw [bne_iff_ne]; omega
    go_enter Try.func19, Try.ntmps19
    go_wp2
    go_ret
    exact ⟨ret_bool (by simp; intro e; exact hlen (by rw [e])), (by repeat (first | exact Below.refl _ _ | refine bA ?_ _ | refine bD ?_ _ | refine bD1 ?_ | refine bS ?_ (by simp) _))⟩
set_option maxRecDepth 100000 in
set_option maxHeartbeats 2000000 in
theorem markJourneyS_any (g n c N : Nat) (k0 : Int) (vs : List Value) (w : World) (h : Starts w g 31 N vs) (hN : n * 5 ≤ N) (hl : n ≤ 1048576) (h0 : 0 ≤ k0) (h1 : k0 ≤ 100000000) :
    Calls Try.prog 22 #[.slice (some ⟨g, 0, none⟩) n c, .int .i64 k0] w fun e w' => e = .returned (.int .i64 (k0 + n * 5)) ∧ Starts w' g 31 N (journeyMarks n k0) ∧ w.grownBy w' (some g) := by
  go_enter Try.func22, Try.ntmps22
  go_wp2
  go_loopw [5, 1] (fun i v wr => ∃ k : Nat, k ≤ n ∧ i = .int .i64 k ∧ v = .int .i64 (k0 + k * 5) ∧ w.grownBy wr (some g) ∧ Starts wr g 31 N (((List.range n).take k).flatMap fun i : Nat => journeyMark (k0 + (i : Int) * 5))) (fun i _ _ => n - (intOf i).toNat)
  case atStart => exact ⟨0, Nat.zero_le _, rfl, by simp, grown_refl _ _, h.none_⟩
  case round =>
    obtain ⟨k, hk, rfl, rfl, hg, hst⟩ := hrel
    by_cases hlt : k < n
    · have hx : (List.range n)[k]? = some k := by simp [hlt]
      obtain ⟨u0, q0⟩ := hst.there (i := k * 5) (by omega)
      obtain ⟨u1, q1⟩ := hst.there (i := k * 5 + 1) (by omega)
      obtain ⟨u2, q2⟩ := hst.there (i := k * 5 + 2) (by omega)
      obtain ⟨u3, q3⟩ := hst.there (i := k * 5 + 3) (by omega)
      obtain ⟨u4, q4⟩ := hst.there (i := k * 5 + 4) (by omega)
      have e0 := hst.free (k * 5)
      have e1 := hst.free (k * 5 + 1)
      have e2 := hst.free (k * 5 + 2)
      have e3 := hst.free (k * 5 + 3)
      have e4 := hst.free (k * 5 + 4)
      have Hst := Lib.hid hst; clear hst
      have Hx := Lib.hid hx; clear hx
      have i0 : (0 : Int) ≤ (k : Int) := by omega
      have i1 : (k : Int) < (n : Int) := by omega
      go_wp2
      go_roundw
      case rel => exact ⟨k + 1, by omega, by go_num, by go_num, grown_setCells (journeyMark (k0 + k * 5)) wr (k * 5) hg, Hst.out.next (fun i : Nat => journeyMark (k0 + (i : Int) * 5)) 5 (fun _ => rfl) Hx.out (by omega)⟩
      case measure => simp [intOf]; omega
    · go_wp2
      go_ret
      have e : k = n := by omega
      subst e
      exact ⟨rfl, by rwa [List.take_of_length_le (by simp)] at hst, hg⟩
set_option maxRecDepth 100000 in
set_option maxHeartbeats 2000000 in
theorem heldJourneyS_any (g n c N : Nat) (k0 : Int) (w : World) (h : Starts w g 31 N (journeyMarks n k0)) (hl : n ≤ 1048576) (h0 : 0 ≤ k0) (h1 : k0 ≤ 100000000) :
    Calls Try.prog 23 #[.slice (some ⟨g, 0, none⟩) n c, .int .i64 k0] w fun e w' => e = .returned (.int .i64 (k0 + n * 5)) ∧ w = w' := by
  have hc : ∀ k j u, k < n → j < 5 → (journeyMark (k0 + k * 5))[j]? = some u → w.cell? ⟨g, k * 5 + j, none⟩ = some u := by
    intro k j u hk hj hu
    obtain ⟨cs, h1, h2, h3⟩ := h
    rw [h1.cell]
    refine h3 _ _ ?_
    unfold journeyMarks
    rw [flat_get _ 5 (fun _ => rfl) _ k j hj, List.getElem?_range hk]
    exact hu
  have Hc := Lib.hid hc; clear hc
  go_enter Try.func23, Try.ntmps23
  go_wp2
  go_loop [5, 1] (fun i v => ∃ k : Nat, k ≤ n ∧ i = .int .i64 k ∧ v = .int .i64 (k0 + k * 5)) (fun i _ => n - (intOf i).toNat)
  case atStart => exact ⟨0, Nat.zero_le _, rfl, by simp⟩
  case round =>
    obtain ⟨k, hk, rfl, rfl⟩ := hrel
    by_cases hlt : k < n
    · have i0 : (0 : Int) ≤ (k : Int) := by omega
      have i1 : (k : Int) < (n : Int) := by omega
      have q0 : w.cell? ⟨g, k * 5, none⟩ = some (.int .i64 (k0 + k * 5)) := Hc.out k 0 _ hlt (by omega) rfl
      have q1 : w.cell? ⟨g, k * 5 + 1, none⟩ = some (.int .i64 (k0 + k * 5 + 1)) := Hc.out k 1 _ hlt (by omega) rfl
      have q2 : w.cell? ⟨g, k * 5 + 2, none⟩ = some (.int .i64 (k0 + k * 5 + 1 + 1)) := Hc.out k 2 _ hlt (by omega) rfl
      have q3 : w.cell? ⟨g, k * 5 + 3, none⟩ = some (.int .i64 (k0 + k * 5 + 1 + 1 + 1)) := Hc.out k 3 _ hlt (by omega) rfl
      have q4 : w.cell? ⟨g, k * 5 + 4, none⟩ = some (.bool ((k0 + k * 5 + 1 + 1 + 1 + 1) % 3 == 0)) := Hc.out k 4 _ hlt (by omega) rfl
      go_wp2
      go_round
      case rel => exact ⟨k + 1, by omega, by go_num, by go_num⟩
      case measure => simp [intOf]; omega
    · go_wp2
      go_ret
      have e : k = n := by omega
      subst e
      exact ⟨rfl, rfl⟩
set_option maxRecDepth 100000 in
set_option maxHeartbeats 400000 in
theorem markJourneyS_own (base : Nat) (v : Value) (n : Nat) (vs : List Value) (k0 : Int) (w : World) (h : w.ownsRow base 31 5 v n vs) (hl : n ≤ 1048576) (h0 : 0 ≤ k0) (h1 : k0 ≤ 100000000) :
    Calls Try.prog 22 #[v, .int .i64 k0] w fun e w' => e = .returned (.int .i64 (k0 + n * 5)) ∧ w'.ownsRow base 31 5 v n (journeyMarks n k0) ∧ w.grownBy w' v.ownBlock := by
  rcases h.2 with ⟨rfl, hn⟩ | ⟨g, cap, cur, rfl, hb, hh, hn, hm, hs, ht⟩
  · subst hn
    go_enter Try.func22, Try.ntmps22
    go_wp2
    go_loopw [5, 1] (fun i v wr => i = .int .i64 0 ∧ v = .int .i64 k0 ∧ wr = w) (fun i _ _ => 0)
    case atStart => exact ⟨rfl, rfl, rfl⟩
    case round =>
      obtain ⟨rfl, rfl, rfl⟩ := hrel
      go_wp2
      go_ret
      exact ⟨ret_int (by simp), World.ownsRow_nil _ _ _ _, grown_refl _ _⟩
  · refine (markJourneyS_any g n cap (cap * 5) k0 vs w ⟨cur, hh, hs, fun i u hu => ?_⟩ (Nat.mul_le_mul_right _ hn) hl h0 h1).mono ?_
    · rw [← ht] at hu
      rw [List.getElem?_take] at hu
      split at hu
      · simpa using hu
      · cases hu
    · rintro e w' ⟨rfl, hst, hg⟩
      exact ⟨rfl, own_of_starts hst (by unfold journeyMarks; rw [length_flat _ 5 (fun _ => rfl)]; simp) hn hm hb, hg⟩
set_option maxRecDepth 100000 in
set_option maxHeartbeats 400000 in
theorem heldJourneyS_own (base : Nat) (v : Value) (n : Nat) (k0 : Int) (w : World) (h : w.ownsRow base 31 5 v n (journeyMarks n k0)) (hl : n ≤ 1048576) (h0 : 0 ≤ k0) (h1 : k0 ≤ 100000000) :
    Calls Try.prog 23 #[v, .int .i64 k0] w fun e w' => e = .returned (.int .i64 (k0 + n * 5)) ∧ w = w' := by
  rcases h.2 with ⟨rfl, hn⟩ | ⟨g, cap, cur, rfl, hb, hh, hn, hm, hs, ht⟩
  · subst hn
    go_enter Try.func23, Try.ntmps23
    go_wp2
    go_loop [5, 1] (fun i v => i = .int .i64 0 ∧ v = .int .i64 k0) (fun i _ => 0)
    case atStart => exact ⟨rfl, rfl⟩
    case round =>
      obtain ⟨rfl, rfl⟩ := hrel
      go_wp2
      go_ret
      exact ⟨ret_int (by simp), rfl⟩
  · refine heldJourneyS_any g n cap (cap * 5) k0 w ⟨cur, hh, hs, fun i u hu => ?_⟩ hl h0 h1
    rw [← ht] at hu
    rw [List.getElem?_take] at hu
    split at hu
    · simpa using hu
    · cases hu
end Go.Proofs.Ytllhjgheffemnaa
