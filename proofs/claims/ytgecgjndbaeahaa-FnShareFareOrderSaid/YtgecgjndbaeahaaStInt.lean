/-
  Slices of numbers: their cells, and what the laws' helpers do with them.
-/
import Derived.Test.YtgecgjndbaeahaaTypes
import Derived.Test.YtgecgjndbaeahaaSumMath
import Derived.Test.YtgecgjndbaeahaaOpen
import Derived.Test.YtgecgjndbaeahaaBasic
import Derived.WalkKit
import Derived.WalkSpells
import Derived.WalkLawsBesides
import Derived.Deep.QuietTactic
import Derived.BigQuiet
import Derived.StillTailTactics
import Derived.Laws.MakeOwn
set_option linter.unusedSimpArgs false
namespace Go.Proofs.Ytgecgjndbaeahaa
open Go.ChangeShapes Go.WideShapes Go.ChangeAt Go.RowKit Go.Deep
set_option linter.unusedVariables false

def intCells (t : Int) : List Value := [.int .i64 t]
theorem flat_ints (xs : List Int) : xs.flatMap intCells = xs.map (Value.int .i64) := by
  induction xs with
  | nil => rfl
  | cons x r ih => simp [intCells, ih]
/-- The slice at A holds xs. -/
def Ints (w : World) (B : Nat) (A : Option Addr) (xs : List Int) : Prop := Reads w B A (xs.flatMap intCells)
theorem Ints.row {w : World} {B : Nat} {A : Option Addr} {xs : List Int} (h : Ints w B A xs) (hn : 0 < xs.length) :
    ∃ b o, A = some ⟨b, o, none⟩ ∧ b < B ∧ ∀ k t, xs[k]? = some t → w.cell? ⟨b, o + k, none⟩ = some (.int .i64 t) := by
  unfold Ints at h
  rw [flat_ints] at h
  obtain ⟨b, o, e, hb, hr⟩ := Reads.row h (by intro e; rw [List.map_eq_nil_iff] at e; subst e; simp at hn)
  exact ⟨b, o, e, hb, fun k t hk => hr k _ (by rw [List.getElem?_map, hk]; rfl)⟩
theorem Ints.below {w w' : World} {B B' : Nat} {A : Option Addr} {xs : List Int} (h : Ints w B A xs) (hb : Below B' w w') (hB : B ≤ B') : Ints w' B A xs := Reads.below h hb hB
theorem Ints.of {w : World} {g N : Nat} {t : TypeId} {xs : List Int} (h : Starts w g t N (xs.flatMap intCells)) : Ints w w.heap.size (some ⟨g, 0, none⟩) xs := h.reads
theorem Ints.more {w : World} {B B' : Nat} {A : Option Addr} {xs : List Int} (h : Ints w B A xs) (hB : B ≤ B') : Ints w B' A xs := Reads.more h hB
theorem Ints.take {w : World} {B : Nat} {A : Option Addr} {xs : List Int} (h : Ints w B A xs) (k : Nat) : Ints w B A (xs.take k) := fun hne => by
  unfold Ints at h
  rw [flat_ints] at h hne ⊢
  obtain ⟨a, e, hb, hc⟩ := h (by intro e; rw [List.map_eq_nil_iff] at e; subst e; simp at hne)
  refine ⟨a, e, hb, fun i u hu => hc i u ?_⟩
  rw [List.map_take, List.getElem?_take] at hu
  split at hu
  · exact hu
  · cases hu

def intMark (k : Int) : List Value := [.int .i64 k]
def intMarks (n : Nat) (k : Int) : List Value := (List.range n).flatMap fun i : Nat => intMark (k + (i : Int))

/-- The slice value v owns the elements ys, in blocks from base on. -/
def OwnInts (w : World) (base : Nat) (v : Value) (ys : List Int) : Prop := w.ownsRow base 3 1 v ys.length (ys.flatMap intCells)
theorem OwnInts.snoc {w : World} {base g cap : Nat} {ys : List Int} {x : Int}
    (h : w.ownsRow base 3 1 (.slice (some ⟨g, 0, none⟩) (ys.length + 1) cap) (ys.length + 1) (ys.flatMap intCells ++ intCells x)) : OwnInts w base (.slice (some ⟨g, 0, none⟩) (ys.length + 1) cap) (ys ++ [x]) := by
  unfold OwnInts
  simpa using h
theorem OwnInts.none_ (w : World) (base : Nat) : OwnInts w base (.slice none 0 0) [] := World.ownsRow_nil _ _ _ _
theorem OwnInts.form {w : World} {base : Nat} {v : Value} {ys : List Int} (h : OwnInts w base v ys) :
    ∃ (A : Option Addr) (c : Nat), v = .slice A ys.length c ∧ ys.length ≤ c ∧ c ≤ maxLen ∧ Ints w w.heap.size A ys := by
  rcases h.2 with ⟨rfl, h0⟩ | ⟨g, cap, cur, rfl, hb, hh, hn, hm, hs, ht⟩
  · have : ys = [] := List.eq_nil_of_length_eq_zero h0
    subst this
    exact ⟨none, 0, rfl, Nat.le_refl _, Nat.zero_le _, Reads.nil _ _ _⟩
  · refine ⟨_, _, rfl, hn, hm, fun hne => ⟨_, rfl, ?_, World.ownsRow.cells h (g := g) rfl⟩⟩
    exact (World.ownsRow.lt h g rfl).2
theorem OwnInts.kept {w w' : World} {base : Nat} {v : Value} {ys : List Int} {row : Option Nat} (h : OwnInts w base v ys) (hg : w.grownBy w' row) (hne : v.ownBlock = none ∨ v.ownBlock ≠ row) : OwnInts w' base v ys :=
  World.ownsRow.kept h hg hne
theorem OwnInts.below {w w' : World} {base : Nat} {v : Value} {ys : List Int} (h : OwnInts w base v ys) (hb : Below w.heap.size w w') : OwnInts w' base v ys := own_below h hb
theorem OwnInts.of_starts {w : World} {g cap base : Nat} {ys : List Int} (h : Starts w g 3 cap (ys.flatMap intCells)) (hn : ys.length ≤ cap) (hm : cap ≤ maxLen) (hb : base ≤ g) : OwnInts w base (.slice (some ⟨g, 0, none⟩) ys.length cap) ys :=
  own_of_starts (by rwa [Nat.mul_one]) (by rw [flat_ints]; simp) hn hm hb

set_option maxRecDepth 100000 in
set_option maxHeartbeats 1000000 in
theorem eqIntS_any (A B : Option Addr) (n m c d : Nat) (xs ys : List Int) (w : World) (hx : Ints w w.heap.size A xs) (hy : Ints w w.heap.size B ys) (hxn : xs.length = n) (hym : ys.length = m) (hl : n ≤ 1000000000) (hl' : m ≤ 1000000000) :
    Calls Try.prog 26 #[.slice A n c, .slice B m d] w fun e w' => e = .returned (.bool (decide (xs = ys))) ∧ Below w.heap.size w w' := by
  subst hxn
  subst hym
  by_cases hlen : xs.length = ys.length
  · have hne : ((xs.length : Int) != (ys.length : Int)) = false := by simp [hlen]
    have H := Lib.hid hlen; clear hlen
    go_enter Try.func26, Try.ntmps26
    go_wp2
    go_loopw [5] (fun i wr => ∃ k : Nat, k ≤ xs.length ∧ i = .int .i64 k ∧ Below w.heap.size w wr ∧ xs.take k = ys.take k) (fun i _ => xs.length - (intOf i).toNat)
    case atStart => exact ⟨0, Nat.zero_le _, rfl, Below.refl _ _, by simp⟩
    case round =>
      obtain ⟨k, hk, rfl, hb, he⟩ := hrel
      have He := Lib.hid he; clear he
      by_cases hlt : k < xs.length
      · obtain ⟨x, hxk⟩ : ∃ x, xs[k]? = some x := ⟨xs[k], List.getElem?_eq_getElem hlt⟩
        obtain ⟨y, hyk⟩ : ∃ y, ys[k]? = some y := ⟨ys[k]'(by have := H.out; omega), List.getElem?_eq_getElem (by have := H.out; omega)⟩
        obtain ⟨b1, o1, rfl, hb1, hr1⟩ := hx.row (by omega)
        have hlt2 : k < ys.length := by have := H.out; omega
        obtain ⟨b2, o2, rfl, hb2, hr2⟩ := hy.row (by omega)
        have p0 := (hb.cell (p := ⟨b1, o1 + k, none⟩) hb1).trans (hr1 k x hxk)
        have q0 := (hb.cell (p := ⟨b2, o2 + k, none⟩) hb2).trans (hr2 k y hyk)
        have Hx := Lib.hid hxk; clear hxk
        have Hy := Lib.hid hyk; clear hyk
        clear hr1 hr2 hx hy
        have i0 : (0 : Int) ≤ (k : Int) := by omega
        have i1 : (k : Int) < (xs.length : Int) := by omega
        have i2 : (k : Int) < (ys.length : Int) := by omega
        by_cases hxy : x = y
        · have hd : (x != y) = false := by simpa using hxy
          have Hxy := Lib.hid hxy; clear hxy
          go_wp2
          go_quiet (fail)
          go_wp2
          go_roundw
          case rel => exact ⟨k + 1, by omega, by go_num, (by repeat (first | exact hb | exact Below.refl _ _ | refine bA ?_ _ | refine bD ?_ _ | refine bD1 ?_ | refine bS ?_ (by simp) _)), by rw [take_next Hx.out, take_next Hy.out, He.out, Hxy.out]⟩
          case measure => simp [intOf]; omega
        · have hd : (x != y) = true := by simpa using hxy
          have Hxy := Lib.hid hxy; clear hxy
          go_wp2
          go_quiet (fail)
          go_wp2
          go_ret
          exact ⟨ret_bool (by
            have h1 := Hx.out
            have h2 := Hy.out
            have h3 := Hxy.out
            simp only [Bool.false_eq, decide_eq_false_iff_not]
            intro e
            rw [e, h2] at h1
            injection h1 with h1
            exact h3 h1.symm), (by repeat (first | exact hb | exact Below.refl _ _ | refine bA ?_ _ | refine bD ?_ _ | refine bD1 ?_ | refine bS ?_ (by simp) _))⟩
      · go_wp2
        go_ret
        exact ⟨ret_bool (by
          have h1 : xs.take k = xs := List.take_of_length_le (by omega)
          have h2 : ys.take k = ys := List.take_of_length_le (by have := H.out; omega)
          have := He.out
          rw [h1, h2] at this
          simp [this]), hb⟩
  · have hne : ((xs.length : Int) != (ys.length : Int)) = true := by rw [bne_iff_ne]; omega
    go_enter Try.func26, Try.ntmps26
    go_wp2
    go_ret
    exact ⟨ret_bool (by simp; intro e; exact hlen (by rw [e])), (by repeat (first | exact Below.refl _ _ | refine bA ?_ _ | refine bD ?_ _ | refine bD1 ?_ | refine bS ?_ (by simp) _))⟩
set_option maxRecDepth 100000 in
set_option maxHeartbeats 1000000 in
theorem equalInts_any (A B : Option Addr) (n m c d : Nat) (xs ys : List Int) (w : World) (hx : Ints w w.heap.size A xs) (hy : Ints w w.heap.size B ys) (hxn : xs.length = n) (hym : ys.length = m) (hl : n ≤ 1000000000) (hl' : m ≤ 1000000000) :
    Calls Try.prog 14 #[.slice A n c, .slice B m d] w fun e w' => e = .returned (.bool (decide (xs = ys))) ∧ Below w.heap.size w w' := by
  subst hxn
  subst hym
  by_cases hlen : xs.length = ys.length
  · have hne : ((xs.length : Int) != (ys.length : Int)) = false := by simp [hlen]
    have H := Lib.hid hlen; clear hlen
    go_enter Try.func14, Try.ntmps14
    go_wp2
    go_loopw [5] (fun i wr => ∃ k : Nat, k ≤ xs.length ∧ i = .int .i64 k ∧ Below w.heap.size w wr ∧ xs.take k = ys.take k) (fun i _ => xs.length - (intOf i).toNat)
    case atStart => exact ⟨0, Nat.zero_le _, rfl, Below.refl _ _, by simp⟩
    case round =>
      obtain ⟨k, hk, rfl, hb, he⟩ := hrel
      have He := Lib.hid he; clear he
      by_cases hlt : k < xs.length
      · obtain ⟨x, hxk⟩ : ∃ x, xs[k]? = some x := ⟨xs[k], List.getElem?_eq_getElem hlt⟩
        obtain ⟨y, hyk⟩ : ∃ y, ys[k]? = some y := ⟨ys[k]'(by have := H.out; omega), List.getElem?_eq_getElem (by have := H.out; omega)⟩
        obtain ⟨b1, o1, rfl, hb1, hr1⟩ := hx.row (by omega)
        have hlt2 : k < ys.length := by have := H.out; omega
        obtain ⟨b2, o2, rfl, hb2, hr2⟩ := hy.row (by omega)
        have p0 := (hb.cell (p := ⟨b1, o1 + k, none⟩) hb1).trans (hr1 k x hxk)
        have q0 := (hb.cell (p := ⟨b2, o2 + k, none⟩) hb2).trans (hr2 k y hyk)
        have Hx := Lib.hid hxk; clear hxk
        have Hy := Lib.hid hyk; clear hyk
        clear hr1 hr2 hx hy
        have i0 : (0 : Int) ≤ (k : Int) := by omega
        have i1 : (k : Int) < (xs.length : Int) := by omega
        have i2 : (k : Int) < (ys.length : Int) := by omega
        by_cases hxy : x = y
        · have hd : (x != y) = false := by simpa using hxy
          have Hxy := Lib.hid hxy; clear hxy
          go_wp2
          go_quiet (fail)
          go_wp2
          go_roundw
          case rel => exact ⟨k + 1, by omega, by go_num, (by repeat (first | exact hb | exact Below.refl _ _ | refine bA ?_ _ | refine bD ?_ _ | refine bD1 ?_ | refine bS ?_ (by simp) _)), by rw [take_next Hx.out, take_next Hy.out, He.out, Hxy.out]⟩
          case measure => simp [intOf]; omega
        · have hd : (x != y) = true := by simpa using hxy
          have Hxy := Lib.hid hxy; clear hxy
          go_wp2
          go_quiet (fail)
          go_wp2
          go_ret
          exact ⟨ret_bool (by
            have h1 := Hx.out
            have h2 := Hy.out
            have h3 := Hxy.out
            simp only [Bool.false_eq, decide_eq_false_iff_not]
            intro e
            rw [e, h2] at h1
            injection h1 with h1
            exact h3 h1.symm), (by repeat (first | exact hb | exact Below.refl _ _ | refine bA ?_ _ | refine bD ?_ _ | refine bD1 ?_ | refine bS ?_ (by simp) _))⟩
      · go_wp2
        go_ret
        exact ⟨ret_bool (by
          have h1 : xs.take k = xs := List.take_of_length_le (by omega)
          have h2 : ys.take k = ys := List.take_of_length_le (by have := H.out; omega)
          have := He.out
          rw [h1, h2] at this
          simp [this]), hb⟩
  · have hne : ((xs.length : Int) != (ys.length : Int)) = true := by rw [bne_iff_ne]; omega
    go_enter Try.func14, Try.ntmps14
    go_wp2
    go_ret
    exact ⟨ret_bool (by simp; intro e; exact hlen (by rw [e])), (by repeat (first | exact Below.refl _ _ | refine bA ?_ _ | refine bD ?_ _ | refine bD1 ?_ | refine bS ?_ (by simp) _))⟩
theorem info_int : (Try.prog.info? 3).map (fun i => (i.zero, i.size, i.bytes)) = some (some (.int .i64 0), 1, 8) := by kernel_rfl
theorem Starts.setInt {w : World} {g n d : Nat} {t : TypeId} {ys : List Int} {x : Int} (h : Starts w g t n (ys.flatMap intCells)) : Starts (w.setCell ⟨g, d, none⟩ (.int .i64 x)) g t n ((ys.set d x).flatMap intCells) := by
  obtain ⟨cs, h1, h2, h3⟩ := h
  refine ⟨_, h1.put d _, by rw [Array.size_setIfInBounds]; exact h2, fun i u hu => ?_⟩
  rw [flat_ints] at h3 hu
  rw [List.getElem?_map, List.getElem?_set] at hu
  rw [Array.getElem?_setIfInBounds]
  by_cases e : d = i
  · subst e
    rw [if_pos rfl] at hu ⊢
    split at hu
    · rename_i hd
      have hsz : d < cs.size := by
        have := h3 d _ (by rw [List.getElem?_map, List.getElem?_eq_getElem hd]; rfl)
        exact (Array.getElem?_eq_some_iff.1 this).1
      rw [if_pos hsz]
      exact hu
    · cases hu
  · rw [if_neg e] at hu ⊢
    exact h3 i u (by rw [List.getElem?_map]; exact hu)
/-- A new slice of n zeros. -/
theorem run_make_ints (n : Nat) (hb : n ≤ 1000000) :
    ∃ Z : Array Value, Z.size = n ∧ (∀ i, i < n → Z[i]? = some (.int .i64 0)) ∧ ∀ w : World, (Instr.makeSlice 26 (.int .i64 (n : Int)) (.int .i64 (n : Int))).run Try.prog w = .ok (.slice (some ⟨w.heap.size, 0, none⟩) n n) (w.alloc (.cells Z 3)) := by
  obtain ⟨i, hi, hz, hs, hy⟩ := info_parts info_int
  refine ⟨madeCells #[.int .i64 0] n, size_madeCells _ _, fun j hj => by simp [madeCells, hj, Nat.mod_one], fun w => ?_⟩
  have hb' : (i.bytes : Int) * (n : Int) ≤ 281474976710656 := by
    rw [hy]
    omega
  have hr := run_make (P := Try.prog) w 26 3 i (.int .i64 0) Try.underlying26 hi hz .i64 .i64 n n (by omega) (by omega) hb' (by omega)
  simp only [Int.toNat_natCast, hs, Nat.mul_one] at hr
  exact hr
theorem zeros_starts {w : World} {g : Nat} {t : TypeId} {Z : Array Value} {n : Nat} (h : Blk w g t Z) (hZ : Z.size = n) (h0 : ∀ i, i < n → Z[i]? = some (.int .i64 0)) : Starts w g t n ((List.replicate n (0 : Int)).flatMap intCells) :=
  ⟨Z, h, hZ, fun i u hu => by
    rw [flat_ints] at hu
    simp only [List.map_replicate] at hu
    have hi : i < n := by have := (List.getElem?_eq_some_iff.1 hu).1; simpa using this
    rw [List.getElem?_replicate, if_pos hi] at hu
    rw [h0 i hi]
    exact hu⟩
set_option maxRecDepth 100000 in
set_option maxHeartbeats 2000000 in
theorem markIntS_any (g n c N : Nat) (k0 : Int) (vs : List Value) (w : World) (h : Starts w g 3 N vs) (hN : n ≤ N) (hl : n ≤ 1048576) (h0 : 0 ≤ k0) (h1 : k0 ≤ 100000000) :
    Calls Try.prog 29 #[.slice (some ⟨g, 0, none⟩) n c, .int .i64 k0] w fun e w' => e = .returned (.int .i64 (k0 + n)) ∧ Starts w' g 3 N (intMarks n k0) ∧ w.grownBy w' (some g) := by
  go_enter Try.func29, Try.ntmps29
  go_wp2
  go_loopw [5, 1] (fun i v wr => ∃ k : Nat, k ≤ n ∧ i = .int .i64 k ∧ v = .int .i64 (k0 + k) ∧ w.grownBy wr (some g) ∧ Starts wr g 3 N (((List.range n).take k).flatMap fun i : Nat => intMark (k0 + (i : Int)))) (fun i _ _ => n - (intOf i).toNat)
  case atStart => exact ⟨0, Nat.zero_le _, rfl, by simp, grown_refl _ _, h.none_⟩
  case round =>
    obtain ⟨k, hk, rfl, rfl, hg, hst⟩ := hrel
    by_cases hlt : k < n
    · have hx : (List.range n)[k]? = some k := by simp [hlt]
      obtain ⟨u0, q0⟩ := hst.there (i := k) (by omega)
      have e0 := hst.free k
      have Hst := Lib.hid hst; clear hst
      have Hx := Lib.hid hx; clear hx
      have i0 : (0 : Int) ≤ (k : Int) := by omega
      have i1 : (k : Int) < (n : Int) := by omega
      go_wp2
      go_roundw
      case rel => exact ⟨k + 1, by omega, by go_num, by go_num, grown_setCells (intMark (k0 + k)) wr k hg, by have := Hst.out.next (fun i : Nat => intMark (k0 + (i : Int))) 1 (fun _ => rfl) Hx.out (by omega); rwa [Nat.mul_one] at this⟩
      case measure => simp [intOf]; omega
    · go_wp2
      go_ret
      have e : k = n := by omega
      subst e
      exact ⟨rfl, by rwa [List.take_of_length_le (by simp)] at hst, hg⟩
set_option maxRecDepth 100000 in
set_option maxHeartbeats 400000 in
theorem markIntS_own (base : Nat) (v : Value) (n : Nat) (vs : List Value) (k0 : Int) (w : World) (h : w.ownsRow base 3 1 v n vs) (hl : n ≤ 1048576) (h0 : 0 ≤ k0) (h1 : k0 ≤ 100000000) :
    Calls Try.prog 29 #[v, .int .i64 k0] w fun e w' => e = .returned (.int .i64 (k0 + n * 1)) ∧ w'.ownsRow base 3 1 v n (intMarks n k0) ∧ w.grownBy w' v.ownBlock := by
  rw [Int.mul_one]
  rcases h.2 with ⟨rfl, hn⟩ | ⟨g, cap, cur, rfl, hb, hh, hn, hm, hs, ht⟩
  · subst hn
    go_enter Try.func29, Try.ntmps29
    go_wp2
    go_loopw [5, 1] (fun i v wr => i = .int .i64 0 ∧ v = .int .i64 k0 ∧ wr = w) (fun i _ _ => 0)
    case atStart => exact ⟨rfl, rfl, rfl⟩
    case round =>
      obtain ⟨rfl, rfl, rfl⟩ := hrel
      go_wp2
      go_ret
      exact ⟨ret_int (by simp), World.ownsRow_nil _ _ _ _, grown_refl _ _⟩
  · refine (markIntS_any g n cap cap k0 vs w ⟨cur, hh, by omega, fun i u hu => ?_⟩ hn hl h0 h1).mono ?_
    · rw [← ht] at hu
      rw [List.getElem?_take] at hu
      split at hu
      · simpa using hu
      · cases hu
    · rintro e w' ⟨rfl, hst, hg⟩
      exact ⟨rfl, own_of_starts (by rwa [Nat.mul_one]) (by unfold intMarks; rw [length_flat _ 1 (fun _ => rfl)]; simp) hn hm hb, hg⟩
set_option maxRecDepth 100000 in
set_option maxHeartbeats 2000000 in
theorem heldIntS_any (g n c N : Nat) (k0 : Int) (w : World) (h : Starts w g 3 N (intMarks n k0)) (hl : n ≤ 1048576) (h0 : 0 ≤ k0) (h1 : k0 ≤ 100000000) :
    Calls Try.prog 30 #[.slice (some ⟨g, 0, none⟩) n c, .int .i64 k0] w fun e w' => e = .returned (.int .i64 (k0 + n)) ∧ w = w' := by
  have hc : ∀ k : Nat, k < n → w.cell? ⟨g, k, none⟩ = some (.int .i64 (k0 + (k : Int))) := by
    intro k hk
    obtain ⟨cs, h1, h2, h3⟩ := h
    rw [h1.cell]
    refine h3 _ _ ?_
    unfold intMarks
    have := flat_get (fun i : Nat => intMark (k0 + (i : Int))) 1 (fun _ => rfl) (List.range n) k 0 (by omega)
    rw [Nat.mul_one, Nat.add_zero] at this
    rw [this, List.getElem?_range hk]
    rfl
  have Hc := Lib.hid hc; clear hc
  go_enter Try.func30, Try.ntmps30
  go_wp2
  go_loop [5, 1] (fun i v => ∃ k : Nat, k ≤ n ∧ i = .int .i64 k ∧ v = .int .i64 (k0 + k)) (fun i _ => n - (intOf i).toNat)
  case atStart => exact ⟨0, Nat.zero_le _, rfl, by simp⟩
  case round =>
    obtain ⟨k, hk, rfl, rfl⟩ := hrel
    by_cases hlt : k < n
    · have i0 : (0 : Int) ≤ (k : Int) := by omega
      have i1 : (k : Int) < (n : Int) := by omega
      have q0 : w.cell? ⟨g, k, none⟩ = some (.int .i64 (k0 + k)) := Hc.out k hlt
      go_wp2
      go_round
      case rel => exact ⟨k + 1, by omega, by go_num, by go_num⟩
      case measure => simp [intOf]; omega
    · go_wp2
      go_ret
      have e : k = n := by omega
      subst e
      exact ⟨rfl, rfl⟩
set_option maxRecDepth 100000 in
set_option maxHeartbeats 400000 in
theorem heldIntS_own (base : Nat) (v : Value) (n : Nat) (k0 : Int) (w : World) (h : w.ownsRow base 3 1 v n (intMarks n k0)) (hl : n ≤ 1048576) (h0 : 0 ≤ k0) (h1 : k0 ≤ 100000000) :
    Calls Try.prog 30 #[v, .int .i64 k0] w fun e w' => e = .returned (.int .i64 (k0 + n * 1)) ∧ w = w' := by
  rw [Int.mul_one]
  rcases h.2 with ⟨rfl, hn⟩ | ⟨g, cap, cur, rfl, hb, hh, hn, hm, hs, ht⟩
  · subst hn
    go_enter Try.func30, Try.ntmps30
    go_wp2
    go_loop [5, 1] (fun i v => i = .int .i64 0 ∧ v = .int .i64 k0) (fun i _ => 0)
    case atStart => exact ⟨rfl, rfl⟩
    case round =>
      obtain ⟨rfl, rfl⟩ := hrel
      go_wp2
      go_ret
      exact ⟨ret_int (by simp), rfl⟩
  · refine heldIntS_any g n cap cap k0 w ⟨cur, hh, by omega, fun i u hu => ?_⟩ hl h0 h1
    rw [← ht] at hu
    rw [List.getElem?_take] at hu
    split at hu
    · simpa using hu
    · cases hu
set_option maxRecDepth 100000 in
theorem ints_open {H : Type} {enc : TypeId × Value → H} {w : World} {base : Nat} {spare : Nat → Bool} {held : Bool} {r : Reach} {b0 : Nat} {v : Value} {d : DataW H} {p : List MemPlace}
    (hv : Value.okWide Try.prog w r b0 26 v) (h : DataW.Trod enc Try.prog w base spare held 26 v d p) :
    ∃ (A : Option Addr) (n c : Nat) (xs : List Int), v = .slice A n c ∧ xs.length = n ∧ n ≤ maxLen ∧ Ints w w.heap.size A xs ∧ ∀ x ∈ xs, fitsI x := by
  obtain ⟨A, n, c, rfl⟩ := okWide_slice Try.underlying26 hv
  obtain ⟨fuel, hf⟩ := h
  obtain ⟨h1, h2, xs, h3, h4, h5⟩ := reads_of_slice intCells 1 (fun _ => rfl) (by omega) fitsI Try.underlying26 (by kernel_rfl) (fun n cs y h => by
    obtain ⟨a, e, _, wf⟩ := DataW.trod_int Try.underlying3 h
    exact ⟨a, e, fits_of_wf wf⟩) hf
  exact ⟨A, n, c, xs, rfl, h3, Nat.le_trans h1 h2, h5, h4⟩
set_option maxRecDepth 100000 in
set_option maxHeartbeats 1000000 in
theorem lawsum_any (A : Option Addr) (n c : Nat) (xs : List Int) (M : Int) (w : World) (hx : Ints w w.heap.size A xs) (hn : xs.length = n) (hl : n ≤ 1000000) (hM : M ≤ 1000000000) (hb : ∀ x ∈ xs, 0 ≤ x ∧ x ≤ M) :
    Calls Try.prog 17 #[.slice A n c] w fun e w' => e = .returned (.int .i64 (Fares.sumI xs)) ∧ w = w' := by
  subst hn
  have Hb := Lib.hid hb; clear hb
  go_enter Try.func17, Try.ntmps17
  go_wp2
  go_loop [4, 3] (fun i v => ∃ (k : Nat) (s : Int), k ≤ xs.length ∧ i = .int .i64 k ∧ v = .int .i64 s ∧ 0 ≤ s ∧ s ≤ 1000000000 * k ∧ s = Fares.sumI (xs.take k)) (fun i _ => xs.length - (intOf i).toNat)
  case atStart => exact ⟨0, 0, Nat.zero_le _, rfl, rfl, by omega, by omega, by simp [Fares.sumI]⟩
  case round =>
    obtain ⟨k, s, hk, rfl, rfl, s0, s1, hs⟩ := hrel
    have Hs := Lib.hid hs; clear hs
    by_cases hlt : k < xs.length
    · obtain ⟨x, hxk⟩ : ∃ x, xs[k]? = some x := ⟨xs[k], List.getElem?_eq_getElem hlt⟩
      obtain ⟨x0, x1⟩ := Hb.out x (List.mem_of_getElem? hxk)
      obtain ⟨b1, o1, rfl, hb1, hr1⟩ := hx.row (by omega)
      have p0 := hr1 k x hxk
      have Hnx := Lib.hid (Fares.sumI_next hxk)
      clear hxk hr1
      have i0 : (0 : Int) ≤ (k : Int) := by omega
      have i1 : (k : Int) < (xs.length : Int) := by omega
      go_wp2
      go_round
      case rel => exact ⟨k + 1, s + x, by omega, by go_num, by go_num, by omega, by push_cast; omega, by rw [Hnx.out, ← Hs.out]⟩
      case measure => simp [intOf]; omega
    · go_wp2
      go_ret
      exact ⟨ret_int (by have := Hs.out; rw [List.take_of_length_le (by omega)] at this; exact this), rfl⟩
set_option maxRecDepth 100000 in
set_option maxHeartbeats 1000000 in
theorem specsum_any (A : Option Addr) (n c : Nat) (xs : List Int) (M : Int) (w : World) (hx : Ints w w.heap.size A xs) (hn : xs.length = n) (hl : n ≤ 1000000) (hM : M ≤ 1000000000) (hb : ∀ x ∈ xs, 0 ≤ x ∧ x ≤ M) :
    Calls Try.prog 43 #[.slice A n c] w fun e w' => e = .returned (.int .i64 (Fares.sumI xs)) ∧ w = w' := by
  subst hn
  have Hb := Lib.hid hb; clear hb
  go_enter Try.func43, Try.ntmps43
  go_wp2
  go_loop [4, 3] (fun i v => ∃ (k : Nat) (s : Int), k ≤ xs.length ∧ i = .int .i64 k ∧ v = .int .i64 s ∧ 0 ≤ s ∧ s ≤ 1000000000 * k ∧ s = Fares.sumI (xs.take k)) (fun i _ => xs.length - (intOf i).toNat)
  case atStart => exact ⟨0, 0, Nat.zero_le _, rfl, rfl, by omega, by omega, by simp [Fares.sumI]⟩
  case round =>
    obtain ⟨k, s, hk, rfl, rfl, s0, s1, hs⟩ := hrel
    have Hs := Lib.hid hs; clear hs
    by_cases hlt : k < xs.length
    · obtain ⟨x, hxk⟩ : ∃ x, xs[k]? = some x := ⟨xs[k], List.getElem?_eq_getElem hlt⟩
      obtain ⟨x0, x1⟩ := Hb.out x (List.mem_of_getElem? hxk)
      obtain ⟨b1, o1, rfl, hb1, hr1⟩ := hx.row (by omega)
      have p0 := hr1 k x hxk
      have Hnx := Lib.hid (Fares.sumI_next hxk)
      clear hxk hr1
      have i0 : (0 : Int) ≤ (k : Int) := by omega
      have i1 : (k : Int) < (xs.length : Int) := by omega
      go_wp2
      go_round
      case rel => exact ⟨k + 1, s + x, by omega, by go_num, by go_num, by omega, by push_cast; omega, by rw [Hnx.out, ← Hs.out]⟩
      case measure => simp [intOf]; omega
    · go_wp2
      go_ret
      exact ⟨ret_int (by have := Hs.out; rw [List.take_of_length_le (by omega)] at this; exact this), rfl⟩
end Go.Proofs.Ytgecgjndbaeahaa
