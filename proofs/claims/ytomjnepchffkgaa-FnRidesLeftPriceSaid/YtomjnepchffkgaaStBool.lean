/-
  Slices of bools: their cells, and what the laws' helpers do with them.
-/
import Derived.Test.YtomjnepchffkgaaTypes
import Derived.Test.YtomjnepchffkgaaOpen
import Derived.Test.YtomjnepchffkgaaBasic
import Derived.WalkKit
import Derived.WalkSpells
import Derived.WalkLawsBesides
import Derived.Deep.QuietTactic
import Derived.BigQuiet
import Derived.StillTailTactics
import Derived.Laws.MakeOwn
set_option linter.unusedSimpArgs false
namespace Go.Proofs.Ytomjnepchffkgaa
open Go.ChangeShapes Go.WideShapes Go.ChangeAt Go.RowKit Go.Deep
set_option linter.unusedVariables false

def boolCells (t : Bool) : List Value := [.bool t]
theorem flat_bools (xs : List Bool) : xs.flatMap boolCells = xs.map Value.bool := by
  induction xs with
  | nil => rfl
  | cons x r ih => simp [boolCells, ih]
/-- The slice at A holds xs. -/
def Bools (w : World) (B : Nat) (A : Option Addr) (xs : List Bool) : Prop := Reads w B A (xs.flatMap boolCells)
theorem Bools.row {w : World} {B : Nat} {A : Option Addr} {xs : List Bool} (h : Bools w B A xs) (hn : 0 < xs.length) :
    ∃ b o, A = some ⟨b, o, none⟩ ∧ b < B ∧ ∀ k t, xs[k]? = some t → w.cell? ⟨b, o + k, none⟩ = some (.bool t) := by
  unfold Bools at h
  rw [flat_bools] at h
  obtain ⟨b, o, e, hb, hr⟩ := Reads.row h (by intro e; rw [List.map_eq_nil_iff] at e; subst e; simp at hn)
  exact ⟨b, o, e, hb, fun k t hk => hr k _ (by rw [List.getElem?_map, hk]; rfl)⟩
theorem Bools.below {w w' : World} {B B' : Nat} {A : Option Addr} {xs : List Bool} (h : Bools w B A xs) (hb : Below B' w w') (hB : B ≤ B') : Bools w' B A xs := Reads.below h hb hB
theorem Bools.of {w : World} {g N : Nat} {t : TypeId} {xs : List Bool} (h : Starts w g t N (xs.flatMap boolCells)) : Bools w w.heap.size (some ⟨g, 0, none⟩) xs := h.reads
theorem Bools.more {w : World} {B B' : Nat} {A : Option Addr} {xs : List Bool} (h : Bools w B A xs) (hB : B ≤ B') : Bools w B' A xs := Reads.more h hB
theorem Bools.take {w : World} {B : Nat} {A : Option Addr} {xs : List Bool} (h : Bools w B A xs) (k : Nat) : Bools w B A (xs.take k) := fun hne => by
  unfold Bools at h
  rw [flat_bools] at h hne ⊢
  obtain ⟨a, e, hb, hc⟩ := h (by intro e; rw [List.map_eq_nil_iff] at e; subst e; simp at hne)
  refine ⟨a, e, hb, fun i u hu => hc i u ?_⟩
  rw [List.map_take, List.getElem?_take] at hu
  split at hu
  · exact hu
  · cases hu

/-- The slice value v owns the elements ys, in blocks from base on. -/
def OwnBools (w : World) (base : Nat) (v : Value) (ys : List Bool) : Prop := w.ownsRow base 4 1 v ys.length (ys.flatMap boolCells)
theorem OwnBools.snoc {w : World} {base g cap : Nat} {ys : List Bool} {x : Bool}
    (h : w.ownsRow base 4 1 (.slice (some ⟨g, 0, none⟩) (ys.length + 1) cap) (ys.length + 1) (ys.flatMap boolCells ++ boolCells x)) : OwnBools w base (.slice (some ⟨g, 0, none⟩) (ys.length + 1) cap) (ys ++ [x]) := by
  unfold OwnBools
  simpa using h
theorem OwnBools.none_ (w : World) (base : Nat) : OwnBools w base (.slice none 0 0) [] := World.ownsRow_nil _ _ _ _
theorem OwnBools.form {w : World} {base : Nat} {v : Value} {ys : List Bool} (h : OwnBools w base v ys) :
    ∃ (A : Option Addr) (c : Nat), v = .slice A ys.length c ∧ ys.length ≤ c ∧ c ≤ maxLen ∧ Bools w w.heap.size A ys := by
  rcases h.2 with ⟨rfl, h0⟩ | ⟨g, cap, cur, rfl, hb, hh, hn, hm, hs, ht⟩
  · have : ys = [] := List.eq_nil_of_length_eq_zero h0
    subst this
    exact ⟨none, 0, rfl, Nat.le_refl _, Nat.zero_le _, Reads.nil _ _ _⟩
  · refine ⟨_, _, rfl, hn, hm, fun hne => ⟨_, rfl, ?_, World.ownsRow.cells h (g := g) rfl⟩⟩
    exact (World.ownsRow.lt h g rfl).2
theorem OwnBools.kept {w w' : World} {base : Nat} {v : Value} {ys : List Bool} {row : Option Nat} (h : OwnBools w base v ys) (hg : w.grownBy w' row) (hne : v.ownBlock = none ∨ v.ownBlock ≠ row) : OwnBools w' base v ys :=
  World.ownsRow.kept h hg hne
theorem OwnBools.below {w w' : World} {base : Nat} {v : Value} {ys : List Bool} (h : OwnBools w base v ys) (hb : Below w.heap.size w w') : OwnBools w' base v ys := own_below h hb
theorem OwnBools.of_starts {w : World} {g cap base : Nat} {ys : List Bool} (h : Starts w g 4 cap (ys.flatMap boolCells)) (hn : ys.length ≤ cap) (hm : cap ≤ maxLen) (hb : base ≤ g) : OwnBools w base (.slice (some ⟨g, 0, none⟩) ys.length cap) ys :=
  own_of_starts (by rwa [Nat.mul_one]) (by rw [flat_bools]; simp) hn hm hb

set_option maxRecDepth 100000 in
set_option maxHeartbeats 1000000 in
theorem eqBoolS_any (A B : Option Addr) (n m c d : Nat) (xs ys : List Bool) (w : World) (hx : Bools w w.heap.size A xs) (hy : Bools w w.heap.size B ys) (hxn : xs.length = n) (hym : ys.length = m) (hl : n ≤ 1000000000) (hl' : m ≤ 1000000000) :
    Calls Try.prog 21 #[.slice A n c, .slice B m d] w fun e w' => e = .returned (.bool (decide (xs = ys))) ∧ Below w.heap.size w w' := by
  subst hxn
  subst hym
  by_cases hlen : xs.length = ys.length
  · have hne : ((xs.length : Int) != (ys.length : Int)) = false := by simp [hlen]
    have H := Lib.hid hlen; clear hlen
    go_enter Try.func21, Try.ntmps21
    go_wp2
    go_loopw [5] (fun i wr => ∃ k : Nat, k ≤ xs.length ∧ i = .int .i64 k ∧ Below w.heap.size w wr ∧ xs.take k = ys.take k) (fun i _ => xs.length - (intOf i).toNat)
    case atStart => exact ⟨0, Nat.zero_le _, rfl, Below.refl _ _, by simp⟩
    case round =>
      obtain ⟨k, hk, rfl, hb, he⟩ := hrel
      have He := Lib.hid he; clear he
      by_cases hlt : k < xs.length
      · obtain ⟨x, hxk⟩ : ∃ x, xs[k]? = some x := ⟨xs[k], List.getElem?_eq_getElem hlt⟩
        obtain ⟨y, hyk⟩ : ∃ y, ys[k]? = some y := ⟨ys[k]'(by have := H.out; omega), List.getElem?_eq_getElem (by have := H.out; omega)⟩
        obtain ⟨b1, o1, rfl, hb1, hr1⟩ := hx.row (by omega)
        have hlt2 : k < ys.length := by have := H.out; omega
        obtain ⟨b2, o2, rfl, hb2, hr2⟩ := hy.row (by omega)
        have p0 := (hb.cell (p := ⟨b1, o1 + k, none⟩) hb1).trans (hr1 k x hxk)
        have q0 := (hb.cell (p := ⟨b2, o2 + k, none⟩) hb2).trans (hr2 k y hyk)
        have Hx := Lib.hid hxk; clear hxk
        have Hy := Lib.hid hyk; clear hyk
        clear hr1 hr2 hx hy
        have i0 : (0 : Int) ≤ (k : Int) := by omega
        have i1 : (k : Int) < (xs.length : Int) := by omega
        have i2 : (k : Int) < (ys.length : Int) := by omega
        cases x
        · cases y
          · go_wp2
            go_quiet (fail)
            go_wp2
            go_roundw
            case rel => exact ⟨k + 1, by omega, by go_num, (by repeat (first | exact hb | exact Below.refl _ _ | refine bA ?_ _ | refine bD ?_ _ | refine bD1 ?_ | refine bS ?_ (by simp) _)), by rw [take_next Hx.out, take_next Hy.out, He.out]⟩
            case measure => simp [intOf]; omega
          · go_wp2
            go_quiet (fail)
            go_wp2
            go_ret
            exact ⟨ret_bool (by
              have h1 := Hx.out
              have h2 := Hy.out
              simp only [Bool.false_eq, decide_eq_false_iff_not]
              intro e
              rw [e, h2] at h1
              cases h1), (by repeat (first | exact hb | exact Below.refl _ _ | refine bA ?_ _ | refine bD ?_ _ | refine bD1 ?_ | refine bS ?_ (by simp) _))⟩
        · cases y
          · go_wp2
            go_quiet (fail)
            go_wp2
            go_ret
            exact ⟨ret_bool (by
              have h1 := Hx.out
              have h2 := Hy.out
              simp only [Bool.false_eq, decide_eq_false_iff_not]
              intro e
              rw [e, h2] at h1
              cases h1), (by repeat (first | exact hb | exact Below.refl _ _ | refine bA ?_ _ | refine bD ?_ _ | refine bD1 ?_ | refine bS ?_ (by simp) _))⟩
          · go_wp2
            go_quiet (fail)
            go_wp2
            go_roundw
            case rel => exact ⟨k + 1, by omega, by go_num, (by repeat (first | exact hb | exact Below.refl _ _ | refine bA ?_ _ | refine bD ?_ _ | refine bD1 ?_ | refine bS ?_ (by simp) _)), by rw [take_next Hx.out, take_next Hy.out, He.out]⟩
            case measure => simp [intOf]; omega
      · go_wp2
        go_ret
        exact ⟨ret_bool (by
          have h1 : xs.take k = xs := List.take_of_length_le (by omega)
          have h2 : ys.take k = ys := List.take_of_length_le (by have := H.out; omega)
          have := He.out
          rw [h1, h2] at this
          simp [this]), hb⟩
  · have hne : ((xs.length : Int) != (ys.length : Int)) = true := by rw [bne_iff_ne]; omega
    go_enter Try.func21, Try.ntmps21
    go_wp2
    go_ret
    exact ⟨ret_bool (by simp; intro e; exact hlen (by rw [e])), (by repeat (first | exact Below.refl _ _ | refine bA ?_ _ | refine bD ?_ _ | refine bD1 ?_ | refine bS ?_ (by simp) _))⟩
theorem info_bool : (Try.prog.info? 4).map (fun i => (i.zero, i.size, i.bytes)) = some (some (.bool false), 1, 1) := by kernel_rfl
set_option maxRecDepth 100000 in
set_option maxHeartbeats 2000000 in
theorem toBoolS_any (A : Option Addr) (n c : Nat) (xs : List Bool) (w : World) (hx : Bools w w.heap.size A xs) (hxn : xs.length = n) (hl : n ≤ 1048576) :
    Calls Try.prog 20 #[.slice A n c] w fun e w' => e = .returned (.slice (some ⟨w.heap.size, 0, none⟩) n n) ∧ Starts w' w.heap.size 4 (n * 1) (xs.flatMap boolCells) ∧ Below w.heap.size w w' := by
  subst hxn
  rw [Nat.mul_one]
  obtain ⟨Z, hZ, hmk⟩ := run_make_n (P := Try.prog) 23 4 _ 1 1 Try.underlying23 info_bool xs.length (by omega) (by omega)
  have HZ := Lib.hid hZ; clear hZ
  go_enter Try.func20, Try.ntmps20
  go_wp2
  clear hmk
  go_loopw [4] (fun i wr => ∃ k : Nat, k ≤ xs.length ∧ i = .int .i64 k ∧ Below w.heap.size w wr ∧ Starts wr w.heap.size 4 xs.length ((xs.take k).flatMap boolCells)) (fun i _ => xs.length - (intOf i).toNat)
  case atStart => exact ⟨0, Nat.zero_le _, rfl, bA (Below.refl _ _) _, Z, Blk.new _ _ _, by have := HZ.out; omega, by simp⟩
  case round =>
    obtain ⟨k, hk, rfl, hb, hst⟩ := hrel
    have hs1 : w.heap.size < wr.heap.size := hst.lt
    by_cases hlt : k < xs.length
    · obtain ⟨x, hxk⟩ : ∃ x, xs[k]? = some x := ⟨xs[k], List.getElem?_eq_getElem hlt⟩
      obtain ⟨b1, o1, rfl, hb1, hr1⟩ := hx.row (by omega)
      have p0 := (hb.cell (p := ⟨b1, o1 + k, none⟩) hb1).trans (hr1 k x hxk)
      have Hx := Lib.hid hxk; clear hxk
      clear hr1 hx
      obtain ⟨u0, q0⟩ := hst.there (i := k) (by omega)
      have e0 := hst.free k
      have Hst := Lib.hid hst; clear hst
      have i0 : (0 : Int) ≤ (k : Int) := by omega
      have i1 : (k : Int) < (xs.length : Int) := by omega
      go_wp2
      go_roundw
      case rel => exact ⟨k + 1, by omega, by go_num, below_setCells (Nat.le_refl _) (boolCells x) wr k hb, by have := Hst.out.next boolCells 1 (fun _ => rfl) Hx.out (by omega); rwa [Nat.mul_one] at this⟩
      case measure => simp [intOf]; omega
    · go_wp2
      go_ret
      exact ⟨rfl, by rwa [List.take_of_length_le (by omega)] at hst, hb⟩
set_option maxRecDepth 100000 in
theorem bools_open {H : Type} {enc : TypeId × Value → H} {w : World} {base : Nat} {spare : Nat → Bool} {held : Bool} {r : Reach} {b0 : Nat} {v : Value} {d : DataW H} {p : List MemPlace}
    (hv : Value.okWide Try.prog w r b0 23 v) (h : DataW.Trod enc Try.prog w base spare held 23 v d p) :
    ∃ (A : Option Addr) (n c : Nat) (xs : List Bool), v = .slice A n c ∧ xs.length = n ∧ n ≤ maxLen ∧ Bools w w.heap.size A xs := by
  obtain ⟨A, n, c, rfl⟩ := okWide_slice Try.underlying23 hv
  obtain ⟨fuel, hf⟩ := h
  obtain ⟨h1, h2, xs, h3, h4, h5⟩ := reads_of_slice boolCells 1 (fun _ => rfl) (by omega) (fun _ => True) Try.underlying23 (by kernel_rfl) (fun n cs y h => by
    obtain ⟨a, e, _⟩ := DataW.trod_bool Try.underlying4 h
    exact ⟨a, e, trivial⟩) hf
  exact ⟨A, n, c, xs, rfl, h3, Nat.le_trans h1 h2, h5⟩
end Go.Proofs.Ytomjnepchffkgaa
