/-
  The reader of drawn numbers, told by one word 'Rd': where its block lies, how far it has come; contracts of newReader, pick and one.
-/
import Derived.Test.YtllhjgheffemnaaPick
import Derived.WalkSpells
set_option linter.unusedSimpArgs false
namespace Go.Proofs.Ytllhjgheffemnaa
open Go.RowKit
set_option linter.unusedVariables false

/-- Block g is a reader at position p over bytes that lie below it. -/
def Rd (w : World) (g p : Nat) : Prop :=
  ∃ (A : Option Addr) (n c : Nat) (xs : List Int), Blk w g 68 #[.slice A n c, .int .i64 p] ∧ n ≤ 2000 ∧ xs.length = n ∧ (∀ x ∈ xs, 0 ≤ x ∧ x < 256) ∧ Reads w g A (xs.map (Value.int .u8))

theorem Rd.below {w w' : World} {g p : Nat} (h : Rd w g p) (hb : Below (g + 1) w w') : Rd w' g p := by
  obtain ⟨A, n, c, xs, h1, h2, h3, h4, h5⟩ := h
  exact ⟨A, n, c, xs, h1.below hb (by omega), h2, h3, h4, h5.below hb (by omega)⟩
theorem Rd.lt {w : World} {g p : Nat} (h : Rd w g p) : g < w.heap.size := by
  obtain ⟨A, n, c, xs, h1, _⟩ := h
  exact h1.lt
theorem Rd.alloc {w : World} {g p : Nat} (h : Rd w g p) (o : Obj) : Rd (w.alloc o) g p :=
  h.below ((Below.refl _ _).alloc h.lt o)
theorem Rd.drewN {w : World} {g p : Nat} (h : Rd w g p) (n : Nat) : Rd (w.drewN n) g p := h

theorem pick_any (g p : Nat) (m : Int) (w : World) (hr : Rd w g p) (hp : p ≤ 100000) :
    Calls Try.prog 51 #[.pointer (some ⟨g, 0, none⟩), .int .i64 m] w fun e w' => ∃ k : Int, e = .returned (.int .i64 k) ∧ 0 ≤ k ∧ (1 ≤ m → k < m) ∧ Rd w' g (p + 1) ∧ w.grownBy w' (some g) := by
  obtain ⟨A, n, c, xs, hb, hn, hl, hx, hrd⟩ := hr
  have h0 : w.cell? ⟨g, 0, none⟩ = some (.slice A n c) := hb.cell 0
  have h1 : w.cell? ⟨g, 1, none⟩ = some (.int .i64 p) := hb.cell 1
  have hf := hb.free 1
  have fin : ∀ d, Rd ((w.setCell ⟨g, 1, none⟩ (.int .i64 ((p : Int) + 1))).drewN d) g (p + 1) := fun d =>
    ⟨A, n, c, xs, (hb.put 1 _).drewN d, hn, hl, hx, (hrd.setCell (p := ⟨g, 1, none⟩) (Nat.le_refl g) _).drewN d⟩
  have fing : ∀ d, w.grownBy ((w.setCell ⟨g, 1, none⟩ (.int .i64 ((p : Int) + 1))).drewN d) (some g) := fun d => grown_drewN (grown_setCell (grown_refl w _) (p := ⟨g, 1, none⟩) (.inl rfl) _) d
  by_cases hm : m < 1
  · refine (pick_low g A n c p m w hm hp h0 h1 hf).mono ?_
    rintro e w' ⟨rfl, rfl⟩
    exact ⟨0, rfl, by omega, fun h => by omega, fin 0, fing 0⟩
  · by_cases hn0 : n = 0
    · subst hn0
      refine (pick_none g A c p m w (by omega) hp h0 h1 hf).mono ?_
      rintro e w' ⟨rfl, rfl⟩
      exact ⟨0, rfl, by omega, fun h => by omega, fin 0, fing 0⟩
    · obtain ⟨a, rfl, hag, hc⟩ := hrd (by intro e; apply hn0; rw [← hl]; simpa using congrArg List.length e)
      have at_ : ∀ i, i < n → ∃ x : Int, 0 ≤ x ∧ x < 256 ∧ w.cell? (a.add i) = some (.int .u8 x) := fun i hi => by
        have hi' : i < xs.length := by omega
        have h := hx _ (List.getElem_mem hi')
        exact ⟨xs[i], h.1, h.2, hc i _ (by rw [List.getElem?_map, List.getElem?_eq_getElem hi']; rfl)⟩
      by_cases hlt : p < n
      · obtain ⟨x, x0, x1, hxc⟩ := at_ p hlt
        refine (pick_near g a n c p m x w (by omega) hp hlt hn x0 x1 h0 h1 hf (by omega) hxc).mono ?_
        rintro e w' ⟨rfl, rfl⟩
        exact ⟨_, rfl, Int.emod_nonneg _ (by omega), fun h => Int.emod_lt_of_pos _ (by omega), fin 0, fing 0⟩
      · obtain ⟨x, x0, x1, hxc⟩ := at_ (p % n) (Nat.mod_lt _ (by omega))
        obtain ⟨y, y0, y1, hyc⟩ := at_ ((p * 7 + 3) % n) (Nat.mod_lt _ (by omega))
        refine (pick_far g a n c p m x y w (by omega) hp (by omega) (by omega) hn x0 x1 y0 y1 h0 h1 hf (by omega) hxc hyc).mono ?_
        rintro e w' ⟨k, rfl, k0, k1, d, rfl⟩
        exact ⟨k, rfl, k0, fun _ => k1, fin d, fing d⟩

set_option maxHeartbeats 400000 in
theorem newReader_few (A : Option Addr) (n c : Nat) (w : World) (hn : n ≤ 2000) :
    Calls Try.prog 37 #[.slice A n c] w fun e w' => e = .returned (.pointer (some ⟨w.heap.size, 0, none⟩)) ∧ w.alloc (.cells #[.slice A n c, .int .i64 0] 68) = w' := by
  go_enter Try.func37, Try.ntmps37
  go_wp2
  go_ret
  exact ⟨rfl, rfl⟩

set_option maxHeartbeats 400000 in
theorem newReader_many (a : Addr) (n c : Nat) (w : World) (hn : 2000 < n) (hc : n ≤ c) (hm : c ≤ 9223372036854775807) :
    Calls Try.prog 37 #[.slice (some a) n c] w fun e w' => e = .returned (.pointer (some ⟨w.heap.size, 0, none⟩)) ∧ w.alloc (.cells #[.slice (some a) 2000 c, .int .i64 0] 68) = w' := by
  go_enter Try.func37, Try.ntmps37
  go_wp2
  go_ret
  exact ⟨rfl, rfl⟩

/-- A slice of bytes as it came in: its length, its cells. -/
structure Bytes (w : World) (B : Nat) (A : Option Addr) (n c : Nat) : Prop where
  le : n ≤ c
  cap : c ≤ 9223372036854775807
  reads : ∃ xs : List Int, xs.length = n ∧ (∀ x ∈ xs, 0 ≤ x ∧ x < 256) ∧ Reads w B A (xs.map (Value.int .u8))

theorem newReader_any (A : Option Addr) (n c : Nat) (w : World) (h : Bytes w w.heap.size A n c) :
    Calls Try.prog 37 #[.slice A n c] w fun e w' => e = .returned (.pointer (some ⟨w.heap.size, 0, none⟩)) ∧ Rd w' w.heap.size 0 ∧ Below w.heap.size w w' ∧ w'.heap.size = w.heap.size + 1 := by
  obtain ⟨hc, hm, xs, hl, hx, hr⟩ := h
  have hb : ∀ o, Below w.heap.size w (w.alloc o) := fun o => (Below.refl _ _).alloc (Nat.le_refl _) o
  by_cases hn : n ≤ 2000
  · refine (newReader_few A n c w hn).mono ?_
    rintro e w' ⟨rfl, rfl⟩
    exact ⟨rfl, ⟨A, n, c, xs, Blk.new w _ _, hn, hl, hx, hr.below (hb _) (Nat.le_refl _)⟩, hb _, by simp⟩
  · obtain ⟨a, rfl, ha, hcell⟩ := hr (by intro e; rw [List.map_eq_nil_iff] at e; subst e; simp at hl; omega)
    refine (newReader_many a n c w (by omega) hc hm).mono ?_
    rintro e w' ⟨rfl, rfl⟩
    refine ⟨rfl, ⟨some a, 2000, c, xs.take 2000, Blk.new w _ _, by omega, by simp; omega, fun x h => hx x (List.mem_of_mem_take h), fun _ => ⟨a, rfl, ha, fun i u hu => ?_⟩⟩, hb _, by simp⟩
    rw [List.getElem?_map, List.getElem?_take] at hu
    split at hu
    · rw [(hb _).cell (p := a.add i) (by rw [add_block]; exact ha)]
      exact hcell i u (by rw [List.getElem?_map]; exact hu)
    · simp at hu

set_option maxHeartbeats 400000 in
theorem one_any (g p b n c : Nat) (cs : Array Value) (w : World) (hr : Rd w g p) (hp : p ≤ 100000) (hb : Blk w b 3 cs) (hg : b ≠ g) (hn : cs.size = n) (h1 : 1 ≤ n) (hm : n ≤ 1000) (hc : ∀ i, i < n → ∃ x : Int, cs[i]? = some (.int .i64 x)) :
    Calls Try.prog 53 #[.pointer (some ⟨g, 0, none⟩), .slice (some ⟨b, 0, none⟩) n c] w fun e w' => ∃ (i : Nat) (x : Int), i < n ∧ cs[i]? = some (.int .i64 x) ∧ e = .returned (.int .i64 x) ∧ Rd w' g (p + 1) ∧ w.grownBy w' (some g) := by
  go_enter Try.func53, Try.ntmps53
  go_wp2_with fail
  refine (pick_any g p n w hr hp).mono ?_
  rintro e w1 ⟨k, rfl, k0, k1, hr1, hg1⟩
  obtain ⟨i, rfl⟩ := Int.eq_ofNat_of_zero_le k0
  have hi : i < n := by have := k1 (by omega); omega
  clear k1
  obtain ⟨x, hx⟩ := hc i hi
  have hcell : w1.cell? ⟨b, i, none⟩ = some (.int .i64 x) := by rw [(hb.grown hg1 (by intro h; injection h; omega)).cell]; exact hx
  have HX := Lib.hid hx
  clear hx
  go_wp2
  go_ret
  exact ⟨i, x, hi, HX.out, rfl, hr1, hg1⟩
end Go.Proofs.Ytllhjgheffemnaa
