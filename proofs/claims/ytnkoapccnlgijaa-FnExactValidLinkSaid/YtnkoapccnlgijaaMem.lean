/-
  Words for memory: a slice that reads as a list of cells; a block that is known whole; what one block's turning leaves. Plain lemmas on worlds; nothing of the program.
-/
import Derived.Below
import Derived.Laws.OwnMore
import Derived.Deep.Draws
import Derived.Laws.Rows
import Derived.Lib.Hide
import Derived.Deep.MidRow
import Derived.Laws.MakeOwn
import Derived.WalkKit
set_option linter.unusedSimpArgs false
set_option linter.unusedVariables false
namespace Go.Proofs.Ytnkoapccnlgijaa
open Go.RowKit

theorem ret_int {k : IntKind} {a b : Int} (h : a = b) : Ending.returned (.int k a) = .returned (.int k b) := by rw [h]
theorem ret_bool {a b : Bool} (h : a = b) : Ending.returned (.bool a) = .returned (.bool b) := by rw [h]
theorem add_block (a : Addr) (i : Nat) : (a.add i).block = a.block := by unfold Addr.add; split <;> rfl
theorem add_add' (a : Addr) (i j : Nat) : (a.add i).add j = a.add (i + j) := by
  unfold Addr.add
  by_cases hi : i = 0 <;> by_cases hj : j = 0 <;> simp [hi, hj, Nat.add_assoc]

/-- The cells behind the address A, below block B, are vs. -/
def Reads (w : World) (B : Nat) (A : Option Addr) (vs : List Value) : Prop :=
  vs ≠ [] → ∃ a, A = some a ∧ a.block < B ∧ ∀ i u, vs[i]? = some u → w.cell? (a.add i) = some u

theorem Reads.nil (w : World) (B : Nat) (A : Option Addr) : Reads w B A [] := fun h => absurd rfl h
theorem Reads.keep {w w' : World} {B : Nat} {A : Option Addr} {vs : List Value} (h : Reads w B A vs) (hk : ∀ p : Addr, p.block < B → w'.cell? p = w.cell? p) : Reads w' B A vs := fun hn => by
  obtain ⟨a, e, hb, hc⟩ := h hn
  exact ⟨a, e, hb, fun i u hu => (hk _ (by rw [add_block]; exact hb)).trans (hc i u hu)⟩
theorem Reads.more {w : World} {B B' : Nat} {A : Option Addr} {vs : List Value} (h : Reads w B A vs) (hB : B ≤ B') : Reads w B' A vs := fun hn => by
  obtain ⟨a, e, hb, hc⟩ := h hn
  exact ⟨a, e, by omega, hc⟩
theorem Reads.below {w w' : World} {B B' : Nat} {A : Option Addr} {vs : List Value} (h : Reads w B A vs) (hb : Below B' w w') (hB : B ≤ B') : Reads w' B A vs :=
  h.keep fun _ hp => hb.cell (by omega)
theorem Reads.setCell {w : World} {B : Nat} {A : Option Addr} {vs : List Value} (h : Reads w B A vs) {p : Addr} (hB : B ≤ p.block) (u : Value) : Reads (w.setCell p u) B A vs :=
  h.keep fun q hq => World.cell?_setCell_other w p q u (fun e => by subst e; omega)
theorem Reads.alloc {w : World} {B : Nat} {A : Option Addr} {vs : List Value} (h : Reads w B A vs) (hB : B ≤ w.heap.size) (o : Obj) : Reads (w.alloc o) B A vs :=
  h.keep fun p hp => World.cell?_alloc_lt w o p (by omega)

theorem below_drewN {B : Nat} {a w : World} (h : Below B a w) (n : Nat) : Below B a (w.drewN n) := ⟨h.os, h.tape, h.output, h.size, h.block⟩
theorem Reads.drewN {w : World} {B : Nat} {A : Option Addr} {vs : List Value} (h : Reads w B A vs) (n : Nat) : Reads (w.drewN n) B A vs := h

/-- Block g is just the cells cs of element type t, none of them frozen. -/
def Blk (w : World) (g : Nat) (t : TypeId) (cs : Array Value) : Prop := w.heap[g]? = some (.cells cs t (0, 0))

section
variable {w w' : World} {g : Nat} {t : TypeId} {cs : Array Value}
theorem Blk.lt (h : Blk w g t cs) : g < w.heap.size := by
  unfold Blk at h
  by_cases hl : g < w.heap.size
  · exact hl
  · rw [Array.getElem?_eq_none (by omega)] at h; cases h
theorem Blk.cell (h : Blk w g t cs) (i : Nat) : w.cell? ⟨g, i, none⟩ = cs[i]? := cell_of_row w g i cs t (0, 0) h
theorem Blk.free (h : Blk w g t cs) (i : Nat) : w.frozen? ⟨g, i, none⟩ = false := by
  unfold Blk at h
  simp [World.frozen?, h]
theorem Blk.new (w : World) (t : TypeId) (cs : Array Value) : Blk (w.alloc (.cells cs t)) w.heap.size t cs := heap_alloc_new w _
theorem Blk.drewN (h : Blk w g t cs) (n : Nat) : Blk (w.drewN n) g t cs := h
theorem Blk.alloc (h : Blk w g t cs) (o : Obj) : Blk (w.alloc o) g t cs := (Below.heap_alloc w o g h.lt).trans h
theorem Blk.put (h : Blk w g t cs) (i : Nat) (u : Value) : Blk (w.setCell ⟨g, i, none⟩ u) g t (cs.setIfInBounds i u) := by
  unfold Blk at h ⊢
  simp [World.setCell, Array.getElem?_modify, h]
theorem Blk.far (h : Blk w g t cs) {p : Addr} (hp : g ≠ p.block) (u : Value) : Blk (w.setCell p u) g t cs := (Below.heap_setCell w p u g hp).trans h
theorem Blk.below {B : Nat} (h : Blk w g t cs) (hb : Below B w w') (hg : g < B) : Blk w' g t cs := (hb.block g hg).trans h
theorem Blk.grown {row : Option Nat} (h : Blk w g t cs) (hb : w.grownBy w' row) (hg : some g ≠ row) : Blk w' g t cs := (hb.block g h.lt hg).trans h
end

theorem grown_drewN {a w : World} {row : Option Nat} (h : a.grownBy w row) (n : Nat) : a.grownBy (w.drewN n) row := ⟨h.os, h.tape, h.output, h.size, h.block⟩
theorem grown_alloc {a w : World} {row : Option Nat} (h : a.grownBy w row) (o : Obj) : a.grownBy (w.alloc o) row :=
  ⟨h.os, h.tape, h.output, Nat.le_trans h.size (by simp), fun i hi hne => (Below.heap_alloc w o i (Nat.lt_of_lt_of_le hi h.size)).trans (h.block i hi hne)⟩
theorem grown_setCell {a w : World} {g : Nat} (h : a.grownBy w (some g)) {p : Addr} (hp : p.block = g ∨ a.heap.size ≤ p.block) (u : Value) : a.grownBy (w.setCell p u) (some g) :=
  ⟨h.os, h.tape, h.output, by simpa [World.setCell] using h.size, fun i hi hne => (Below.heap_setCell w p u i (by
    rintro rfl
    rcases hp with hp | hp
    · exact hne (by rw [hp])
    · omega)).trans (h.block i hi hne)⟩
theorem grown_of_below {a w : World} (h : Below a.heap.size a w) (row : Option Nat) : a.grownBy w row := ⟨h.os, h.tape, h.output, h.size, fun i hi _ => h.block i hi⟩
theorem grown_trans {a b c : World} {row : Option Nat} (h : a.grownBy b row) (k : b.grownBy c row) : a.grownBy c row :=
  ⟨k.os.trans h.os, k.tape.trans h.tape, k.output.trans h.output, Nat.le_trans h.size k.size, fun i hi hne => (k.block i (Nat.lt_of_lt_of_le hi h.size) hne).trans (h.block i hi hne)⟩
theorem cell_grown {w w' : World} {row : Option Nat} (hg : w.grownBy w' row) {p : Addr} (hp : p.block < w.heap.size) (hne : some p.block ≠ row) : w'.cell? p = w.cell? p := by
  unfold World.cell?
  rw [hg.block p.block hp hne]
theorem grown_refl (a : World) (row : Option Nat) : a.grownBy a row := ⟨rfl, rfl, rfl, Nat.le_refl _, fun _ _ _ => rfl⟩
/-- What only turned block g, at least B, is below B as it was. -/
theorem below_of_grown {a w : World} {g B : Nat} (h : a.grownBy w (some g)) (hB : B ≤ a.heap.size) (hg : B ≤ g) : Below B a w :=
  ⟨h.os, h.tape, h.output, h.size, fun k hk => h.block k (by omega) (fun e => by injection e; omega)⟩

/-! Steps of 'Below' at the world's own size. -/
theorem bA {a w : World} (h : Below a.heap.size a w) (o : Obj) : Below a.heap.size a (w.alloc o) := h.alloc h.size o
theorem bD {a w : World} {B : Nat} (h : Below B a w) (n : Nat) : Below B a (w.drewN n) := below_drewN h n
theorem bD1 {a w : World} {B : Nat} (h : Below B a w) : Below B a w.drew := ⟨h.os, h.tape, h.output, h.size, h.block⟩
theorem bS {a w : World} (h : Below a.heap.size a w) {p : Addr} (hp : a.heap.size ≤ p.block) (u : Value) : Below a.heap.size a (w.setCell p u) := h.setCell hp u
theorem bT {a b c : World} (h : Below a.heap.size a b) (k : Below b.heap.size b c) : Below a.heap.size a c := h.trans (k.mono h.size)

theorem flat_get {T : Type} (f : T → List Value) (s : Nat) (hf : ∀ x, (f x).length = s) : ∀ (xs : List T) (k j : Nat), j < s → (xs.flatMap f)[k * s + j]? = (xs[k]?).bind fun x => (f x)[j]?
  | [], k, j, h => by simp
  | x :: xs, 0, j, h => by simp [List.getElem?_append, hf, h]
  | x :: xs, k + 1, j, h => by
    have e : (k + 1) * s + j - s = k * s + j := by rw [Nat.succ_mul]; omega
    have hn : ¬ ((k + 1) * s + j < s) := by rw [Nat.succ_mul]; omega
    simp only [List.flatMap_cons, List.getElem?_append, hf, hn, if_false, e, List.getElem?_cons_succ]
    exact flat_get f s hf xs k j h

theorem spot_none {w : World} {a : Addr} {v : Value} (h : w.cell? a = some v) : a.spot = none := by
  unfold World.cell? at h
  split at h
  · split at h
    · cases h
    · rename_i hs; simpa using hs
  · cases h
/-- Cells from offset o of block b on. -/
def Row (w : World) (b o : Nat) (vs : List Value) : Prop := ∀ i u, vs[i]? = some u → w.cell? ⟨b, o + i, none⟩ = some u

theorem Reads.row {w : World} {B : Nat} {A : Option Addr} {vs : List Value} (h : Reads w B A vs) (hn : vs ≠ []) : ∃ b o, A = some ⟨b, o, none⟩ ∧ b < B ∧ Row w b o vs := by
  obtain ⟨a, e, hb, hc⟩ := h hn
  have h0 : w.cell? a = some (vs[0]'(List.length_pos_iff.2 hn)) := by
    have := hc 0 _ (List.getElem?_eq_getElem (List.length_pos_iff.2 hn))
    simpa [Addr.add] using this
  have hs := spot_none h0
  obtain ⟨b, o, s⟩ := a
  simp only at hs
  subst hs
  exact ⟨b, o, e, hb, fun i u hu => by rw [← Addr.add_mid]; exact hc i u hu⟩

theorem take_next {T : Type} {xs : List T} {k : Nat} {x : T} (h : xs[k]? = some x) : xs.take (k + 1) = xs.take k ++ [x] := by
  rw [List.take_add_one, h]; rfl

/-- Block g is a row of n cells whose first ones are vs. -/
def Starts (w : World) (g : Nat) (t : TypeId) (n : Nat) (vs : List Value) : Prop := ∃ cs : Array Value, Blk w g t cs ∧ cs.size = n ∧ ∀ (i : Nat) (u : Value), vs[i]? = some u → cs[i]? = some u

theorem Blk.there {w : World} {g : Nat} {t : TypeId} {cs : Array Value} (h : Blk w g t cs) {i : Nat} (hi : i < cs.size) : ∃ u, w.cell? ⟨g, i, none⟩ = some u :=
  ⟨cs[i], by rw [h.cell, Array.getElem?_eq_getElem hi]⟩

/-- The next element's cells are put behind those of the first k. -/
theorem put_list {T : Type} (f : T → List Value) (s : Nat) (hf : ∀ x, (f x).length = s) {xs : List T} {k : Nat} {x : T} {cs cs' : Array Value} (hx : xs[k]? = some x)
    (h : ∀ (i : Nat) (u : Value), ((xs.take k).flatMap f)[i]? = some u → cs[i]? = some u) (hlow : ∀ i, i < k * s → cs'[i]? = cs[i]?) (hnew : ∀ (j : Nat) (u : Value), (f x)[j]? = some u → cs'[k * s + j]? = some u) :
    ∀ (i : Nat) (u : Value), ((xs.take (k + 1)).flatMap f)[i]? = some u → cs'[i]? = some u := by
  intro i u hu
  have hl : ((xs.take k).flatMap f).length = k * s := by
    have hk : k ≤ xs.length := by
      rcases Nat.lt_or_ge k xs.length with h | h
      · omega
      · rw [List.getElem?_eq_none h] at hx; cases hx
    have hg : ∀ ys : List T, (ys.flatMap f).length = ys.length * s := by
      intro ys
      induction ys with
      | nil => simp
      | cons y ys ih => simp [ih, hf, Nat.succ_mul]; omega
    rw [hg, List.length_take, Nat.min_eq_left hk]
  rw [take_next hx, List.flatMap_append, List.getElem?_append] at hu
  split at hu
  · rename_i hi
    rw [hlow i (by omega)]
    exact h i u hu
  · rename_i hi
    have := hnew (i - k * s) u (by simpa [hl] using hu)
    rwa [show k * s + (i - k * s) = i by omega] at this


theorem Starts.none_ {w : World} {g : Nat} {t : TypeId} {n : Nat} {vs : List Value} (h : Starts w g t n vs) : Starts w g t n [] := by
  obtain ⟨cs, h1, h2, _⟩ := h
  exact ⟨cs, h1, h2, by simp⟩
theorem Starts.there {w : World} {g : Nat} {t : TypeId} {n : Nat} {vs : List Value} (h : Starts w g t n vs) {i : Nat} (hi : i < n) : ∃ u, w.cell? ⟨g, i, none⟩ = some u := by
  obtain ⟨cs, h1, h2, _⟩ := h
  exact h1.there (by omega)
theorem Starts.free {w : World} {g : Nat} {t : TypeId} {n : Nat} {vs : List Value} (h : Starts w g t n vs) (i : Nat) : w.frozen? ⟨g, i, none⟩ = false := by
  obtain ⟨cs, h1, h2, _⟩ := h
  exact h1.free i
theorem Starts.lt {w : World} {g : Nat} {t : TypeId} {n : Nat} {vs : List Value} (h : Starts w g t n vs) : g < w.heap.size := by
  obtain ⟨cs, h1, h2, _⟩ := h
  exact h1.lt
theorem Starts.below {w w' : World} {B g : Nat} {t : TypeId} {n : Nat} {vs : List Value} (h : Starts w g t n vs) (hb : Below B w w') (hg : g < B) : Starts w' g t n vs := by
  obtain ⟨cs, h1, h2, h3⟩ := h
  exact ⟨cs, h1.below hb hg, h2, h3⟩
theorem Starts.grown {w w' : World} {g : Nat} {t : TypeId} {n : Nat} {vs : List Value} {row : Option Nat} (h : Starts w g t n vs) (hb : w.grownBy w' row) (hg : some g ≠ row) : Starts w' g t n vs := by
  obtain ⟨cs, h1, h2, h3⟩ := h
  exact ⟨cs, h1.grown hb hg, h2, h3⟩
theorem Starts.reads {w : World} {g : Nat} {t : TypeId} {n : Nat} {vs : List Value} (h : Starts w g t n vs) : Reads w w.heap.size (some ⟨g, 0, none⟩) vs := fun _ => by
  obtain ⟨cs, h1, h2, h3⟩ := h
  refine ⟨_, rfl, h1.lt, fun i u hu => ?_⟩
  rw [Addr.add_mid, Nat.zero_add, h1.cell]
  exact h3 i u hu

/-- Values put into an array from place o on. -/
def putAll (cs : Array Value) (o : Nat) : List Value → Array Value
  | [] => cs
  | v :: r => putAll (cs.setIfInBounds o v) (o + 1) r
theorem putAll_size : ∀ (vs : List Value) (cs : Array Value) (o : Nat), (putAll cs o vs).size = cs.size
  | [], _, _ => rfl
  | v :: r, cs, o => by rw [putAll, putAll_size r]; simp
theorem putAll_low : ∀ (vs : List Value) (cs : Array Value) (o i : Nat), i < o → (putAll cs o vs)[i]? = cs[i]?
  | [], _, _, _, _ => rfl
  | v :: r, cs, o, i, h => by
    rw [putAll, putAll_low r _ _ _ (by omega), Array.getElem?_setIfInBounds, if_neg (by omega)]
theorem putAll_new : ∀ (vs : List Value) (cs : Array Value) (o j : Nat) (u : Value), o + vs.length ≤ cs.size → vs[j]? = some u → (putAll cs o vs)[o + j]? = some u
  | [], _, _, _, _, _, h => by simp at h
  | v :: r, cs, o, 0, u, hs, h => by
    simp only [List.length_cons] at hs
    rw [putAll, putAll_low r _ _ _ (by omega), Nat.add_zero, Array.getElem?_setIfInBounds, if_pos rfl, if_pos (by omega)]
    simpa using h
  | v :: r, cs, o, j + 1, u, hs, h => by
    simp only [List.length_cons] at hs
    rw [putAll, show o + (j + 1) = o + 1 + j by omega]
    exact putAll_new r _ (o + 1) j u (by simp; omega) (by simpa using h)
theorem putAll_high : ∀ (vs : List Value) (cs : Array Value) (o i : Nat), o + vs.length ≤ i → (putAll cs o vs)[i]? = cs[i]?
  | [], _, _, _, _ => rfl
  | v :: r, cs, o, i, h => by
    simp only [List.length_cons] at h
    rw [putAll, putAll_high r _ _ _ (by omega), Array.getElem?_setIfInBounds, if_neg (by omega)]
theorem Blk.puts {g : Nat} {t : TypeId} : ∀ (vs : List Value) (w : World) (cs : Array Value) (o : Nat), Blk w g t cs → Blk (w.setCells g o vs) g t (putAll cs o vs)
  | [], _, _, _, h => h
  | v :: r, w, cs, o, h => Blk.puts r _ _ (o + 1) (h.put o v)
theorem below_setCells {a : World} {g : Nat} (hg : a.heap.size ≤ g) : ∀ (vs : List Value) (w : World) (o : Nat), Below a.heap.size a w → Below a.heap.size a (w.setCells g o vs)
  | [], _, _, h => h
  | v :: r, w, o, h => below_setCells hg r _ (o + 1) (bS h hg v)
theorem grown_setCells {a : World} {g : Nat} : ∀ (vs : List Value) (w : World) (o : Nat), a.grownBy w (some g) → a.grownBy (w.setCells g o vs) (some g)
  | [], _, _, h => h
  | v :: r, w, o, h => grown_setCells r _ (o + 1) (grown_setCell h (.inl rfl) v)
/-- One element more is stored behind the first k. -/
theorem Starts.next {T : Type} (f : T → List Value) (s : Nat) (hf : ∀ x, (f x).length = s) {w : World} {g : Nat} {t : TypeId} {n k : Nat} {xs : List T} {x : T}
    (h : Starts w g t n ((xs.take k).flatMap f)) (hx : xs[k]? = some x) (hn : k * s + s ≤ n) : Starts (w.setCells g (k * s) (f x)) g t n ((xs.take (k + 1)).flatMap f) := by
  obtain ⟨cs, h1, h2, h3⟩ := h
  refine ⟨_, Blk.puts (f x) w cs (k * s) h1, by rw [putAll_size]; exact h2, put_list f s hf hx h3 (fun i hi => putAll_low _ _ _ _ hi) (fun j u hj => putAll_new _ _ _ _ _ (by rw [hf]; omega) hj)⟩

theorem run_make_n {P : Program} (t e : TypeId) (z : Value) (size bytes : Nat) (ht : P.underlying t = some (.slice e)) (hinfo : (P.info? e).map (fun i => (i.zero, i.size, i.bytes)) = some (some z, size, bytes))
    (n : Nat) (hb : bytes * n ≤ 281474976710656) (h63 : n ≤ 9223372036854775807) :
    ∃ Z : Array Value, Z.size = n * size ∧ ∀ w : World, (Instr.makeSlice t (.int .i64 (n : Int)) (.int .i64 (n : Int))).run P w = .ok (.slice (some ⟨w.heap.size, 0, none⟩) n n) (w.alloc (.cells Z e)) := by
  obtain ⟨i, hi, hz, hs, hy⟩ := info_parts hinfo
  refine ⟨madeCells z.cells (n * i.size), by rw [size_madeCells, hs], fun w => ?_⟩
  have hb' : (i.bytes : Int) * (n : Int) ≤ 281474976710656 := by
    rw [hy]
    have h : ((bytes * n : Nat) : Int) ≤ 281474976710656 := by omega
    rwa [Int.natCast_mul] at h
  have hr := run_make (P := P) w t e i z ht hi hz .i64 .i64 n n (by omega) (by omega) hb' (by omega)
  simp only [Int.toNat_natCast] at hr
  exact hr

theorem own_of_starts {w : World} {g cap size n base : Nat} {t : TypeId} {xs : List Value} (h : Starts w g t (cap * size) xs) (hl : xs.length = n * size) (hn : n ≤ cap) (hm : cap ≤ maxLen) (hb : base ≤ g) :
    w.ownsRow base t size (.slice (some ⟨g, 0, none⟩) n cap) n xs := by
  obtain ⟨cs, h1, h2, h3⟩ := h
  refine ⟨hl, .inr ⟨g, cap, cs, rfl, hb, h1, hn, hm, h2, ?_⟩⟩
  apply List.ext_getElem?
  intro i
  rw [List.getElem?_take]
  split
  · rename_i hi
    have hx : xs[i]? = some (xs[i]'(by omega)) := List.getElem?_eq_getElem (by omega)
    rw [hx, Array.getElem?_toList]
    exact h3 i _ hx
  · rename_i hi
    rw [List.getElem?_eq_none (by omega)]

/-- One element of an owned row is stored anew. -/
theorem own_store {T : Type} (f : T → List Value) (s : Nat) (hf : ∀ x, (f x).length = s) (hs : 0 < s) {w : World} {base g cap i : Nat} {t : TypeId} {ys : List T} {x : T}
    (h : w.ownsRow base t s (.slice (some ⟨g, 0, none⟩) ys.length cap) ys.length (ys.flatMap f)) (hi : i < ys.length) :
    (w.setCells g (i * s) (f x)).ownsRow base t s (.slice (some ⟨g, 0, none⟩) ys.length cap) ys.length ((ys.set i x).flatMap f) := by
  rcases h.2 with ⟨h0, _⟩ | ⟨g', cap', cur, hv, hb, hh, hn, hm, hz, ht⟩
  · cases h0
  · injection hv with h1 h2 h3
    injection h1 with h1
    injection h1 with h1
    subst h1
    subst h3
    have hlen : (ys.flatMap f).length = ys.length * s := h.1
    have hcap : ys.length * s ≤ cap * s := Nat.mul_le_mul_right _ hn
    have hlen2 : ((ys.set i x).flatMap f).length = ys.length * s := by
      have hg : ∀ zs : List T, (zs.flatMap f).length = zs.length * s := by
        intro zs
        induction zs with
        | nil => simp
        | cons y zs ih => simp [ih, hf, Nat.succ_mul]; omega
      rw [hg, List.length_set]
    refine own_of_starts (cap := cap) ⟨_, Blk.puts (f x) w cur (i * s) hh, by rw [putAll_size]; exact hz, fun p u hu => ?_⟩ hlen2 hn hm hb
    have hp : p < ys.length * s := by
      rw [← hlen2]
      exact (List.getElem?_eq_some_iff.1 hu).1
    have hq : p / s < ys.length := (Nat.div_lt_iff_lt_mul hs).2 hp
    have e : p = p / s * s + p % s := by have := Nat.div_add_mod p s; rw [Nat.mul_comm] at this; omega
    have hr := Nat.mod_lt p hs
    have hcur : ∀ (j : Nat) (v : Value), (ys.flatMap f)[j]? = some v → cur[j]? = some v := fun j v hj => by
      rw [← ht, List.getElem?_take] at hj
      split at hj
      · simpa using hj
      · cases hj
    rw [e, flat_get f s hf _ _ _ hr] at hu
    rcases Nat.lt_trichotomy (p / s) i with hc | hc | hc
    · rw [List.getElem?_set_ne (by omega)] at hu
      have hmul : (p / s + 1) * s ≤ i * s := Nat.mul_le_mul_right _ hc
      rw [Nat.succ_mul] at hmul
      rw [e, putAll_low _ _ _ _ (by omega)]
      exact hcur _ _ (by rw [flat_get f s hf _ _ _ hr]; exact hu)
    · rw [hc, List.getElem?_set_self hi] at hu
      rw [e, hc]
      refine putAll_new (f x) cur (i * s) (p % s) u ?_ hu
      have hmul : (i + 1) * s ≤ ys.length * s := Nat.mul_le_mul_right _ hi
      rw [Nat.succ_mul] at hmul
      rw [hf, hz]
      omega
    · rw [List.getElem?_set_ne (by omega)] at hu
      have hmul : (i + 1) * s ≤ p / s * s := Nat.mul_le_mul_right _ hc
      rw [Nat.succ_mul] at hmul
      rw [e, putAll_high _ _ _ _ (by rw [hf]; omega)]
      exact hcur _ _ (by rw [flat_get f s hf _ _ _ hr]; exact hu)

theorem apart_of {v : Value} {row : Option Nat} (h : ∀ k, v.ownBlock = some k → row ≠ some k) : v.ownBlock = none ∨ v.ownBlock ≠ row := by
  cases hv : v.ownBlock with
  | none => exact .inl rfl
  | some k => exact .inr (fun e => h k hv e.symm)
theorem own_below {w w' : World} {base size n : Nat} {t : TypeId} {v : Value} {xs : List Value} (h : w.ownsRow base t size v n xs) (hb : Below w.heap.size w w') : w'.ownsRow base t size v n xs := by
  refine World.ownsRow.kept h (grown_of_below hb none) ?_
  cases v.ownBlock with
  | none => exact .inl rfl
  | some k => exact .inr (by simp)

theorem ownBase {w : World} {base base' size n : Nat} {t : TypeId} {v : Value} {xs : List Value} (h : w.ownsRow base t size v n xs) (hb : base' ≤ base) : w.ownsRow base' t size v n xs := by
  refine ⟨h.1, ?_⟩
  rcases h.2 with h | ⟨g, cap, cur, h1, h2, h3⟩
  · exact .inl h
  · exact .inr ⟨g, cap, cur, h1, Nat.le_trans hb h2, h3⟩
/-! Bits of numbers that are not negative -/
theorem ofInt_nat (a : Nat) (ha : a < 9223372036854775808) : (BitVec.ofInt 64 (a : Int)).toNat = a := by
  rw [BitVec.ofInt_natCast, BitVec.toNat_ofNat]; exact Nat.mod_eq_of_lt (by omega)
theorem xor_nat (a b : Nat) (ha : a < 9223372036854775808) (hb : b < 9223372036854775808) : bits .xor .i64 (a : Int) (b : Int) = ((a ^^^ b : Nat) : Int) := by
  have hx : a ^^^ b < 2 ^ 63 := Nat.xor_lt_two_pow (by omega) (by omega)
  show IntKind.i64.wrap ((BitVec.ofInt 64 (a : Int) ^^^ BitVec.ofInt 64 (b : Int)).toNat : Int) = _
  rw [BitVec.toNat_xor, ofInt_nat a ha, ofInt_nat b hb, IntKind.wrap_i64]
  omega
theorem xor_range (x : Int) (h0 : 0 ≤ x) (h1 : x ≤ 1000000000) : 0 ≤ bits .xor .i64 x (x / 64) ∧ bits .xor .i64 x (x / 64) ≤ 1073741823 := by
  obtain ⟨n, rfl⟩ := Int.eq_ofNat_of_zero_le h0
  have e : ((n : Int) / 64) = ((n / 64 : Nat) : Int) := by omega
  rw [e, xor_nat n (n / 64) (by omega) (by omega)]
  have : n ^^^ (n / 64) < 2 ^ 30 := Nat.xor_lt_two_pow (by omega) (by omega)
  omega
end Go.Proofs.Ytnkoapccnlgijaa
