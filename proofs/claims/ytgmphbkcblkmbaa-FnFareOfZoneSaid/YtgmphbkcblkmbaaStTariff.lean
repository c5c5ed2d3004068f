/-
  Tables of numbers, and tariffs by value: their cells in memory.
-/
import Derived.Test.YtgmphbkcblkmbaaTariffMath
import Derived.Test.YtgmphbkcblkmbaaStInt
import Derived.Test.YtgmphbkcblkmbaaStBand
import Derived.Test.YtgmphbkcblkmbaaOver
set_option linter.unusedSimpArgs false
namespace Go.Proofs.Ytgmphbkcblkmbaa
open Go.RowKit
set_option linter.unusedVariables false

/-- A row as it lies: where its numbers are, its capacity. -/
structure RowR where
  A : Option Addr
  c : Nat
  xs : List Int
def rowCells (r : RowR) : List Value := [.slice r.A r.xs.length r.c]
def rowsOf (L : List RowR) : List (List Int) := L.map (·.xs)
theorem rowsOf_length (L : List RowR) : (rowsOf L).length = L.length := by simp [rowsOf]
theorem rowsOf_get {L : List RowR} {k : Nat} {r : RowR} (h : L[k]? = some r) : (rowsOf L)[k]? = some r.xs := by simp [rowsOf, h]
def RowIn (w : World) (B : Nat) (r : RowR) : Prop := Ints w B r.A r.xs ∧ r.xs.length ≤ r.c ∧ r.c ≤ maxLen
def Table (w : World) (B : Nat) (A : Option Addr) (L : List RowR) : Prop := Reads w B A (L.flatMap rowCells) ∧ ∀ r ∈ L, RowIn w B r
theorem Table.keep {w w' : World} {B B' : Nat} {A : Option Addr} {L : List RowR} (h : Table w B A L) (hr : ∀ {A : Option Addr} {vs : List Value}, Reads w B A vs → Reads w' B' A vs) : Table w' B' A L :=
  ⟨hr h.1, fun r hm => ⟨hr (h.2 r hm).1, (h.2 r hm).2⟩⟩
theorem Table.up {w : World} {A : Option Addr} {L : List RowR} (h : Table w w.heap.size A L) (o : Obj) : Table (w.alloc o) (w.alloc o).heap.size A L := h.keep (fun hr => readsUp hr o)
theorem Table.over {w w' : World} {A : Option Addr} {L : List RowR} (h : Table w w.heap.size A L) (hb : Below w.heap.size w w') : Table w' w'.heap.size A L := h.keep (fun hr => readsOver hr hb)
theorem Table.row {w : World} {B : Nat} {A : Option Addr} {L : List RowR} (h : Table w B A L) (hn : 0 < L.length) :
    ∃ b o, A = some ⟨b, o, none⟩ ∧ b < B ∧ ∀ k r, L[k]? = some r → w.cell? ⟨b, o + k, none⟩ = some (.slice r.A r.xs.length r.c) := by
  obtain ⟨b, o, e, hb, hr⟩ := Reads.row h.1 (by
    intro e
    have := flat_get rowCells 1 (fun _ => rfl) L 0 0 (by omega)
    rw [e, List.getElem?_eq_getElem hn] at this
    simp [rowCells] at this)
  refine ⟨b, o, e, hb, fun k r hk => ?_⟩
  refine hr k _ ?_
  have := flat_get rowCells 1 (fun _ => rfl) L k 0 (by omega)
  simp only [Nat.mul_one, Nat.add_zero] at this
  rw [this, hk]
  rfl
theorem Table.rowIn {w : World} {B : Nat} {A : Option Addr} {L : List RowR} (h : Table w B A L) {k : Nat} {r : RowR} (hk : L[k]? = some r) : RowIn w B r := h.2 r (List.mem_of_getElem? hk)

/-- A tariff as it lies. -/
structure TariffR where
  pA : Option Addr
  pc : Nat
  L : List RowR
  zA : Option Addr
  zc : Nat
  z : List Int
  kA : Option Addr
  kc : Nat
  k : List Fares.Band
  e : Int
  t : Int
def TariffR.of (v : TariffR) : Fares.Tariff := ⟨rowsOf v.L, v.z, v.k, v.e, v.t⟩
def TariffR.cells (v : TariffR) : Array Value := #[.slice v.pA v.L.length v.pc, .slice v.zA v.z.length v.zc, .slice v.kA v.k.length v.kc, .int .i64 v.e, .int .i64 v.t]
def tariffV (v : TariffR) : Value := .agg #[.slice v.pA v.L.length v.pc, .slice v.zA v.z.length v.zc, .slice v.kA v.k.length v.kc, .int .i64 v.e, .int .i64 v.t]
/-- Its lists lie below B. -/
def TariffIn (w : World) (B : Nat) (v : TariffR) : Prop :=
  Table w B v.pA v.L ∧ Ints w B v.zA v.z ∧ Bands w B v.kA v.k ∧ (v.L.length ≤ v.pc ∧ v.pc ≤ maxLen ∧ v.z.length ≤ v.zc ∧ v.zc ≤ maxLen ∧ v.k.length ≤ v.kc ∧ v.kc ≤ maxLen)
theorem TariffIn.up {w : World} {v : TariffR} (h : TariffIn w w.heap.size v) (o : Obj) : TariffIn (w.alloc o) (w.alloc o).heap.size v := ⟨h.1.up o, readsUp h.2.1 o, readsUp h.2.2.1 o, h.2.2.2⟩
theorem TariffIn.over {w w' : World} {v : TariffR} (h : TariffIn w w.heap.size v) (hb : Below w.heap.size w w') : TariffIn w' w'.heap.size v := ⟨h.1.over hb, readsOver h.2.1 hb, readsOver h.2.2.1 hb, h.2.2.2⟩
/-- Its lists are not too long. -/
def TariffSmall (v : TariffR) : Prop := v.L.length ≤ 1048576 ∧ (∀ r ∈ v.L, r.xs.length ≤ 1048576) ∧ v.z.length ≤ 1048576 ∧ v.k.length ≤ 1048576
/-- A variable that holds one. -/
def TariffBox (w : World) (b : Nat) (v : TariffR) : Prop := Blk w b 27 v.cells
theorem TariffBox.new (w : World) (v : TariffR) : TariffBox (w.alloc (.cells #[.slice v.pA v.L.length v.pc, .slice v.zA v.z.length v.zc, .slice v.kA v.k.length v.kc, .int .i64 v.e, .int .i64 v.t] 27)) w.heap.size v := Blk.new w _ _
theorem tariffCells {w : World} {b : Nat} {t : TypeId} {v : TariffR} (h : Blk w b t v.cells) : w.cell? ⟨b, 0, none⟩ = some (.slice v.pA v.L.length v.pc) ∧ w.cell? ⟨b, 1, none⟩ = some (.slice v.zA v.z.length v.zc) ∧ w.cell? ⟨b, 2, none⟩ = some (.slice v.kA v.k.length v.kc) ∧ w.cell? ⟨b, 3, none⟩ = some (.int .i64 v.e) ∧ w.cell? ⟨b, 4, none⟩ = some (.int .i64 v.t) :=
  ⟨Blk.cell h 0, Blk.cell h 1, Blk.cell h 2, Blk.cell h 3, Blk.cell h 4⟩
end Go.Proofs.Ytgmphbkcblkmbaa
