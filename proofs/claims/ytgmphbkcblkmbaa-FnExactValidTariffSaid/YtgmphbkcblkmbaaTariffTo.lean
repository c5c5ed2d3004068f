/-
  What the exact laws' helpers do with tables and tariffs.
-/
import Derived.Test.YtgmphbkcblkmbaaTariffOpen
set_option linter.unusedSimpArgs false
namespace Go.Proofs.Ytgmphbkcblkmbaa
open Go.ChangeShapes Go.WideShapes Go.ChangeAt Go.RowKit Go.Deep
set_option linter.unusedVariables false

theorem Starts.far {w : World} {g n : Nat} {t : TypeId} {vs : List Value} (h : Starts w g t n vs) {p : Addr} (hp : g ≠ p.block) (u : Value) : Starts (w.setCell p u) g t n vs := by
  obtain ⟨cs, h1, h2, h3⟩ := h
  exact ⟨cs, h1.far hp u, h2, h3⟩
/-- A row in a block of its own, behind block g0. -/
def RowNew (w : World) (g0 : Nat) (r : RowR) : Prop := ∃ g, r.A = some ⟨g, 0, none⟩ ∧ g0 < g ∧ r.c = r.xs.length ∧ r.xs.length ≤ 1048576 ∧ Starts w g 3 r.xs.length (r.xs.flatMap intCells)
theorem RowNew.far {w : World} {g0 : Nat} {r : RowR} (h : RowNew w g0 r) {p : Addr} (hp : p.block ≤ g0) (u : Value) : RowNew (w.setCell p u) g0 r := by
  obtain ⟨g, h1, h2, h3, h4, h5⟩ := h
  exact ⟨g, h1, h2, h3, h4, h5.far (by omega) u⟩
theorem RowNew.over {w w' : World} {g0 : Nat} {r : RowR} (h : RowNew w g0 r) (hb : Below w.heap.size w w') : RowNew w' g0 r := by
  obtain ⟨g, h1, h2, h3, h4, h5⟩ := h
  exact ⟨g, h1, h2, h3, h4, h5.below hb h5.lt⟩
theorem RowNew.rowIn {w : World} {g0 : Nat} {r : RowR} (h : RowNew w g0 r) : RowIn w w.heap.size r := by
  obtain ⟨g, h1, h2, h3, h4, h5⟩ := h
  refine ⟨?_, by omega, by unfold maxLen; omega⟩
  rw [h1]
  exact h5.reads
/-- A table in blocks of its own, from block g on. -/
def TabNew (w : World) (g n : Nat) (L : List RowR) : Prop := Starts w g 24 n (L.flatMap rowCells) ∧ ∀ r ∈ L, RowNew w g r
theorem TabNew.over {w w' : World} {g n : Nat} {L : List RowR} (h : TabNew w g n L) (hb : Below w.heap.size w w') : TabNew w' g n L := ⟨h.1.below hb h.1.lt, fun r hr => (h.2 r hr).over hb⟩
theorem TabNew.far {w : World} {g n : Nat} {L : List RowR} (h : TabNew w g n L) {p : Addr} (hp : p.block < g) (u : Value) : TabNew (w.setCell p u) g n L :=
  ⟨h.1.far (by omega) u, fun r hr => (h.2 r hr).far (Nat.le_of_lt hp) u⟩
theorem TabNew.table {w : World} {g n : Nat} {L : List RowR} (h : TabNew w g n L) : Table w w.heap.size (some ⟨g, 0, none⟩) L := ⟨h.1.reads, fun r hr => (h.2 r hr).rowIn⟩
theorem TabNew.small {w : World} {g n : Nat} {L : List RowR} (h : TabNew w g n L) : ∀ r ∈ L, r.xs.length ≤ 1048576 := fun r hr => by
  obtain ⟨_, _, _, _, h4, _⟩ := h.2 r hr
  exact h4
theorem rowsOf_take (L : List RowR) (k : Nat) : rowsOf (L.take k) = (rowsOf L).take k := by simp [rowsOf, List.map_take]
theorem rowsOf_snoc (L : List RowR) (r : RowR) : rowsOf (L ++ [r]) = rowsOf L ++ [r.xs] := by simp [rowsOf]

def tariffZero : Array Value := #[.slice none 0 0, .slice none 0 0, .slice none 0 0, .int .i64 0, .int .i64 0]
set_option maxRecDepth 100000 in
set_option maxHeartbeats 1000000 in
theorem szIntSS_any (A : Option Addr) (n c : Nat) (k : Int) (L : List RowR) (w : World) (hx : Table w w.heap.size A L) (hxn : L.length = n) (hn : n ≤ maxLen) (hk0 : 0 ≤ k) (hk : k ≤ 1048576) :
    Calls Try.prog 86 #[.slice A n c, .int .i64 k] w fun e w' => (∃ r : Int, e = .returned (.int .i64 r) ∧ r ≤ 1048576 ∧ ((r < 0 ∧ -1 ≤ r) ∨ (0 ≤ r ∧ n ≤ 1048576 ∧ ∀ x ∈ L, x.xs.length ≤ 1048576))) ∧ w = w' := by
  subst hxn
  unfold maxLen at hn
  by_cases h : k < L.length
  · go_enter Try.func86, Try.ntmps86
    go_wp2
    go_ret
    exact ⟨⟨-1, rfl, by omega, .inl (by omega)⟩, rfl⟩
  · go_enter Try.func86, Try.ntmps86
    go_wp2
    go_loop [5, 1] (fun i v => ∃ (j : Nat) (r : Int), j ≤ L.length ∧ i = .int .i64 j ∧ v = .int .i64 r ∧ 0 ≤ r ∧ r ≤ 1048576 ∧ ∀ x ∈ L.take j, x.xs.length ≤ 1048576) (fun i _ => L.length - (intOf i).toNat)
    case atStart => exact ⟨0, k - L.length, Nat.zero_le _, rfl, by go_num, by omega, by omega, by simp⟩
    case round =>
      obtain ⟨j, r, hj, rfl, rfl, hr0, hr1, hs⟩ := hrel
      have Hs := Lib.hid hs; clear hs
      by_cases hlt : j < L.length
      · obtain ⟨x, hxk⟩ : ∃ x, L[j]? = some x := ⟨L[j], List.getElem?_eq_getElem hlt⟩
        have hin := hx.rowIn hxk
        obtain ⟨b1, o1, rfl, hb1, hrw⟩ := hx.row (by omega)
        have p0 := hrw j x hxk
        have Hx := Lib.hid hxk; clear hxk
        have Hin := Lib.hid (show x.xs.length ≤ maxLen by have := hin.2; omega); clear hin hrw hx
        have i0 : (0 : Int) ≤ (j : Int) := by omega
        have i1 : (j : Int) < (L.length : Int) := by omega
        by_cases hbig : r < x.xs.length
        · go_wp2_with fail
          refine (szIntS_any x.A x.xs.length x.c r _ hr0 hr1 Hin.out).mono ?_
          rintro e w' ⟨rfl, rfl⟩
          rw [if_pos (by omega)]
          go_wp2
          go_ret
          exact ⟨⟨-1, rfl, by omega, .inl (by omega)⟩, rfl⟩
        · go_wp2_with fail
          refine (szIntS_any x.A x.xs.length x.c r _ hr0 hr1 Hin.out).mono ?_
          rintro e w' ⟨rfl, rfl⟩
          rw [if_neg (by omega)]
          have hd : decide (r - (x.xs.length : Int) < 0) = false := by rw [decide_eq_false_iff_not]; omega
          go_wp2
          go_round
          case rel => exact ⟨j + 1, r - x.xs.length, by omega, by go_num, by go_num, by omega, by omega, fun y hy => by
            rw [take_next Hx.out, List.mem_append] at hy
            rcases hy with hy | hy
            · exact Hs.out y hy
            · simp only [List.mem_singleton] at hy
              subst hy
              omega⟩
          case measure => simp [intOf]; omega
      · go_wp2
        go_ret
        exact ⟨⟨r, rfl, hr1, .inr ⟨hr0, by omega, fun y hy => Hs.out y (by rwa [List.take_of_length_le (by omega)])⟩⟩, rfl⟩
theorem info_row : (Try.prog.info? 24).map (fun i => (i.zero, i.size, i.bytes)) = some (some (.slice none 0 0), 1, 24) := by kernel_rfl
set_option maxRecDepth 100000 in
set_option maxHeartbeats 2000000 in
theorem toIntSS_any (A : Option Addr) (n c : Nat) (L : List RowR) (w : World) (hx : Table w w.heap.size A L) (hxn : L.length = n) (hl : n ≤ 1048576) (hs : ∀ x ∈ L, x.xs.length ≤ 1048576) :
    Calls Try.prog 89 #[.slice A n c] w fun e w' => ∃ M : List RowR, e = .returned (.slice (some ⟨w.heap.size, 0, none⟩) n n) ∧ rowsOf M = rowsOf L ∧ TabNew w' w.heap.size n M ∧ Below w.heap.size w w' := by
  subst hxn
  obtain ⟨Z, hZ, hmk⟩ := run_make_n (P := Try.prog) 23 24 _ 1 24 Try.underlying23 info_row L.length (by omega) (by omega)
  have HZ := Lib.hid hZ; clear hZ
  have Hs := Lib.hid hs; clear hs
  go_enter Try.func89, Try.ntmps89
  go_wp2
  clear hmk
  go_loopw [4] (fun i wr => ∃ (k : Nat) (M : List RowR), k ≤ L.length ∧ i = .int .i64 k ∧ Below w.heap.size w wr ∧ M.length = k ∧ rowsOf M = (rowsOf L).take k ∧ TabNew wr w.heap.size L.length M) (fun i _ => L.length - (intOf i).toNat)
  case atStart => exact ⟨0, [], Nat.zero_le _, rfl, bA (Below.refl _ _) _, rfl, by simp [rowsOf], ⟨Z, Blk.new _ _ _, by have := HZ.out; omega, by simp⟩, fun r hr => by cases hr⟩
  case round =>
    obtain ⟨k, M, hk, rfl, hb, hM, hrows, htab⟩ := hrel
    have hs1 : w.heap.size < wr.heap.size := htab.1.lt
    have Hm := Lib.hid hM; clear hM
    have Hrows := Lib.hid hrows; clear hrows
    by_cases hlt : k < L.length
    · obtain ⟨x, hxk⟩ : ∃ x, L[k]? = some x := ⟨L[k], List.getElem?_eq_getElem hlt⟩
      have hin := hx.rowIn hxk
      have Hsm := Lib.hid (Hs.out x (List.mem_of_getElem? hxk))
      obtain ⟨b1, o1, rfl, hb1, hrw⟩ := hx.row (by omega)
      have p0 := (hb.cell (p := ⟨b1, o1 + k, none⟩) hb1).trans (hrw k x hxk)
      have Hin := Lib.hid ((hin.1.below hb (Nat.le_refl _)).more hb.size)
      have Hx := Lib.hid hxk; clear hxk hin hrw
      have Hxx := Lib.hid hx; clear hx
      have Htab := Lib.hid htab; clear htab
      have i0 : (0 : Int) ≤ (k : Int) := by omega
      have i1 : (k : Int) < (L.length : Int) := by omega
      go_wp2_with fail
      refine (toIntS_any x.A x.xs.length x.c x.xs _ Hin.out rfl Hsm.out).mono ?_
      rintro e w1 ⟨rfl, hst, hb3⟩
      have hb4 : Below w.heap.size w w1 := hb.trans (hb3.mono hb.size)
      have htab1 := Htab.out.over hb3
      obtain ⟨u0, q0⟩ := htab1.1.there (i := k) (by omega)
      have e0 := htab1.1.free k
      clear hb3 hb p0 Htab
      have Htab1 := Lib.hid htab1; clear htab1
      have Hst := Lib.hid hst; clear hst
      go_wp2
      go_roundw
      case rel =>
        obtain ⟨y, hy⟩ : ∃ y : RowR, y = ⟨some ⟨wr.heap.size, 0, none⟩, x.xs.length, x.xs⟩ := ⟨_, rfl⟩
        have hMy : (M ++ [y])[k]? = some y := by rw [← Hm.out]; simp
        have hst2 : Starts (w1.setCell ⟨w.heap.size, k, none⟩ (.slice (some ⟨wr.heap.size, 0, none⟩) x.xs.length x.xs.length)) w.heap.size 24 L.length ((M ++ [y]).flatMap rowCells) := by
          have h1 : Starts w1 w.heap.size 24 (L.length * 1) (((M ++ [y]).take k).flatMap rowCells) := by
            rw [Nat.mul_one, ← Hm.out, List.take_left']
            · exact Htab1.out.1
            · rfl
          have h2 := h1.next rowCells 1 (fun _ => rfl) hMy (by omega)
          rw [List.take_of_length_le (by simp; have := Hm.out; omega)] at h2
          rw [Nat.mul_one] at h2
          subst hy
          simpa [rowCells, World.setCells] using h2
        refine ⟨k + 1, M ++ [y], by omega, by go_num, bS hb4 (Nat.le_refl _) _, by simp [Hm.out], ?_, hst2, ?_⟩
        · rw [rowsOf_snoc, Hrows.out, take_next (rowsOf_get Hx.out), hy]
        · intro r hr
          rw [List.mem_append] at hr
          rcases hr with hr | hr
          · exact (Htab1.out.2 r hr).far (Nat.le_refl _) _
          · simp only [List.mem_singleton] at hr
            rw [hr, hy]
            exact ⟨wr.heap.size, rfl, hs1, rfl, Hsm.out, (by have := Hst.out; rw [Nat.mul_one] at this; exact this.far (by simp; omega) _)⟩
      case measure => simp [intOf]; omega
    · go_wp2
      go_ret
      exact ⟨M, rfl, by rw [Hrows.out, List.take_of_length_le (by rw [rowsOf_length]; omega)], htab, hb⟩
set_option maxRecDepth 100000 in
set_option maxHeartbeats 1000000 in
theorem eqIntSS_any (A B : Option Addr) (n m c d : Nat) (L M : List RowR) (w : World) (hx : Table w w.heap.size A L) (hy : Table w w.heap.size B M) (hxn : L.length = n) (hym : M.length = m) (hl : n ≤ 1048576) (hl' : m ≤ 1048576) (hs : ∀ x ∈ L, x.xs.length ≤ 1048576) (hs' : ∀ x ∈ M, x.xs.length ≤ 1048576) :
    Calls Try.prog 49 #[.slice A n c, .slice B m d] w fun e w' => e = .returned (.bool (decide (rowsOf L = rowsOf M))) ∧ Below w.heap.size w w' := by
  subst hxn
  subst hym
  have HsL := Lib.hid hs; clear hs
  have HsM := Lib.hid hs'; clear hs'
  by_cases hlen : L.length = M.length
  · have hne : ((L.length : Int) != (M.length : Int)) = false := by simp [hlen]
    have H := Lib.hid hlen; clear hlen
    go_enter Try.func49, Try.ntmps49
    go_wp2
    go_loopw [5] (fun i wr => ∃ k : Nat, k ≤ L.length ∧ i = .int .i64 k ∧ Below w.heap.size w wr ∧ (rowsOf L).take k = (rowsOf M).take k) (fun i _ => L.length - (intOf i).toNat)
    case atStart => exact ⟨0, Nat.zero_le _, rfl, Below.refl _ _, by simp⟩
    case round =>
      obtain ⟨k, hk, rfl, hb, he⟩ := hrel
      have He := Lib.hid he; clear he
      by_cases hlt : k < L.length
      · obtain ⟨x, hxk⟩ : ∃ x, L[k]? = some x := ⟨L[k], List.getElem?_eq_getElem hlt⟩
        obtain ⟨y, hyk⟩ : ∃ y, M[k]? = some y := ⟨M[k]'(by have := H.out; omega), List.getElem?_eq_getElem (by have := H.out; omega)⟩
        have hlt2 : k < M.length := by have := H.out; omega
        have Hix := Lib.hid (((hx.rowIn hxk).1.below hb (Nat.le_refl _)).more hb.size)
        have Hiy := Lib.hid (((hy.rowIn hyk).1.below hb (Nat.le_refl _)).more hb.size)
        have Hsx := Lib.hid (HsL.out x (List.mem_of_getElem? hxk))
        have Hsy := Lib.hid (HsM.out y (List.mem_of_getElem? hyk))
        obtain ⟨b1, o1, rfl, hb1, hr1⟩ := hx.row (by omega)
        obtain ⟨b2, o2, rfl, hb2, hr2⟩ := hy.row (by omega)
        have p0 := (hb.cell (p := ⟨b1, o1 + k, none⟩) hb1).trans (hr1 k x hxk)
        have q0 := (hb.cell (p := ⟨b2, o2 + k, none⟩) hb2).trans (hr2 k y hyk)
        have Hx := Lib.hid (rowsOf_get hxk); clear hxk
        have Hy := Lib.hid (rowsOf_get hyk); clear hyk
        clear hr1 hr2 hx hy
        have i0 : (0 : Int) ≤ (k : Int) := by omega
        have i1 : (k : Int) < (L.length : Int) := by omega
        have i2 : (k : Int) < (M.length : Int) := by omega
        by_cases hxy : x.xs = y.xs
        · have Hd := Lib.hid (show decide (x.xs = y.xs) = true by simpa using hxy)
          have Hxy := Lib.hid hxy; clear hxy
          go_wp2
          go_still_tail 8, (by kernel_rfl)
          change wpList _ _ _ _ _ wr.drew
          go_wp2_with fail
          refine (eqIntS_any x.A y.A x.xs.length y.xs.length x.c y.c x.xs y.xs _ (readsDrew Hix.out) (readsDrew Hiy.out) rfl rfl (by have := Hsx.out; omega) (by have := Hsy.out; omega)).mono ?_
          rintro e w1 ⟨rfl, hb3⟩
          rw [Hd.out]
          have hb4 : Below w.heap.size w w1 := (bD1 hb).trans (hb3.mono hb.size)
          clear hb3 hb
          go_wp2
          go_roundw
          case rel => exact ⟨k + 1, by omega, by go_num, hb4, by rw [take_next Hx.out, take_next Hy.out, He.out, Hxy.out]⟩
          case measure => simp [intOf]; omega
        · have Hd := Lib.hid (show decide (x.xs = y.xs) = false by simpa using hxy)
          have Hxy := Lib.hid hxy; clear hxy
          go_wp2
          go_still_tail 8, (by kernel_rfl)
          change wpList _ _ _ _ _ wr.drew
          go_wp2_with fail
          refine (eqIntS_any x.A y.A x.xs.length y.xs.length x.c y.c x.xs y.xs _ (readsDrew Hix.out) (readsDrew Hiy.out) rfl rfl (by have := Hsx.out; omega) (by have := Hsy.out; omega)).mono ?_
          rintro e w1 ⟨rfl, hb3⟩
          rw [Hd.out]
          have hb4 : Below w.heap.size w w1 := (bD1 hb).trans (hb3.mono hb.size)
          clear hb3 hb
          go_wp2
          go_ret
          exact ⟨ret_bool (by
            have h1 := Hx.out
            have h2 := Hy.out
            have h3 := Hxy.out
            simp only [Bool.false_eq, decide_eq_false_iff_not]
            intro e
            rw [e, h2] at h1
            injection h1 with h1
            exact h3 h1.symm), hb4⟩
      · go_wp2
        go_ret
        exact ⟨ret_bool (by
          have h1 : (rowsOf L).take k = rowsOf L := List.take_of_length_le (by rw [rowsOf_length]; omega)
          have h2 : (rowsOf M).take k = rowsOf M := List.take_of_length_le (by rw [rowsOf_length]; have := H.out; omega)
          have := He.out
          rw [h1, h2] at this
          simp [this]), hb⟩
  · have hne : ((L.length : Int) != (M.length : Int)) = true := by rw [bne_iff_ne]; omega
    go_enter Try.func49, Try.ntmps49
    go_wp2
    go_ret
    exact ⟨ret_bool (by simp; intro e; exact hlen (by rw [← rowsOf_length L, e, rowsOf_length])), Below.refl _ _⟩
set_option maxRecDepth 100000 in
set_option maxHeartbeats 1000000 in
theorem szTariff_any (v : TariffR) (w : World) (hi : TariffIn w w.heap.size v) :
    Calls Try.prog 42 #[tariffV v, .int .i64 1048576] w fun e w' => (∃ r : Int, e = .returned (.int .i64 r) ∧ -1 ≤ r ∧ r ≤ 1048576 ∧ (r < 0 ∨ (0 ≤ r ∧ TariffSmall v))) ∧ Below w.heap.size w w' := by
  obtain ⟨ht, hz, hk, l1, l2, l3, l4, l5, l6⟩ := hi
  unfold tariffV
  go_enter Try.func42, Try.ntmps42
  go_wp2_with fail
  refine (szIntSS_any v.pA v.L.length v.pc 1048576 v.L _ (ht.up _) rfl (by omega) (by omega) (by omega)).mono ?_
  rintro e w1 ⟨⟨r, rfl, hr1, hr⟩, rfl⟩
  rcases hr with ⟨hr, hr'⟩ | ⟨hr, hn, hrows⟩
  · go_wp2
    go_ret
    exact ⟨⟨-1, rfl, by omega, by omega, .inl (by omega)⟩, (by repeat (first | exact Below.refl _ _ | refine bA ?_ _ | refine bD ?_ _ | refine bD1 ?_ | refine bS ?_ (by simp) _))⟩
  · have hd : decide (r < 0) = false := by rw [decide_eq_false_iff_not]; omega
    by_cases hz2 : r < v.z.length
    · go_wp2_with fail
      refine (szIntS_any v.zA v.z.length v.zc r _ (by omega) (by omega) (by omega)).mono ?_
      rintro e w2 ⟨rfl, rfl⟩
      rw [if_pos (by omega)]
      go_wp2
      go_ret
      exact ⟨⟨-1, rfl, by omega, by omega, .inl (by omega)⟩, (by repeat (first | exact Below.refl _ _ | refine bA ?_ _ | refine bD ?_ _ | refine bD1 ?_ | refine bS ?_ (by simp) _))⟩
    · have hd2 : decide (r - (v.z.length : Int) < 0) = false := by rw [decide_eq_false_iff_not]; omega
      go_wp2_with fail
      refine (szIntS_any v.zA v.z.length v.zc r _ (by omega) (by omega) (by omega)).mono ?_
      rintro e w2 ⟨rfl, rfl⟩
      rw [if_neg (by omega)]
      go_wp2_with fail
      refine (szBandS_any v.kA v.k.length v.kc (r - v.z.length) _ (by omega) (by omega) (by omega)).mono ?_
      rintro e w2 ⟨rfl, rfl⟩
      by_cases hk2 : r - v.z.length < v.k.length
      · rw [if_pos (by omega)]
        go_wp2
        go_ret
        exact ⟨⟨-1, rfl, by omega, by omega, .inl (by omega)⟩, (by repeat (first | exact Below.refl _ _ | refine bA ?_ _ | refine bD ?_ _ | refine bD1 ?_ | refine bS ?_ (by simp) _))⟩
      · rw [if_neg (by omega)]
        have hd3 : decide (r - (v.z.length : Int) - (v.k.length : Int) < 0) = false := by rw [decide_eq_false_iff_not]; omega
        go_wp2
        go_ret
        exact ⟨⟨r - v.z.length - v.k.length, rfl, by omega, by omega, .inr ⟨by omega, hn, hrows, by omega, by omega⟩⟩, (by repeat (first | exact Below.refl _ _ | refine bA ?_ _ | refine bD ?_ _ | refine bD1 ?_ | refine bS ?_ (by simp) _))⟩
set_option maxRecDepth 100000 in
set_option maxHeartbeats 2000000 in
theorem toTariff_any (v : TariffR) (w : World) (hi : TariffIn w w.heap.size v) (hs : TariffSmall v) :
    Calls Try.prog 43 #[tariffV v] w fun e w' => (∃ u : TariffR, e = .returned (tariffV u) ∧ u.of = v.of ∧ TariffIn w' w'.heap.size u ∧ TariffSmall u) ∧ Below w.heap.size w w' := by
  obtain ⟨ht, hz, hk, l1, l2, l3, l4, l5, l6⟩ := hi
  obtain ⟨s1, s2, s3, s4⟩ := hs
  have Ht := Lib.hid ht; clear ht
  have Hz := Lib.hid hz; clear hz
  have Hk := Lib.hid hk; clear hk
  have Hs2 := Lib.hid s2; clear s2
  unfold tariffV
  go_enter Try.func43, Try.ntmps43
  go_wp2_with fail
  generalize hW : World.alloc _ _ = W0
  have hP0 : Blk W0 w.heap.size 45 v.cells := by rw [← hW]; exact ((Blk.new w _ _).alloc _).alloc _
  have hR0 : Blk W0 (w.heap.size + 1) 27 tariffZero := by rw [← hW]; exact (Blk.new' (by simp)).alloc _
  have hO0 : Blk W0 (w.heap.size + 1 + 1) 27 tariffZero := by rw [← hW]; exact Blk.new' (by simp)
  have hc0 : Below w.heap.size w W0 := by rw [← hW]; exact bA (bA (bA (Below.refl _ _) _) _) _
  have hsz : w.heap.size + 1 + 1 < W0.heap.size := by rw [← hW]; simp
  clear hW
  refine (toIntSS_any v.pA v.L.length v.pc v.L _ (Ht.out.over hc0) rfl s1 Hs2.out).mono ?_
  rintro e w1 ⟨M, rfl, hM, htab, hb1⟩
  have hc1 : Below w.heap.size w w1 := bT hc0 hb1
  have hP1 := hP0.belowAll hb1
  have hR1 := hR0.belowAll hb1
  have hO1 := hO0.belowAll hb1
  have hsz1 : w.heap.size + 1 + 1 < w1.heap.size := Nat.lt_of_lt_of_le hsz hb1.size
  clear hP0 hR0 hO0 hb1 hc0
  have HM := Lib.hid hM; clear hM
  have Htab := Lib.hid htab; clear htab
  obtain ⟨p0, p1, p2, p3, p4⟩ := tariffCells hP1
  have q0 : w1.cell? ⟨w.heap.size + 1 + 1, 0, none⟩ = some (.slice none 0 0) := hO1.cell 0
  have f0 := hO1.free 0
  have HP1 := Lib.hid hP1; clear hP1
  have HR1 := Lib.hid hR1; clear hR1
  have HO1 := Lib.hid hO1; clear hO1
  go_wp2_with fail
  generalize hW : World.setCell _ _ _ = W1
  have hP1 : Blk W1 w.heap.size 45 v.cells := by rw [← hW]; exact HP1.out.far (show w.heap.size ≠ w.heap.size + 1 + 1 by omega) _
  have hR1 : Blk W1 (w.heap.size + 1) 27 tariffZero := by rw [← hW]; exact HR1.out.far (by simp) _
  have hO1 := HO1.out.put 0 (.slice (some ⟨W0.heap.size, 0, none⟩) v.L.length v.L.length)
  rw [hW] at hO1
  have htab1 : TabNew W1 W0.heap.size v.L.length M := by rw [← hW]; exact Htab.out.far hsz _
  have hc2 : Below w.heap.size w W1 := by rw [← hW]; exact bS hc1 (by simp; omega) _
  have hsz2 : w.heap.size + 1 + 1 < W1.heap.size := by rw [← hW]; simpa using hsz1
  clear hW q0 f0 p0 p1 p2 p3 p4 HP1 HR1 HO1 Htab hc1 hsz1
  refine (toIntS_any v.zA v.z.length v.zc v.z _ ((Hz.out.below hc2 (Nat.le_refl _)).more hc2.size) rfl s3).mono ?_
  rintro e w2 ⟨rfl, hz2, hb2⟩
  have hc3 : Below w.heap.size w w2 := bT hc2 hb2
  have hP2 := hP1.belowAll hb2
  have hR2 := hR1.belowAll hb2
  have hO2 := hO1.belowAll hb2
  have htab2 := htab1.over hb2
  have hsz3 : w.heap.size + 1 + 1 < w2.heap.size := Nat.lt_of_lt_of_le hsz2 hb2.size
  clear hP1 hR1 hO1 hb2 hc2 htab1
  have Htab := Lib.hid htab2; clear htab2
  have Hz2 := Lib.hid hz2; clear hz2
  obtain ⟨p0, p1, p2, p3, p4⟩ := tariffCells hP2
  have q1 : w2.cell? ⟨w.heap.size + 1 + 1, 1, none⟩ = some (.slice none 0 0) := hO2.cell 1
  have f1 := hO2.free 1
  have HP2 := Lib.hid hP2; clear hP2
  have HR2 := Lib.hid hR2; clear hR2
  have HO2 := Lib.hid hO2; clear hO2
  go_wp2_with fail
  generalize hW : World.setCell _ _ _ = W2
  have hP2 : Blk W2 w.heap.size 45 v.cells := by rw [← hW]; exact HP2.out.far (show w.heap.size ≠ w.heap.size + 1 + 1 by omega) _
  have hR2 : Blk W2 (w.heap.size + 1) 27 tariffZero := by rw [← hW]; exact HR2.out.far (by simp) _
  have hO2 := HO2.out.put 1 (.slice (some ⟨W1.heap.size, 0, none⟩) v.z.length v.z.length)
  rw [hW] at hO2
  have htab2 : TabNew W2 W0.heap.size v.L.length M := by rw [← hW]; exact Htab.out.far hsz _
  have hz3 : Starts W2 W1.heap.size 3 (v.z.length * 1) (v.z.flatMap intCells) := by rw [← hW]; exact Hz2.out.far (by simp; omega) _
  have hc4 : Below w.heap.size w W2 := by rw [← hW]; exact bS hc3 (by simp; omega) _
  have hsz4 : w.heap.size + 1 + 1 < W2.heap.size := by rw [← hW]; simpa using hsz3
  clear hW q1 f1 p0 p1 p2 p3 p4 HP2 HR2 HO2 Htab Hz2 hc3 hsz3
  refine (toBandS_any v.kA v.k.length v.kc v.k _ ((Hk.out.below hc4 (Nat.le_refl _)).more hc4.size) rfl s4).mono ?_
  rintro e w3 ⟨rfl, hk3, hb3⟩
  have hc5 : Below w.heap.size w w3 := bT hc4 hb3
  have hP3 := hP2.belowAll hb3
  have hR3 := hR2.belowAll hb3
  have hO3 := hO2.belowAll hb3
  have htab3 := htab2.over hb3
  have hz4 := hz3.below hb3 hz3.lt
  have hsz5 : w.heap.size + 1 + 1 < w3.heap.size := Nat.lt_of_lt_of_le hsz4 hb3.size
  have hW12 : w.heap.size + 1 + 1 < W1.heap.size := hsz2
  have hW22 : w.heap.size + 1 + 1 < W2.heap.size := hsz4
  clear hP2 hR2 hO2 hb3 hc4 htab2 hz3
  obtain ⟨p0, p1, p2, p3, p4⟩ := tariffCells hP3
  have q0 : w3.cell? ⟨w.heap.size + 1 + 1, 0, none⟩ = some (.slice (some ⟨W0.heap.size, 0, none⟩) v.L.length v.L.length) := hO3.cell 0
  have q1 : w3.cell? ⟨w.heap.size + 1 + 1, 1, none⟩ = some (.slice (some ⟨W1.heap.size, 0, none⟩) v.z.length v.z.length) := hO3.cell 1
  have q2 : w3.cell? ⟨w.heap.size + 1 + 1, 2, none⟩ = some (.slice none 0 0) := hO3.cell 2
  have q3 : w3.cell? ⟨w.heap.size + 1 + 1, 3, none⟩ = some (.int .i64 0) := hO3.cell 3
  have q4 : w3.cell? ⟨w.heap.size + 1 + 1, 4, none⟩ = some (.int .i64 0) := hO3.cell 4
  have r0 : w3.cell? ⟨w.heap.size + 1, 0, none⟩ = some (.slice none 0 0) := hR3.cell 0
  have r1 : w3.cell? ⟨w.heap.size + 1, 1, none⟩ = some (.slice none 0 0) := hR3.cell 1
  have r2 : w3.cell? ⟨w.heap.size + 1, 2, none⟩ = some (.slice none 0 0) := hR3.cell 2
  have r3 : w3.cell? ⟨w.heap.size + 1, 3, none⟩ = some (.int .i64 0) := hR3.cell 3
  have r4 : w3.cell? ⟨w.heap.size + 1, 4, none⟩ = some (.int .i64 0) := hR3.cell 4
  have f2 := hO3.free 2
  have f3 := hO3.free 3
  have f4 := hO3.free 4
  have g0 := hR3.free 0
  have g1 := hR3.free 1
  have g2 := hR3.free 2
  have g3 := hR3.free 3
  have g4 := hR3.free 4
  have HR3 := Lib.hid hR3; clear hP3 hR3 hO3
  have hlen : M.length = v.L.length := by rw [← rowsOf_length M, HM.out, rowsOf_length]
  obtain ⟨u, hu⟩ : ∃ u : TariffR, u = ⟨some ⟨W0.heap.size, 0, none⟩, v.L.length, M, some ⟨W1.heap.size, 0, none⟩, v.z.length, v.z, some ⟨W2.heap.size, 0, none⟩, v.k.length, v.k, v.e, v.t⟩ := ⟨_, rfl⟩
  have huv : tariffV u = .agg #[.slice (some ⟨W0.heap.size, 0, none⟩) v.L.length v.L.length, .slice (some ⟨W1.heap.size, 0, none⟩) v.z.length v.z.length, .slice (some ⟨W2.heap.size, 0, none⟩) v.k.length v.k.length, .int .i64 v.e, .int .i64 v.t] := by rw [hu]; unfold tariffV; rw [hlen]
  have hfin : ∀ w' : World, (∀ (g : Nat) (t : TypeId) (n : Nat) (vs : List Value), w.heap.size + 1 + 1 < g → Starts w3 g t n vs → Starts w' g t n vs) → u.of = v.of ∧ TariffIn w' w'.heap.size u ∧ TariffSmall u := fun w' hw' => by
    have hT : TabNew w' W0.heap.size v.L.length M := ⟨hw' _ _ _ _ hsz htab3.1, fun r hr => by
      obtain ⟨g, h1, h2, h3, h4, h5⟩ := htab3.2 r hr
      exact ⟨g, h1, h2, h3, h4, hw' _ _ _ _ (by omega) h5⟩⟩
    rw [hu]
    refine ⟨by unfold TariffR.of; rw [HM.out], ⟨hT.table, (hw' _ _ _ _ hW12 hz4).reads, (hw' _ _ _ _ hW22 hk3).reads, ?_⟩, ⟨by dsimp only; omega, hT.small, s3, s4⟩⟩
    unfold maxLen; dsimp only; omega
  have Hfin := Lib.hid hfin
  have Hc := Lib.hid hc5
  clear hfin hc5 htab3 hz4 hk3
  go_wp2
  generalize hW : World.setCell _ _ _ = Wf
  have hRf := ((((((((HR3.out.far (p := ⟨w.heap.size + 1 + 1, 2, none⟩) (show w.heap.size + 1 ≠ w.heap.size + 1 + 1 by omega) (.slice (some ⟨W2.heap.size, 0, none⟩) v.k.length v.k.length)).far (p := ⟨w.heap.size + 1 + 1, 3, none⟩) (show w.heap.size + 1 ≠ w.heap.size + 1 + 1 by omega) (.int .i64 v.e)).far (p := ⟨w.heap.size + 1 + 1, 4, none⟩) (show w.heap.size + 1 ≠ w.heap.size + 1 + 1 by omega) (.int .i64 v.t)).put 0 (.slice (some ⟨W0.heap.size, 0, none⟩) v.L.length v.L.length)).put 1 (.slice (some ⟨W1.heap.size, 0, none⟩) v.z.length v.z.length)).put 2 (.slice (some ⟨W2.heap.size, 0, none⟩) v.k.length v.k.length)).put 3 (.int .i64 v.e)).put 4 (.int .i64 v.t))
  rw [hW] at hRf
  have z0 : Wf.cell? ⟨w.heap.size + 1, 0, none⟩ = some (.slice (some ⟨W0.heap.size, 0, none⟩) v.L.length v.L.length) := hRf.cell 0
  have z1 : Wf.cell? ⟨w.heap.size + 1, 1, none⟩ = some (.slice (some ⟨W1.heap.size, 0, none⟩) v.z.length v.z.length) := hRf.cell 1
  have z2 : Wf.cell? ⟨w.heap.size + 1, 2, none⟩ = some (.slice (some ⟨W2.heap.size, 0, none⟩) v.k.length v.k.length) := hRf.cell 2
  have z3 : Wf.cell? ⟨w.heap.size + 1, 3, none⟩ = some (.int .i64 v.e) := hRf.cell 3
  have z4 : Wf.cell? ⟨w.heap.size + 1, 4, none⟩ = some (.int .i64 v.t) := hRf.cell 4
  have hst : ∀ (g : Nat) (t : TypeId) (n : Nat) (vs : List Value), w.heap.size + 1 + 1 < g → Starts w3 g t n vs → Starts Wf g t n vs := fun g t n vs hg hst => by rw [← hW]; exact ((((((((hst.far (by simp; omega) _).far (by simp; omega) _).far (by simp; omega) _).far (by simp; omega) _).far (by simp; omega) _).far (by simp; omega) _).far (by simp; omega) _).far (by simp; omega) _)
  have hcf : Below w.heap.size w Wf := by rw [← hW]; exact (bS (bS (bS (bS (bS (bS (bS (bS Hc.out (by simp <;> omega) _) (by simp <;> omega) _) (by simp <;> omega) _) (by simp <;> omega) _) (by simp <;> omega) _) (by simp <;> omega) _) (by simp <;> omega) _) (by simp <;> omega) _)
  clear hRf hW q0 q1 q2 q3 q4 r0 r1 r2 r3 r4 p0 p1 p2 p3 p4
  exact bodyPost_ret (v := tariffV u) (by simp [results, Try.results43, go_sem, huv, z0, z1, z2, z3, z4]) rfl ⟨⟨u, rfl, Hfin.out _ hst⟩, hcf⟩
set_option maxRecDepth 100000 in
set_option maxHeartbeats 1000000 in
theorem eqTariff_same (v u : TariffR) (w : World) (hi : TariffIn w w.heap.size v) (hj : TariffIn w w.heap.size u) (hs : TariffSmall v) (hs' : TariffSmall u) (h : v.of = u.of) :
    Calls Try.prog 44 #[tariffV v, tariffV u] w fun e w' => e = .returned (.bool true) ∧ Below w.heap.size w w' := by
  have h1 : rowsOf v.L = rowsOf u.L := congrArg Fares.Tariff.p h
  have h2 : v.z = u.z := congrArg Fares.Tariff.z h
  have h3 : v.k = u.k := congrArg Fares.Tariff.k h
  have h4 : v.e = u.e := congrArg Fares.Tariff.e h
  have h5 : v.t = u.t := congrArg Fares.Tariff.t h
  have e4 : (v.e != u.e) = false := by simp [h4]
  have e5 : (v.t != u.t) = false := by simp [h5]
  have H1 := Lib.hid h1; clear h1
  have H2 := Lib.hid h2; clear h2
  have H3 := Lib.hid h3; clear h3
  clear h h4 h5
  obtain ⟨ht, hz, hk, l1, l2, l3, l4, l5, l6⟩ := hi
  obtain ⟨s1, s2, s3, s4⟩ := hs
  obtain ⟨jt, jz, jk, m1, m2, m3, m4, m5, m6⟩ := hj
  obtain ⟨r1, r2, r3, r4⟩ := hs'
  have Ht := Lib.hid ht; clear ht
  have Hz := Lib.hid hz; clear hz
  have Hk := Lib.hid hk; clear hk
  have Jt := Lib.hid jt; clear jt
  have Jz := Lib.hid jz; clear jz
  have Jk := Lib.hid jk; clear jk
  have Hs2 := Lib.hid s2; clear s2
  have Hr2 := Lib.hid r2; clear r2
  unfold tariffV
  go_enter Try.func44, Try.ntmps44
  go_wp2_with fail
  generalize hW : World.alloc _ _ = W0
  have hA0 : Blk W0 w.heap.size 27 v.cells := by rw [← hW]; exact (Blk.new w _ _).alloc _
  have hB0 : Blk W0 (w.heap.size + 1) 27 u.cells := by rw [← hW]; exact Blk.new' (by simp)
  have hc0 : Below w.heap.size w W0 := by rw [← hW]; exact bA (bA (Below.refl _ _) _) _
  clear hW
  refine (eqIntSS_any v.pA u.pA v.L.length u.L.length v.pc u.pc v.L u.L _ (Ht.out.over hc0) (Jt.out.over hc0) rfl rfl s1 r1 Hs2.out Hr2.out).mono ?_
  rintro e w1 ⟨rfl, hb1⟩
  rw [decide_eq_true H1.out]
  have hc1 : Below w.heap.size w w1 := bT hc0 hb1
  have hA1 := hA0.belowAll hb1
  have hB1 := hB0.belowAll hb1
  clear hA0 hB0 hb1 hc0
  obtain ⟨p0, p1, p2, p3, p4⟩ := tariffCells hA1
  obtain ⟨q0, q1, q2, q3, q4⟩ := tariffCells hB1
  have HA1 := Lib.hid hA1; clear hA1
  have HB1 := Lib.hid hB1; clear hB1
  go_wp2_with fail
  refine (eqIntS_any v.zA u.zA v.z.length u.z.length v.zc u.zc v.z u.z _ ((Hz.out.below hc1 (Nat.le_refl _)).more hc1.size) ((Jz.out.below hc1 (Nat.le_refl _)).more hc1.size) rfl rfl (by omega) (by omega)).mono ?_
  rintro e w2 ⟨rfl, hb2⟩
  rw [decide_eq_true H2.out]
  have hc2 : Below w.heap.size w w2 := bT hc1 hb2
  have hA2 := HA1.out.belowAll hb2
  have hB2 := HB1.out.belowAll hb2
  clear p0 p1 p2 p3 p4 q0 q1 q2 q3 q4 HA1 HB1 hb2 hc1
  obtain ⟨p0, p1, p2, p3, p4⟩ := tariffCells hA2
  obtain ⟨q0, q1, q2, q3, q4⟩ := tariffCells hB2
  have HA2 := Lib.hid hA2; clear hA2
  have HB2 := Lib.hid hB2; clear hB2
  go_wp2_with fail
  refine (eqBandS_any v.kA u.kA v.k.length u.k.length v.kc u.kc v.k u.k _ ((Hk.out.below hc2 (Nat.le_refl _)).more hc2.size) ((Jk.out.below hc2 (Nat.le_refl _)).more hc2.size) rfl rfl (by omega) (by omega)).mono ?_
  rintro e w3 ⟨rfl, hb3⟩
  rw [decide_eq_true H3.out]
  have hc3 : Below w.heap.size w w3 := bT hc2 hb3
  have hA3 := HA2.out.belowAll hb3
  have hB3 := HB2.out.belowAll hb3
  clear p0 p1 p2 p3 p4 q0 q1 q2 q3 q4 HA2 HB2 hb3 hc2
  obtain ⟨p0, p1, p2, p3, p4⟩ := tariffCells hA3
  obtain ⟨q0, q1, q2, q3, q4⟩ := tariffCells hB3
  clear hA3 hB3
  go_wp2
  go_ret
  exact ⟨rfl, hc3⟩
end Go.Proofs.Ytgmphbkcblkmbaa
