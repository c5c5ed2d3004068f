/-
  Drawn tariffs.
-/
import Derived.Test.YtgmphbkcblkmbaaStTariff
import Derived.Test.YtgmphbkcblkmbaaDrawSpoil
import Derived.Test.YtgmphbkcblkmbaaDrawBand
set_option linter.unusedSimpArgs false
namespace Go.Proofs.Ytgmphbkcblkmbaa
open Go.RowKit Go.Deep
set_option linter.unusedVariables false

theorem info_rowD : (Try.prog.info? 24).map (fun i => (i.zero, i.size, i.bytes)) = some (some (.slice none 0 0), 1, 24) := by kernel_rfl
/-- The slice value v owns a table's cells. -/
def OwnRows (w : World) (base : Nat) (v : Value) (L : List RowR) : Prop := w.ownsRow base 24 1 v L.length (L.flatMap rowCells)
theorem OwnRows.snoc {w : World} {base g cap : Nat} {L : List RowR} {x : RowR}
    (h : w.ownsRow base 24 1 (.slice (some ⟨g, 0, none⟩) (L.length + 1) cap) (L.length + 1) (L.flatMap rowCells ++ rowCells x)) : OwnRows w base (.slice (some ⟨g, 0, none⟩) (L.length + 1) cap) (L ++ [x]) := by
  unfold OwnRows
  simpa using h
def rowV (r : RowR) : Value := .slice r.A r.xs.length r.c
def rowSmall (r : RowR) : Prop := r.xs.length ≤ 5 ∧ ∀ x ∈ r.xs, 0 ≤ x ∧ x ≤ 2000
/-- Each row owns its numbers, in a block that is not the table's (of value pv). -/
def RowsOwn (w : World) (base : Nat) (pv : Value) (L : List RowR) : Prop := ∀ r ∈ L, w.ownsRow base 3 1 (rowV r) r.xs.length (r.xs.flatMap intCells) ∧ rowSmall r ∧ ∀ k, (rowV r).ownBlock = some k → pv.ownBlock ≠ some k
section
variable {w w' : World} {base g : Nat} {pv : Value} {L : List RowR}
theorem RowsOwn.up (h : RowsOwn w base pv L) (o : Obj) : RowsOwn (w.alloc o) base pv L := fun r hr => ⟨World.ownsRow.alloc (h r hr).1 o, (h r hr).2⟩
theorem RowsOwn.drewn (h : RowsOwn w base pv L) : RowsOwn w.drew base pv L := h
theorem RowsOwn.kept (h : RowsOwn w base pv L) {row : Option Nat} (hg : w.grownBy w' row) (hne : ∀ r ∈ L, ∀ k, (rowV r).ownBlock = some k → row ≠ some k) : RowsOwn w' base pv L := fun r hr => ⟨World.ownsRow.kept (h r hr).1 hg (apart_of (fun k hk e => hne r hr k hk e)), (h r hr).2⟩
theorem RowsOwn.lt (h : RowsOwn w base pv L) {r : RowR} (hr : r ∈ L) {k : Nat} (hk : (rowV r).ownBlock = some k) : base ≤ k ∧ k < w.heap.size := World.ownsRow.lt (h r hr).1 k hk
theorem RowsOwn.rd (h : RowsOwn w base pv L) (hg : w.grownBy w' (some g)) (hb : g < base) : RowsOwn w' base pv L := h.kept hg (fun r hr k hk e => by have := (h.lt hr hk).1; injection e with e; omega)
theorem RowsOwn.row (h : RowsOwn w base pv L) {B : Nat} {rv : Value} (hg : w.grownBy w' rv.ownBlock) (hlt : ∀ r ∈ L, ∀ k, (rowV r).ownBlock = some k → k < B) (hrv : ∀ k, rv.ownBlock = some k → B ≤ k) : RowsOwn w' base pv L :=
  h.kept hg (fun r hr k hk e => by have := hlt r hr k hk; have := hrv k e; omega)
theorem RowsOwn.snoc (h : RowsOwn w base pv L) {x : RowR} (hx : w.ownsRow base 3 1 (rowV x) x.xs.length (x.xs.flatMap intCells)) (hl : rowSmall x) (hne : ∀ k, (rowV x).ownBlock = some k → pv.ownBlock ≠ some k) (hg : w.grownBy w' pv.ownBlock) {gb n cap : Nat} (hat : pv.ownBlock = some gb ∨ gb = w.heap.size) :
    RowsOwn w' base (.slice (some ⟨gb, 0, none⟩) n cap) (L ++ [x]) := by
  have hkk : ∀ k, (Value.slice (some ⟨gb, 0, none⟩ : Option Addr) n cap).ownBlock = some k → k = gb := fun k hk => by simp [Value.ownBlock] at hk; exact hk.symm
  have key : ∀ r : RowR, w.ownsRow base 3 1 (rowV r) r.xs.length (r.xs.flatMap intCells) → (∀ k, (rowV r).ownBlock = some k → pv.ownBlock ≠ some k) → w'.ownsRow base 3 1 (rowV r) r.xs.length (r.xs.flatMap intCells) ∧ ∀ k, (rowV r).ownBlock = some k → (Value.slice (some ⟨gb, 0, none⟩ : Option Addr) n cap).ownBlock ≠ some k := fun r h1 h2 =>
    ⟨World.ownsRow.kept h1 hg (apart_of (fun k hk e => h2 k hk e)), fun k hk e => by
      have e2 := hkk k e
      subst e2
      rcases hat with h | h
      · exact h2 _ hk h
      · have := (World.ownsRow.lt h1 _ hk).2
        omega⟩
  intro r hr
  rcases List.mem_append.1 hr with h' | h'
  · obtain ⟨a, b⟩ := key r (h r h').1 (h r h').2.2
    exact ⟨a, (h r h').2.1, b⟩
  · simp only [List.mem_singleton] at h'
    subst h'
    obtain ⟨a, b⟩ := key _ hx hne
    exact ⟨a, hl, b⟩
theorem RowsOwn.rowIn (h : RowsOwn w base pv L) {r : RowR} (hr : r ∈ L) : RowIn w w.heap.size r := by
  obtain ⟨A, c, e, h1, h2, h3⟩ := OwnInts.form (show OwnInts w base (rowV r) r.xs from (h r hr).1)
  unfold rowV at e
  injection e with e1 e2 e3
  exact ⟨by rw [e1]; exact h3, by omega, by omega⟩
theorem OwnRows.form {v : Value} (h : OwnRows w base v L) : ∃ (A : Option Addr) (c : Nat), v = .slice A L.length c ∧ L.length ≤ c ∧ c ≤ maxLen ∧ Reads w w.heap.size A (L.flatMap rowCells) := by
  rcases h.2 with ⟨rfl, h0⟩ | ⟨g, cap, cur, rfl, hb, hh, hn, hm, hs, ht⟩
  · have : L = [] := List.eq_nil_of_length_eq_zero h0
    subst this
    exact ⟨none, 0, rfl, Nat.le_refl _, Nat.zero_le _, Reads.nil _ _ _⟩
  · refine ⟨_, _, rfl, hn, hm, fun hne => ⟨_, rfl, ?_, World.ownsRow.cells h (g := g) rfl⟩⟩
    exact (World.ownsRow.lt h g rfl).2
theorem OwnRows.table {A : Option Addr} {n c : Nat} (h : OwnRows w base (.slice A n c) L) (hr : RowsOwn w base pv L) : Table w w.heap.size A L := by
  obtain ⟨A', c', e, _, _, h3⟩ := OwnRows.form h
  injection e with e1 e2 e3
  subst e1
  exact ⟨h3, fun r hm => hr.rowIn hm⟩
end
def AtLeast (B : Nat) (w : World) : Prop := B ≤ w.heap.size
theorem AtLeast.up {B : Nat} {w : World} (h : AtLeast B w) (o : Obj) : AtLeast B (w.alloc o) := by unfold AtLeast at *; rw [World.size_alloc]; omega
theorem AtLeast.drewn {B : Nat} {w : World} (h : AtLeast B w) : AtLeast B w.drew := h
theorem AtLeast.grown {B : Nat} {w w' : World} {row : Option Nat} (h : AtLeast B w) (hg : w.grownBy w' row) : AtLeast B w' := Nat.le_trans h hg.size
/-- A tariff that was drawn. -/
def SomeTariff (g p : Nat) (w : World) (e : Ending) (w' : World) : Prop :=
  ∃ (u : TariffR) (q : Nat), e = .returned (tariffV u) ∧ OwnRows w' w.heap.size (.slice u.pA u.L.length u.pc) u.L ∧ RowsOwn w' w.heap.size (.slice u.pA u.L.length u.pc) u.L ∧ 1 ≤ u.L.length ∧ u.L.length ≤ 5 ∧ OwnInts w' w.heap.size (.slice u.zA u.z.length u.zc) u.z ∧ u.z.length ≤ 10 ∧ (∀ x ∈ u.z, 0 ≤ x ∧ x ≤ 5) ∧
    Bands w' w'.heap.size u.kA u.k ∧ u.k.length ≤ u.kc ∧ u.kc ≤ maxLen ∧ u.k.length ≤ 1 ∧ (∀ a, u.kA = some a → w.heap.size ≤ a.block ∧ a.block < w'.heap.size) ∧ (∀ k, (Value.slice u.zA u.z.length u.zc).ownBlock = some k → (Value.slice u.pA u.L.length u.pc).ownBlock ≠ some k) ∧ (∀ a, u.kA = some a → (Value.slice u.pA u.L.length u.pc).ownBlock ≠ some a.block) ∧ q ≤ p + 60 ∧ Rd w' g q ∧ w.grownBy w' (some g)

set_option maxRecDepth 100000 in
set_option maxHeartbeats 2000000 in
theorem randomTariff_any (g p : Nat) (w : World) (hr : Rd w g p) (hp : p ≤ 40000) :
    Calls Try.prog 109 #[.pointer (some ⟨g, 0, none⟩)] w (SomeTariff g p w) := by
  obtain ⟨ti, hi0, hz0, hz1, hz2⟩ := info_parts info_intS
  have HIInt := Lib.hid hi0; clear hi0
  have HZ0Int := Lib.hid hz0; clear hz0
  have HZ1Int := Lib.hid hz1; clear hz1
  have HZ2Int := Lib.hid hz2; clear hz2
  obtain ⟨tr, hi0, hz0, hz1, hz2⟩ := info_parts info_rowD
  have HIRow := Lib.hid hi0; clear hi0
  have HZ0Row := Lib.hid hz0; clear hz0
  have HZ1Row := Lib.hid hz1; clear hz1
  have HZ2Row := Lib.hid hz2; clear hz2
  have hgw := hr.lt
  have Hr0 := Lib.hid hr; clear hr
  have HG0 := Lib.hid (grown_refl w (some g))
  go_enter Try.func109, Try.ntmps109
  have Hkres0 := Lib.hid (Blk.new' (w := w) (t := 27) (cs := #[.slice none 0 0, .slice none 0 0, .slice none 0 0, .int .i64 0, .int .i64 0]) (b := w.heap.size) (by (try simp)))
  go_wp2_with fail
  refine (one_in g (p) _ [2, 3, 1, 4, 5] (1) 5 5 5 _ _ (Rd.alloc (Rd.alloc Hr0.out _) _) (by omega) (Blk.new' (by simp)) (by have := (Hr0.out).lt; (try simp); omega) rfl rfl (by omega) (by omega) (by decide)).mono ?_
  rintro e w1 ⟨n, rfl, n0, n1, hr1, hg1⟩
  have HG1 := Lib.hid (grown_trans (grown_alloc (grown_alloc HG0.out _) _) hg1)
  clear HG0
  have Hres1 := Lib.hid (Blk.grown (Blk.alloc Hkres0.out _) hg1 (by intro e; injection e with e; omega))
  clear Hkres0
  clear hg1
  clear Hr0
  have Hrd1 := Lib.hid hr1; clear hr1
  have hgl1 : g < w1.heap.size := (Hrd1.out).lt
  obtain ⟨nn, rfl⟩ := Int.eq_ofNat_of_zero_le (show 0 ≤ n by omega)
  go_wp2_with fail
  refine (one_in g (p + 1) _ [50, 0, 25, 100, 33] (0) 100 5 5 _ _ (Rd.alloc Hrd1.out _) (by omega) (Blk.new' (by simp)) (by have := (Hrd1.out).lt; (try simp); omega) rfl rfl (by omega) (by omega) (by decide)).mono ?_
  rintro e w2 ⟨ex, rfl, ex0, ex1, hr2, hg2⟩
  have HG2 := Lib.hid (grown_trans (grown_alloc HG1.out _) hg2)
  clear HG1
  have Hres2 := Lib.hid (Blk.grown (Blk.alloc Hres1.out _) hg2 (by intro e; injection e with e; omega))
  clear Hres1
  clear hg2
  clear Hrd1
  have Hrd2 := Lib.hid hr2; clear hr2
  have hgl2 : g < w2.heap.size := (Hrd2.out).lt
  go_wp2_with fail
  refine (one_in g (p + 1 + 1) _ [500, 900, 0, 4000] (0) 4000 4 4 _ _ (Rd.alloc Hrd2.out _) (by omega) (Blk.new' (by simp)) (by have := (Hrd2.out).lt; (try simp); omega) rfl rfl (by omega) (by omega) (by decide)).mono ?_
  rintro e w3 ⟨tp, rfl, tp0, tp1, hr3, hg3⟩
  have HG3 := Lib.hid (grown_trans (grown_alloc HG2.out _) hg3)
  clear HG2
  have Hres3 := Lib.hid (Blk.grown (Blk.alloc Hres2.out _) hg3 (by intro e; injection e with e; omega))
  clear Hres2
  clear hg3
  clear Hrd2
  have Hrd3 := Lib.hid hr3; clear hr3
  have hgl3 : g < w3.heap.size := (Hrd3.out).lt
  have hsz3 := (HG3.out).size
  have hg3 : g < w3.heap.size := by omega
  have hres3 : w.heap.size < w3.heap.size := Hres3.out.lt
  have Hktv3 := Lib.hid (Blk.new' (w := w3) (t := 27) (cs := #[.slice none 0 0, .slice none 0 0, .slice none 0 0, .int .i64 ex, .int .i64 tp]) (b := w3.heap.size) (by (try simp)))
  have hP0 := World.ownsRow_lit (base := w3.heap.size + 1) (e := 24) (size := 1) (w3.alloc (.cells #[.slice none 0 0, .slice none 0 0, .slice none 0 0, .int .i64 ex, .int .i64 tp] 27)) #[] 0 (by rw [World.size_alloc]; omega) (by unfold maxLen; omega) rfl
  rw [World.size_alloc] at hP0
  have HP0 := Lib.hid hP0; clear hP0
  go_wp2
  go_loopw [5, 6] (fun v i wr => ∃ (L : List RowR) (q : Nat), OwnRows wr (w3.heap.size + 1) v L ∧ RowsOwn wr (w3.heap.size + 1) v L ∧ i = .int .i64 (L.length : Int) ∧ L.length ≤ nn ∧ q ≤ p + 3 + 5 * L.length ∧ Rd wr g q ∧ w.grownBy wr (some g) ∧ Blk wr w.heap.size 27 #[.slice none 0 0, .slice none 0 0, .slice none 0 0, .int .i64 0, .int .i64 0] ∧ Blk wr w3.heap.size 27 #[.slice none 0 0, .slice none 0 0, .slice none 0 0, .int .i64 ex, .int .i64 tp]) (fun _ i _ => nn - (intOf i).toNat)
  case atStart => exact ⟨[], p + 3, HP0.out, (fun r hr => by cases hr), rfl, Nat.zero_le _, Nat.le_refl _, (Rd.alloc (Rd.alloc Hrd3.out _) _), (grown_alloc (grown_alloc HG3.out _) _), (Blk.alloc (Blk.alloc Hres3.out _) _), (Blk.alloc Hktv3.out _)⟩
  case round =>
    obtain ⟨L, q, hown, hrows, rfl, hkn, hq, hrd, hg, hres, htv⟩ := hrel
    have Hr := Lib.hid hrd; clear hrd
    have HG := Lib.hid hg; clear hg
    have Hpr := Lib.hid hown; clear hown
    have Hrows := Lib.hid hrows; clear hrows
    have Hres := Lib.hid hres; clear hres
    have Htv := Lib.hid htv; clear htv
    have hgtl : w3.heap.size < wr.heap.size := Htv.out.lt
    have hresl : w.heap.size < wr.heap.size := Hres.out.lt
    obtain ⟨Ap, cp, rfl, hcp1, hcp2, hprs⟩ := OwnRows.form Hpr.out
    clear hprs
    by_cases hlt : L.length < nn
    · have hk1 : (L.length : Int) < (nn : Int) := by omega
      have Hlt2 := Lib.hid (fun (r : RowR) (hr : r ∈ L) (k : Nat) (hk : (rowV r).ownBlock = some k) => (Hrows.out.lt hr hk).2)
      have Hltp := Lib.hid (fun (k : Nat) (hk : (Value.slice Ap L.length cp).ownBlock = some k) => (World.ownsRow.lt Hpr.out k hk).2)
      obtain ⟨B2, hB2⟩ : ∃ B2, B2 = wr.heap.size := ⟨_, rfl⟩
      rw [← hB2] at Hlt2 Hltp
      have hB2a : w3.heap.size < B2 := by omega
      have hB2b : B2 ≤ wr.heap.size := by omega
      have HB2 := Lib.hid hB2; clear hB2
      have HR0 := Lib.hid (World.ownsRow_lit (base := B2) (e := 3) (size := 1) wr #[] 0 (by omega) (by unfold maxLen; omega) rfl)
      go_wp2
      go_loopw [7, 8] (fun v2 j2 wi => ∃ (ys : List Int) (q2 : Nat), OwnInts wi B2 v2 ys ∧ j2 = .int .i64 (ys.length : Int) ∧ ys.length ≤ nn ∧ AtLeast B2 wi ∧ (∀ x ∈ ys, 0 ≤ x ∧ x ≤ 2000) ∧ q2 ≤ q + ys.length ∧ OwnRows wi (w3.heap.size + 1) (.slice Ap L.length cp) L ∧ RowsOwn wi (w3.heap.size + 1) (.slice Ap L.length cp) L ∧ Rd wi g q2 ∧ w.grownBy wi (some g) ∧ Blk wi w.heap.size 27 #[.slice none 0 0, .slice none 0 0, .slice none 0 0, .int .i64 0, .int .i64 0] ∧ Blk wi w3.heap.size 27 #[.slice none 0 0, .slice none 0 0, .slice none 0 0, .int .i64 ex, .int .i64 tp]) (fun _ j2 _ => nn - (intOf j2).toNat)
      case atStart => exact ⟨[], q, HR0.out, rfl, Nat.zero_le _, (show B2 ≤ _ by rw [World.size_alloc]; omega), (fun x hx => by cases hx), Nat.le_refl _, (World.ownsRow.alloc Hpr.out _), (RowsOwn.up Hrows.out _), (Rd.alloc Hr.out _), (grown_alloc HG.out _), (Blk.alloc Hres.out _), (Blk.alloc Htv.out _)⟩
      case round =>
        clear Hr HG Hpr Hrows Hres Htv HR0
        obtain ⟨ys, q2, hrow, rfl, hjn, hal, hyb, hq2, hpr, hrows, hrd, hg, hres, htv⟩ := hrel
        have Hr := Lib.hid hrd; clear hrd
        have HG := Lib.hid hg; clear hg
        have Hpr := Lib.hid hpr; clear hpr
        have Hrows := Lib.hid hrows; clear hrows
        have Hres := Lib.hid hres; clear hres
        have Htv := Lib.hid htv; clear htv
        have Hyb := Lib.hid hyb; clear hyb
        have Hal := Lib.hid hal; clear hal
        have hgtl2 : w3.heap.size < wr.heap.size := Htv.out.lt
        obtain ⟨Ar, cr, rfl, hcr1, hcr2, hrrs⟩ := OwnInts.form hrow
        clear hrrs
        have Hrow := Lib.hid hrow; clear hrow
        by_cases hlt2 : ys.length < nn
        · have hj1 : (ys.length : Int) < (nn : Int) := by omega
          go_wp2_with fail
          refine (one_in g (q2) _ [200, 250, 300, 410, 150, 0, 2000] (0) 2000 7 7 _ _ (Rd.alloc Hr.out _) (by omega) (Blk.new' (by simp)) (by have := (Hr.out).lt; (try simp); omega) rfl rfl (by omega) (by omega) (by decide)).mono ?_
          rintro e w21 ⟨x, rfl, x0, x1, hr21, hg21⟩
          have HG21 := Lib.hid (grown_trans (grown_alloc HG.out _) hg21)
          clear HG
          have Hpr21 := Lib.hid (World.ownsRow.kept (World.ownsRow.alloc Hpr.out _) hg21 (apart_of (fun j hj e => by have := (World.ownsRow.lt Hpr.out j hj).1; injection e with e; omega)))
          clear Hpr
          have Hres21 := Lib.hid (Blk.grown (Blk.alloc Hres.out _) hg21 (by intro e; injection e with e; omega))
          clear Hres
          have Htv21 := Lib.hid (Blk.grown (Blk.alloc Htv.out _) hg21 (by intro e; injection e with e; omega))
          clear Htv
          have Hrows21 := Lib.hid (RowsOwn.rd (RowsOwn.up Hrows.out _) hg21 (by omega))
          clear Hrows
          have Hrow21 := Lib.hid (World.ownsRow.kept (World.ownsRow.alloc Hrow.out _) hg21 (apart_of (fun j hj e => by have := (World.ownsRow.lt Hrow.out j hj).1; injection e with e; omega)))
          clear Hrow
          have Hal21 := Lib.hid (AtLeast.grown (AtLeast.up Hal.out _) hg21)
          clear Hal
          clear hg21
          clear Hr
          have Hrd21 := Lib.hid hr21; clear hr21
          have hgl21 : g < w21.heap.size := (Hrd21.out).lt
          have hgB : g < B2 := by omega
          have hal2 : B2 ≤ w21.heap.size := Hal21.out
          have hsz22 := (HG21.out).size
          go_wp2_with (at_builtin; refine wpList_append_lies _ rfl (.tmp 33) (.tmp 37) _ rfl (B2) 3 ti _ 1 8 Try.underlying24 HIInt.out HZ0Int.out HZ1Int.out HZ2Int.out rfl (by omega) _ _ _ rfl (World.ownsRow.alloc Hrow21.out _) ⟨w21.heap.size, 0, none⟩ 1 1 (intCells x) rfl rfl ?c1 ?c2 (by omega) ?c3 ?c4 ?c5 _ rfl ?_)
          case c1 => exact World.news_of_block (Blk.new' (t := 3) (cs := #[.int .i64 x]) (by simp))
          case c2 => simp [intCells, Value.oneCell']
          case c3 => unfold maxLen; omega
          case c4 => omega
          case c5 => first | omega | (simp; omega) | simp
          intro gb22 cap22 w22 hown22 hgrow22 hat22 hlt22
          have HX22 := Lib.hid (OwnInts.snoc hown22); clear hown22 hat22
          have Hrd22 := Lib.hid (Rd.grown_new (Rd.alloc Hrd21.out _) hgrow22 (fun r hr => by have := (World.ownsRow.lt Hrow21.out r hr).1; omega))
          clear Hrd21
          have HG22 := Lib.hid (grown_new (grown_alloc HG21.out _) hgrow22 (fun r hr => by have := (World.ownsRow.lt Hrow21.out r hr).1; omega))
          clear HG21
          have Hpr22 := Lib.hid (World.ownsRow.kept (World.ownsRow.alloc Hpr21.out _) hgrow22 (apart_of (fun j hj e => by have h1 := Hltp.out j hj; have h2 := (World.ownsRow.lt Hrow21.out j e).1; omega)))
          clear Hpr21
          have Hres22 := Lib.hid (Blk.grown (Blk.alloc Hres21.out _) hgrow22 (by intro e; have := (World.ownsRow.lt Hrow21.out _ e.symm).1; omega))
          clear Hres21
          have Htv22 := Lib.hid (Blk.grown (Blk.alloc Htv21.out _) hgrow22 (by intro e; have := (World.ownsRow.lt Hrow21.out _ e.symm).1; omega))
          clear Htv21
          have Hrows22 := Lib.hid (RowsOwn.row (RowsOwn.up Hrows21.out _) hgrow22 Hlt2.out (fun k hk => (World.ownsRow.lt Hrow21.out k hk).1))
          clear Hrows21
          have Hal22 := Lib.hid (AtLeast.grown (AtLeast.up Hal21.out _) hgrow22)
          clear Hal21
          clear hgrow22
          clear Hrow21
          go_wp2
          go_roundw
          case rel => exact ⟨ys ++ [x], q2 + 1, HX22.out, by first | (simp; done) | (rw [List.length_append]; go_num) | go_num, by rw [List.length_append, List.length_singleton]; omega, Hal22.out, (fun y h => by
                  rcases List.mem_append.1 h with h | h
                  · exact Hyb.out y h
                  · simp at h; subst h; exact ⟨x0, x1⟩), by rw [List.length_append, List.length_singleton]; omega, Hpr22.out, Hrows22.out, Hrd22.out, HG22.out, Hres22.out, Htv22.out⟩
          case measure => simp [intOf]; omega
        · have hj1 : decide ((ys.length : Int) < (nn : Int)) = false := by simp; omega
          have hal2 : B2 ≤ wr.heap.size := Hal.out
          have hsz21 := (HG.out).size
          go_wp2_with (at_builtin; refine wpList_append_lies _ rfl (.tmp 39) (.tmp 41) _ rfl (w3.heap.size + 1) 24 tr _ 1 24 Try.underlying23 HIRow.out HZ0Row.out HZ1Row.out HZ2Row.out rfl (by omega) _ _ _ rfl (World.ownsRow.alloc Hpr.out _) ⟨wr.heap.size, 0, none⟩ 1 1 (rowCells (⟨Ar, cr, ys⟩ : RowR)) rfl rfl ?c1 ?c2 (by omega) ?c3 ?c4 ?c5 _ rfl ?_)
          case c1 => exact World.news_of_block (Blk.new' (t := 24) (cs := #[.slice Ar ys.length cr]) (by simp))
          case c2 => simp [rowCells, Value.oneCell']
          case c3 => unfold maxLen; omega
          case c4 => omega
          case c5 => first | omega | (simp; omega) | simp
          intro gb21 cap21 w21 hown21 hgrow21 hat21 hlt21
          have HX21 := Lib.hid (OwnRows.snoc hown21); clear hown21
          have Hrd21 := Lib.hid (Rd.grown_new (Rd.alloc Hr.out _) hgrow21 (fun r hr => by have := (World.ownsRow.lt Hpr.out r hr).1; omega))
          clear Hr
          have HG21 := Lib.hid (grown_new (grown_alloc HG.out _) hgrow21 (fun r hr => by have := (World.ownsRow.lt Hpr.out r hr).1; omega))
          clear HG
          have Hres21 := Lib.hid (Blk.grown (Blk.alloc Hres.out _) hgrow21 (by intro e; have := (World.ownsRow.lt Hpr.out _ e.symm).1; omega))
          clear Hres
          have Htv21 := Lib.hid (Blk.grown (Blk.alloc Htv.out _) hgrow21 (by intro e; have := (World.ownsRow.lt Hpr.out _ e.symm).1; omega))
          clear Htv
          
          clear Hpr
          have hx : World.ownsRow (wr.alloc (.cells #[.slice Ar ys.length cr] 24)) (w3.heap.size + 1) 3 1 (rowV (⟨Ar, cr, ys⟩ : RowR)) ys.length (ys.flatMap intCells) := by exact ownBase (World.ownsRow.alloc Hrow.out (.cells #[.slice Ar ys.length cr] 24)) (by omega)
          have HR := Lib.hid (RowsOwn.snoc (RowsOwn.up Hrows.out _) hx ⟨(show ys.length ≤ 5 by omega), Hyb.out⟩ (fun k hk e => by have h1 := (World.ownsRow.lt Hrow.out k hk).1; have h2 := Hltp.out k e; omega) hgrow21 (gb := gb21) (by rw [World.size_alloc]; exact hat21) (n := L.length + 1) (cap := cap21))
          go_wp2
          go_roundw
          case rel => exact ⟨L ++ [(⟨Ar, cr, ys⟩ : RowR)], q2, HX21.out, HR.out, by first | (simp; done) | (rw [List.length_append]; go_num) | go_num, by rw [List.length_append, List.length_singleton]; omega, by rw [List.length_append, List.length_singleton]; omega, Hrd21.out, HG21.out, Hres21.out, Htv21.out⟩
          case measure => simp [intOf]; omega
    · have hk1 : decide ((L.length : Int) < (nn : Int)) = false := by simp; omega
      have hLn : L.length = nn := by omega
      have HLn := Lib.hid hLn; clear hLn
      have Hlt3 := Lib.hid (fun (r : RowR) (hr : r ∈ L) (k : Nat) (hk : (rowV r).ownBlock = some k) => (Hrows.out.lt hr hk).2)
      have Hltp3 := Lib.hid (fun (k : Nat) (hk : (Value.slice Ap L.length cp).ownBlock = some k) => (World.ownsRow.lt Hpr.out k hk).2)
      have hgl10 : g < wr.heap.size := (Hr.out).lt
      obtain ⟨Bz, hBz⟩ : ∃ Bz, Bz = wr.heap.size := ⟨_, rfl⟩
      rw [← hBz] at Hlt3 Hltp3
      have hBa : w3.heap.size < Bz := by omega
      have hBb : Bz ≤ wr.heap.size := by omega
      have HBz := Lib.hid hBz; clear hBz
      have HalZ : Hid (AtLeast Bz wr) := Lib.hid hBb
      have q0 : wr.cell? ⟨w3.heap.size, 0, none⟩ = some (.slice none 0 0) := Htv.out.cell 0
      have f0 := Htv.out.free 0
      have hgS11 : wr.grownBy (wr.setCell ⟨w3.heap.size, 0, none⟩ (.slice Ap L.length cp)) (some w3.heap.size) := grown_setCell (grown_refl _ _) (.inl rfl) _
      have Hrd11 := Lib.hid (Rd.grown_new Hr.out hgS11 (fun r hr => by injection hr with hr; omega))
      have HG11 := Lib.hid (grown_new HG.out hgS11 (fun r hr => by injection hr with hr; omega))
      have Hpr11 := Lib.hid (World.ownsRow.kept Hpr.out hgS11 (apart_of (fun j hj e => by have := (World.ownsRow.lt Hpr.out j hj).1; injection e with e; omega)))
      have Hres11 := Lib.hid (Blk.grown Hres.out hgS11 (by intro e; injection e with e; omega))
      have Hrows11 := Lib.hid (RowsOwn.kept Hrows.out hgS11 (fun r hr k hk e => by have := (RowsOwn.lt Hrows.out hr hk).1; injection e with e; omega))
      have Hal11 := Lib.hid (AtLeast.grown HalZ.out hgS11)
      have Htv11 := Lib.hid (Blk.put Htv.out 0 (.slice Ap L.length cp))
      have hZ0 := World.ownsRow_lit (base := Bz) (e := 3) (size := 1) (wr.setCell ⟨w3.heap.size, 0, none⟩ (.slice Ap L.length cp)) #[] 0 (by rw [World.size_setCell]; omega) (by unfold maxLen; omega) rfl
      simp only [World.size_setCell] at hZ0
      have HZ0 := Lib.hid hZ0; clear hZ0
      go_wp2_with fail
      refine (one_in g (q) _ [4, 6, 5, 10, 3, 1] (1) 10 6 6 _ _ (Rd.alloc (Rd.alloc Hrd11.out _) _) (by omega) (Blk.new' (by simp)) (by have := (Hrd11.out).lt; (try simp); omega) rfl rfl (by omega) (by omega) (by decide)).mono ?_
      rintro e w12 ⟨m, rfl, m0, m1, hr12, hg12⟩
      have HG12 := Lib.hid (grown_trans (grown_alloc (grown_alloc HG11.out _) _) hg12)
      clear HG11
      have Hpr12 := Lib.hid (World.ownsRow.kept (World.ownsRow.alloc (World.ownsRow.alloc Hpr11.out _) _) hg12 (apart_of (fun j hj e => by have := (World.ownsRow.lt Hpr11.out j hj).1; injection e with e; omega)))
      clear Hpr11
      have Hres12 := Lib.hid (Blk.grown (Blk.alloc (Blk.alloc Hres11.out _) _) hg12 (by intro e; injection e with e; omega))
      clear Hres11
      have Htv12 := Lib.hid (Blk.grown (Blk.alloc (Blk.alloc Htv11.out _) _) hg12 (by intro e; injection e with e; omega))
      have Hrows12 := Lib.hid (RowsOwn.rd (RowsOwn.up (RowsOwn.up Hrows11.out _) _) hg12 (by omega))
      clear Hrows11
      have Hal12 := Lib.hid (AtLeast.grown (AtLeast.up (AtLeast.up Hal11.out _) _) hg12)
      clear Hal11
      have Hzs12 := Lib.hid (World.ownsRow.kept (World.ownsRow.alloc HZ0.out _) hg12 (apart_of (fun j hj e => by have := (World.ownsRow.lt HZ0.out j hj).1; injection e with e; omega)))
      clear HZ0
      clear hg12
      clear Hrd11
      have Hrd12 := Lib.hid hr12; clear hr12
      have hgl12 : g < w12.heap.size := (Hrd12.out).lt
      clear q0 f0
      obtain ⟨mm, rfl⟩ := Int.eq_ofNat_of_zero_le (show 0 ≤ m by omega)
      go_wp2
      go_loopw [9, 10] (fun v3 m3 wz => ∃ (zs : List Int) (k q3 : Nat), OwnInts wz Bz v3 zs ∧ m3 = .int .i64 (k : Int) ∧ zs.length + k ≤ 10 ∧ AtLeast Bz wz ∧ (∀ x ∈ zs, 0 ≤ x ∧ x ≤ 5) ∧ q3 + k ≤ q + 11 ∧ OwnRows wz (w3.heap.size + 1) (.slice Ap L.length cp) L ∧ RowsOwn wz (w3.heap.size + 1) (.slice Ap L.length cp) L ∧ Rd wz g q3 ∧ w.grownBy wz (some g) ∧ Blk wz w.heap.size 27 #[.slice none 0 0, .slice none 0 0, .slice none 0 0, .int .i64 0, .int .i64 0] ∧ Blk wz w3.heap.size 27 #[.slice Ap L.length cp, .slice none 0 0, .slice none 0 0, .int .i64 ex, .int .i64 tp]) (fun _ m3 _ => (intOf m3).toNat)
      case atStart => exact ⟨[], mm, q + 1, Hzs12.out, rfl, by simp; omega, Hal12.out, (fun x hx => by cases hx), by omega, Hpr12.out, Hrows12.out, Hrd12.out, HG12.out, Hres12.out, Htv12.out⟩
      case round =>
        clear Hr HG Hpr Hrows Hres Htv HalZ
        obtain ⟨zs, k, q3, hzs, rfl, hzk, hal, hzb, hq3, hpr, hrows, hrd, hg, hres, htv⟩ := hrel
        have Hr := Lib.hid hrd; clear hrd
        have HG := Lib.hid hg; clear hg
        have Hpr := Lib.hid hpr; clear hpr
        have Hrows := Lib.hid hrows; clear hrows
        have Hres := Lib.hid hres; clear hres
        have Htv := Lib.hid htv; clear htv
        have Hzb := Lib.hid hzb; clear hzb
        have Hal := Lib.hid hal; clear hal
        obtain ⟨Az, cz, rfl, hcz1, hcz2, hzrs⟩ := OwnInts.form hzs
        clear hzrs
        have Hzs := Lib.hid hzs; clear hzs
        have hgl30 : g < wr.heap.size := (Hr.out).lt
        by_cases hk0 : 0 < k
        · have hk1 : (0 : Int) < (k : Int) := by omega
          have hnn : (0 : Int) < (nn : Int) := by omega
          go_wp2_with fail
          refine (pick_any g (q3) ((nn : Int)) _ Hr.out (by omega)).mono ?_
          rintro e w31 ⟨a, rfl, a0, a1, hr31, hg31⟩
          have a2 := a1 (by omega)
          clear a1
          have HG31 := Lib.hid (grown_trans HG.out hg31)
          clear HG
          have Hres31 := Lib.hid (Blk.grown Hres.out hg31 (by intro e; injection e with e; omega))
          clear Hres
          have Htv31 := Lib.hid (Blk.grown Htv.out hg31 (by intro e; injection e with e; omega))
          clear Htv
          have Hpr31 := Lib.hid (World.ownsRow.kept Hpr.out hg31 (apart_of (fun j hj e => by have := (World.ownsRow.lt Hpr.out j hj).1; injection e with e; omega)))
          clear Hpr
          have Hrows31 := Lib.hid (RowsOwn.rd Hrows.out hg31 (by omega))
          clear Hrows
          have Hzs31 := Lib.hid (World.ownsRow.kept Hzs.out hg31 (apart_of (fun j hj e => by have := (World.ownsRow.lt Hzs.out j hj).1; injection e with e; omega)))
          clear Hzs
          have Hal31 := Lib.hid (AtLeast.grown Hal.out hg31)
          clear Hal
          clear hg31
          clear Hr
          have Hrd31 := Lib.hid hr31; clear hr31
          have hgl31 : g < w31.heap.size := (Hrd31.out).lt
          have hal2 : Bz ≤ w31.heap.size := Hal31.out
          have hsz32 := (HG31.out).size
          go_wp2_with (at_builtin; refine wpList_append_lies _ rfl (.tmp 53) (.tmp 57) _ rfl (Bz) 3 ti _ 1 8 Try.underlying24 HIInt.out HZ0Int.out HZ1Int.out HZ2Int.out rfl (by omega) _ _ _ rfl (World.ownsRow.alloc Hzs31.out _) ⟨w31.heap.size, 0, none⟩ 1 1 (intCells a) rfl rfl ?c1 ?c2 (by omega) ?c3 ?c4 ?c5 _ rfl ?_)
          case c1 => exact World.news_of_block (Blk.new' (t := 3) (cs := #[.int .i64 a]) (by simp))
          case c2 => simp [intCells, Value.oneCell']
          case c3 => unfold maxLen; omega
          case c4 => omega
          case c5 => first | omega | (simp; omega) | simp
          intro gb32 cap32 w32 hown32 hgrow32 hat32 hlt32
          have HX32 := Lib.hid (OwnInts.snoc hown32); clear hown32 hat32
          have Hrd32 := Lib.hid (Rd.grown_new (Rd.alloc Hrd31.out _) hgrow32 (fun r hr => by have := (World.ownsRow.lt Hzs31.out r hr).1; omega))
          clear Hrd31
          have HG32 := Lib.hid (grown_new (grown_alloc HG31.out _) hgrow32 (fun r hr => by have := (World.ownsRow.lt Hzs31.out r hr).1; omega))
          clear HG31
          have Hres32 := Lib.hid (Blk.grown (Blk.alloc Hres31.out _) hgrow32 (by intro e; have := (World.ownsRow.lt Hzs31.out _ e.symm).1; omega))
          clear Hres31
          have Htv32 := Lib.hid (Blk.grown (Blk.alloc Htv31.out _) hgrow32 (by intro e; have := (World.ownsRow.lt Hzs31.out _ e.symm).1; omega))
          clear Htv31
          have Hpr32 := Lib.hid (World.ownsRow.kept (World.ownsRow.alloc Hpr31.out _) hgrow32 (apart_of (fun j hj e => by have h1 := Hltp3.out j hj; have h2 := (World.ownsRow.lt Hzs31.out j e).1; omega)))
          clear Hpr31
          have Hrows32 := Lib.hid (RowsOwn.row (RowsOwn.up Hrows31.out _) hgrow32 Hlt3.out (fun k hk => (World.ownsRow.lt Hzs31.out k hk).1))
          clear Hrows31
          have Hal32 := Lib.hid (AtLeast.grown (AtLeast.up Hal31.out _) hgrow32)
          clear Hal31
          clear hgrow32
          clear Hzs31
          obtain ⟨k', rfl⟩ : ∃ k', k = k' + 1 := ⟨k - 1, by omega⟩
          go_wp2
          go_roundw
          case rel => exact ⟨zs ++ [a], k', q3 + 1, HX32.out, by go_num, by rw [List.length_append, List.length_singleton]; omega, Hal32.out, (fun y h => by
                  rcases List.mem_append.1 h with h | h
                  · exact Hzb.out y h
                  · simp at h; subst h; omega), by omega, Hpr32.out, Hrows32.out, Hrd32.out, HG32.out, Hres32.out, Htv32.out⟩
          case measure => simp [intOf]
        · have hk1 : decide ((0 : Int) < (k : Int)) = false := by simp; omega
          have q1 : wr.cell? ⟨w3.heap.size, 1, none⟩ = some (.slice none 0 0) := Htv.out.cell 1
          have f1 := Htv.out.free 1
          have hgS31 : wr.grownBy (wr.setCell ⟨w3.heap.size, 1, none⟩ (.slice Az zs.length cz)) (some w3.heap.size) := grown_setCell (grown_refl _ _) (.inl rfl) _
          have Hrd31 := Lib.hid (Rd.grown_new Hr.out hgS31 (fun r hr => by injection hr with hr; omega))
          have HG31 := Lib.hid (grown_new HG.out hgS31 (fun r hr => by injection hr with hr; omega))
          have Hres31 := Lib.hid (Blk.grown Hres.out hgS31 (by intro e; injection e with e; omega))
          have Hpr31 := Lib.hid (World.ownsRow.kept Hpr.out hgS31 (apart_of (fun j hj e => by have := (World.ownsRow.lt Hpr.out j hj).1; injection e with e; omega)))
          have Hrows31 := Lib.hid (RowsOwn.kept Hrows.out hgS31 (fun r hr k hk e => by have := (RowsOwn.lt Hrows.out hr hk).1; injection e with e; omega))
          have Hzs31 := Lib.hid (World.ownsRow.kept Hzs.out hgS31 (apart_of (fun j hj e => by have := (World.ownsRow.lt Hzs.out j hj).1; injection e with e; omega)))
          have Hal31 := Lib.hid (AtLeast.grown Hal.out hgS31)
          have Htv31 := Lib.hid (Blk.put Htv.out 1 (.slice Az zs.length cz))
          go_wp2_with fail
          refine (pick_any g (q3) (2) _ Hrd31.out (by omega)).mono ?_
          rintro e w32 ⟨b, rfl, b0, b1, hr32, hg32⟩
          have b2 := b1 (by omega)
          clear b1
          have HG32 := Lib.hid (grown_trans HG31.out hg32)
          clear HG31
          have Hres32 := Lib.hid (Blk.grown Hres31.out hg32 (by intro e; injection e with e; omega))
          clear Hres31
          have Htv32 := Lib.hid (Blk.grown Htv31.out hg32 (by intro e; injection e with e; omega))
          have Hpr32 := Lib.hid (World.ownsRow.kept Hpr31.out hg32 (apart_of (fun j hj e => by have := (World.ownsRow.lt Hpr31.out j hj).1; injection e with e; omega)))
          clear Hpr31
          have Hrows32 := Lib.hid (RowsOwn.rd Hrows31.out hg32 (by omega))
          clear Hrows31
          have Hzs32 := Lib.hid (World.ownsRow.kept Hzs31.out hg32 (apart_of (fun j hj e => by have := (World.ownsRow.lt Hzs31.out j hj).1; injection e with e; omega)))
          clear Hzs31
          have Hal32 := Lib.hid (AtLeast.grown Hal31.out hg32)
          clear Hal31
          clear hg32
          clear Hrd31
          have Hrd32 := Lib.hid hr32; clear hr32
          have hgl32 : g < w32.heap.size := (Hrd32.out).lt
          have hal32 : Bz ≤ w32.heap.size := Hal32.out
          clear q1 f1
          have hrs32 : w.heap.size < w32.heap.size := Hres32.out.lt
          have htv32 : w3.heap.size < w32.heap.size := Htv32.out.lt
          by_cases hb0 : b = 0
          · subst hb0
            have q0 : w32.cell? ⟨w3.heap.size, 0, none⟩ = some (.slice Ap L.length cp) := Htv32.out.cell 0
            have r0 : w32.cell? ⟨w.heap.size, 0, none⟩ = some (.slice none 0 0) := Hres32.out.cell 0
            have g0 := Hres32.out.free 0
            have q1 : w32.cell? ⟨w3.heap.size, 1, none⟩ = some (.slice Az zs.length cz) := Htv32.out.cell 1
            have r1 : w32.cell? ⟨w.heap.size, 1, none⟩ = some (.slice none 0 0) := Hres32.out.cell 1
            have g1 := Hres32.out.free 1
            have q2 : w32.cell? ⟨w3.heap.size, 2, none⟩ = some (.slice none 0 0) := Htv32.out.cell 2
            have r2 : w32.cell? ⟨w.heap.size, 2, none⟩ = some (.slice none 0 0) := Hres32.out.cell 2
            have g2 := Hres32.out.free 2
            have q3 : w32.cell? ⟨w3.heap.size, 3, none⟩ = some (.int .i64 ex) := Htv32.out.cell 3
            have r3 : w32.cell? ⟨w.heap.size, 3, none⟩ = some (.int .i64 0) := Hres32.out.cell 3
            have g3 := Hres32.out.free 3
            have q4 : w32.cell? ⟨w3.heap.size, 4, none⟩ = some (.int .i64 tp) := Htv32.out.cell 4
            have r4 : w32.cell? ⟨w.heap.size, 4, none⟩ = some (.int .i64 0) := Hres32.out.cell 4
            have g4 := Hres32.out.free 4
            have f2 := Htv32.out.free 2
            go_wp2
            generalize hW : World.setCell _ _ _ = Wf
            have hg1 : w32.grownBy (w32.setCell ⟨w3.heap.size, 2, none⟩ (.slice (some ⟨w32.heap.size, 0, none⟩) 1 1)) (some w3.heap.size) := grown_setCell (grown_refl _ _) (.inl rfl) _
            have Hrd40 := Lib.hid (Rd.grown_new Hrd32.out hg1 (fun r hr => by injection hr with hr; omega))
            have HG40 := Lib.hid (grown_new HG32.out hg1 (fun r hr => by injection hr with hr; omega))
            have Hres40 := Lib.hid (Blk.grown Hres32.out hg1 (by intro e; injection e with e; omega))
            have Hpr40 := Lib.hid (World.ownsRow.kept Hpr32.out hg1 (apart_of (fun j hj e => by have := (World.ownsRow.lt Hpr32.out j hj).1; injection e with e; omega)))
            have Hrows40 := Lib.hid (RowsOwn.kept Hrows32.out hg1 (fun r hr k hk e => by have := (RowsOwn.lt Hrows32.out hr hk).1; injection e with e; omega))
            have Hzs40 := Lib.hid (World.ownsRow.kept Hzs32.out hg1 (apart_of (fun j hj e => by have := (World.ownsRow.lt Hzs32.out j hj).1; injection e with e; omega)))
            have hRf := (Blk.put (Blk.put (Blk.put (Blk.put (Blk.put Hres40.out 0 (.slice Ap L.length cp)) 1 (.slice Az zs.length cz)) 2 (.slice (some ⟨w32.heap.size, 0, none⟩) 1 1)) 3 (.int .i64 ex)) 4 (.int .i64 tp))
            rw [hW] at hRf
            have z0 : Wf.cell? ⟨w.heap.size, 0, none⟩ = some (.slice Ap L.length cp) := hRf.cell 0
            have z1 : Wf.cell? ⟨w.heap.size, 1, none⟩ = some (.slice Az zs.length cz) := hRf.cell 1
            have z2 : Wf.cell? ⟨w.heap.size, 2, none⟩ = some (.slice (some ⟨w32.heap.size, 0, none⟩) 1 1) := hRf.cell 2
            have z3 : Wf.cell? ⟨w.heap.size, 3, none⟩ = some (.int .i64 ex) := hRf.cell 3
            have z4 : Wf.cell? ⟨w.heap.size, 4, none⟩ = some (.int .i64 tp) := hRf.cell 4
            have hgf := (grown_setCell (grown_setCell (grown_setCell (grown_setCell (grown_setCell (grown_refl (w32.setCell ⟨w3.heap.size, 2, none⟩ (.slice (some ⟨w32.heap.size, 0, none⟩) 1 1)) (some w.heap.size)) (p := ⟨w.heap.size, 0, none⟩) (.inl rfl) (.slice Ap L.length cp)) (p := ⟨w.heap.size, 1, none⟩) (.inl rfl) (.slice Az zs.length cz)) (p := ⟨w.heap.size, 2, none⟩) (.inl rfl) (.slice (some ⟨w32.heap.size, 0, none⟩) 1 1)) (p := ⟨w.heap.size, 3, none⟩) (.inl rfl) (.int .i64 ex)) (p := ⟨w.heap.size, 4, none⟩) (.inl rfl) (.int .i64 tp))
            rw [hW] at hgf
            have hsf : Wf.heap.size = w32.heap.size := by rw [← hW]; simp only [World.size_setCell]
            have hrl : w.heap.size < Wf.heap.size := by omega
            have y0 := (World.cell?_alloc_lt Wf (.cells #[.int .i64 420, .int .i64 560] 86) ⟨w.heap.size, 0, none⟩ hrl).trans z0
            have y1 := (World.cell?_alloc_lt Wf (.cells #[.int .i64 420, .int .i64 560] 86) ⟨w.heap.size, 1, none⟩ hrl).trans z1
            have y2 := (World.cell?_alloc_lt Wf (.cells #[.int .i64 420, .int .i64 560] 86) ⟨w.heap.size, 2, none⟩ hrl).trans z2
            have y3 := (World.cell?_alloc_lt Wf (.cells #[.int .i64 420, .int .i64 560] 86) ⟨w.heap.size, 3, none⟩ hrl).trans z3
            have y4 := (World.cell?_alloc_lt Wf (.cells #[.int .i64 420, .int .i64 560] 86) ⟨w.heap.size, 4, none⟩ hrl).trans z4
            clear hW hRf
            obtain ⟨u, hu⟩ : ∃ u : TariffR, u = ⟨Ap, cp, L, Az, cz, zs, (some ⟨w32.heap.size, 0, none⟩), 1, [⟨420, 560⟩], ex, tp⟩ := ⟨_, rfl⟩
            have huv : tariffV u = .agg #[.slice Ap L.length cp, .slice Az zs.length cz, .slice (some ⟨w32.heap.size, 0, none⟩) 1 1, .int .i64 ex, .int .i64 tp] := by rw [hu]; rfl
            have HpF := Lib.hid (World.ownsRow.kept Hpr40.out hgf (apart_of (fun j hj e => by have := (World.ownsRow.lt Hpr40.out j hj).1; injection e with e; omega)))
            have HzF := Lib.hid (World.ownsRow.kept Hzs40.out hgf (apart_of (fun j hj e => by have := (World.ownsRow.lt Hzs40.out j hj).1; injection e with e; omega)))
            have HrF := Lib.hid (RowsOwn.kept Hrows40.out hgf (fun r hr k hk e => by have := (RowsOwn.lt Hrows40.out hr hk).1; injection e with e; omega))
            have HdF := Lib.hid (Rd.below Hrd40.out (Below.grown (Below.refl _ _) hgf (Nat.succ_le_of_lt (Rd.lt Hrd40.out)) (fun r hr => by injection hr with hr; omega)))
            have HGF := Lib.hid (grown_new HG40.out hgf (fun r hr => by injection hr with hr; omega))
            have HbF := Lib.hid (Bands.of (w := Wf.alloc (.cells #[.int .i64 420, .int .i64 560] 86)) (g := w32.heap.size) (N := 2) (xs := [⟨420, 560⟩]) ⟨_, Blk.new' hsf, rfl, fun i u hu => by simpa [bandCells] using hu⟩)
            exact bodyPost_ret (v := tariffV u) (by simp [results, Try.results109, go_sem, huv, y0, y1, y2, y3, y4]) rfl (by
              rw [hu]
              have hLn := HLn.out
              exact ⟨_, _, rfl, ownBase (World.ownsRow.alloc HpF.out _) (by omega), fun r hr => ⟨ownBase ((RowsOwn.up HrF.out _) r hr).1 (by omega), (HrF.out r hr).2⟩, by dsimp only; omega, by dsimp only; omega, ownBase (World.ownsRow.alloc HzF.out _) (by omega), by dsimp only; omega, Hzb.out, HbF.out, by simp, by unfold maxLen; simp, by simp, (fun a ha => by first | (injection ha with ha; subst ha; exact ⟨(by dsimp only; omega), (by rw [World.size_alloc]; dsimp only; omega)⟩) | cases ha), (fun k hk e => by have h1 := (World.ownsRow.lt HzF.out k hk).1; have h2 := Hltp3.out k e; omega), (fun a ha e => by first | (injection ha with ha; subst ha; have h2 := Hltp3.out _ e; dsimp only at h2; omega) | cases ha), by omega, (Rd.alloc HdF.out _), (grown_alloc HGF.out _)⟩)
          · have hb0' : (b == 0) = false := by simpa using hb0
            have q0 : w32.cell? ⟨w3.heap.size, 0, none⟩ = some (.slice Ap L.length cp) := Htv32.out.cell 0
            have r0 : w32.cell? ⟨w.heap.size, 0, none⟩ = some (.slice none 0 0) := Hres32.out.cell 0
            have g0 := Hres32.out.free 0
            have q1 : w32.cell? ⟨w3.heap.size, 1, none⟩ = some (.slice Az zs.length cz) := Htv32.out.cell 1
            have r1 : w32.cell? ⟨w.heap.size, 1, none⟩ = some (.slice none 0 0) := Hres32.out.cell 1
            have g1 := Hres32.out.free 1
            have q2 : w32.cell? ⟨w3.heap.size, 2, none⟩ = some (.slice none 0 0) := Htv32.out.cell 2
            have r2 : w32.cell? ⟨w.heap.size, 2, none⟩ = some (.slice none 0 0) := Hres32.out.cell 2
            have g2 := Hres32.out.free 2
            have q3 : w32.cell? ⟨w3.heap.size, 3, none⟩ = some (.int .i64 ex) := Htv32.out.cell 3
            have r3 : w32.cell? ⟨w.heap.size, 3, none⟩ = some (.int .i64 0) := Hres32.out.cell 3
            have g3 := Hres32.out.free 3
            have q4 : w32.cell? ⟨w3.heap.size, 4, none⟩ = some (.int .i64 tp) := Htv32.out.cell 4
            have r4 : w32.cell? ⟨w.heap.size, 4, none⟩ = some (.int .i64 0) := Hres32.out.cell 4
            have g4 := Hres32.out.free 4
            go_wp2
            generalize hW : World.setCell _ _ _ = Wf
            have hRf := (Blk.put (Blk.put (Blk.put (Blk.put (Blk.put Hres32.out 0 (.slice Ap L.length cp)) 1 (.slice Az zs.length cz)) 2 (.slice none 0 0)) 3 (.int .i64 ex)) 4 (.int .i64 tp))
            rw [hW] at hRf
            have z0 : Wf.cell? ⟨w.heap.size, 0, none⟩ = some (.slice Ap L.length cp) := hRf.cell 0
            have z1 : Wf.cell? ⟨w.heap.size, 1, none⟩ = some (.slice Az zs.length cz) := hRf.cell 1
            have z2 : Wf.cell? ⟨w.heap.size, 2, none⟩ = some (.slice none 0 0) := hRf.cell 2
            have z3 : Wf.cell? ⟨w.heap.size, 3, none⟩ = some (.int .i64 ex) := hRf.cell 3
            have z4 : Wf.cell? ⟨w.heap.size, 4, none⟩ = some (.int .i64 tp) := hRf.cell 4
            have hgf := (grown_setCell (grown_setCell (grown_setCell (grown_setCell (grown_setCell (grown_refl w32 (some w.heap.size)) (p := ⟨w.heap.size, 0, none⟩) (.inl rfl) (.slice Ap L.length cp)) (p := ⟨w.heap.size, 1, none⟩) (.inl rfl) (.slice Az zs.length cz)) (p := ⟨w.heap.size, 2, none⟩) (.inl rfl) (.slice none 0 0)) (p := ⟨w.heap.size, 3, none⟩) (.inl rfl) (.int .i64 ex)) (p := ⟨w.heap.size, 4, none⟩) (.inl rfl) (.int .i64 tp))
            rw [hW] at hgf
            clear hW hRf
            obtain ⟨u, hu⟩ : ∃ u : TariffR, u = ⟨Ap, cp, L, Az, cz, zs, none, 0, [], ex, tp⟩ := ⟨_, rfl⟩
            have huv : tariffV u = .agg #[.slice Ap L.length cp, .slice Az zs.length cz, .slice none 0 0, .int .i64 ex, .int .i64 tp] := by rw [hu]; rfl
            have HpF := Lib.hid (World.ownsRow.kept Hpr32.out hgf (apart_of (fun j hj e => by have := (World.ownsRow.lt Hpr32.out j hj).1; injection e with e; omega)))
            have HzF := Lib.hid (World.ownsRow.kept Hzs32.out hgf (apart_of (fun j hj e => by have := (World.ownsRow.lt Hzs32.out j hj).1; injection e with e; omega)))
            have HrF := Lib.hid (RowsOwn.kept Hrows32.out hgf (fun r hr k hk e => by have := (RowsOwn.lt Hrows32.out hr hk).1; injection e with e; omega))
            have HdF := Lib.hid (Rd.below Hrd32.out (Below.grown (Below.refl _ _) hgf (Nat.succ_le_of_lt (Rd.lt Hrd32.out)) (fun r hr => by injection hr with hr; omega)))
            have HGF := Lib.hid (grown_new HG32.out hgf (fun r hr => by injection hr with hr; omega))
            exact bodyPost_ret (v := tariffV u) (by simp [results, Try.results109, go_sem, huv, z0, z1, z2, z3, z4]) rfl (by
              rw [hu]
              have hLn := HLn.out
              exact ⟨_, _, rfl, ownBase HpF.out (by omega), fun r hr => ⟨ownBase (HrF.out r hr).1 (by omega), (HrF.out r hr).2⟩, by dsimp only; omega, by dsimp only; omega, ownBase HzF.out (by omega), by dsimp only; omega, Hzb.out, Reads.nil _ _ _, by simp, by unfold maxLen; simp, by simp, (fun a ha => by first | (injection ha with ha; subst ha; exact ⟨(by dsimp only; omega), (by rw [World.size_alloc]; dsimp only; omega)⟩) | cases ha), (fun k hk e => by have h1 := (World.ownsRow.lt HzF.out k hk).1; have h2 := Hltp3.out k e; omega), (fun a ha e => by first | (injection ha with ha; subst ha; have h2 := Hltp3.out _ e; dsimp only at h2; omega) | cases ha), by omega, HdF.out, HGF.out⟩)
end Go.Proofs.Ytgmphbkcblkmbaa
