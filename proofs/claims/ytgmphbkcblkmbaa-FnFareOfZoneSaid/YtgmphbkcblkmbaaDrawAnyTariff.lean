/-
  Drawn tariffs that may be spoilt.
-/
import Derived.Test.YtgmphbkcblkmbaaDrawTariff
import Derived.Deep.RegionHeld
set_option linter.unusedSimpArgs false
namespace Go.Proofs.Ytgmphbkcblkmbaa
open Go.RowKit Go.Deep
set_option linter.unusedVariables false

theorem readsGrown {w w' : World} {A : Option Addr} {vs : List Value} {row : Option Nat} (h : Reads w w.heap.size A vs) (hg : w.grownBy w' row) (hne : ∀ a, A = some a → row ≠ some a.block) : Reads w' w'.heap.size A vs := fun hn => by
  obtain ⟨a, e, hb, hc⟩ := h hn
  exact ⟨a, e, Nat.lt_of_lt_of_le hb hg.size, fun i u hu => (cell_grown hg (p := a.add i) (by rw [add_block]; exact hb) (by rw [add_block]; exact fun e2 => hne a e e2.symm)).trans (hc i u hu)⟩
/-- A list that lies in a block from lo on, below hi. -/
def Lies (w : World) (lo hi : Nat) (A : Option Addr) (vs : List Value) : Prop := Reads w w.heap.size A vs ∧ ∀ a, A = some a → lo ≤ a.block ∧ (hi = 0 ∨ a.block < hi)
section
variable {w w' : World} {lo hi b base size n t : Nat} {A : Option Addr} {vs : List Value} {u : TariffR}
theorem Lies.kept (h : Lies w lo hi A vs) (hg : w.grownBy w' (some b)) (hb : b < lo ∨ (0 < hi ∧ hi ≤ b)) : Lies w' lo hi A vs := ⟨readsGrown h.1 hg (fun a ha e => by have := h.2 a ha; injection e with e; omega), h.2⟩
theorem Lies.up (h : Lies w lo hi A vs) (o : Obj) : Lies (w.alloc o) lo hi A vs := ⟨readsUp h.1 o, h.2⟩
theorem Lies.loose (h : Lies w lo hi A vs) : Lies w lo 0 A vs := ⟨h.1, fun a ha => ⟨(h.2 a ha).1, .inl rfl⟩⟩
theorem own_lies {m c : Nat} (h : w.ownsRow base t size (.slice A m c) n vs) : Lies w base w.heap.size A vs ∧ (A = none → m = 0 ∧ c = 0) := by
  rcases h.2 with ⟨hv, h0⟩ | ⟨g, cap, cur, hv, hb, hh, hn, hm, hs, ht⟩
  · injection hv with e1 e2 e3
    subst e1
    have hvs : vs = [] := List.eq_nil_of_length_eq_zero (by rw [h.1, h0, Nat.zero_mul])
    subst hvs
    exact ⟨⟨Reads.nil _ _ _, fun a ha => by cases ha⟩, fun _ => ⟨e2, e3⟩⟩
  · injection hv with e1 e2 e3
    subst e1
    exact ⟨⟨fun hne => ⟨_, rfl, (World.ownsRow.lt h g rfl).2, World.ownsRow.cells h (g := g) rfl⟩, fun a ha => by injection ha with ha; subst ha; exact ⟨(World.ownsRow.lt h g rfl).1, .inr (World.ownsRow.lt h g rfl).2⟩⟩, fun hA => by cases hA⟩
/-- All lists of a tariff. -/
def TariffLies (w : World) (lo hi : Nat) (u : TariffR) : Prop :=
  Lies w lo hi u.pA (u.L.flatMap rowCells) ∧ (∀ r ∈ u.L, Lies w lo hi r.A (r.xs.flatMap intCells) ∧ r.xs.length ≤ r.c ∧ r.c ≤ maxLen) ∧ Lies w lo hi u.zA (u.z.flatMap intCells) ∧ Lies w lo hi u.kA (u.k.flatMap bandCells) ∧
    (u.L.length ≤ u.pc ∧ u.pc ≤ maxLen ∧ u.z.length ≤ u.zc ∧ u.zc ≤ maxLen ∧ u.k.length ≤ u.kc ∧ u.kc ≤ maxLen)
theorem TariffLies.kept (h : TariffLies w lo hi u) (hg : w.grownBy w' (some b)) (hb : b < lo ∨ (0 < hi ∧ hi ≤ b)) : TariffLies w' lo hi u :=
  ⟨h.1.kept hg hb, fun r hr => ⟨(h.2.1 r hr).1.kept hg hb, (h.2.1 r hr).2⟩, h.2.2.1.kept hg hb, h.2.2.2.1.kept hg hb, h.2.2.2.2⟩
theorem TariffLies.up (h : TariffLies w lo hi u) (o : Obj) : TariffLies (w.alloc o) lo hi u := ⟨h.1.up o, fun r hr => ⟨(h.2.1 r hr).1.up o, (h.2.1 r hr).2⟩, h.2.2.1.up o, h.2.2.2.1.up o, h.2.2.2.2⟩
theorem TariffLies.drewn (h : TariffLies w lo hi u) : TariffLies w.drew lo hi u := h
theorem TariffLies.loose {lo' : Nat} (h : TariffLies w lo hi u) (hl : lo' ≤ lo) : TariffLies w lo' 0 u :=
  ⟨⟨h.1.1, fun a ha => ⟨Nat.le_trans hl (h.1.2 a ha).1, .inl rfl⟩⟩, fun r hr => ⟨⟨(h.2.1 r hr).1.1, fun a ha => ⟨Nat.le_trans hl ((h.2.1 r hr).1.2 a ha).1, .inl rfl⟩⟩, (h.2.1 r hr).2⟩, ⟨h.2.2.1.1, fun a ha => ⟨Nat.le_trans hl (h.2.2.1.2 a ha).1, .inl rfl⟩⟩, ⟨h.2.2.2.1.1, fun a ha => ⟨Nat.le_trans hl (h.2.2.2.1.2 a ha).1, .inl rfl⟩⟩, h.2.2.2.2⟩
theorem TariffLies.tariffIn (h : TariffLies w lo hi u) : TariffIn w w.heap.size u := ⟨⟨h.1.1, fun r hr => ⟨(h.2.1 r hr).1.1, (h.2.1 r hr).2⟩⟩, h.2.2.1.1, h.2.2.2.1.1, h.2.2.2.2⟩
end
/-- A tariff that was drawn, and perhaps spoilt. -/
def AnyTariff (g p : Nat) (w : World) (e : Ending) (w' : World) : Prop :=
  ∃ (u : TariffR) (q : Nat), e = .returned (tariffV u) ∧ TariffLies w' w.heap.size 0 u ∧ u.L.length ≤ 5 ∧ (∀ r ∈ u.L, r.xs.length ≤ 6) ∧ u.z.length ≤ 11 ∧ u.k.length ≤ 4 ∧ q ≤ p + 100 ∧ Rd w' g q ∧ w.grownBy w' (some g)
theorem AnyTariff.small {u : TariffR} (h1 : u.L.length ≤ 5) (h2 : ∀ r ∈ u.L, r.xs.length ≤ 6) (h3 : u.z.length ≤ 11) (h4 : u.k.length ≤ 4) : TariffSmall u := ⟨by omega, fun r hr => by have := h2 r hr; omega, by omega, by omega⟩

set_option maxRecDepth 100000 in
set_option maxHeartbeats 4000000 in
theorem anyTariff_any (g p : Nat) (w : World) (hr : Rd w g p) (hp : p ≤ 30000) :
    Calls Try.prog 64 #[.pointer (some ⟨g, 0, none⟩)] w (AnyTariff g p w) := by
  have hgw := hr.lt
  have Hr0 := Lib.hid hr; clear hr
  have HG0 := Lib.hid (grown_refl w (some g))
  go_enter Try.func64, Try.ntmps64
  have Hkres0 := Lib.hid (Blk.new' (w := w) (t := 27) (cs := #[.slice none 0 0, .slice none 0 0, .slice none 0 0, .int .i64 0, .int .i64 0]) (b := w.heap.size) (by (try simp)))
  go_wp2_with fail
  refine (randomTariff_any g (p) _ (Rd.alloc Hr0.out _) (by omega)).mono ?_
  rintro e w1 ⟨u, q1, rfl, hpr, hrows, hL1, hL5, hzs, hz10, hzb, hbk, hk1, hk2, hk3, hkA, hzp, hkp, hq1, hr1, hg1⟩
  simp only [World.size_alloc] at hpr hrows hzs hkA
  have Htl1 : Hid (TariffLies w1 (w.heap.size + 1) w1.heap.size u) := Lib.hid ⟨(own_lies hpr).1, fun r hr => ⟨(own_lies (hrows r hr).1).1, (hrows.rowIn hr).2⟩, (own_lies hzs).1, ⟨hbk, fun a ha => ⟨(hkA a ha).1, .inr (hkA a ha).2⟩⟩, by
    obtain ⟨A1, c1, e1, x1, x2, _⟩ := OwnRows.form hpr
    obtain ⟨A2, c2, e2, y1, y2, _⟩ := OwnInts.form hzs
    injection e1 with _ _ e1
    injection e2 with _ _ e2
    exact ⟨by omega, by omega, by omega, by omega, hk1, hk2⟩⟩
  have HzA := Lib.hid (own_lies hzs).2
  have Hplt := Lib.hid (fun (k : Nat) (hk : (Value.slice u.pA u.L.length u.pc).ownBlock = some k) => (World.ownsRow.lt hpr k hk).2)
  have Hzb := Lib.hid hzb; clear hzb
  have Hpr1 := Lib.hid hpr; clear hpr
  have Hrows1 := Lib.hid hrows; clear hrows
  clear hbk hkA hzs
  have HG1 := Lib.hid (grown_trans (grown_alloc HG0.out _) hg1)
  clear HG0
  have Hres1 := Lib.hid (Blk.grown Hkres0.out hg1 (by intro e; injection e with e; omega))
  clear Hkres0
  clear hg1
  clear Hr0
  have Hrd1 := Lib.hid hr1; clear hr1
  have hgl1 : g < w1.heap.size := (Hrd1.out).lt
  unfold tariffV
  have Hktv1 := Lib.hid (Blk.new' (w := w1) (t := 27) (cs := #[.slice u.pA u.L.length u.pc, .slice u.zA u.z.length u.zc, .slice u.kA u.k.length u.kc, .int .i64 u.e, .int .i64 u.t]) (b := w1.heap.size) (by (try simp)))
  have hres1 : w.heap.size < w1.heap.size := Hres1.out.lt
  go_wp2_with fail
  refine (pick_any g (q1) (30) _ (Rd.alloc Hrd1.out _) (by omega)).mono ?_
  rintro e w2 ⟨k, rfl, k0, k1, hr2, hg2⟩
  have k2 := k1 (by omega)
  clear k1
  have HG2 := Lib.hid (grown_trans (grown_alloc HG1.out _) hg2)
  clear HG1
  have Hres2 := Lib.hid (Blk.grown (Blk.alloc Hres1.out _) hg2 (by intro e; injection e with e; omega))
  clear Hres1
  have Htl2 := Lib.hid (TariffLies.kept (TariffLies.up Htl1.out _) hg2 (.inl (by omega)))
  clear Htl1
  have Hpr2 := Lib.hid (World.ownsRow.kept (World.ownsRow.alloc Hpr1.out _) hg2 (apart_of (fun j hj e => by have := (World.ownsRow.lt Hpr1.out j hj).1; injection e with e; omega)))
  clear Hpr1
  have Hrows2 := Lib.hid (RowsOwn.rd (RowsOwn.up Hrows1.out _) hg2 (by omega))
  clear Hrows1
  have Htv2 := Lib.hid (Blk.grown Hktv1.out hg2 (by intro e; injection e with e; omega))
  clear Hktv1
  clear hg2
  clear Hrd1
  have Hrd2 := Lib.hid hr2; clear hr2
  have hgl2 : g < w2.heap.size := (Hrd2.out).lt
  have hres2 : w1.heap.size < w2.heap.size := Htv2.out.lt
  have Hrs := Lib.hid (fun (r : RowR) (hr : r ∈ u.L) => (Hrows2.out r hr).2.1)
  by_cases hk0 : k = 0
  · subst hk0
    obtain ⟨gb, cgb, evgb, hbgb, hltgb, hlegb, hmxgb, hcellgb, hfreegb, htheregb⟩ := own_at rowCells 1 (fun _ => rfl) Hpr2.out (show 0 < u.L.length by omega)
    have Hcellgb := Lib.hid hcellgb; clear hcellgb
    have Hfreegb := Lib.hid hfreegb; clear hfreegb
    have Htheregb := Lib.hid htheregb; clear htheregb
    injection evgb with e1 e2 e3
    clear e2 hlegb hmxgb
    obtain ⟨r0, hr0⟩ : ∃ r0, u.L[0]? = some r0 := ⟨u.L[0], List.getElem?_eq_getElem (by omega)⟩
    have hr0m := List.mem_of_getElem? hr0
    have Hr0g := Lib.hid hr0; clear hr0
    have p16 : w2.drew.cell? ⟨gb, 0, none⟩ = some (.slice r0.A r0.xs.length r0.c) := Hcellgb.out 0 r0 0 _ Hr0g.out rfl
    have hlow : 0 < u.L.length := by omega
    have i0 : (0 : Int) < (u.L.length : Int) := by omega
    have hr5 := (Hrs.out r0 hr0m).1
    have Hpb := Lib.hid (show (Value.slice u.pA u.L.length u.pc).ownBlock = some gb by rw [e1]; rfl)
    have hgb1 : gb < w1.heap.size := Hplt.out gb Hpb.out
    go_wp2
    refine wp_region_held_drew (S := fun w' => w'.cell? ⟨w1.heap.size, 0, none⟩ = some (.slice u.pA u.L.length u.pc)) (by kernel_rfl) (by exact (Htv2.out).cell 0) (fun hS => ?_)
    refine take_at 0 10 (v := ?_) rfl rfl (by kernel_rfl) (by kernel_rfl) (by kernel_rfl) (fun _ _ _ h => h) (by rfl) ?_ hS ?_
    rotate_left 1
    · (intro w hSw; (try dsimp only at hSw); (try go_split_ands); go_simp; try with_reducible rfl)
    simp only [List.setIfInBounds_toArray, List.set_cons_zero, List.set_cons_succ]
    refine take_at 1 11 (v := ?_) rfl rfl (by kernel_rfl) (by kernel_rfl) (by kernel_rfl) (fun _ _ _ h => h) (by rfl) ?_ hS ?_
    rotate_left 1
    · (intro w hSw; (try dsimp only at hSw); (try go_split_ands); go_simp; try with_reducible rfl)
    simp only [List.setIfInBounds_toArray, List.set_cons_zero, List.set_cons_succ]
    refine take_at 2 12 (v := ?_) rfl rfl (by kernel_rfl) (by kernel_rfl) (by kernel_rfl) (fun _ _ _ h => h) (by rfl) ?_ hS ?_
    rotate_left 1
    · (intro w hSw; (try dsimp only at hSw); (try go_split_ands); go_simp; try with_reducible rfl)
    simp only [List.setIfInBounds_toArray, List.set_cons_zero, List.set_cons_succ]
    refine take_at 3 13 (v := ?_) rfl rfl (by kernel_rfl) (by kernel_rfl) (by kernel_rfl) (fun _ _ _ h => h) (by rfl) ?_ hS ?_
    rotate_left 1
    · (intro w hSw; (try dsimp only at hSw); (try go_split_ands); go_simp; try with_reducible rfl)
    simp only [List.setIfInBounds_toArray, List.set_cons_zero, List.set_cons_succ]
    refine take_at 4 14 (v := ?_) rfl rfl (by kernel_rfl) (by kernel_rfl) (by kernel_rfl) (fun _ _ _ h => h) (by rfl) ?_ hS ?_
    rotate_left 1
    · (intro w hSw; (try dsimp only at hSw); (try go_split_ands); go_simp; try with_reducible rfl)
    simp only [List.setIfInBounds_toArray, List.set_cons_zero, List.set_cons_succ]
    refine take_at 5 15 (v := ?_) rfl rfl (by kernel_rfl) (by kernel_rfl) (by kernel_rfl) (fun _ _ _ h => h) (by rfl) ?_ hS ?_
    rotate_left 1
    · (intro w hSw; (try dsimp only at hSw); (try go_split_ands); go_simp; try with_reducible rfl)
    simp only [List.setIfInBounds_toArray, List.set_cons_zero, List.set_cons_succ]
    refine wpAnyH_ready (rs := [6]) (by kernel_rfl) (by simp) ?_
    refine AllReadyH.cons rfl (fun K hK => ?_) (AllReadyH.nil)
    go_simp
    refine hK.out _ _ (by exact ((blkDrew Htv2.out)).cell 0) (fun hS => ?_)
    clear hK K
    refine wpAnyH_ready (rs := [7]) (by kernel_rfl) (by simp) ?_
    refine AllReadyH.cons rfl (fun K hK => ?_) (AllReadyH.nil)
    go_simp
    go_wp2_with fail
    refine (spoil_any g (q1 + 1) r0.A _ r0.c r0.xs 2001 (-1) 2001 _ (Rd.drew Hrd2.out) (by omega) (own_lies ((RowsOwn.drewn Hrows2.out) r0 hr0m).1).1.1 rfl (own_lies ((RowsOwn.drewn Hrows2.out) r0 hr0m).1).2 (by omega) (fun x h => by have := (Hrs.out r0 hr0m).2 x h; omega) (by omega) (by omega) (by omega) (by omega)).mono ?_
    rintro e w3 ⟨rA2, rn2, rc2, ys2, q2, rfl, hy2, hy2b, _, hyl, hyc, hym, hy11, _, hq2, hr3, hg3⟩
    subst hyl
    have Hy2 := Lib.hid hy2; clear hy2
    have Hy2b := Lib.hid hy2b; clear hy2b
    have hsz23 : w2.heap.size ≤ w3.heap.size := hg3.size
    have hdr : w2.drew.heap.size = w2.heap.size := rfl
    have HG3 := Lib.hid (grown_trans (grownDrew HG2.out) hg3)
    clear HG2
    have Hres3 := Lib.hid (Blk.grown (blkDrew Hres2.out) hg3 (by intro e; injection e with e; omega))
    clear Hres2
    have Htl3 := Lib.hid (TariffLies.kept (TariffLies.drewn Htl2.out) hg3 (.inl (by omega)))
    clear Htl2
    have Hpr3 := Lib.hid (World.ownsRow.kept (ownDrew Hpr2.out) hg3 (apart_of (fun j hj e => by have := (World.ownsRow.lt Hpr2.out j hj).1; injection e with e; omega)))
    clear Hpr2
    have Hrows3 := Lib.hid (RowsOwn.rd (RowsOwn.drewn Hrows2.out) hg3 (by omega))
    clear Hrows2
    have Htv3 := Lib.hid (Blk.grown (blkDrew Htv2.out) hg3 (by intro e; injection e with e; omega))
    clear Htv2
    clear hg3
    clear Hrd2
    have Hrd3 := Lib.hid hr3; clear hr3
    have hgl3 : g < w3.heap.size := (Hrd3.out).lt
    obtain ⟨gc, cgc, evgc, hbgc, hltgc, hlegc, hmxgc, hcellgc, hfreegc, htheregc⟩ := own_at rowCells 1 (fun _ => rfl) Hpr3.out (show 0 < u.L.length by omega)
    have Hcellgc := Lib.hid hcellgc; clear hcellgc
    have Hfreegc := Lib.hid hfreegc; clear hfreegc
    have Htheregc := Lib.hid htheregc; clear htheregc
    have hgc : gc = gb := by injection evgc with x1; rw [e1] at x1; injection x1 with x1; injection x1 with x1; exact x1.symm
    subst hgc
    have p17 : w3.cell? ⟨gc, 0, none⟩ = some (.slice r0.A r0.xs.length r0.c) := Hcellgc.out 0 r0 0 _ Hr0g.out rfl
    have f17 : w3.frozen? ⟨gc, 0, none⟩ = false := Hfreegc.out _
    clear p16
    go_simp
    refine hK.out _ _ (by exact (Htv3.out).cell 0) (fun hS => ?_)
    clear hK K
    refine take_at 8 18 (v := ?_) rfl rfl (by kernel_rfl) (by kernel_rfl) (by kernel_rfl) (fun _ _ _ h => h) (by rfl) ?_ hS ?_
    rotate_left 1
    · (intro w hSw; (try dsimp only at hSw); (try go_split_ands); go_simp; try with_reducible rfl)
    simp only [List.setIfInBounds_toArray, List.set_cons_zero, List.set_cons_succ]
    refine wpAnyH_ready (rs := [9]) (by kernel_rfl) (by simp) ?_
    refine AllReadyH.cons rfl (fun K hK => ?_) (AllReadyH.nil)
    go_simp
    have hgs : w3.grownBy (w3.setCell ⟨gc, 0, none⟩ (.slice rA2 ys2.length rc2)) (some gc) := grown_setCell (grown_refl _ _) (.inl rfl) _
    have hpr4 : OwnRows (w3.setCell ⟨gc, 0, none⟩ (.slice rA2 ys2.length rc2)) (w.heap.size + 1) (.slice u.pA u.L.length u.pc) (u.L.set 0 (⟨rA2, rc2, ys2⟩ : RowR)) := by
      unfold OwnRows
      rw [List.length_set]
      have h := Hpr3.out
      rw [e1] at h ⊢
      have h' := own_store rowCells 1 (fun _ => rfl) (by omega) (x := (⟨rA2, rc2, ys2⟩ : RowR)) (i := 0) h hlow
      rw [Nat.zero_mul] at h'
      exact h'
    have hrw4 : RowsOwn (w3.setCell ⟨gc, 0, none⟩ (.slice rA2 ys2.length rc2)) (w.heap.size + 1) (.slice u.pA u.L.length u.pc) u.L := RowsOwn.kept Hrows3.out hgs (fun r hr k hk e => (Hrows3.out r hr).2.2 k hk (by rw [Hpb.out]; exact e))
    have htl4 : TariffLies (w3.setCell ⟨gc, 0, none⟩ (.slice rA2 ys2.length rc2)) (w.heap.size + 1) 0 ⟨u.pA, u.pc, u.L.set 0 (⟨rA2, rc2, ys2⟩ : RowR), u.zA, u.zc, u.z, u.kA, u.kc, u.k, u.e, u.t⟩ := by
      have ht := Htl3.out
      refine ⟨?_, fun r hr => ?_, ?_, ?_, ?_⟩
      · exact (own_lies hpr4).1.loose
      · rcases List.mem_or_eq_of_mem_set hr with h | h
        · exact ⟨(own_lies (hrw4 r h).1).1.loose, (hrw4.rowIn h).2⟩
        · subst h; exact ⟨⟨readsGrown Hy2.out hgs (fun a ha e => by have := Hy2b.out a ha; injection e with e; omega), fun a ha => ⟨by have := Hy2b.out a ha; omega, .inl rfl⟩⟩, hyc, hym⟩
      · exact ⟨readsGrown ht.2.2.1.1 hgs (fun a ha e => hzp a.block (by rw [ha]; rfl) (by rw [Hpb.out]; exact e)), fun a ha => ⟨(ht.2.2.1.2 a ha).1, .inl rfl⟩⟩
      · exact ⟨readsGrown ht.2.2.2.1.1 hgs (fun a ha e => hkp a ha (by rw [Hpb.out]; exact e)), fun a ha => ⟨(ht.2.2.2.1.2 a ha).1, .inl rfl⟩⟩
      · have h := ht.2.2.2.2; refine ⟨?_, h.2⟩; show (u.L.set 0 (⟨rA2, rc2, ys2⟩ : RowR)).length ≤ u.pc; rw [List.length_set]; exact h.1
    have Htl4 := Lib.hid htl4; clear htl4 hrw4 hpr4
    have Hrd4 := Lib.hid (Rd.grown_new Hrd3.out hgs (fun r hr => by injection hr with hr; omega))
    have HG4 := Lib.hid (grown_new HG3.out hgs (fun r hr => by injection hr with hr; omega))
    have Hres4 := Lib.hid (Blk.grown Hres3.out hgs (by intro e; injection e with e; omega))
    have Htv4 := Lib.hid (Blk.grown Htv3.out hgs (by intro e; injection e with e; omega))
    refine hK.out _ _ (by exact (Htv4.out).cell 0) (fun hS => ?_)
    clear hK K
    refine wpAnyH_done (by kernel_rfl) ?_ _
    clear hS p17 f17
    have tq0 : (w3.setCell ⟨gc, 0, none⟩ (.slice rA2 ys2.length rc2)).cell? ⟨w1.heap.size, 0, none⟩ = some (.slice u.pA u.L.length u.pc) := Htv4.out.cell 0
    have r0 : (w3.setCell ⟨gc, 0, none⟩ (.slice rA2 ys2.length rc2)).cell? ⟨w.heap.size, 0, none⟩ = some (.slice none 0 0) := Hres4.out.cell 0
    have g0 := Hres4.out.free 0
    have tq1 : (w3.setCell ⟨gc, 0, none⟩ (.slice rA2 ys2.length rc2)).cell? ⟨w1.heap.size, 1, none⟩ = some (.slice u.zA u.z.length u.zc) := Htv4.out.cell 1
    have r1 : (w3.setCell ⟨gc, 0, none⟩ (.slice rA2 ys2.length rc2)).cell? ⟨w.heap.size, 1, none⟩ = some (.slice none 0 0) := Hres4.out.cell 1
    have g1 := Hres4.out.free 1
    have tq2 : (w3.setCell ⟨gc, 0, none⟩ (.slice rA2 ys2.length rc2)).cell? ⟨w1.heap.size, 2, none⟩ = some (.slice u.kA u.k.length u.kc) := Htv4.out.cell 2
    have r2 : (w3.setCell ⟨gc, 0, none⟩ (.slice rA2 ys2.length rc2)).cell? ⟨w.heap.size, 2, none⟩ = some (.slice none 0 0) := Hres4.out.cell 2
    have g2 := Hres4.out.free 2
    have tq3 : (w3.setCell ⟨gc, 0, none⟩ (.slice rA2 ys2.length rc2)).cell? ⟨w1.heap.size, 3, none⟩ = some (.int .i64 u.e) := Htv4.out.cell 3
    have r3 : (w3.setCell ⟨gc, 0, none⟩ (.slice rA2 ys2.length rc2)).cell? ⟨w.heap.size, 3, none⟩ = some (.int .i64 0) := Hres4.out.cell 3
    have g3 := Hres4.out.free 3
    have tq4 : (w3.setCell ⟨gc, 0, none⟩ (.slice rA2 ys2.length rc2)).cell? ⟨w1.heap.size, 4, none⟩ = some (.int .i64 u.t) := Htv4.out.cell 4
    have r4 : (w3.setCell ⟨gc, 0, none⟩ (.slice rA2 ys2.length rc2)).cell? ⟨w.heap.size, 4, none⟩ = some (.int .i64 0) := Hres4.out.cell 4
    have g4 := Hres4.out.free 4
    go_wp2
    generalize hW : World.setCell _ _ _ = Wf
    have hRf := (Blk.put (Blk.put (Blk.put (Blk.put (Blk.put Hres4.out 0 (.slice (some ⟨gc, 0, none⟩) u.L.length cgb)) 1 (.slice u.zA u.z.length u.zc)) 2 (.slice u.kA u.k.length u.kc)) 3 (.int .i64 u.e)) 4 (.int .i64 u.t))
    rw [hW] at hRf
    have zz0 : Wf.cell? ⟨w.heap.size, 0, none⟩ = some (.slice (some ⟨gc, 0, none⟩) u.L.length cgb) := hRf.cell 0
    have zz1 : Wf.cell? ⟨w.heap.size, 1, none⟩ = some (.slice u.zA u.z.length u.zc) := hRf.cell 1
    have zz2 : Wf.cell? ⟨w.heap.size, 2, none⟩ = some (.slice u.kA u.k.length u.kc) := hRf.cell 2
    have zz3 : Wf.cell? ⟨w.heap.size, 3, none⟩ = some (.int .i64 u.e) := hRf.cell 3
    have zz4 : Wf.cell? ⟨w.heap.size, 4, none⟩ = some (.int .i64 u.t) := hRf.cell 4
    have hgf := (grown_setCell (grown_setCell (grown_setCell (grown_setCell (grown_setCell (grown_refl (w3.setCell ⟨gc, 0, none⟩ (.slice rA2 ys2.length rc2)) (some w.heap.size)) (p := ⟨w.heap.size, 0, none⟩) (.inl rfl) (.slice (some ⟨gc, 0, none⟩) u.L.length cgb)) (p := ⟨w.heap.size, 1, none⟩) (.inl rfl) (.slice u.zA u.z.length u.zc)) (p := ⟨w.heap.size, 2, none⟩) (.inl rfl) (.slice u.kA u.k.length u.kc)) (p := ⟨w.heap.size, 3, none⟩) (.inl rfl) (.int .i64 u.e)) (p := ⟨w.heap.size, 4, none⟩) (.inl rfl) (.int .i64 u.t))
    rw [hW] at hgf
    clear hW hRf
    have HdF := Lib.hid (Rd.below Hrd4.out (Below.grown (Below.refl _ _) hgf (Nat.succ_le_of_lt (Rd.lt Hrd4.out)) (fun r hr => by injection hr with hr; omega)))
    have HGF := Lib.hid (grown_new HG4.out hgf (fun r hr => by injection hr with hr; omega))
    have htf := TariffLies.kept Htl4.out hgf (.inl (by omega))
    obtain ⟨u2, hu⟩ : ∃ u2 : TariffR, u2 = ⟨u.pA, u.pc, u.L.set 0 (⟨rA2, rc2, ys2⟩ : RowR), u.zA, u.zc, u.z, u.kA, u.kc, u.k, u.e, u.t⟩ := ⟨_, rfl⟩
    have huv : tariffV u2 = .agg #[.slice (some ⟨gc, 0, none⟩) u.L.length cgb, .slice u.zA u.z.length u.zc, .slice u.kA u.k.length u.kc, .int .i64 u.e, .int .i64 u.t] := by rw [hu]; unfold tariffV; simp only [List.length_set, e1, e3]
    have htl := TariffLies.loose htf (show w.heap.size ≤ w.heap.size + 1 by omega)
    have HinF : Hid (TariffLies Wf w.heap.size 0 u2) := Lib.hid (by rw [hu]; exact htl)
    have Hsm : Hid (u2.L.length ≤ 5 ∧ (∀ r ∈ u2.L, r.xs.length ≤ 6) ∧ u2.z.length ≤ 11 ∧ u2.k.length ≤ 4) := Lib.hid (by rw [hu]; exact ⟨by dsimp only; rw [List.length_set]; exact hL5, fun r hr => (by
          rcases List.mem_or_eq_of_mem_set hr with h | h
          · exact Nat.le_succ_of_le (Hrs.out r h).1
          · subst h; dsimp only; omega), by dsimp only; omega, by dsimp only; omega⟩)
    exact bodyPost_ret (v := tariffV u2) (by simp [results, Try.results64, go_sem, huv, zz0, zz1, zz2, zz3, zz4]) rfl ⟨u2, q2, rfl, HinF.out, Hsm.out.1, Hsm.out.2.1, Hsm.out.2.2.1, Hsm.out.2.2.2, by omega, HdF.out, HGF.out⟩
  · have hk0' : (k == 0) = false := by simpa using hk0
    clear hk0
    by_cases hk1 : k = 1
    · subst hk1
      have tz1 : w2.cell? ⟨w1.heap.size, 1, none⟩ = some (.slice u.zA u.z.length u.zc) := Htv2.out.cell 1
      go_wp2_with fail
      refine (spoil_any g (q1 + 1) u.zA _ u.zc u.z 5 (-1) 5 _ Hrd2.out (by omega) (Htl2.out).2.2.1.1 rfl HzA.out (by omega) (fun x h => by have := Hzb.out x h; omega) (by omega) (by omega) (by omega) (by omega)).mono ?_
      rintro e w3 ⟨zA2, zn2, zc2, z2, q2, rfl, hz2, hz2b, _, hzl, hzc, hzm, hz11, _, hq2, hr3, hg3⟩
      subst hzl
      have Hz2 := Lib.hid hz2; clear hz2
      have Hz2b := Lib.hid hz2b; clear hz2b
      have HG3 := Lib.hid (grown_trans HG2.out hg3)
      clear HG2
      have Hres3 := Lib.hid (Blk.grown Hres2.out hg3 (by intro e; injection e with e; omega))
      clear Hres2
      have Htl3 := Lib.hid (TariffLies.kept Htl2.out hg3 (.inl (by omega)))
      clear Htl2
      have Htv3 := Lib.hid (Blk.grown Htv2.out hg3 (by intro e; injection e with e; omega))
      clear Htv2
      clear hg3
      clear Hrd2
      have Hrd3 := Lib.hid hr3; clear hr3
      have hgl3 : g < w3.heap.size := (Hrd3.out).lt
      have tq0 : w3.cell? ⟨w1.heap.size, 0, none⟩ = some (.slice u.pA u.L.length u.pc) := Htv3.out.cell 0
      have r0 : w3.cell? ⟨w.heap.size, 0, none⟩ = some (.slice none 0 0) := Hres3.out.cell 0
      have g0 := Hres3.out.free 0
      have tq1 : w3.cell? ⟨w1.heap.size, 1, none⟩ = some (.slice u.zA u.z.length u.zc) := Htv3.out.cell 1
      have r1 : w3.cell? ⟨w.heap.size, 1, none⟩ = some (.slice none 0 0) := Hres3.out.cell 1
      have g1 := Hres3.out.free 1
      have tq2 : w3.cell? ⟨w1.heap.size, 2, none⟩ = some (.slice u.kA u.k.length u.kc) := Htv3.out.cell 2
      have r2 : w3.cell? ⟨w.heap.size, 2, none⟩ = some (.slice none 0 0) := Hres3.out.cell 2
      have g2 := Hres3.out.free 2
      have tq3 : w3.cell? ⟨w1.heap.size, 3, none⟩ = some (.int .i64 u.e) := Htv3.out.cell 3
      have r3 : w3.cell? ⟨w.heap.size, 3, none⟩ = some (.int .i64 0) := Hres3.out.cell 3
      have g3 := Hres3.out.free 3
      have tq4 : w3.cell? ⟨w1.heap.size, 4, none⟩ = some (.int .i64 u.t) := Htv3.out.cell 4
      have r4 : w3.cell? ⟨w.heap.size, 4, none⟩ = some (.int .i64 0) := Hres3.out.cell 4
      have g4 := Hres3.out.free 4
      have f1 := Htv3.out.free 1
      go_wp2
      generalize hW : World.setCell _ _ _ = Wf
      have hg1 : w3.grownBy (w3.setCell ⟨w1.heap.size, 1, none⟩ (.slice zA2 z2.length zc2)) (some w1.heap.size) := grown_setCell (grown_refl _ _) (.inl rfl) _
      have Hrd51 := Lib.hid (Rd.grown_new Hrd3.out hg1 (fun r hr => by injection hr with hr; omega))
      have HG51 := Lib.hid (grown_new HG3.out hg1 (fun r hr => by injection hr with hr; omega))
      have Hres51 := Lib.hid (Blk.grown Hres3.out hg1 (by intro e; injection e with e; omega))
      have Htl51 := Lib.hid (TariffLies.kept Htl3.out hg1 (.inr ⟨by omega, by omega⟩))
      have hRf := (Blk.put (Blk.put (Blk.put (Blk.put (Blk.put Hres51.out 0 (.slice u.pA u.L.length u.pc)) 1 (.slice zA2 z2.length zc2)) 2 (.slice u.kA u.k.length u.kc)) 3 (.int .i64 u.e)) 4 (.int .i64 u.t))
      rw [hW] at hRf
      have zz0 : Wf.cell? ⟨w.heap.size, 0, none⟩ = some (.slice u.pA u.L.length u.pc) := hRf.cell 0
      have zz1 : Wf.cell? ⟨w.heap.size, 1, none⟩ = some (.slice zA2 z2.length zc2) := hRf.cell 1
      have zz2 : Wf.cell? ⟨w.heap.size, 2, none⟩ = some (.slice u.kA u.k.length u.kc) := hRf.cell 2
      have zz3 : Wf.cell? ⟨w.heap.size, 3, none⟩ = some (.int .i64 u.e) := hRf.cell 3
      have zz4 : Wf.cell? ⟨w.heap.size, 4, none⟩ = some (.int .i64 u.t) := hRf.cell 4
      have hgf := (grown_setCell (grown_setCell (grown_setCell (grown_setCell (grown_setCell (grown_refl (w3.setCell ⟨w1.heap.size, 1, none⟩ (.slice zA2 z2.length zc2)) (some w.heap.size)) (p := ⟨w.heap.size, 0, none⟩) (.inl rfl) (.slice u.pA u.L.length u.pc)) (p := ⟨w.heap.size, 1, none⟩) (.inl rfl) (.slice zA2 z2.length zc2)) (p := ⟨w.heap.size, 2, none⟩) (.inl rfl) (.slice u.kA u.k.length u.kc)) (p := ⟨w.heap.size, 3, none⟩) (.inl rfl) (.int .i64 u.e)) (p := ⟨w.heap.size, 4, none⟩) (.inl rfl) (.int .i64 u.t))
      rw [hW] at hgf
      clear hW hRf
      have HdF := Lib.hid (Rd.below Hrd51.out (Below.grown (Below.refl _ _) hgf (Nat.succ_le_of_lt (Rd.lt Hrd51.out)) (fun r hr => by injection hr with hr; omega)))
      have HGF := Lib.hid (grown_new HG51.out hgf (fun r hr => by injection hr with hr; omega))
      have htf := TariffLies.kept Htl51.out hgf (.inl (by omega))
      have hzF : Ints Wf Wf.heap.size zA2 z2 := readsGrown (readsGrown Hz2.out hg1 (fun a ha e => by have := Hz2b.out a ha; injection e with e; omega)) hgf (fun a ha e => by have := Hz2b.out a ha; injection e with e; omega)
      obtain ⟨u2, hu⟩ : ∃ u2 : TariffR, u2 = ⟨u.pA, u.pc, u.L, zA2, zc2, z2, u.kA, u.kc, u.k, u.e, u.t⟩ := ⟨_, rfl⟩
      have huv : tariffV u2 = .agg #[.slice u.pA u.L.length u.pc, .slice zA2 z2.length zc2, .slice u.kA u.k.length u.kc, .int .i64 u.e, .int .i64 u.t] := by rw [hu]; unfold tariffV; rfl
      have htl := TariffLies.loose htf (show w.heap.size ≤ w.heap.size + 1 by omega)
      have HinF : Hid (TariffLies Wf w.heap.size 0 u2) := Lib.hid (by rw [hu]; exact ⟨htl.1, htl.2.1, ⟨hzF, fun a ha => ⟨by have := Hz2b.out a ha; omega, .inl rfl⟩⟩, htl.2.2.2.1, htl.2.2.2.2.1, htl.2.2.2.2.2.1, hzc, hzm, htl.2.2.2.2.2.2.2.2⟩)
      have Hsm : Hid (u2.L.length ≤ 5 ∧ (∀ r ∈ u2.L, r.xs.length ≤ 6) ∧ u2.z.length ≤ 11 ∧ u2.k.length ≤ 4) := Lib.hid (by rw [hu]; exact ⟨hL5, fun r hr => Nat.le_succ_of_le (Hrs.out r hr).1, by dsimp only; omega, by dsimp only; omega⟩)
      exact bodyPost_ret (v := tariffV u2) (by simp [results, Try.results64, go_sem, huv, zz0, zz1, zz2, zz3, zz4]) rfl ⟨u2, q2, rfl, HinF.out, Hsm.out.1, Hsm.out.2.1, Hsm.out.2.2.1, Hsm.out.2.2.2, by omega, HdF.out, HGF.out⟩
    · have hk1' : (k == 1) = false := by simpa using hk1
      clear hk1
      by_cases hk2 : k = 2
      · subst hk2
        go_wp2_with fail
        refine (one_in g (q1 + 1) _ [-1, 101] (-1) 101 2 2 _ _ (Rd.alloc Hrd2.out _) (by omega) (Blk.new' (by simp)) (by have := (Hrd2.out).lt; (try simp); omega) rfl rfl (by omega) (by omega) (by decide)).mono ?_
        rintro e w3 ⟨x, rfl, x0, x1, hr3, hg3⟩
        have HG3 := Lib.hid (grown_trans (grown_alloc HG2.out _) hg3)
        clear HG2
        have Hres3 := Lib.hid (Blk.grown (Blk.alloc Hres2.out _) hg3 (by intro e; injection e with e; omega))
        clear Hres2
        have Htl3 := Lib.hid (TariffLies.kept (TariffLies.up Htl2.out _) hg3 (.inl (by omega)))
        clear Htl2
        have Hpr3 := Lib.hid (World.ownsRow.kept (World.ownsRow.alloc Hpr2.out _) hg3 (apart_of (fun j hj e => by have := (World.ownsRow.lt Hpr2.out j hj).1; injection e with e; omega)))
        clear Hpr2
        have Hrows3 := Lib.hid (RowsOwn.rd (RowsOwn.up Hrows2.out _) hg3 (by omega))
        clear Hrows2
        have Htv3 := Lib.hid (Blk.grown (Blk.alloc Htv2.out _) hg3 (by intro e; injection e with e; omega))
        clear Htv2
        clear hg3
        clear Hrd2
        have Hrd3 := Lib.hid hr3; clear hr3
        have hgl3 : g < w3.heap.size := (Hrd3.out).lt
        have tq0 : w3.cell? ⟨w1.heap.size, 0, none⟩ = some (.slice u.pA u.L.length u.pc) := Htv3.out.cell 0
        have r0 : w3.cell? ⟨w.heap.size, 0, none⟩ = some (.slice none 0 0) := Hres3.out.cell 0
        have g0 := Hres3.out.free 0
        have tq1 : w3.cell? ⟨w1.heap.size, 1, none⟩ = some (.slice u.zA u.z.length u.zc) := Htv3.out.cell 1
        have r1 : w3.cell? ⟨w.heap.size, 1, none⟩ = some (.slice none 0 0) := Hres3.out.cell 1
        have g1 := Hres3.out.free 1
        have tq2 : w3.cell? ⟨w1.heap.size, 2, none⟩ = some (.slice u.kA u.k.length u.kc) := Htv3.out.cell 2
        have r2 : w3.cell? ⟨w.heap.size, 2, none⟩ = some (.slice none 0 0) := Hres3.out.cell 2
        have g2 := Hres3.out.free 2
        have tq3 : w3.cell? ⟨w1.heap.size, 3, none⟩ = some (.int .i64 u.e) := Htv3.out.cell 3
        have r3 : w3.cell? ⟨w.heap.size, 3, none⟩ = some (.int .i64 0) := Hres3.out.cell 3
        have g3 := Hres3.out.free 3
        have tq4 : w3.cell? ⟨w1.heap.size, 4, none⟩ = some (.int .i64 u.t) := Htv3.out.cell 4
        have r4 : w3.cell? ⟨w.heap.size, 4, none⟩ = some (.int .i64 0) := Hres3.out.cell 4
        have g4 := Hres3.out.free 4
        have f3 := Htv3.out.free 3
        go_wp2
        generalize hW : World.setCell _ _ _ = Wf
        have hg1 : w3.grownBy (w3.setCell ⟨w1.heap.size, 3, none⟩ (.int .i64 x)) (some w1.heap.size) := grown_setCell (grown_refl _ _) (.inl rfl) _
        have Hrd51 := Lib.hid (Rd.grown_new Hrd3.out hg1 (fun r hr => by injection hr with hr; omega))
        have HG51 := Lib.hid (grown_new HG3.out hg1 (fun r hr => by injection hr with hr; omega))
        have Hres51 := Lib.hid (Blk.grown Hres3.out hg1 (by intro e; injection e with e; omega))
        have Htl51 := Lib.hid (TariffLies.kept Htl3.out hg1 (.inr ⟨by omega, by omega⟩))
        have hRf := (Blk.put (Blk.put (Blk.put (Blk.put (Blk.put Hres51.out 0 (.slice u.pA u.L.length u.pc)) 1 (.slice u.zA u.z.length u.zc)) 2 (.slice u.kA u.k.length u.kc)) 3 (.int .i64 x)) 4 (.int .i64 u.t))
        rw [hW] at hRf
        have zz0 : Wf.cell? ⟨w.heap.size, 0, none⟩ = some (.slice u.pA u.L.length u.pc) := hRf.cell 0
        have zz1 : Wf.cell? ⟨w.heap.size, 1, none⟩ = some (.slice u.zA u.z.length u.zc) := hRf.cell 1
        have zz2 : Wf.cell? ⟨w.heap.size, 2, none⟩ = some (.slice u.kA u.k.length u.kc) := hRf.cell 2
        have zz3 : Wf.cell? ⟨w.heap.size, 3, none⟩ = some (.int .i64 x) := hRf.cell 3
        have zz4 : Wf.cell? ⟨w.heap.size, 4, none⟩ = some (.int .i64 u.t) := hRf.cell 4
        have hgf := (grown_setCell (grown_setCell (grown_setCell (grown_setCell (grown_setCell (grown_refl (w3.setCell ⟨w1.heap.size, 3, none⟩ (.int .i64 x)) (some w.heap.size)) (p := ⟨w.heap.size, 0, none⟩) (.inl rfl) (.slice u.pA u.L.length u.pc)) (p := ⟨w.heap.size, 1, none⟩) (.inl rfl) (.slice u.zA u.z.length u.zc)) (p := ⟨w.heap.size, 2, none⟩) (.inl rfl) (.slice u.kA u.k.length u.kc)) (p := ⟨w.heap.size, 3, none⟩) (.inl rfl) (.int .i64 x)) (p := ⟨w.heap.size, 4, none⟩) (.inl rfl) (.int .i64 u.t))
        rw [hW] at hgf
        clear hW hRf
        have HdF := Lib.hid (Rd.below Hrd51.out (Below.grown (Below.refl _ _) hgf (Nat.succ_le_of_lt (Rd.lt Hrd51.out)) (fun r hr => by injection hr with hr; omega)))
        have HGF := Lib.hid (grown_new HG51.out hgf (fun r hr => by injection hr with hr; omega))
        have htf := TariffLies.kept Htl51.out hgf (.inl (by omega))
        obtain ⟨u2, hu⟩ : ∃ u2 : TariffR, u2 = ⟨u.pA, u.pc, u.L, u.zA, u.zc, u.z, u.kA, u.kc, u.k, x, u.t⟩ := ⟨_, rfl⟩
        have huv : tariffV u2 = .agg #[.slice u.pA u.L.length u.pc, .slice u.zA u.z.length u.zc, .slice u.kA u.k.length u.kc, .int .i64 x, .int .i64 u.t] := by rw [hu]; unfold tariffV; rfl
        have htl := TariffLies.loose htf (show w.heap.size ≤ w.heap.size + 1 by omega)
        have HinF : Hid (TariffLies Wf w.heap.size 0 u2) := Lib.hid (by rw [hu]; exact htl)
        have Hsm : Hid (u2.L.length ≤ 5 ∧ (∀ r ∈ u2.L, r.xs.length ≤ 6) ∧ u2.z.length ≤ 11 ∧ u2.k.length ≤ 4) := Lib.hid (by rw [hu]; exact ⟨hL5, fun r hr => Nat.le_succ_of_le (Hrs.out r hr).1, by dsimp only; omega, by dsimp only; omega⟩)
        exact bodyPost_ret (v := tariffV u2) (by simp [results, Try.results64, go_sem, huv, zz0, zz1, zz2, zz3, zz4]) rfl ⟨u2, q1 + 1 + 1, rfl, HinF.out, Hsm.out.1, Hsm.out.2.1, Hsm.out.2.2.1, Hsm.out.2.2.2, by omega, HdF.out, HGF.out⟩
      · have hk2' : (k == 2) = false := by simpa using hk2
        clear hk2
        by_cases hk3 : k = 3
        · subst hk3
          go_wp2_with fail
          refine (one_in g (q1 + 1) _ [-1, 4001] (-1) 4001 2 2 _ _ (Rd.alloc Hrd2.out _) (by omega) (Blk.new' (by simp)) (by have := (Hrd2.out).lt; (try simp); omega) rfl rfl (by omega) (by omega) (by decide)).mono ?_
          rintro e w3 ⟨x, rfl, x0, x1, hr3, hg3⟩
          have HG3 := Lib.hid (grown_trans (grown_alloc HG2.out _) hg3)
          clear HG2
          have Hres3 := Lib.hid (Blk.grown (Blk.alloc Hres2.out _) hg3 (by intro e; injection e with e; omega))
          clear Hres2
          have Htl3 := Lib.hid (TariffLies.kept (TariffLies.up Htl2.out _) hg3 (.inl (by omega)))
          clear Htl2
          have Hpr3 := Lib.hid (World.ownsRow.kept (World.ownsRow.alloc Hpr2.out _) hg3 (apart_of (fun j hj e => by have := (World.ownsRow.lt Hpr2.out j hj).1; injection e with e; omega)))
          clear Hpr2
          have Hrows3 := Lib.hid (RowsOwn.rd (RowsOwn.up Hrows2.out _) hg3 (by omega))
          clear Hrows2
          have Htv3 := Lib.hid (Blk.grown (Blk.alloc Htv2.out _) hg3 (by intro e; injection e with e; omega))
          clear Htv2
          clear hg3
          clear Hrd2
          have Hrd3 := Lib.hid hr3; clear hr3
          have hgl3 : g < w3.heap.size := (Hrd3.out).lt
          have tq0 : w3.cell? ⟨w1.heap.size, 0, none⟩ = some (.slice u.pA u.L.length u.pc) := Htv3.out.cell 0
          have r0 : w3.cell? ⟨w.heap.size, 0, none⟩ = some (.slice none 0 0) := Hres3.out.cell 0
          have g0 := Hres3.out.free 0
          have tq1 : w3.cell? ⟨w1.heap.size, 1, none⟩ = some (.slice u.zA u.z.length u.zc) := Htv3.out.cell 1
          have r1 : w3.cell? ⟨w.heap.size, 1, none⟩ = some (.slice none 0 0) := Hres3.out.cell 1
          have g1 := Hres3.out.free 1
          have tq2 : w3.cell? ⟨w1.heap.size, 2, none⟩ = some (.slice u.kA u.k.length u.kc) := Htv3.out.cell 2
          have r2 : w3.cell? ⟨w.heap.size, 2, none⟩ = some (.slice none 0 0) := Hres3.out.cell 2
          have g2 := Hres3.out.free 2
          have tq3 : w3.cell? ⟨w1.heap.size, 3, none⟩ = some (.int .i64 u.e) := Htv3.out.cell 3
          have r3 : w3.cell? ⟨w.heap.size, 3, none⟩ = some (.int .i64 0) := Hres3.out.cell 3
          have g3 := Hres3.out.free 3
          have tq4 : w3.cell? ⟨w1.heap.size, 4, none⟩ = some (.int .i64 u.t) := Htv3.out.cell 4
          have r4 : w3.cell? ⟨w.heap.size, 4, none⟩ = some (.int .i64 0) := Hres3.out.cell 4
          have g4 := Hres3.out.free 4
          have f4 := Htv3.out.free 4
          go_wp2
          generalize hW : World.setCell _ _ _ = Wf
          have hg1 : w3.grownBy (w3.setCell ⟨w1.heap.size, 4, none⟩ (.int .i64 x)) (some w1.heap.size) := grown_setCell (grown_refl _ _) (.inl rfl) _
          have Hrd51 := Lib.hid (Rd.grown_new Hrd3.out hg1 (fun r hr => by injection hr with hr; omega))
          have HG51 := Lib.hid (grown_new HG3.out hg1 (fun r hr => by injection hr with hr; omega))
          have Hres51 := Lib.hid (Blk.grown Hres3.out hg1 (by intro e; injection e with e; omega))
          have Htl51 := Lib.hid (TariffLies.kept Htl3.out hg1 (.inr ⟨by omega, by omega⟩))
          have hRf := (Blk.put (Blk.put (Blk.put (Blk.put (Blk.put Hres51.out 0 (.slice u.pA u.L.length u.pc)) 1 (.slice u.zA u.z.length u.zc)) 2 (.slice u.kA u.k.length u.kc)) 3 (.int .i64 u.e)) 4 (.int .i64 x))
          rw [hW] at hRf
          have zz0 : Wf.cell? ⟨w.heap.size, 0, none⟩ = some (.slice u.pA u.L.length u.pc) := hRf.cell 0
          have zz1 : Wf.cell? ⟨w.heap.size, 1, none⟩ = some (.slice u.zA u.z.length u.zc) := hRf.cell 1
          have zz2 : Wf.cell? ⟨w.heap.size, 2, none⟩ = some (.slice u.kA u.k.length u.kc) := hRf.cell 2
          have zz3 : Wf.cell? ⟨w.heap.size, 3, none⟩ = some (.int .i64 u.e) := hRf.cell 3
          have zz4 : Wf.cell? ⟨w.heap.size, 4, none⟩ = some (.int .i64 x) := hRf.cell 4
          have hgf := (grown_setCell (grown_setCell (grown_setCell (grown_setCell (grown_setCell (grown_refl (w3.setCell ⟨w1.heap.size, 4, none⟩ (.int .i64 x)) (some w.heap.size)) (p := ⟨w.heap.size, 0, none⟩) (.inl rfl) (.slice u.pA u.L.length u.pc)) (p := ⟨w.heap.size, 1, none⟩) (.inl rfl) (.slice u.zA u.z.length u.zc)) (p := ⟨w.heap.size, 2, none⟩) (.inl rfl) (.slice u.kA u.k.length u.kc)) (p := ⟨w.heap.size, 3, none⟩) (.inl rfl) (.int .i64 u.e)) (p := ⟨w.heap.size, 4, none⟩) (.inl rfl) (.int .i64 x))
          rw [hW] at hgf
          clear hW hRf
          have HdF := Lib.hid (Rd.below Hrd51.out (Below.grown (Below.refl _ _) hgf (Nat.succ_le_of_lt (Rd.lt Hrd51.out)) (fun r hr => by injection hr with hr; omega)))
          have HGF := Lib.hid (grown_new HG51.out hgf (fun r hr => by injection hr with hr; omega))
          have htf := TariffLies.kept Htl51.out hgf (.inl (by omega))
          obtain ⟨u2, hu⟩ : ∃ u2 : TariffR, u2 = ⟨u.pA, u.pc, u.L, u.zA, u.zc, u.z, u.kA, u.kc, u.k, u.e, x⟩ := ⟨_, rfl⟩
          have huv : tariffV u2 = .agg #[.slice u.pA u.L.length u.pc, .slice u.zA u.z.length u.zc, .slice u.kA u.k.length u.kc, .int .i64 u.e, .int .i64 x] := by rw [hu]; unfold tariffV; rfl
          have htl := TariffLies.loose htf (show w.heap.size ≤ w.heap.size + 1 by omega)
          have HinF : Hid (TariffLies Wf w.heap.size 0 u2) := Lib.hid (by rw [hu]; exact htl)
          have Hsm : Hid (u2.L.length ≤ 5 ∧ (∀ r ∈ u2.L, r.xs.length ≤ 6) ∧ u2.z.length ≤ 11 ∧ u2.k.length ≤ 4) := Lib.hid (by rw [hu]; exact ⟨hL5, fun r hr => Nat.le_succ_of_le (Hrs.out r hr).1, by dsimp only; omega, by dsimp only; omega⟩)
          exact bodyPost_ret (v := tariffV u2) (by simp [results, Try.results64, go_sem, huv, zz0, zz1, zz2, zz3, zz4]) rfl ⟨u2, q1 + 1 + 1, rfl, HinF.out, Hsm.out.1, Hsm.out.2.1, Hsm.out.2.2.1, Hsm.out.2.2.2, by omega, HdF.out, HGF.out⟩
        · have hk3' : (k == 3) = false := by simpa using hk3
          clear hk3
          by_cases hk4 : k = 4
          · subst hk4
            go_wp2_with fail
            refine (anyBands_any g (q1 + 1) _ Hrd2.out (by omega)).mono ?_
            rintro e w3 ⟨vb, kb, q2, rfl, hob, hkb4, _, hq2, hr3, hg3⟩
            obtain ⟨kA2, kc2, rfl, hkc, hkm, hkr⟩ := OwnBands.form hob
            have Hkb := Lib.hid (own_lies hob).1
            clear hob hkr
            have HG3 := Lib.hid (grown_trans HG2.out hg3)
            clear HG2
            have Hres3 := Lib.hid (Blk.grown Hres2.out hg3 (by intro e; injection e with e; omega))
            clear Hres2
            have Htl3 := Lib.hid (TariffLies.kept Htl2.out hg3 (.inl (by omega)))
            clear Htl2
            have Htv3 := Lib.hid (Blk.grown Htv2.out hg3 (by intro e; injection e with e; omega))
            clear Htv2
            clear hg3
            clear Hrd2
            have Hrd3 := Lib.hid hr3; clear hr3
            have hgl3 : g < w3.heap.size := (Hrd3.out).lt
            have tq0 : w3.cell? ⟨w1.heap.size, 0, none⟩ = some (.slice u.pA u.L.length u.pc) := Htv3.out.cell 0
            have r0 : w3.cell? ⟨w.heap.size, 0, none⟩ = some (.slice none 0 0) := Hres3.out.cell 0
            have g0 := Hres3.out.free 0
            have tq1 : w3.cell? ⟨w1.heap.size, 1, none⟩ = some (.slice u.zA u.z.length u.zc) := Htv3.out.cell 1
            have r1 : w3.cell? ⟨w.heap.size, 1, none⟩ = some (.slice none 0 0) := Hres3.out.cell 1
            have g1 := Hres3.out.free 1
            have tq2 : w3.cell? ⟨w1.heap.size, 2, none⟩ = some (.slice u.kA u.k.length u.kc) := Htv3.out.cell 2
            have r2 : w3.cell? ⟨w.heap.size, 2, none⟩ = some (.slice none 0 0) := Hres3.out.cell 2
            have g2 := Hres3.out.free 2
            have tq3 : w3.cell? ⟨w1.heap.size, 3, none⟩ = some (.int .i64 u.e) := Htv3.out.cell 3
            have r3 : w3.cell? ⟨w.heap.size, 3, none⟩ = some (.int .i64 0) := Hres3.out.cell 3
            have g3 := Hres3.out.free 3
            have tq4 : w3.cell? ⟨w1.heap.size, 4, none⟩ = some (.int .i64 u.t) := Htv3.out.cell 4
            have r4 : w3.cell? ⟨w.heap.size, 4, none⟩ = some (.int .i64 0) := Hres3.out.cell 4
            have g4 := Hres3.out.free 4
            have f2 := Htv3.out.free 2
            go_wp2
            generalize hW : World.setCell _ _ _ = Wf
            have hg1 : w3.grownBy (w3.setCell ⟨w1.heap.size, 2, none⟩ (.slice kA2 kb.length kc2)) (some w1.heap.size) := grown_setCell (grown_refl _ _) (.inl rfl) _
            have Hrd51 := Lib.hid (Rd.grown_new Hrd3.out hg1 (fun r hr => by injection hr with hr; omega))
            have HG51 := Lib.hid (grown_new HG3.out hg1 (fun r hr => by injection hr with hr; omega))
            have Hres51 := Lib.hid (Blk.grown Hres3.out hg1 (by intro e; injection e with e; omega))
            have Htl51 := Lib.hid (TariffLies.kept Htl3.out hg1 (.inr ⟨by omega, by omega⟩))
            have hRf := (Blk.put (Blk.put (Blk.put (Blk.put (Blk.put Hres51.out 0 (.slice u.pA u.L.length u.pc)) 1 (.slice u.zA u.z.length u.zc)) 2 (.slice kA2 kb.length kc2)) 3 (.int .i64 u.e)) 4 (.int .i64 u.t))
            rw [hW] at hRf
            have zz0 : Wf.cell? ⟨w.heap.size, 0, none⟩ = some (.slice u.pA u.L.length u.pc) := hRf.cell 0
            have zz1 : Wf.cell? ⟨w.heap.size, 1, none⟩ = some (.slice u.zA u.z.length u.zc) := hRf.cell 1
            have zz2 : Wf.cell? ⟨w.heap.size, 2, none⟩ = some (.slice kA2 kb.length kc2) := hRf.cell 2
            have zz3 : Wf.cell? ⟨w.heap.size, 3, none⟩ = some (.int .i64 u.e) := hRf.cell 3
            have zz4 : Wf.cell? ⟨w.heap.size, 4, none⟩ = some (.int .i64 u.t) := hRf.cell 4
            have hgf := (grown_setCell (grown_setCell (grown_setCell (grown_setCell (grown_setCell (grown_refl (w3.setCell ⟨w1.heap.size, 2, none⟩ (.slice kA2 kb.length kc2)) (some w.heap.size)) (p := ⟨w.heap.size, 0, none⟩) (.inl rfl) (.slice u.pA u.L.length u.pc)) (p := ⟨w.heap.size, 1, none⟩) (.inl rfl) (.slice u.zA u.z.length u.zc)) (p := ⟨w.heap.size, 2, none⟩) (.inl rfl) (.slice kA2 kb.length kc2)) (p := ⟨w.heap.size, 3, none⟩) (.inl rfl) (.int .i64 u.e)) (p := ⟨w.heap.size, 4, none⟩) (.inl rfl) (.int .i64 u.t))
            rw [hW] at hgf
            clear hW hRf
            have HdF := Lib.hid (Rd.below Hrd51.out (Below.grown (Below.refl _ _) hgf (Nat.succ_le_of_lt (Rd.lt Hrd51.out)) (fun r hr => by injection hr with hr; omega)))
            have HGF := Lib.hid (grown_new HG51.out hgf (fun r hr => by injection hr with hr; omega))
            have htf := TariffLies.kept Htl51.out hgf (.inl (by omega))
            have hkF : Bands Wf Wf.heap.size kA2 kb := readsGrown (readsGrown Hkb.out.1 hg1 (fun a ha e => by have := Hkb.out.2 a ha; injection e with e; omega)) hgf (fun a ha e => by have := Hkb.out.2 a ha; injection e with e; omega)
            obtain ⟨u2, hu⟩ : ∃ u2 : TariffR, u2 = ⟨u.pA, u.pc, u.L, u.zA, u.zc, u.z, kA2, kc2, kb, u.e, u.t⟩ := ⟨_, rfl⟩
            have huv : tariffV u2 = .agg #[.slice u.pA u.L.length u.pc, .slice u.zA u.z.length u.zc, .slice kA2 kb.length kc2, .int .i64 u.e, .int .i64 u.t] := by rw [hu]; unfold tariffV; rfl
            have htl := TariffLies.loose htf (show w.heap.size ≤ w.heap.size + 1 by omega)
            have HinF : Hid (TariffLies Wf w.heap.size 0 u2) := Lib.hid (by rw [hu]; exact ⟨htl.1, htl.2.1, htl.2.2.1, ⟨hkF, fun a ha => ⟨by have := (Hkb.out.2 a ha).1; omega, .inl rfl⟩⟩, htl.2.2.2.2.1, htl.2.2.2.2.2.1, htl.2.2.2.2.2.2.1, htl.2.2.2.2.2.2.2.1, hkc, hkm⟩)
            have Hsm : Hid (u2.L.length ≤ 5 ∧ (∀ r ∈ u2.L, r.xs.length ≤ 6) ∧ u2.z.length ≤ 11 ∧ u2.k.length ≤ 4) := Lib.hid (by rw [hu]; exact ⟨hL5, fun r hr => Nat.le_succ_of_le (Hrs.out r hr).1, by dsimp only; omega, by dsimp only; omega⟩)
            exact bodyPost_ret (v := tariffV u2) (by simp [results, Try.results64, go_sem, huv, zz0, zz1, zz2, zz3, zz4]) rfl ⟨u2, q2, rfl, HinF.out, Hsm.out.1, Hsm.out.2.1, Hsm.out.2.2.1, Hsm.out.2.2.2, by omega, HdF.out, HGF.out⟩
          · have hk4' : (k == 4) = false := by simpa using hk4
            clear hk4
            have tq0 : w2.cell? ⟨w1.heap.size, 0, none⟩ = some (.slice u.pA u.L.length u.pc) := Htv2.out.cell 0
            have r0 : w2.cell? ⟨w.heap.size, 0, none⟩ = some (.slice none 0 0) := Hres2.out.cell 0
            have g0 := Hres2.out.free 0
            have tq1 : w2.cell? ⟨w1.heap.size, 1, none⟩ = some (.slice u.zA u.z.length u.zc) := Htv2.out.cell 1
            have r1 : w2.cell? ⟨w.heap.size, 1, none⟩ = some (.slice none 0 0) := Hres2.out.cell 1
            have g1 := Hres2.out.free 1
            have tq2 : w2.cell? ⟨w1.heap.size, 2, none⟩ = some (.slice u.kA u.k.length u.kc) := Htv2.out.cell 2
            have r2 : w2.cell? ⟨w.heap.size, 2, none⟩ = some (.slice none 0 0) := Hres2.out.cell 2
            have g2 := Hres2.out.free 2
            have tq3 : w2.cell? ⟨w1.heap.size, 3, none⟩ = some (.int .i64 u.e) := Htv2.out.cell 3
            have r3 : w2.cell? ⟨w.heap.size, 3, none⟩ = some (.int .i64 0) := Hres2.out.cell 3
            have g3 := Hres2.out.free 3
            have tq4 : w2.cell? ⟨w1.heap.size, 4, none⟩ = some (.int .i64 u.t) := Htv2.out.cell 4
            have r4 : w2.cell? ⟨w.heap.size, 4, none⟩ = some (.int .i64 0) := Hres2.out.cell 4
            have g4 := Hres2.out.free 4
            go_wp2
            generalize hW : World.setCell _ _ _ = Wf
            have hRf := (Blk.put (Blk.put (Blk.put (Blk.put (Blk.put Hres2.out 0 (.slice u.pA u.L.length u.pc)) 1 (.slice u.zA u.z.length u.zc)) 2 (.slice u.kA u.k.length u.kc)) 3 (.int .i64 u.e)) 4 (.int .i64 u.t))
            rw [hW] at hRf
            have zz0 : Wf.cell? ⟨w.heap.size, 0, none⟩ = some (.slice u.pA u.L.length u.pc) := hRf.cell 0
            have zz1 : Wf.cell? ⟨w.heap.size, 1, none⟩ = some (.slice u.zA u.z.length u.zc) := hRf.cell 1
            have zz2 : Wf.cell? ⟨w.heap.size, 2, none⟩ = some (.slice u.kA u.k.length u.kc) := hRf.cell 2
            have zz3 : Wf.cell? ⟨w.heap.size, 3, none⟩ = some (.int .i64 u.e) := hRf.cell 3
            have zz4 : Wf.cell? ⟨w.heap.size, 4, none⟩ = some (.int .i64 u.t) := hRf.cell 4
            have hgf := (grown_setCell (grown_setCell (grown_setCell (grown_setCell (grown_setCell (grown_refl w2 (some w.heap.size)) (p := ⟨w.heap.size, 0, none⟩) (.inl rfl) (.slice u.pA u.L.length u.pc)) (p := ⟨w.heap.size, 1, none⟩) (.inl rfl) (.slice u.zA u.z.length u.zc)) (p := ⟨w.heap.size, 2, none⟩) (.inl rfl) (.slice u.kA u.k.length u.kc)) (p := ⟨w.heap.size, 3, none⟩) (.inl rfl) (.int .i64 u.e)) (p := ⟨w.heap.size, 4, none⟩) (.inl rfl) (.int .i64 u.t))
            rw [hW] at hgf
            clear hW hRf
            have HdF := Lib.hid (Rd.below Hrd2.out (Below.grown (Below.refl _ _) hgf (Nat.succ_le_of_lt (Rd.lt Hrd2.out)) (fun r hr => by injection hr with hr; omega)))
            have HGF := Lib.hid (grown_new HG2.out hgf (fun r hr => by injection hr with hr; omega))
            have htf := TariffLies.kept Htl2.out hgf (.inl (by omega))
            obtain ⟨u2, hu⟩ : ∃ u2 : TariffR, u2 = ⟨u.pA, u.pc, u.L, u.zA, u.zc, u.z, u.kA, u.kc, u.k, u.e, u.t⟩ := ⟨_, rfl⟩
            have huv : tariffV u2 = .agg #[.slice u.pA u.L.length u.pc, .slice u.zA u.z.length u.zc, .slice u.kA u.k.length u.kc, .int .i64 u.e, .int .i64 u.t] := by rw [hu]; unfold tariffV; rfl
            have htl := TariffLies.loose htf (show w.heap.size ≤ w.heap.size + 1 by omega)
            have HinF : Hid (TariffLies Wf w.heap.size 0 u2) := Lib.hid (by rw [hu]; exact htl)
            have Hsm : Hid (u2.L.length ≤ 5 ∧ (∀ r ∈ u2.L, r.xs.length ≤ 6) ∧ u2.z.length ≤ 11 ∧ u2.k.length ≤ 4) := Lib.hid (by rw [hu]; exact ⟨hL5, fun r hr => Nat.le_succ_of_le (Hrs.out r hr).1, by dsimp only; omega, by dsimp only; omega⟩)
            exact bodyPost_ret (v := tariffV u2) (by simp [results, Try.results64, go_sem, huv, zz0, zz1, zz2, zz3, zz4]) rfl ⟨u2, q1 + 1, rfl, HinF.out, Hsm.out.1, Hsm.out.2.1, Hsm.out.2.2.1, Hsm.out.2.2.2, by omega, HdF.out, HGF.out⟩
end Go.Proofs.Ytgmphbkcblkmbaa
