/-
  The arguments of the laws on tariffs, drawn.
-/
import Derived.Test.YtgmphbkcblkmbaaDrawAnyTariff
import Derived.Test.YtgmphbkcblkmbaaDrawValidTap
set_option linter.unusedSimpArgs false
namespace Go.Proofs.Ytgmphbkcblkmbaa
open Go.RowKit Go.Deep
set_option linter.unusedVariables false

def DrawsTariff (w : World) (e : Ending) (w' : World) : Prop :=
  ∃ u : TariffR, e = .returned (tariffV u) ∧ TariffIn w' w'.heap.size u ∧ u.L.length ≤ 5 ∧ (∀ r ∈ u.L, r.xs.length ≤ 6) ∧ u.z.length ≤ 11 ∧ u.k.length ≤ 4 ∧ Below w.heap.size w w'
set_option maxRecDepth 100000 in
set_option maxHeartbeats 1000000 in
theorem drawValidTariff_any (A : Option Addr) (n c : Nat) (w : World) (h : Bytes w w.heap.size A n c) : Calls Try.prog 24 #[.slice A n c] w (DrawsTariff w) := by
  go_enter Try.func24, Try.ntmps24
  go_wp2_with fail
  generalize hW : World.alloc _ _ = W0
  have h0 : Bytes W0 W0.heap.size A n c := by rw [← hW]; exact Bytes.alloc h _
  have hR0 : Blk W0 w.heap.size 27 #[.slice none 0 0, .slice none 0 0, .slice none 0 0, .int .i64 0, .int .i64 0] := by rw [← hW]; exact Blk.new w _ _
  have hc0 : Below w.heap.size w W0 := by rw [← hW]; exact bA (Below.refl _ _) _
  have hs0 : W0.heap.size = w.heap.size + 1 := by rw [← hW]; simp
  clear hW
  refine (newReader_any A n c W0 h0).mono ?_
  rintro e w1 ⟨rfl, hr1, hb1, hz1⟩
  have hR1 := hR0.belowAll hb1
  have hc1 := bT hc0 hb1
  clear hR0 hb1 h0 hc0
  rw [hs0] at hr1
  go_wp2_with fail
  refine (anyTariff_any (w.heap.size + 1) 0 _ hr1 (by omega)).mono ?_
  rintro e w2 ⟨u, q, rfl, htl, h1, h2, h3, h4, hq, hr2, hg2⟩
  have hR2 := Blk.grown hR1 hg2 (by intro e; injection e with e; omega)
  have hc2 : Below w.heap.size w w2 := Below.trans hc1 (below_of_grown hg2 hc1.size (by omega))
  clear hR1 hr1 hr2 hg2 hc1
  have Htl := Lib.hid htl; clear htl
  have Hc := Lib.hid hc2; clear hc2
  have H2 := Lib.hid h2; clear h2
  unfold tariffV
  have r0 : w2.cell? ⟨w.heap.size, 0, none⟩ = some (.slice none 0 0) := hR2.cell 0
  have g0 := hR2.free 0
  have r1 : w2.cell? ⟨w.heap.size, 1, none⟩ = some (.slice none 0 0) := hR2.cell 1
  have g1 := hR2.free 1
  have r2 : w2.cell? ⟨w.heap.size, 2, none⟩ = some (.slice none 0 0) := hR2.cell 2
  have g2 := hR2.free 2
  have r3 : w2.cell? ⟨w.heap.size, 3, none⟩ = some (.int .i64 0) := hR2.cell 3
  have g3 := hR2.free 3
  have r4 : w2.cell? ⟨w.heap.size, 4, none⟩ = some (.int .i64 0) := hR2.cell 4
  have g4 := hR2.free 4
  have HR := Lib.hid hR2; clear hR2
  go_wp2
  generalize hW : World.setCell _ _ _ = Wf
  have hRf := (Blk.put (Blk.put (Blk.put (Blk.put (Blk.put HR.out 0 (.slice u.pA u.L.length u.pc)) 1 (.slice u.zA u.z.length u.zc)) 2 (.slice u.kA u.k.length u.kc)) 3 (.int .i64 u.e)) 4 (.int .i64 u.t))
  rw [hW] at hRf
  have zz0 : Wf.cell? ⟨w.heap.size, 0, none⟩ = some (.slice u.pA u.L.length u.pc) := hRf.cell 0
  have zz1 : Wf.cell? ⟨w.heap.size, 1, none⟩ = some (.slice u.zA u.z.length u.zc) := hRf.cell 1
  have zz2 : Wf.cell? ⟨w.heap.size, 2, none⟩ = some (.slice u.kA u.k.length u.kc) := hRf.cell 2
  have zz3 : Wf.cell? ⟨w.heap.size, 3, none⟩ = some (.int .i64 u.e) := hRf.cell 3
  have zz4 : Wf.cell? ⟨w.heap.size, 4, none⟩ = some (.int .i64 u.t) := hRf.cell 4
  have hgf := (grown_setCell (grown_setCell (grown_setCell (grown_setCell (grown_setCell (grown_refl w2 (some w.heap.size)) (p := ⟨w.heap.size, 0, none⟩) (.inl rfl) (.slice u.pA u.L.length u.pc)) (p := ⟨w.heap.size, 1, none⟩) (.inl rfl) (.slice u.zA u.z.length u.zc)) (p := ⟨w.heap.size, 2, none⟩) (.inl rfl) (.slice u.kA u.k.length u.kc)) (p := ⟨w.heap.size, 3, none⟩) (.inl rfl) (.int .i64 u.e)) (p := ⟨w.heap.size, 4, none⟩) (.inl rfl) (.int .i64 u.t))
  rw [hW] at hgf
  have hcf : Below w.heap.size w Wf := by rw [← hW]; exact (bS (bS (bS (bS (bS Hc.out (by first | (simp; done) | (simp; omega)) _) (by first | (simp; done) | (simp; omega)) _) (by first | (simp; done) | (simp; omega)) _) (by first | (simp; done) | (simp; omega)) _) (by first | (simp; done) | (simp; omega)) _)
  clear hW hRf
  have huv : tariffV u = .agg #[.slice u.pA u.L.length u.pc, .slice u.zA u.z.length u.zc, .slice u.kA u.k.length u.kc, .int .i64 u.e, .int .i64 u.t] := rfl
  exact bodyPost_ret (v := tariffV u) (by simp [results, Try.results24, go_sem, huv, zz0, zz1, zz2, zz3, zz4]) rfl ⟨u, rfl, ((Htl.out).kept hgf (.inl (by omega))).tariffIn, h1, H2.out, h3, h4, hcf⟩
end Go.Proofs.Ytgmphbkcblkmbaa
