/-
  The arguments of the laws on deny lists, drawn.
-/
import Derived.Test.YtpijjlggmibfnaaDrawDeny
import Derived.Test.YtpijjlggmibfnaaDrawValidTap
set_option linter.unusedSimpArgs false
namespace Go.Proofs.Ytpijjlggmibfnaa
open Go.RowKit Go.Deep
set_option linter.unusedVariables false

def DrawsDeny (w : World) (e : Ending) (w' : World) : Prop :=
  ∃ u : DenyR, e = .returned (denyV u) ∧ DenyIn w' w'.heap.size u ∧ u.cards.length ≤ 14 ∧ Below w.heap.size w w'
theorem denyInDrew {w : World} {u : DenyR} (h : DenyIn w w.heap.size u) : DenyIn w.drew w.drew.heap.size u := h
theorem DenyIn.touch {w w' : World} {u : DenyR} {K : Nat → Prop} {b : Nat} (h : DenyIn w w.heap.size u) (k : Touch K w w') (hb : ∀ a, u.cardsA = some a → b ≤ a.block) (hk : ∀ i, K i → i < b) : DenyIn w' w'.heap.size u :=
  ⟨fun hne => by
    obtain ⟨a0, e0, hb0, hc0⟩ := h.1 hne
    have h0 := hb a0 e0
    refine ⟨a0, e0, Nat.lt_of_lt_of_le hb0 k.size, fun i t ht => ?_⟩
    rw [World.cell?_of_block (k.block _ (by rw [add_block]; exact hb0) (by rw [add_block]; intro hh; have := hk _ hh; omega))]
    exact hc0 i t ht, h.2⟩
set_option maxRecDepth 100000 in
set_option maxHeartbeats 1000000 in
theorem drawValidDeny_any (A : Option Addr) (n c : Nat) (w : World) (h : Bytes w w.heap.size A n c) : Calls Try.prog 24 #[.slice A n c] w (DrawsDeny w) := by
  go_enter Try.func24, Try.ntmps24
  go_wp2_with fail
  generalize hW : World.alloc _ _ = W0
  have h0 : Bytes W0 W0.heap.size A n c := by rw [← hW]; exact Bytes.alloc h _
  have hR0 : Blk W0 w.heap.size 30 (DenyR.cells (⟨0, none, 0, []⟩ : DenyR)) := by rw [← hW]; exact Blk.new w _ _
  have hc0 : Below w.heap.size w W0 := by rw [← hW]; exact bA (Below.refl _ _) _
  have hs0 : W0.heap.size = w.heap.size + 1 := by rw [← hW]; simp
  clear hW
  refine (newReader_any A n c W0 h0).mono ?_
  rintro e w1 ⟨rfl, hr1, hb1, hz1'⟩
  have hR1 := Lib.hid (hR0.belowAll hb1)
  have HB1 := Lib.hid (bT hc0 hb1)
  have hz1 : w.heap.size + 1 ≤ w1.heap.size := by have := hb1.size; omega
  clear hR0 hb1 h0 hc0
  rw [hs0] at hr1
  rw [hs0]
  clear hs0 hz1'
  have Hr1 := Lib.hid hr1; clear hr1
  have hgl1 : w.heap.size + 1 < w1.heap.size := Hr1.out.lt
  go_wp2_with fail
  refine (anyDeny_any (w.heap.size + 1) 0 _ Hr1.out (by omega)).mono ?_
  rintro e w2 ⟨u, q, rfl, hin, hab, hl, hxb, hv0, hv1, hq, hr2, hg2⟩
  have hz2 : w1.heap.size ≤ w2.heap.size := by have := hg2.size; (try simp at this); omega
  have HR2 := Lib.hid (Blk.grown hR1.out hg2 (by intro e; injection e with e; omega))
  clear hR1
  have HB2 := Lib.hid (Touch.below HB1.out (Touch.of_grown hg2) (fun i hi => by injection hi with hi; omega))
  clear HB1
  clear hg2
  clear Hr1
  have Hrd2 := Lib.hid hr2; clear hr2
  have hgl2 : (w.heap.size + 1) < w2.heap.size := (Hrd2.out).lt
  clear hxb
  have Hin := Lib.hid hin; clear hin
  have Hab := Lib.hid hab; clear hab
  unfold denyV
  obtain ⟨cR2_0, cR2_1⟩ := denyCells (t := 30) (v := (⟨0, none, 0, []⟩ : DenyR)) HR2.out
  have f0 := (HR2.out).free 0
  have f1 := (HR2.out).free 1
  go_wp2
  generalize hW : World.setCell _ _ _ = w3
  have ht3 : Touch (fun i => i = w.heap.size) w2 w3 := by rw [← hW]; exact (Touch.far (K := fun i => i = w.heap.size) (Touch.far (K := fun i => i = w.heap.size) (Touch.refl _ _) (p := ⟨w.heap.size, 0, none⟩) rfl _) (p := ⟨w.heap.size, 1, none⟩) rfl _)
  have hbx3 : Blk w3 (w.heap.size) 30 (DenyR.cells u) := by rw [← hW]; exact (Blk.put (Blk.put HR2.out 0 (.int .i64 u.ver)) 1 (.slice u.cardsA u.cards.length u.cardsc))
  clear hW
  clear cR2_0 cR2_1 f0 f1
  have hz3 : w2.heap.size ≤ w3.heap.size := by have := ht3.size; (try simp at this); omega
  have HB3 := Lib.hid (Touch.below HB2.out ht3 (fun i hi => by omega))
  clear HB2
  have Hin3 := Lib.hid (DenyIn.touch Hin.out ht3 (b := w1.heap.size) Hab.out (fun i hi => by have hi2 : i = w.heap.size := hi; omega))
  clear Hin
  clear ht3 HR2
  have Hbx3 := Lib.hid hbx3; clear hbx3
  obtain ⟨z0, z1⟩ := denyCells (t := 30) (v := u) Hbx3.out
  exact bodyPost_ret (v := denyV u) (by simp [results, Try.results24, go_sem, denyV, z0, z1]) rfl ⟨u, rfl, Hin3.out, hl, HB3.out⟩
end Go.Proofs.Ytpijjlggmibfnaa
