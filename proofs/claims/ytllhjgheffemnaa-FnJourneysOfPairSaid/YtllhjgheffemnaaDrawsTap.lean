/-
  The arguments of the laws on taps, drawn.
-/
import Derived.Test.YtllhjgheffemnaaDrawTaps
import Derived.Test.YtllhjgheffemnaaLiftBytes
set_option linter.unusedSimpArgs false
namespace Go.Proofs.Ytllhjgheffemnaa
open Go.RowKit Go.Deep
set_option linter.unusedVariables false

def DrawsTaps (w : World) (e : Ending) (w' : World) : Prop :=
  ∃ (v : Value) (ys : List Fares.Tap), e = .returned v ∧ OwnTaps w' w.heap.size v ys ∧ ys.length ≤ 25 ∧ (∀ b ∈ ys, tapSmall b) ∧ Below w.heap.size w w'
def DrawsTapsInt (lo1 hi1 : Int) (w : World) (e : Ending) (w' : World) : Prop :=
  ∃ (v : Value) (ys : List Fares.Tap) (m1 : Int), e = .returned (.tuple #[v, .int .i64 m1]) ∧ OwnTaps w' w.heap.size v ys ∧ ys.length ≤ 25 ∧ (∀ b ∈ ys, tapSmall b) ∧ lo1 ≤ m1 ∧ m1 ≤ hi1 ∧ Below w.heap.size w w'
set_option maxRecDepth 100000 in
set_option maxHeartbeats 1000000 in
theorem someCard_any (g p : Nat) (w : World) (hr : Rd w g p) (hp : p ≤ 50000) :
    Calls Try.prog 39 #[.pointer (some ⟨g, 0, none⟩)] w fun e w' => ∃ m : Int, e = .returned (.int .i64 m) ∧ -1 ≤ m ∧ m ≤ 100 ∧ Rd w' g (p + 1) ∧ w.grownBy w' (some g) := by
  have hgw := hr.lt
  have Hr0 := Lib.hid hr; clear hr
  have HG0 := Lib.hid (grown_refl w (some g))
  go_enter Try.func39, Try.ntmps39
  go_wp2_with fail
  refine (one_in g (p) _ [1, 2, 7, 1, 99, 5, -1, 100] (-1) 100 8 8 _ _ (Rd.alloc Hr0.out _) (by omega) (Blk.new' (by simp)) (by have := (Hr0.out).lt; (try simp); omega) rfl rfl (by omega) (by omega) (by decide)).mono ?_
  rintro e w1 ⟨x, rfl, x0, x1, hr1, hg1⟩
  have HG1 := Lib.hid (grown_trans (grown_alloc HG0.out _) hg1)
  clear HG0
  clear hg1
  clear Hr0
  have Hrd1 := Lib.hid hr1; clear hr1
  have hgl1 : g < w1.heap.size := (Hrd1.out).lt
  go_wp2
  go_ret
  exact ⟨x, rfl, x0, x1, Hrd1.out, HG1.out⟩
set_option maxRecDepth 100000 in
set_option maxHeartbeats 1000000 in
theorem drawCardTaps_any (A : Option Addr) (n c : Nat) (w : World) (h : Bytes w w.heap.size A n c) : Calls Try.prog 24 #[.slice A n c] w (DrawsTapsInt (-1) 100 w) := by
  go_enter Try.func24, Try.ntmps24
  go_wp2_with fail
  refine (newReader_any A n c w h).mono ?_
  rintro e w1 ⟨rfl, hr1, hb1, hz1⟩
  have HZ := Lib.hid hz1; clear hz1
  have hs1 : w.heap.size < w1.heap.size := hr1.lt
  have Hr1 := Lib.hid hr1; clear hr1
  have HB1 := Lib.hid hb1; clear hb1
  go_wp2_with fail
  refine (anyTaps_any w.heap.size 0 _ Hr1.out (by omega)).mono ?_
  rintro e w2 ⟨v, ys, q, rfl, hown2, hlen, hsm, hq, hr2, hg2⟩
  have Hsm := Lib.hid hsm; clear hsm
  have Hown2 := Lib.hid (ownBase hown2 (Nat.le_of_lt hs1))
  have Hgt := Lib.hid (show ∀ j, v.ownBlock = some j → w.heap.size < j from fun j hj => Nat.lt_of_lt_of_le hs1 (World.ownsRow.lt hown2 j hj).1)
  clear hown2
  have HB2 := Lib.hid (Below.trans HB1.out (below_of_grown hg2 (Below.size HB1.out) (by omega)))
  clear HB1
  clear hg2
  clear Hr1
  have Hrd2 := Lib.hid hr2; clear hr2
  have hgl2 : w.heap.size < w2.heap.size := (Hrd2.out).lt
  have hap := apart_of (v := v) (row := some w.heap.size) (fun j hj e => by have := Hgt.out j hj; injection e with e; omega)
  go_wp2_with fail
  refine (someCard_any _ _ _ Hrd2.out (by omega)).mono ?_
  rintro e w3 ⟨m1, rfl, m1l, m1h, hr3, hg3⟩
  have Hown3 := Lib.hid (World.ownsRow.kept Hown2.out hg3 hap); clear hap
  have HB3 := Lib.hid (Below.trans HB2.out (below_of_grown hg3 (Below.size HB2.out) (by omega)))
  clear HB2
  clear hg3
  clear Hrd2
  have Hrd3 := Lib.hid hr3; clear hr3
  have hgl3 : w.heap.size < w3.heap.size := (Hrd3.out).lt
  go_wp2
  go_ret2
  exact ⟨v, ys, m1, rfl, Hown3.out, hlen, Hsm.out, m1l, m1h, HB3.out⟩
end Go.Proofs.Ytllhjgheffemnaa
