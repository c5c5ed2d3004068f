/-
  A drawn stop.
-/
import Derived.Test.YtpijjlggmibfnaaDrawKit
import Derived.Test.YtpijjlggmibfnaaOver
import Derived.Test.YtpijjlggmibfnaaCarry
set_option linter.unusedSimpArgs false
namespace Go.Proofs.Ytpijjlggmibfnaa
open Go.RowKit
set_option linter.unusedVariables false
set_option maxRecDepth 100000 in
set_option maxHeartbeats 1000000 in
theorem someStop2_any (g p : Nat) (w : World) (hr : Rd w g p) (hp : p ≤ 50000) :
    Calls Try.prog 73 #[.pointer (some ⟨g, 0, none⟩)] w fun e w' => ∃ m : Int, e = .returned (.int .i64 m) ∧ -1 ≤ m ∧ m ≤ 10 ∧ Rd w' g (p + 1) ∧ w.grownBy w' (some g) := by
  have hgw := hr.lt
  have Hr0 := Lib.hid hr; clear hr
  have HG0 := Lib.hid (grown_refl w (some g))
  go_enter Try.func73, Try.ntmps73
  go_wp2_with fail
  refine (one_in g (p) _ [0, 1, 2, 3, 0, 1, 9, 10, -1, 4] (-1) 10 10 10 _ _ (Rd.alloc Hr0.out _) (by omega) (Blk.new' (by simp)) (by have := (Hr0.out).lt; (try simp); omega) rfl rfl (by omega) (by omega) (by decide)).mono ?_
  rintro e w1 ⟨x, rfl, x0, x1, hr1, hg1⟩
  have HG1 := Lib.hid (grown_trans (grown_alloc HG0.out _) hg1)
  clear HG0
  clear hg1
  clear Hr0
  have Hrd1 := Lib.hid hr1; clear hr1
  have hgl1 : g < w1.heap.size := (Hrd1.out).lt
  go_wp2
  go_ret
  exact ⟨x, rfl, x0, x1, Hrd1.out, HG1.out⟩
end Go.Proofs.Ytpijjlggmibfnaa
