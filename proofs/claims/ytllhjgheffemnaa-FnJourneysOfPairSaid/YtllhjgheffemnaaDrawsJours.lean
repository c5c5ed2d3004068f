/-
  What chapter 4's laws on journeys draw; nil slices.
-/
import Derived.Test.YtllhjgheffemnaaDrawsTap
import Derived.Test.YtllhjgheffemnaaStJourney
import Derived.Test.YtllhjgheffemnaaTouch
set_option linter.unusedSimpArgs false
namespace Go.Proofs.Ytllhjgheffemnaa
open Go.RowKit Go.Deep
set_option linter.unusedVariables false

theorem OwnTaps.nilOk {w : World} {base : Nat} {A : Option Addr} {n c : Nat} {ys : List Fares.Tap} (h : OwnTaps w base (.slice A n c) ys) : NilOk A n c := own_nil_ h
theorem OwnJourneys.nilOk {w : World} {base : Nat} {A : Option Addr} {n c : Nat} {ys : List Fares.Journey} (h : OwnJourneys w base (.slice A n c) ys) : NilOk A n c := own_nil_ h
set_option maxHeartbeats 1000000 in
theorem drawJourneysOf_any (A : Option Addr) (n c : Nat) (w : World) (h : Bytes w w.heap.size A n c) : Calls Try.prog 9 #[.slice A n c] w (DrawsTapsInt (-1) 100 w) := by
  go_enter Try.func9, Try.ntmps9
  go_wp2_with fail
  refine (drawCardTaps_any A n c w h).mono ?_
  rintro e w' ⟨v, ys, m1, rfl, ho, h1, h2, h3, h4, hb⟩
  go_wp2
  go_ret2
  exact ⟨v, ys, m1, rfl, ho, h1, h2, h3, h4, hb⟩
end Go.Proofs.Ytllhjgheffemnaa
