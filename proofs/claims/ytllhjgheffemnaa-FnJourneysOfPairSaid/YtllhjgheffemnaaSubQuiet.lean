/-
  A region that draws its order, whose operations read and whose callees make new memory but answer one value in every world of a class: one walk of the text's order serves every order.
-/
import Derived.Deep.Quiet
import Derived.Deep.QuietTactic
import Derived.BigQuiet
import Derived.IntWalk
import Derived.Test.YtllhjgheffemnaaOver
set_option linter.unusedSimpArgs false
namespace Go.Proofs.Ytllhjgheffemnaa
open Go.RowKit
set_option linter.unusedVariables false
/-- A world of the class B. -/
structure WIn (B : World → Prop) where
  w : World
  h : B w
instance winSome {w : World} : Nonempty (WIn (fun w' => Below w.heap.size w w')) := ⟨⟨w, Below.refl _ _⟩⟩
theorem wp_region_win {P : Program} {B : World → Prop} {id : Nat} {Q : Exit → Act → World → Prop} {a : Act} {w : World} {l : List Oper} (hm : P.follows .mixedOrders = true) (hB : Region.lexB .any l.toArray = true) (h0 : B w.drew)
    (h : wpQuiet P l.toArray (fun w' => ∃ x : WIn B, w' = x.w) (fun a' => ∀ w', (∃ x : WIn B, w' = x.w) → Q .normal a' w') l a) : (Code.region id l.toArray true).wp P Q a w :=
  wp_region_quiet (C := fun w' => ∃ x : WIn B, w' = x.w) hm hB ⟨⟨_, h0⟩, rfl⟩ (by simpa using h)
theorem WIn.calls {P : Program} {B : World → Prop} {f : FuncId} {args : Array Value} {x : WIn B} {v : Value} (h : Calls P f args x.w fun e w' => e = .returned v ∧ Below x.w.heap.size x.w w') (hB : ∀ w', Below x.w.heap.size x.w w' → B w') :
    Calls P f args x.w fun e w'' => e = .returned v ∧ ∃ y : WIn B, w'' = y.w :=
  h.mono fun _ w' ⟨he, hb⟩ => ⟨he, ⟨w', hB w' hb⟩, rfl⟩
theorem WIn.cell {w : World} (x : WIn (fun w' => Below w.heap.size w w')) {b o : Nat} {v : Value} (h : w.cell? ⟨b, o, none⟩ = some v) (hb : b < w.heap.size) : x.w.cell? ⟨b, o, none⟩ = some v := (x.h.cell (p := ⟨b, o, none⟩) hb).trans h
end Go.Proofs.Ytllhjgheffemnaa
