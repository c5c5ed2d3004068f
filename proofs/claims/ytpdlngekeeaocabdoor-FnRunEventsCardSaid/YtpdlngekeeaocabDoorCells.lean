/-
  The facts on the whole translation that every row of this seat asks, each once. The text in which the translation names its roots is told as a list of numbers, so that no check reads it more than once.
-/
import Derived.Test.YtpdlngekeeaocabDoorRows
import Derived.ProofKit
set_option linter.unusedSimpArgs false
set_option linter.unusedVariables false
namespace Go.Proofs.YtpdlngekeeaocabDoor.Cells
open Go.ChangeShapes Go.WideShapes Go.ChangeAt Go.RowKit

def initNums : List Nat := [104, 97, 114, 110, 101, 115, 115, 32, 100, 99, 50, 50, 48, 98, 52, 52, 50, 50, 98, 102, 102, 48, 48, 52, 102, 101, 102, 51, 98, 50, 55, 49, 97, 48, 51, 48, 57, 56, 52, 50, 50, 56, 97, 102, 101, 54, 52, 102, 100, 50, 102, 51, 102, 56, 54, 53, 98, 50, 97, 48, 52, 102, 100, 55, 56, 57, 51, 102, 51, 55, 52, 51, 32, 99, 117, 116, 32, 97, 116, 32, 108, 111, 111, 112, 46, 101, 120, 97, 109, 112, 108, 101, 47, 116, 114, 97, 110, 115, 105, 116, 102, 97, 114, 101, 115, 47, 108, 97, 119, 115, 46, 70, 110, 83, 116, 101, 112, 83, 117, 109, 67, 108, 111, 115, 101, 32, 108, 111, 111, 112, 46, 101, 120, 97, 109, 112, 108, 101, 47, 116, 114, 97, 110, 115, 105, 116, 102, 97, 114, 101, 115, 47, 108, 97, 119, 115, 46, 70, 110, 82, 117, 110, 69, 118, 101, 110, 116, 115, 32, 108, 111, 111, 112, 46, 101, 120, 97, 109, 112, 108, 101, 47, 116, 114, 97, 110, 115, 105, 116, 102, 97, 114, 101, 115, 47, 108, 97, 119, 115, 46, 70, 110, 82, 117, 110, 69, 118, 101, 110, 116, 115, 84, 114, 105, 101, 115, 32, 108, 111, 111, 112, 46, 101, 120, 97, 109, 112, 108, 101, 47, 116, 114, 97, 110, 115, 105, 116, 102, 97, 114, 101, 115, 47, 108, 97, 119, 115, 46, 70, 110, 82, 117, 110, 69, 118, 101, 110, 116, 115, 78, 111, 110, 101, 32, 108, 111, 111, 112, 46, 101, 120, 97, 109, 112, 108, 101, 47, 116, 114, 97, 110, 115, 105, 116, 102, 97, 114, 101, 115, 47, 108, 97, 119, 115, 46, 70, 110, 73, 115, 70, 105, 110, 97, 108, 32, 108, 111, 111, 112, 46, 101, 120, 97, 109, 112, 108, 101, 47, 116, 114, 97, 110, 115, 105, 116, 102, 97, 114, 101, 115, 47, 108, 97, 119, 115, 46, 70, 110, 79, 119, 101, 100, 79, 102, 32, 108, 111, 111, 112, 46, 101, 120, 97, 109, 112, 108, 101, 47, 116, 114, 97, 110, 115, 105, 116, 102, 97, 114, 101, 115, 47, 108, 97, 119, 115, 46, 70, 110, 79, 119, 101, 100, 79, 102, 89, 101, 115]
theorem initText : Tryd.prog.initOrder = String.ofList (initNums.map Char.ofNat) := by kernel_rfl
theorem initList : Tryd.prog.initOrder.toList = initNums.map Char.ofNat := by rw [initText]; exact String.toList_ofList
theorem words : behindMainWord (wordsSigns Tryd.prog.initOrder.toList) = behindMainWord (wordsSigns (initNums.map Char.ofNat)) := by rw [initList]
theorem headLifts : Tryd.prog.headLifts = [] := by unfold Program.headLifts; rw [words]; kernel_rfl
theorem head_ : (behindMainWord (wordsSigns Tryd.prog.initOrder.toList)).head? = some "cut".toList := by rw [words]; kernel_rfl
theorem make_of (P : Program) (h : (behindMainWord (wordsSigns P.initOrder.toList)).head? = some "cut".toList) : P.make = some .cut := by
  unfold Program.make
  cases hb : behindMainWord (wordsSigns P.initOrder.toList) with
  | nil => rw [hb] at h; cases h
  | cons c rest =>
    rw [hb] at h
    simp only [List.head?_cons, Option.some.injEq] at h
    subst h
    show (if ("cut".toList == "gc".toList || "cut".toList == "spec".toList) = true then _ else if ("cut".toList == "cut".toList || _) = true then _ else _) = _
    rw [if_neg (by decide), if_pos (by rw [show ("cut".toList == "cut".toList) = true from by decide]; rfl)]
theorem make : Tryd.prog.make = some .cut := make_of _ head_
theorem liftsFinal : Tryd.prog.liftsFinal = false := by unfold Program.liftsFinal; rw [words, headLifts]; kernel_rfl
theorem laysLater : Tryd.prog.laysLater = false := by kernel_rfl
theorem bearsReflect : Tryd.prog.bearsReflect = false := by kernel_rfl
theorem doorFits : Tryd.prog.doorFits [] = true := by kernel_rfl
theorem strip_of (rest : List (List Char)) : stripLifts liftWords ("cut".toList :: rest) = ([], "cut".toList :: rest) := by
  simp only [liftWords, stripLifts]
  repeat rw [if_neg (by decide)]
theorem mayEnter_of (P : Program) (h : (behindMainWord (wordsSigns P.initOrder.toList)).head? = some "cut".toList) (h1 : P.laysLater = false) (h2 : P.bearsReflect = false) (h3 : P.doorFits [] = true) : P.mayEnter = true := by
  unfold Program.mayEnter
  cases hb : behindMainWord (wordsSigns P.initOrder.toList) with
  | nil => rw [hb] at h; cases h
  | cons c rest =>
    rw [hb] at h
    simp only [List.head?_cons, Option.some.injEq] at h
    subst h
    simp only [strip_of, h1, h2, h3]
    simp
theorem mayEnter : Tryd.prog.mayEnter = true := mayEnter_of _ head_ laysLater bearsReflect doorFits
theorem plainKeys : Tryd.prog.plainKeys = true := by kernel_rfl
theorem stopsHeard : Tryd.prog.stopsHeard = true := by kernel_rfl
theorem laidOut : laidOutB Tryd.prog = true := by kernel_rfl
theorem mapsRowed_ : mapsRowed Tryd.prog = true := by kernel_rfl
theorem stops : Tryd.prog.stops = [] := by kernel_rfl
theorem stopKnobs : Tryd.prog.stopKnobs = [] := by kernel_rfl
theorem own : ownKnob Tryd.prog.godebug = none := by kernel_rfl
end Go.Proofs.YtpdlngekeeaocabDoor.Cells
