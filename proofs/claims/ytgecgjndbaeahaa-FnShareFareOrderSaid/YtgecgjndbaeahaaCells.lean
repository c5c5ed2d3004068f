/-
  The facts on the whole translation that every row of this seat asks, each once. The text in which the translation names its roots is told as a list of numbers, so that no check reads it more than once.
-/
import Derived.Test.YtgecgjndbaeahaaRows
import Derived.ProofKit
set_option linter.unusedSimpArgs false
set_option linter.unusedVariables false
namespace Go.Proofs.Ytgecgjndbaeahaa.Cells
open Go.ChangeShapes Go.WideShapes Go.ChangeAt Go.RowKit

def initNums : List Nat := [104, 97, 114, 110, 101, 115, 115, 32, 49, 52, 50, 102, 48, 97, 99, 100, 100, 51, 97, 50, 101, 97, 52, 51, 57, 53, 54, 52, 55, 51, 50, 101, 48, 98, 102, 50, 49, 57, 99, 101, 57, 101, 100, 48, 50, 48, 52, 52, 101, 102, 52, 49, 48, 53, 98, 101, 48, 102, 52, 48, 97, 49, 98, 57, 55, 49, 54, 52, 56, 99, 97, 97, 32, 99, 117, 116, 32, 97, 116, 32, 108, 111, 111, 112, 46, 101, 120, 97, 109, 112, 108, 101, 47, 116, 114, 97, 110, 115, 105, 116, 102, 97, 114, 101, 115, 47, 108, 97, 119, 115, 46, 70, 110, 83, 104, 97, 114, 101, 70, 97, 114, 101, 32, 108, 111, 111, 112, 46, 101, 120, 97, 109, 112, 108, 101, 47, 116, 114, 97, 110, 115, 105, 116, 102, 97, 114, 101, 115, 47, 108, 97, 119, 115, 46, 70, 110, 83, 104, 97, 114, 101, 70, 97, 114, 101, 79, 114, 100, 101, 114, 32, 108, 111, 111, 112, 46, 101, 120, 97, 109, 112, 108, 101, 47, 116, 114, 97, 110, 115, 105, 116, 102, 97, 114, 101, 115, 47, 108, 97, 119, 115, 46, 70, 110, 83, 104, 97, 114, 101, 70, 97, 114, 101, 79, 110, 101, 32, 108, 111, 111, 112, 46, 101, 120, 97, 109, 112, 108, 101, 47, 116, 114, 97, 110, 115, 105, 116, 102, 97, 114, 101, 115, 47, 108, 97, 119, 115, 46, 70, 110, 83, 104, 97, 114, 101, 70, 97, 114, 101, 78, 111, 110, 101, 32, 108, 111, 111, 112, 46, 101, 120, 97, 109, 112, 108, 101, 47, 116, 114, 97, 110, 115, 105, 116, 102, 97, 114, 101, 115, 47, 108, 97, 119, 115, 46, 70, 110, 76, 101, 110, 103, 116, 104, 79, 102, 32, 108, 111, 111, 112, 46, 101, 120, 97, 109, 112, 108, 101, 47, 116, 114, 97, 110, 115, 105, 116, 102, 97, 114, 101, 115, 47, 108, 97, 119, 115, 46, 70, 110, 74, 111, 105, 110, 76, 101, 103, 115, 32, 108, 111, 111, 112, 46, 101, 120, 97, 109, 112, 108, 101, 47, 116, 114, 97, 110, 115, 105, 116, 102, 97, 114, 101, 115, 47, 108, 97, 119, 115, 46, 70, 110, 69, 120, 97, 99, 116, 83, 104, 97, 114, 101, 70, 97, 114, 101, 32, 108, 111, 111, 112, 46, 101, 120, 97, 109, 112, 108, 101, 47, 116, 114, 97, 110, 115, 105, 116, 102, 97, 114, 101, 115, 47, 108, 97, 119, 115, 46, 70, 110, 69, 120, 97, 99, 116, 76, 101, 110, 103, 116, 104, 79, 102, 32, 108, 111, 111, 112, 46, 101, 120, 97, 109, 112, 108, 101, 47, 116, 114, 97, 110, 115, 105, 116, 102, 97, 114, 101, 115, 47, 108, 97, 119, 115, 46, 70, 110, 69, 120, 97, 99, 116, 74, 111, 105, 110, 76, 101, 103, 115]
theorem initText : Try.prog.initOrder = String.ofList (initNums.map Char.ofNat) := by kernel_rfl
theorem initList : Try.prog.initOrder.toList = initNums.map Char.ofNat := by rw [initText]; exact String.toList_ofList
theorem words : behindMainWord (wordsSigns Try.prog.initOrder.toList) = behindMainWord (wordsSigns (initNums.map Char.ofNat)) := by rw [initList]
theorem headLifts : Try.prog.headLifts = [] := by unfold Program.headLifts; rw [words]; kernel_rfl
theorem head_ : (behindMainWord (wordsSigns Try.prog.initOrder.toList)).head? = some "cut".toList := by rw [words]; kernel_rfl
theorem make_of (P : Program) (h : (behindMainWord (wordsSigns P.initOrder.toList)).head? = some "cut".toList) : P.make = some .cut := by
  unfold Program.make
  cases hb : behindMainWord (wordsSigns P.initOrder.toList) with
  | nil => rw [hb] at h; cases h
  | cons c rest =>
    rw [hb] at h
    simp only [List.head?_cons, Option.some.injEq] at h
    subst h
    show (if ("cut".toList == "gc".toList || "cut".toList == "spec".toList) = true then _ else if ("cut".toList == "cut".toList || _) = true then _ else _) = _
    rw [if_neg (by decide), if_pos (by rw [show ("cut".toList == "cut".toList) = true from by decide]; rfl)]
theorem make : Try.prog.make = some .cut := make_of _ head_
theorem liftsFinal : Try.prog.liftsFinal = false := by unfold Program.liftsFinal; rw [words, headLifts]; kernel_rfl
theorem laysLater : Try.prog.laysLater = false := by kernel_rfl
theorem bearsReflect : Try.prog.bearsReflect = false := by kernel_rfl
theorem doorFits : Try.prog.doorFits [] = true := by kernel_rfl
theorem strip_of (rest : List (List Char)) : stripLifts liftWords ("cut".toList :: rest) = ([], "cut".toList :: rest) := by
  simp only [liftWords, stripLifts]
  repeat rw [if_neg (by decide)]
theorem mayEnter_of (P : Program) (h : (behindMainWord (wordsSigns P.initOrder.toList)).head? = some "cut".toList) (h1 : P.laysLater = false) (h2 : P.bearsReflect = false) (h3 : P.doorFits [] = true) : P.mayEnter = true := by
  unfold Program.mayEnter
  cases hb : behindMainWord (wordsSigns P.initOrder.toList) with
  | nil => rw [hb] at h; cases h
  | cons c rest =>
    rw [hb] at h
    simp only [List.head?_cons, Option.some.injEq] at h
    subst h
    simp only [strip_of, h1, h2, h3]
    simp
theorem mayEnter : Try.prog.mayEnter = true := mayEnter_of _ head_ laysLater bearsReflect doorFits
theorem plainKeys : Try.prog.plainKeys = true := by kernel_rfl
theorem stopsHeard : Try.prog.stopsHeard = true := by kernel_rfl
theorem laidOut : laidOutB Try.prog = true := by kernel_rfl
theorem mapsRowed_ : mapsRowed Try.prog = true := by kernel_rfl
theorem stops : Try.prog.stops = [] := by kernel_rfl
theorem stopKnobs : Try.prog.stopKnobs = [] := by kernel_rfl
theorem own : ownKnob Try.prog.godebug = none := by kernel_rfl
end Go.Proofs.Ytgecgjndbaeahaa.Cells
