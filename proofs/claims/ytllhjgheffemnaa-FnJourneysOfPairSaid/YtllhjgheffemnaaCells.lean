/-
  The facts on the whole translation that every row of this seat asks, each once. The text in which the translation names its roots is told as a list of numbers, so that no check reads it more than once.
-/
import Derived.Test.YtllhjgheffemnaaRows
import Derived.ProofKit
set_option linter.unusedSimpArgs false
set_option linter.unusedVariables false
namespace Go.Proofs.Ytllhjgheffemnaa.Cells
open Go.ChangeShapes Go.WideShapes Go.ChangeAt Go.RowKit

def initNums : List Nat := [104, 97, 114, 110, 101, 115, 115, 32, 98, 56, 53, 98, 55, 102, 48, 101, 57, 100, 99, 57, 97, 97, 53, 52, 97, 56, 57, 52, 49, 48, 99, 54, 100, 55, 51, 100, 56, 49, 50, 100, 53, 97, 54, 52, 102, 52, 102, 57, 55, 56, 56, 51, 51, 48, 56, 56, 102, 50, 97, 99, 48, 54, 48, 101, 50, 57, 98, 50, 50, 57, 52, 56, 32, 99, 117, 116, 32, 97, 116, 32, 108, 111, 111, 112, 46, 101, 120, 97, 109, 112, 108, 101, 47, 116, 114, 97, 110, 115, 105, 116, 102, 97, 114, 101, 115, 47, 108, 97, 119, 115, 46, 70, 110, 74, 111, 117, 114, 110, 101, 121, 115, 79, 102, 32, 108, 111, 111, 112, 46, 101, 120, 97, 109, 112, 108, 101, 47, 116, 114, 97, 110, 115, 105, 116, 102, 97, 114, 101, 115, 47, 108, 97, 119, 115, 46, 70, 110, 74, 111, 117, 114, 110, 101, 121, 115, 79, 102, 79, 116, 104, 101, 114, 115, 32, 108, 111, 111, 112, 46, 101, 120, 97, 109, 112, 108, 101, 47, 116, 114, 97, 110, 115, 105, 116, 102, 97, 114, 101, 115, 47, 108, 97, 119, 115, 46, 70, 110, 74, 111, 117, 114, 110, 101, 121, 115, 79, 102, 84, 97, 112, 115, 32, 108, 111, 111, 112, 46, 101, 120, 97, 109, 112, 108, 101, 47, 116, 114, 97, 110, 115, 105, 116, 102, 97, 114, 101, 115, 47, 108, 97, 119, 115, 46, 70, 110, 74, 111, 117, 114, 110, 101, 121, 115, 79, 102, 80, 97, 105, 114, 32, 108, 111, 111, 112, 46, 101, 120, 97, 109, 112, 108, 101, 47, 116, 114, 97, 110, 115, 105, 116, 102, 97, 114, 101, 115, 47, 108, 97, 119, 115, 46, 70, 110, 74, 111, 117, 114, 110, 101, 121, 115, 79, 102, 79, 117, 116, 32, 108, 111, 111, 112, 46, 101, 120, 97, 109, 112, 108, 101, 47, 116, 114, 97, 110, 115, 105, 116, 102, 97, 114, 101, 115, 47, 108, 97, 119, 115, 46, 70, 110, 69, 120, 97, 99, 116, 74, 111, 117, 114, 110, 101, 121, 115, 79, 102]
theorem initText : Try.prog.initOrder = String.ofList (initNums.map Char.ofNat) := by kernel_rfl
theorem initList : Try.prog.initOrder.toList = initNums.map Char.ofNat := by rw [initText]; exact String.toList_ofList
theorem words : behindMainWord (wordsSigns Try.prog.initOrder.toList) = behindMainWord (wordsSigns (initNums.map Char.ofNat)) := by rw [initList]
theorem headLifts : Try.prog.headLifts = [] := by unfold Program.headLifts; rw [words]; kernel_rfl
theorem head_ : (behindMainWord (wordsSigns Try.prog.initOrder.toList)).head? = some "cut".toList := by rw [words]; kernel_rfl
theorem make_of (P : Program) (h : (behindMainWord (wordsSigns P.initOrder.toList)).head? = some "cut".toList) : P.make = some .cut := by
  unfold Program.make
  cases hb : behindMainWord (wordsSigns P.initOrder.toList) with
  | nil => rw [hb] at h; cases h
  | cons c rest =>
    rw [hb] at h
    simp only [List.head?_cons, Option.some.injEq] at h
    subst h
    show (if ("cut".toList == "gc".toList || "cut".toList == "spec".toList) = true then _ else if ("cut".toList == "cut".toList || _) = true then _ else _) = _
    rw [if_neg (by decide), if_pos (by rw [show ("cut".toList == "cut".toList) = true from by decide]; rfl)]
theorem make : Try.prog.make = some .cut := make_of _ head_
theorem liftsFinal : Try.prog.liftsFinal = false := by unfold Program.liftsFinal; rw [words, headLifts]; kernel_rfl
theorem laysLater : Try.prog.laysLater = false := by kernel_rfl
theorem bearsReflect : Try.prog.bearsReflect = false := by kernel_rfl
theorem doorFits : Try.prog.doorFits [] = true := by kernel_rfl
theorem strip_of (rest : List (List Char)) : stripLifts liftWords ("cut".toList :: rest) = ([], "cut".toList :: rest) := by
  simp only [liftWords, stripLifts]
  repeat rw [if_neg (by decide)]
theorem mayEnter_of (P : Program) (h : (behindMainWord (wordsSigns P.initOrder.toList)).head? = some "cut".toList) (h1 : P.laysLater = false) (h2 : P.bearsReflect = false) (h3 : P.doorFits [] = true) : P.mayEnter = true := by
  unfold Program.mayEnter
  cases hb : behindMainWord (wordsSigns P.initOrder.toList) with
  | nil => rw [hb] at h; cases h
  | cons c rest =>
    rw [hb] at h
    simp only [List.head?_cons, Option.some.injEq] at h
    subst h
    simp only [strip_of, h1, h2, h3]
    simp
theorem mayEnter : Try.prog.mayEnter = true := mayEnter_of _ head_ laysLater bearsReflect doorFits
theorem plainKeys : Try.prog.plainKeys = true := by kernel_rfl
theorem stopsHeard : Try.prog.stopsHeard = true := by kernel_rfl
theorem laidOut : laidOutB Try.prog = true := by kernel_rfl
theorem mapsRowed_ : mapsRowed Try.prog = true := by kernel_rfl
theorem stops : Try.prog.stops = [] := by kernel_rfl
theorem stopKnobs : Try.prog.stopKnobs = [] := by kernel_rfl
theorem own : ownKnob Try.prog.godebug = none := by kernel_rfl
end Go.Proofs.Ytllhjgheffemnaa.Cells
