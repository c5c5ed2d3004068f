/-
  The facts on the whole translation that every row of this seat asks, each once. The text in which the translation names its roots is told as a list of numbers, so that no check reads it more than once.
-/
import Derived.Test.YtnkoapccnlgijaaRows
import Derived.ProofKit
set_option linter.unusedSimpArgs false
set_option linter.unusedVariables false
namespace Go.Proofs.Ytnkoapccnlgijaa.Cells
open Go.ChangeShapes Go.WideShapes Go.ChangeAt Go.RowKit

def initNums : List Nat := [104, 97, 114, 110, 101, 115, 115, 32, 50, 100, 102, 54, 98, 102, 102, 50, 98, 54, 56, 101, 97, 98, 57, 55, 97, 54, 49, 50, 56, 98, 98, 97, 99, 51, 49, 56, 55, 57, 97, 97, 101, 99, 54, 57, 102, 49, 53, 55, 53, 50, 100, 98, 97, 52, 54, 100, 56, 100, 49, 102, 100, 57, 55, 53, 101, 48, 56, 55, 54, 99, 48, 49, 32, 99, 117, 116, 32, 97, 116, 32, 108, 111, 111, 112, 46, 101, 120, 97, 109, 112, 108, 101, 47, 116, 114, 97, 110, 115, 105, 116, 102, 97, 114, 101, 115, 47, 108, 97, 119, 115, 46, 70, 110, 69, 120, 97, 99, 116, 86, 97, 108, 105, 100, 76, 105, 110, 107, 32, 108, 111, 111, 112, 46, 101, 120, 97, 109, 112, 108, 101, 47, 116, 114, 97, 110, 115, 105, 116, 102, 97, 114, 101, 115, 47, 108, 97, 119, 115, 46, 70, 110, 69, 120, 97, 99, 116, 83, 101, 110, 100, 67, 97, 108, 108, 32, 108, 111, 111, 112, 46, 101, 120, 97, 109, 112, 108, 101, 47, 116, 114, 97, 110, 115, 105, 116, 102, 97, 114, 101, 115, 47, 108, 97, 119, 115, 46, 70, 110, 69, 120, 97, 99, 116, 84, 97, 107, 101, 65, 110, 115, 119, 101, 114, 32, 108, 111, 111, 112, 46, 101, 120, 97, 109, 112, 108, 101, 47, 116, 114, 97, 110, 115, 105, 116, 102, 97, 114, 101, 115, 47, 108, 97, 119, 115, 46, 70, 110, 69, 120, 97, 99, 116, 76, 97, 116, 101, 67, 97, 108, 108, 115, 32, 108, 111, 111, 112, 46, 101, 120, 97, 109, 112, 108, 101, 47, 116, 114, 97, 110, 115, 105, 116, 102, 97, 114, 101, 115, 47, 108, 97, 119, 115, 46, 70, 110, 69, 120, 97, 99, 116, 68, 114, 111, 112, 76, 97, 116, 101, 32, 108, 111, 111, 112, 46, 101, 120, 97, 109, 112, 108, 101, 47, 116, 114, 97, 110, 115, 105, 116, 102, 97, 114, 101, 115, 47, 108, 97, 119, 115, 46, 70, 110, 86, 97, 108, 105, 100, 76, 105, 110, 107, 32, 108, 111, 111, 112, 46, 101, 120, 97, 109, 112, 108, 101, 47, 116, 114, 97, 110, 115, 105, 116, 102, 97, 114, 101, 115, 47, 108, 97, 119, 115, 46, 70, 110, 83, 101, 110, 100, 67, 97, 108, 108, 32, 108, 111, 111, 112, 46, 101, 120, 97, 109, 112, 108, 101, 47, 116, 114, 97, 110, 115, 105, 116, 102, 97, 114, 101, 115, 47, 108, 97, 119, 115, 46, 70, 110, 83, 101, 110, 100, 67, 97, 108, 108, 65, 110, 115, 119, 101, 114, 32, 108, 111, 111, 112, 46, 101, 120, 97, 109, 112, 108, 101, 47, 116, 114, 97, 110, 115, 105, 116, 102, 97, 114, 101, 115, 47, 108, 97, 119, 115, 46, 70, 110, 84, 97, 107, 101, 65, 110, 115, 119, 101, 114, 32, 108, 111, 111, 112, 46, 101, 120, 97, 109, 112, 108, 101, 47, 116, 114, 97, 110, 115, 105, 116, 102, 97, 114, 101, 115, 47, 108, 97, 119, 115, 46, 70, 110, 76, 97, 116, 101, 67, 97, 108, 108, 115, 32, 108, 111, 111, 112, 46, 101, 120, 97, 109, 112, 108, 101, 47, 116, 114, 97, 110, 115, 105, 116, 102, 97, 114, 101, 115, 47, 108, 97, 119, 115, 46, 70, 110, 68, 114, 111, 112, 76, 97, 116, 101, 32, 108, 111, 111, 112, 46, 101, 120, 97, 109, 112, 108, 101, 47, 116, 114, 97, 110, 115, 105, 116, 102, 97, 114, 101, 115, 47, 108, 97, 119, 115, 46, 70, 110, 83, 101, 110, 100, 67, 97, 108, 108, 84, 119, 105, 99, 101, 32, 108, 111, 111, 112, 46, 101, 120, 97, 109, 112, 108, 101, 47, 116, 114, 97, 110, 115, 105, 116, 102, 97, 114, 101, 115, 47, 108, 97, 119, 115, 46, 70, 110, 76, 97, 116, 101, 67, 97, 108, 108, 115, 77, 111, 114, 101]
theorem initText : Try.prog.initOrder = String.ofList (initNums.map Char.ofNat) := by kernel_rfl
theorem initList : Try.prog.initOrder.toList = initNums.map Char.ofNat := by rw [initText]; exact String.toList_ofList
theorem words : behindMainWord (wordsSigns Try.prog.initOrder.toList) = behindMainWord (wordsSigns (initNums.map Char.ofNat)) := by rw [initList]
theorem headLifts : Try.prog.headLifts = [] := by unfold Program.headLifts; rw [words]; kernel_rfl
theorem head_ : (behindMainWord (wordsSigns Try.prog.initOrder.toList)).head? = some "cut".toList := by rw [words]; kernel_rfl
theorem make_of (P : Program) (h : (behindMainWord (wordsSigns P.initOrder.toList)).head? = some "cut".toList) : P.make = some .cut := by
  unfold Program.make
  cases hb : behindMainWord (wordsSigns P.initOrder.toList) with
  | nil => rw [hb] at h; cases h
  | cons c rest =>
    rw [hb] at h
    simp only [List.head?_cons, Option.some.injEq] at h
    subst h
    show (if ("cut".toList == "gc".toList || "cut".toList == "spec".toList) = true then _ else if ("cut".toList == "cut".toList || _) = true then _ else _) = _
    rw [if_neg (by decide), if_pos (by rw [show ("cut".toList == "cut".toList) = true from by decide]; rfl)]
theorem make : Try.prog.make = some .cut := make_of _ head_
theorem liftsFinal : Try.prog.liftsFinal = false := by unfold Program.liftsFinal; rw [words, headLifts]; kernel_rfl
theorem laysLater : Try.prog.laysLater = false := by kernel_rfl
theorem bearsReflect : Try.prog.bearsReflect = false := by kernel_rfl
theorem doorFits : Try.prog.doorFits [] = true := by kernel_rfl
theorem strip_of (rest : List (List Char)) : stripLifts liftWords ("cut".toList :: rest) = ([], "cut".toList :: rest) := by
  simp only [liftWords, stripLifts]
  repeat rw [if_neg (by decide)]
theorem mayEnter_of (P : Program) (h : (behindMainWord (wordsSigns P.initOrder.toList)).head? = some "cut".toList) (h1 : P.laysLater = false) (h2 : P.bearsReflect = false) (h3 : P.doorFits [] = true) : P.mayEnter = true := by
  unfold Program.mayEnter
  cases hb : behindMainWord (wordsSigns P.initOrder.toList) with
  | nil => rw [hb] at h; cases h
  | cons c rest =>
    rw [hb] at h
    simp only [List.head?_cons, Option.some.injEq] at h
    subst h
    simp only [strip_of, h1, h2, h3]
    simp
theorem mayEnter : Try.prog.mayEnter = true := mayEnter_of _ head_ laysLater bearsReflect doorFits
theorem plainKeys : Try.prog.plainKeys = true := by kernel_rfl
theorem stopsHeard : Try.prog.stopsHeard = true := by kernel_rfl
theorem laidOut : laidOutB Try.prog = true := by kernel_rfl
theorem mapsRowed_ : mapsRowed Try.prog = true := by kernel_rfl
theorem stops : Try.prog.stops = [] := by kernel_rfl
theorem stopKnobs : Try.prog.stopKnobs = [] := by kernel_rfl
theorem own : ownKnob Try.prog.godebug = none := by kernel_rfl
end Go.Proofs.Ytnkoapccnlgijaa.Cells
