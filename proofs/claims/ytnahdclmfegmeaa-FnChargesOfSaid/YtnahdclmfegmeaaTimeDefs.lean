/-
  Plain definitions for chapter 1: the service day of a minute, the week of a day, the first minute of a day.
-/
namespace Go.Proofs.Ytnahdclmfegmeaa.Fares
def serviceDay (m : Int) : Int := if 0 ≤ m ∧ m ≤ 40319 then (m + 1200) / 1440 else -1
def weekOf (d : Int) : Int := if 0 ≤ d ∧ d ≤ 28 then d / 7 else -1
def dayStart (d : Int) : Int := if 0 ≤ d ∧ d ≤ 28 then (if d = 0 then 0 else 1440 * (d - 1) + 240) else -1
end Go.Proofs.Ytnahdclmfegmeaa.Fares
