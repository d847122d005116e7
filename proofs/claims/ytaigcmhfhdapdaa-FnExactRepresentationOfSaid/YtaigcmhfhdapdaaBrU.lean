/- DivisorsOf: contracts. Conditions: stated at each theorem. -/
import Derived.Test.YtaigcmhfhdapdaaBrV
namespace Go.Proofs.Ytaigcmhfhdapdaa
open Go.ChangeShapes Go.WideShapes Go.ChangeAt Go.RowKit
set_option linter.unusedVariables false
def doA (zs : List Int) : List Int := if brB zs then dvL 0 zs else []
theorem do_no {zs : List Int} (h : brB zs = false) : doA zs = [] ∧ brC zs = 1 := by simp [doA, brC, h]
theorem do_yes {zs : List Int} (h : brB zs = true) : doA zs = dvL 0 zs ∧ brC zs = 0 := by simp [doA, brC, h]
theorem doA_len {zs : List Int} (h : zs.length ≤ 1048576) : (doA zs).length ≤ 1099511627776 := by
  unfold doA; split
  · rw [dvL_len]; omega
  · simp

end Go.Proofs.Ytaigcmhfhdapdaa
