/- Whether a list is a code, the model's and the program's: contracts. Conditions: stated at each theorem. -/
import Derived.Test.YtohbgfmjnanlkaaZB
namespace Go.Proofs.Ytohbgfmjnanlkaa
open Go.ChangeShapes Go.WideShapes Go.ChangeAt Go.RowKit Go.Deep
set_option linter.unusedVariables false
set_option linter.unusedSimpArgs false

/-- The numbers are those of a code, behind a number b; or at its beginning. -/
def cdOK (b : Int) (first : Bool) : List Int → Bool
  | [] => true
  | c :: r => (decide (c = 0) || (!first && (decide (c = 2) || decide (b ≠ 0 ∧ c = b + 1)))) && cdOK c false r
def isC (zs : List Int) : Bool := cdOK 0 true zs && decide (zs.length ≤ 399)
theorem isC_len {zs : List Int} (h : isC zs = true) : zs.length ≤ 399 := by unfold isC at h; simp at h; exact h.2
theorem isC_long {zs : List Int} (h : ¬ zs.length ≤ 399) : isC zs = false := by unfold isC; simp; omega

end Go.Proofs.Ytohbgfmjnanlkaa
