/- Clusters, the model's: weights of simple clusters, the inverse of the proximity matrix: contracts. Conditions: stated at each theorem. -/
import Derived.Test.YtohbgfmjnanlkaaClC
namespace Go.Proofs.Ytohbgfmjnanlkaa
open Go.ChangeShapes Go.WideShapes Go.ChangeAt Go.RowKit Go.Deep
set_option linter.unusedVariables false
set_option linter.unusedSimpArgs false

theorem tri_23 : tri 23 = 94143178827 := by decide +kernel
theorem tri_le23 {k : Nat} (h : k ≤ 23) : 1 ≤ tri k ∧ tri k ≤ 94143178827 := by
  have := tri_mono h; rw [tri_23] at this; exact ⟨tri_pos k, this⟩

end Go.Proofs.Ytohbgfmjnanlkaa
