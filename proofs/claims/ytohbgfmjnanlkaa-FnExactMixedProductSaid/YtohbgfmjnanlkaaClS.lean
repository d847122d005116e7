/- Products of clusters: contracts. Conditions: stated at each theorem. -/
import Derived.Test.YtohbgfmjnanlkaaClQ
namespace Go.Proofs.Ytohbgfmjnanlkaa
open Go.ChangeShapes Go.WideShapes Go.ChangeAt Go.RowKit Go.Deep
set_option linter.unusedVariables false
set_option linter.unusedSimpArgs false

def mlA (P S W P' S' W' : List Int) : Int := if alC P S W P' S' W' = 0 then pdN W W' W.length else 0
theorem al_zero {P S W P' S' W' : List Int} (h : alC P S W P' S' W' = 0) : clB P S W = true ∧ clB P' S' W' = true ∧ P = P' ∧ S = S' := by
  unfold alC at h
  cases h1 : clB P S W <;> cases h2 : clB P' S' W' <;> rw [h1, h2] at h <;> simp at h
  exact ⟨rfl, rfl, h.1, h.2⟩
end Go.Proofs.Ytohbgfmjnanlkaa
