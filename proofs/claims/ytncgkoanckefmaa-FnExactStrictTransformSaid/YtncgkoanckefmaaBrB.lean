/- MultiplicityOf, CountPairs: contracts. Conditions: stated at each theorem. -/
import Derived.Test.YtncgkoanckefmaaBrA
namespace Go.Proofs.Ytncgkoanckefmaa
open Go.ChangeShapes Go.WideShapes Go.ChangeAt Go.RowKit
set_option linter.unusedVariables false
def muA (zs : List Int) : Int := if brB zs then zs[0]?.getD 0 else 0
def brC (zs : List Int) : Int := if brB zs then 0 else 1
def cpA (zs : List Int) : Int := if brB zs then (zs.length : Int) - 1 else 0
theorem mu_no {zs : List Int} (h : brB zs = false) : muA zs = 0 ∧ brC zs = 1 := by simp [muA, brC, h]
theorem mu_yes {zs : List Int} (h : brB zs = true) : muA zs = zs[0]?.getD 0 ∧ brC zs = 0 := by simp [muA, brC, h]
theorem cp_no {zs : List Int} (h : brB zs = false) : cpA zs = 0 ∧ brC zs = 1 := by simp [cpA, brC, h]
theorem cp_yes {zs : List Int} (h : brB zs = true) : cpA zs = (zs.length : Int) - 1 ∧ brC zs = 0 := by simp [cpA, brC, h]
theorem ans_ii {w w' : World} {a b A B : Int} (h1 : a = A) (h2 : b = B) (hb : Below w.heap.size w w') : AnsII w A B (.returned (.tuple #[.int .i64 a, .int .i64 b])) w' := by subst h1; subst h2; exact ⟨rfl, hb⟩

end Go.Proofs.Ytncgkoanckefmaa
