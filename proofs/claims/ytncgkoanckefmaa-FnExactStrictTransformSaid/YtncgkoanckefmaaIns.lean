/- Ranges: contracts of spec.l01In, impl.isWithin and impl.isCoefficient, and of impl.absolute. Conditions: stated at each theorem. -/
import Derived.Test.YtncgkoanckefmaaLaw
import Derived.Laws.Small
namespace Go.Proofs.Ytncgkoanckefmaa
open Go.ChangeShapes Go.WideShapes Go.ChangeAt Go.RowKit
set_option linter.unusedVariables false
theorem inY (n l h : Int) (w : World) (h1 : l ≤ n) (h2 : n ≤ h) :
    Calls Try.prog 75 #[.int .i64 n, .int .i64 l, .int .i64 h] w fun e w' => e = .returned (.bool true) ∧ w = w' := by
  go_enter Try.func75, Try.ntmps75
  go_wp2
  go_ret
  exact ⟨rfl, rfl⟩
theorem inN (n l h : Int) (w : World) (h1 : ¬ (l ≤ n ∧ n ≤ h)) :
    Calls Try.prog 75 #[.int .i64 n, .int .i64 l, .int .i64 h] w fun e w' => e = .returned (.bool false) ∧ w = w' := by
  by_cases h0 : l ≤ n
  · have h2 : ¬ n ≤ h := fun h3 => h1 ⟨h0, h3⟩
    clear h1
    go_enter Try.func75, Try.ntmps75
    go_wp2
    go_ret
    exact ⟨rfl, rfl⟩
  · clear h1
    go_enter Try.func75, Try.ntmps75
    go_wp2
    go_ret
    exact ⟨rfl, rfl⟩
end Go.Proofs.Ytncgkoanckefmaa
