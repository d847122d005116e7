/- CommonDivisor, the model's and the program's: contracts. Conditions: stated at each theorem. -/
import Derived.Test.YtncgkoanckefmaaNums
namespace Go.Proofs.Ytncgkoanckefmaa
open Go.ChangeShapes Go.WideShapes Go.ChangeAt Go.RowKit
set_option linter.unusedVariables false

/-! ### CommonDivisor, the model's and the program's -/
def cdA (a b : Int) : Int := if intB a && intB b then Int.gcd a b else 0
def cdC (a b : Int) : Int := if intB a && intB b then 0 else 2
end Go.Proofs.Ytncgkoanckefmaa
