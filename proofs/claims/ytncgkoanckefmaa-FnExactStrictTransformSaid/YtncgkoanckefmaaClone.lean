/- slices.Clone on slices of int64: contracts. Conditions: stated at each theorem. -/
import Derived.Test.YtncgkoanckefmaaTrim
import Derived.WalkSpells
import Derived.RegionTactic
import Derived.BigRegion
namespace Go.Proofs.Ytncgkoanckefmaa
open Go.ChangeShapes Go.WideShapes Go.ChangeAt Go.RowKit
set_option linter.unusedVariables false

end Go.Proofs.Ytncgkoanckefmaa
