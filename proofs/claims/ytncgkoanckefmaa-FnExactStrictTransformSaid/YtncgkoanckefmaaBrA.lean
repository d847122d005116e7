/- spec.IsBranch: a contract; the model's test and the program's in the forms that a guard takes. Conditions: stated at each theorem. -/
import Derived.Test.YtncgkoanckefmaaBrJ
import Derived.Test.YtncgkoanckefmaaBrW
namespace Go.Proofs.Ytncgkoanckefmaa
open Go.ChangeShapes Go.WideShapes Go.ChangeAt Go.RowKit
set_option linter.unusedVariables false
theorem l03Is_if (v : Value) (zs : List Int) (w : World) (b : Bool) (h : ReadI w w.heap.size v zs) (hn : zs.length ≤ 1048576) (hw : ∀ z ∈ zs, (Lit.int .i64 z).wf = true) (hb : brB zs = b) :
    Calls Try.prog 74 #[.agg #[v]] w fun e w' => e = .returned (.bool b) ∧ Below w.heap.size w w' := by
  subst hb; exact l03Is_any v zs w h hn hw
theorem implIsBranch_if (v : Value) (zs : List Int) (w : World) (b : Bool) (h : ReadI w w.heap.size v zs) (hn : zs.length ≤ 1048576) (hw : ∀ z ∈ zs, (Lit.int .i64 z).wf = true) (hb : brB zs = b) :
    Calls Try.prog 77 #[.agg #[v]] w fun e w' => e = .returned (.bool b) ∧ Below w.heap.size w w' := by
  subst hb; exact implIsBranch_any v zs w h hn hw
end Go.Proofs.Ytncgkoanckefmaa
