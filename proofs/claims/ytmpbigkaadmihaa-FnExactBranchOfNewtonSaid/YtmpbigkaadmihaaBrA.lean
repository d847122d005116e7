/- spec.IsBranch: a contract; the model's test and the program's in the forms that a guard takes. Conditions: stated at each theorem. -/
import Derived.Test.YtmpbigkaadmihaaBrJ
import Derived.Test.YtmpbigkaadmihaaBrW
namespace Go.Proofs.Ytmpbigkaadmihaa
open Go.ChangeShapes Go.WideShapes Go.ChangeAt Go.RowKit
set_option linter.unusedVariables false
theorem specIsBranch_any (v : Value) (zs : List Int) (w : World) (h : ReadI w w.heap.size v zs) (hn : zs.length ≤ 1048576) (hw : ∀ z ∈ zs, (Lit.int .i64 z).wf = true) :
    Calls Try.prog 16 #[.agg #[v]] w fun e w' => e = .returned (.bool (brB zs)) ∧ Below w.heap.size w w' := by
  have HR := Lib.hid ((h.below (below_box w (.cells #[v] 26))).more (below_box w (.cells #[v] 26)).size)
  have HW := Lib.hid hw
  clear h hw
  go_enter Try.func16, Try.ntmps16
  go_wp2_with fail
  refine (l03Is_any v zs _ HR.out hn HW.out).mono ?_
  rintro e w1 ⟨rfl, hb⟩
  go_wp2
  go_ret
  exact ⟨rfl, (below_box _ _).trans (hb.mono (by simp))⟩
theorem l03Is_if (v : Value) (zs : List Int) (w : World) (b : Bool) (h : ReadI w w.heap.size v zs) (hn : zs.length ≤ 1048576) (hw : ∀ z ∈ zs, (Lit.int .i64 z).wf = true) (hb : brB zs = b) :
    Calls Try.prog 53 #[.agg #[v]] w fun e w' => e = .returned (.bool b) ∧ Below w.heap.size w w' := by
  subst hb; exact l03Is_any v zs w h hn hw
theorem implIsBranch_if (v : Value) (zs : List Int) (w : World) (b : Bool) (h : ReadI w w.heap.size v zs) (hn : zs.length ≤ 1048576) (hw : ∀ z ∈ zs, (Lit.int .i64 z).wf = true) (hb : brB zs = b) :
    Calls Try.prog 15 #[.agg #[v]] w fun e w' => e = .returned (.bool b) ∧ Below w.heap.size w w' := by
  subst hb; exact implIsBranch_any v zs w h hn hw
end Go.Proofs.Ytmpbigkaadmihaa
