/- A slice of slices of int64 that comes in. Conditions: stated at each theorem. -/
import Derived.Test.YtlidleaigjemnaaDoorKeepQ
import Derived.Deep.Matrix
namespace Go.Proofs.YtlidleaigjemnaaDoor
open Go.ChangeShapes Go.WideShapes Go.ChangeAt Go.RowKit Go.Deep
set_option linter.unusedVariables false

theorem szI_yes (A : Option Addr) (n c : Nat) (left : Int) (w : World) (h : (n : Int) ≤ left) (hl : left ≤ 1048576) :
    Calls Tryd.prog 69 #[.slice A n c, .int .i64 left] w fun e w' => e = .returned (.int .i64 (left - n)) ∧ w = w' := by
  go_enter Tryd.func69, Tryd.ntmps69
  go_wp2
  go_ret
  exact ⟨rfl, rfl⟩
theorem szI_no (A : Option Addr) (n c : Nat) (left : Int) (w : World) (h : left < (n : Int)) (h0 : 0 ≤ left) (hl : left ≤ 1048576) (hn : n ≤ 9223372036854775807) :
    Calls Tryd.prog 69 #[.slice A n c, .int .i64 left] w fun e w' => e = .returned (.int .i64 (-1)) ∧ w = w' := by
  go_enter Tryd.func69, Tryd.ntmps69
  go_wp2
  go_ret
  exact ⟨rfl, rfl⟩
theorem ReadW.form {w : World} {B : Nat} {v : Value} {zs : List Int} (h : ReadW w B v zs) {n : Nat} (hl : zs.length = n) : ∃ A c, v = .slice A n c := by
  subst hl; obtain ⟨A, c, rfl, _⟩ := h; exact ⟨A, c, rfl⟩

theorem ret_intQ {k : IntKind} {a b : Int} (h : a = b) : Ending.returned (.int k a) = .returned (.int k b) := by rw [h]
end Go.Proofs.YtlidleaigjemnaaDoor
