/- Marks from 1 on: laws.markInt64S and laws.heldInt64S as the exact laws call them. Conditions: stated at each theorem. -/
import Derived.Test.YteidfifbihjdfaaOwn
namespace Go.Proofs.Yteidfifbihjdfaa
open Go.ChangeShapes Go.WideShapes Go.ChangeAt Go.RowKit
theorem hide {p : Prop} (h : p) : Hid p := h
theorem unhide {p : Prop} (h : Hid p) : p := h
theorem mark1 (A : Option Addr) (n c base : Nat) (xs : List Value) (w : World) (hown : Own w base (.slice A n c) n xs) (hn : n ≤ 1099511627776) :
    Calls Try.prog 40 #[.slice A n c, .int .i64 1] w fun e w' => e = .returned (.int .i64 (1 + (n : Int))) ∧ (∃ ys, Own w' base (.slice A n c) n ys ∧ Marked 1 n ys) ∧ w.grownBy w' (Value.slice A n c).ownBlock := by
  have h := markInt64S_any A n c base 1 xs w hown hn (by omega)
  have e : ((1 + n : Nat) : Int) = 1 + (n : Int) := by omega
  rw [e] at h
  exact h
theorem held1 (A : Option Addr) (n c base : Nat) (xs : List Value) (w : World) (hown : Own w base (.slice A n c) n xs) (hm : Marked 1 n xs) (hn : n ≤ 1099511627776) :
    Calls Try.prog 41 #[.slice A n c, .int .i64 1] w fun e w' => e = .returned (.int .i64 (1 + (n : Int))) ∧ w = w' := by
  have h := heldInt64S_any A n c base 1 xs w hown hm hn (by omega)
  have e : ((1 + n : Nat) : Int) = 1 + (n : Int) := by omega
  rw [e] at h
  exact h
end Go.Proofs.Yteidfifbihjdfaa
