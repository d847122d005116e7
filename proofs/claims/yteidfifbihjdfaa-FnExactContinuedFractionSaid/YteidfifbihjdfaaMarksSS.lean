/- Marks from 1 on in slices of slices: laws.markInt64SS and laws.heldInt64SS as the exact laws call them. Conditions: stated at each theorem. -/
import Derived.Test.YteidfifbihjdfaaOwnSS
namespace Go.Proofs.Yteidfifbihjdfaa
open Go.ChangeShapes Go.WideShapes Go.ChangeAt Go.RowKit
theorem hideS {p : Prop} (h : p) : Hid p := h
theorem unhideS {p : Prop} (h : Hid p) : p := h
theorem markSS1 (A : Option Addr) (n c base : Nat) (vf : Nat → Value) (ms : Nat → Nat) (xf : Nat → List Value) (w : World) (hown : OwnSS w base A n c vf ms xf) (hn : n ≤ 1099511627776) (hk : 1 + off ms n ≤ 1099511627776) :
    Calls Try.prog 37 #[.slice A n c, .int .i64 1] w fun e w' => e = .returned (.int .i64 (1 + (off ms n : Int))) ∧ (∃ yf, OwnSS w' base A n c vf ms yf ∧ MarkedSS 1 n ms yf) ∧ Below base w w' := by
  have h := markInt64SS_any A n c base 1 vf ms xf w hown hn hk
  have e : ((1 + off ms n : Nat) : Int) = 1 + (off ms n : Int) := by omega
  rw [e] at h
  exact h
theorem heldSS1 (A : Option Addr) (n c base : Nat) (vf : Nat → Value) (ms : Nat → Nat) (xf : Nat → List Value) (w : World) (hown : OwnSS w base A n c vf ms xf) (hm : MarkedSS 1 n ms xf) (hn : n ≤ 1099511627776) (hk : 1 + off ms n ≤ 1099511627776) :
    Calls Try.prog 38 #[.slice A n c, .int .i64 1] w fun e w' => e = .returned (.int .i64 (1 + (off ms n : Int))) ∧ w = w' := by
  have h := heldInt64SS_any A n c base 1 vf ms xf w hown hm hn hk
  have e : ((1 + off ms n : Nat) : Int) = 1 + (off ms n : Int) := by omega
  rw [e] at h
  exact h
end Go.Proofs.Yteidfifbihjdfaa
