/- Drawn pairs of numbers: contracts of spec.DrawEuclidSteps and spec.DrawNegativeFraction, and of laws.big. Conditions: stated at each theorem. -/
import Derived.Test.YtbipihamkfifjaaDraw
import Derived.Test.YtbipihamkfifjaaGcd
namespace Go.Proofs.Ytbipihamkfifjaa
open Go.ChangeShapes Go.WideShapes Go.ChangeAt Go.RowKit
set_option linter.unusedVariables false

theorem DrawEuclidSteps_any (A : Option Addr) (n c : Nat) (w : World) (hr : RB w w.heap.size A n) (hn : n ≤ 9223372036854775807) :
    Calls Try.prog 13 #[.slice A n c] w (TwoPost w) := by
  have HR := Lib.hid hr
  clear hr
  go_enter Try.func13, Try.ntmps13
  go_wp2_with (go_at_call 61; refine (l01Two_any A n c _ HR.out hn).mono ?_; rintro e w1 ⟨a, b, rfl, ha, hb, hb1⟩)
  go_ret2
  exact ⟨_, _, rfl, ha, hb, hb1⟩

theorem big_any (A : Option Addr) (n c : Nat) (w : World) (hn : n ≤ 9223372036854775807) :
    Calls Try.prog 12 #[.slice A n c] w fun e w' => e = .returned (.bool (decide (4096 < (n : Int)))) ∧ w = w' := by
  go_enter Try.func12, Try.ntmps12
  go_wp2
  go_ret
  exact ⟨rfl, rfl⟩

theorem gcd_ge (a b : Int) (h : b ≠ 0) : 1 ≤ (Int.gcd a b : Int) := by
  have := Int.gcd_pos_of_ne_zero_right a h; omega
theorem ediv_in (a d : Int) (ha : 1 ≤ a ∧ a ≤ 1000000000) (hd : 1 ≤ d) : 0 ≤ a / d ∧ a / d ≤ 1000000000 := by
  have h1 := Int.ediv_nonneg (show 0 ≤ a by omega) (show 0 ≤ d by omega)
  have h2 : a / d ≤ a := Int.ediv_le_self _ (by omega)
  omega
theorem DrawNegativeFraction_any (A : Option Addr) (n c : Nat) (w : World) (hr : RB w w.heap.size A n) (hn : n ≤ 9223372036854775807) :
    Calls Try.prog 20 #[.slice A n c] w (TwoPost w) := by
  have HR := Lib.hid hr
  clear hr
  have tok : True := trivial
  go_enter Try.func20, Try.ntmps20
  go_wp2_with (first
    | (go_at_call 68; refine (l01From_any A n c _ HR.out hn).mono ?_; rintro e w1 ⟨g, rfl, hs1, hb1⟩; have HS1 := Lib.hid hs1; have B1 := Lib.hid hb1; clear hs1 hb1)
    | (go_at_call 61; refine (l01Two_any A n c _ ?_ hn).mono ?_; (exact (HR.out.below B1.out).more B1.out.size); rintro e w2 ⟨a, b, rfl, ha, hb, hb2⟩; have B2 := Lib.hid hb2; have HS2 := Lib.hid (HS1.out.far hb2); clear hb2)
    | (go_at_call 63; have _t := tok; refine (natural_any a _).mono ?_; rintro e w' ⟨rfl, rfl⟩; clear tok _t; cases hna : natB a)
    | (go_at_call 63; refine (natural_any b _).mono ?_; rintro e w' ⟨rfl, rfl⟩; cases hnb : natB b)
    | (go_at_call 69; (with_reducible refine (l01Next_any w.heap.size g n 8 _ ?_ ?_).mono ?_); (exact HS2.out); (omega); rintro e w3 ⟨y3, rfl, hx3, hy3, hs3, hg3⟩; have HS3 := Lib.hid hs3; have HG3 := Lib.hid hg3; clear hs3 hg3)
    | (go_at_call 70; have na := natB_true.1 hna; have nb := natB_true.1 hnb; refine (l01Gcd_any a b _ ?_ ?_ ?_ ?_).mono ?_; (omega); (omega); (omega); (omega); rintro e w' ⟨rfl, rfl⟩; have gp := gcd_ge a b (by omega); have qa := ediv_in a _ na gp; have qb := ediv_in b _ nb gp)
    | (go_at_call 69; (with_reducible refine (l01Next_any w.heap.size g n 30 _ ?_ ?_).mono ?_); (exact HS3.out); (omega); rintro e w4 ⟨y4, rfl, hx4, hy4, hs4, hg4⟩; have HS4 := Lib.hid hs4; have HG4 := Lib.hid hg4; clear hs4 hg4)
    | (go_at_call 69; (with_reducible refine (l01Next_any w.heap.size g n 30 _ ?_ ?_).mono ?_); (exact HS2.out); (omega); rintro e w4 ⟨y4, rfl, hx4, hy4, hs4, hg4⟩; have HS4 := Lib.hid hs4; have HG4 := Lib.hid hg4; clear hs4 hg4))
  all_goals go_ret2
  all_goals
    have hgn := HS1.out.new
    have B3 : Below w.heap.size w w2 := B1.out.trans (B2.out.mono B1.out.size)
    first
      | exact ⟨_, _, rfl, by omega, by omega, B3⟩
      | exact ⟨_, _, rfl, by omega, by omega, below_src (below_src B3 HG3.out hgn) HG4.out hgn⟩
      | exact ⟨_, _, rfl, by omega, by omega, below_src B3 HG3.out hgn⟩
      | exact ⟨_, _, rfl, by omega, by omega, below_src B3 HG4.out hgn⟩
end Go.Proofs.Ytbipihamkfifjaa
