/- Fractions that are made, fitted and compared: contracts of spec.l01Fit, impl's limited, spec's and impl's MakeFraction, AddFractions and MultiplyFractions, laws.eqFraction and laws.toFraction. Conditions: stated at each theorem. -/
import Derived.Test.YteidfifbihjdfaaFrac
namespace Go.Proofs.Yteidfifbihjdfaa
open Go.ChangeShapes Go.WideShapes Go.ChangeAt Go.RowKit Go.Joins
set_option linter.unusedVariables false

theorem eqFraction_same (a b : Int) (w : World) :
    Calls Try.prog 42 #[.agg #[.int .i64 a, .int .i64 b], .agg #[.int .i64 a, .int .i64 b]] w fun e w' => e = .returned (.bool true) ∧ Below w.heap.size w w' := by
  go_enter Try.func42, Try.ntmps42
  go_wp2
  go_ret
  exact ⟨rfl, (by repeat (first | exact Below.refl _ _ | apply below_drewN | apply Below.drew | (refine Below.setCell ?_ (by first | (simp; done) | (simp; omega) | omega) _) | (refine Below.alloc ?_ (by first | exact Nat.le_refl _ | (simp; done) | (simp; omega) | omega) _)))⟩

theorem toFraction_any (a b : Int) (w : World) :
    Calls Try.prog 46 #[.agg #[.int .i64 a, .int .i64 b]] w fun e w' => e = .returned (.agg #[.int .i64 a, .int .i64 b]) ∧ Below w.heap.size w w' := by
  go_enter Try.func46, Try.ntmps46
  go_wp2
  exact bodyPost_ret (v := .agg #[.int .i64 a, .int .i64 b]) (by simp [results, Try.results46, go_sem]) rfl ⟨rfl, (by repeat (first | exact Below.refl _ _ | apply below_drewN | apply Below.drew | (refine Below.setCell ?_ (by first | (simp; done) | (simp; omega) | omega) _) | (refine Below.alloc ?_ (by first | exact Nat.le_refl _ | (simp; done) | (simp; omega) | omega) _)))⟩

theorem lt_of_size {n m : Nat} (h : n + 1 + 1 ≤ m) : n < m := by omega
theorem lt_of_size1 {n m : Nat} (h : n + 1 + 1 ≤ m) : n + 1 < m := by omega
def fitT (a b : Int) : Int := if fracB a b then a else 0
def fitB (a b : Int) : Int := if fracB a b then b else 0
def fitC (a b : Int) : Int := if fracB a b then 0 else 3
theorem l01Fit_any (a b : Int) (w : World) :
    Calls Try.prog 66 #[.agg #[.int .i64 a, .int .i64 b]] w fun e w' => e = .returned (.tuple #[.agg #[.int .i64 (fitT a b), .int .i64 (fitB a b)], .int .i64 (fitC a b)]) ∧ Below w.heap.size w w' := by
  cases h : fracB a b
  · have e1 : fitT a b = 0 := by simp [fitT, h]
    have e2 : fitB a b = 0 := by simp [fitB, h]
    have e3 : fitC a b = 3 := by simp [fitC, h]
    rw [e1, e2, e3]
    have H := Lib.hid h
    clear h e1 e2 e3
    go_enter Try.func66, Try.ntmps66
    go_wp2_with (go_at_call 65; refine (l01Fraction_no _ _ _ H.out).mono ?_; rintro e w1 ⟨rfl, hb1⟩; obtain ⟨hc1, hf1⟩ := bcell hb1; have hz1 := hb1.size; simp at hz1; have hy1 := lt_of_size hz1; have hx1 := lt_of_size1 hz1)
    exact bodyPost_ret (v := .tuple #[.agg #[.int .i64 (0), .int .i64 (0)], .int .i64 (3)]) (by simp [results, Try.results66, go_sem, *]) rfl ⟨rfl, (by repeat (first | exact Below.refl _ _ | apply below_drewN | apply Below.drew | (refine Below.setCell ?_ (by first | (simp; done) | (simp; omega) | omega) _) | (refine Below.alloc ?_ (by first | exact Nat.le_refl _ | (simp; done) | (simp; omega) | omega) _) | (refine Below.trans ?_ (hb1.mono (by first | exact Nat.le_refl _ | (simp; done) | (simp; omega) | omega)))))⟩
  · have e1 : fitT a b = a := by simp [fitT, h]
    have e2 : fitB a b = b := by simp [fitB, h]
    have e3 : fitC a b = 0 := by simp [fitC, h]
    rw [e1, e2, e3]
    have H := Lib.hid h
    clear h e1 e2 e3
    go_enter Try.func66, Try.ntmps66
    go_wp2_with (go_at_call 65; refine (l01Fraction_yes _ _ _ H.out).mono ?_; rintro e w1 ⟨rfl, hb1⟩; obtain ⟨hc1, hf1⟩ := bcell hb1; have hz1 := hb1.size; simp at hz1; have hy1 := lt_of_size hz1; have hx1 := lt_of_size1 hz1)
    exact bodyPost_ret (v := .tuple #[.agg #[.int .i64 (a), .int .i64 (b)], .int .i64 (0)]) (by simp [results, Try.results66, go_sem, *]) rfl ⟨rfl, (by repeat (first | exact Below.refl _ _ | apply below_drewN | apply Below.drew | (refine Below.setCell ?_ (by first | (simp; done) | (simp; omega) | omega) _) | (refine Below.alloc ?_ (by first | exact Nat.le_refl _ | (simp; done) | (simp; omega) | omega) _) | (refine Below.trans ?_ (hb1.mono (by first | exact Nat.le_refl _ | (simp; done) | (simp; omega) | omega)))))⟩
end Go.Proofs.Yteidfifbihjdfaa
