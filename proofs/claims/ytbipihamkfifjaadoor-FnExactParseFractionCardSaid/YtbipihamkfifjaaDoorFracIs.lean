/- Whether a struct is a fraction: contracts of spec.l01Fraction and impl's method isFraction. Conditions: stated at each theorem. -/
import Derived.Test.YtbipihamkfifjaaDoorLaw
import Derived.Test.YtbipihamkfifjaaDoorNums
import Derived.RegionTactic
import Derived.BigRegion
import Derived.Lib.SmallJoins
import Derived.Deep.RegionHeld3
namespace Go.Proofs.YtbipihamkfifjaaDoor
open Go.ChangeShapes Go.WideShapes Go.ChangeAt Go.RowKit Go.Joins
set_option linter.unusedVariables false

theorem bcell {W w1 : World} (hb : Below W.heap.size W w1) : (∀ b o, b < W.heap.size → w1.cell? ⟨b, o, none⟩ = W.cell? ⟨b, o, none⟩) ∧ (∀ b o, b < W.heap.size → w1.frozen? ⟨b, o, none⟩ = W.frozen? ⟨b, o, none⟩) :=
  ⟨fun b o h => hb.cell (p := ⟨b, o, none⟩) h, fun b o h => hb.frozen (p := ⟨b, o, none⟩) h⟩

/-- Whether a / b is a fraction in lowest terms. -/
def fracB (a b : Int) : Bool := intB a && natB b && decide ((Int.gcd a b : Int) = 1)
theorem fracB_true {a b : Int} : fracB a b = true ↔ (-1000000000 ≤ a ∧ a ≤ 1000000000) ∧ (1 ≤ b ∧ b ≤ 1000000000) ∧ Int.gcd a b = 1 := by
  unfold fracB; simp [intB_true, natB_true]; omega
theorem l01Fraction_any (a b : Int) (w : World) :
    Calls Tryd.prog 44 #[.agg #[.int .i64 a, .int .i64 b]] w fun e w' => e = .returned (.bool (fracB a b)) ∧ Below w.heap.size w w' := by
  cases ha : intB a
  · have E : fracB a b = false := by simp [fracB, ha]
    rw [E]
    have Ha := Lib.hid ha
    clear ha E
    go_enter Tryd.func44, Tryd.ntmps44
    go_wp2_with (go_at_call 50; refine (integer_no _ _ Ha.out).mono ?_; rintro e w' ⟨rfl, rfl⟩)
    go_ret
    exact ⟨rfl, (by repeat (first | exact Below.refl _ _ | apply below_drewN | apply Below.drew | (refine Below.setCell ?_ (by simp) _) | (refine Below.alloc ?_ (by first | exact Nat.le_refl _ | simp) _)))⟩
  cases hb : natB b
  · have E : fracB a b = false := by simp [fracB, hb]
    rw [E]
    have Ha := Lib.hid ha
    have Hb := Lib.hid hb
    clear ha hb E
    go_enter Tryd.func44, Tryd.ntmps44
    go_wp2_with (first | (go_at_call 50; refine (integer_yes _ _ Ha.out).mono ?_; rintro e w' ⟨rfl, rfl⟩) | (go_at_call 84; refine (natural_no _ _ Hb.out).mono ?_; rintro e w' ⟨rfl, rfl⟩))
    go_ret
    exact ⟨rfl, (by repeat (first | exact Below.refl _ _ | apply below_drewN | apply Below.drew | (refine Below.setCell ?_ (by simp) _) | (refine Below.alloc ?_ (by first | exact Nat.le_refl _ | simp) _)))⟩
  have ia := intB_true.1 ha
  have ib := natB_true.1 hb
  by_cases hg : (Int.gcd a b : Int) = 1
  · have E : fracB a b = true := by simp [fracB, ha, hb]; omega
    have T : ((Int.gcd a b : Int) == 1) = true := by simpa using hg
    rw [E]
    have Ha := Lib.hid ha
    have Hb := Lib.hid hb
    clear ha hb E hg
    go_enter Tryd.func44, Tryd.ntmps44
    go_wp2_with (first | (go_at_call 50; refine (integer_yes _ _ Ha.out).mono ?_; rintro e w' ⟨rfl, rfl⟩) | (go_at_call 84; refine (natural_yes _ _ Hb.out).mono ?_; rintro e w' ⟨rfl, rfl⟩) | (go_at_call 58; refine (l01Gcd_any _ _ _ (by omega) (by omega) (by omega) (by omega)).mono ?_; rintro e w' ⟨rfl, rfl⟩))
    go_ret
    exact ⟨rfl, (by repeat (first | exact Below.refl _ _ | apply below_drewN | apply Below.drew | (refine Below.setCell ?_ (by simp) _) | (refine Below.alloc ?_ (by first | exact Nat.le_refl _ | simp) _)))⟩
  · have E : fracB a b = false := by simp [fracB, ha, hb]; omega
    have T : ((Int.gcd a b : Int) == 1) = false := by simpa using hg
    rw [E]
    have Ha := Lib.hid ha
    have Hb := Lib.hid hb
    clear ha hb E hg
    go_enter Tryd.func44, Tryd.ntmps44
    go_wp2_with (first | (go_at_call 50; refine (integer_yes _ _ Ha.out).mono ?_; rintro e w' ⟨rfl, rfl⟩) | (go_at_call 84; refine (natural_yes _ _ Hb.out).mono ?_; rintro e w' ⟨rfl, rfl⟩) | (go_at_call 58; refine (l01Gcd_any _ _ _ (by omega) (by omega) (by omega) (by omega)).mono ?_; rintro e w' ⟨rfl, rfl⟩))
    go_ret
    exact ⟨rfl, (by repeat (first | exact Below.refl _ _ | apply below_drewN | apply Below.drew | (refine Below.setCell ?_ (by simp) _) | (refine Below.alloc ?_ (by first | exact Nat.le_refl _ | simp) _)))⟩

theorem l01Fraction_yes (a b : Int) (w : World) (h : fracB a b = true) :
    Calls Tryd.prog 44 #[.agg #[.int .i64 a, .int .i64 b]] w fun e w' => e = .returned (.bool true) ∧ Below w.heap.size w w' := by
  have := l01Fraction_any a b w; rwa [h] at this
theorem l01Fraction_no (a b : Int) (w : World) (h : fracB a b = false) :
    Calls Tryd.prog 44 #[.agg #[.int .i64 a, .int .i64 b]] w fun e w' => e = .returned (.bool false) ∧ Below w.heap.size w w' := by
  have := l01Fraction_any a b w; rwa [h] at this

theorem isFraction_any (a b : Int) (w : World) :
    Calls Tryd.prog 42 #[.agg #[.int .i64 a, .int .i64 b]] w fun e w' => e = .returned (.bool (fracB a b)) ∧ Below w.heap.size w w' := by
  cases ha : intB a
  · have E : fracB a b = false := by simp [fracB, ha]
    rw [E]
    have Ha := Lib.hid ha
    clear ha E
    go_enter Tryd.func42, Tryd.ntmps42
    go_wp2_with (go_at_call 48; refine (isInteger_no _ _ Ha.out).mono ?_; rintro e w' ⟨rfl, rfl⟩)
    go_ret
    exact ⟨rfl, (by repeat (first | exact Below.refl _ _ | apply below_drewN | apply Below.drew | (refine Below.setCell ?_ (by simp) _) | (refine Below.alloc ?_ (by first | exact Nat.le_refl _ | simp) _)))⟩
  cases hb : natB b
  · have E : fracB a b = false := by simp [fracB, hb]
    rw [E]
    have Ha := Lib.hid ha
    have Hb := Lib.hid hb
    clear ha hb E
    go_enter Tryd.func42, Tryd.ntmps42
    go_wp2_with (first | (go_at_call 48; refine (isInteger_yes _ _ Ha.out).mono ?_; rintro e w' ⟨rfl, rfl⟩) | (go_at_call 83; refine (isNatural_no _ _ Hb.out).mono ?_; rintro e w' ⟨rfl, rfl⟩))
    go_ret
    exact ⟨rfl, (by repeat (first | exact Below.refl _ _ | apply below_drewN | apply Below.drew | (refine Below.setCell ?_ (by simp) _) | (refine Below.alloc ?_ (by first | exact Nat.le_refl _ | simp) _)))⟩
  have ia := intB_true.1 ha
  have ib := natB_true.1 hb
  by_cases hg : (Int.gcd a b : Int) = 1
  · have E : fracB a b = true := by simp [fracB, ha, hb]; omega
    have T : ((Int.gcd a b : Int) == 1) = true := by simpa using hg
    rw [E]
    have Ha := Lib.hid ha
    have Hb := Lib.hid hb
    clear ha hb E hg
    go_enter Tryd.func42, Tryd.ntmps42
    go_wp2_with (first | (go_at_call 48; refine (isInteger_yes _ _ Ha.out).mono ?_; rintro e w' ⟨rfl, rfl⟩) | (go_at_call 83; refine (isNatural_yes _ _ Hb.out).mono ?_; rintro e w' ⟨rfl, rfl⟩) | (go_at_call 57; refine (greatest_any _ _ _ (by omega) (by omega) (by omega) (by omega)).mono ?_; rintro e w' ⟨rfl, nd, rfl⟩))
    go_ret
    exact ⟨rfl, (by repeat (first | exact Below.refl _ _ | apply below_drewN | apply Below.drew | (refine Below.setCell ?_ (by simp) _) | (refine Below.alloc ?_ (by first | exact Nat.le_refl _ | simp) _)))⟩
  · have E : fracB a b = false := by simp [fracB, ha, hb]; omega
    have T : ((Int.gcd a b : Int) == 1) = false := by simpa using hg
    rw [E]
    have Ha := Lib.hid ha
    have Hb := Lib.hid hb
    clear ha hb E hg
    go_enter Tryd.func42, Tryd.ntmps42
    go_wp2_with (first | (go_at_call 48; refine (isInteger_yes _ _ Ha.out).mono ?_; rintro e w' ⟨rfl, rfl⟩) | (go_at_call 83; refine (isNatural_yes _ _ Hb.out).mono ?_; rintro e w' ⟨rfl, rfl⟩) | (go_at_call 57; refine (greatest_any _ _ _ (by omega) (by omega) (by omega) (by omega)).mono ?_; rintro e w' ⟨rfl, nd, rfl⟩))
    go_ret
    exact ⟨rfl, (by repeat (first | exact Below.refl _ _ | apply below_drewN | apply Below.drew | (refine Below.setCell ?_ (by simp) _) | (refine Below.alloc ?_ (by first | exact Nat.le_refl _ | simp) _)))⟩

theorem isFraction_yes (a b : Int) (w : World) (h : fracB a b = true) :
    Calls Tryd.prog 42 #[.agg #[.int .i64 a, .int .i64 b]] w fun e w' => e = .returned (.bool true) ∧ Below w.heap.size w w' := by
  have := isFraction_any a b w; rwa [h] at this
theorem isFraction_no (a b : Int) (w : World) (h : fracB a b = false) :
    Calls Tryd.prog 42 #[.agg #[.int .i64 a, .int .i64 b]] w fun e w' => e = .returned (.bool false) ∧ Below w.heap.size w w' := by
  have := isFraction_any a b w; rwa [h] at this

end Go.Proofs.YtbipihamkfifjaaDoor
