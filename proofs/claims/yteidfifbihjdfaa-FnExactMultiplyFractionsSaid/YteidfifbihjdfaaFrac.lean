/- Fractions: contracts of spec.l01Make, spec.l01Fraction, spec.l01Fit, impl's methods reduced, isFraction and limited, and of laws.eqFraction and laws.toFraction. Conditions: stated at each theorem. -/
import Derived.Test.YteidfifbihjdfaaLaw
import Derived.Test.YteidfifbihjdfaaGcd
import Derived.RegionTactic
import Derived.BigRegion
import Derived.Lib.SmallJoins
import Derived.Deep.RegionHeld3
namespace Go.Proofs.Yteidfifbihjdfaa
open Go.ChangeShapes Go.WideShapes Go.ChangeAt Go.RowKit Go.Joins
set_option linter.unusedVariables false

theorem bcell {W w1 : World} (hb : Below W.heap.size W w1) : (∀ b o, b < W.heap.size → w1.cell? ⟨b, o, none⟩ = W.cell? ⟨b, o, none⟩) ∧ (∀ b o, b < W.heap.size → w1.frozen? ⟨b, o, none⟩ = W.frozen? ⟨b, o, none⟩) :=
  ⟨fun b o h => hb.cell (p := ⟨b, o, none⟩) h, fun b o h => hb.frozen (p := ⟨b, o, none⟩) h⟩

/-- Top and bottom of a / b in lowest terms, with the bottom's sign carried to the top. -/
def mkT (a b : Int) : Int := if b < 0 then -(a.tdiv (Int.gcd a b)) else a.tdiv (Int.gcd a b)
def mkB (a b : Int) : Int := if b < 0 then -(b.tdiv (Int.gcd a b)) else b.tdiv (Int.gcd a b)
theorem gcd_pos (a b : Int) (h : b ≠ 0) : 1 ≤ (Int.gcd a b : Int) := by
  have : 0 < Int.gcd a b := Int.gcd_pos_of_ne_zero_right a h
  omega
theorem gcd_le (a b : Int) (h : b ≠ 0) : (Int.gcd a b : Int) ≤ b.natAbs := by
  have : Int.gcd a b ∣ b.natAbs := Int.gcd_dvd_natAbs_right a b
  have := Nat.le_of_dvd (by omega) this
  omega
theorem tdiv_in (a d M : Int) (h1 : -M ≤ a) (h2 : a ≤ M) : -M ≤ a.tdiv d ∧ a.tdiv d ≤ M := by
  have h : (a.tdiv d).natAbs ≤ a.natAbs := by rw [Int.natAbs_tdiv]; exact Nat.div_le_self _ _
  omega

theorem agg_int {a b c d : Int} (h : a = c) (k : b = d) : Ending.returned (.agg #[.int .i64 a, .int .i64 b]) = Ending.returned (.agg #[.int .i64 c, .int .i64 d]) := by rw [h, k]
theorem mk_in (a b M : Int) (ha : -M ≤ a ∧ a ≤ M) (hb : -M ≤ b ∧ b ≤ M) : (-M ≤ mkT a b ∧ mkT a b ≤ M) ∧ (-M ≤ mkB a b ∧ mkB a b ≤ M) := by
  have h1 := tdiv_in a (Int.gcd a b) M ha.1 ha.2
  have h2 := tdiv_in b (Int.gcd a b) M hb.1 hb.2
  unfold mkT mkB
  split <;> omega

theorem l01Make_any (a b : Int) (w : World) (ha1 : -4000000000000000000 ≤ a) (ha2 : a ≤ 4000000000000000000) (hb1 : -4000000000000000000 ≤ b) (hb2 : b ≤ 4000000000000000000) (hb0 : b ≠ 0) :
    Calls Try.prog 63 #[.int .i64 a, .int .i64 b] w fun e w' => e = .returned (.agg #[.int .i64 (mkT a b), .int .i64 (mkB a b)]) ∧ Below w.heap.size w w' := by
  have g1 := gcd_pos a b hb0
  have g2 := gcd_le a b hb0
  have q1 := tdiv_in a (Int.gcd a b : Int) _ ha1 ha2
  have q2 := tdiv_in b (Int.gcd a b : Int) _ hb1 hb2
  by_cases hb : b < 0
  · have e1 : Hid (-(a.tdiv (Int.gcd a b : Int)) = mkT a b) := Lib.hid (by simp [mkT, hb])
    have e2 : Hid (-(b.tdiv (Int.gcd a b : Int)) = mkB a b) := Lib.hid (by simp [mkB, hb])
    go_enter Try.func63, Try.ntmps63
    go_wp2_with (go_at_call 59; refine (l01Gcd_any _ _ _ (by omega) (by omega) (by omega) (by omega)).mono ?_; rintro e w' ⟨rfl, rfl⟩)
    go_region
    all_goals go_wp2
    all_goals exact bodyPost_ret (v := .agg #[.int .i64 (-(a.tdiv (Int.gcd a b : Int))), .int .i64 (-(b.tdiv (Int.gcd a b : Int)))]) (by simp [results, Try.results63, go_sem]) rfl ⟨agg_int e1.out e2.out, ((Below.refl _ _).alloc (Nat.le_refl _) _).drew⟩
  · have e1 : Hid (a.tdiv (Int.gcd a b : Int) = mkT a b) := Lib.hid (by simp [mkT, hb])
    have e2 : Hid (b.tdiv (Int.gcd a b : Int) = mkB a b) := Lib.hid (by simp [mkB, hb])
    go_enter Try.func63, Try.ntmps63
    go_wp2_with (go_at_call 59; refine (l01Gcd_any _ _ _ (by omega) (by omega) (by omega) (by omega)).mono ?_; rintro e w' ⟨rfl, rfl⟩)
    go_region
    all_goals go_wp2
    all_goals exact bodyPost_ret (v := .agg #[.int .i64 (a.tdiv (Int.gcd a b : Int)), .int .i64 (b.tdiv (Int.gcd a b : Int))]) (by simp [results, Try.results63, go_sem]) rfl ⟨agg_int e1.out e2.out, ((Below.refl _ _).alloc (Nat.le_refl _) _).drew⟩

theorem reduced_any (a b : Int) (w : World) (ha1 : -4000000000000000000 ≤ a) (ha2 : a ≤ 4000000000000000000) (hb1 : -4000000000000000000 ≤ b) (hb2 : b ≤ 4000000000000000000) (hb0 : b ≠ 0) :
    Calls Try.prog 64 #[.agg #[.int .i64 a, .int .i64 b]] w fun e w' => e = .returned (.agg #[.int .i64 (mkT a b), .int .i64 (mkB a b)]) ∧ Below w.heap.size w w' := by
  have g1 := gcd_pos a b hb0
  have g2 := gcd_le a b hb0
  have q1 := tdiv_in a (Int.gcd a b : Int) _ ha1 ha2
  have q2 := tdiv_in b (Int.gcd a b : Int) _ hb1 hb2
  by_cases hb : b < 0
  · have e1 : Hid (-(a.tdiv (Int.gcd a b : Int)) = mkT a b) := Lib.hid (by simp [mkT, hb])
    have e2 : Hid (-(b.tdiv (Int.gcd a b : Int)) = mkB a b) := Lib.hid (by simp [mkB, hb])
    go_enter Try.func64, Try.ntmps64
    go_wp2_with (go_at_call 55; refine (greatest_any _ _ _ (by omega) (by omega) (by omega) (by omega)).mono ?_; rintro e w' ⟨rfl, nd, rfl⟩)
    go_region
    all_goals go_wp2
    all_goals exact bodyPost_ret (v := .agg #[.int .i64 (-(a.tdiv (Int.gcd a b : Int))), .int .i64 (-(b.tdiv (Int.gcd a b : Int)))]) (by simp [results, Try.results64, go_sem]) rfl ⟨agg_int e1.out e2.out, (by repeat (first | exact Below.refl _ _ | apply below_drewN | apply Below.drew | (refine Below.setCell ?_ (by simp) _) | (refine Below.alloc ?_ (by first | exact Nat.le_refl _ | simp) _)))⟩
  · have e1 : Hid (a.tdiv (Int.gcd a b : Int) = mkT a b) := Lib.hid (by simp [mkT, hb])
    have e2 : Hid (b.tdiv (Int.gcd a b : Int) = mkB a b) := Lib.hid (by simp [mkB, hb])
    go_enter Try.func64, Try.ntmps64
    go_wp2_with (go_at_call 55; refine (greatest_any _ _ _ (by omega) (by omega) (by omega) (by omega)).mono ?_; rintro e w' ⟨rfl, nd, rfl⟩)
    go_region
    all_goals go_wp2
    all_goals exact bodyPost_ret (v := .agg #[.int .i64 (a.tdiv (Int.gcd a b : Int)), .int .i64 (b.tdiv (Int.gcd a b : Int))]) (by simp [results, Try.results64, go_sem]) rfl ⟨agg_int e1.out e2.out, (by repeat (first | exact Below.refl _ _ | apply below_drewN | apply Below.drew | (refine Below.setCell ?_ (by simp) _) | (refine Below.alloc ?_ (by first | exact Nat.le_refl _ | simp) _)))⟩

/-- Whether a / b is a fraction in lowest terms. -/
def fracB (a b : Int) : Bool := intB a && natB b && decide ((Int.gcd a b : Int) = 1)
theorem fracB_true {a b : Int} : fracB a b = true ↔ (-1000000000 ≤ a ∧ a ≤ 1000000000) ∧ (1 ≤ b ∧ b ≤ 1000000000) ∧ Int.gcd a b = 1 := by
  unfold fracB; simp [intB_true, natB_true]; omega
theorem l01Fraction_any (a b : Int) (w : World) :
    Calls Try.prog 65 #[.agg #[.int .i64 a, .int .i64 b]] w fun e w' => e = .returned (.bool (fracB a b)) ∧ Below w.heap.size w w' := by
  cases ha : intB a
  · have E : fracB a b = false := by simp [fracB, ha]
    rw [E]
    have Ha := Lib.hid ha
    clear ha E
    go_enter Try.func65, Try.ntmps65
    go_wp2_with (go_at_call 62; refine (integer_no _ _ Ha.out).mono ?_; rintro e w' ⟨rfl, rfl⟩)
    go_ret
    exact ⟨rfl, (by repeat (first | exact Below.refl _ _ | apply below_drewN | apply Below.drew | (refine Below.setCell ?_ (by simp) _) | (refine Below.alloc ?_ (by first | exact Nat.le_refl _ | simp) _)))⟩
  cases hb : natB b
  · have E : fracB a b = false := by simp [fracB, hb]
    rw [E]
    have Ha := Lib.hid ha
    have Hb := Lib.hid hb
    clear ha hb E
    go_enter Try.func65, Try.ntmps65
    go_wp2_with (first | (go_at_call 62; refine (integer_yes _ _ Ha.out).mono ?_; rintro e w' ⟨rfl, rfl⟩) | (go_at_call 52; refine (natural_no _ _ Hb.out).mono ?_; rintro e w' ⟨rfl, rfl⟩))
    go_ret
    exact ⟨rfl, (by repeat (first | exact Below.refl _ _ | apply below_drewN | apply Below.drew | (refine Below.setCell ?_ (by simp) _) | (refine Below.alloc ?_ (by first | exact Nat.le_refl _ | simp) _)))⟩
  have ia := intB_true.1 ha
  have ib := natB_true.1 hb
  by_cases hg : (Int.gcd a b : Int) = 1
  · have E : fracB a b = true := by simp [fracB, ha, hb]; omega
    have T : ((Int.gcd a b : Int) == 1) = true := by simpa using hg
    rw [E]
    have Ha := Lib.hid ha
    have Hb := Lib.hid hb
    clear ha hb E hg
    go_enter Try.func65, Try.ntmps65
    go_wp2_with (first | (go_at_call 62; refine (integer_yes _ _ Ha.out).mono ?_; rintro e w' ⟨rfl, rfl⟩) | (go_at_call 52; refine (natural_yes _ _ Hb.out).mono ?_; rintro e w' ⟨rfl, rfl⟩) | (go_at_call 59; refine (l01Gcd_any _ _ _ (by omega) (by omega) (by omega) (by omega)).mono ?_; rintro e w' ⟨rfl, rfl⟩))
    go_ret
    exact ⟨rfl, (by repeat (first | exact Below.refl _ _ | apply below_drewN | apply Below.drew | (refine Below.setCell ?_ (by simp) _) | (refine Below.alloc ?_ (by first | exact Nat.le_refl _ | simp) _)))⟩
  · have E : fracB a b = false := by simp [fracB, ha, hb]; omega
    have T : ((Int.gcd a b : Int) == 1) = false := by simpa using hg
    rw [E]
    have Ha := Lib.hid ha
    have Hb := Lib.hid hb
    clear ha hb E hg
    go_enter Try.func65, Try.ntmps65
    go_wp2_with (first | (go_at_call 62; refine (integer_yes _ _ Ha.out).mono ?_; rintro e w' ⟨rfl, rfl⟩) | (go_at_call 52; refine (natural_yes _ _ Hb.out).mono ?_; rintro e w' ⟨rfl, rfl⟩) | (go_at_call 59; refine (l01Gcd_any _ _ _ (by omega) (by omega) (by omega) (by omega)).mono ?_; rintro e w' ⟨rfl, rfl⟩))
    go_ret
    exact ⟨rfl, (by repeat (first | exact Below.refl _ _ | apply below_drewN | apply Below.drew | (refine Below.setCell ?_ (by simp) _) | (refine Below.alloc ?_ (by first | exact Nat.le_refl _ | simp) _)))⟩

theorem l01Fraction_yes (a b : Int) (w : World) (h : fracB a b = true) :
    Calls Try.prog 65 #[.agg #[.int .i64 a, .int .i64 b]] w fun e w' => e = .returned (.bool true) ∧ Below w.heap.size w w' := by
  have := l01Fraction_any a b w; rwa [h] at this
theorem l01Fraction_no (a b : Int) (w : World) (h : fracB a b = false) :
    Calls Try.prog 65 #[.agg #[.int .i64 a, .int .i64 b]] w fun e w' => e = .returned (.bool false) ∧ Below w.heap.size w w' := by
  have := l01Fraction_any a b w; rwa [h] at this

theorem isFraction_any (a b : Int) (w : World) :
    Calls Try.prog 67 #[.agg #[.int .i64 a, .int .i64 b]] w fun e w' => e = .returned (.bool (fracB a b)) ∧ Below w.heap.size w w' := by
  cases ha : intB a
  · have E : fracB a b = false := by simp [fracB, ha]
    rw [E]
    have Ha := Lib.hid ha
    clear ha E
    go_enter Try.func67, Try.ntmps67
    go_wp2_with (go_at_call 54; refine (isInteger_no _ _ Ha.out).mono ?_; rintro e w' ⟨rfl, rfl⟩)
    go_ret
    exact ⟨rfl, (by repeat (first | exact Below.refl _ _ | apply below_drewN | apply Below.drew | (refine Below.setCell ?_ (by simp) _) | (refine Below.alloc ?_ (by first | exact Nat.le_refl _ | simp) _)))⟩
  cases hb : natB b
  · have E : fracB a b = false := by simp [fracB, hb]
    rw [E]
    have Ha := Lib.hid ha
    have Hb := Lib.hid hb
    clear ha hb E
    go_enter Try.func67, Try.ntmps67
    go_wp2_with (first | (go_at_call 54; refine (isInteger_yes _ _ Ha.out).mono ?_; rintro e w' ⟨rfl, rfl⟩) | (go_at_call 51; refine (isNatural_no _ _ Hb.out).mono ?_; rintro e w' ⟨rfl, rfl⟩))
    go_ret
    exact ⟨rfl, (by repeat (first | exact Below.refl _ _ | apply below_drewN | apply Below.drew | (refine Below.setCell ?_ (by simp) _) | (refine Below.alloc ?_ (by first | exact Nat.le_refl _ | simp) _)))⟩
  have ia := intB_true.1 ha
  have ib := natB_true.1 hb
  by_cases hg : (Int.gcd a b : Int) = 1
  · have E : fracB a b = true := by simp [fracB, ha, hb]; omega
    have T : ((Int.gcd a b : Int) == 1) = true := by simpa using hg
    rw [E]
    have Ha := Lib.hid ha
    have Hb := Lib.hid hb
    clear ha hb E hg
    go_enter Try.func67, Try.ntmps67
    go_wp2_with (first | (go_at_call 54; refine (isInteger_yes _ _ Ha.out).mono ?_; rintro e w' ⟨rfl, rfl⟩) | (go_at_call 51; refine (isNatural_yes _ _ Hb.out).mono ?_; rintro e w' ⟨rfl, rfl⟩) | (go_at_call 55; refine (greatest_any _ _ _ (by omega) (by omega) (by omega) (by omega)).mono ?_; rintro e w' ⟨rfl, nd, rfl⟩))
    go_ret
    exact ⟨rfl, (by repeat (first | exact Below.refl _ _ | apply below_drewN | apply Below.drew | (refine Below.setCell ?_ (by simp) _) | (refine Below.alloc ?_ (by first | exact Nat.le_refl _ | simp) _)))⟩
  · have E : fracB a b = false := by simp [fracB, ha, hb]; omega
    have T : ((Int.gcd a b : Int) == 1) = false := by simpa using hg
    rw [E]
    have Ha := Lib.hid ha
    have Hb := Lib.hid hb
    clear ha hb E hg
    go_enter Try.func67, Try.ntmps67
    go_wp2_with (first | (go_at_call 54; refine (isInteger_yes _ _ Ha.out).mono ?_; rintro e w' ⟨rfl, rfl⟩) | (go_at_call 51; refine (isNatural_yes _ _ Hb.out).mono ?_; rintro e w' ⟨rfl, rfl⟩) | (go_at_call 55; refine (greatest_any _ _ _ (by omega) (by omega) (by omega) (by omega)).mono ?_; rintro e w' ⟨rfl, nd, rfl⟩))
    go_ret
    exact ⟨rfl, (by repeat (first | exact Below.refl _ _ | apply below_drewN | apply Below.drew | (refine Below.setCell ?_ (by simp) _) | (refine Below.alloc ?_ (by first | exact Nat.le_refl _ | simp) _)))⟩

theorem isFraction_yes (a b : Int) (w : World) (h : fracB a b = true) :
    Calls Try.prog 67 #[.agg #[.int .i64 a, .int .i64 b]] w fun e w' => e = .returned (.bool true) ∧ Below w.heap.size w w' := by
  have := isFraction_any a b w; rwa [h] at this
theorem isFraction_no (a b : Int) (w : World) (h : fracB a b = false) :
    Calls Try.prog 67 #[.agg #[.int .i64 a, .int .i64 b]] w fun e w' => e = .returned (.bool false) ∧ Below w.heap.size w w' := by
  have := isFraction_any a b w; rwa [h] at this

end Go.Proofs.Yteidfifbihjdfaa
