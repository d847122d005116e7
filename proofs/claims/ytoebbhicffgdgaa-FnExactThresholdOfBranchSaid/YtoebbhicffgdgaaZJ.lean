/- ZJ: FracIs Frac Frac2 Frac3. Conditions: stated at each theorem. -/
import Derived.Test.YtoebbhicffgdgaaZA
import Derived.RegionTactic
import Derived.BigRegion
import Derived.Lib.SmallJoins
import Derived.Deep.RegionHeld3
/- Whether a struct is a fraction: contracts of spec.l01Fraction and impl's method isFraction. Conditions: stated at each theorem. -/
namespace Go.Proofs.Ytoebbhicffgdgaa
open Go.ChangeShapes Go.WideShapes Go.ChangeAt Go.RowKit Go.Joins
set_option linter.unusedVariables false

theorem bcell {W w1 : World} (hb : Below W.heap.size W w1) : (∀ b o, b < W.heap.size → w1.cell? ⟨b, o, none⟩ = W.cell? ⟨b, o, none⟩) ∧ (∀ b o, b < W.heap.size → w1.frozen? ⟨b, o, none⟩ = W.frozen? ⟨b, o, none⟩) :=
  ⟨fun b o h => hb.cell (p := ⟨b, o, none⟩) h, fun b o h => hb.frozen (p := ⟨b, o, none⟩) h⟩

/-- Whether a / b is a fraction in lowest terms. -/
def fracB (a b : Int) : Bool := intB a && natB b && decide ((Int.gcd a b : Int) = 1)
theorem fracB_true {a b : Int} : fracB a b = true ↔ (-1000000000 ≤ a ∧ a ≤ 1000000000) ∧ (1 ≤ b ∧ b ≤ 1000000000) ∧ Int.gcd a b = 1 := by
  unfold fracB; simp [intB_true, natB_true]; omega
theorem isFraction_any (a b : Int) (w : World) :
    Calls Try.prog 107 #[.agg #[.int .i64 a, .int .i64 b]] w fun e w' => e = .returned (.bool (fracB a b)) ∧ Below w.heap.size w w' := by
  cases ha : intB a
  · have E : fracB a b = false := by simp [fracB, ha]
    rw [E]
    have Ha := Lib.hid ha
    clear ha E
    go_enter Try.func107, Try.ntmps107
    go_wp2_with (go_at_call 120; refine (isInteger_no _ _ Ha.out).mono ?_; rintro e w' ⟨rfl, rfl⟩)
    go_ret
    exact ⟨rfl, (by repeat (first | exact Below.refl _ _ | apply below_drewN | apply Below.drew | (refine Below.setCell ?_ (by simp) _) | (refine Below.alloc ?_ (by first | exact Nat.le_refl _ | simp) _)))⟩
  cases hb : natB b
  · have E : fracB a b = false := by simp [fracB, hb]
    rw [E]
    have Ha := Lib.hid ha
    have Hb := Lib.hid hb
    clear ha hb E
    go_enter Try.func107, Try.ntmps107
    go_wp2_with (first | (go_at_call 120; refine (isInteger_yes _ _ Ha.out).mono ?_; rintro e w' ⟨rfl, rfl⟩) | (go_at_call 121; refine (isNatural_no _ _ Hb.out).mono ?_; rintro e w' ⟨rfl, rfl⟩))
    go_ret
    exact ⟨rfl, (by repeat (first | exact Below.refl _ _ | apply below_drewN | apply Below.drew | (refine Below.setCell ?_ (by simp) _) | (refine Below.alloc ?_ (by first | exact Nat.le_refl _ | simp) _)))⟩
  have ia := intB_true.1 ha
  have ib := natB_true.1 hb
  by_cases hg : (Int.gcd a b : Int) = 1
  · have E : fracB a b = true := by simp [fracB, ha, hb]; omega
    have T : ((Int.gcd a b : Int) == 1) = true := by simpa using hg
    rw [E]
    have Ha := Lib.hid ha
    have Hb := Lib.hid hb
    clear ha hb E hg
    go_enter Try.func107, Try.ntmps107
    go_wp2_with (first | (go_at_call 120; refine (isInteger_yes _ _ Ha.out).mono ?_; rintro e w' ⟨rfl, rfl⟩) | (go_at_call 121; refine (isNatural_yes _ _ Hb.out).mono ?_; rintro e w' ⟨rfl, rfl⟩) | (go_at_call 122; refine (greatest_any _ _ _ (by omega) (by omega) (by omega) (by omega)).mono ?_; rintro e w' ⟨rfl, nd, rfl⟩))
    go_ret
    exact ⟨rfl, (by repeat (first | exact Below.refl _ _ | apply below_drewN | apply Below.drew | (refine Below.setCell ?_ (by simp) _) | (refine Below.alloc ?_ (by first | exact Nat.le_refl _ | simp) _)))⟩
  · have E : fracB a b = false := by simp [fracB, ha, hb]; omega
    have T : ((Int.gcd a b : Int) == 1) = false := by simpa using hg
    rw [E]
    have Ha := Lib.hid ha
    have Hb := Lib.hid hb
    clear ha hb E hg
    go_enter Try.func107, Try.ntmps107
    go_wp2_with (first | (go_at_call 120; refine (isInteger_yes _ _ Ha.out).mono ?_; rintro e w' ⟨rfl, rfl⟩) | (go_at_call 121; refine (isNatural_yes _ _ Hb.out).mono ?_; rintro e w' ⟨rfl, rfl⟩) | (go_at_call 122; refine (greatest_any _ _ _ (by omega) (by omega) (by omega) (by omega)).mono ?_; rintro e w' ⟨rfl, nd, rfl⟩))
    go_ret
    exact ⟨rfl, (by repeat (first | exact Below.refl _ _ | apply below_drewN | apply Below.drew | (refine Below.setCell ?_ (by simp) _) | (refine Below.alloc ?_ (by first | exact Nat.le_refl _ | simp) _)))⟩

theorem isFraction_yes (a b : Int) (w : World) (h : fracB a b = true) :
    Calls Try.prog 107 #[.agg #[.int .i64 a, .int .i64 b]] w fun e w' => e = .returned (.bool true) ∧ Below w.heap.size w w' := by
  have := isFraction_any a b w; rwa [h] at this
theorem isFraction_no (a b : Int) (w : World) (h : fracB a b = false) :
    Calls Try.prog 107 #[.agg #[.int .i64 a, .int .i64 b]] w fun e w' => e = .returned (.bool false) ∧ Below w.heap.size w w' := by
  have := isFraction_any a b w; rwa [h] at this

end Go.Proofs.Ytoebbhicffgdgaa
/- Fractions: contracts of spec.l01Make, spec.l01Fraction, spec.l01Fit, impl's methods reduced, isFraction and limited, and of laws.eqFraction and laws.toFraction. Conditions: stated at each theorem. -/
namespace Go.Proofs.Ytoebbhicffgdgaa
open Go.ChangeShapes Go.WideShapes Go.ChangeAt Go.RowKit Go.Joins
set_option linter.unusedVariables false

/-- Top and bottom of a / b in lowest terms, with the bottom's sign carried to the top. -/
def mkT (a b : Int) : Int := if b < 0 then -(a.tdiv (Int.gcd a b)) else a.tdiv (Int.gcd a b)
def mkB (a b : Int) : Int := if b < 0 then -(b.tdiv (Int.gcd a b)) else b.tdiv (Int.gcd a b)
theorem gcd_pos (a b : Int) (h : b ≠ 0) : 1 ≤ (Int.gcd a b : Int) := by
  have : 0 < Int.gcd a b := Int.gcd_pos_of_ne_zero_right a h
  omega
theorem gcd_leF (a b : Int) (h : b ≠ 0) : (Int.gcd a b : Int) ≤ b.natAbs := by
  have : Int.gcd a b ∣ b.natAbs := Int.gcd_dvd_natAbs_right a b
  have := Nat.le_of_dvd (by omega) this
  omega
theorem tdiv_in (a d M : Int) (h1 : -M ≤ a) (h2 : a ≤ M) : -M ≤ a.tdiv d ∧ a.tdiv d ≤ M := by
  have h : (a.tdiv d).natAbs ≤ a.natAbs := by rw [Int.natAbs_tdiv]; exact Nat.div_le_self _ _
  omega

theorem agg_int {a b c d : Int} (h : a = c) (k : b = d) : Ending.returned (.agg #[.int .i64 a, .int .i64 b]) = Ending.returned (.agg #[.int .i64 c, .int .i64 d]) := by rw [h, k]
theorem mk_in (a b M : Int) (ha : -M ≤ a ∧ a ≤ M) (hb : -M ≤ b ∧ b ≤ M) : (-M ≤ mkT a b ∧ mkT a b ≤ M) ∧ (-M ≤ mkB a b ∧ mkB a b ≤ M) := by
  have h1 := tdiv_in a (Int.gcd a b) M ha.1 ha.2
  have h2 := tdiv_in b (Int.gcd a b) M hb.1 hb.2
  unfold mkT mkB
  split <;> omega

theorem l01Make_any (a b : Int) (w : World) (ha1 : -4000000000000000000 ≤ a) (ha2 : a ≤ 4000000000000000000) (hb1 : -4000000000000000000 ≤ b) (hb2 : b ≤ 4000000000000000000) (hb0 : b ≠ 0) :
    Calls Try.prog 87 #[.int .i64 a, .int .i64 b] w fun e w' => e = .returned (.agg #[.int .i64 (mkT a b), .int .i64 (mkB a b)]) ∧ Below w.heap.size w w' := by
  have g1 := gcd_pos a b hb0
  have g2 := gcd_leF a b hb0
  have q1 := tdiv_in a (Int.gcd a b : Int) _ ha1 ha2
  have q2 := tdiv_in b (Int.gcd a b : Int) _ hb1 hb2
  by_cases hb : b < 0
  · have e1 : Hid (-(a.tdiv (Int.gcd a b : Int)) = mkT a b) := Lib.hid (by simp [mkT, hb])
    have e2 : Hid (-(b.tdiv (Int.gcd a b : Int)) = mkB a b) := Lib.hid (by simp [mkB, hb])
    go_enter Try.func87, Try.ntmps87
    go_wp2_with (go_at_call 97; refine (l01Gcd_any _ _ _ (by omega) (by omega) (by omega) (by omega)).mono ?_; rintro e w' ⟨rfl, rfl⟩)
    go_region
    all_goals go_wp2
    all_goals exact bodyPost_ret (v := .agg #[.int .i64 (-(a.tdiv (Int.gcd a b : Int))), .int .i64 (-(b.tdiv (Int.gcd a b : Int)))]) (by simp [results, Try.results87, go_sem]) rfl ⟨agg_int e1.out e2.out, ((Below.refl _ _).alloc (Nat.le_refl _) _).drew⟩
  · have e1 : Hid (a.tdiv (Int.gcd a b : Int) = mkT a b) := Lib.hid (by simp [mkT, hb])
    have e2 : Hid (b.tdiv (Int.gcd a b : Int) = mkB a b) := Lib.hid (by simp [mkB, hb])
    go_enter Try.func87, Try.ntmps87
    go_wp2_with (go_at_call 97; refine (l01Gcd_any _ _ _ (by omega) (by omega) (by omega) (by omega)).mono ?_; rintro e w' ⟨rfl, rfl⟩)
    go_region
    all_goals go_wp2
    all_goals exact bodyPost_ret (v := .agg #[.int .i64 (a.tdiv (Int.gcd a b : Int)), .int .i64 (b.tdiv (Int.gcd a b : Int))]) (by simp [results, Try.results87, go_sem]) rfl ⟨agg_int e1.out e2.out, ((Below.refl _ _).alloc (Nat.le_refl _) _).drew⟩

theorem reduced_any (a b : Int) (w : World) (ha1 : -4000000000000000000 ≤ a) (ha2 : a ≤ 4000000000000000000) (hb1 : -4000000000000000000 ≤ b) (hb2 : b ≤ 4000000000000000000) (hb0 : b ≠ 0) :
    Calls Try.prog 123 #[.agg #[.int .i64 a, .int .i64 b]] w fun e w' => e = .returned (.agg #[.int .i64 (mkT a b), .int .i64 (mkB a b)]) ∧ Below w.heap.size w w' := by
  have g1 := gcd_pos a b hb0
  have g2 := gcd_leF a b hb0
  have q1 := tdiv_in a (Int.gcd a b : Int) _ ha1 ha2
  have q2 := tdiv_in b (Int.gcd a b : Int) _ hb1 hb2
  by_cases hb : b < 0
  · have e1 : Hid (-(a.tdiv (Int.gcd a b : Int)) = mkT a b) := Lib.hid (by simp [mkT, hb])
    have e2 : Hid (-(b.tdiv (Int.gcd a b : Int)) = mkB a b) := Lib.hid (by simp [mkB, hb])
    go_enter Try.func123, Try.ntmps123
    go_wp2_with (go_at_call 122; refine (greatest_any _ _ _ (by omega) (by omega) (by omega) (by omega)).mono ?_; rintro e w' ⟨rfl, nd, rfl⟩)
    go_region
    all_goals go_wp2
    all_goals exact bodyPost_ret (v := .agg #[.int .i64 (-(a.tdiv (Int.gcd a b : Int))), .int .i64 (-(b.tdiv (Int.gcd a b : Int)))]) (by simp [results, Try.results123, go_sem]) rfl ⟨agg_int e1.out e2.out, (by repeat (first | exact Below.refl _ _ | apply below_drewN | apply Below.drew | (refine Below.setCell ?_ (by simp) _) | (refine Below.alloc ?_ (by first | exact Nat.le_refl _ | simp) _)))⟩
  · have e1 : Hid (a.tdiv (Int.gcd a b : Int) = mkT a b) := Lib.hid (by simp [mkT, hb])
    have e2 : Hid (b.tdiv (Int.gcd a b : Int) = mkB a b) := Lib.hid (by simp [mkB, hb])
    go_enter Try.func123, Try.ntmps123
    go_wp2_with (go_at_call 122; refine (greatest_any _ _ _ (by omega) (by omega) (by omega) (by omega)).mono ?_; rintro e w' ⟨rfl, nd, rfl⟩)
    go_region
    all_goals go_wp2
    all_goals exact bodyPost_ret (v := .agg #[.int .i64 (a.tdiv (Int.gcd a b : Int)), .int .i64 (b.tdiv (Int.gcd a b : Int))]) (by simp [results, Try.results123, go_sem]) rfl ⟨agg_int e1.out e2.out, (by repeat (first | exact Below.refl _ _ | apply below_drewN | apply Below.drew | (refine Below.setCell ?_ (by simp) _) | (refine Below.alloc ?_ (by first | exact Nat.le_refl _ | simp) _)))⟩

end Go.Proofs.Ytoebbhicffgdgaa
/- Fractions that are made, fitted and compared: contracts of spec.l01Fit, impl's limited, spec's and impl's MakeFraction, AddFractions and MultiplyFractions, laws.eqFraction and laws.toFraction. Conditions: stated at each theorem. -/
namespace Go.Proofs.Ytoebbhicffgdgaa
open Go.ChangeShapes Go.WideShapes Go.ChangeAt Go.RowKit Go.Joins
set_option linter.unusedVariables false

theorem eqFraction_same (a b : Int) (w : World) :
    Calls Try.prog 60 #[.agg #[.int .i64 a, .int .i64 b], .agg #[.int .i64 a, .int .i64 b]] w fun e w' => e = .returned (.bool true) ∧ Below w.heap.size w w' := by
  go_enter Try.func60, Try.ntmps60
  go_wp2
  go_ret
  exact ⟨rfl, (by repeat (first | exact Below.refl _ _ | apply below_drewN | apply Below.drew | (refine Below.setCell ?_ (by first | (simp; done) | (simp; omega) | omega) _) | (refine Below.alloc ?_ (by first | exact Nat.le_refl _ | (simp; done) | (simp; omega) | omega) _)))⟩

theorem lt_of_size {n m : Nat} (h : n + 1 + 1 ≤ m) : n < m := by omega
theorem lt_of_size1 {n m : Nat} (h : n + 1 + 1 ≤ m) : n + 1 < m := by omega
def fitTF (a b : Int) : Int := if fracB a b then a else 0
def fitBF (a b : Int) : Int := if fracB a b then b else 0
def fitCF (a b : Int) : Int := if fracB a b then 0 else 3
end Go.Proofs.Ytoebbhicffgdgaa
/- MakeFraction, AddFractions and MultiplyFractions, the model's and the program's, and impl's limited: contracts. Conditions: stated at each theorem. -/
namespace Go.Proofs.Ytoebbhicffgdgaa
open Go.ChangeShapes Go.WideShapes Go.ChangeAt Go.RowKit Go.Joins
set_option linter.unusedVariables false

theorem hide {p : Prop} (h : p) : Hid p := h
theorem unhide {p : Prop} (h : Hid p) : p := h
theorem limited_any (a b : Int) (w : World) (ha1 : -4000000000000000000 ≤ a) (ha2 : a ≤ 4000000000000000000) (hb1' : -4000000000000000000 ≤ b) (hb2' : b ≤ 4000000000000000000) (hb0 : b ≠ 0) :
    Calls Try.prog 108 #[.agg #[.int .i64 a, .int .i64 b]] w fun e w' => e = .returned (.tuple #[.agg #[.int .i64 (fitTF (mkT a b) (mkB a b)), .int .i64 (fitBF (mkT a b) (mkB a b))], .int .i64 (fitCF (mkT a b) (mkB a b))]) ∧ Below w.heap.size w w' := by
  have R := fun W => hide (reduced_any a b W ha1 ha2 hb1' hb2' hb0)
  cases h : fracB (mkT a b) (mkB a b)
  · have e1 : fitTF (mkT a b) (mkB a b) = 0 := by simp [fitTF, h]
    have e2 : fitBF (mkT a b) (mkB a b) = 0 := by simp [fitBF, h]
    have e3 : fitCF (mkT a b) (mkB a b) = 3 := by simp [fitCF, h]
    rw [e1, e2, e3]
    have H := Lib.hid h
    clear h e1 e2 e3
    go_enter Try.func108, Try.ntmps108
    go_wp2_with (first | (go_at_call 123; (first | (with_reducible refine (unhide (R _)).mono ?_)); rintro e w1 ⟨rfl, hb1⟩; obtain ⟨hc1, hf1⟩ := bcell hb1; have hz1 := hb1.size; (try simp at hz1); (try have hk1_0 : w.heap.size < w1.heap.size := by omega); (try have hk1_1 : w.heap.size + 1 < w1.heap.size := by omega); (try have hk1_2 : w.heap.size + 2 < w1.heap.size := by omega)) | (go_at_call 107; (first | (with_reducible refine (isFraction_no _ _ _ H.out).mono ?_)); rintro e w2 ⟨rfl, hb2⟩; obtain ⟨hc2, hf2⟩ := bcell hb2; have hz2 := hb2.size; (try simp at hz2); (try have hk2_0 : w.heap.size < w2.heap.size := by omega); (try have hk2_1 : w.heap.size + 1 < w2.heap.size := by omega); (try have hk2_2 : w.heap.size + 2 < w2.heap.size := by omega); (try have hl2_1 : w1.heap.size < w2.heap.size := by omega)))
    exact bodyPost_ret (v := .tuple #[.agg #[.int .i64 (0), .int .i64 (0)], .int .i64 (3)]) (by simp [results, Try.results108, go_sem, *]) rfl ⟨rfl, (by repeat (first | exact Below.refl _ _ | apply below_drewN | apply Below.drew | (refine Below.setCell ?_ (by first | (simp; done) | (simp; omega) | omega) _) | (refine Below.alloc ?_ (by first | exact Nat.le_refl _ | (simp; done) | (simp; omega) | omega) _) | (refine Below.trans ?_ (hb2.mono (by first | exact Nat.le_refl _ | (simp; done) | (simp; omega) | omega))) | (refine Below.trans ?_ (hb1.mono (by first | exact Nat.le_refl _ | (simp; done) | (simp; omega) | omega)))))⟩
  · have e1 : fitTF (mkT a b) (mkB a b) = mkT a b := by simp [fitTF, h]
    have e2 : fitBF (mkT a b) (mkB a b) = mkB a b := by simp [fitBF, h]
    have e3 : fitCF (mkT a b) (mkB a b) = 0 := by simp [fitCF, h]
    rw [e1, e2, e3]
    have H := Lib.hid h
    clear h e1 e2 e3
    go_enter Try.func108, Try.ntmps108
    go_wp2_with (first | (go_at_call 123; (first | (with_reducible refine (unhide (R _)).mono ?_)); rintro e w1 ⟨rfl, hb1⟩; obtain ⟨hc1, hf1⟩ := bcell hb1; have hz1 := hb1.size; (try simp at hz1); (try have hk1_0 : w.heap.size < w1.heap.size := by omega); (try have hk1_1 : w.heap.size + 1 < w1.heap.size := by omega); (try have hk1_2 : w.heap.size + 2 < w1.heap.size := by omega)) | (go_at_call 107; (first | (with_reducible refine (isFraction_yes _ _ _ H.out).mono ?_)); rintro e w2 ⟨rfl, hb2⟩; obtain ⟨hc2, hf2⟩ := bcell hb2; have hz2 := hb2.size; (try simp at hz2); (try have hk2_0 : w.heap.size < w2.heap.size := by omega); (try have hk2_1 : w.heap.size + 1 < w2.heap.size := by omega); (try have hk2_2 : w.heap.size + 2 < w2.heap.size := by omega); (try have hl2_1 : w1.heap.size < w2.heap.size := by omega)))
    exact bodyPost_ret (v := .tuple #[.agg #[.int .i64 (mkT a b), .int .i64 (mkB a b)], .int .i64 (0)]) (by simp [results, Try.results108, go_sem, *]) rfl ⟨rfl, (by repeat (first | exact Below.refl _ _ | apply below_drewN | apply Below.drew | (refine Below.setCell ?_ (by first | (simp; done) | (simp; omega) | omega) _) | (refine Below.alloc ?_ (by first | exact Nat.le_refl _ | (simp; done) | (simp; omega) | omega) _) | (refine Below.trans ?_ (hb2.mono (by first | exact Nat.le_refl _ | (simp; done) | (simp; omega) | omega))) | (refine Below.trans ?_ (hb1.mono (by first | exact Nat.le_refl _ | (simp; done) | (simp; omega) | omega)))))⟩

/-- MakeFraction's three answers. -/
def mfT (a b : Int) : Int := if intB a && intB b && decide (b ≠ 0) then mkT a b else 0
def mfB (a b : Int) : Int := if intB a && intB b && decide (b ≠ 0) then mkB a b else 0
def mfC (a b : Int) : Int := if intB a && intB b then (if b = 0 then 5 else 0) else 2
theorem bool_ff (b : Bool) : b = false ∨ b = true := by cases b <;> simp
theorem prod_in {a d : Int} (ha : -1000000000 ≤ a ∧ a ≤ 1000000000) (hd : -1000000000 ≤ d ∧ d ≤ 1000000000) : -1000000000000000000 ≤ a * d ∧ a * d ≤ 1000000000000000000 := by
  have h : (a * d).natAbs ≤ 1000000000 * 1000000000 := by
    rw [Int.natAbs_mul]; exact Nat.mul_le_mul (by omega) (by omega)
  omega
theorem prod_pos {b d : Int} (hb : 1 ≤ b) (hd : 1 ≤ d) : 1 ≤ b * d := by
  have := Int.mul_pos (show 0 < b by omega) (show 0 < d by omega); omega
/-- The answer of a sum or product whose numerator and denominator are x and y: P tells whether both arguments are fractions. -/
def opT (P : Bool) (x y : Int) : Int := if P then fitTF (mkT x y) (mkB x y) else 0
def opB (P : Bool) (x y : Int) : Int := if P then fitBF (mkT x y) (mkB x y) else 0
def opC (P : Bool) (x y : Int) : Int := if P then fitCF (mkT x y) (mkB x y) else 1
theorem implAddFractions_any (a b c d : Int) (w : World) :
    Calls Try.prog 86 #[.agg #[.int .i64 a, .int .i64 b], .agg #[.int .i64 c, .int .i64 d]] w fun e w' => e = .returned (.tuple #[.agg #[.int .i64 (opT (fracB a b && fracB c d) (a * d + c * b) (b * d)), .int .i64 (opB (fracB a b && fracB c d) (a * d + c * b) (b * d))], .int .i64 (opC (fracB a b && fracB c d) (a * d + c * b) (b * d))]) ∧ Below w.heap.size w w' := by
  rcases bool_ff (fracB a b) with hf | hf
  · have e1 : opT (fracB a b && fracB c d) (a * d + c * b) (b * d) = 0 := by simp [opT, *]
    have e2 : opB (fracB a b && fracB c d) (a * d + c * b) (b * d) = 0 := by simp [opB, *]
    have e3 : opC (fracB a b && fracB c d) (a * d + c * b) (b * d) = 1 := by simp [opC, *]
    rw [e1, e2, e3]
    have Hf := Lib.hid hf; clear hf
    clear e1 e2 e3
    go_enter Try.func86, Try.ntmps86
    go_wp2_with (go_at_call 107; (first | (with_reducible refine (isFraction_no a b _ Hf.out).mono ?_)); rintro e w1 ⟨rfl, hb1⟩; obtain ⟨hc1, hf1⟩ := bcell hb1; have hz1 := hb1.size; (try simp at hz1); (try have hk1_0 : w.heap.size < w1.heap.size := by omega); (try have hk1_1 : w.heap.size + 1 < w1.heap.size := by omega); (try have hk1_2 : w.heap.size + 2 < w1.heap.size := by omega))
    exact bodyPost_ret (v := .tuple #[.agg #[.int .i64 (0), .int .i64 (0)], .int .i64 (1)]) (by simp [results, Try.results86, go_sem, *]) rfl ⟨rfl, (by repeat (first | exact Below.refl _ _ | apply below_drewN | apply Below.drew | (refine Below.setCell ?_ (by first | (simp; done) | (simp; omega) | omega) _) | (refine Below.alloc ?_ (by first | exact Nat.le_refl _ | (simp; done) | (simp; omega) | omega) _) | (refine Below.trans ?_ (hb1.mono (by first | exact Nat.le_refl _ | (simp; done) | (simp; omega) | omega)))))⟩
  rcases bool_ff (fracB c d) with hg | hg
  · have e1 : opT (fracB a b && fracB c d) (a * d + c * b) (b * d) = 0 := by simp [opT, *]
    have e2 : opB (fracB a b && fracB c d) (a * d + c * b) (b * d) = 0 := by simp [opB, *]
    have e3 : opC (fracB a b && fracB c d) (a * d + c * b) (b * d) = 1 := by simp [opC, *]
    rw [e1, e2, e3]
    have Hf := Lib.hid hf; clear hf; have Hg := Lib.hid hg; clear hg
    clear e1 e2 e3
    go_enter Try.func86, Try.ntmps86
    go_wp2_with (first | (go_at_call 107; (first | (with_reducible refine (isFraction_yes a b _ Hf.out).mono ?_)); rintro e w1 ⟨rfl, hb1⟩; obtain ⟨hc1, hf1⟩ := bcell hb1; have hz1 := hb1.size; (try simp at hz1); (try have hk1_0 : w.heap.size < w1.heap.size := by omega); (try have hk1_1 : w.heap.size + 1 < w1.heap.size := by omega); (try have hk1_2 : w.heap.size + 2 < w1.heap.size := by omega)) | (go_at_call 107; (first | (with_reducible refine (isFraction_no c d _ Hg.out).mono ?_)); rintro e w2 ⟨rfl, hb2⟩; obtain ⟨hc2, hf2⟩ := bcell hb2; have hz2 := hb2.size; (try simp at hz2); (try have hk2_0 : w.heap.size < w2.heap.size := by omega); (try have hk2_1 : w.heap.size + 1 < w2.heap.size := by omega); (try have hk2_2 : w.heap.size + 2 < w2.heap.size := by omega); (try have hl2_1 : w1.heap.size < w2.heap.size := by omega)))
    exact bodyPost_ret (v := .tuple #[.agg #[.int .i64 (0), .int .i64 (0)], .int .i64 (1)]) (by simp [results, Try.results86, go_sem, *]) rfl ⟨rfl, (by repeat (first | exact Below.refl _ _ | apply below_drewN | apply Below.drew | (refine Below.setCell ?_ (by first | (simp; done) | (simp; omega) | omega) _) | (refine Below.alloc ?_ (by first | exact Nat.le_refl _ | (simp; done) | (simp; omega) | omega) _) | (refine Below.trans ?_ (hb2.mono (by first | exact Nat.le_refl _ | (simp; done) | (simp; omega) | omega))) | (refine Below.trans ?_ (hb1.mono (by first | exact Nat.le_refl _ | (simp; done) | (simp; omega) | omega)))))⟩
  · obtain ⟨i1, i2, _⟩ := fracB_true.1 hf
    obtain ⟨i3, i4, _⟩ := fracB_true.1 hg
    have m1 := prod_in i1 (show -1000000000 ≤ d ∧ d ≤ 1000000000 by omega)
    have m2 := prod_in i3 (show -1000000000 ≤ b ∧ b ≤ 1000000000 by omega)
    have m3 := prod_in (show -1000000000 ≤ b ∧ b ≤ 1000000000 by omega) (show -1000000000 ≤ d ∧ d ≤ 1000000000 by omega)
    have m4 := prod_pos i2.1 i4.1
    have m5 := prod_in i1 i3
    have e1 : opT (fracB a b && fracB c d) (a * d + c * b) (b * d) = fitTF (mkT (a * d + c * b) (b * d)) (mkB (a * d + c * b) (b * d)) := by simp [opT, *]
    have e2 : opB (fracB a b && fracB c d) (a * d + c * b) (b * d) = fitBF (mkT (a * d + c * b) (b * d)) (mkB (a * d + c * b) (b * d)) := by simp [opB, *]
    have e3 : opC (fracB a b && fracB c d) (a * d + c * b) (b * d) = fitCF (mkT (a * d + c * b) (b * d)) (mkB (a * d + c * b) (b * d)) := by simp [opC, *]
    rw [e1, e2, e3]
    have Hf := Lib.hid hf; clear hf; have Hg := Lib.hid hg; clear hg; have R := fun W => hide (limited_any (a * d + c * b) (b * d) W (by omega) (by omega) (by omega) (by omega) (by omega))
    clear e1 e2 e3
    go_enter Try.func86, Try.ntmps86
    go_wp2_with (first | (go_at_call 107; (first | (with_reducible refine (isFraction_yes a b _ Hf.out).mono ?_)); rintro e w1 ⟨rfl, hb1⟩; obtain ⟨hc1, hf1⟩ := bcell hb1; have hz1 := hb1.size; (try simp at hz1); (try have hk1_0 : w.heap.size < w1.heap.size := by omega); (try have hk1_1 : w.heap.size + 1 < w1.heap.size := by omega); (try have hk1_2 : w.heap.size + 2 < w1.heap.size := by omega)) | (go_at_call 107; (first | (with_reducible refine (isFraction_yes c d _ Hg.out).mono ?_)); rintro e w2 ⟨rfl, hb2⟩; obtain ⟨hc2, hf2⟩ := bcell hb2; have hz2 := hb2.size; (try simp at hz2); (try have hk2_0 : w.heap.size < w2.heap.size := by omega); (try have hk2_1 : w.heap.size + 1 < w2.heap.size := by omega); (try have hk2_2 : w.heap.size + 2 < w2.heap.size := by omega); (try have hl2_1 : w1.heap.size < w2.heap.size := by omega)) | (go_at_call 108; (first | (with_reducible refine (unhide (R _)).mono ?_)); rintro e w3 ⟨rfl, hb3⟩; obtain ⟨hc3, hf3⟩ := bcell hb3; have hz3 := hb3.size; (try simp at hz3); (try have hk3_0 : w.heap.size < w3.heap.size := by omega); (try have hk3_1 : w.heap.size + 1 < w3.heap.size := by omega); (try have hk3_2 : w.heap.size + 2 < w3.heap.size := by omega); (try have hl3_1 : w1.heap.size < w3.heap.size := by omega); (try have hl3_2 : w2.heap.size < w3.heap.size := by omega)))
    exact bodyPost_ret (v := .tuple #[.agg #[.int .i64 (fitTF (mkT (a * d + c * b) (b * d)) (mkB (a * d + c * b) (b * d))), .int .i64 (fitBF (mkT (a * d + c * b) (b * d)) (mkB (a * d + c * b) (b * d)))], .int .i64 (fitCF (mkT (a * d + c * b) (b * d)) (mkB (a * d + c * b) (b * d)))]) (by simp [results, Try.results86, go_sem, *]) rfl ⟨rfl, (by repeat (first | exact Below.refl _ _ | apply below_drewN | apply Below.drew | (refine Below.setCell ?_ (by first | (simp; done) | (simp; omega) | omega) _) | (refine Below.alloc ?_ (by first | exact Nat.le_refl _ | (simp; done) | (simp; omega) | omega) _) | (refine Below.trans ?_ (hb3.mono (by first | exact Nat.le_refl _ | (simp; done) | (simp; omega) | omega))) | (refine Below.trans ?_ (hb2.mono (by first | exact Nat.le_refl _ | (simp; done) | (simp; omega) | omega))) | (refine Below.trans ?_ (hb1.mono (by first | exact Nat.le_refl _ | (simp; done) | (simp; omega) | omega)))))⟩
end Go.Proofs.Ytoebbhicffgdgaa
