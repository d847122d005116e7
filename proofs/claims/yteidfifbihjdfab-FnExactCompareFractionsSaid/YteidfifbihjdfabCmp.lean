/- Comparing fractions, the model's and the program's: contracts. Conditions: stated at each theorem. -/
import Derived.Test.YteidfifbihjdfabFracIs
import Derived.IntWalk
namespace Go.Proofs.Yteidfifbihjdfab
open Go.ChangeShapes Go.WideShapes Go.ChangeAt Go.RowKit Go.Joins
set_option linter.unusedVariables false
theorem bool_ff (b : Bool) : b = false ∨ b = true := by cases b <;> simp
theorem prod_in {a d : Int} (ha : -1000000000 ≤ a ∧ a ≤ 1000000000) (hd : -1000000000 ≤ d ∧ d ≤ 1000000000) : -1000000000000000000 ≤ a * d ∧ a * d ≤ 1000000000000000000 := by
  have h : (a * d).natAbs ≤ 1000000000 * 1000000000 := by
    rw [Int.natAbs_mul]; exact Nat.mul_le_mul (by omega) (by omega)
  omega
def cmpA (a b c d : Int) : Int := if fracB a b && fracB c d then (if a * d < c * b then -1 else if a * d > c * b then 1 else 0) else 0
def cmpC (a b c d : Int) : Int := if fracB a b && fracB c d then 0 else 1

theorem specCompareFractions_any (a b c d : Int) (w : World) :
    Calls Try.prog 4 #[.agg #[.int .i64 a, .int .i64 b], .agg #[.int .i64 c, .int .i64 d]] w fun e w' => e = .returned (.tuple #[.int .i64 (cmpA a b c d), .int .i64 (cmpC a b c d)]) ∧ Below w.heap.size w w' := by
  rcases bool_ff (fracB a b) with hf | hf
  · have e1 : cmpA a b c d = 0 := by simp [cmpA, *]
    have e2 : cmpC a b c d = 1 := by simp [cmpC, *]
    rw [e1, e2]
    clear e1 e2
    have Hf := Lib.hid hf; clear hf
    go_enter Try.func4, Try.ntmps4
    go_wp2_with (go_at_call 7; (first | (with_reducible refine (l01Fraction_no a b _ Hf.out).mono ?_)); rintro e w1 ⟨rfl, hb1⟩; obtain ⟨hc1, hf1⟩ := bcell hb1; have hz1 := hb1.size; (try simp at hz1); (try have hk1_0 : w.heap.size < w1.heap.size := by omega); (try have hk1_1 : w.heap.size + 1 < w1.heap.size := by omega); (try have hk1_2 : w.heap.size + 2 < w1.heap.size := by omega))
    go_ret2
    exact ⟨rfl, (by repeat (first | exact Below.refl _ _ | apply below_drewN | apply Below.drew | (refine Below.setCell ?_ (by first | (simp; done) | (simp; omega) | omega) _) | (refine Below.alloc ?_ (by first | exact Nat.le_refl _ | (simp; done) | (simp; omega) | omega) _) | (refine Below.trans ?_ (hb1.mono (by first | exact Nat.le_refl _ | (simp; done) | (simp; omega) | omega)))))⟩
  rcases bool_ff (fracB c d) with hg | hg
  · have e1 : cmpA a b c d = 0 := by simp [cmpA, *]
    have e2 : cmpC a b c d = 1 := by simp [cmpC, *]
    rw [e1, e2]
    clear e1 e2
    have Hf := Lib.hid hf; clear hf
    have Hg := Lib.hid hg; clear hg
    go_enter Try.func4, Try.ntmps4
    go_wp2_with (first | (go_at_call 7; (first | (with_reducible refine (l01Fraction_yes a b _ Hf.out).mono ?_)); rintro e w1 ⟨rfl, hb1⟩; obtain ⟨hc1, hf1⟩ := bcell hb1; have hz1 := hb1.size; (try simp at hz1); (try have hk1_0 : w.heap.size < w1.heap.size := by omega); (try have hk1_1 : w.heap.size + 1 < w1.heap.size := by omega); (try have hk1_2 : w.heap.size + 2 < w1.heap.size := by omega)) | (go_at_call 7; (first | (with_reducible refine (l01Fraction_no c d _ Hg.out).mono ?_)); rintro e w2 ⟨rfl, hb2⟩; obtain ⟨hc2, hf2⟩ := bcell hb2; have hz2 := hb2.size; (try simp at hz2); (try have hk2_0 : w.heap.size < w2.heap.size := by omega); (try have hk2_1 : w.heap.size + 1 < w2.heap.size := by omega); (try have hk2_2 : w.heap.size + 2 < w2.heap.size := by omega)))
    go_ret2
    exact ⟨rfl, (by repeat (first | exact Below.refl _ _ | apply below_drewN | apply Below.drew | (refine Below.setCell ?_ (by first | (simp; done) | (simp; omega) | omega) _) | (refine Below.alloc ?_ (by first | exact Nat.le_refl _ | (simp; done) | (simp; omega) | omega) _) | (refine Below.trans ?_ (hb2.mono (by first | exact Nat.le_refl _ | (simp; done) | (simp; omega) | omega))) | (refine Below.trans ?_ (hb1.mono (by first | exact Nat.le_refl _ | (simp; done) | (simp; omega) | omega)))))⟩
  obtain ⟨i1, i2, _⟩ := fracB_true.1 hf
  obtain ⟨i3, i4, _⟩ := fracB_true.1 hg
  have m1 := prod_in i1 (show -1000000000 ≤ d ∧ d ≤ 1000000000 by omega)
  have m2 := prod_in i3 (show -1000000000 ≤ b ∧ b ≤ 1000000000 by omega)
  have E : cmpC a b c d = 0 := by simp [cmpC, *]
  rcases (show a * d < c * b ∨ (a * d = c * b ∨ a * d > c * b) by omega) with h | h | h
  · have e1 : cmpA a b c d = -1 := by unfold cmpA; rw [if_pos (by simp [*]), if_pos h]
    rw [e1, E]
    clear e1 E
    have Hf := Lib.hid hf; clear hf
    have Hg := Lib.hid hg; clear hg
    go_enter Try.func4, Try.ntmps4
    go_wp2_with (first | (go_at_call 7; (first | (with_reducible refine (l01Fraction_yes a b _ Hf.out).mono ?_)); rintro e w1 ⟨rfl, hb1⟩; obtain ⟨hc1, hf1⟩ := bcell hb1; have hz1 := hb1.size; (try simp at hz1); (try have hk1_0 : w.heap.size < w1.heap.size := by omega); (try have hk1_1 : w.heap.size + 1 < w1.heap.size := by omega); (try have hk1_2 : w.heap.size + 2 < w1.heap.size := by omega)) | (go_at_call 7; (first | (with_reducible refine (l01Fraction_yes c d _ Hg.out).mono ?_)); rintro e w2 ⟨rfl, hb2⟩; obtain ⟨hc2, hf2⟩ := bcell hb2; have hz2 := hb2.size; (try simp at hz2); (try have hk2_0 : w.heap.size < w2.heap.size := by omega); (try have hk2_1 : w.heap.size + 1 < w2.heap.size := by omega); (try have hk2_2 : w.heap.size + 2 < w2.heap.size := by omega)))
    have u0 : w2.cell? ⟨w.heap.size, 0, none⟩ = some (.int .i64 a) := by rw [hc2 _ _ (by omega), hc1 _ _ (by first | (simp; done) | (simp; omega))]; go_simp
    have u1 : w2.cell? ⟨w.heap.size, 1, none⟩ = some (.int .i64 b) := by rw [hc2 _ _ (by omega), hc1 _ _ (by first | (simp; done) | (simp; omega))]; go_simp
    have u2 : w2.cell? ⟨w.heap.size + 1, 0, none⟩ = some (.int .i64 c) := by rw [hc2 _ _ (by omega), hc1 _ _ (by first | (simp; done) | (simp; omega))]; go_simp
    have u3 : w2.cell? ⟨w.heap.size + 1, 1, none⟩ = some (.int .i64 d) := by rw [hc2 _ _ (by omega), hc1 _ _ (by first | (simp; done) | (simp; omega))]; go_simp
    have p1 : IntKind.i64.wrap (a * d) = a * d := IntWalk.i64_in _ (by omega)
    have p2 : IntKind.i64.wrap (c * b) = c * b := IntWalk.i64_in _ (by omega)
    clear hc1 hc2 hf1 hf2
    go_quiet (fail)
    clear p1 p2
    go_wp2
    go_ret2
    exact ⟨rfl, (by repeat (first | exact Below.refl _ _ | apply below_drewN | apply Below.drew | (refine Below.setCell ?_ (by first | (simp; done) | (simp; omega) | omega) _) | (refine Below.alloc ?_ (by first | exact Nat.le_refl _ | (simp; done) | (simp; omega) | omega) _) | (refine Below.trans ?_ (hb2.mono (by first | exact Nat.le_refl _ | (simp; done) | (simp; omega) | omega))) | (refine Below.trans ?_ (hb1.mono (by first | exact Nat.le_refl _ | (simp; done) | (simp; omega) | omega)))))⟩
  · have e1 : cmpA a b c d = 0 := by unfold cmpA; rw [if_pos (by simp [*]), if_neg (by omega), if_neg (by omega)]
    have h1 : a * d ≤ c * b := by omega
    have h2 : c * b ≤ a * d := by omega
    rw [e1, E]
    clear e1 E h
    have Hf := Lib.hid hf; clear hf
    have Hg := Lib.hid hg; clear hg
    go_enter Try.func4, Try.ntmps4
    go_wp2_with (first | (go_at_call 7; (first | (with_reducible refine (l01Fraction_yes a b _ Hf.out).mono ?_)); rintro e w1 ⟨rfl, hb1⟩; obtain ⟨hc1, hf1⟩ := bcell hb1; have hz1 := hb1.size; (try simp at hz1); (try have hk1_0 : w.heap.size < w1.heap.size := by omega); (try have hk1_1 : w.heap.size + 1 < w1.heap.size := by omega); (try have hk1_2 : w.heap.size + 2 < w1.heap.size := by omega)) | (go_at_call 7; (first | (with_reducible refine (l01Fraction_yes c d _ Hg.out).mono ?_)); rintro e w2 ⟨rfl, hb2⟩; obtain ⟨hc2, hf2⟩ := bcell hb2; have hz2 := hb2.size; (try simp at hz2); (try have hk2_0 : w.heap.size < w2.heap.size := by omega); (try have hk2_1 : w.heap.size + 1 < w2.heap.size := by omega); (try have hk2_2 : w.heap.size + 2 < w2.heap.size := by omega)))
    have u0 : w2.cell? ⟨w.heap.size, 0, none⟩ = some (.int .i64 a) := by rw [hc2 _ _ (by omega), hc1 _ _ (by first | (simp; done) | (simp; omega))]; go_simp
    have u1 : w2.cell? ⟨w.heap.size, 1, none⟩ = some (.int .i64 b) := by rw [hc2 _ _ (by omega), hc1 _ _ (by first | (simp; done) | (simp; omega))]; go_simp
    have u2 : w2.cell? ⟨w.heap.size + 1, 0, none⟩ = some (.int .i64 c) := by rw [hc2 _ _ (by omega), hc1 _ _ (by first | (simp; done) | (simp; omega))]; go_simp
    have u3 : w2.cell? ⟨w.heap.size + 1, 1, none⟩ = some (.int .i64 d) := by rw [hc2 _ _ (by omega), hc1 _ _ (by first | (simp; done) | (simp; omega))]; go_simp
    have p1 : IntKind.i64.wrap (a * d) = a * d := IntWalk.i64_in _ (by omega)
    have p2 : IntKind.i64.wrap (c * b) = c * b := IntWalk.i64_in _ (by omega)
    clear hc1 hc2 hf1 hf2
    go_quiet (fail)
    clear p1 p2
    go_wp2
    go_ret2
    exact ⟨rfl, (by repeat (first | exact Below.refl _ _ | apply below_drewN | apply Below.drew | (refine Below.setCell ?_ (by first | (simp; done) | (simp; omega) | omega) _) | (refine Below.alloc ?_ (by first | exact Nat.le_refl _ | (simp; done) | (simp; omega) | omega) _) | (refine Below.trans ?_ (hb2.mono (by first | exact Nat.le_refl _ | (simp; done) | (simp; omega) | omega))) | (refine Below.trans ?_ (hb1.mono (by first | exact Nat.le_refl _ | (simp; done) | (simp; omega) | omega)))))⟩
  · have e1 : cmpA a b c d = 1 := by unfold cmpA; rw [if_pos (by simp [*]), if_neg (by omega), if_pos h]
    have h1 : c * b < a * d := h
    have h2 : c * b ≤ a * d := by omega
    rw [e1, E]
    clear e1 E h
    have Hf := Lib.hid hf; clear hf
    have Hg := Lib.hid hg; clear hg
    go_enter Try.func4, Try.ntmps4
    go_wp2_with (first | (go_at_call 7; (first | (with_reducible refine (l01Fraction_yes a b _ Hf.out).mono ?_)); rintro e w1 ⟨rfl, hb1⟩; obtain ⟨hc1, hf1⟩ := bcell hb1; have hz1 := hb1.size; (try simp at hz1); (try have hk1_0 : w.heap.size < w1.heap.size := by omega); (try have hk1_1 : w.heap.size + 1 < w1.heap.size := by omega); (try have hk1_2 : w.heap.size + 2 < w1.heap.size := by omega)) | (go_at_call 7; (first | (with_reducible refine (l01Fraction_yes c d _ Hg.out).mono ?_)); rintro e w2 ⟨rfl, hb2⟩; obtain ⟨hc2, hf2⟩ := bcell hb2; have hz2 := hb2.size; (try simp at hz2); (try have hk2_0 : w.heap.size < w2.heap.size := by omega); (try have hk2_1 : w.heap.size + 1 < w2.heap.size := by omega); (try have hk2_2 : w.heap.size + 2 < w2.heap.size := by omega)))
    have u0 : w2.cell? ⟨w.heap.size, 0, none⟩ = some (.int .i64 a) := by rw [hc2 _ _ (by omega), hc1 _ _ (by first | (simp; done) | (simp; omega))]; go_simp
    have u1 : w2.cell? ⟨w.heap.size, 1, none⟩ = some (.int .i64 b) := by rw [hc2 _ _ (by omega), hc1 _ _ (by first | (simp; done) | (simp; omega))]; go_simp
    have u2 : w2.cell? ⟨w.heap.size + 1, 0, none⟩ = some (.int .i64 c) := by rw [hc2 _ _ (by omega), hc1 _ _ (by first | (simp; done) | (simp; omega))]; go_simp
    have u3 : w2.cell? ⟨w.heap.size + 1, 1, none⟩ = some (.int .i64 d) := by rw [hc2 _ _ (by omega), hc1 _ _ (by first | (simp; done) | (simp; omega))]; go_simp
    have p1 : IntKind.i64.wrap (a * d) = a * d := IntWalk.i64_in _ (by omega)
    have p2 : IntKind.i64.wrap (c * b) = c * b := IntWalk.i64_in _ (by omega)
    clear hc1 hc2 hf1 hf2
    go_quiet (fail)
    clear p1 p2
    go_wp2
    go_ret2
    exact ⟨rfl, (by repeat (first | exact Below.refl _ _ | apply below_drewN | apply Below.drew | (refine Below.setCell ?_ (by first | (simp; done) | (simp; omega) | omega) _) | (refine Below.alloc ?_ (by first | exact Nat.le_refl _ | (simp; done) | (simp; omega) | omega) _) | (refine Below.trans ?_ (hb2.mono (by first | exact Nat.le_refl _ | (simp; done) | (simp; omega) | omega))) | (refine Below.trans ?_ (hb1.mono (by first | exact Nat.le_refl _ | (simp; done) | (simp; omega) | omega)))))⟩

theorem implCompareFractions_any (a b c d : Int) (w : World) :
    Calls Try.prog 6 #[.agg #[.int .i64 a, .int .i64 b], .agg #[.int .i64 c, .int .i64 d]] w fun e w' => e = .returned (.tuple #[.int .i64 (cmpA a b c d), .int .i64 (cmpC a b c d)]) ∧ Below w.heap.size w w' := by
  rcases bool_ff (fracB a b) with hf | hf
  · have e1 : cmpA a b c d = 0 := by simp [cmpA, *]
    have e2 : cmpC a b c d = 1 := by simp [cmpC, *]
    rw [e1, e2]
    clear e1 e2
    have Hf := Lib.hid hf; clear hf
    go_enter Try.func6, Try.ntmps6
    go_wp2_with (go_at_call 8; (first | (with_reducible refine (isFraction_no a b _ Hf.out).mono ?_)); rintro e w1 ⟨rfl, hb1⟩; obtain ⟨hc1, hf1⟩ := bcell hb1; have hz1 := hb1.size; (try simp at hz1); (try have hk1_0 : w.heap.size < w1.heap.size := by omega); (try have hk1_1 : w.heap.size + 1 < w1.heap.size := by omega); (try have hk1_2 : w.heap.size + 2 < w1.heap.size := by omega))
    go_ret2
    exact ⟨rfl, (by repeat (first | exact Below.refl _ _ | apply below_drewN | apply Below.drew | (refine Below.setCell ?_ (by first | (simp; done) | (simp; omega) | omega) _) | (refine Below.alloc ?_ (by first | exact Nat.le_refl _ | (simp; done) | (simp; omega) | omega) _) | (refine Below.trans ?_ (hb1.mono (by first | exact Nat.le_refl _ | (simp; done) | (simp; omega) | omega)))))⟩
  rcases bool_ff (fracB c d) with hg | hg
  · have e1 : cmpA a b c d = 0 := by simp [cmpA, *]
    have e2 : cmpC a b c d = 1 := by simp [cmpC, *]
    rw [e1, e2]
    clear e1 e2
    have Hf := Lib.hid hf; clear hf
    have Hg := Lib.hid hg; clear hg
    go_enter Try.func6, Try.ntmps6
    go_wp2_with (first | (go_at_call 8; (first | (with_reducible refine (isFraction_yes a b _ Hf.out).mono ?_)); rintro e w1 ⟨rfl, hb1⟩; obtain ⟨hc1, hf1⟩ := bcell hb1; have hz1 := hb1.size; (try simp at hz1); (try have hk1_0 : w.heap.size < w1.heap.size := by omega); (try have hk1_1 : w.heap.size + 1 < w1.heap.size := by omega); (try have hk1_2 : w.heap.size + 2 < w1.heap.size := by omega)) | (go_at_call 8; (first | (with_reducible refine (isFraction_no c d _ Hg.out).mono ?_)); rintro e w2 ⟨rfl, hb2⟩; obtain ⟨hc2, hf2⟩ := bcell hb2; have hz2 := hb2.size; (try simp at hz2); (try have hk2_0 : w.heap.size < w2.heap.size := by omega); (try have hk2_1 : w.heap.size + 1 < w2.heap.size := by omega); (try have hk2_2 : w.heap.size + 2 < w2.heap.size := by omega)))
    go_ret2
    exact ⟨rfl, (by repeat (first | exact Below.refl _ _ | apply below_drewN | apply Below.drew | (refine Below.setCell ?_ (by first | (simp; done) | (simp; omega) | omega) _) | (refine Below.alloc ?_ (by first | exact Nat.le_refl _ | (simp; done) | (simp; omega) | omega) _) | (refine Below.trans ?_ (hb2.mono (by first | exact Nat.le_refl _ | (simp; done) | (simp; omega) | omega))) | (refine Below.trans ?_ (hb1.mono (by first | exact Nat.le_refl _ | (simp; done) | (simp; omega) | omega)))))⟩
  obtain ⟨i1, i2, _⟩ := fracB_true.1 hf
  obtain ⟨i3, i4, _⟩ := fracB_true.1 hg
  have m1 := prod_in i1 (show -1000000000 ≤ d ∧ d ≤ 1000000000 by omega)
  have m2 := prod_in i3 (show -1000000000 ≤ b ∧ b ≤ 1000000000 by omega)
  have E : cmpC a b c d = 0 := by simp [cmpC, *]
  rcases (show a * d < c * b ∨ (a * d = c * b ∨ a * d > c * b) by omega) with h | h | h
  · have e1 : cmpA a b c d = -1 := by unfold cmpA; rw [if_pos (by simp [*]), if_pos h]
    rw [e1, E]
    clear e1 E
    have Hf := Lib.hid hf; clear hf
    have Hg := Lib.hid hg; clear hg
    go_enter Try.func6, Try.ntmps6
    go_wp2_with (first | (go_at_call 8; (first | (with_reducible refine (isFraction_yes a b _ Hf.out).mono ?_)); rintro e w1 ⟨rfl, hb1⟩; obtain ⟨hc1, hf1⟩ := bcell hb1; have hz1 := hb1.size; (try simp at hz1); (try have hk1_0 : w.heap.size < w1.heap.size := by omega); (try have hk1_1 : w.heap.size + 1 < w1.heap.size := by omega); (try have hk1_2 : w.heap.size + 2 < w1.heap.size := by omega)) | (go_at_call 8; (first | (with_reducible refine (isFraction_yes c d _ Hg.out).mono ?_)); rintro e w2 ⟨rfl, hb2⟩; obtain ⟨hc2, hf2⟩ := bcell hb2; have hz2 := hb2.size; (try simp at hz2); (try have hk2_0 : w.heap.size < w2.heap.size := by omega); (try have hk2_1 : w.heap.size + 1 < w2.heap.size := by omega); (try have hk2_2 : w.heap.size + 2 < w2.heap.size := by omega)))
    have u0 : w2.cell? ⟨w.heap.size, 0, none⟩ = some (.int .i64 a) := by rw [hc2 _ _ (by omega), hc1 _ _ (by first | (simp; done) | (simp; omega))]; go_simp
    have u1 : w2.cell? ⟨w.heap.size, 1, none⟩ = some (.int .i64 b) := by rw [hc2 _ _ (by omega), hc1 _ _ (by first | (simp; done) | (simp; omega))]; go_simp
    have u2 : w2.cell? ⟨w.heap.size + 1, 0, none⟩ = some (.int .i64 c) := by rw [hc2 _ _ (by omega), hc1 _ _ (by first | (simp; done) | (simp; omega))]; go_simp
    have u3 : w2.cell? ⟨w.heap.size + 1, 1, none⟩ = some (.int .i64 d) := by rw [hc2 _ _ (by omega), hc1 _ _ (by first | (simp; done) | (simp; omega))]; go_simp
    have p1 : IntKind.i64.wrap (a * d) = a * d := IntWalk.i64_in _ (by omega)
    have p2 : IntKind.i64.wrap (c * b) = c * b := IntWalk.i64_in _ (by omega)
    clear hc1 hc2 hf1 hf2
    go_quiet (fail)
    clear p1 p2
    go_wp2
    go_ret2
    exact ⟨rfl, (by repeat (first | exact Below.refl _ _ | apply below_drewN | apply Below.drew | (refine Below.setCell ?_ (by first | (simp; done) | (simp; omega) | omega) _) | (refine Below.alloc ?_ (by first | exact Nat.le_refl _ | (simp; done) | (simp; omega) | omega) _) | (refine Below.trans ?_ (hb2.mono (by first | exact Nat.le_refl _ | (simp; done) | (simp; omega) | omega))) | (refine Below.trans ?_ (hb1.mono (by first | exact Nat.le_refl _ | (simp; done) | (simp; omega) | omega)))))⟩
  · have e1 : cmpA a b c d = 0 := by unfold cmpA; rw [if_pos (by simp [*]), if_neg (by omega), if_neg (by omega)]
    have h1 : a * d ≤ c * b := by omega
    have h2 : c * b ≤ a * d := by omega
    rw [e1, E]
    clear e1 E h
    have Hf := Lib.hid hf; clear hf
    have Hg := Lib.hid hg; clear hg
    go_enter Try.func6, Try.ntmps6
    go_wp2_with (first | (go_at_call 8; (first | (with_reducible refine (isFraction_yes a b _ Hf.out).mono ?_)); rintro e w1 ⟨rfl, hb1⟩; obtain ⟨hc1, hf1⟩ := bcell hb1; have hz1 := hb1.size; (try simp at hz1); (try have hk1_0 : w.heap.size < w1.heap.size := by omega); (try have hk1_1 : w.heap.size + 1 < w1.heap.size := by omega); (try have hk1_2 : w.heap.size + 2 < w1.heap.size := by omega)) | (go_at_call 8; (first | (with_reducible refine (isFraction_yes c d _ Hg.out).mono ?_)); rintro e w2 ⟨rfl, hb2⟩; obtain ⟨hc2, hf2⟩ := bcell hb2; have hz2 := hb2.size; (try simp at hz2); (try have hk2_0 : w.heap.size < w2.heap.size := by omega); (try have hk2_1 : w.heap.size + 1 < w2.heap.size := by omega); (try have hk2_2 : w.heap.size + 2 < w2.heap.size := by omega)))
    have u0 : w2.cell? ⟨w.heap.size, 0, none⟩ = some (.int .i64 a) := by rw [hc2 _ _ (by omega), hc1 _ _ (by first | (simp; done) | (simp; omega))]; go_simp
    have u1 : w2.cell? ⟨w.heap.size, 1, none⟩ = some (.int .i64 b) := by rw [hc2 _ _ (by omega), hc1 _ _ (by first | (simp; done) | (simp; omega))]; go_simp
    have u2 : w2.cell? ⟨w.heap.size + 1, 0, none⟩ = some (.int .i64 c) := by rw [hc2 _ _ (by omega), hc1 _ _ (by first | (simp; done) | (simp; omega))]; go_simp
    have u3 : w2.cell? ⟨w.heap.size + 1, 1, none⟩ = some (.int .i64 d) := by rw [hc2 _ _ (by omega), hc1 _ _ (by first | (simp; done) | (simp; omega))]; go_simp
    have p1 : IntKind.i64.wrap (a * d) = a * d := IntWalk.i64_in _ (by omega)
    have p2 : IntKind.i64.wrap (c * b) = c * b := IntWalk.i64_in _ (by omega)
    clear hc1 hc2 hf1 hf2
    go_quiet (fail)
    clear p1 p2
    go_wp2
    go_ret2
    exact ⟨rfl, (by repeat (first | exact Below.refl _ _ | apply below_drewN | apply Below.drew | (refine Below.setCell ?_ (by first | (simp; done) | (simp; omega) | omega) _) | (refine Below.alloc ?_ (by first | exact Nat.le_refl _ | (simp; done) | (simp; omega) | omega) _) | (refine Below.trans ?_ (hb2.mono (by first | exact Nat.le_refl _ | (simp; done) | (simp; omega) | omega))) | (refine Below.trans ?_ (hb1.mono (by first | exact Nat.le_refl _ | (simp; done) | (simp; omega) | omega)))))⟩
  · have e1 : cmpA a b c d = 1 := by unfold cmpA; rw [if_pos (by simp [*]), if_neg (by omega), if_pos h]
    have h1 : c * b < a * d := h
    have h2 : c * b ≤ a * d := by omega
    rw [e1, E]
    clear e1 E h
    have Hf := Lib.hid hf; clear hf
    have Hg := Lib.hid hg; clear hg
    go_enter Try.func6, Try.ntmps6
    go_wp2_with (first | (go_at_call 8; (first | (with_reducible refine (isFraction_yes a b _ Hf.out).mono ?_)); rintro e w1 ⟨rfl, hb1⟩; obtain ⟨hc1, hf1⟩ := bcell hb1; have hz1 := hb1.size; (try simp at hz1); (try have hk1_0 : w.heap.size < w1.heap.size := by omega); (try have hk1_1 : w.heap.size + 1 < w1.heap.size := by omega); (try have hk1_2 : w.heap.size + 2 < w1.heap.size := by omega)) | (go_at_call 8; (first | (with_reducible refine (isFraction_yes c d _ Hg.out).mono ?_)); rintro e w2 ⟨rfl, hb2⟩; obtain ⟨hc2, hf2⟩ := bcell hb2; have hz2 := hb2.size; (try simp at hz2); (try have hk2_0 : w.heap.size < w2.heap.size := by omega); (try have hk2_1 : w.heap.size + 1 < w2.heap.size := by omega); (try have hk2_2 : w.heap.size + 2 < w2.heap.size := by omega)))
    have u0 : w2.cell? ⟨w.heap.size, 0, none⟩ = some (.int .i64 a) := by rw [hc2 _ _ (by omega), hc1 _ _ (by first | (simp; done) | (simp; omega))]; go_simp
    have u1 : w2.cell? ⟨w.heap.size, 1, none⟩ = some (.int .i64 b) := by rw [hc2 _ _ (by omega), hc1 _ _ (by first | (simp; done) | (simp; omega))]; go_simp
    have u2 : w2.cell? ⟨w.heap.size + 1, 0, none⟩ = some (.int .i64 c) := by rw [hc2 _ _ (by omega), hc1 _ _ (by first | (simp; done) | (simp; omega))]; go_simp
    have u3 : w2.cell? ⟨w.heap.size + 1, 1, none⟩ = some (.int .i64 d) := by rw [hc2 _ _ (by omega), hc1 _ _ (by first | (simp; done) | (simp; omega))]; go_simp
    have p1 : IntKind.i64.wrap (a * d) = a * d := IntWalk.i64_in _ (by omega)
    have p2 : IntKind.i64.wrap (c * b) = c * b := IntWalk.i64_in _ (by omega)
    clear hc1 hc2 hf1 hf2
    go_quiet (fail)
    clear p1 p2
    go_wp2
    go_ret2
    exact ⟨rfl, (by repeat (first | exact Below.refl _ _ | apply below_drewN | apply Below.drew | (refine Below.setCell ?_ (by first | (simp; done) | (simp; omega) | omega) _) | (refine Below.alloc ?_ (by first | exact Nat.le_refl _ | (simp; done) | (simp; omega) | omega) _) | (refine Below.trans ?_ (hb2.mono (by first | exact Nat.le_refl _ | (simp; done) | (simp; omega) | omega))) | (refine Below.trans ?_ (hb1.mono (by first | exact Nat.le_refl _ | (simp; done) | (simp; omega) | omega)))))⟩

theorem toFraction_any (a b : Int) (w : World) :
    Calls Try.prog 5 #[.agg #[.int .i64 a, .int .i64 b]] w fun e w' => e = .returned (.agg #[.int .i64 a, .int .i64 b]) ∧ Below w.heap.size w w' := by
  go_enter Try.func5, Try.ntmps5
  go_wp2
  exact bodyPost_ret (v := .agg #[.int .i64 a, .int .i64 b]) (by simp [results, Try.results5, go_sem]) rfl ⟨rfl, (by repeat (first | exact Below.refl _ _ | apply below_drewN | apply Below.drew | (refine Below.setCell ?_ (by first | (simp; done) | (simp; omega) | omega) _) | (refine Below.alloc ?_ (by first | exact Nat.le_refl _ | (simp; done) | (simp; omega) | omega) _)))⟩
end Go.Proofs.Yteidfifbihjdfab
