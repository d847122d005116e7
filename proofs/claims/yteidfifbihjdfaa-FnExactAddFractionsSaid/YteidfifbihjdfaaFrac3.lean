/- MakeFraction, AddFractions and MultiplyFractions, the model's and the program's, and impl's limited: contracts. Conditions: stated at each theorem. -/
import Derived.Test.YteidfifbihjdfaaFrac2
namespace Go.Proofs.Yteidfifbihjdfaa
open Go.ChangeShapes Go.WideShapes Go.ChangeAt Go.RowKit Go.Joins
set_option linter.unusedVariables false

theorem hide {p : Prop} (h : p) : Hid p := h
theorem unhide {p : Prop} (h : Hid p) : p := h
theorem limited_any (a b : Int) (w : World) (ha1 : -4000000000000000000 ≤ a) (ha2 : a ≤ 4000000000000000000) (hb1' : -4000000000000000000 ≤ b) (hb2' : b ≤ 4000000000000000000) (hb0 : b ≠ 0) :
    Calls Try.prog 68 #[.agg #[.int .i64 a, .int .i64 b]] w fun e w' => e = .returned (.tuple #[.agg #[.int .i64 (fitT (mkT a b) (mkB a b)), .int .i64 (fitB (mkT a b) (mkB a b))], .int .i64 (fitC (mkT a b) (mkB a b))]) ∧ Below w.heap.size w w' := by
  have R := fun W => hide (reduced_any a b W ha1 ha2 hb1' hb2' hb0)
  cases h : fracB (mkT a b) (mkB a b)
  · have e1 : fitT (mkT a b) (mkB a b) = 0 := by simp [fitT, h]
    have e2 : fitB (mkT a b) (mkB a b) = 0 := by simp [fitB, h]
    have e3 : fitC (mkT a b) (mkB a b) = 3 := by simp [fitC, h]
    rw [e1, e2, e3]
    have H := Lib.hid h
    clear h e1 e2 e3
    go_enter Try.func68, Try.ntmps68
    go_wp2_with (first | (go_at_call 64; (first | (with_reducible refine (unhide (R _)).mono ?_)); rintro e w1 ⟨rfl, hb1⟩; obtain ⟨hc1, hf1⟩ := bcell hb1; have hz1 := hb1.size; (try simp at hz1); (try have hk1_0 : w.heap.size < w1.heap.size := by omega); (try have hk1_1 : w.heap.size + 1 < w1.heap.size := by omega); (try have hk1_2 : w.heap.size + 2 < w1.heap.size := by omega)) | (go_at_call 67; (first | (with_reducible refine (isFraction_no _ _ _ H.out).mono ?_)); rintro e w2 ⟨rfl, hb2⟩; obtain ⟨hc2, hf2⟩ := bcell hb2; have hz2 := hb2.size; (try simp at hz2); (try have hk2_0 : w.heap.size < w2.heap.size := by omega); (try have hk2_1 : w.heap.size + 1 < w2.heap.size := by omega); (try have hk2_2 : w.heap.size + 2 < w2.heap.size := by omega); (try have hl2_1 : w1.heap.size < w2.heap.size := by omega)))
    exact bodyPost_ret (v := .tuple #[.agg #[.int .i64 (0), .int .i64 (0)], .int .i64 (3)]) (by simp [results, Try.results68, go_sem, *]) rfl ⟨rfl, (by repeat (first | exact Below.refl _ _ | apply below_drewN | apply Below.drew | (refine Below.setCell ?_ (by first | (simp; done) | (simp; omega) | omega) _) | (refine Below.alloc ?_ (by first | exact Nat.le_refl _ | (simp; done) | (simp; omega) | omega) _) | (refine Below.trans ?_ (hb2.mono (by first | exact Nat.le_refl _ | (simp; done) | (simp; omega) | omega))) | (refine Below.trans ?_ (hb1.mono (by first | exact Nat.le_refl _ | (simp; done) | (simp; omega) | omega)))))⟩
  · have e1 : fitT (mkT a b) (mkB a b) = mkT a b := by simp [fitT, h]
    have e2 : fitB (mkT a b) (mkB a b) = mkB a b := by simp [fitB, h]
    have e3 : fitC (mkT a b) (mkB a b) = 0 := by simp [fitC, h]
    rw [e1, e2, e3]
    have H := Lib.hid h
    clear h e1 e2 e3
    go_enter Try.func68, Try.ntmps68
    go_wp2_with (first | (go_at_call 64; (first | (with_reducible refine (unhide (R _)).mono ?_)); rintro e w1 ⟨rfl, hb1⟩; obtain ⟨hc1, hf1⟩ := bcell hb1; have hz1 := hb1.size; (try simp at hz1); (try have hk1_0 : w.heap.size < w1.heap.size := by omega); (try have hk1_1 : w.heap.size + 1 < w1.heap.size := by omega); (try have hk1_2 : w.heap.size + 2 < w1.heap.size := by omega)) | (go_at_call 67; (first | (with_reducible refine (isFraction_yes _ _ _ H.out).mono ?_)); rintro e w2 ⟨rfl, hb2⟩; obtain ⟨hc2, hf2⟩ := bcell hb2; have hz2 := hb2.size; (try simp at hz2); (try have hk2_0 : w.heap.size < w2.heap.size := by omega); (try have hk2_1 : w.heap.size + 1 < w2.heap.size := by omega); (try have hk2_2 : w.heap.size + 2 < w2.heap.size := by omega); (try have hl2_1 : w1.heap.size < w2.heap.size := by omega)))
    exact bodyPost_ret (v := .tuple #[.agg #[.int .i64 (mkT a b), .int .i64 (mkB a b)], .int .i64 (0)]) (by simp [results, Try.results68, go_sem, *]) rfl ⟨rfl, (by repeat (first | exact Below.refl _ _ | apply below_drewN | apply Below.drew | (refine Below.setCell ?_ (by first | (simp; done) | (simp; omega) | omega) _) | (refine Below.alloc ?_ (by first | exact Nat.le_refl _ | (simp; done) | (simp; omega) | omega) _) | (refine Below.trans ?_ (hb2.mono (by first | exact Nat.le_refl _ | (simp; done) | (simp; omega) | omega))) | (refine Below.trans ?_ (hb1.mono (by first | exact Nat.le_refl _ | (simp; done) | (simp; omega) | omega)))))⟩

/-- MakeFraction's three answers. -/
def mfT (a b : Int) : Int := if intB a && intB b && decide (b ≠ 0) then mkT a b else 0
def mfB (a b : Int) : Int := if intB a && intB b && decide (b ≠ 0) then mkB a b else 0
def mfC (a b : Int) : Int := if intB a && intB b then (if b = 0 then 5 else 0) else 2
theorem specMakeFraction_any (a b : Int) (w : World) :
    Calls Try.prog 43 #[.int .i64 a, .int .i64 b] w fun e w' => e = .returned (.tuple #[.agg #[.int .i64 (mfT a b), .int .i64 (mfB a b)], .int .i64 (mfC a b)]) ∧ Below w.heap.size w w' := by
  cases ha : intB a
  · have e1 : mfT a b = 0 := by simp [mfT, *]
    have e2 : mfB a b = 0 := by simp [mfB, *]
    have e3 : mfC a b = 2 := by simp [mfC, *]
    rw [e1, e2, e3]
    have Ha := Lib.hid ha; clear ha
    clear e1 e2 e3
    go_enter Try.func43, Try.ntmps43
    go_wp2_with (go_at_call 62; (first | (with_reducible refine (integer_no a _ Ha.out).mono ?_)); rintro e w' ⟨rfl, rfl⟩)
    exact bodyPost_ret (v := .tuple #[.agg #[.int .i64 (0), .int .i64 (0)], .int .i64 (2)]) (by simp [results, Try.results43, go_sem, *]) rfl ⟨rfl, (by repeat (first | exact Below.refl _ _ | apply below_drewN | apply Below.drew | (refine Below.setCell ?_ (by first | (simp; done) | (simp; omega) | omega) _) | (refine Below.alloc ?_ (by first | exact Nat.le_refl _ | (simp; done) | (simp; omega) | omega) _)))⟩

  cases hb : intB b
  · have e1 : mfT a b = 0 := by simp [mfT, *]
    have e2 : mfB a b = 0 := by simp [mfB, *]
    have e3 : mfC a b = 2 := by simp [mfC, *]
    rw [e1, e2, e3]
    have Ha := Lib.hid ha; clear ha; have Hb := Lib.hid hb; clear hb
    clear e1 e2 e3
    go_enter Try.func43, Try.ntmps43
    go_wp2_with (go_at_call 62; (first | (with_reducible refine (integer_yes a _ Ha.out).mono ?_) | (with_reducible refine (integer_no b _ Hb.out).mono ?_)); rintro e w' ⟨rfl, rfl⟩)
    exact bodyPost_ret (v := .tuple #[.agg #[.int .i64 (0), .int .i64 (0)], .int .i64 (2)]) (by simp [results, Try.results43, go_sem, *]) rfl ⟨rfl, (by repeat (first | exact Below.refl _ _ | apply below_drewN | apply Below.drew | (refine Below.setCell ?_ (by first | (simp; done) | (simp; omega) | omega) _) | (refine Below.alloc ?_ (by first | exact Nat.le_refl _ | (simp; done) | (simp; omega) | omega) _)))⟩

  have ia := intB_true.1 ha
  have ib := intB_true.1 hb
  by_cases h0 : b = 0
  · subst h0
    have e1 : mfT a 0 = 0 := by simp [mfT, *]
    have e2 : mfB a 0 = 0 := by simp [mfB, *]
    have e3 : mfC a 0 = 5 := by simp [mfC, *]
    rw [e1, e2, e3]
    have Ha := Lib.hid ha; clear ha; have Hb := Lib.hid hb; clear hb
    clear e1 e2 e3
    go_enter Try.func43, Try.ntmps43
    go_wp2_with (go_at_call 62; (first | (with_reducible refine (integer_yes a _ Ha.out).mono ?_) | (with_reducible refine (integer_yes 0 _ Hb.out).mono ?_)); rintro e w' ⟨rfl, rfl⟩)
    exact bodyPost_ret (v := .tuple #[.agg #[.int .i64 (0), .int .i64 (0)], .int .i64 (5)]) (by simp [results, Try.results43, go_sem, *]) rfl ⟨rfl, (by repeat (first | exact Below.refl _ _ | apply below_drewN | apply Below.drew | (refine Below.setCell ?_ (by first | (simp; done) | (simp; omega) | omega) _) | (refine Below.alloc ?_ (by first | exact Nat.le_refl _ | (simp; done) | (simp; omega) | omega) _)))⟩

  · have R := fun W => hide (l01Make_any a b W (by omega) (by omega) (by omega) (by omega) h0)
    have T : (b == 0) = false := by simpa using h0
    have e1 : mfT a b = mkT a b := by simp [mfT, *]
    have e2 : mfB a b = mkB a b := by simp [mfB, *]
    have e3 : mfC a b = 0 := by simp [mfC, *]
    rw [e1, e2, e3]
    have Ha := Lib.hid ha; clear ha; have Hb := Lib.hid hb; clear hb; clear h0
    clear e1 e2 e3
    go_enter Try.func43, Try.ntmps43
    go_wp2_with (first | (go_at_call 62; (first | (with_reducible refine (integer_yes a _ Ha.out).mono ?_) | (with_reducible refine (integer_yes b _ Hb.out).mono ?_)); rintro e w' ⟨rfl, rfl⟩) | (go_at_call 63; (first | (with_reducible refine (unhide (R _)).mono ?_)); rintro e w1 ⟨rfl, hb1⟩; obtain ⟨hc1, hf1⟩ := bcell hb1; have hz1 := hb1.size; (try simp at hz1); (try have hk1_0 : w.heap.size < w1.heap.size := by omega); (try have hk1_1 : w.heap.size + 1 < w1.heap.size := by omega); (try have hk1_2 : w.heap.size + 2 < w1.heap.size := by omega)))
    exact bodyPost_ret (v := .tuple #[.agg #[.int .i64 (mkT a b), .int .i64 (mkB a b)], .int .i64 (0)]) (by simp [results, Try.results43, go_sem, *]) rfl ⟨rfl, (by repeat (first | exact Below.refl _ _ | apply below_drewN | apply Below.drew | (refine Below.setCell ?_ (by first | (simp; done) | (simp; omega) | omega) _) | (refine Below.alloc ?_ (by first | exact Nat.le_refl _ | (simp; done) | (simp; omega) | omega) _) | (refine Below.trans ?_ (hb1.mono (by first | exact Nat.le_refl _ | (simp; done) | (simp; omega) | omega)))))⟩

theorem implMakeFraction_any (a b : Int) (w : World) :
    Calls Try.prog 44 #[.int .i64 a, .int .i64 b] w fun e w' => e = .returned (.tuple #[.agg #[.int .i64 (mfT a b), .int .i64 (mfB a b)], .int .i64 (mfC a b)]) ∧ Below w.heap.size w w' := by
  cases ha : intB a
  · have e1 : mfT a b = 0 := by simp [mfT, *]
    have e2 : mfB a b = 0 := by simp [mfB, *]
    have e3 : mfC a b = 2 := by simp [mfC, *]
    rw [e1, e2, e3]
    have Ha := Lib.hid ha; clear ha
    clear e1 e2 e3
    go_enter Try.func44, Try.ntmps44
    go_wp2_with (go_at_call 54; (first | (with_reducible refine (isInteger_no a _ Ha.out).mono ?_)); rintro e w' ⟨rfl, rfl⟩)
    exact bodyPost_ret (v := .tuple #[.agg #[.int .i64 (0), .int .i64 (0)], .int .i64 (2)]) (by simp [results, Try.results44, go_sem, *]) rfl ⟨rfl, (by repeat (first | exact Below.refl _ _ | apply below_drewN | apply Below.drew | (refine Below.setCell ?_ (by first | (simp; done) | (simp; omega) | omega) _) | (refine Below.alloc ?_ (by first | exact Nat.le_refl _ | (simp; done) | (simp; omega) | omega) _)))⟩

  cases hb : intB b
  · have e1 : mfT a b = 0 := by simp [mfT, *]
    have e2 : mfB a b = 0 := by simp [mfB, *]
    have e3 : mfC a b = 2 := by simp [mfC, *]
    rw [e1, e2, e3]
    have Ha := Lib.hid ha; clear ha; have Hb := Lib.hid hb; clear hb
    clear e1 e2 e3
    go_enter Try.func44, Try.ntmps44
    go_wp2_with (go_at_call 54; (first | (with_reducible refine (isInteger_yes a _ Ha.out).mono ?_) | (with_reducible refine (isInteger_no b _ Hb.out).mono ?_)); rintro e w' ⟨rfl, rfl⟩)
    exact bodyPost_ret (v := .tuple #[.agg #[.int .i64 (0), .int .i64 (0)], .int .i64 (2)]) (by simp [results, Try.results44, go_sem, *]) rfl ⟨rfl, (by repeat (first | exact Below.refl _ _ | apply below_drewN | apply Below.drew | (refine Below.setCell ?_ (by first | (simp; done) | (simp; omega) | omega) _) | (refine Below.alloc ?_ (by first | exact Nat.le_refl _ | (simp; done) | (simp; omega) | omega) _)))⟩

  have ia := intB_true.1 ha
  have ib := intB_true.1 hb
  by_cases h0 : b = 0
  · subst h0
    have e1 : mfT a 0 = 0 := by simp [mfT, *]
    have e2 : mfB a 0 = 0 := by simp [mfB, *]
    have e3 : mfC a 0 = 5 := by simp [mfC, *]
    rw [e1, e2, e3]
    have Ha := Lib.hid ha; clear ha; have Hb := Lib.hid hb; clear hb
    clear e1 e2 e3
    go_enter Try.func44, Try.ntmps44
    go_wp2_with (go_at_call 54; (first | (with_reducible refine (isInteger_yes a _ Ha.out).mono ?_) | (with_reducible refine (isInteger_yes 0 _ Hb.out).mono ?_)); rintro e w' ⟨rfl, rfl⟩)
    exact bodyPost_ret (v := .tuple #[.agg #[.int .i64 (0), .int .i64 (0)], .int .i64 (5)]) (by simp [results, Try.results44, go_sem, *]) rfl ⟨rfl, (by repeat (first | exact Below.refl _ _ | apply below_drewN | apply Below.drew | (refine Below.setCell ?_ (by first | (simp; done) | (simp; omega) | omega) _) | (refine Below.alloc ?_ (by first | exact Nat.le_refl _ | (simp; done) | (simp; omega) | omega) _)))⟩

  · have R := fun W => hide (reduced_any a b W (by omega) (by omega) (by omega) (by omega) h0)
    have T : (b == 0) = false := by simpa using h0
    have e1 : mfT a b = mkT a b := by simp [mfT, *]
    have e2 : mfB a b = mkB a b := by simp [mfB, *]
    have e3 : mfC a b = 0 := by simp [mfC, *]
    rw [e1, e2, e3]
    have Ha := Lib.hid ha; clear ha; have Hb := Lib.hid hb; clear hb; clear h0
    clear e1 e2 e3
    go_enter Try.func44, Try.ntmps44
    go_wp2_with (first | (go_at_call 54; (first | (with_reducible refine (isInteger_yes a _ Ha.out).mono ?_) | (with_reducible refine (isInteger_yes b _ Hb.out).mono ?_)); rintro e w' ⟨rfl, rfl⟩) | (go_at_call 64; (first | (with_reducible refine (unhide (R _)).mono ?_)); rintro e w1 ⟨rfl, hb1⟩; obtain ⟨hc1, hf1⟩ := bcell hb1; have hz1 := hb1.size; (try simp at hz1); (try have hk1_0 : w.heap.size < w1.heap.size := by omega); (try have hk1_1 : w.heap.size + 1 < w1.heap.size := by omega); (try have hk1_2 : w.heap.size + 2 < w1.heap.size := by omega)))
    exact bodyPost_ret (v := .tuple #[.agg #[.int .i64 (mkT a b), .int .i64 (mkB a b)], .int .i64 (0)]) (by simp [results, Try.results44, go_sem, *]) rfl ⟨rfl, (by repeat (first | exact Below.refl _ _ | apply below_drewN | apply Below.drew | (refine Below.setCell ?_ (by first | (simp; done) | (simp; omega) | omega) _) | (refine Below.alloc ?_ (by first | exact Nat.le_refl _ | (simp; done) | (simp; omega) | omega) _) | (refine Below.trans ?_ (hb1.mono (by first | exact Nat.le_refl _ | (simp; done) | (simp; omega) | omega)))))⟩


theorem bool_ff (b : Bool) : b = false ∨ b = true := by cases b <;> simp
theorem prod_in {a d : Int} (ha : -1000000000 ≤ a ∧ a ≤ 1000000000) (hd : -1000000000 ≤ d ∧ d ≤ 1000000000) : -1000000000000000000 ≤ a * d ∧ a * d ≤ 1000000000000000000 := by
  have h : (a * d).natAbs ≤ 1000000000 * 1000000000 := by
    rw [Int.natAbs_mul]; exact Nat.mul_le_mul (by omega) (by omega)
  omega
theorem prod_pos {b d : Int} (hb : 1 ≤ b) (hd : 1 ≤ d) : 1 ≤ b * d := by
  have := Int.mul_pos (show 0 < b by omega) (show 0 < d by omega); omega
/-- The answer of a sum or product whose numerator and denominator are x and y: P tells whether both arguments are fractions. -/
def opT (P : Bool) (x y : Int) : Int := if P then fitT (mkT x y) (mkB x y) else 0
def opB (P : Bool) (x y : Int) : Int := if P then fitB (mkT x y) (mkB x y) else 0
def opC (P : Bool) (x y : Int) : Int := if P then fitC (mkT x y) (mkB x y) else 1
theorem specAddFractions_any (a b c d : Int) (w : World) :
    Calls Try.prog 45 #[.agg #[.int .i64 a, .int .i64 b], .agg #[.int .i64 c, .int .i64 d]] w fun e w' => e = .returned (.tuple #[.agg #[.int .i64 (opT (fracB a b && fracB c d) (a * d + c * b) (b * d)), .int .i64 (opB (fracB a b && fracB c d) (a * d + c * b) (b * d))], .int .i64 (opC (fracB a b && fracB c d) (a * d + c * b) (b * d))]) ∧ Below w.heap.size w w' := by
  rcases bool_ff (fracB a b) with hf | hf
  · have e1 : opT (fracB a b && fracB c d) (a * d + c * b) (b * d) = 0 := by simp [opT, *]
    have e2 : opB (fracB a b && fracB c d) (a * d + c * b) (b * d) = 0 := by simp [opB, *]
    have e3 : opC (fracB a b && fracB c d) (a * d + c * b) (b * d) = 1 := by simp [opC, *]
    rw [e1, e2, e3]
    have Hf := Lib.hid hf; clear hf
    clear e1 e2 e3
    go_enter Try.func45, Try.ntmps45
    go_wp2_with (go_at_call 65; (first | (with_reducible refine (l01Fraction_no a b _ Hf.out).mono ?_)); rintro e w1 ⟨rfl, hb1⟩; obtain ⟨hc1, hf1⟩ := bcell hb1; have hz1 := hb1.size; (try simp at hz1); (try have hk1_0 : w.heap.size < w1.heap.size := by omega); (try have hk1_1 : w.heap.size + 1 < w1.heap.size := by omega); (try have hk1_2 : w.heap.size + 2 < w1.heap.size := by omega))
    exact bodyPost_ret (v := .tuple #[.agg #[.int .i64 (0), .int .i64 (0)], .int .i64 (1)]) (by simp [results, Try.results45, go_sem, *]) rfl ⟨rfl, (by repeat (first | exact Below.refl _ _ | apply below_drewN | apply Below.drew | (refine Below.setCell ?_ (by first | (simp; done) | (simp; omega) | omega) _) | (refine Below.alloc ?_ (by first | exact Nat.le_refl _ | (simp; done) | (simp; omega) | omega) _) | (refine Below.trans ?_ (hb1.mono (by first | exact Nat.le_refl _ | (simp; done) | (simp; omega) | omega)))))⟩
  rcases bool_ff (fracB c d) with hg | hg
  · have e1 : opT (fracB a b && fracB c d) (a * d + c * b) (b * d) = 0 := by simp [opT, *]
    have e2 : opB (fracB a b && fracB c d) (a * d + c * b) (b * d) = 0 := by simp [opB, *]
    have e3 : opC (fracB a b && fracB c d) (a * d + c * b) (b * d) = 1 := by simp [opC, *]
    rw [e1, e2, e3]
    have Hf := Lib.hid hf; clear hf; have Hg := Lib.hid hg; clear hg
    clear e1 e2 e3
    go_enter Try.func45, Try.ntmps45
    go_wp2_with (first | (go_at_call 65; (first | (with_reducible refine (l01Fraction_yes a b _ Hf.out).mono ?_)); rintro e w1 ⟨rfl, hb1⟩; obtain ⟨hc1, hf1⟩ := bcell hb1; have hz1 := hb1.size; (try simp at hz1); (try have hk1_0 : w.heap.size < w1.heap.size := by omega); (try have hk1_1 : w.heap.size + 1 < w1.heap.size := by omega); (try have hk1_2 : w.heap.size + 2 < w1.heap.size := by omega)) | (go_at_call 65; (first | (with_reducible refine (l01Fraction_no c d _ Hg.out).mono ?_)); rintro e w2 ⟨rfl, hb2⟩; obtain ⟨hc2, hf2⟩ := bcell hb2; have hz2 := hb2.size; (try simp at hz2); (try have hk2_0 : w.heap.size < w2.heap.size := by omega); (try have hk2_1 : w.heap.size + 1 < w2.heap.size := by omega); (try have hk2_2 : w.heap.size + 2 < w2.heap.size := by omega); (try have hl2_1 : w1.heap.size < w2.heap.size := by omega)))
    exact bodyPost_ret (v := .tuple #[.agg #[.int .i64 (0), .int .i64 (0)], .int .i64 (1)]) (by simp [results, Try.results45, go_sem, *]) rfl ⟨rfl, (by repeat (first | exact Below.refl _ _ | apply below_drewN | apply Below.drew | (refine Below.setCell ?_ (by first | (simp; done) | (simp; omega) | omega) _) | (refine Below.alloc ?_ (by first | exact Nat.le_refl _ | (simp; done) | (simp; omega) | omega) _) | (refine Below.trans ?_ (hb2.mono (by first | exact Nat.le_refl _ | (simp; done) | (simp; omega) | omega))) | (refine Below.trans ?_ (hb1.mono (by first | exact Nat.le_refl _ | (simp; done) | (simp; omega) | omega)))))⟩
  · obtain ⟨i1, i2, _⟩ := fracB_true.1 hf
    obtain ⟨i3, i4, _⟩ := fracB_true.1 hg
    have m1 := prod_in i1 (show -1000000000 ≤ d ∧ d ≤ 1000000000 by omega)
    have m2 := prod_in i3 (show -1000000000 ≤ b ∧ b ≤ 1000000000 by omega)
    have m3 := prod_in (show -1000000000 ≤ b ∧ b ≤ 1000000000 by omega) (show -1000000000 ≤ d ∧ d ≤ 1000000000 by omega)
    have m4 := prod_pos i2.1 i4.1
    have m5 := prod_in i1 i3
    have e1 : opT (fracB a b && fracB c d) (a * d + c * b) (b * d) = fitT (mkT (a * d + c * b) (b * d)) (mkB (a * d + c * b) (b * d)) := by simp [opT, *]
    have e2 : opB (fracB a b && fracB c d) (a * d + c * b) (b * d) = fitB (mkT (a * d + c * b) (b * d)) (mkB (a * d + c * b) (b * d)) := by simp [opB, *]
    have e3 : opC (fracB a b && fracB c d) (a * d + c * b) (b * d) = fitC (mkT (a * d + c * b) (b * d)) (mkB (a * d + c * b) (b * d)) := by simp [opC, *]
    rw [e1, e2, e3]
    have Hf := Lib.hid hf; clear hf; have Hg := Lib.hid hg; clear hg; have R := fun W => hide (l01Make_any (a * d + c * b) (b * d) W (by omega) (by omega) (by omega) (by omega) (by omega))
    clear e1 e2 e3
    go_enter Try.func45, Try.ntmps45
    go_wp2_with (first | (go_at_call 65; (first | (with_reducible refine (l01Fraction_yes a b _ Hf.out).mono ?_)); rintro e w1 ⟨rfl, hb1⟩; obtain ⟨hc1, hf1⟩ := bcell hb1; have hz1 := hb1.size; (try simp at hz1); (try have hk1_0 : w.heap.size < w1.heap.size := by omega); (try have hk1_1 : w.heap.size + 1 < w1.heap.size := by omega); (try have hk1_2 : w.heap.size + 2 < w1.heap.size := by omega)) | (go_at_call 65; (first | (with_reducible refine (l01Fraction_yes c d _ Hg.out).mono ?_)); rintro e w2 ⟨rfl, hb2⟩; obtain ⟨hc2, hf2⟩ := bcell hb2; have hz2 := hb2.size; (try simp at hz2); (try have hk2_0 : w.heap.size < w2.heap.size := by omega); (try have hk2_1 : w.heap.size + 1 < w2.heap.size := by omega); (try have hk2_2 : w.heap.size + 2 < w2.heap.size := by omega); (try have hl2_1 : w1.heap.size < w2.heap.size := by omega)) | (go_at_call 63; (first | (with_reducible refine (unhide (R _)).mono ?_)); rintro e w3 ⟨rfl, hb3⟩; obtain ⟨hc3, hf3⟩ := bcell hb3; have hz3 := hb3.size; (try simp at hz3); (try have hk3_0 : w.heap.size < w3.heap.size := by omega); (try have hk3_1 : w.heap.size + 1 < w3.heap.size := by omega); (try have hk3_2 : w.heap.size + 2 < w3.heap.size := by omega); (try have hl3_1 : w1.heap.size < w3.heap.size := by omega); (try have hl3_2 : w2.heap.size < w3.heap.size := by omega)) | (go_at_call 66; (first | (with_reducible refine (l01Fit_any _ _ _).mono ?_)); rintro e w4 ⟨rfl, hb4⟩; obtain ⟨hc4, hf4⟩ := bcell hb4; have hz4 := hb4.size; (try simp at hz4); (try have hk4_0 : w.heap.size < w4.heap.size := by omega); (try have hk4_1 : w.heap.size + 1 < w4.heap.size := by omega); (try have hk4_2 : w.heap.size + 2 < w4.heap.size := by omega); (try have hl4_1 : w1.heap.size < w4.heap.size := by omega); (try have hl4_2 : w2.heap.size < w4.heap.size := by omega); (try have hl4_3 : w3.heap.size < w4.heap.size := by omega)))
    exact bodyPost_ret (v := .tuple #[.agg #[.int .i64 (fitT (mkT (a * d + c * b) (b * d)) (mkB (a * d + c * b) (b * d))), .int .i64 (fitB (mkT (a * d + c * b) (b * d)) (mkB (a * d + c * b) (b * d)))], .int .i64 (fitC (mkT (a * d + c * b) (b * d)) (mkB (a * d + c * b) (b * d)))]) (by simp [results, Try.results45, go_sem, *]) rfl ⟨rfl, (by repeat (first | exact Below.refl _ _ | apply below_drewN | apply Below.drew | (refine Below.setCell ?_ (by first | (simp; done) | (simp; omega) | omega) _) | (refine Below.alloc ?_ (by first | exact Nat.le_refl _ | (simp; done) | (simp; omega) | omega) _) | (refine Below.trans ?_ (hb4.mono (by first | exact Nat.le_refl _ | (simp; done) | (simp; omega) | omega))) | (refine Below.trans ?_ (hb3.mono (by first | exact Nat.le_refl _ | (simp; done) | (simp; omega) | omega))) | (refine Below.trans ?_ (hb2.mono (by first | exact Nat.le_refl _ | (simp; done) | (simp; omega) | omega))) | (refine Below.trans ?_ (hb1.mono (by first | exact Nat.le_refl _ | (simp; done) | (simp; omega) | omega)))))⟩
theorem implAddFractions_any (a b c d : Int) (w : World) :
    Calls Try.prog 47 #[.agg #[.int .i64 a, .int .i64 b], .agg #[.int .i64 c, .int .i64 d]] w fun e w' => e = .returned (.tuple #[.agg #[.int .i64 (opT (fracB a b && fracB c d) (a * d + c * b) (b * d)), .int .i64 (opB (fracB a b && fracB c d) (a * d + c * b) (b * d))], .int .i64 (opC (fracB a b && fracB c d) (a * d + c * b) (b * d))]) ∧ Below w.heap.size w w' := by
  rcases bool_ff (fracB a b) with hf | hf
  · have e1 : opT (fracB a b && fracB c d) (a * d + c * b) (b * d) = 0 := by simp [opT, *]
    have e2 : opB (fracB a b && fracB c d) (a * d + c * b) (b * d) = 0 := by simp [opB, *]
    have e3 : opC (fracB a b && fracB c d) (a * d + c * b) (b * d) = 1 := by simp [opC, *]
    rw [e1, e2, e3]
    have Hf := Lib.hid hf; clear hf
    clear e1 e2 e3
    go_enter Try.func47, Try.ntmps47
    go_wp2_with (go_at_call 67; (first | (with_reducible refine (isFraction_no a b _ Hf.out).mono ?_)); rintro e w1 ⟨rfl, hb1⟩; obtain ⟨hc1, hf1⟩ := bcell hb1; have hz1 := hb1.size; (try simp at hz1); (try have hk1_0 : w.heap.size < w1.heap.size := by omega); (try have hk1_1 : w.heap.size + 1 < w1.heap.size := by omega); (try have hk1_2 : w.heap.size + 2 < w1.heap.size := by omega))
    exact bodyPost_ret (v := .tuple #[.agg #[.int .i64 (0), .int .i64 (0)], .int .i64 (1)]) (by simp [results, Try.results47, go_sem, *]) rfl ⟨rfl, (by repeat (first | exact Below.refl _ _ | apply below_drewN | apply Below.drew | (refine Below.setCell ?_ (by first | (simp; done) | (simp; omega) | omega) _) | (refine Below.alloc ?_ (by first | exact Nat.le_refl _ | (simp; done) | (simp; omega) | omega) _) | (refine Below.trans ?_ (hb1.mono (by first | exact Nat.le_refl _ | (simp; done) | (simp; omega) | omega)))))⟩
  rcases bool_ff (fracB c d) with hg | hg
  · have e1 : opT (fracB a b && fracB c d) (a * d + c * b) (b * d) = 0 := by simp [opT, *]
    have e2 : opB (fracB a b && fracB c d) (a * d + c * b) (b * d) = 0 := by simp [opB, *]
    have e3 : opC (fracB a b && fracB c d) (a * d + c * b) (b * d) = 1 := by simp [opC, *]
    rw [e1, e2, e3]
    have Hf := Lib.hid hf; clear hf; have Hg := Lib.hid hg; clear hg
    clear e1 e2 e3
    go_enter Try.func47, Try.ntmps47
    go_wp2_with (first | (go_at_call 67; (first | (with_reducible refine (isFraction_yes a b _ Hf.out).mono ?_)); rintro e w1 ⟨rfl, hb1⟩; obtain ⟨hc1, hf1⟩ := bcell hb1; have hz1 := hb1.size; (try simp at hz1); (try have hk1_0 : w.heap.size < w1.heap.size := by omega); (try have hk1_1 : w.heap.size + 1 < w1.heap.size := by omega); (try have hk1_2 : w.heap.size + 2 < w1.heap.size := by omega)) | (go_at_call 67; (first | (with_reducible refine (isFraction_no c d _ Hg.out).mono ?_)); rintro e w2 ⟨rfl, hb2⟩; obtain ⟨hc2, hf2⟩ := bcell hb2; have hz2 := hb2.size; (try simp at hz2); (try have hk2_0 : w.heap.size < w2.heap.size := by omega); (try have hk2_1 : w.heap.size + 1 < w2.heap.size := by omega); (try have hk2_2 : w.heap.size + 2 < w2.heap.size := by omega); (try have hl2_1 : w1.heap.size < w2.heap.size := by omega)))
    exact bodyPost_ret (v := .tuple #[.agg #[.int .i64 (0), .int .i64 (0)], .int .i64 (1)]) (by simp [results, Try.results47, go_sem, *]) rfl ⟨rfl, (by repeat (first | exact Below.refl _ _ | apply below_drewN | apply Below.drew | (refine Below.setCell ?_ (by first | (simp; done) | (simp; omega) | omega) _) | (refine Below.alloc ?_ (by first | exact Nat.le_refl _ | (simp; done) | (simp; omega) | omega) _) | (refine Below.trans ?_ (hb2.mono (by first | exact Nat.le_refl _ | (simp; done) | (simp; omega) | omega))) | (refine Below.trans ?_ (hb1.mono (by first | exact Nat.le_refl _ | (simp; done) | (simp; omega) | omega)))))⟩
  · obtain ⟨i1, i2, _⟩ := fracB_true.1 hf
    obtain ⟨i3, i4, _⟩ := fracB_true.1 hg
    have m1 := prod_in i1 (show -1000000000 ≤ d ∧ d ≤ 1000000000 by omega)
    have m2 := prod_in i3 (show -1000000000 ≤ b ∧ b ≤ 1000000000 by omega)
    have m3 := prod_in (show -1000000000 ≤ b ∧ b ≤ 1000000000 by omega) (show -1000000000 ≤ d ∧ d ≤ 1000000000 by omega)
    have m4 := prod_pos i2.1 i4.1
    have m5 := prod_in i1 i3
    have e1 : opT (fracB a b && fracB c d) (a * d + c * b) (b * d) = fitT (mkT (a * d + c * b) (b * d)) (mkB (a * d + c * b) (b * d)) := by simp [opT, *]
    have e2 : opB (fracB a b && fracB c d) (a * d + c * b) (b * d) = fitB (mkT (a * d + c * b) (b * d)) (mkB (a * d + c * b) (b * d)) := by simp [opB, *]
    have e3 : opC (fracB a b && fracB c d) (a * d + c * b) (b * d) = fitC (mkT (a * d + c * b) (b * d)) (mkB (a * d + c * b) (b * d)) := by simp [opC, *]
    rw [e1, e2, e3]
    have Hf := Lib.hid hf; clear hf; have Hg := Lib.hid hg; clear hg; have R := fun W => hide (limited_any (a * d + c * b) (b * d) W (by omega) (by omega) (by omega) (by omega) (by omega))
    clear e1 e2 e3
    go_enter Try.func47, Try.ntmps47
    go_wp2_with (first | (go_at_call 67; (first | (with_reducible refine (isFraction_yes a b _ Hf.out).mono ?_)); rintro e w1 ⟨rfl, hb1⟩; obtain ⟨hc1, hf1⟩ := bcell hb1; have hz1 := hb1.size; (try simp at hz1); (try have hk1_0 : w.heap.size < w1.heap.size := by omega); (try have hk1_1 : w.heap.size + 1 < w1.heap.size := by omega); (try have hk1_2 : w.heap.size + 2 < w1.heap.size := by omega)) | (go_at_call 67; (first | (with_reducible refine (isFraction_yes c d _ Hg.out).mono ?_)); rintro e w2 ⟨rfl, hb2⟩; obtain ⟨hc2, hf2⟩ := bcell hb2; have hz2 := hb2.size; (try simp at hz2); (try have hk2_0 : w.heap.size < w2.heap.size := by omega); (try have hk2_1 : w.heap.size + 1 < w2.heap.size := by omega); (try have hk2_2 : w.heap.size + 2 < w2.heap.size := by omega); (try have hl2_1 : w1.heap.size < w2.heap.size := by omega)) | (go_at_call 68; (first | (with_reducible refine (unhide (R _)).mono ?_)); rintro e w3 ⟨rfl, hb3⟩; obtain ⟨hc3, hf3⟩ := bcell hb3; have hz3 := hb3.size; (try simp at hz3); (try have hk3_0 : w.heap.size < w3.heap.size := by omega); (try have hk3_1 : w.heap.size + 1 < w3.heap.size := by omega); (try have hk3_2 : w.heap.size + 2 < w3.heap.size := by omega); (try have hl3_1 : w1.heap.size < w3.heap.size := by omega); (try have hl3_2 : w2.heap.size < w3.heap.size := by omega)))
    exact bodyPost_ret (v := .tuple #[.agg #[.int .i64 (fitT (mkT (a * d + c * b) (b * d)) (mkB (a * d + c * b) (b * d))), .int .i64 (fitB (mkT (a * d + c * b) (b * d)) (mkB (a * d + c * b) (b * d)))], .int .i64 (fitC (mkT (a * d + c * b) (b * d)) (mkB (a * d + c * b) (b * d)))]) (by simp [results, Try.results47, go_sem, *]) rfl ⟨rfl, (by repeat (first | exact Below.refl _ _ | apply below_drewN | apply Below.drew | (refine Below.setCell ?_ (by first | (simp; done) | (simp; omega) | omega) _) | (refine Below.alloc ?_ (by first | exact Nat.le_refl _ | (simp; done) | (simp; omega) | omega) _) | (refine Below.trans ?_ (hb3.mono (by first | exact Nat.le_refl _ | (simp; done) | (simp; omega) | omega))) | (refine Below.trans ?_ (hb2.mono (by first | exact Nat.le_refl _ | (simp; done) | (simp; omega) | omega))) | (refine Below.trans ?_ (hb1.mono (by first | exact Nat.le_refl _ | (simp; done) | (simp; omega) | omega)))))⟩
theorem specMultiplyFractions_any (a b c d : Int) (w : World) :
    Calls Try.prog 48 #[.agg #[.int .i64 a, .int .i64 b], .agg #[.int .i64 c, .int .i64 d]] w fun e w' => e = .returned (.tuple #[.agg #[.int .i64 (opT (fracB a b && fracB c d) (a * c) (b * d)), .int .i64 (opB (fracB a b && fracB c d) (a * c) (b * d))], .int .i64 (opC (fracB a b && fracB c d) (a * c) (b * d))]) ∧ Below w.heap.size w w' := by
  rcases bool_ff (fracB a b) with hf | hf
  · have e1 : opT (fracB a b && fracB c d) (a * c) (b * d) = 0 := by simp [opT, *]
    have e2 : opB (fracB a b && fracB c d) (a * c) (b * d) = 0 := by simp [opB, *]
    have e3 : opC (fracB a b && fracB c d) (a * c) (b * d) = 1 := by simp [opC, *]
    rw [e1, e2, e3]
    have Hf := Lib.hid hf; clear hf
    clear e1 e2 e3
    go_enter Try.func48, Try.ntmps48
    go_wp2_with (go_at_call 65; (first | (with_reducible refine (l01Fraction_no a b _ Hf.out).mono ?_)); rintro e w1 ⟨rfl, hb1⟩; obtain ⟨hc1, hf1⟩ := bcell hb1; have hz1 := hb1.size; (try simp at hz1); (try have hk1_0 : w.heap.size < w1.heap.size := by omega); (try have hk1_1 : w.heap.size + 1 < w1.heap.size := by omega); (try have hk1_2 : w.heap.size + 2 < w1.heap.size := by omega))
    exact bodyPost_ret (v := .tuple #[.agg #[.int .i64 (0), .int .i64 (0)], .int .i64 (1)]) (by simp [results, Try.results48, go_sem, *]) rfl ⟨rfl, (by repeat (first | exact Below.refl _ _ | apply below_drewN | apply Below.drew | (refine Below.setCell ?_ (by first | (simp; done) | (simp; omega) | omega) _) | (refine Below.alloc ?_ (by first | exact Nat.le_refl _ | (simp; done) | (simp; omega) | omega) _) | (refine Below.trans ?_ (hb1.mono (by first | exact Nat.le_refl _ | (simp; done) | (simp; omega) | omega)))))⟩
  rcases bool_ff (fracB c d) with hg | hg
  · have e1 : opT (fracB a b && fracB c d) (a * c) (b * d) = 0 := by simp [opT, *]
    have e2 : opB (fracB a b && fracB c d) (a * c) (b * d) = 0 := by simp [opB, *]
    have e3 : opC (fracB a b && fracB c d) (a * c) (b * d) = 1 := by simp [opC, *]
    rw [e1, e2, e3]
    have Hf := Lib.hid hf; clear hf; have Hg := Lib.hid hg; clear hg
    clear e1 e2 e3
    go_enter Try.func48, Try.ntmps48
    go_wp2_with (first | (go_at_call 65; (first | (with_reducible refine (l01Fraction_yes a b _ Hf.out).mono ?_)); rintro e w1 ⟨rfl, hb1⟩; obtain ⟨hc1, hf1⟩ := bcell hb1; have hz1 := hb1.size; (try simp at hz1); (try have hk1_0 : w.heap.size < w1.heap.size := by omega); (try have hk1_1 : w.heap.size + 1 < w1.heap.size := by omega); (try have hk1_2 : w.heap.size + 2 < w1.heap.size := by omega)) | (go_at_call 65; (first | (with_reducible refine (l01Fraction_no c d _ Hg.out).mono ?_)); rintro e w2 ⟨rfl, hb2⟩; obtain ⟨hc2, hf2⟩ := bcell hb2; have hz2 := hb2.size; (try simp at hz2); (try have hk2_0 : w.heap.size < w2.heap.size := by omega); (try have hk2_1 : w.heap.size + 1 < w2.heap.size := by omega); (try have hk2_2 : w.heap.size + 2 < w2.heap.size := by omega); (try have hl2_1 : w1.heap.size < w2.heap.size := by omega)))
    exact bodyPost_ret (v := .tuple #[.agg #[.int .i64 (0), .int .i64 (0)], .int .i64 (1)]) (by simp [results, Try.results48, go_sem, *]) rfl ⟨rfl, (by repeat (first | exact Below.refl _ _ | apply below_drewN | apply Below.drew | (refine Below.setCell ?_ (by first | (simp; done) | (simp; omega) | omega) _) | (refine Below.alloc ?_ (by first | exact Nat.le_refl _ | (simp; done) | (simp; omega) | omega) _) | (refine Below.trans ?_ (hb2.mono (by first | exact Nat.le_refl _ | (simp; done) | (simp; omega) | omega))) | (refine Below.trans ?_ (hb1.mono (by first | exact Nat.le_refl _ | (simp; done) | (simp; omega) | omega)))))⟩
  · obtain ⟨i1, i2, _⟩ := fracB_true.1 hf
    obtain ⟨i3, i4, _⟩ := fracB_true.1 hg
    have m1 := prod_in i1 (show -1000000000 ≤ d ∧ d ≤ 1000000000 by omega)
    have m2 := prod_in i3 (show -1000000000 ≤ b ∧ b ≤ 1000000000 by omega)
    have m3 := prod_in (show -1000000000 ≤ b ∧ b ≤ 1000000000 by omega) (show -1000000000 ≤ d ∧ d ≤ 1000000000 by omega)
    have m4 := prod_pos i2.1 i4.1
    have m5 := prod_in i1 i3
    have e1 : opT (fracB a b && fracB c d) (a * c) (b * d) = fitT (mkT (a * c) (b * d)) (mkB (a * c) (b * d)) := by simp [opT, *]
    have e2 : opB (fracB a b && fracB c d) (a * c) (b * d) = fitB (mkT (a * c) (b * d)) (mkB (a * c) (b * d)) := by simp [opB, *]
    have e3 : opC (fracB a b && fracB c d) (a * c) (b * d) = fitC (mkT (a * c) (b * d)) (mkB (a * c) (b * d)) := by simp [opC, *]
    rw [e1, e2, e3]
    have Hf := Lib.hid hf; clear hf; have Hg := Lib.hid hg; clear hg; have R := fun W => hide (l01Make_any (a * c) (b * d) W (by omega) (by omega) (by omega) (by omega) (by omega))
    clear e1 e2 e3
    go_enter Try.func48, Try.ntmps48
    go_wp2_with (first | (go_at_call 65; (first | (with_reducible refine (l01Fraction_yes a b _ Hf.out).mono ?_)); rintro e w1 ⟨rfl, hb1⟩; obtain ⟨hc1, hf1⟩ := bcell hb1; have hz1 := hb1.size; (try simp at hz1); (try have hk1_0 : w.heap.size < w1.heap.size := by omega); (try have hk1_1 : w.heap.size + 1 < w1.heap.size := by omega); (try have hk1_2 : w.heap.size + 2 < w1.heap.size := by omega)) | (go_at_call 65; (first | (with_reducible refine (l01Fraction_yes c d _ Hg.out).mono ?_)); rintro e w2 ⟨rfl, hb2⟩; obtain ⟨hc2, hf2⟩ := bcell hb2; have hz2 := hb2.size; (try simp at hz2); (try have hk2_0 : w.heap.size < w2.heap.size := by omega); (try have hk2_1 : w.heap.size + 1 < w2.heap.size := by omega); (try have hk2_2 : w.heap.size + 2 < w2.heap.size := by omega); (try have hl2_1 : w1.heap.size < w2.heap.size := by omega)) | (go_at_call 63; (first | (with_reducible refine (unhide (R _)).mono ?_)); rintro e w3 ⟨rfl, hb3⟩; obtain ⟨hc3, hf3⟩ := bcell hb3; have hz3 := hb3.size; (try simp at hz3); (try have hk3_0 : w.heap.size < w3.heap.size := by omega); (try have hk3_1 : w.heap.size + 1 < w3.heap.size := by omega); (try have hk3_2 : w.heap.size + 2 < w3.heap.size := by omega); (try have hl3_1 : w1.heap.size < w3.heap.size := by omega); (try have hl3_2 : w2.heap.size < w3.heap.size := by omega)) | (go_at_call 66; (first | (with_reducible refine (l01Fit_any _ _ _).mono ?_)); rintro e w4 ⟨rfl, hb4⟩; obtain ⟨hc4, hf4⟩ := bcell hb4; have hz4 := hb4.size; (try simp at hz4); (try have hk4_0 : w.heap.size < w4.heap.size := by omega); (try have hk4_1 : w.heap.size + 1 < w4.heap.size := by omega); (try have hk4_2 : w.heap.size + 2 < w4.heap.size := by omega); (try have hl4_1 : w1.heap.size < w4.heap.size := by omega); (try have hl4_2 : w2.heap.size < w4.heap.size := by omega); (try have hl4_3 : w3.heap.size < w4.heap.size := by omega)))
    exact bodyPost_ret (v := .tuple #[.agg #[.int .i64 (fitT (mkT (a * c) (b * d)) (mkB (a * c) (b * d))), .int .i64 (fitB (mkT (a * c) (b * d)) (mkB (a * c) (b * d)))], .int .i64 (fitC (mkT (a * c) (b * d)) (mkB (a * c) (b * d)))]) (by simp [results, Try.results48, go_sem, *]) rfl ⟨rfl, (by repeat (first | exact Below.refl _ _ | apply below_drewN | apply Below.drew | (refine Below.setCell ?_ (by first | (simp; done) | (simp; omega) | omega) _) | (refine Below.alloc ?_ (by first | exact Nat.le_refl _ | (simp; done) | (simp; omega) | omega) _) | (refine Below.trans ?_ (hb4.mono (by first | exact Nat.le_refl _ | (simp; done) | (simp; omega) | omega))) | (refine Below.trans ?_ (hb3.mono (by first | exact Nat.le_refl _ | (simp; done) | (simp; omega) | omega))) | (refine Below.trans ?_ (hb2.mono (by first | exact Nat.le_refl _ | (simp; done) | (simp; omega) | omega))) | (refine Below.trans ?_ (hb1.mono (by first | exact Nat.le_refl _ | (simp; done) | (simp; omega) | omega)))))⟩
theorem implMultiplyFractions_any (a b c d : Int) (w : World) :
    Calls Try.prog 49 #[.agg #[.int .i64 a, .int .i64 b], .agg #[.int .i64 c, .int .i64 d]] w fun e w' => e = .returned (.tuple #[.agg #[.int .i64 (opT (fracB a b && fracB c d) (a * c) (b * d)), .int .i64 (opB (fracB a b && fracB c d) (a * c) (b * d))], .int .i64 (opC (fracB a b && fracB c d) (a * c) (b * d))]) ∧ Below w.heap.size w w' := by
  rcases bool_ff (fracB a b) with hf | hf
  · have e1 : opT (fracB a b && fracB c d) (a * c) (b * d) = 0 := by simp [opT, *]
    have e2 : opB (fracB a b && fracB c d) (a * c) (b * d) = 0 := by simp [opB, *]
    have e3 : opC (fracB a b && fracB c d) (a * c) (b * d) = 1 := by simp [opC, *]
    rw [e1, e2, e3]
    have Hf := Lib.hid hf; clear hf
    clear e1 e2 e3
    go_enter Try.func49, Try.ntmps49
    go_wp2_with (go_at_call 67; (first | (with_reducible refine (isFraction_no a b _ Hf.out).mono ?_)); rintro e w1 ⟨rfl, hb1⟩; obtain ⟨hc1, hf1⟩ := bcell hb1; have hz1 := hb1.size; (try simp at hz1); (try have hk1_0 : w.heap.size < w1.heap.size := by omega); (try have hk1_1 : w.heap.size + 1 < w1.heap.size := by omega); (try have hk1_2 : w.heap.size + 2 < w1.heap.size := by omega))
    exact bodyPost_ret (v := .tuple #[.agg #[.int .i64 (0), .int .i64 (0)], .int .i64 (1)]) (by simp [results, Try.results49, go_sem, *]) rfl ⟨rfl, (by repeat (first | exact Below.refl _ _ | apply below_drewN | apply Below.drew | (refine Below.setCell ?_ (by first | (simp; done) | (simp; omega) | omega) _) | (refine Below.alloc ?_ (by first | exact Nat.le_refl _ | (simp; done) | (simp; omega) | omega) _) | (refine Below.trans ?_ (hb1.mono (by first | exact Nat.le_refl _ | (simp; done) | (simp; omega) | omega)))))⟩
  rcases bool_ff (fracB c d) with hg | hg
  · have e1 : opT (fracB a b && fracB c d) (a * c) (b * d) = 0 := by simp [opT, *]
    have e2 : opB (fracB a b && fracB c d) (a * c) (b * d) = 0 := by simp [opB, *]
    have e3 : opC (fracB a b && fracB c d) (a * c) (b * d) = 1 := by simp [opC, *]
    rw [e1, e2, e3]
    have Hf := Lib.hid hf; clear hf; have Hg := Lib.hid hg; clear hg
    clear e1 e2 e3
    go_enter Try.func49, Try.ntmps49
    go_wp2_with (first | (go_at_call 67; (first | (with_reducible refine (isFraction_yes a b _ Hf.out).mono ?_)); rintro e w1 ⟨rfl, hb1⟩; obtain ⟨hc1, hf1⟩ := bcell hb1; have hz1 := hb1.size; (try simp at hz1); (try have hk1_0 : w.heap.size < w1.heap.size := by omega); (try have hk1_1 : w.heap.size + 1 < w1.heap.size := by omega); (try have hk1_2 : w.heap.size + 2 < w1.heap.size := by omega)) | (go_at_call 67; (first | (with_reducible refine (isFraction_no c d _ Hg.out).mono ?_)); rintro e w2 ⟨rfl, hb2⟩; obtain ⟨hc2, hf2⟩ := bcell hb2; have hz2 := hb2.size; (try simp at hz2); (try have hk2_0 : w.heap.size < w2.heap.size := by omega); (try have hk2_1 : w.heap.size + 1 < w2.heap.size := by omega); (try have hk2_2 : w.heap.size + 2 < w2.heap.size := by omega); (try have hl2_1 : w1.heap.size < w2.heap.size := by omega)))
    exact bodyPost_ret (v := .tuple #[.agg #[.int .i64 (0), .int .i64 (0)], .int .i64 (1)]) (by simp [results, Try.results49, go_sem, *]) rfl ⟨rfl, (by repeat (first | exact Below.refl _ _ | apply below_drewN | apply Below.drew | (refine Below.setCell ?_ (by first | (simp; done) | (simp; omega) | omega) _) | (refine Below.alloc ?_ (by first | exact Nat.le_refl _ | (simp; done) | (simp; omega) | omega) _) | (refine Below.trans ?_ (hb2.mono (by first | exact Nat.le_refl _ | (simp; done) | (simp; omega) | omega))) | (refine Below.trans ?_ (hb1.mono (by first | exact Nat.le_refl _ | (simp; done) | (simp; omega) | omega)))))⟩
  · obtain ⟨i1, i2, _⟩ := fracB_true.1 hf
    obtain ⟨i3, i4, _⟩ := fracB_true.1 hg
    have m1 := prod_in i1 (show -1000000000 ≤ d ∧ d ≤ 1000000000 by omega)
    have m2 := prod_in i3 (show -1000000000 ≤ b ∧ b ≤ 1000000000 by omega)
    have m3 := prod_in (show -1000000000 ≤ b ∧ b ≤ 1000000000 by omega) (show -1000000000 ≤ d ∧ d ≤ 1000000000 by omega)
    have m4 := prod_pos i2.1 i4.1
    have m5 := prod_in i1 i3
    have e1 : opT (fracB a b && fracB c d) (a * c) (b * d) = fitT (mkT (a * c) (b * d)) (mkB (a * c) (b * d)) := by simp [opT, *]
    have e2 : opB (fracB a b && fracB c d) (a * c) (b * d) = fitB (mkT (a * c) (b * d)) (mkB (a * c) (b * d)) := by simp [opB, *]
    have e3 : opC (fracB a b && fracB c d) (a * c) (b * d) = fitC (mkT (a * c) (b * d)) (mkB (a * c) (b * d)) := by simp [opC, *]
    rw [e1, e2, e3]
    have Hf := Lib.hid hf; clear hf; have Hg := Lib.hid hg; clear hg; have R := fun W => hide (limited_any (a * c) (b * d) W (by omega) (by omega) (by omega) (by omega) (by omega))
    clear e1 e2 e3
    go_enter Try.func49, Try.ntmps49
    go_wp2_with (first | (go_at_call 67; (first | (with_reducible refine (isFraction_yes a b _ Hf.out).mono ?_)); rintro e w1 ⟨rfl, hb1⟩; obtain ⟨hc1, hf1⟩ := bcell hb1; have hz1 := hb1.size; (try simp at hz1); (try have hk1_0 : w.heap.size < w1.heap.size := by omega); (try have hk1_1 : w.heap.size + 1 < w1.heap.size := by omega); (try have hk1_2 : w.heap.size + 2 < w1.heap.size := by omega)) | (go_at_call 67; (first | (with_reducible refine (isFraction_yes c d _ Hg.out).mono ?_)); rintro e w2 ⟨rfl, hb2⟩; obtain ⟨hc2, hf2⟩ := bcell hb2; have hz2 := hb2.size; (try simp at hz2); (try have hk2_0 : w.heap.size < w2.heap.size := by omega); (try have hk2_1 : w.heap.size + 1 < w2.heap.size := by omega); (try have hk2_2 : w.heap.size + 2 < w2.heap.size := by omega); (try have hl2_1 : w1.heap.size < w2.heap.size := by omega)) | (go_at_call 68; (first | (with_reducible refine (unhide (R _)).mono ?_)); rintro e w3 ⟨rfl, hb3⟩; obtain ⟨hc3, hf3⟩ := bcell hb3; have hz3 := hb3.size; (try simp at hz3); (try have hk3_0 : w.heap.size < w3.heap.size := by omega); (try have hk3_1 : w.heap.size + 1 < w3.heap.size := by omega); (try have hk3_2 : w.heap.size + 2 < w3.heap.size := by omega); (try have hl3_1 : w1.heap.size < w3.heap.size := by omega); (try have hl3_2 : w2.heap.size < w3.heap.size := by omega)))
    exact bodyPost_ret (v := .tuple #[.agg #[.int .i64 (fitT (mkT (a * c) (b * d)) (mkB (a * c) (b * d))), .int .i64 (fitB (mkT (a * c) (b * d)) (mkB (a * c) (b * d)))], .int .i64 (fitC (mkT (a * c) (b * d)) (mkB (a * c) (b * d)))]) (by simp [results, Try.results49, go_sem, *]) rfl ⟨rfl, (by repeat (first | exact Below.refl _ _ | apply below_drewN | apply Below.drew | (refine Below.setCell ?_ (by first | (simp; done) | (simp; omega) | omega) _) | (refine Below.alloc ?_ (by first | exact Nat.le_refl _ | (simp; done) | (simp; omega) | omega) _) | (refine Below.trans ?_ (hb3.mono (by first | exact Nat.le_refl _ | (simp; done) | (simp; omega) | omega))) | (refine Below.trans ?_ (hb2.mono (by first | exact Nat.le_refl _ | (simp; done) | (simp; omega) | omega))) | (refine Below.trans ?_ (hb1.mono (by first | exact Nat.le_refl _ | (simp; done) | (simp; omega) | omega)))))⟩
end Go.Proofs.Yteidfifbihjdfaa
