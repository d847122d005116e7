/- What a polynomial is, the model's test and the program's: contracts of spec.l02Is, spec.IsPolynomial, impl.IsPolynomial. Conditions: stated at each theorem. -/
import Derived.Test.YtncgkoanckefmaaKeep
import Derived.Test.YtncgkoanckefmaaPoly
import Derived.Test.YtncgkoanckefmaaIns
namespace Go.Proofs.Ytncgkoanckefmaa
open Go.ChangeShapes Go.WideShapes Go.ChangeAt Go.RowKit
set_option linter.unusedVariables false

theorem ret_bool {a b : Bool} (h : a = b) : Ending.returned (.bool a) = .returned (.bool b) := by rw [h]
theorem wf_at {zs : List Int} (h : ∀ z ∈ zs, (Lit.int .i64 z).wf = true) (k : Nat) : -9223372036854775808 ≤ zs[k]?.getD 0 ∧ zs[k]?.getD 0 ≤ 9223372036854775807 := range_i64 h k
theorem getD_opt (zs : List Int) (k : Nat) : zs.getD k 0 = zs[k]?.getD 0 := by simp [List.getD]
theorem poly_end {zs : List Int} {n : Nat} (hl : zs.length = n) (h : n ≤ 2001) (ha : (zs.take n).all coB = true) : polyB zs = endB zs := by
  subst hl
  rw [List.take_length] at ha
  simp [polyB, ha, h]
theorem poly_long {zs : List Int} {n : Nat} (hl : zs.length = n) (h : ¬ n ≤ 2001) : polyB zs = false := by subst hl; simp [polyB, h]
theorem poly_co {zs : List Int} {n k : Nat} (hl : zs.length = n) (h : k < n) (hc : coB (zs[k]?.getD 0) = false) : polyB zs = false := by
  subst hl; unfold polyB; rw [all_false h (by rw [getD_opt]; exact hc)]; simp
theorem end_nil {zs : List Int} (h : zs.length = 0) : endB zs = true := by
  have := List.eq_nil_of_length_eq_zero h; subst this; rfl
theorem end_some {zs : List Int} {n : Nat} (hl : zs.length = n) (h : 0 < n) : endB zs = (zs[n - 1]?.getD 0 != 0) := by
  subst hl
  have : zs.isEmpty = false := by cases zs <;> simp at h ⊢
  simp [endB, this]
theorem all_next {zs : List Int} {n k : Nat} (hl : zs.length = n) (h : k < n) (ht : (zs.take k).all coB = true) (hc : coB (zs[k]?.getD 0) = true) : (zs.take (k + 1)).all coB = true :=
  all_take_succ (by omega) ht (by rw [getD_opt]; exact hc)
/-- A slice that is read, its length under a name of its own. -/
theorem ReadI.split {w : World} {B : Nat} {v : Value} {zs : List Int} (h : ReadI w B v zs) : ∃ n A c, v = .slice A n c ∧ RI w B A n zs ∧ Hid (zs.length = n) := by
  obtain ⟨A, c, rfl, hr, _⟩ := h; exact ⟨_, A, c, rfl, hr, rfl⟩
theorem ReadI.split2 {w : World} {B : Nat} {v : Value} {zs : List Int} (h : ReadI w B v zs) : ∃ n A c, v = .slice A n c ∧ RI w B A n zs ∧ Hid (zs.length = n) ∧ Hid (A = none → c = 0) ∧ n ≤ c ∧ Hid (∀ a, A = some a → ∃ g o, a = ⟨g, o, none⟩) ∧ c ≤ 9223372036854775807 := by
  obtain ⟨A, c, rfl, hr, h1, h2, h3, h4⟩ := h; exact ⟨_, A, c, rfl, hr, rfl, h1, h2, h3, h4⟩

end Go.Proofs.Ytncgkoanckefmaa
