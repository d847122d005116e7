/- The curvette at a point: contracts of CurvetteAt, the program's and the model's. Conditions: stated at each theorem. -/
import Derived.Test.YtohbgfmjnanlkaaCvW
namespace Go.Proofs.Ytohbgfmjnanlkaa
open Go.ChangeShapes Go.WideShapes Go.ChangeAt Go.RowKit Go.Deep
set_option linter.unusedVariables false
set_option linter.unusedSimpArgs false

/-- The number behind, as the program has it. -/
def nx (j : Int) : Int := IntKind.i64.wrap (j + 1)
theorem nx_cases {j : Int} (h : (Lit.int .i64 j).wf = true) : (Lit.int .i64 (nx j)).wf = true ∧ (nx j = j + 1 ∨ nx j < 0) := by
  have h2 := bounds_i64 h
  unfold nx
  by_cases e : j < 9223372036854775807
  · rw [IntWalk.i64_in _ (by omega)]
    exact ⟨i64_wf (by omega) (by omega), .inl rfl⟩
  · obtain rfl : j = 9223372036854775807 := by omega
    have : IntKind.i64.wrap (9223372036854775807 + 1) = -9223372036854775808 := by decide
    rw [this]
    exact ⟨by decide, .inr (by decide)⟩
def caA (zs : List Int) (j : Int) : List Int := if ptC zs (nx j) = 0 then ccA (ptK zs (nx j)) else []
def caC (zs : List Int) (j : Int) : Int := if ptC zs (nx j) = 0 then ccC (ptK zs (nx j)) else ptC zs (nx j)
theorem ca_no {zs : List Int} {j C : Int} (h : ptC zs (nx j) = C) (hC : C ≠ 0) : caA zs j = [] ∧ caC zs j = C := by
  unfold caA caC; rw [h, if_neg hC, if_neg hC]; exact ⟨rfl, rfl⟩
theorem ca_yes {zs : List Int} {j : Int} {m : Nat} (h : ptC zs (nx j) = 0) (hm : nx j = (m : Int)) : caA zs j = ccA (cdL (mqL zs m) m) ∧ caC zs j = ccC (cdL (mqL zs m) m) := by
  unfold caA caC
  rw [h, if_pos rfl, if_pos rfl, hm, ptK_yes (by rw [← hm]; exact h)]
  exact ⟨rfl, rfl⟩
theorem caA_len (zs : List Int) (j : Int) : (caA zs j).length ≤ 2001 := by
  unfold caA; split
  · exact ccA_len _
  · simp
theorem cdL_wf {m : List Int} {n : Nat} (h : MQ m n) (hn : n ≤ 400) : ∀ z ∈ cdL m n, (Lit.int .i64 z).wf = true := fun z hz => by
  unfold cdL at hz
  obtain ⟨a, ha, rfl⟩ := List.mem_map.1 hz
  have h1 := List.mem_range.1 ha
  have := (prx_near h (j := a + 1) (by omega)).2
  exact i64_wf (by omega) (by omega)

end Go.Proofs.Ytohbgfmjnanlkaa
