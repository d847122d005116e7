/- The curvette of a code: contracts of CurvetteOfCode, the program's and the model's. Conditions: stated at each theorem. -/
import Derived.Test.YtohbgfmjnanlkaaCvS
import Derived.Test.YtohbgfmjnanlkaaCvB
import Derived.Test.YtohbgfmjnanlkaaBw
import Derived.Test.YtohbgfmjnanlkaaPoS
namespace Go.Proofs.Ytohbgfmjnanlkaa
open Go.ChangeShapes Go.WideShapes Go.ChangeAt Go.RowKit Go.Deep
set_option linter.unusedVariables false
set_option linter.unusedSimpArgs false

def ccA (c : List Int) : List Int := if isC c then (if cvOK c c.length then bsA (cvL c c.length) else []) else []
def ccC (c : List Int) : Int := if isC c then (if cvOK c c.length then bsC (cvL c c.length) else 5) else 2
theorem cc_no {c : List Int} (h : isC c = false) : ccA c = [] ∧ ccC c = 2 := by simp [ccA, ccC, h]
theorem cc_big {c : List Int} (h : isC c = true) (h2 : cvOK c c.length = false) : ccA c = [] ∧ ccC c = 5 := by simp [ccA, ccC, h, h2]
theorem cc_yes {c : List Int} (h : isC c = true) (h2 : cvOK c c.length = true) : ccA c = bsA (cvL c c.length) ∧ ccC c = bsC (cvL c c.length) := by simp [ccA, ccC, h, h2]
theorem cvL_range {c : List Int} {n : Nat} (h : cvOK c n = true) : ∀ x ∈ cvL c n, 1 ≤ x ∧ x ≤ 64 := fun x hx => by
  refine ⟨cvL_pos x hx, ?_⟩
  obtain ⟨i, hi, rfl⟩ := List.mem_map.1 hx
  exact cvOK_true.1 h i (by have := List.mem_range.1 hi; omega)
theorem cvL_sql {c : List Int} {n : Nat} (hn : n ≤ 399) (h : cvOK c n = true) : sqlB (cvL c n) = true := by
  simp only [sqlB, Bool.and_eq_true, decide_eq_true_eq, List.all_eq_true]
  exact ⟨by rw [cvL_len]; omega, fun z hz => mulB_true.2 (cvL_range h z hz)⟩
theorem br_short {L : List Int} (h : brB L = true) : L.length ≤ 2001 := by
  obtain ⟨n, r, rfl, _, _, hl⟩ := br_cons h
  simp; omega
theorem bsA_len6 (L : List Int) : (bsA L).length ≤ 2001 := by
  unfold bsA
  split
  · split
    · rename_i h1 h2
      have h3 := (sql_yes h1).1
      have := bs_inv (R := L) (by omega) (fun x hx => ((sql_yes h1).2 x hx).1) h2
      exact br_short this.1
    · simp
  · simp
theorem ccA_len (c : List Int) : (ccA c).length ≤ 2001 := by
  unfold ccA
  split
  · split
    · exact bsA_len6 _
    · simp
  · simp

end Go.Proofs.Ytohbgfmjnanlkaa
