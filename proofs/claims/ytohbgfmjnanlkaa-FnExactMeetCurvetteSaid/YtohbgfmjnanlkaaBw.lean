/- The model's reading of a branch from a longer list: contract of spec.l04Branch. Conditions: stated at the theorem. -/
import Derived.Test.YtohbgfmjnanlkaaZI
namespace Go.Proofs.Ytohbgfmjnanlkaa
open Go.ChangeShapes Go.WideShapes Go.ChangeAt Go.RowKit Go.Deep
set_option linter.unusedVariables false
set_option linter.unusedSimpArgs false

theorem bs_dscW {L : List Int} (h1 : 1 ≤ L.length) (h3 : ∀ x ∈ L, 1 ≤ x ∧ x ≤ 64) (hb : bsB L = true) : dsc (L[0]?.getD 0) L := by
  unfold bsB at hb
  split at hb
  · cases hb
  · rename_i p hp
    simp only [Bool.and_eq_true, decide_eq_true_eq] at hb
    have h0 : (1 : Int) ≤ L[0]?.getD 0 := by
      have := (h3 L[0] (List.getElem_mem (by omega))).1
      simpa [show 0 < L.length by omega] using this
    exact rd_dsc 65 _ 0 L h0 (fun x hx => (h3 x hx).1) p.1 p.2 hp hb.2

end Go.Proofs.Ytohbgfmjnanlkaa
