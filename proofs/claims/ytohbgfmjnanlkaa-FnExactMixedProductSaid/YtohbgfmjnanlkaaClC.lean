/- Clusters: weights of simple clusters, the inverse of the proximity matrix: contracts. Conditions: stated at each theorem. -/
import Derived.Test.YtohbgfmjnanlkaaClB
namespace Go.Proofs.Ytohbgfmjnanlkaa
open Go.ChangeShapes Go.WideShapes Go.ChangeAt Go.RowKit Go.Deep
set_option linter.unusedVariables false
set_option linter.unusedSimpArgs false

theorem un_at {i n : Nat} (hi : i < n) (x : Nat) : (fnL (unF i) n)[x]?.getD 0 = unF i x := by
  by_cases h : x < n
  · exact fnL_at h
  · unfold unF
    rw [if_neg (by omega), List.getElem?_eq_none (by rw [fnL_len]; omega)]; rfl
theorem wt_un (P S : List Int) {i n : Nat} (hi : i < n) : wtL P S (fnL (unF i) n) n = smL P S n i := by
  unfold wtL smL smF1
  rw [show (fun x => (fnL (unF i) n)[x]?.getD 0) = unF i from funext fun x => un_at hi x]
theorem un_made {w : World} {g n i : Nat} (h : w.rowIs g 2 n (fun _ => .int .i64 0)) (hg : g < w.heap.size) (hi : i < n) (hn : n ≤ 1048576) : OwnI (w.setCell ⟨g, i, none⟩ (.int .i64 1)) g (g + 1) (.slice (some ⟨g, 0, none⟩) n n) (fnL (unF i) n) :=
  row_ownC ((h.set i (.int .i64 1)).congr fun x hx => by
    unfold unF
    by_cases e : x = i
    · rw [if_pos e, if_pos e]
    · rw [if_neg e, if_neg e]) (by simpa [World.setCell] using hg) hn
theorem un_rng (i x : Nat) : 0 ≤ unF i x ∧ unF i x ≤ 1 := by unfold unF; split <;> decide
def ivA (P S W : List Int) : List (List Int) := if clB P S W then ivQ P S P.length else []
theorem ivA_no {P S W : List Int} (h : clB P S W = false) : ivA P S W = [] := by simp [ivA, h]
theorem ivA_yes {P S W : List Int} {n : Nat} (h : ClOK P S W n) : ivA P S W = ivQ P S n := by simp [ivA, h.b, h.p]
theorem ivA_len (P S W : List Int) : szTot (ivA P S W) ≤ 549755813888 := by
  cases h : clB P S W with
  | false => rw [ivA_no h]; exact szTot_cl (by simp) (by simp)
  | true =>
    obtain ⟨n, hC⟩ := clB_true h
    have hn := hC.hi
    rw [ivA_yes hC]
    refine szTot_cl (by rw [ivQ_len]; exact hn) fun i => ?_
    by_cases hi : i < n
    · rw [ivQ_at hi, smL_len]; exact hn
    · rw [List.getD, List.getElem?_eq_none (by rw [ivQ_len]; omega)]; simp

end Go.Proofs.Ytohbgfmjnanlkaa
