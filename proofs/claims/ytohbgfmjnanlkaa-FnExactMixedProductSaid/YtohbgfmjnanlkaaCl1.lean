/- Clusters: satellites, delta invariants: contracts. Conditions: stated at each theorem. -/
import Derived.Test.YtohbgfmjnanlkaaClZ
namespace Go.Proofs.Ytohbgfmjnanlkaa
open Go.ChangeShapes Go.WideShapes Go.ChangeAt Go.RowKit Go.Deep
set_option linter.unusedVariables false
set_option linter.unusedSimpArgs false

/-- The satellites before k. -/
def satL (S : List Int) : Nat → List Int
  | 0 => []
  | k + 1 => satL S k ++ if 0 ≤ S[k]?.getD 0 then [(k : Int)] else []
theorem satL_len (S : List Int) : ∀ k, (satL S k).length ≤ k
  | 0 => Nat.le_refl _
  | k + 1 => by
    have := satL_len S k
    show (satL S k ++ _).length ≤ k + 1
    rw [List.length_append]; split <;> simp <;> omega
theorem satL_yes {S : List Int} {k : Nat} (h : 0 ≤ S[k]?.getD 0) : satL S (k + 1) = satL S k ++ [(k : Int)] := by show satL S k ++ _ = _; rw [if_pos h]
theorem satL_no {S : List Int} {k : Nat} (h : ¬ 0 ≤ S[k]?.getD 0) : satL S (k + 1) = satL S k := by show satL S k ++ _ = _; rw [if_neg h]; simp
def saA (P S W : List Int) : List Int := if clB P S W then satL S P.length else []
theorem saA_no {P S W : List Int} (h : clB P S W = false) : saA P S W = [] := by simp [saA, h]
theorem saA_yes {P S W : List Int} {n : Nat} (h : ClOK P S W n) : saA P S W = satL S n := by simp [saA, h.b, h.p]
theorem saA_len (P S W : List Int) : (saA P S W).length ≤ 24 := by
  cases h : clB P S W with
  | false => rw [saA_no h]; simp
  | true => obtain ⟨n, hC⟩ := clB_true h; rw [saA_yes hC]; exact Nat.le_trans (satL_len _ _) hC.hi
/-- The sum of w (w - 1) / 2 over the first k weights. -/
def dlN (W : List Int) : Nat → Int
  | 0 => 0
  | k + 1 => dlN W k + W[k]?.getD 0 * (W[k]?.getD 0 - 1) / 2
theorem sq_rng {z : Int} (h : -100000 ≤ z ∧ z ≤ 100000) : 0 ≤ z * (z - 1) ∧ z * (z - 1) ≤ 10000100000 := by
  by_cases h0 : z ≤ 0
  · have h1 : 0 ≤ (-z) * (1 - z) := Int.mul_nonneg (by omega) (by omega)
    have h2 : (-z) * (1 - z) ≤ 100000 * 100001 := Int.mul_le_mul (by omega) (by omega) (by omega) (by omega)
    have h3 : (-z) * (1 - z) = z * (z - 1) := by rw [Int.neg_mul, Int.mul_sub, Int.mul_sub]; omega
    rw [h3] at h1 h2; omega
  · have h1 : 0 ≤ z * (z - 1) := Int.mul_nonneg (by omega) (by omega)
    have h2 : z * (z - 1) ≤ 100000 * 99999 := Int.mul_le_mul (by omega) (by omega) (by omega) (by omega)
    omega
theorem dlN_rng {W : List Int} (h : wtOK W = true) : ∀ k, 0 ≤ dlN W k ∧ dlN W k ≤ 5000050000 * k
  | 0 => by simp [dlN]
  | k + 1 => by
    have h1 := dlN_rng h k
    have h2 := sq_rng (wt_rng h k)
    have e : (5000050000 : Int) * ((k + 1 : Nat) : Int) = 5000050000 * (k : Int) + 5000050000 := by push_cast; omega
    show 0 ≤ dlN W k + _ ∧ dlN W k + _ ≤ _
    omega
def deA (P S W : List Int) : Int := if clB P S W then dlN W P.length else 0
theorem deA_no {P S W : List Int} (h : clB P S W = false) : deA P S W = 0 := by simp [deA, h]
theorem deA_yes {P S W : List Int} {n : Nat} (h : ClOK P S W n) : deA P S W = dlN W n := by simp [deA, h.b, h.p]

end Go.Proofs.Ytohbgfmjnanlkaa
