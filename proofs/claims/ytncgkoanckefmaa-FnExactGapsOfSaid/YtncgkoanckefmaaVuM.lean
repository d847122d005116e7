/- Lists of values and of gaps: plain mathematics of chapter 5. Conditions: stated at each theorem. -/
import Derived.Test.YtncgkoanckefmaaApM
import Derived.Test.YtncgkoanckefmaaGnC
namespace Go.Proofs.Ytncgkoanckefmaa
set_option linter.unusedVariables false

/-- The numbers less than k that are values (or are none), in order. -/
def vlL (zs : List Int) (b : Bool) : Nat → List Int
  | 0 => []
  | k + 1 => if reB zs (k : Int) = b then vlL zs b k ++ [(k : Int)] else vlL zs b k
theorem vlL_len (zs : List Int) (b : Bool) : ∀ k, (vlL zs b k).length ≤ k
  | 0 => by simp [vlL]
  | k + 1 => by
    have := vlL_len zs b k
    unfold vlL
    split
    · simp; omega
    · omega
theorem vlL_yes {zs : List Int} {b : Bool} {k : Nat} (h : reB zs (k : Int) = b) : vlL zs b (k + 1) = vlL zs b k ++ [(k : Int)] := by rw [vlL, if_pos h]
theorem vlL_no {zs : List Int} {b : Bool} {k : Nat} (h : ¬ reB zs (k : Int) = b) : vlL zs b (k + 1) = vlL zs b k := by rw [vlL, if_neg h]
/-- What is taken away is bounded by the conductor. -/
theorem rp_cond {zs : List Int} (hp : brB zs = true) : ∀ {i : Nat} {v : Int}, i < zs.length → dvA zs i ∣ v → v - rpV zs i v ≤ cdS zs i + zs[0]?.getD 0 - 1
  | 0, v, _, _ => by show v - v ≤ 1 - zs[0]?.getD 0 + zs[0]?.getD 0 - 1; omega
  | i + 1, v, hi, hd => by
    have hl := rc_level hp hi hd
    have h1 := rp_cond hp (i := i) (v := v - (rcA zs i v : Int) * gnA zs (i + 1)) (by omega) hl.2.2
    have h2 := rcA_lt hp hi hd
    have h3 := gnA_pos hp hi
    have h4 : (rcA zs i v : Int) * gnA zs (i + 1) ≤ (nnA zs i - 1) * gnA zs (i + 1) := Int.mul_le_mul_of_nonneg_right (by omega) (by omega)
    rw [rpV_step]
    show v - rpV zs i _ ≤ cdS zs i + (nnA zs i - 1) * gnA zs (i + 1) + zs[0]?.getD 0 - 1
    omega
theorem apA_cond {zs : List Int} (hp : brB zs = true) (r : Int) : apA zs r ≤ cdB zs + dvA zs 0 - 1 := by
  have h0 := brB_pos hp
  have := rp_cond hp (i := zs.length - 1) (v := r) (by omega) (dv_last_dvd hp r)
  rw [dvA_first hp]
  exact this
/-- From the conductor on there are values only. -/
theorem reB_cond {zs : List Int} (hp : brB zs = true) {v : Int} (h : cdB zs ≤ v) : reB zs v = true := by
  rw [reB_ap hp]
  have h1 := apA_cond hp v
  obtain ⟨k, hk⟩ := apA_dvd hp v
  have hd := dvA_pos hp (i := 0) (brB_pos hp)
  by_cases h2 : apA zs v ≤ v
  · exact h2
  · have h3 : dvA zs 0 * (-k) < dvA zs 0 * 1 := by rw [Int.mul_neg]; omega
    have h4 : -k < 1 := Int.lt_of_mul_lt_mul_left h3 (by omega)
    have h5 : dvA zs 0 * 0 ≤ dvA zs 0 * k := Int.mul_le_mul_of_nonneg_left (by omega) (by omega)
    omega
theorem cdB_nonneg {zs : List Int} (hp : brB zs = true) : 0 ≤ cdB zs := by
  have hd := dvA_pos hp (i := 0) (brB_pos hp)
  have h1 := apA_cond hp (dvA zs 0 - 1)
  have h2 := (apA_range hp (dvA zs 0 - 1)).1
  have h3 := apA_rem hp (r := dvA zs 0 - 1) (by omega)
  have h4 := Int.emod_add_mul_ediv (apA zs (dvA zs 0 - 1)) (dvA zs 0)
  have h5 : 0 ≤ dvA zs 0 * (apA zs (dvA zs 0 - 1) / dvA zs 0) := Int.mul_nonneg (by omega) (Int.ediv_nonneg h2 (by omega))
  rw [h3] at h4
  omega
theorem vlL_cond {zs : List Int} (hp : brB zs = true) {c : Nat} (h : (c : Int) = cdB zs) : vlL zs false (c + 1) = vlL zs false c := by
  refine vlL_no ?_
  rw [reB_cond hp (by omega)]; decide
/-- The number at v of the polynomial. -/
def spB (zs : List Int) : Nat → Int
  | 0 => if reB zs 0 then 1 else 0
  | k + 1 => (if reB zs ((k + 1 : Nat) : Int) then 1 else 0) - (if reB zs (k : Int) then 1 else 0)
def spL (zs : List Int) (k : Nat) : List Int := (List.range k).map (spB zs)
theorem spL_len (zs : List Int) (k : Nat) : (spL zs k).length = k := by simp [spL]
theorem spL_succ (zs : List Int) (k : Nat) : spL zs (k + 1) = spL zs k ++ [spB zs k] := by simp [spL, List.range_succ]
theorem spL_at {zs : List Int} {k i : Nat} (h : i < k) : (spL zs k).getD i 0 = spB zs i := by simp [spL, List.getD, h]
end Go.Proofs.Ytncgkoanckefmaa
