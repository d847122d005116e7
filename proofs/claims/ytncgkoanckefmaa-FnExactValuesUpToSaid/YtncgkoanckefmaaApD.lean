/- Apery lists by digits: plain mathematics of chapter 5. Conditions: stated at each theorem. -/
import Derived.Test.YtncgkoanckefmaaApM
namespace Go.Proofs.Ytncgkoanckefmaa
set_option linter.unusedVariables false

/-- The sum of the first i digits of v, each times its generator, and what is left of v. -/
def dS (zs : List Int) (v : Int) : Nat → Int × Int
  | 0 => (0, v)
  | i + 1 => ((dS zs v i).1 + (dS zs v i).2.tmod (nnA zs i) * gnA zs (i + 1), (dS zs v i).2.tdiv (nnA zs i))
theorem dS_step (zs : List Int) (v : Int) (i : Nat) : dS zs v (i + 1) = ((dS zs v i).1 + (dS zs v i).2.tmod (nnA zs i) * gnA zs (i + 1), (dS zs v i).2.tdiv (nnA zs i)) := rfl
theorem dS_rest {zs : List Int} (hp : brB zs = true) {v : Int} (hv : 0 ≤ v) : ∀ {i : Nat}, i < zs.length → 0 ≤ (dS zs v i).2 ∧ (dS zs v i).2 ≤ v
  | 0, _ => ⟨hv, Int.le_refl _⟩
  | i + 1, hi => by
    have h1 := dS_rest hp hv (i := i) (by omega)
    have h2 := nnA_pos hp hi
    rw [dS_step]
    refine ⟨Int.tdiv_nonneg h1.1 (by omega), ?_⟩
    show (dS zs v i).2.tdiv (nnA zs i) ≤ v
    rw [Int.tdiv_eq_ediv_of_nonneg h1.1]
    have := Int.ediv_le_self (a := (dS zs v i).2) (nnA zs i) h1.1
    omega
theorem dS_digit {zs : List Int} (hp : brB zs = true) {v : Int} (hv : 0 ≤ v) {i : Nat} (hi : i + 1 < zs.length) : 0 ≤ (dS zs v i).2.tmod (nnA zs i) ∧ (dS zs v i).2.tmod (nnA zs i) < nnA zs i ∧ (dS zs v i).2.tmod (nnA zs i) ≤ 64 := by
  have h1 := dS_rest hp hv (i := i) (by omega)
  have h2 := nnA_pos hp hi
  rw [Int.tmod_eq_emod_of_nonneg h1.1]
  have h3 := Int.emod_nonneg (dS zs v i).2 (show nnA zs i ≠ 0 by omega)
  have h4 := Int.emod_lt_of_pos (dS zs v i).2 (show 0 < nnA zs i by omega)
  omega
theorem dS_rp {zs : List Int} (hp : brB zs = true) {v : Int} (hv : 0 ≤ v) : ∀ {i : Nat}, i < zs.length → dvA zs i ∣ (dS zs v i).1 ∧ rpV zs i (dS zs v i).1 = 0 ∧ 0 ≤ (dS zs v i).1
  | 0, _ => ⟨Int.dvd_zero _, rfl, Int.le_refl _⟩
  | i + 1, hi => by
    obtain ⟨h1, h2, h3⟩ := dS_rp hp hv (i := i) (by omega)
    have hd := dS_digit hp hv hi
    have hg := gnA_pos hp hi
    rw [dS_step]
    obtain ⟨c, hc⟩ : ∃ c : Nat, (dS zs v i).2.tmod (nnA zs i) = (c : Int) := ⟨((dS zs v i).2.tmod (nnA zs i)).toNat, by omega⟩
    rw [hc] at hd ⊢
    have e1 : (dS zs v i).1 + (c : Int) * gnA zs (i + 1) - (c : Int) * gnA zs (i + 1) = (dS zs v i).1 := by omega
    have h4 : 0 ≤ (c : Int) * gnA zs (i + 1) := Int.mul_nonneg (by omega) (by omega)
    have h5 : rcA zs i ((dS zs v i).1 + (c : Int) * gnA zs (i + 1)) = c := rcA_is hp hi hd.2.1 (by rw [e1]; exact h1)
    refine ⟨Int.dvd_add (Int.dvd_trans (dvA_dvd hp hi).1 h1) (Int.dvd_trans (dvA_dvd hp hi).2 (Int.dvd_mul_left _ _)), ?_, by show 0 ≤ (dS zs v i).1 + (c : Int) * gnA zs (i + 1); omega⟩
    show rpV zs (i + 1) ((dS zs v i).1 + (c : Int) * gnA zs (i + 1)) = 0
    rw [rpV_step, h5, e1]
    exact h2
theorem dS_last {zs : List Int} (hp : brB zs = true) {v : Int} (hv : 0 ≤ v) : apA zs (dS zs v (zs.length - 1)).1 = (dS zs v (zs.length - 1)).1 := by
  have h0 := brB_pos hp
  have := (dS_rp hp hv (i := zs.length - 1) (by omega)).2.1
  unfold apA
  omega
theorem dS_range {zs : List Int} (hp : brB zs = true) {v : Int} (hv : 0 ≤ v) {i : Nat} (hi : i < zs.length) : 0 ≤ (dS zs v i).1 ∧ (dS zs v i).1 ≤ 8192000 := by
  obtain ⟨h1, h2, h3⟩ := dS_rp hp hv hi
  refine ⟨h3, ?_⟩
  by_cases hl : i + 1 < zs.length
  · have h4 := rpV_low hp hl h1
    have h5 := gnA_pos hp hl
    omega
  · have e : i = zs.length - 1 := by omega
    rw [e]
    have h4 := dS_last hp hv
    have h5 := apA_range hp (dS zs v (zs.length - 1)).1
    omega
def pP (zs : List Int) : Nat → Int
  | 0 => 1
  | i + 1 => pP zs i * nnA zs i
theorem pP_mul {zs : List Int} (hp : brB zs = true) : ∀ {i : Nat}, i < zs.length → pP zs i * dvA zs i = dvA zs 0
  | 0, _ => by simp [pP]
  | i + 1, hi => by
    have h1 := pP_mul hp (i := i) (by omega)
    have h2 := nnA_mul hp hi
    show pP zs i * nnA zs i * dvA zs (i + 1) = dvA zs 0
    rw [Int.mul_assoc, h2, h1]
theorem pP_pos {zs : List Int} (hp : brB zs = true) : ∀ {i : Nat}, i < zs.length → 1 ≤ pP zs i
  | 0, _ => Int.le_refl _
  | i + 1, hi => by
    have h1 := pP_pos hp (i := i) (by omega)
    have h2 := nnA_pos hp hi
    have : 1 * 1 ≤ pP zs i * nnA zs i := Int.mul_le_mul h1 h2.1 (by omega) (by omega)
    show 1 ≤ pP zs i * nnA zs i
    omega
theorem dS_shift {zs : List Int} (hp : brB zs = true) : ∀ {i : Nat} {v t : Int}, i < zs.length → 0 ≤ v → 0 ≤ t → dS zs (v + pP zs i * t) i = ((dS zs v i).1, (dS zs v i).2 + t)
  | 0, v, t, _, _, _ => by simp [dS, pP]
  | i + 1, v, t, hi, hv, ht => by
    have hn := nnA_pos hp hi
    have h1 := dS_shift hp (i := i) (v := v) (t := nnA zs i * t) (by omega) hv (Int.mul_nonneg (by omega) ht)
    have hr := dS_rest hp hv (i := i) (by omega)
    have e1 : v + pP zs (i + 1) * t = v + pP zs i * (nnA zs i * t) := by
      show v + pP zs i * nnA zs i * t = _
      rw [Int.mul_assoc]
    rw [e1, dS_step, h1, dS_step]
    have h2 : 0 ≤ nnA zs i * t := Int.mul_nonneg (by omega) ht
    show ((dS zs v i).1 + ((dS zs v i).2 + nnA zs i * t).tmod (nnA zs i) * gnA zs (i + 1), ((dS zs v i).2 + nnA zs i * t).tdiv (nnA zs i)) = ((dS zs v i).1 + (dS zs v i).2.tmod (nnA zs i) * gnA zs (i + 1), (dS zs v i).2.tdiv (nnA zs i) + t)
    rw [Int.tmod_eq_emod_of_nonneg (by omega), Int.tmod_eq_emod_of_nonneg hr.1, Int.tdiv_eq_ediv_of_nonneg (by omega), Int.tdiv_eq_ediv_of_nonneg hr.1, Int.add_mul_emod_self_left, Int.add_mul_ediv_left _ _ (by omega)]
/-- The number whose digits are the counts of u. -/
def vOf (zs : List Int) : Nat → Int → Int
  | 0, _ => 0
  | i + 1, u => vOf zs i (u - (rcA zs i u : Int) * gnA zs (i + 1)) + pP zs i * (rcA zs i u : Int)
theorem vOf_range {zs : List Int} (hp : brB zs = true) : ∀ {i : Nat} {u : Int}, i < zs.length → dvA zs i ∣ u → 0 ≤ vOf zs i u ∧ vOf zs i u < pP zs i
  | 0, u, _, _ => ⟨Int.le_refl _, by show (0 : Int) < 1; decide⟩
  | i + 1, u, hi, hd => by
    have hl := rc_level hp hi hd
    have hc := rcA_lt hp hi hd
    have hP := pP_pos hp (i := i) (by omega)
    have h1 := vOf_range hp (i := i) (u := u - (rcA zs i u : Int) * gnA zs (i + 1)) (by omega) hl.2.2
    have h2 : 0 ≤ pP zs i * (rcA zs i u : Int) := Int.mul_nonneg (by omega) (by omega)
    have h3 : pP zs i * ((rcA zs i u : Int) + 1) ≤ pP zs i * nnA zs i := Int.mul_le_mul_of_nonneg_left (by omega) (by omega)
    rw [Int.mul_add] at h3
    show 0 ≤ vOf zs i _ + _ ∧ vOf zs i _ + _ < pP zs i * nnA zs i
    omega
theorem dS_vOf {zs : List Int} (hp : brB zs = true) : ∀ {i : Nat} {u : Int}, i < zs.length → dvA zs i ∣ u → dS zs (vOf zs i u) i = (u - rpV zs i u, 0)
  | 0, u, _, _ => by show ((0 : Int), (0 : Int)) = (u - u, 0); simp
  | i + 1, u, hi, hd => by
    have hl := rc_level hp hi hd
    have hc := rcA_lt hp hi hd
    have hn := nnA_pos hp hi
    have hr := vOf_range hp (i := i) (u := u - (rcA zs i u : Int) * gnA zs (i + 1)) (by omega) hl.2.2
    have h1 := dS_vOf hp (i := i) (u := u - (rcA zs i u : Int) * gnA zs (i + 1)) (by omega) hl.2.2
    have h2 := dS_shift hp (i := i) (v := vOf zs i (u - (rcA zs i u : Int) * gnA zs (i + 1))) (t := (rcA zs i u : Int)) (by omega) hr.1 (by omega)
    rw [h1] at h2
    show dS zs (vOf zs i (u - (rcA zs i u : Int) * gnA zs (i + 1)) + pP zs i * (rcA zs i u : Int)) (i + 1) = _
    rw [dS_step, h2, rpV_step]
    show (u - (rcA zs i u : Int) * gnA zs (i + 1) - rpV zs i (u - (rcA zs i u : Int) * gnA zs (i + 1)) + (0 + (rcA zs i u : Int)).tmod (nnA zs i) * gnA zs (i + 1), (0 + (rcA zs i u : Int)).tdiv (nnA zs i)) = _
    rw [Int.zero_add, Int.tmod_eq_emod_of_nonneg (by omega), Int.tdiv_eq_ediv_of_nonneg (by omega), Int.emod_eq_of_lt (by omega) hc, Int.ediv_eq_zero_of_lt (by omega) hc]
    congr 1
    omega
/-- The list of the model, index by index, when the numbers less than k have been looked at. -/
def outF (zs : List Int) : Nat → Nat → Int
  | 0, _ => 0
  | k + 1, y => if y = ((dS zs (k : Int) (zs.length - 1)).1 % dvA zs 0).toNat then (dS zs (k : Int) (zs.length - 1)).1 else outF zs k y
theorem outF_eq {zs : List Int} (hp : brB zs = true) : ∀ (k y : Nat), (∃ v : Nat, v < k ∧ ((dS zs (v : Int) (zs.length - 1)).1 % dvA zs 0).toNat = y) → outF zs k y = apA zs (y : Int)
  | 0, _, ⟨_, h, _⟩ => by omega
  | k + 1, y, ⟨v, hv, he⟩ => by
    have hd := dvA_pos hp (i := 0) (brB_pos hp)
    unfold outF
    by_cases hy : y = ((dS zs (k : Int) (zs.length - 1)).1 % dvA zs 0).toNat
    · rw [if_pos hy]
      have h1 := Int.emod_nonneg (dS zs (k : Int) (zs.length - 1)).1 (show dvA zs 0 ≠ 0 by omega)
      have h2 : (y : Int) = (dS zs (k : Int) (zs.length - 1)).1 % dvA zs 0 := by omega
      rw [h2, apA_mod hp]
      exact (dS_last hp (by omega)).symm
    · rw [if_neg hy]
      have hvk : v ≠ k := by intro e; subst e; exact hy he.symm
      exact outF_eq hp k y ⟨v, by omega, he⟩
theorem outF_end {zs : List Int} (hp : brB zs = true) {N y : Nat} (hN : (N : Int) = dvA zs 0) (hy : y < N) : outF zs N y = apA zs (y : Int) := by
  have h0 := brB_pos hp
  have hd := dv_last_dvd hp (y : Int)
  have h1 := vOf_range hp (i := zs.length - 1) (u := (y : Int)) (by omega) hd
  have h2 := dS_vOf hp (i := zs.length - 1) (u := (y : Int)) (by omega) hd
  have h3 := pP_mul hp (i := zs.length - 1) (by omega)
  rw [dvA_last hp, Int.mul_one] at h3
  refine outF_eq hp N y ⟨(vOf zs (zs.length - 1) (y : Int)).toNat, by omega, ?_⟩
  have e : (((vOf zs (zs.length - 1) (y : Int)).toNat : Nat) : Int) = vOf zs (zs.length - 1) (y : Int) := by omega
  rw [e, h2]
  show (apA zs (y : Int) % dvA zs 0).toNat = y
  rw [apA_rem hp (by omega)]
  omega
end Go.Proofs.Ytncgkoanckefmaa
