/- Plain mathematics of the steps of Euclid: their sum, their number, the value of the continued fraction. No call is walked here. -/
import Derived.Test.YtbipihamkfifjaaSteps
import Derived.Test.YtbipihamkfifjaaFv
import Derived.Test.YtbipihamkfifjaaNf
namespace Go.Proofs.Ytbipihamkfifjaa
open Go.ChangeShapes Go.WideShapes Go.ChangeAt Go.RowKit
set_option linter.unusedVariables false

/-- The value of a list from its end on. -/
def nvF (s : Int) : List Int → Option (Int × Int)
  | [] => some (1, 0)
  | z :: zs => (nvF s zs).bind fun p => if 1000000000 < z * p.1 + s * p.2 then none else some (z * p.1 + s * p.2, p.1)
theorem nvF_drop_none (s : Int) (zs : List Int) : ∀ k, k ≤ zs.length → nvF s (zs.drop k) = none → nvF s zs = none
  | 0, _, h => by simpa using h
  | k + 1, hk, h => nvF_drop_none s zs k (by omega) (by rw [drop_cons' zs k (by omega)]; simp [nvF, h])
theorem nvS_eq (s : Int) (zs : List Int) : ∀ (k : Nat) (t b : Int), k ≤ zs.length → nvF s (zs.drop k) = some (t, b) → nvS s zs k t b = nvF s zs
  | 0, t, b, _, h => by simpa [nvS] using h.symm
  | k + 1, t, b, hk, h => by
    have hd := drop_cons' zs k (by omega)
    by_cases hm : 1000000000 < zs[k]?.getD 0 * t + s * b
    · have e : nvF s (zs.drop k) = none := by rw [hd]; simp [nvF, h, hm]
      rw [nvS, if_pos hm, nvF_drop_none s zs k (by omega) e]
    · have e : nvF s (zs.drop k) = some (zs[k]?.getD 0 * t + s * b, t) := by rw [hd]; simp [nvF, h, hm]
      rw [nvS, if_neg hm]
      exact nvS_eq s zs k _ _ (by omega) e
theorem nvS_all (s : Int) (zs : List Int) : nvS s zs zs.length 1 0 = nvF s zs :=
  nvS_eq s zs zs.length 1 0 (Nat.le_refl _) (by simp [nvF])

theorem stL_zero (f : Nat) (a : Int) : stL f a 0 = [] := by cases f <;> simp [stL]
theorem stL_cons {f : Nat} {a b : Int} (hb : 0 < b) : stL (f + 1) a b = (a / b, b) :: stL f b (a % b) := by rw [stL, if_neg (by omega)]

/-- The sum of q r r over the steps is a b. -/
def sumS (L : List (Int × Int)) : Int := (L.map fun p => p.1 * p.2 * p.2).sum
theorem sum_steps : ∀ (f : Nat) (a b : Int), 0 ≤ b → b.toNat < f → sumS (stL f a b) = a * b
  | 0, a, b, _, h => by omega
  | f + 1, a, b, h0, h => by
    by_cases hb : 0 < b
    · have hm : 0 ≤ a % b ∧ a % b < b := ⟨Int.emod_nonneg _ (by omega), Int.emod_lt_of_pos _ hb⟩
      have ih := sum_steps f b (a % b) hm.1 (by omega)
      have e : a = a / b * b + a % b := by have := Int.mul_ediv_add_emod a b; rw [Int.mul_comm] at this; omega
      rw [stL_cons hb]
      simp only [sumS, List.map_cons, List.sum_cons] at ih ⊢
      rw [ih]
      conv => rhs; rw [e]
      rw [Int.add_mul, Int.mul_comm (a % b) b]
    · obtain rfl : b = 0 := by omega
      rw [stL_zero]; simp [sumS]

/-- At most 2 n steps for b below 2^n. -/
theorem steps_le : ∀ (n f : Nat) (a b : Int), 0 ≤ b → b < 2 ^ n → (stL f a b).length ≤ 2 * n
  | 0, f, a, b, h0, h => by
    obtain rfl : b = 0 := by simp at h; omega
    rw [stL_zero]; simp
  | n + 1, f, a, b, h0, h => by
    by_cases hb : 0 < b
    · rcases f with _ | f
      · simp [stL]
      have hm : 0 ≤ a % b ∧ a % b < b := ⟨Int.emod_nonneg _ (by omega), Int.emod_lt_of_pos _ hb⟩
      rw [stL_cons hb]
      by_cases hr : 0 < a % b
      · rcases f with _ | f
        · simp [stL]; omega
        have hm2 : 0 ≤ b % (a % b) ∧ b % (a % b) < a % b := ⟨Int.emod_nonneg _ (by omega), Int.emod_lt_of_pos _ hr⟩
        have hq : 1 ≤ b / (a % b) := by
          have := Int.le_ediv_of_mul_le hr (a := 1) (b := b) (by omega)
          omega
        have he := Int.mul_ediv_add_emod b (a % b)
        have hmul : (a % b) * 1 ≤ (a % b) * (b / (a % b)) := Int.mul_le_mul_of_nonneg_left hq (by omega)
        have hp : (2 : Int) ^ (n + 1) = 2 * 2 ^ n := by rw [Int.pow_succ]; omega
        have ih := steps_le n f (a % b) (b % (a % b)) hm2.1 (by omega)
        rw [stL_cons hr]; simp only [List.length_cons]; omega
      · have e : a % b = 0 := by omega
        rw [e, stL_zero]; simp; omega
    · obtain rfl : b = 0 := by omega
      rw [stL_zero]; simp
theorem steps_64 (a b : Int) (hb : 0 ≤ b ∧ b ≤ 1000000000) : (steps a b).length ≤ 60 := steps_le 30 _ a b hb.1 (by omega)

/-- The quotients are in their ranges. -/
theorem okL_steps : ∀ (f : Nat) (a b l : Int), 1 ≤ a ∧ a ≤ 1000000000 → 0 ≤ b ∧ b ≤ 1000000000 → (l ≤ 0 ∨ (l ≤ 1 ∧ b ≤ a)) → okL l 1 ((stL f a b).map (·.1)) = true
  | 0, a, b, l, _, _, _ => by simp [stL, okL]
  | f + 1, a, b, l, ha, h0, hl => by
    by_cases hb : 0 < b
    · have hm : 0 ≤ a % b ∧ a % b < b := ⟨Int.emod_nonneg _ (by omega), Int.emod_lt_of_pos _ hb⟩
      have hq : 0 ≤ a / b ∧ a / b ≤ a := ⟨Int.ediv_nonneg (by omega) (by omega), Int.ediv_le_self _ (by omega)⟩
      rw [stL_cons hb]
      simp only [List.map_cons, okL, Bool.and_eq_true, decide_eq_true_eq]
      refine ⟨⟨?_, by omega⟩, okL_steps f b (a % b) 1 (by omega) (by omega) (.inr (by omega))⟩
      rcases hl with hl | ⟨hl, hba⟩
      · omega
      · have := Int.le_ediv_of_mul_le hb (a := 1) (b := a) (by omega)
        omega
    · obtain rfl : b = 0 := by omega
      rw [stL_zero]; simp [okL]

/-- The continued fraction of a / b has the value a / b, in lowest terms. -/
theorem cf_val : ∀ (f : Nat) (a b : Int), 1 ≤ a ∧ a ≤ 1000000000 → 0 ≤ b ∧ b ≤ 1000000000 → b.toNat < f →
    nvF 1 ((stL f a b).map (·.1)) = some (a / (Int.gcd a b : Int), b / (Int.gcd a b : Int))
  | 0, a, b, _, _, h => by omega
  | f + 1, a, b, ha, h0, h => by
    by_cases hb : 0 < b
    · have hm : 0 ≤ a % b ∧ a % b < b := ⟨Int.emod_nonneg _ (by omega), Int.emod_lt_of_pos _ hb⟩
      have ih := cf_val f b (a % b) (by omega) (by omega) (by omega)
      rw [gcd_emod] at ih
      have hg : 0 < (Int.gcd a b : Int) := by
        have := Int.gcd_pos_of_ne_zero_right a (show b ≠ 0 by omega); omega
      obtain ⟨b', hb'⟩ := Int.gcd_dvd_right (a := a) (b := b)
      have hd : (Int.gcd a b : Int) ∣ a % b := by
        have h1 := Int.gcd_dvd_right (a := b) (b := a % b)
        rwa [gcd_emod] at h1
      obtain ⟨r', hr'⟩ := hd
      have e : a = a / b * b + a % b := by have := Int.mul_ediv_add_emod a b; rw [Int.mul_comm] at this; omega
      generalize hG : (Int.gcd a b : Int) = G at *
      have e1 : b / G = b' := by
        have := Int.mul_ediv_cancel_left b' (show G ≠ 0 by omega)
        rw [← hb'] at this; exact this
      have e2 : a % b / G = r' := by
        have := Int.mul_ediv_cancel_left r' (show G ≠ 0 by omega)
        rw [← hr'] at this; exact this
      have e3 : a = G * (a / b * b' + r') := by
        rw [Int.mul_add, ← hr', Int.mul_left_comm, ← hb']; exact e
      have e4 : a / G = a / b * b' + r' := by
        have := Int.mul_ediv_cancel_left (a / b * b' + r') (show G ≠ 0 by omega)
        rw [← e3] at this; exact this
      have hle : a / G ≤ a := Int.ediv_le_self _ (by omega)
      rw [stL_cons hb]
      simp only [List.map_cons, nvF, ih, Option.bind_some]
      rw [e1, e2, Int.one_mul, ← e4, if_neg (by omega)]
    · obtain rfl : b = 0 := by omega
      rw [stL_zero]
      have e : (Int.gcd a 0 : Int) = a := by simp; omega
      rw [e]
      simp only [List.map_nil, nvF, Int.zero_ediv]
      rw [Int.ediv_self (by omega)]
theorem cf_nvR (a b : Int) (ha : 1 ≤ a ∧ a ≤ 1000000000) (hb : 1 ≤ b ∧ b ≤ 1000000000) :
    nvR 0 1 1 ((steps a b).map (·.1)) = (a / (Int.gcd a b : Int), b / (Int.gcd a b : Int), 0) := by
  have hl := steps_64 a b (by omega)
  have h1 : 1 ≤ (steps a b).length := by
    unfold steps; rw [stL_cons (by omega)]; simp
  have hv := cf_val (b.toNat + 1) a b ha (by omega) (by omega)
  have ho := okL_steps (b.toNat + 1) a b 0 ha (by omega) (.inl (by omega))
  unfold nvR
  have hL : ((steps a b).map (·.1)).length = (steps a b).length := by simp
  rw [if_neg (by omega), nvS_all]
  unfold steps
  rw [if_pos ho, hv]

/-- The negative continued fraction of a / b has the value a / b. -/
theorem nf_val : ∀ (k : Nat) (a b : Int) (l : List Int), 1 ≤ a ∧ a ≤ 1000000000 → 0 ≤ b ∧ b < a ∨ b = 0 → Int.gcd a b = 1 → nfL k a b = some l → nvF (-1) l = some (a, b) ∧ okL 2 2 l = true
  | 0, a, b, l, ha, hb, hg, h => by
    unfold nfL at h
    split at h
    · cases h
      obtain rfl : b = 0 := by omega
      have : a = 1 := by simp at hg; omega
      simp [nvF, okL, this]
    · cases h
  | k + 1, a, b, l, ha, hb, hg, h => by
    unfold nfL at h
    split at h
    · cases h
      obtain rfl : b = 0 := by omega
      have : a = 1 := by simp at hg; omega
      simp [nvF, okL, this]
    · rename_i hb0
      have hc := ceil_in ha.1 (show 1 ≤ b by omega)
      cases hx : nfL k b ((a + b - 1) / b * b - a) with
      | none => rw [hx] at h; cases h
      | some l' =>
        rw [hx] at h
        cases h
        have hg2 : Int.gcd b ((a + b - 1) / b * b - a) = 1 := by
          rw [Int.gcd_comm] at hg
          rw [← hg]
          have e : (a + b - 1) / b * b - a = -a + b * ((a + b - 1) / b) := by rw [Int.mul_comm]; omega
          rw [e]; simp
        have ih := nf_val k b _ l' (by omega) (.inl (by omega)) hg2 hx
        have hc2 : 2 ≤ (a + b - 1) / b := by
          have := Int.le_ediv_of_mul_le (show 0 < b by omega) (a := 2) (b := a + b - 1) (by omega)
          omega
        have hc3 : (a + b - 1) / b ≤ 1000000000 := by
          have h3 : (a + b - 1) / b < a + 1 := Int.ediv_lt_of_lt_mul (by omega) (by
            have h5 : a * 1 ≤ a * b := Int.mul_le_mul_of_nonneg_left (by omega) (by omega)
            rw [Int.add_mul, Int.one_mul]
            omega)
          omega
        refine ⟨?_, by simp [okL, ih.2]; omega⟩
        simp only [nvF, ih.1, Option.bind_some]
        rw [show (a + b - 1) / b * b + -1 * ((a + b - 1) / b * b - a) = a by omega, if_neg (by omega)]
theorem nf_nvR (a b : Int) (l : List Int) (ha : 1 ≤ a ∧ a ≤ 1000000000) (hb : 1 ≤ b ∧ b < a) (hg : Int.gcd a b = 1) (h : nfL 1000 a b = some l) (hl : l.length ≤ 64) : nvR 2 2 (-1) l = (a, b, 0) := by
  have hv := nf_val 1000 a b l ha (.inl (by omega)) hg h
  have h1 : l ≠ [] := by
    rintro rfl
    have := hv.1
    simp [nvF] at this
    omega
  have h2 : l.length ≠ 0 := by simpa using h1
  unfold nvR
  rw [if_neg (by omega), nvS_all, if_pos hv.2, hv.1]
end Go.Proofs.Ytbipihamkfifjaa
