/- Generators of semigroups: plain mathematics of chapter 5. Conditions: stated at each theorem. -/
import Derived.Test.YtncgkoanckefmaaBrM
namespace Go.Proofs.Ytncgkoanckefmaa
set_option linter.unusedVariables false

/-- The generators behind the divisor e and the shift s. -/
def gnL (e s : Int) : List Int → List Int
  | [] => []
  | z :: zs => (z + s) :: gnL (Int.gcd e z : Int) (e.tdiv (Int.gcd e z : Int) * (z + s) - z) zs
/-- The generators of a branch. -/
def gnB (zs : List Int) : List Int := gnL (zs[0]?.getD 0) 0 zs
theorem gnL_len (e s : Int) (zs : List Int) : (gnL e s zs).length = zs.length := by
  induction zs generalizing e s with
  | nil => rfl
  | cons z zs ih => simp [gnL, ih]
theorem gnB_len (zs : List Int) : (gnB zs).length = zs.length := gnL_len _ _ _

/-- What is known of the divisor e, the shift s and the last number p (n: the first number). -/
structure GSt (n e s p : Int) : Prop where
  e1 : 1 ≤ e
  en : e ≤ n
  n64 : n ≤ 64
  s0 : 0 ≤ s
  p0 : 0 ≤ p
  bd : e * (s + p) ≤ n * p
  dv : e ∣ s
theorem GSt.start {n : Int} (h1 : 1 ≤ n) (h2 : n ≤ 64) : GSt n n 0 0 := ⟨h1, Int.le_refl _, h2, by omega, by omega, by simp, ⟨0, by simp⟩⟩
theorem tdiv_mul_of_dvd {a b : Int} (h : b ∣ a) : a.tdiv b * b = a := by
  obtain ⟨k, rfl⟩ := h
  by_cases hb : b = 0
  · subst hb; simp
  · rw [Int.mul_tdiv_cancel_left _ hb, Int.mul_comm]
theorem gcd_shift {e s z : Int} (h : e ∣ s) : (Int.gcd e (z + s) : Int) = (Int.gcd e z : Int) := by
  obtain ⟨k, rfl⟩ := h
  rw [Int.gcd_add_mul_left_right]
theorem GSt.step {n e s p z : Int} (h : GSt n e s p) (hz : p ≤ z) (hz1 : 1 ≤ z) : GSt n (Int.gcd e z : Int) (e.tdiv (Int.gcd e z : Int) * (z + s) - z) z := by
  obtain ⟨e1, en, n64, s0, p0, bd, dv⟩ := h
  have hg := gcd_le_left (e := e) (z := z) e1
  have hd1 : (Int.gcd e z : Int) ∣ e := Int.gcd_dvd_left _ _
  have hd2 : (Int.gcd e z : Int) ∣ z := Int.gcd_dvd_right _ _
  have hm := tdiv_mul_of_dvd hd1
  generalize (Int.gcd e z : Int) = g at *
  generalize e.tdiv g = q at *
  have hq : 1 ≤ q := by
    by_cases h : 1 ≤ q
    · exact h
    · have h1 : q ≤ 0 := by omega
      have : q * g ≤ 0 * g := Int.mul_le_mul_of_nonneg_right h1 (by omega)
      omega
  have hv : 0 ≤ z + s := by omega
  refine ⟨hg.1, by omega, n64, ?_, by omega, ?_, ?_⟩
  · have : 1 * (z + s) ≤ q * (z + s) := Int.mul_le_mul_of_nonneg_right hq hv
    omega
  · have e0 : g * (q * (z + s) - z + z) = e * (z + s) := by
      rw [Int.sub_add_cancel, ← Int.mul_assoc, Int.mul_comm g q, hm]
    rw [e0]
    have h1 : e * (z - p) ≤ n * (z - p) := Int.mul_le_mul_of_nonneg_right en (by omega)
    have h2 : e * (z + s) = e * (s + p) + e * (z - p) := by rw [← Int.mul_add]; congr 1; omega
    have h3 : n * z = n * p + n * (z - p) := by rw [← Int.mul_add]; congr 1; omega
    omega
  · refine Int.dvd_sub (Int.dvd_trans ?_ (Int.dvd_mul_left _ _)) hd2
    exact Int.dvd_add hd2 (Int.dvd_trans hd1 dv)
/-- Bounds of the next generator and of its shift. -/
theorem GSt.bounds {n e s p z : Int} (h : GSt n e s p) (hz : p ≤ z) (hz1 : 1 ≤ z) (hz2 : z ≤ 2000) :
    (1 ≤ z + s ∧ z + s ≤ 128000) ∧ (1 ≤ e.tdiv (Int.gcd e z : Int) ∧ e.tdiv (Int.gcd e z : Int) ≤ 64) ∧ (0 ≤ e.tdiv (Int.gcd e z : Int) * (z + s) ∧ e.tdiv (Int.gcd e z : Int) * (z + s) ≤ 128000) ∧ 0 ≤ s ∧ s ≤ 128000 := by
  have h' := h.step hz hz1
  obtain ⟨e1, en, n64, s0, p0, bd, dv⟩ := h
  have hg := gcd_le_left (e := e) (z := z) e1
  have hd1 : (Int.gcd e z : Int) ∣ e := Int.gcd_dvd_left _ _
  have hm := tdiv_mul_of_dvd hd1
  obtain ⟨g1, gn, _, t0, _, bd', _⟩ := h'
  have hnz : n * z ≤ 64 * 2000 := by
    have h1 : n * z ≤ 64 * z := Int.mul_le_mul_of_nonneg_right n64 (by omega)
    omega
  generalize (Int.gcd e z : Int) = g at *
  have hv : 0 ≤ z + s := by omega
  generalize hq : e.tdiv g = q at *
  have h0 : g * (q * (z + s) - z + z) = g * (q * (z + s)) := by rw [Int.sub_add_cancel]
  rw [h0] at bd'
  have hqv : 0 ≤ q * (z + s) := by omega
  have h2 : 1 * (q * (z + s)) ≤ g * (q * (z + s)) := Int.mul_le_mul_of_nonneg_right hg.1 hqv
  have hq1 : 1 ≤ q := by
    by_cases h : 1 ≤ q
    · exact h
    · have h1 : q ≤ 0 := by omega
      have : q * g ≤ 0 * g := Int.mul_le_mul_of_nonneg_right h1 (by omega)
      omega
  have h3 : 1 * (z + s) ≤ q * (z + s) := Int.mul_le_mul_of_nonneg_right hq1 hv
  have h4 : q * 1 ≤ q * g := Int.mul_le_mul_of_nonneg_left hg.1 (by omega)
  omega

/-- The list of generators, a round further. -/
theorem gn_step {zs L : List Int} {n k : Nat} {e s : Int} (hl : zs.length = n) (hk : k < n) (h : gnB zs = L ++ gnL e s (zs.drop k)) :
    gnB zs = (L ++ [(zs[k]?.getD 0) + s]) ++ gnL (Int.gcd e (zs[k]?.getD 0) : Int) (e.tdiv (Int.gcd e (zs[k]?.getD 0) : Int) * ((zs[k]?.getD 0) + s) - (zs[k]?.getD 0)) (zs.drop (k + 1)) := by
  rw [h, drop_at hl hk]; simp [gnL]
theorem gn_end {zs L : List Int} {n : Nat} {e s : Int} (hl : zs.length = n) (h : gnB zs = L ++ gnL e s (zs.drop n)) : L = gnB zs := by
  rw [h, drop_end hl (Nat.le_refl _)]; simp [gnL]
/-- The numbers of a branch ascend. -/
theorem isB_asc {p e : Int} {zs : List Int} (h : isB p e zs = true) : ascB p zs = true := by
  rw [isB_split] at h; simp only [Bool.and_eq_true] at h; exact h.1
theorem asc_next : ∀ {p : Int} {zs : List Int} {i : Nat}, ascB p zs = true → i < zs.length → (if i = 0 then p else zs[i - 1]?.getD 0) < zs[i]?.getD (0 : Int) := by
  intro p zs
  induction zs generalizing p with
  | nil => intro i _ h; simp at h
  | cons z zs ih =>
    intro i h hi
    simp only [ascB, Bool.and_eq_true, decide_eq_true_eq] at h
    cases i with
    | zero => simpa using h.1.1
    | succ j =>
      have h2 := ih h.2 (i := j) (by simpa using hi)
      cases j with
      | zero => simpa using h2
      | succ l => simpa using h2
theorem br_next {zs : List Int} (hp : brB zs = true) {k : Nat} (h : k < zs.length) (hk : 1 ≤ k) : zs[k - 1]?.getD (0 : Int) < zs[k]?.getD (0 : Int) := by
  cases zs with
  | nil => cases hp
  | cons n r =>
    simp only [brB, Bool.and_eq_true] at hp
    obtain ⟨j, rfl⟩ : ∃ j, k = j + 1 := ⟨k - 1, by omega⟩
    have := asc_next (isB_asc hp.2) (i := j) (by simpa using h)
    cases j with
    | zero => simpa using this
    | succ l => simpa using this
theorem br_first {zs : List Int} (hp : brB zs = true) : (1 : Int) ≤ zs[0]?.getD 0 ∧ zs[0]?.getD 0 ≤ 64 := by
  cases zs with
  | nil => cases hp
  | cons n r =>
    simp only [brB, Bool.and_eq_true] at hp
    exact mulB_true.1 hp.1
/-- A prefix of the list of generators is in bounds. -/
theorem gn_all {n e s p : Int} : ∀ {zs : List Int}, GSt n e s p → (∀ z ∈ zs, 1 ≤ z ∧ z ≤ 2000) → ascB p zs = true → ∀ x ∈ gnL e s zs, 1 ≤ x ∧ x ≤ 128000 := by
  intro zs
  induction zs generalizing e s p with
  | nil => intro _ _ _ x hx; cases hx
  | cons z zs ih =>
    intro h hz ha x hx
    simp only [ascB, Bool.and_eq_true, decide_eq_true_eq] at ha
    have h1 := hz z (List.mem_cons_self ..)
    rcases List.mem_cons.1 hx with rfl | hx
    · exact (h.bounds (by omega) h1.1 h1.2).1
    · exact ih (h.step (by omega) h1.1) (fun y hy => hz y (List.mem_cons_of_mem _ hy)) ha.2 x hx
theorem gnB_all {zs : List Int} (hp : brB zs = true) : ∀ x ∈ gnB zs, 1 ≤ x ∧ x ≤ 128000 := by
  cases zs with
  | nil => cases hp
  | cons n r =>
    have hd := brB_dcB hp
    simp only [brB, Bool.and_eq_true] at hp
    have hm := mulB_true.1 hp.1
    refine gn_all (n := n) (p := 0) (zs := n :: r) (GSt.start hm.1 hm.2) (dcB_range hd) ?_
    have := isB_asc hp.2
    simp only [ascB, Bool.and_eq_true, decide_eq_true_eq]
    exact ⟨by omega, this⟩
theorem pre_of {A : Type} {G L T : List A} {d : A} (h : G = L ++ T) {i : Nat} (hi : i < L.length) : L[i]?.getD d = G[i]?.getD d := by
  rw [h, List.getElem?_append_left hi]
theorem all_at {L : List Int} {P : Int → Prop} (h : ∀ x ∈ L, P x) {i : Nat} (hi : i < L.length) : P (L[i]?.getD 0) := by
  have := h L[i] (List.getElem_mem _); simpa [hi] using this
/-- The divisors of a branch and the list of generators, index by index. -/
theorem dv_at {e : Int} : ∀ {zs : List Int} {i : Nat}, i < zs.length → (dvL e zs)[i]?.getD 0 = (Int.gcd (if i = 0 then e else (dvL e zs)[i - 1]?.getD 0) (zs[i]?.getD 0) : Int) := by
  intro zs
  induction zs generalizing e with
  | nil => intro i h; simp at h
  | cons z zs ih =>
    intro i h
    cases i with
    | zero => simp [dvL]
    | succ j =>
      have h2 := ih (e := (Int.gcd e z : Int)) (i := j) (by simpa using h)
      cases j with
      | zero => simpa [dvL] using h2
      | succ l => simpa [dvL] using h2
end Go.Proofs.Ytncgkoanckefmaa
