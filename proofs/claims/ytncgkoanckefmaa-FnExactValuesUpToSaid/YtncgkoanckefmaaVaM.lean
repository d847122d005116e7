/- Values of semigroups: plain mathematics of chapter 5. Conditions: stated at each theorem. -/
import Derived.Test.YtncgkoanckefmaaRpM
namespace Go.Proofs.Ytncgkoanckefmaa
set_option linter.unusedVariables false

/-- The number n(i + 1). -/
def nnA (zs : List Int) (i : Nat) : Int := (dvA zs i).tdiv (dvA zs (i + 1))
theorem nnA_mul {zs : List Int} (hp : brB zs = true) {i : Nat} (h : i + 1 < zs.length) : nnA zs i * dvA zs (i + 1) = dvA zs i := tdiv_mul_of_dvd (dvA_dvd hp h).1
theorem nnA_pos {zs : List Int} (hp : brB zs = true) {i : Nat} (h : i + 1 < zs.length) : 1 ≤ nnA zs i ∧ nnA zs i ≤ 64 := by
  have h1 := nnA_mul hp h
  have h2 := dvA_pos hp (i := i) (by omega)
  have h3 := dvA_pos hp h
  generalize nnA zs i = q at *
  generalize dvA zs i = e at *
  generalize dvA zs (i + 1) = d at *
  have hq : 1 ≤ q := by
    by_cases h : 1 ≤ q
    · exact h
    · have : q * d ≤ 0 * d := Int.mul_le_mul_of_nonneg_right (by omega) (by omega)
      omega
  have : q * 1 ≤ q * d := Int.mul_le_mul_of_nonneg_left h3.1 (by omega)
  omega
/-- Generators grow by more than the factors. -/
theorem gn_grow {zs : List Int} (hp : brB zs = true) {i : Nat} (h : i + 2 < zs.length) : nnA zs i * gnA zs (i + 1) < gnA zs (i + 2) := by
  obtain ⟨L, e, s, h1, h2, h3, h4⟩ := gn_state hp (i + 1) (by omega)
  rw [if_neg (by omega), Nat.add_sub_cancel] at h4
  have h5 : gnA zs (i + 1) = zs[i + 1]?.getD 0 + s := by
    show (gnB zs)[i + 1]?.getD 0 = _
    rw [h2, drop_at rfl (show i + 1 < zs.length by omega)]
    simp [gnL, ← h1]
  have h7 := gn_step rfl (show i + 1 < zs.length by omega) h2
  have h8 : gnA zs (i + 2) = zs[i + 2]?.getD 0 + (e.tdiv (Int.gcd e (zs[i + 1]?.getD 0) : Int) * (zs[i + 1]?.getD 0 + s) - zs[i + 1]?.getD 0) := by
    show (gnB zs)[i + 2]?.getD 0 = _
    rw [h7, drop_at rfl h]
    simp only [gnL]
    rw [List.getElem?_append_right (by simp [h1])]
    simp [h1]
  have h9 : (Int.gcd e (zs[i + 1]?.getD 0) : Int) = dvA zs (i + 1) := by
    have h6 := dv_at (e := 0) (zs := zs) (i := i + 1) (by omega)
    rw [if_neg (by omega), Nat.add_sub_cancel] at h6
    rw [h4]; exact h6.symm
  have h10 := br_next hp h (by omega)
  rw [show i + 2 - 1 = i + 1 by omega] at h10
  rw [h9, ← h5, h4] at h8
  rw [h8]
  show nnA zs i * gnA zs (i + 1) < _
  unfold nnA
  omega
/-- v is a sum of the generators 0, .., i with the numbers bounded as they are in representations. -/
def SmT (zs : List Int) : Nat → Int → Prop
  | 0, v => dvA zs 0 ∣ v ∧ 0 ≤ v
  | i + 1, v => ∃ c : Nat, (c : Int) < nnA zs i ∧ SmT zs i (v - (c : Int) * gnA zs (i + 1))
theorem SmT.le {zs : List Int} (hp : brB zs = true) : ∀ {i : Nat} {v : Int}, i < zs.length → SmT zs i v → dvA zs i ∣ v ∧ 0 ≤ v
  | 0, v, _, h => h
  | i + 1, v, hi, ⟨c, hc, h⟩ => by
    have h1 := SmT.le hp (by omega) h
    have h2 := gnA_pos hp hi
    have h3 := dvA_dvd hp hi
    have h4 : 0 ≤ (c : Int) * gnA zs (i + 1) := Int.mul_nonneg (by omega) (by omega)
    refine ⟨?_, by omega⟩
    have h5 : dvA zs (i + 1) ∣ (v - (c : Int) * gnA zs (i + 1)) + (c : Int) * gnA zs (i + 1) := Int.dvd_add (Int.dvd_trans h3.1 h1.1) (Int.dvd_trans h3.2 (Int.dvd_mul_left _ _))
    rwa [Int.sub_add_cancel] at h5
/-- The least count is the count that is less than n(i + 1). -/
theorem rcA_lt {zs : List Int} (hp : brB zs = true) {i : Nat} (h : i + 1 < zs.length) {v : Int} (hd : dvA zs (i + 1) ∣ v) : (rcA zs i v : Int) < nnA zs i := by
  have h1 := dvA_pos hp (i := i) (by omega)
  have h2 := gnA_pos hp (i := i + 1) h
  have hn := nnA_pos hp h
  have hm := nnA_mul hp h
  obtain ⟨c, hc, hce, hcd⟩ := rc_exists (e := dvA zs i) (g := gnA zs (i + 1)) (v := v) h1 (by omega) (by rw [gn_gcd hp h]; exact hd)
  have hx0 : 0 ≤ (c : Int) % nnA zs i := Int.emod_nonneg _ (by omega)
  have hx1 : (c : Int) % nnA zs i < nnA zs i := Int.emod_lt_of_pos _ (by omega)
  have hxx : ((((c : Int) % nnA zs i).toNat : Nat) : Int) = (c : Int) % nnA zs i := by omega
  have h3 : dvA zs i ∣ v - ((((c : Int) % nnA zs i).toNat : Nat) : Int) * gnA zs (i + 1) := by
    rw [hxx]
    have he := Int.mul_ediv_add_emod (c : Int) (nnA zs i)
    obtain ⟨k, hk⟩ := (dvA_dvd hp h).2
    obtain ⟨m, hm2⟩ := hcd
    refine ⟨m + (c : Int) / nnA zs i * k, ?_⟩
    generalize (c : Int) / nnA zs i = q at *
    generalize (c : Int) % nnA zs i = x at *
    generalize nnA zs i = n at *
    generalize gnA zs (i + 1) = g at *
    generalize dvA zs i = e at *
    generalize dvA zs (i + 1) = d at *
    grind
  have h4 := rcL_end (f := 64) (by omega) h3
  show (rcL _ _ _ 64 : Int) < _
  omega
theorem rcA_is {zs : List Int} (hp : brB zs = true) {i : Nat} (h : i + 1 < zs.length) {v : Int} {c : Nat} (hc : (c : Int) < nnA zs i) (hd : dvA zs i ∣ v - (c : Int) * gnA zs (i + 1)) : rcA zs i v = c := by
  have h1 := dvA_pos hp (i := i) (by omega)
  have hd1 := dvA_pos hp h
  have h2 := gnA_pos hp (i := i + 1) h
  have hn := nnA_pos hp h
  have hm := nnA_mul hp h
  have h4 := rcL_end (f := 64) (by omega) hd
  have h5 : rcL (dvA zs i) (gnA zs (i + 1)) v 64 = rcA zs i v := rfl
  rw [h5] at h4
  obtain ⟨h4, h6⟩ := h4
  obtain ⟨k, hk⟩ : dvA zs i ∣ ((c : Int) - (rcA zs i v : Int)) * gnA zs (i + 1) := by
    have h7 := Int.dvd_sub h6 hd
    have e1 : v - (rcA zs i v : Int) * gnA zs (i + 1) - (v - (c : Int) * gnA zs (i + 1)) = ((c : Int) - (rcA zs i v : Int)) * gnA zs (i + 1) := by rw [Int.sub_mul]; omega
    rwa [e1] at h7
  obtain ⟨a, b, hb⟩ := bezI (e := dvA zs i) (g := gnA zs (i + 1)) (by omega) (by omega)
  rw [gn_gcd hp h] at hb
  have h8 : nnA zs i ∣ (c : Int) - (rcA zs i v : Int) := by
    refine Int.dvd_of_mul_dvd_mul_right (a := dvA zs (i + 1)) (by omega) ?_
    rw [hm, hb]
    generalize (c : Int) - (rcA zs i v : Int) = x at *
    refine ⟨x * a + k * b, ?_⟩
    grind
  have h9 : (c : Int) - (rcA zs i v : Int) = 0 := by
    by_cases h0 : (c : Int) - (rcA zs i v : Int) = 0
    · exact h0
    · have := Int.le_of_dvd (by omega) h8
      omega
  omega
/-- Representations by counts are representations as such. -/
theorem SmT_iff {zs : List Int} (hp : brB zs = true) : ∀ {i : Nat} {v : Int}, i < zs.length → dvA zs i ∣ v → (SmT zs i v ↔ 0 ≤ rpV zs i v)
  | 0, v, _, hd => by simp [SmT, rpV, hd]
  | i + 1, v, hi, hd => by
    rw [rpV_step]
    have hl := rc_level hp hi hd
    have ih := SmT_iff hp (i := i) (v := v - (rcA zs i v : Int) * gnA zs (i + 1)) (by omega) hl.2.2
    constructor
    · rintro ⟨c, hc, h⟩
      have h1 := (SmT.le hp (by omega) h).1
      have h2 := rcA_is hp hi hc h1
      rw [← h2] at h
      exact ih.1 h
    · intro h
      exact ⟨rcA zs i v, rcA_lt hp hi hd, ih.2 h⟩
/-- What is taken away is less than the next generator. -/
theorem rpV_low {zs : List Int} (hp : brB zs = true) : ∀ {i : Nat} {v : Int}, i + 1 < zs.length → dvA zs i ∣ v → v - gnA zs (i + 1) ≤ rpV zs i v
  | 0, v, hi, _ => by have := gnA_pos hp hi; show _ ≤ v; omega
  | i + 1, v, hi, hd => by
    rw [rpV_step]
    have hl := rc_level hp (i := i) (by omega) hd
    have h1 := rpV_low hp (i := i) (v := v - (rcA zs i v : Int) * gnA zs (i + 1)) (by omega) hl.2.2
    have h2 := rcA_lt hp (i := i) (by omega) hd
    have h3 : nnA zs i * gnA zs (i + 1) < gnA zs (i + 1 + 1) := gn_grow hp hi
    have h4 := gnA_pos hp (i := i + 1) (by omega)
    have h5 : ((rcA zs i v : Int) + 1) * gnA zs (i + 1) ≤ nnA zs i * gnA zs (i + 1) := Int.mul_le_mul_of_nonneg_right (by omega) (by omega)
    rw [Int.add_mul] at h5
    omega
/-- Closed under adding. -/
theorem SmT_mul {zs : List Int} (hp : brB zs = true) {i : Nat} (hi : i + 1 < zs.length) : SmT zs i (nnA zs i * gnA zs (i + 1)) := by
  have h1 : dvA zs i ∣ nnA zs i * gnA zs (i + 1) := by
    rw [← nnA_mul hp hi]
    exact Int.mul_dvd_mul (Int.dvd_refl _) (dvA_dvd hp hi).2
  refine (SmT_iff hp (by omega) h1).2 ?_
  have h2 := rpV_low hp hi h1
  have h3 := gnA_pos hp hi
  have h4 : 1 * gnA zs (i + 1) ≤ nnA zs i * gnA zs (i + 1) := Int.mul_le_mul_of_nonneg_right (nnA_pos hp hi).1 (by omega)
  omega
theorem SmT_sum {zs : List Int} (hp : brB zs = true) {i : Nat} (hi : i < zs.length) (hc : ∀ j, j ≤ i → ∀ u, SmT zs i u → SmT zs i (u + gnA zs j)) :
    ∀ {k : Nat} {a : Int}, k ≤ i → SmT zs k a → ∀ u, SmT zs i u → SmT zs i (u + a)
  | 0, a, _, ha, u, hu => by
    obtain ⟨⟨m, rfl⟩, h0⟩ := ha
    have h1 := dvA_pos hp (i := 0) (by omega)
    have hm : 0 ≤ m := by
      by_cases h : 0 ≤ m
      · exact h
      · have : dvA zs 0 * m ≤ dvA zs 0 * (-1) := Int.mul_le_mul_of_nonneg_left (by omega) (by omega)
        omega
    have hg : gnA zs 0 = dvA zs 0 := by
      rw [dvA_first hp]
      show (gnB zs)[0]?.getD 0 = _
      cases zs with
      | nil => simp at hi
      | cons z r => simp [gnB, gnL]
    obtain ⟨t, rfl⟩ : ∃ t : Nat, m = (t : Int) := ⟨m.toNat, by omega⟩
    clear h0 hm
    induction t with
    | zero => simpa using hu
    | succ t ih =>
      have h2 := hc 0 (by omega) _ ih
      rw [hg] at h2
      have e1 : u + dvA zs 0 * ((t + 1 : Nat) : Int) = u + dvA zs 0 * (t : Int) + dvA zs 0 := by push_cast; rw [Int.mul_add]; omega
      rw [e1]; exact h2
  | k + 1, a, hk, ⟨c, _, ha⟩, u, hu => by
    have h1 := SmT_sum hp hi hc (by omega) ha u hu
    have h2 : ∀ t : Nat, SmT zs i (u + (a - (c : Int) * gnA zs (k + 1)) + (t : Int) * gnA zs (k + 1)) := by
      intro t
      induction t with
      | zero => simpa using h1
      | succ t ih =>
        have h3 := hc (k + 1) hk _ ih
        have e1 : u + (a - (c : Int) * gnA zs (k + 1)) + ((t + 1 : Nat) : Int) * gnA zs (k + 1) = u + (a - (c : Int) * gnA zs (k + 1)) + (t : Int) * gnA zs (k + 1) + gnA zs (k + 1) := by push_cast; rw [Int.add_mul]; omega
        rw [e1]; exact h3
    have h4 := h2 c
    have e2 : u + (a - (c : Int) * gnA zs (k + 1)) + (c : Int) * gnA zs (k + 1) = u + a := by omega
    rwa [e2] at h4
theorem SmT_add {zs : List Int} (hp : brB zs = true) : ∀ {i : Nat}, i < zs.length → ∀ j, j ≤ i → ∀ u, SmT zs i u → SmT zs i (u + gnA zs j)
  | 0, hi, j, hj, u, hu => by
    obtain rfl : j = 0 := by omega
    have hg : gnA zs 0 = dvA zs 0 := by
      rw [dvA_first hp]
      show (gnB zs)[0]?.getD 0 = _
      cases zs with
      | nil => simp at hi
      | cons z r => simp [gnB, gnL]
    have h1 := dvA_pos hp hi
    exact ⟨by rw [hg]; exact Int.dvd_add hu.1 (Int.dvd_refl _), by have := hu.2; omega⟩
  | i + 1, hi, j, hj, u, ⟨c, hc, hu⟩ => by
    have ih := SmT_add hp (i := i) (by omega)
    by_cases hji : j ≤ i
    · refine ⟨c, hc, ?_⟩
      have e1 : u + gnA zs j - (c : Int) * gnA zs (i + 1) = u - (c : Int) * gnA zs (i + 1) + gnA zs j := by omega
      rw [e1]; exact ih j hji _ hu
    · obtain rfl : j = i + 1 := by omega
      by_cases hcn : ((c + 1 : Nat) : Int) < nnA zs i
      · refine ⟨c + 1, hcn, ?_⟩
        have e1 : u + gnA zs (i + 1) - ((c + 1 : Nat) : Int) * gnA zs (i + 1) = u - (c : Int) * gnA zs (i + 1) := by push_cast; rw [Int.add_mul]; omega
        rw [e1]; exact hu
      · have hn := nnA_pos hp hi
        refine ⟨0, by push_cast; omega, ?_⟩
        have h1 := SmT_sum hp (by omega) ih (Nat.le_refl i) (SmT_mul hp hi) _ hu
        have e0 : nnA zs i = (c : Int) + 1 := by push_cast at hcn; omega
        have e1 : u - (c : Int) * gnA zs (i + 1) + nnA zs i * gnA zs (i + 1) = u + gnA zs (i + 1) - ((0 : Nat) : Int) * gnA zs (i + 1) := by rw [e0, Int.add_mul]; simp; omega
        rwa [e1] at h1
/-- A value that is not 0 is that of a generator more than another one. -/
theorem SmT_sub {zs : List Int} (hp : brB zs = true) : ∀ {i : Nat} {v : Int}, i < zs.length → 1 ≤ v → SmT zs i v → ∃ j, j ≤ i ∧ SmT zs i (v - gnA zs j)
  | 0, v, hi, hv, ⟨hd, h0⟩ => by
    have hg : gnA zs 0 = dvA zs 0 := by
      rw [dvA_first hp]
      show (gnB zs)[0]?.getD 0 = _
      cases zs with
      | nil => simp at hi
      | cons z r => simp [gnB, gnL]
    have h1 := Int.le_of_dvd (by omega) hd
    exact ⟨0, by omega, by rw [hg]; exact ⟨Int.dvd_sub hd (Int.dvd_refl _), by omega⟩⟩
  | i + 1, v, hi, hv, ⟨c, hc, hu⟩ => by
    cases c with
    | zero =>
      have e0 : v - ((0 : Nat) : Int) * gnA zs (i + 1) = v := by simp
      rw [e0] at hu
      obtain ⟨j, hj, h⟩ := SmT_sub hp (by omega) hv hu
      refine ⟨j, by omega, 0, hc, ?_⟩
      have e1 : v - gnA zs j - ((0 : Nat) : Int) * gnA zs (i + 1) = v - gnA zs j := by simp
      rw [e1]; exact h
    | succ c =>
      refine ⟨i + 1, by omega, c, by push_cast at hc; omega, ?_⟩
      have e1 : v - gnA zs (i + 1) - (c : Int) * gnA zs (i + 1) = v - ((c + 1 : Nat) : Int) * gnA zs (i + 1) := by push_cast; rw [Int.add_mul]; omega
      rw [e1]; exact hu
/-- Representable numbers. -/
theorem reB_iff {zs : List Int} (hp : brB zs = true) (v : Int) : reB zs v = true ↔ SmT zs (zs.length - 1) v := by
  have h0 := brB_pos hp
  have h1 : dvA zs (zs.length - 1) ∣ v := by rw [dvA_last hp]; exact Int.one_dvd v
  rw [SmT_iff hp (by omega) h1]
  simp [reB]
theorem reB_zero {zs : List Int} (hp : brB zs = true) : reB zs 0 = true := by
  rw [reB_iff hp]
  have : ∀ i, i < zs.length → SmT zs i 0 := by
    intro i
    induction i with
    | zero => intro _; exact ⟨Int.dvd_zero _, by omega⟩
    | succ i ih => intro hi; exact ⟨0, by have := nnA_pos hp hi; push_cast; omega, by simpa using ih (by omega)⟩
  exact this _ (by have := brB_pos hp; omega)
theorem reB_neg {zs : List Int} (hp : brB zs = true) {v : Int} (h : v < 0) : reB zs v = false := by
  cases hb : reB zs v
  · rfl
  · rw [reB_iff hp] at hb
    have := SmT.le hp (by have := brB_pos hp; omega) hb
    omega
/-- The values are 0 and the values with a generator more. -/
theorem reB_step {zs : List Int} (hp : brB zs = true) {v : Int} (hv : 1 ≤ v) : reB zs v = true ↔ ∃ i, i < zs.length ∧ gnA zs i ≤ v ∧ reB zs (v - gnA zs i) = true := by
  have h0 := brB_pos hp
  constructor
  · intro h
    rw [reB_iff hp] at h
    obtain ⟨j, hj, h⟩ := SmT_sub hp (by omega) hv h
    have := SmT.le hp (by omega) h
    exact ⟨j, by omega, by omega, (reB_iff hp _).2 h⟩
  · rintro ⟨i, hi, _, h⟩
    rw [reB_iff hp] at h ⊢
    have := SmT_add hp (by omega) i (by omega) _ h
    rwa [Int.sub_add_cancel] at this
/-- Whether one of the first k generators leads to v. -/
def vaO (zs : List Int) (v : Int) : Nat → Bool
  | 0 => false
  | k + 1 => vaO zs v k || (decide (gnA zs k ≤ v) && reB zs (v - gnA zs k))
theorem vaO_iff {zs : List Int} {v : Int} {k : Nat} : vaO zs v k = true ↔ ∃ i, i < k ∧ gnA zs i ≤ v ∧ reB zs (v - gnA zs i) = true := by
  induction k with
  | zero => simp [vaO]
  | succ k ih =>
    simp only [vaO, Bool.or_eq_true, ih, Bool.and_eq_true, decide_eq_true_eq]
    constructor
    · rintro (⟨i, h1, h2⟩ | h)
      · exact ⟨i, by omega, h2⟩
      · exact ⟨k, by omega, h⟩
    · rintro ⟨i, h1, h2⟩
      by_cases hi : i = k
      · subst hi; exact .inr h2
      · exact .inl ⟨i, by omega, h2⟩
theorem vaO_end {zs : List Int} (hp : brB zs = true) {v : Int} (hv : 1 ≤ v) : vaO zs v zs.length = reB zs v := by
  have h1 := reB_step hp hv
  have h2 := vaO_iff (zs := zs) (v := v) (k := zs.length)
  cases h : reB zs v
  · cases h3 : vaO zs v zs.length
    · rfl
    · rw [h2, ← h1] at h3; rw [h3] at h; cases h
  · rw [h1] at h; exact h2.2 h
end Go.Proofs.Ytncgkoanckefmaa
