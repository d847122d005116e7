/- Representations, values and Apery lists, as laws.FnRepresentations has them: arithmetic. Conditions: stated at each theorem. -/
import Derived.Test.YtjgidalmgoifgaaZG
namespace Go.Proofs.Ytjgidalmgoifgaa
set_option linter.unusedVariables false
set_option linter.unusedSimpArgs false

theorem vl_lt (zs : List Int) (b : Bool) : ∀ (k : Nat), ∀ z ∈ vlL zs b k, 0 ≤ z ∧ z < k
  | 0, z, h => by simp [vlL] at h
  | k + 1, z, h => by
    by_cases hb : reB zs (k : Int) = b
    · rw [vlL_yes hb] at h
      rcases List.mem_append.1 h with h | h
      · have := vl_lt zs b k z h; omega
      · simp at h; omega
    · rw [vlL_no hb] at h
      have := vl_lt zs b k z h; omega
theorem vl_mem (zs : List Int) (b : Bool) : ∀ (k j : Nat), (j : Int) ∈ vlL zs b k ↔ j < k ∧ reB zs (j : Int) = b
  | 0, j => by simp [vlL]
  | k + 1, j => by
    have ih := vl_mem zs b k j
    by_cases hb : reB zs (k : Int) = b
    · rw [vlL_yes hb, List.mem_append, ih]
      simp only [List.mem_singleton]
      constructor
      · rintro (⟨h1, h2⟩ | h)
        · exact ⟨by omega, h2⟩
        · obtain rfl : j = k := by omega
          exact ⟨by omega, hb⟩
      · rintro ⟨h1, h2⟩
        by_cases h : j = k
        · exact .inr (by omega)
        · exact .inl ⟨by omega, h2⟩
    · rw [vlL_no hb, ih]
      constructor
      · rintro ⟨h1, h2⟩; exact ⟨by omega, h2⟩
      · rintro ⟨h1, h2⟩
        refine ⟨?_, h2⟩
        rcases Nat.lt_or_ge j k with h | h
        · exact h
        · obtain rfl : j = k := by omega
          exact absurd h2 hb
theorem vl_asc (zs : List Int) (b : Bool) : ∀ (k i : Nat), i + 1 < (vlL zs b k).length → (vlL zs b k)[i]?.getD 0 < (vlL zs b k)[i + 1]?.getD 0
  | 0, i, h => by simp [vlL] at h
  | k + 1, i, h => by
    by_cases hb : reB zs (k : Int) = b
    · rw [vlL_yes hb] at h ⊢
      rw [List.length_append, List.length_singleton] at h
      by_cases hi : i + 1 < (vlL zs b k).length
      · rw [List.getElem?_append_left (by omega), List.getElem?_append_left hi]
        exact vl_asc zs b k i hi
      · have he : i + 1 = (vlL zs b k).length := by omega
        rw [List.getElem?_append_left (by omega), List.getElem?_append_right (by omega), he]
        have := vl_lt zs b k ((vlL zs b k)[i]?.getD 0) (by simp [show i < (vlL zs b k).length by omega])
        have e : ([(k : Int)][(vlL zs b k).length - (vlL zs b k).length]?.getD 0) = (k : Int) := by simp
        rw [e]
        omega
    · rw [vlL_no hb] at h ⊢
      exact vl_asc zs b k i h
/-- The sum of the first k products. -/
def prS (a b : List Int) : Nat → Int
  | 0 => 0
  | k + 1 => prS a b k + a[k]?.getD 0 * b[k]?.getD 0
theorem prS_pre {a b : List Int} {x : Int} : ∀ {k : Nat}, k ≤ a.length → prS (a ++ [x]) b k = prS a b k
  | 0, _ => rfl
  | k + 1, h => by
    rw [prS, prS, prS_pre (by omega), List.getElem?_append_left (by omega)]
theorem gn_zero {zs : List Int} (hp : brB zs = true) : gnA zs 0 = zs[0]?.getD 0 := by
  have h0 := brB_pos hp
  cases zs with
  | nil => simp at h0
  | cons z r => simp [gnA, gnB, gnL]
theorem rp_sum {zs : List Int} (hp : brB zs = true) : ∀ {i : Nat} {v : Int}, i < zs.length → dvA zs i ∣ v → prS (rpC zs i v) (gnB zs) (i + 1) = v
  | 0, v, hi, hd => by
    have h1 := gn_zero hp
    have h2 : dvA zs 0 = zs[0]?.getD 0 := dvA_first hp
    rw [h2] at hd
    show 0 + (v.tdiv (zs[0]?.getD 0)) * gnA zs 0 = v
    rw [h1, tdiv_mul_of_dvd hd]
    omega
  | i + 1, v, hi, hd => by
    have hl := rc_level hp hi hd
    have ih := rp_sum hp (i := i) (v := v - (rcA zs i v : Int) * gnA zs (i + 1)) (by omega) hl.2.2
    rw [rpC_step, prS, prS_pre (by rw [rpC_len]; omega), ih]
    rw [List.getElem?_append_right (by rw [rpC_len]; omega), rpC_len]
    show v - (rcA zs i v : Int) * gnA zs (i + 1) + ([(rcA zs i v : Int)][i + 1 - (i + 1)]?.getD 0) * gnA zs (i + 1) = v
    simp
theorem rp_at {zs : List Int} (hp : brB zs = true) : ∀ {i k : Nat} {v : Int}, i < zs.length → dvA zs i ∣ v → k < i → ∃ u, dvA zs (k + 1) ∣ u ∧ (rpC zs i v)[k + 1]?.getD 0 = (rcA zs k u : Int)
  | 0, k, v, _, _, h => by omega
  | i + 1, k, v, hi, hd, h => by
    have hl := rc_level hp hi hd
    rw [rpC_step]
    by_cases hk : k = i
    · subst hk
      refine ⟨v, hd, ?_⟩
      rw [List.getElem?_append_right (by rw [rpC_len]; omega), rpC_len]
      simp
    · obtain ⟨u, h1, h2⟩ := rp_at hp (i := i) (k := k) (v := v - (rcA zs i v : Int) * gnA zs (i + 1)) (by omega) hl.2.2 (by omega)
      refine ⟨u, h1, ?_⟩
      rw [List.getElem?_append_left (by rw [rpC_len]; omega)]
      exact h2
theorem rp_first {zs : List Int} (hp : brB zs = true) : ∀ {i : Nat} {v : Int}, (rpC zs i v)[0]?.getD 0 = (rpV zs i v).tdiv (zs[0]?.getD 0)
  | 0, v => by simp [rpC, rpV]
  | i + 1, v => by
    rw [rpC_step, rpV_step, List.getElem?_append_left (by rw [rpC_len]; omega)]
    exact rp_first hp
/-- What the law asks of a representation. -/
theorem rp_all {zs : List Int} (hp : brB zs = true) {v : Int} (h : reB zs v = true) :
    prS (rpC zs (zs.length - 1) v) (gnB zs) zs.length = v ∧ (∀ i, i < zs.length → 0 ≤ (rpC zs (zs.length - 1) v)[i]?.getD 0) ∧
    (∀ i, i + 1 < zs.length → (rpC zs (zs.length - 1) v)[i + 1]?.getD 0 < (dvA zs i).tdiv (dvA zs (i + 1))) := by
  have h0 := brB_pos hp
  have hd := dv_last_dvd hp v
  have hr : 0 ≤ rpV zs (zs.length - 1) v := by simpa [reB] using h
  have h1 := rp_sum hp (i := zs.length - 1) (v := v) (by omega) hd
  rw [show zs.length - 1 + 1 = zs.length by omega] at h1
  have hz := br_first hp
  refine ⟨h1, fun i hi => ?_, fun i hi => ?_⟩
  · by_cases h2 : i = 0
    · subst h2
      rw [rp_first hp]
      exact Int.tdiv_nonneg hr (by omega)
    · obtain ⟨u, _, h3⟩ := rp_at hp (i := zs.length - 1) (k := i - 1) (v := v) (by omega) hd (by omega)
      rw [show i - 1 + 1 = i by omega] at h3
      rw [h3]; omega
  · obtain ⟨u, h2, h3⟩ := rp_at hp (i := zs.length - 1) (k := i) (v := v) (by omega) hd (by omega)
    rw [h3]
    exact rcA_lt hp hi h2
theorem prS_range {zs a : List Int} (hp : brB zs = true) {v : Int} (ha : ∀ i, i < zs.length → 0 ≤ a[i]?.getD 0) (h : prS a (gnB zs) zs.length = v) :
    ∀ k, k ≤ zs.length → 0 ≤ prS a (gnB zs) k ∧ prS a (gnB zs) k ≤ v := by
  have up : ∀ k, k < zs.length → prS a (gnB zs) k ≤ prS a (gnB zs) (k + 1) := fun k hk => by
    have h1 := ha k hk
    have h2 := gnA_pos hp hk
    have h3 : 0 ≤ a[k]?.getD 0 * gnA zs k := Int.mul_nonneg h1 (by omega)
    show _ ≤ prS a (gnB zs) k + a[k]?.getD 0 * gnA zs k
    omega
  have lo : ∀ k, k ≤ zs.length → 0 ≤ prS a (gnB zs) k := fun k => by
    induction k with
    | zero => intro _; exact Int.le_refl _
    | succ k ih => intro hk; have := ih (by omega); have := up k (by omega); omega
  have hi : ∀ j, j ≤ zs.length → prS a (gnB zs) (zs.length - j) ≤ v := fun j => by
    induction j with
    | zero => intro _; rw [Nat.sub_zero, h]; exact Int.le_refl _
    | succ j ih =>
      intro hj
      have h1 := ih (by omega)
      have h2 := up (zs.length - (j + 1)) (by omega)
      rw [show zs.length - (j + 1) + 1 = zs.length - j by omega] at h2
      omega
  intro k hk
  refine ⟨lo k hk, ?_⟩
  have := hi (zs.length - k) (by omega)
  rwa [show zs.length - (zs.length - k) = k by omega] at this
/-- No value lies below an entry of the Apery list with the same remainder. -/
theorem ap_less {zs : List Int} (hp : brB zs = true) (r : Int) : reB zs (apA zs r - dvA zs 0) = false := by
  have hz : 1 ≤ dvA zs 0 := (dvA_pos hp (i := 0) (brB_pos hp)).1
  cases h : reB zs (apA zs r - dvA zs 0)
  · rfl
  · rw [reB_ap hp] at h
    have h1 := apA_shift hp (apA zs r) (-1)
    rw [show apA zs r + dvA zs 0 * -1 = apA zs r - dvA zs 0 by omega] at h1
    obtain ⟨k, hk⟩ := apA_dvd hp r
    have h2 := apA_shift hp r (-k)
    rw [show r + dvA zs 0 * -k = apA zs r by rw [Int.mul_neg]; omega] at h2
    omega
end Go.Proofs.Ytjgidalmgoifgaa
