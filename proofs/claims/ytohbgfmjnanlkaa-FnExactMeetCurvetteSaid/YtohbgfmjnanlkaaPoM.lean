/- Orders and discrepancies: plain mathematics of chapter 6. Conditions: stated at each theorem. -/
import Derived.Test.YtohbgfmjnanlkaaPtM
namespace Go.Proofs.Ytohbgfmjnanlkaa
set_option linter.unusedVariables false
set_option linter.unusedSimpArgs false

/-- The sum of F over the numbers less than n. -/
def sg (F : Nat → Int) : Nat → Int
  | 0 => 0
  | n + 1 => sg F n + F n
theorem sg_congr {F G : Nat → Int} : ∀ {n : Nat}, (∀ i, i < n → F i = G i) → sg F n = sg G n
  | 0, _ => rfl
  | n + 1, h => by
    show sg F n + F n = sg G n + G n
    rw [sg_congr (n := n) (fun i hi => h i (by omega)), h n (by omega)]
theorem sg_lin {A B : Nat → Int} (c : Int) : ∀ n, sg (fun i => A i - c * B i) n = sg A n - c * sg B n
  | 0 => by simp [sg]
  | n + 1 => by
    show sg (fun i => A i - c * B i) n + (A n - c * B n) = sg A n + A n - c * (sg B n + B n)
    rw [sg_lin c n, Int.mul_add]; omega
theorem sg_nn {F : Nat → Int} : ∀ {n : Nat}, (∀ i, i < n → 0 ≤ F i) → 0 ≤ sg F n
  | 0, _ => Int.le_refl _
  | n + 1, h => by
    have h1 := sg_nn (n := n) (fun i hi => h i (by omega))
    have h2 := h n (by omega)
    show 0 ≤ sg F n + F n
    omega
theorem sg_le {F : Nat → Int} {b : Int} : ∀ {n : Nat}, (∀ i, i < n → F i ≤ b) → sg F n ≤ b * n
  | 0, _ => by simp [sg]
  | n + 1, h => by
    have h1 := sg_le (n := n) (fun i hi => h i (by omega))
    have h2 := h n (by omega)
    show sg F n + F n ≤ _
    have e : b * ((n + 1 : Nat) : Int) = b * n + b := by push_cast; rw [Int.mul_add, Int.mul_one]
    omega
theorem sg_stop {F : Nat → Int} {t : Nat} (h : ∀ i, t ≤ i → F i = 0) : ∀ d, sg F (t + d) = sg F t
  | 0 => rfl
  | d + 1 => by
    show sg F (t + d) + F (t + d) = _
    rw [sg_stop h d, h (t + d) (by omega)]; omega

theorem prx_sum (m : List Int) (g : Nat → Int) (j : Nat) : ∀ I, ((prx m I j).map fun i => g i.toNat).sum = sg (fun i => if PR m i j = true then g i else 0) I
  | 0 => rfl
  | I + 1 => by
    show ((prx m I j ++ if PR m I j = true then [(I : Int)] else []).map fun i => g i.toNat).sum = sg _ I + _
    rw [List.map_append, List.sum_append, prx_sum m g j I]
    cases hp : PR m I j
    · simp [hp]
    · simp [hp]
theorem prx_mem {m : List Int} {n j : Nat} (h : MQ m n) (hj : j < n) : ∀ i ∈ prx m n j, 0 ≤ i ∧ i < (j : Int) := by
  obtain ⟨h1, h2⟩ := prx_near h hj
  rw [h1]
  intro i hi
  unfold nearL at hi
  split at hi
  · simp at hi
  · split at hi
    · simp at hi; omega
    · simp at hi; omega

/-- Each point's own number and the results for those to which it is proximate. -/
def odN (m : List Int) (n : Nat) (f : Nat → Int) : Nat → List Int
  | 0 => []
  | j + 1 => odN m n f j ++ [f j + ((prx m n j).map fun i => (odN m n f j)[i.toNat]?.getD 0).sum]
theorem odN_len (m : List Int) (n : Nat) (f : Nat → Int) : ∀ j, (odN m n f j).length = j
  | 0 => rfl
  | j + 1 => by show (odN m n f j ++ _).length = _; rw [List.length_append, odN_len m n f j]; rfl
theorem odN_get (m : List Int) (n : Nat) (f : Nat → Int) {i : Nat} : ∀ {j : Nat}, i < j → (odN m n f j)[i]? = (odN m n f (i + 1))[i]?
  | 0, h => by omega
  | j + 1, h => by
    by_cases e : i = j
    · subst e; rfl
    · show (odN m n f j ++ _)[i]? = _
      rw [List.getElem?_append_left (by rw [odN_len]; omega)]
      exact odN_get m n f (by omega)
def oD (m : List Int) (n : Nat) (f : Nat → Int) (i : Nat) : Int := (odN m n f (i + 1))[i]?.getD 0
theorem oD_eq {m : List Int} {n j : Nat} {f : Nat → Int} (h : MQ m n) (hj : j < n) : oD m n f j = f j + ((prx m n j).map fun i => oD m n f i.toNat).sum := by
  have e : (prx m n j).map (fun i => (odN m n f j)[i.toNat]?.getD 0) = (prx m n j).map fun i => oD m n f i.toNat := List.map_congr_left fun i hi => by
    have := prx_mem h hj i hi
    unfold oD
    rw [odN_get m n f (i := i.toNat) (j := j) (by omega)]
  unfold oD at e ⊢
  rw [← e]
  show (odN m n f j ++ [_])[j]?.getD 0 = _
  rw [List.getElem?_append_right (by rw [odN_len]; exact Nat.le_refl _), odN_len]
  simp
theorem oD_sg {m : List Int} {n j : Nat} {f : Nat → Int} (h : MQ m n) (hj : j < n) : oD m n f j = f j + sg (fun i => if PR m i j = true then oD m n f i else 0) j := by
  rw [oD_eq h hj, prx_sum m (oD m n f) j n]
  congr 1
  obtain ⟨d, rfl⟩ : ∃ d, n = j + d := ⟨n - j, by omega⟩
  exact sg_stop (fun i hi => by rw [pr_out hi]; simp) d
def odL (m : List Int) (n : Nat) (f : Nat → Int) : List Int := odN m n f n
theorem odL_len (m : List Int) (n : Nat) (f : Nat → Int) : (odL m n f).length = n := odN_len m n f n
theorem odL_at {m : List Int} {n j : Nat} {f : Nat → Int} (hj : j < n) : (odL m n f)[j]?.getD 0 = oD m n f j := by unfold odL oD; rw [odN_get m n f hj]
/-- The three kinds of points. -/
theorem oD_zero {m : List Int} {n : Nat} {f : Nat → Int} (h : MQ m n) (hn : 0 < n) : oD m n f 0 = f 0 := by
  rw [oD_eq h hn, (prx_near h hn).1]; simp [nearL]
theorem oD_one {m : List Int} {n j : Nat} {f : Nat → Int} (h : MQ m n) (hj : j < n) (h0 : 0 < j) (hc : cdI m n j = 0) : oD m n f j = f j + oD m n f (j - 1) := by
  rw [oD_eq h hj, (prx_near h hj).1, hc]
  unfold nearL
  rw [if_neg (by omega), if_pos rfl]
  have e : ((j : Int) - 1).toNat = j - 1 := by omega
  simp [e]
theorem oD_two {m : List Int} {n j : Nat} {f : Nat → Int} (h : MQ m n) (hj : j < n) (h0 : 0 < j) (hc : cdI m n j ≠ 0) : oD m n f j = f j + (oD m n f (j - (cdI m n j).toNat) + oD m n f (j - 1)) := by
  have hb := (prx_near h hj).2
  rw [oD_eq h hj, (prx_near h hj).1]
  unfold nearL
  rw [if_neg (by omega), if_neg hc]
  have e : ((j : Int) - 1).toNat = j - 1 := by omega
  have e2 : ((j : Int) - cdI m n j).toNat = j - (cdI m n j).toNat := by omega
  simp [e, e2]
theorem oD_pos {m : List Int} {n : Nat} {f : Nat → Int} (h : MQ m n) (hf : ∀ j, j < n → 1 ≤ f j) : ∀ j, j < n → 1 ≤ oD m n f j := by
  intro j
  induction j using Nat.strongRecOn with
  | ind j ih =>
    intro hj
    rw [oD_sg h hj]
    have h1 := hf j hj
    have h2 : 0 ≤ sg (fun i => if PR m i j = true then oD m n f i else 0) j := sg_nn fun i hi => by
      show 0 ≤ if PR m i j = true then oD m n f i else 0
      split
      · have := ih i hi (by omega); omega
      · exact Int.le_refl _
    omega
theorem oD_mono {m : List Int} {n : Nat} {f g : Nat → Int} (h : MQ m n) (hf : ∀ j, j < n → f j ≤ g j) : ∀ j, j < n → oD m n f j ≤ oD m n g j := by
  intro j
  induction j using Nat.strongRecOn with
  | ind j ih =>
    intro hj
    rw [oD_sg h hj, oD_sg h hj]
    have h1 := hf j hj
    have h2 : 0 ≤ sg (fun i => (if PR m i j = true then oD m n g i else 0) - 1 * (if PR m i j = true then oD m n f i else 0)) j := sg_nn fun i hi => by
      show 0 ≤ (if PR m i j = true then oD m n g i else 0) - 1 * (if PR m i j = true then oD m n f i else 0)
      split
      · have := ih i hi (by omega); omega
      · simp
    rw [sg_lin] at h2
    omega
/-- The multiplicities before t of points proximate to i. -/
def pw (m : List Int) (i : Nat) : Nat → Int
  | 0 => 0
  | t + 1 => pw m i t + if PR m i t = true then m[t]?.getD 0 else 0
theorem pw_zero (m : List Int) (i : Nat) : ∀ t, t ≤ i + 1 → pw m i t = 0
  | 0, _ => rfl
  | t + 1, h => by
    show pw m i t + _ = 0
    rw [pw_zero m i t (by omega), pr_out (show t ≤ i by omega)]; simp
theorem pw_le {m : List Int} {n i : Nat} (h : MQ m n) : ∀ t, i + 1 ≤ t → t ≤ n → pw m i t ≤ m[i]?.getD 0 ∧ ((t = i + 1 ∨ PR m i (t - 1) = true) → pw m i t = sm m (i + 1) (t - 1 - i))
  | 0, h1, _ => by omega
  | t + 1, h1, h2 => by
    by_cases e : t = i
    · subst e
      have h3 := (h.rng t (by omega)).1
      have h4 := pw_zero m t (t + 1) (Nat.le_refl _)
      refine ⟨by omega, fun _ => ?_⟩
      rw [h4, show t + 1 - 1 - t = 0 by omega]; rfl
    · obtain ⟨k1, k2⟩ := pw_le (i := i) h t (by omega) (by omega)
      have e1 : pw m i (t + 1) = pw m i t + if PR m i t = true then m[t]?.getD 0 else 0 := rfl
      rw [e1]
      cases hp : PR m i t
      · refine ⟨by simpa using k1, fun hx => ?_⟩
        rcases hx with hx | hx
        · omega
        · rw [show t + 1 - 1 = t by omega, hp] at hx; cases hx
      · have k3 : pw m i t = sm m (i + 1) (t - 1 - i) := k2 (by
          by_cases e2 : t = i + 1
          · exact .inl e2
          · right
            obtain ⟨s, rfl⟩ : ∃ s, t = s + 1 := ⟨t - 1, by omega⟩
            exact pr_prev h (by omega) (by omega) hp)
        have e3 : sm m (i + 1) (t + 1 - 1 - i) = sm m (i + 1) (t - 1 - i) + m[t]?.getD 0 := by
          rw [show t + 1 - 1 - i = (t - 1 - i) + 1 by omega, sm, show i + 1 + (t - 1 - i) = t by omega]
        have hq := (pr_true.1 hp).2
        rw [show t + 1 - 1 - i = t - i by omega] at e3
        rw [if_pos rfl, k3, ← e3]
        exact ⟨hq, fun _ => by rw [show t + 1 - 1 - i = t - i by omega]⟩
/-- The orders, weighed with what is left of the multiplicities, are the squares of the multiplicities. -/
theorem phi {m : List Int} {n : Nat} (h : MQ m n) : ∀ t, t ≤ n → sg (fun i => (m[i]?.getD 0 - pw m i t) * oD m n (fun j => m[j]?.getD 0) i) t = sg (fun j => m[j]?.getD 0 * m[j]?.getD 0) t
  | 0, _ => rfl
  | t + 1, ht => by
    have ih := phi h t (by omega)
    have hv := oD_sg (f := fun j => m[j]?.getD 0) h (show t < n by omega)
    show sg _ t + _ = sg _ t + _
    have e1 : sg (fun i => (m[i]?.getD 0 - pw m i (t + 1)) * oD m n (fun j => m[j]?.getD 0) i) t = sg (fun i => (m[i]?.getD 0 - pw m i t) * oD m n (fun j => m[j]?.getD 0) i) t - m[t]?.getD 0 * sg (fun i => if PR m i t = true then oD m n (fun j => m[j]?.getD 0) i else 0) t := by
      rw [← sg_lin]
      refine sg_congr fun i hi => ?_
      have e2 : pw m i (t + 1) = pw m i t + if PR m i t = true then m[t]?.getD 0 else 0 := rfl
      rw [e2]
      split
      · rw [← Int.sub_sub, Int.sub_mul]
      · simp
    rw [e1, ih]
    dsimp only
    rw [pw_zero m t (t + 1) (Nat.le_refl _)]
    have e4 : sg (fun i => if PR m i t = true then oD m n (fun j => m[j]?.getD 0) i else 0) t = oD m n (fun j => m[j]?.getD 0) t - m[t]?.getD 0 := by omega
    rw [e4, Int.mul_sub, Int.sub_zero]
    omega
theorem od_bound {m : List Int} {n j : Nat} (h : MQ m n) (hn : n ≤ 400) (hj : j < n) : 1 ≤ oD m n (fun j => m[j]?.getD 0) j ∧ oD m n (fun j => m[j]?.getD 0) j ≤ 1638400 := by
  have hp := oD_pos (f := fun j => m[j]?.getD 0) h (fun j hj => (h.rng j hj).1)
  have hpj := hp j hj
  refine ⟨hpj, ?_⟩
  have h1 := phi h (j + 1) (by omega)
  have h2 : 0 ≤ sg (fun i => (m[i]?.getD 0 - pw m i (j + 1)) * oD m n (fun j => m[j]?.getD 0) i) j := sg_nn fun i hi => Int.mul_nonneg (by have := (pw_le (i := i) h (j + 1) (by omega) (by omega)).1; omega) (by have := hp i (by omega); omega)
  have h3 : sg (fun i => (m[i]?.getD 0 - pw m i (j + 1)) * oD m n (fun j => m[j]?.getD 0) i) (j + 1) = sg (fun i => (m[i]?.getD 0 - pw m i (j + 1)) * oD m n (fun j => m[j]?.getD 0) i) j + (m[j]?.getD 0 - pw m j (j + 1)) * oD m n (fun j => m[j]?.getD 0) j := rfl
  rw [pw_zero m j (j + 1) (Nat.le_refl _), Int.sub_zero] at h3
  have h4 : sg (fun j => m[j]?.getD 0 * m[j]?.getD 0) (j + 1) ≤ 4096 * ((j + 1 : Nat) : Int) := sg_le fun i hi => by
    have := h.rng i (by omega)
    have := Int.mul_le_mul this.2 this.2 (by omega) (by omega)
    omega
  have hm := (h.rng j hj).1
  have h5 : oD m n (fun j => m[j]?.getD 0) j ≤ m[j]?.getD 0 * oD m n (fun j => m[j]?.getD 0) j := by
    have := Int.mul_le_mul_of_nonneg_right hm (show 0 ≤ oD m n (fun j => m[j]?.getD 0) j by omega)
    omega
  have h6 : 4096 * ((j + 1 : Nat) : Int) ≤ 1638400 := by omega
  omega
theorem dd_bound {m : List Int} {n j : Nat} (h : MQ m n) (hn : n ≤ 400) (hj : j < n) : 1 ≤ oD m n (fun _ => 1) j ∧ oD m n (fun _ => 1) j ≤ 1638400 := by
  have h1 := oD_pos (f := fun _ => 1) h (fun j hj => Int.le_refl _) j hj
  have h2 := oD_mono (f := fun _ => 1) (g := fun j => m[j]?.getD 0) h (fun j hj => (h.rng j hj).1) j hj
  have h3 := od_bound h hn hj
  omega
end Go.Proofs.Ytohbgfmjnanlkaa
