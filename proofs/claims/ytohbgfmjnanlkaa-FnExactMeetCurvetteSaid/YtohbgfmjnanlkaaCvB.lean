/- Reading a branch from the multiplicities of a curvette: with more ones behind them, or without: plain mathematics. Conditions: stated at each theorem. -/
import Derived.Test.YtohbgfmjnanlkaaCvM
namespace Go.Proofs.Ytohbgfmjnanlkaa
set_option linter.unusedVariables false
set_option linter.unusedSimpArgs false

theorem rep_last (k : Nat) (b : Int) : (List.replicate (k + 1) b).getLast? = some b := by
  rw [List.replicate_succ', List.getLast?_concat]
theorem app_last {A B : List Int} {x : Int} (h : B.getLast? = some x) : (A ++ B).getLast? = some x := by
  rw [List.getLast?_append, h]; rfl
/-- The numbers of a run that ends with the divisor 1: as many ones as the last number before them tells. -/
theorem min_stL : ∀ (f : Nat) (a b : Int), 0 ≤ a → 1 < b → b < f → (Int.gcd a b : Int) = 1 → ∃ (A : List Int) (q : Nat), flL (stL f a b) = A ++ List.replicate q 1 ∧ 1 < q ∧ ((A = [] ∧ a < b ∧ (q : Int) = b) ∨ A.getLast? = some (q : Int))
  | 0, a, b, ha, hb, hf, _ => by omega
  | f + 1, a, b, ha, hb, hf, hg => by
    have h2 := Int.emod_nonneg a (show b ≠ 0 by omega)
    have h3 := Int.emod_lt_of_pos a (show 0 < b by omega)
    have hg2 : (Int.gcd a b : Int) = (Int.gcd b (a % b) : Int) := by
      conv => lhs; rw [← Int.emod_add_mul_ediv a b, Int.gcd_comm, Int.gcd_add_mul_left_right]
    have e : flL (stL (f + 1) a b) = List.replicate (a / b).toNat b ++ flL (stL f b (a % b)) := by
      conv => lhs; unfold stL
      rw [if_neg (by omega), flL_cons]
    rw [e]
    by_cases h0 : a % b = 0
    · rw [h0, Int.gcd_zero_right] at hg2
      omega
    · by_cases h1 : a % b = 1
      · obtain ⟨f, rfl⟩ : ∃ f', f = f' + 1 := ⟨f - 1, by omega⟩
        have e2 : flL (stL (f + 1) b (a % b)) = List.replicate b.toNat 1 := by
          rw [h1]
          unfold stL
          rw [if_neg (by omega), flL_cons, Int.ediv_one, Int.emod_one]
          have : stL f 1 0 = [] := by cases f <;> simp [stL]
          rw [this]; simp [flL]
        rw [e2]
        by_cases hab : a < b
        · rw [Int.ediv_eq_zero_of_lt ha hab]
          exact ⟨[], b.toNat, rfl, by omega, .inl ⟨rfl, hab, by omega⟩⟩
        · have hq : 1 ≤ a / b := (Int.le_ediv_iff_mul_le (by omega)).2 (by omega)
          obtain ⟨k, hk⟩ : ∃ k : Nat, (a / b).toNat = k + 1 := ⟨(a / b).toNat - 1, by omega⟩
          rw [hk]
          exact ⟨List.replicate (k + 1) b, b.toNat, rfl, by omega, .inr (by rw [rep_last, show ((b.toNat : Nat) : Int) = b by omega])⟩
      · obtain ⟨A, q, hA, hq, hc⟩ := min_stL f b (a % b) (by omega) (by omega) (by omega) (by rw [← hg2]; exact hg)
        rw [hA]
        refine ⟨List.replicate (a / b).toNat b ++ A, q, by rw [List.append_assoc], hq, .inr (app_last ?_)⟩
        rcases hc with ⟨_, h4, _⟩ | hc
        · omega
        · exact hc
theorem last_stL : ∀ (f : Nat) (a b : Int), 1 ≤ a → 1 ≤ b → b < f → (flL (stL f a b)).getLast? = some (Int.gcd a b : Int)
  | 0, a, b, ha, hb, hf => by omega
  | f + 1, a, b, ha, hb, hf => by
    have h2 := Int.emod_nonneg a (show b ≠ 0 by omega)
    have h3 := Int.emod_lt_of_pos a (show 0 < b by omega)
    have hg2 : (Int.gcd a b : Int) = (Int.gcd b (a % b) : Int) := by
      conv => lhs; rw [← Int.emod_add_mul_ediv a b, Int.gcd_comm, Int.gcd_add_mul_left_right]
    have e : flL (stL (f + 1) a b) = List.replicate (a / b).toNat b ++ flL (stL f b (a % b)) := by
      conv => lhs; unfold stL
      rw [if_neg (by omega), flL_cons]
    rw [e, hg2]
    by_cases h0 : a % b = 0
    · have e2 : stL f b (a % b) = [] := by rw [h0]; cases f <;> simp [stL]
      have h4 := Int.mul_ediv_add_emod a b
      have hq : 1 ≤ a / b := by
        by_cases h : 1 ≤ a / b
        · exact h
        · have h5 := Int.ediv_nonneg (show 0 ≤ a by omega) (show 0 ≤ b by omega)
          have h6 : a / b = 0 := by omega
          rw [h6, h0] at h4; simp at h4; omega
      obtain ⟨k, hk⟩ : ∃ k : Nat, (a / b).toNat = k + 1 := ⟨(a / b).toNat - 1, by omega⟩
      rw [e2, h0, Int.gcd_zero_right, hk]
      simp only [flL, List.flatMap_nil, List.append_nil]
      rw [rep_last]
      congr 1; omega
    · exact app_last (last_stL f b (a % b) (by omega) (by omega) (by omega))
theorem min_rn : ∀ {r : List Int} {z p e : Int} {Y : List Int}, 1 < e → e ∣ p → 0 ≤ p → ascB p (z :: r) = true → desB e (z :: r) = true → (Y.getLast? = some e ∨ e ≤ z - p) →
    ∃ (A : List Int) (q : Nat), Y ++ flL (rnL p e (z :: r)) = A ++ List.replicate q 1 ∧ 1 < q ∧ A.getLast? = some (q : Int)
  | r, z, p, e, Y, he, hep, hp, hasc, hdes, hY => by
    simp only [ascB, Bool.and_eq_true, decide_eq_true_eq] at hasc
    simp only [desB, Bool.and_eq_true, decide_eq_true_eq] at hdes
    have hg := gcd_le_left (e := e) (z := z) (by omega)
    have e2 : (Int.gcd (z - p) e : Int) = (Int.gcd e z : Int) := by
      obtain ⟨k, rfl⟩ := hep
      rw [Int.gcd_comm]
      exact_mod_cast Int.gcd_sub_mul_left_right e z k
    have e1 : flL (rnL p e (z :: r)) = flL (steps (z - p) e) ++ flL (rnL z (Int.gcd e z : Int) r) := by
      show flL (steps (z - p) e ++ rnL z (Int.gcd e z : Int) r) = _
      rw [flL_append]
    cases r with
    | nil =>
      have h1 : (Int.gcd e z : Int) = 1 := by simpa [desB] using hdes.2
      obtain ⟨A, q, hA, hq, hc⟩ := min_stL (e.toNat + 1) (z - p) e (by omega) he (by omega) (by rw [e2, h1])
      rw [e1]
      have e3 : flL (rnL z (Int.gcd e z : Int) []) = [] := rfl
      rw [e3, List.append_nil]
      unfold steps
      rw [hA]
      rcases hc with ⟨rfl, h4, h5⟩ | hc
      · refine ⟨Y, q, by simp, hq, ?_⟩
        rw [h5]
        rcases hY with hY | hY
        · exact hY
        · omega
      · exact ⟨Y ++ A, q, by rw [List.append_assoc], hq, app_last hc⟩
    | cons y r =>
      have hg1 : 1 < (Int.gcd e z : Int) := by
        by_cases h : 1 < (Int.gcd e z : Int)
        · exact h
        · have h1 : (Int.gcd e z : Int) = 1 := by omega
          have h2 := hdes.2
          rw [h1] at h2
          simp only [desB, Bool.and_eq_true, decide_eq_true_eq] at h2
          exact absurd (by rw [Int.gcd_one_left] at h2; exact absurd rfl h2.1) id
      rw [e1, ← List.append_assoc]
      refine min_rn (r := r) (z := y) (p := z) (e := (Int.gcd e z : Int)) hg1 (Int.gcd_dvd_right _ _) (by omega) hasc.2 hdes.2 (.inl (app_last ?_))
      unfold steps
      rw [last_stL _ (z - p) e (by omega) (by omega) (by omega), e2]
/-- The sequence of a branch that is not smooth ends with as many ones as the number before them tells. -/
theorem min_seq {n z : Int} {r : List Int} (hp : brB (n :: z :: r) = true) : ∃ (A : List Int) (q : Nat), seqL (n :: z :: r) = A ++ List.replicate q 1 ∧ 1 < q ∧ A.getLast? = some (q : Int) := by
  obtain ⟨hn, hasc, hdes, hnz⟩ := br_two hp
  have e : seqL (n :: z :: r) = flL (rnL 0 n (z :: r)) := by unfold seqL; rw [rsI_more]; rfl
  have hn1 : 1 < n := by
    by_cases h : 1 < n
    · exact h
    · have h1 : n = 1 := by omega
      subst h1
      simp only [desB, Bool.and_eq_true, decide_eq_true_eq] at hdes
      exact absurd (by rw [Int.gcd_one_left] at hdes; exact absurd rfl hdes.1) id
  have := min_rn (r := r) (z := z) (p := 0) (e := n) (Y := []) hn1 ⟨0, by simp⟩ (by omega) hasc hdes (.inr (by omega))
  rw [e]
  simpa using this
/-- A list whose last number greater than 1 has as many ones behind it as it tells is read as well without more ones. -/
theorem bs_cut {L : List Int} {j : Nat} (hl : 0 < L.length) (hL : ∀ x ∈ L, (1 : Int) ≤ x) (hc : ∀ p, p < L.length → (∀ x, p < x → x < L.length → L[x]?.getD 0 = 1) → 1 < L[p]?.getD 0 → L[p]?.getD 0 ≤ (L.length : Int) - 1 - (p : Int))
    (hb : bsB (L ++ List.replicate j 1) = true) : bsB L = true ∧ bsT L = bsT (L ++ List.replicate j 1) := by
  have hpos : ∀ x ∈ L ++ List.replicate j 1, (1 : Int) ≤ x := fun x hx => by
    rcases List.mem_append.1 hx with hx | hx
    · exact hL x hx
    · rw [(List.mem_replicate.1 hx).2]; exact Int.le_refl _
  obtain ⟨hbr, i, hi⟩ := bs_inv (R := L ++ List.replicate j 1) (by simp; omega) hpos hb
  generalize bsT (L ++ List.replicate j 1) = T at *
  have hlen := congrArg List.length hi
  simp only [List.length_append, List.length_replicate] at hlen
  have hget : ∀ x, x < L.length → L[x]? = (seqL T ++ List.replicate i 1)[x]? := fun x hx => by
    rw [← hi, List.getElem?_append_left hx]
  have hle : (seqL T).length ≤ L.length := by
    cases T with
    | nil => cases hbr
    | cons n r =>
      cases r with
      | nil =>
        obtain rfl := br_single hbr
        show (seqL [1]).length ≤ _
        have : (seqL [1]).length = 1 := rfl
        omega
      | cons z r =>
        obtain ⟨A, q, hA, hq, hlast⟩ := min_seq hbr
        by_cases h : (seqL (n :: z :: r)).length ≤ L.length
        · exact h
        · exfalso
          rw [hA] at hlen h hget hi
          simp only [List.length_append, List.length_replicate] at hlen h
          have hA0 : 0 < A.length := by
            cases A with
            | nil => simp at hlast
            | cons a A => simp
          have hlastA : A[A.length - 1]?.getD 0 = (q : Int) := by
            rw [List.getLast?_eq_getElem?] at hlast
            rw [hlast]; rfl
          have hAt : ∀ x, x < A.length → (A ++ List.replicate q 1 ++ List.replicate i 1)[x]?.getD 0 = A[x]?.getD 0 := fun x hx => by
            rw [List.append_assoc, List.getElem?_append_left hx]
          have hOnes : ∀ x, A.length ≤ x → x < A.length + q + i → (A ++ List.replicate q 1 ++ List.replicate i 1)[x]?.getD 0 = 1 := fun x h1 h2 => by
            rw [List.append_assoc, List.getElem?_append_right h1, ← List.replicate_append_replicate.symm, List.getElem?_replicate, if_pos (by omega)]; rfl
          by_cases hAL : A.length ≤ L.length
          · have h3 : L[A.length - 1]?.getD 0 = (q : Int) := by rw [hget _ (by omega), hAt _ (by omega), hlastA]
            have h4 := hc (A.length - 1) (by omega) (fun x h1 h2 => by rw [hget x h2]; exact hOnes x (by omega) (by omega)) (by omega)
            omega
          · have h3 : (L ++ List.replicate j 1)[A.length - 1]?.getD 0 = 1 := by
              rw [List.getElem?_append_right (by omega), List.getElem?_replicate, if_pos (by omega)]; rfl
            rw [hi, hAt _ (by omega), hlastA] at h3
            omega
  have hLe : L = seqL T ++ List.replicate (L.length - (seqL T).length) 1 := by
    have h1 : (L ++ List.replicate j 1).take L.length = L := by rw [List.take_append_of_le_length (Nat.le_refl _), List.take_of_length_le (Nat.le_refl _)]
    rw [hi, List.take_append, List.take_of_length_le hle, List.take_replicate] at h1
    rw [Nat.min_eq_left (by omega)] at h1
    exact h1.symm
  have h2 := bs_back hbr (L.length - (seqL T).length)
  rw [← hLe] at h2
  exact h2
theorem bs_grow {L : List Int} (j : Nat) (hl : 0 < L.length) (hL : ∀ x ∈ L, (1 : Int) ≤ x) (hb : bsB L = true) : bsB (L ++ List.replicate j 1) = true := by
  obtain ⟨hbr, i, hi⟩ := bs_inv hl hL hb
  have h := bs_back hbr (i + j)
  rw [← List.replicate_append_replicate, ← List.append_assoc, ← hi] at h
  exact h.1
theorem cvL_cut {c : List Int} {n : Nat} : ∀ p, p < (cvL c n).length → (∀ x, p < x → x < (cvL c n).length → (cvL c n)[x]?.getD 0 = 1) → 1 < (cvL c n)[p]?.getD 0 → (cvL c n)[p]?.getD 0 ≤ ((cvL c n).length : Int) - 1 - (p : Int) := by
  intro p hp h1 h2
  rw [cvL_len] at hp h1 ⊢
  rw [cvL_at (by omega)] at h2 ⊢
  by_cases e : p = n
  · subst e; rw [cvM_last] at h2; omega
  · rw [cvM_sg (by omega)]
    have hst : sg (fun s => if pcB c p (n - s) = true then cvM c n (n - s) else 0) n = sg (fun s => if pcB c p (n - s) = true then cvM c n (n - s) else 0) (n - p) := by
      have := sg_stop (F := fun s => if pcB c p (n - s) = true then cvM c n (n - s) else 0) (t := n - p) (fun s hs => by
        show (if pcB c p (n - s) = true then cvM c n (n - s) else 0) = 0
        rw [pcB_out (by omega)]; simp) p
      rwa [show n - p + p = n by omega] at this
    rw [hst]
    have := sg_le (F := fun s => if pcB c p (n - s) = true then cvM c n (n - s) else 0) (b := 1) (n := n - p) (fun s hs => by
      show (if pcB c p (n - s) = true then cvM c n (n - s) else 0) ≤ 1
      split
      · have h3 := h1 (n - s) (by omega) (by omega)
        rw [cvL_at (by omega)] at h3
        omega
      · omega)
    omega
theorem cvL_pos {c : List Int} {n : Nat} : ∀ x ∈ cvL c n, (1 : Int) ≤ x := fun x hx => by
  obtain ⟨i, hi, rfl⟩ := List.mem_map.1 hx
  exact cvM_ge (by have := List.mem_range.1 hi; omega)
/-- The program reads the multiplicities of a curvette as they are, the model with more ones: the same. -/
theorem cv_same (c : List Int) (n j : Nat) : bsB (cvL c n ++ List.replicate j 1) = bsB (cvL c n) ∧ (bsB (cvL c n) = true → bsT (cvL c n ++ List.replicate j 1) = bsT (cvL c n)) := by
  have hl : 0 < (cvL c n).length := by rw [cvL_len]; omega
  cases hb : bsB (cvL c n ++ List.replicate j 1)
  · cases hb2 : bsB (cvL c n)
    · exact ⟨rfl, fun h => by cases h⟩
    · rw [bs_grow j hl cvL_pos hb2] at hb; cases hb
  · obtain ⟨h1, h2⟩ := bs_cut hl cvL_pos cvL_cut hb
    exact ⟨h1.symm, fun _ => h2.symm⟩
end Go.Proofs.Ytohbgfmjnanlkaa
