/- Branches: plain mathematics of chapter 3. Conditions: stated at each theorem. -/
import Derived.Test.YtncgkoanckefmaaLaw
namespace Go.Proofs.Ytncgkoanckefmaa
set_option linter.unusedVariables false

/-- The greatest common divisors, one number after the other. -/
def dvL (e : Int) : List Int → List Int
  | [] => []
  | z :: zs => (Int.gcd e z : Int) :: dvL (Int.gcd e z : Int) zs
/-- The numbers ascend, from b on, and are at most 2000. -/
def ascB (b : Int) : List Int → Bool
  | [] => true
  | z :: zs => decide (b < z ∧ z ≤ 2000) && ascB z zs
/-- The divisors change with each number, and end with 1. -/
def desB (e : Int) : List Int → Bool
  | [] => e == 1
  | z :: zs => decide ((Int.gcd e z : Int) ≠ e) && desB (Int.gcd e z : Int) zs
/-- Both. -/
def isB (p e : Int) : List Int → Bool
  | [] => e == 1
  | z :: zs => decide (p < z ∧ z ≤ 2000) && (decide ((Int.gcd e z : Int) ≠ e) && isB z (Int.gcd e z : Int) zs)
def mulB (z : Int) : Bool := decide (1 ≤ z ∧ z ≤ 64)
def dcB : List Int → Bool
  | [] => false
  | n :: r => mulB n && (ascB 0 r && desB n r)
def brB : List Int → Bool
  | [] => false
  | n :: r => mulB n && isB n n r
/-- Each number is another one than that before it. -/
def chgB : List Int → Bool
  | a :: b :: r => decide (b ≠ a) && chgB (b :: r)
  | _ => true

theorem mulB_true {z : Int} : mulB z = true ↔ 1 ≤ z ∧ z ≤ 64 := by unfold mulB; simp
theorem mulB_false {z : Int} : mulB z = false ↔ ¬(1 ≤ z ∧ z ≤ 64) := by unfold mulB; simp
theorem drop_at {zs : List Int} {n k : Nat} (hl : zs.length = n) (h : k < n) : zs.drop k = (zs[k]?.getD 0) :: zs.drop (k + 1) := by
  subst hl; rw [List.drop_eq_getElem_cons h]; simp [h]
theorem drop_end {zs : List Int} {n k : Nat} (hl : zs.length = n) (h : n ≤ k) : zs.drop k = [] := List.drop_eq_nil_of_le (by omega)

theorem isB_split (e : Int) : ∀ (p : Int) (zs : List Int), isB p e zs = (ascB p zs && desB e zs) := by
  intro p zs
  induction zs generalizing p e with
  | nil => simp [isB, ascB, desB]
  | cons z zs ih => simp only [isB, ascB, desB, ih]; cases decide (p < z ∧ z ≤ 2000) <;> cases ascB z zs <;> simp
theorem ascB_less {n : Int} (hn : 1 ≤ n) (z : Int) (zs : List Int) : ascB n (z :: zs) = (ascB 0 (z :: zs) && decide (n < z)) := by
  simp only [ascB]
  by_cases h : n < z
  · have h0 : 0 < z := by omega
    simp [h, h0]
  · simp [h]
theorem brB_one {n : Int} : brB [n] = dcB [n] := by simp [brB, dcB, isB, ascB, desB]
theorem brB_more {n z : Int} {r : List Int} : brB (n :: z :: r) = (dcB (n :: z :: r) && decide (n < z)) := by
  simp only [brB, dcB]
  cases hm : mulB n
  · simp
  · rw [isB_split, ascB_less (mulB_true.1 hm).1]
    cases ascB 0 (z :: r) <;> cases desB n (z :: r) <;> simp

theorem gcd_nat (e z : Int) : (0 : Int) ≤ (Int.gcd e z : Int) := Int.natCast_nonneg _
theorem gcd_le {e z : Int} (hz : 1 ≤ z) : 1 ≤ (Int.gcd e z : Int) ∧ (Int.gcd e z : Int) ≤ z := by
  have h1 : Int.gcd e z ≠ 0 := by intro h; have := (Int.gcd_eq_zero_iff.1 h).2; omega
  have h2 : (Int.gcd e z : Int) ∣ z := Int.gcd_dvd_right _ _
  exact ⟨by omega, Int.le_of_dvd (by omega) h2⟩
theorem gcd_le_left {e z : Int} (he : 1 ≤ e) : 1 ≤ (Int.gcd e z : Int) ∧ (Int.gcd e z : Int) ≤ e := by
  rw [Int.gcd_comm]; exact gcd_le he
theorem dvL_len (e : Int) (zs : List Int) : (dvL e zs).length = zs.length := by
  induction zs generalizing e with
  | nil => rfl
  | cons z zs ih => simp [dvL, ih]
theorem ascB_all {b : Int} {zs : List Int} (h : ascB b zs = true) : ∀ z ∈ zs, b < z ∧ z ≤ 2000 := by
  induction zs generalizing b with
  | nil => intro z hz; cases hz
  | cons y ys ih =>
    simp only [ascB, Bool.and_eq_true, decide_eq_true_eq] at h
    intro z hz
    rcases List.mem_cons.1 hz with rfl | hz
    · exact h.1
    · have := ih h.2 z hz; omega
theorem dcB_parts {zs : List Int} (h : dcB zs = true) : ∃ n r, zs = n :: r ∧ (1 ≤ n ∧ n ≤ 64) ∧ ascB 0 r = true ∧ desB n r = true := by
  cases zs with
  | nil => cases h
  | cons n r =>
    simp only [dcB, Bool.and_eq_true] at h
    exact ⟨n, r, rfl, mulB_true.1 h.1, h.2.1, h.2.2⟩
theorem dcB_range {zs : List Int} (h : dcB zs = true) : ∀ z ∈ zs, 1 ≤ z ∧ z ≤ 2000 := by
  obtain ⟨n, r, rfl, hn, ha, _⟩ := dcB_parts h
  intro z hz
  rcases List.mem_cons.1 hz with rfl | hz
  · omega
  · have := ascB_all ha z hz; omega
theorem brB_dcB {zs : List Int} (h : brB zs = true) : dcB zs = true := by
  cases zs with
  | nil => cases h
  | cons n r =>
    cases r with
    | nil => rw [brB_one] at h; exact h
    | cons z r => rw [brB_more] at h; simp only [Bool.and_eq_true] at h; exact h.1
theorem brB_pos {zs : List Int} (h : brB zs = true) : 0 < zs.length := by cases zs with | nil => cases h | cons => simp
theorem chg_cons (e : Int) (zs : List Int) : chgB (e :: dvL e zs) = true ∧ (e :: dvL e zs).getLast? = some 1 ↔ desB e zs = true := by
  induction zs generalizing e with
  | nil => simp [chgB, dvL, desB]
  | cons z zs ih =>
    have h := ih (Int.gcd e z : Int)
    have e1 : (e :: dvL e (z :: zs)).getLast? = ((Int.gcd e z : Int) :: dvL (Int.gcd e z : Int) zs).getLast? := by simp [dvL, List.getLast?_cons_cons]
    rw [e1]
    simp only [dvL, chgB, desB, Bool.and_eq_true, decide_eq_true_eq, and_assoc]
    rw [← h]
theorem dvL_first {n : Int} (hn : 1 ≤ n) (r : List Int) : dvL 0 (n :: r) = n :: dvL n r := by
  have : (Int.gcd 0 n : Int) = n := by simp; omega
  simp only [dvL, this]
theorem dcB_split {n : Int} {r : List Int} : dcB (n :: r) = (mulB n && (ascB 0 r && (chgB (dvL 0 (n :: r)) && decide ((dvL 0 (n :: r)).getLast? = some 1)))) := by
  simp only [dcB]
  cases hm : mulB n
  · simp
  · rw [dvL_first (mulB_true.1 hm).1]
    have := chg_cons n r
    cases hd : desB n r
    · have h2 : ¬(chgB (n :: dvL n r) = true ∧ (n :: dvL n r).getLast? = some 1) := fun h => by rw [this.1 h] at hd; cases hd
      cases hc : chgB (n :: dvL n r)
      · simp
      · have h3 : ¬ (n :: dvL n r).getLast? = some 1 := fun h => h2 ⟨hc, h⟩
        simp [h3]
    · have h2 := this.2 hd
      simp [h2.1, h2.2]
theorem chg_at {L : List Int} {n k : Nat} (hl : L.length = n) (h : k + 1 < n) : chgB (L.drop k) = (decide (L[k + 1]?.getD 0 ≠ L[k]?.getD 0) && chgB (L.drop (k + 1))) := by
  rw [drop_at hl (by omega), drop_at hl h]
  simp only [chgB]
theorem chg_end {L : List Int} {n k : Nat} (hl : L.length = n) (h : n ≤ k + 1) : chgB (L.drop k) = true := by
  have : (L.drop k).length ≤ 1 := by simp; omega
  match hd : L.drop k with
  | [] => rfl
  | [a] => rfl
  | a :: b :: r => rw [hd] at this; simp at this
theorem last_at {L : List Int} {n : Nat} (hl : L.length = n) (h : 0 < n) : L.getLast? = some (L[n - 1]?.getD 0) := by
  subst hl
  rw [List.getLast?_eq_getElem?]
  simp [show L.length - 1 < L.length by omega]
theorem gcd_range {e z : Int} (he : 0 ≤ e ∧ e ≤ 2000) (hz : 1 ≤ z ∧ z ≤ 2000) : 0 ≤ (Int.gcd e z : Int) ∧ (Int.gcd e z : Int) ≤ 2000 := by
  have := gcd_le (e := e) hz.1; omega
theorem dvL_rangeE {zs : List Int} : ∀ {e : Int}, (0 ≤ e ∧ e ≤ 2000) → (∀ z ∈ zs, 1 ≤ z ∧ z ≤ 2000) → ∀ z ∈ dvL e zs, 0 ≤ z ∧ z ≤ 2000 := by
  induction zs with
  | nil => intro e _ _ z hz; cases hz
  | cons y ys ih =>
    intro e he h z hz
    have h1 := gcd_range he (h y (List.mem_cons_self ..))
    rcases List.mem_cons.1 hz with rfl | hz
    · exact h1
    · exact ih h1 (fun x hx => h x (List.mem_cons_of_mem _ hx)) z hz
theorem dvL_range {zs : List Int} (h : ∀ z ∈ zs, 1 ≤ z ∧ z ≤ 2000) : ∀ z ∈ dvL 0 zs, 0 ≤ z ∧ z ≤ 2000 := dvL_rangeE (by omega) h
theorem range_of {D : List Int} (h : ∀ z ∈ D, 0 ≤ z ∧ z ≤ 2000) (k : Nat) : 0 ≤ D[k]?.getD 0 ∧ D[k]?.getD 0 ≤ 2000 := by
  by_cases hk : k < D.length
  · have := h D[k] (List.getElem_mem _); simpa [hk] using this
  · simp [List.getElem?_eq_none (show D.length ≤ k by omega)]
end Go.Proofs.Ytncgkoanckefmaa
