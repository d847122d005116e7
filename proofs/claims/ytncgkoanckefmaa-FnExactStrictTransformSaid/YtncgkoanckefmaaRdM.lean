/- Reading a branch from its sequence: plain mathematics of chapter 4. Conditions: stated at each theorem. -/
import Derived.Test.YtncgkoanckefmaaBkM
import Derived.Test.YtncgkoanckefmaaSqM
namespace Go.Proofs.Ytncgkoanckefmaa
set_option linter.unusedVariables false

/-- Steps are read from the beginning of a list: the last divisor, and what is left. -/
def eat : List (Int × Int) → Int → List Int → Option (Int × List Int)
  | [], e, R => some (e, R)
  | (q, r) :: S, _, R => if (lead r R : Int) < q then none else eat S r (R.drop q.toNat)
/-- The first number of a run. -/
def kk (e : Int) (R : List Int) : Int := (lead e R : Int) * e + R[lead e R]?.getD 0
/-- Runs are read: the terms, and what is left. -/
def rd : Nat → Int → Int → List Int → Option (List Int × List Int)
  | 0, _, _, _ => none
  | f + 1, e, t, R =>
    if e ≤ 1 then some ([], R)
    else if lead e R = R.length then none
    else match eat (steps (kk e R) e) e R with
      | none => none
      | some p => match rd f p.1 (t + kk e R) p.2 with
        | none => none
        | some x => some ((t + kk e R) :: x.1, x.2)
def rdC (T : List Int) : Option (List Int × List Int) → Option (List Int × List Int)
  | none => none
  | some p => some (T ++ p.1, p.2)
theorem rdC_nil (o : Option (List Int × List Int)) : rdC [] o = o := by cases o <;> rfl
theorem rd_end {f : Nat} {e t : Int} {R : List Int} (h : e ≤ 1) : rd (f + 1) e t R = some ([], R) := by rw [rd, if_pos h]
theorem rd_short {f : Nat} {e t : Int} {R : List Int} (h : ¬ e ≤ 1) (h2 : lead e R = R.length) : rd (f + 1) e t R = none := by rw [rd, if_neg h, if_pos h2]
theorem rd_none {f : Nat} {e t : Int} {R : List Int} (h : ¬ e ≤ 1) (h2 : ¬ lead e R = R.length) (h3 : eat (steps (kk e R) e) e R = none) : rd (f + 1) e t R = none := by rw [rd, if_neg h, if_neg h2, h3]
theorem rd_more {f : Nat} {e t e' : Int} {R R' T : List Int} (h : ¬ e ≤ 1) (h2 : ¬ lead e R = R.length) (h3 : eat (steps (kk e R) e) e R = some (e', R')) :
    rdC T (rd (f + 1) e t R) = rdC (T ++ [t + kk e R]) (rd f e' (t + kk e R) R') := by
  rw [rd, if_neg h, if_neg h2, h3]
  cases hx : rd f e' (t + kk e R) R' with
  | none => simp only [hx]; rfl
  | some x => simp only [hx, rdC, List.append_assoc]; rfl
/-- What reading steps leaves. -/
theorem eat_stL : ∀ (f : Nat) (a b e0 : Int) (R : List Int), 0 ≤ a → 1 ≤ b → b.toNat < f → ∀ e' R', eat (stL f a b) e0 R = some (e', R') → e' = (Int.gcd a b : Int)
  | 0, _, b, _, _, _, _, h, _, _, _ => by omega
  | f + 1, a, b, e0, R, ha, hb, hf, e', R', h => by
    unfold stL at h
    rw [if_neg (by omega)] at h
    simp only [eat] at h
    split at h
    · cases h
    · have h1 : 0 ≤ a % b ∧ a % b < b := ⟨Int.emod_nonneg _ (by omega), Int.emod_lt_of_pos _ (by omega)⟩
      have hg : (Int.gcd b (a % b) : Int) = (Int.gcd a b : Int) := by
        have e1 : a % b + b * (a / b) = a := Int.emod_add_mul_ediv a b
        have e2 : Int.gcd b (a % b + b * (a / b)) = Int.gcd b (a % b) := Int.gcd_add_mul_left_right ..
        rw [e1] at e2
        rw [Int.gcd_comm a b, e2]
      by_cases h0 : a % b = 0
      · have h2 : stL f b (a % b) = [] := by
          cases f with
          | zero => rfl
          | succ f => rw [stL, if_pos (by omega)]
        rw [h2] at h
        simp only [eat, Option.some.injEq, Prod.mk.injEq] at h
        rw [← h.1, ← hg, h0, Int.gcd_zero_right]; omega
      · rw [← hg]
        exact eat_stL f b (a % b) b _ (by omega) (by omega) (by omega) e' R' h
theorem eat_gcd {k e e0 e' : Int} {R R' : List Int} (hk : 0 ≤ k) (he : 1 ≤ e) (h : eat (steps k e) e0 R = some (e', R')) : e' = (Int.gcd k e : Int) := eat_stL _ k e e0 R hk he (by omega) e' R' h
/-- A run that can be read divides the divisor. -/
theorem eat_less {e e' : Int} {R R' : List Int} (he : 1 ≤ e) (hR : ∀ x ∈ R, (1 : Int) ≤ x) (hl : lead e R < R.length) (h : eat (steps (kk e R) e) e R = some (e', R')) :
    (1 ≤ e' ∧ e' < e) ∧ (R[lead e R]?.getD 0 < e ∧ 1 ≤ R[lead e R]?.getD 0) ∧ e' = (Int.gcd e (kk e R) : Int) := by
  have hx : 1 ≤ R[lead e R]?.getD 0 := by
    have := hR R[lead e R] (List.getElem_mem _); simpa [hl] using this
  have hk0 : 0 ≤ kk e R := by
    unfold kk
    have : 0 ≤ (lead e R : Int) * e := Int.mul_nonneg (by omega) (by omega)
    omega
  have hg := eat_gcd hk0 he h
  have hq : kk e R / e ≤ (lead e R : Int) := by
    unfold steps at h
    unfold stL at h
    rw [if_neg (by omega)] at h
    simp only [eat] at h
    split at h
    · cases h
    · omega
  have hxe : R[lead e R]?.getD 0 < e := by
    by_cases h1 : R[lead e R]?.getD 0 < e
    · exact h1
    · have h2 : ((lead e R : Int) + 1) * e ≤ kk e R := by unfold kk; rw [Int.add_mul]; omega
      have h3 := (Int.le_ediv_iff_mul_le (a := (lead e R : Int) + 1) (b := kk e R) (c := e) (by omega)).2 h2
      omega
  have hd : (Int.gcd (kk e R) e : Int) ∣ R[lead e R]?.getD 0 := by
    have h1 : (Int.gcd (kk e R) e : Int) ∣ kk e R := Int.gcd_dvd_left _ _
    have h2 : (Int.gcd (kk e R) e : Int) ∣ (lead e R : Int) * e := Int.dvd_trans (Int.gcd_dvd_right _ _) (Int.dvd_mul_left _ _)
    have h3 := Int.dvd_sub h1 h2
    unfold kk at h3 ⊢
    rwa [show (lead e R : Int) * e + R[lead e R]?.getD 0 - (lead e R : Int) * e = R[lead e R]?.getD 0 by omega] at h3
  have h4 := Int.le_of_dvd (by omega) hd
  have h5 := gcd_le (e := kk e R) he
  refine ⟨⟨by omega, by omega⟩, ⟨hxe, hx⟩, by rw [hg, Int.gcd_comm]⟩
/-- The divisor of a list of terms. -/
def gcF (e : Int) : List Int → Int
  | [] => e
  | z :: r => gcF (Int.gcd e z : Int) r
theorem gcF_snoc : ∀ (T : List Int) (e z : Int), gcF e (T ++ [z]) = (Int.gcd (gcF e T) z : Int)
  | [], _, _ => rfl
  | y :: T, e, z => gcF_snoc T _ z
theorem gcF_des : ∀ (T : List Int) (e : Int), desB e T = true → gcF e T = 1
  | [], e, h => by simpa [desB, gcF] using h
  | z :: T, e, h => by
    simp only [desB, Bool.and_eq_true] at h
    exact gcF_des T _ h.2
theorem br_gcF {n : Int} {T : List Int} (h : gcF n T ≠ 1) : brB (n :: T) = false := by
  cases hb : brB (n :: T)
  · rfl
  · have h1 := brB_dcB hb
    simp only [dcB, Bool.and_eq_true] at h1
    exact absurd (gcF_des T n h1.2.2) h
/-- Lists of 1 to 400 numbers in 1..64. -/
def sqlB (L : List Int) : Bool := decide (1 ≤ L.length ∧ L.length ≤ 400) && L.all mulB
theorem sql_yes {L : List Int} (h : sqlB L = true) : (1 ≤ L.length ∧ L.length ≤ 400) ∧ ∀ x ∈ L, 1 ≤ x ∧ x ≤ 64 := by
  simp only [sqlB, Bool.and_eq_true, decide_eq_true_eq, List.all_eq_true] at h
  exact ⟨h.1, fun x hx => mulB_true.1 (h.2 x hx)⟩
def bsR (L : List Int) : Option (List Int × List Int) := rd 65 (L[0]?.getD 0) 0 L
def bsB (L : List Int) : Bool := match bsR L with
  | none => false
  | some p => brB (L[0]?.getD 0 :: p.1) && decide (lead 1 p.2 = p.2.length)
def bsT (L : List Int) : List Int := match bsR L with
  | none => []
  | some p => L[0]?.getD 0 :: p.1
def bsA (L : List Int) : List Int := if sqlB L then (if bsB L then bsT L else []) else []
def bsC (L : List Int) : Int := if sqlB L then (if bsB L then 0 else 5) else 2
theorem bs_no {L : List Int} (h : sqlB L = false) : bsA L = [] ∧ bsC L = 2 := by simp [bsA, bsC, h]
theorem bs_out {L : List Int} (h : sqlB L = true) (h2 : bsB L = false) : bsA L = [] ∧ bsC L = 5 := by simp [bsA, bsC, h, h2]
theorem bs_yes {L : List Int} (h : sqlB L = true) (h2 : bsB L = true) : bsA L = bsT L ∧ bsC L = 0 := by simp [bsA, bsC, h, h2]
theorem rd_len : ∀ (f : Nat) (e t : Int) (R : List Int) (x : List Int × List Int), rd f e t R = some x → x.1.length ≤ f
  | 0, _, _, _, _, h => by cases h
  | f + 1, e, t, R, x, h => by
    rw [rd] at h
    split at h
    · cases h; simp
    · split at h
      · cases h
      · split at h
        · cases h
        · split at h
          · cases h
          · rename_i p _ y hy
            have := rd_len f _ _ _ _ hy
            cases h
            simp; omega
theorem bsA_len (L : List Int) : (bsA L).length ≤ 1099511627776 := by
  unfold bsA
  split
  · split
    · unfold bsT
      cases h : bsR L with
      | none => simp
      | some p =>
        have := rd_len _ _ _ _ _ h
        simp; omega
    · simp
  · simp
end Go.Proofs.Ytncgkoanckefmaa
