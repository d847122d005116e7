/- Branches of generators: plain mathematics. Conditions: stated at each theorem. -/
import Derived.Test.YtncgkoanckefmaaGnI
import Derived.Test.YtncgkoanckefmaaBrX
namespace Go.Proofs.Ytncgkoanckefmaa
set_option linter.unusedVariables false

/-- The terms behind the divisor e and the shift s. -/
def tgL (e s : Int) : List Int → List Int
  | [] => []
  | z :: zs => (z - s) :: tgL (Int.gcd e z : Int) (e.tdiv (Int.gcd e z : Int) * z - (z - s)) zs
def tgB (zs : List Int) : List Int := tgL (zs[0]?.getD 0) 0 zs
theorem tgL_len (e s : Int) (zs : List Int) : (tgL e s zs).length = zs.length := by
  induction zs generalizing e s with
  | nil => rfl
  | cons z zs ih => simp [tgL, ih]
theorem tgB_len (zs : List Int) : (tgB zs).length = zs.length := tgL_len _ _ _
def agL : List Int → Bool
  | [] => true
  | z :: zs => decide (1 ≤ z ∧ z ≤ 1000000) && agL zs
def ogB (zs : List Int) : Bool := decide (1 ≤ zs.length ∧ zs.length ≤ 8) && agL zs
def bgA (zs : List Int) : List Int := if ogB zs then (if brB (tgB zs) then tgB zs else []) else []
def bgC (zs : List Int) : Int := if ogB zs then (if brB (tgB zs) then 0 else 5) else 2
theorem bg_no {zs : List Int} (h : ogB zs = false) : bgA zs = [] ∧ bgC zs = 2 := by simp [bgA, bgC, h]
theorem bg_none {zs : List Int} (h : ogB zs = true) (h2 : brB (tgB zs) = false) : bgA zs = [] ∧ bgC zs = 5 := by simp [bgA, bgC, h, h2]
theorem bg_yes {zs : List Int} (h : ogB zs = true) (h2 : brB (tgB zs) = true) : bgA zs = tgB zs ∧ bgC zs = 0 := by simp [bgA, bgC, h, h2]
theorem bgA_len {zs : List Int} (h : zs.length ≤ 1048576) : (bgA zs).length ≤ 1099511627776 := by
  unfold bgA
  split
  · split
    · rw [tgB_len]; omega
    · simp
  · simp
theorem agL_all {zs : List Int} (h : agL zs = true) : ∀ z ∈ zs, 1 ≤ z ∧ z ≤ 1000000 := by
  induction zs with
  | nil => intro z hz; cases hz
  | cons y ys ih =>
    simp only [agL, Bool.and_eq_true, decide_eq_true_eq] at h
    intro z hz
    rcases List.mem_cons.1 hz with rfl | hz
    · exact h.1
    · exact ih h.2 z hz
theorem ogB_yes {zs : List Int} (h : ogB zs = true) : (1 ≤ zs.length ∧ zs.length ≤ 8) ∧ agL zs = true := by
  simpa only [ogB, Bool.and_eq_true, decide_eq_true_eq] using h
/-- What is known of the divisor and of the shift, k rounds on. -/
def TSt (e s : Int) (k : Nat) : Prop := (1 ≤ e ∧ e ≤ 1000000) ∧ -(1000000000000 * (k : Int)) ≤ s ∧ s ≤ 1000000000000 * (k : Int)
theorem TSt.step {e s z : Int} {k : Nat} (h : TSt e s k) (hz : 1 ≤ z ∧ z ≤ 1000000) : TSt (Int.gcd e z : Int) (e.tdiv (Int.gcd e z : Int) * z - (z - s)) (k + 1) ∧ (1 ≤ e.tdiv (Int.gcd e z : Int) ∧ e.tdiv (Int.gcd e z : Int) ≤ 1000000) ∧ (0 ≤ e.tdiv (Int.gcd e z : Int) * z ∧ e.tdiv (Int.gcd e z : Int) * z ≤ 1000000000000) := by
  obtain ⟨he, hs1, hs2⟩ := h
  have hg := gcd_le_left (e := e) (z := z) he.1
  have hm := tdiv_mul_of_dvd (Int.gcd_dvd_left e z)
  generalize (Int.gcd e z : Int) = g at *
  have hq := tdiv_le (z := e) (e := g) (B := 1000000) (by omega) hg.1
  generalize e.tdiv g = q at *
  have hq1 : 1 ≤ q := by
    by_cases h : 1 ≤ q
    · exact h
    · have h1 : q ≤ 0 := by omega
      have : q * g ≤ 0 * g := Int.mul_le_mul_of_nonneg_right h1 (by omega)
      omega
  have h1 := mul_range (A := 1000000) (B := 1000000) (a := q) (b := z) hq (by omega)
  have h2 : 1 * z ≤ q * z := Int.mul_le_mul_of_nonneg_right hq1 (by omega)
  refine ⟨⟨by omega, ?_, ?_⟩, by omega, by omega⟩ <;> push_cast <;> omega
theorem tg_step {zs L : List Int} {n k : Nat} {e s : Int} (hl : zs.length = n) (hk : k < n) (h : tgB zs = L ++ tgL e s (zs.drop k)) :
    tgB zs = (L ++ [(zs[k]?.getD 0) - s]) ++ tgL (Int.gcd e (zs[k]?.getD 0) : Int) (e.tdiv (Int.gcd e (zs[k]?.getD 0) : Int) * (zs[k]?.getD 0) - ((zs[k]?.getD 0) - s)) (zs.drop (k + 1)) := by
  rw [h, drop_at hl hk]; simp [tgL]
theorem tg_end {zs L : List Int} {n : Nat} {e s : Int} (hl : zs.length = n) (h : tgB zs = L ++ tgL e s (zs.drop n)) : L = tgB zs := by
  rw [h, drop_end hl (Nat.le_refl _)]; simp [tgL]
theorem tgL_all {zs : List Int} : ∀ {e s : Int} {k : Nat}, TSt e s k → agL zs = true → ∀ x ∈ tgL e s zs, -(1000000000000 * ((k : Int) + (zs.length : Int))) ≤ x ∧ x ≤ 1000000 + 1000000000000 * ((k : Int) + (zs.length : Int)) := by
  induction zs with
  | nil => intro e s k _ _ x hx; cases hx
  | cons z zs ih =>
    intro e s k h ha x hx
    simp only [agL, Bool.and_eq_true, decide_eq_true_eq] at ha
    have h1 := (h.step ha.1).1
    rw [List.length_cons]
    rcases List.mem_cons.1 hx with rfl | hx
    · have h2 := h.2.1; have h3 := h.2.2; push_cast; omega
    · have := ih h1 ha.2 x hx; push_cast at this ⊢; omega
theorem tgB_wf {zs : List Int} (h : ogB zs = true) : ∀ x ∈ tgB zs, (Lit.int .i64 x).wf = true := fun x hx => by
  have h1 := ogB_yes h
  cases zs with
  | nil => cases hx
  | cons z r =>
    have hz := agL_all h1.2 z (List.mem_cons_self ..)
    have h2 := tgL_all (e := z) (s := 0) (k := 0) ⟨hz, by omega, by omega⟩ h1.2 x (by simpa [tgB] using hx)
    have h3 := h1.1.2
    rw [List.length_cons] at h2 h3
    exact i64_wf (by push_cast at h2; omega) (by push_cast at h2; omega)
theorem ag_no {z : Int} {r : List Int} (h : ¬(1 ≤ z ∧ z ≤ 1000000)) : agL (z :: r) = false := by simp only [agL]; rw [decide_eq_false h]; rfl
theorem ag_yes {z : Int} {r : List Int} (h : 1 ≤ z ∧ z ≤ 1000000) : agL (z :: r) = agL r := by simp only [agL]; rw [decide_eq_true h]; rfl
end Go.Proofs.Ytncgkoanckefmaa
