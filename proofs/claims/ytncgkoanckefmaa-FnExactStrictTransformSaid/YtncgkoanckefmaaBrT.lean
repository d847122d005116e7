/- TruncateBranch, the program's: contract. Conditions: stated at each theorem. -/
import Derived.Test.YtncgkoanckefmaaBrU
import Derived.Test.YtncgkoanckefmaaClone
namespace Go.Proofs.Ytncgkoanckefmaa
open Go.ChangeShapes Go.WideShapes Go.ChangeAt Go.RowKit
set_option linter.unusedVariables false

/-- The truncation after k pairs. -/
def cutL (zs : List Int) (k : Nat) : List Int := (zs.take (k + 1)).map fun z => z.tdiv ((dvL 0 zs)[k]?.getD 0)
def tcA (zs : List Int) (k : Int) : List Int := if brB zs then (if 0 ≤ k ∧ k < (zs.length : Int) then cutL zs k.toNat else []) else []
def tcC (zs : List Int) (k : Int) : Int := if brB zs then (if 0 ≤ k ∧ k < (zs.length : Int) then 0 else 2) else 1
theorem tc_no {zs : List Int} {k : Int} (h : brB zs = false) : tcA zs k = [] ∧ tcC zs k = 1 := by simp [tcA, tcC, h]
theorem tc_out {zs : List Int} {k : Int} (h : brB zs = true) (hk : ¬(0 ≤ k ∧ k < (zs.length : Int))) : tcA zs k = [] ∧ tcC zs k = 2 := by
  unfold tcA tcC; rw [if_pos h, if_pos h, if_neg hk, if_neg hk]; exact ⟨rfl, rfl⟩
theorem tc_in {zs : List Int} {k : Nat} (h : brB zs = true) (hk : k < zs.length) : tcA zs k = cutL zs k ∧ tcC zs k = 0 := by
  have h2 : 0 ≤ (k : Int) ∧ (k : Int) < (zs.length : Int) := by omega
  unfold tcA tcC; rw [if_pos h, if_pos h, if_pos h2, if_pos h2]; exact ⟨by simp, rfl⟩
theorem tcA_len {zs : List Int} {k : Int} (h : zs.length ≤ 1048576) : (tcA zs k).length ≤ 1099511627776 := by
  unfold tcA; split
  · split
    · unfold cutL; simp; omega
    · simp
  · simp
theorem dvL_take (e : Int) (zs : List Int) (m : Nat) : dvL e (zs.take m) = (dvL e zs).take m := by
  induction zs generalizing e m with
  | nil => simp [dvL]
  | cons z zs ih => cases m with
    | zero => simp [dvL]
    | succ m => simp [dvL, ih]
theorem dvL_pos {zs : List Int} : ∀ {e : Int}, (∀ z ∈ zs, 1 ≤ z ∧ z ≤ 2000) → ∀ z ∈ dvL e zs, 1 ≤ z ∧ z ≤ 2000 := by
  induction zs with
  | nil => intro e _ z hz; cases hz
  | cons y ys ih =>
    intro e h z hz
    have h1 := gcd_le (e := e) (h y (List.mem_cons_self ..)).1
    have h2 := (h y (List.mem_cons_self ..)).2
    rcases List.mem_cons.1 hz with rfl | hz
    · omega
    · exact ih (fun x hx => h x (List.mem_cons_of_mem _ hx)) z hz
theorem tdiv_range {z e : Int} (hz : 1 ≤ z ∧ z ≤ 2000) (he : 1 ≤ e) : 0 ≤ z.tdiv e ∧ z.tdiv e ≤ 2000 := by
  rw [Int.tdiv_eq_ediv_of_nonneg (by omega)]
  exact ⟨Int.ediv_nonneg (by omega) (by omega), Int.le_trans (Int.ediv_le_self _ (by omega)) hz.2⟩
/-- The list X, its first i numbers turned by f. -/
def mixL (f : Int → Int) (X : List Int) (i : Nat) : List Int := (List.range X.length).map fun t => if t < i then f (X[t]?.getD 0) else X[t]?.getD 0
theorem mix_len (f : Int → Int) (X : List Int) (i : Nat) : (mixL f X i).length = X.length := by simp [mixL]
theorem mix_zero (f : Int → Int) (X : List Int) : mixL f X 0 = X := by
  apply List.ext_getElem?
  intro t
  by_cases h : t < X.length
  · simp [mixL, h]
  · simp [mixL, List.getElem?_eq_none (show X.length ≤ t by omega)]; omega
theorem mix_all (f : Int → Int) (X : List Int) {i : Nat} (h : X.length = i) : mixL f X i = X.map f := by
  subst h
  apply List.ext_getElem?
  intro t
  by_cases h : t < X.length
  · simp [mixL, h]
  · simp [mixL, List.getElem?_eq_none (show X.length ≤ t by omega)]; omega
theorem mix_at (f : Int → Int) (X : List Int) {i : Nat} (h : i < X.length) : (mixL f X i)[i]?.getD 0 = X[i]?.getD 0 := by simp [mixL, h]
theorem mix_set (f : Int → Int) (X : List Int) {i : Nat} (h : i < X.length) : (mixL f X i).set i (f (X[i]?.getD 0)) = mixL f X (i + 1) := by
  apply List.ext_getElem?
  intro t
  by_cases ht : t < X.length
  · by_cases e : i = t
    · subst e; simp [mixL, h]
    · by_cases e2 : t < i
      · simp [mixL, ht, e, e2, show t < i + 1 by omega]
      · simp [mixL, ht, e, e2, show ¬ t < i + 1 by omega]
  · rw [List.getElem?_eq_none (by rw [List.length_set, mix_len]; omega), List.getElem?_eq_none (by rw [mix_len]; omega)]
end Go.Proofs.Ytncgkoanckefmaa
