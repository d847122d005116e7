/- The text of a branch: plain mathematics. Conditions: stated at each theorem. -/
import Derived.Test.YtlidleaigjemnaaDoorBrM
import Derived.Test.YtlidleaigjemnaaDoorBtW
namespace Go.Proofs.YtlidleaigjemnaaDoor
set_option linter.unusedVariables false

def sepB (i : Nat) : UInt8 := if i = 0 then 40 else if i = 1 then 59 else 44
def btP (zs : List Int) : Nat → List UInt8
  | 0 => []
  | i + 1 => btP zs i ++ (sepB i :: Lib.itoa (zs[i]?.getD 0))
def brT (zs : List Int) : List UInt8 := btP zs zs.length ++ [41]
theorem btP_zero (zs : List Int) : btP zs 0 = [] := by rw [btP]
theorem btP_succ (zs : List Int) (i : Nat) : btP zs (i + 1) = btP zs i ++ (sepB i :: Lib.itoa (zs[i]?.getD 0)) := by rw [btP]
theorem sep_more {k : Nat} (h : 0 < k) : sepB (k + 1) = 44 := by unfold sepB; rw [if_neg (by omega), if_neg (by omega)]
theorem sep_many {k : Nat} (h : 1 < k) : sepB k = 44 := by unfold sepB; rw [if_neg (by omega), if_neg (by omega)]
theorem asc_len : ∀ (zs : List Int) (p : Int), p ≤ 2000 → ascB p zs = true → (zs.length : Int) ≤ 2000 - p := by
  intro zs
  induction zs with
  | nil => intro p hp _; simp; omega
  | cons z zs ih =>
    intro p hp h
    simp only [ascB, Bool.and_eq_true, decide_eq_true_eq] at h
    have := ih z h.1.2 h.2
    simp; omega
theorem brB_len {zs : List Int} (h : brB zs = true) : zs.length ≤ 2001 := by
  obtain ⟨n, r, rfl, _, ha, _⟩ := dcB_parts (brB_dcB h)
  have := asc_len r 0 (by omega) ha
  simp; omega
theorem btP_len {zs : List Int} (h : ∀ z ∈ zs, 1 ≤ z ∧ z ≤ 2000) : ∀ i, (btP zs i).length ≤ 21 * i := by
  intro i
  induction i with
  | zero => simp [btP]
  | succ i ih =>
    have h1 : 0 ≤ zs[i]?.getD 0 ∧ zs[i]?.getD 0 ≤ 2000 := range_of (fun z hz => by have := h z hz; omega) i
    have h2 := itoa_len (n := zs[i]?.getD 0) (by omega) (by omega)
    rw [btP_succ]; simp; omega
end Go.Proofs.YtlidleaigjemnaaDoor
