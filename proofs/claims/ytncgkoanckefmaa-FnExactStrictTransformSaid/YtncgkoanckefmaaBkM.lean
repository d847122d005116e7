/- Blocks of equal numbers: plain mathematics. Conditions: stated at each theorem. -/
import Derived.Test.YtncgkoanckefmaaLaw
namespace Go.Proofs.Ytncgkoanckefmaa
set_option linter.unusedVariables false

/-- The different numbers of a list, side by side, with how often each one stands there. -/
def bkL : List Int → List (Int × Int)
  | [] => []
  | x :: r => match bkL r with
    | [] => [(x, 1)]
    | p :: q => if p.1 = x then (x, p.2 + 1) :: q else (x, 1) :: p :: q
/-- How many numbers x stand at the beginning. -/
def lead (x : Int) : List Int → Nat
  | [] => 0
  | y :: r => if y = x then lead x r + 1 else 0
theorem lead_le (x : Int) : ∀ (r : List Int), lead x r ≤ r.length
  | [] => by simp [lead]
  | y :: r => by
    unfold lead
    split
    · have := lead_le x r; simp; omega
    · simp
theorem bk_none {x : Int} {r : List Int} (h : bkL r = []) : bkL (x :: r) = [(x, 1)] := by simp [bkL, h]
theorem bk_same {x k : Int} {r : List Int} {q : List (Int × Int)} (h : bkL r = (x, k) :: q) : bkL (x :: r) = (x, k + 1) :: q := by simp [bkL, h]
theorem bk_other {x y k : Int} {r : List Int} {q : List (Int × Int)} (h : bkL r = (y, k) :: q) (hn : y ≠ x) : bkL (x :: r) = (x, 1) :: (y, k) :: q := by simp [bkL, h, hn]
theorem bk_lead : ∀ (r : List Int) (x : Int), bkL (x :: r) = (x, ((lead x r + 1 : Nat) : Int)) :: bkL (r.drop (lead x r))
  | [], x => by rw [bk_none rfl]; rfl
  | y :: s, x => by
    have ih := bk_lead s y
    by_cases h : y = x
    · subst h
      rw [bk_same ih]
      have e : lead y (y :: s) = lead y s + 1 := by simp [lead]
      rw [e, List.drop_succ_cons]
      congr 1
    · have e : lead x (y :: s) = 0 := by simp [lead, h]
      rw [bk_other ih h, e, List.drop_zero, ← ih]
      rfl
theorem bk_cons (x : Int) (r : List Int) : ∃ k q, bkL (x :: r) = (x, k) :: q := ⟨_, _, bk_lead r x⟩
/-- One more number behind the list. -/
theorem bk_snoc : ∀ (xs : List Int) (x z : Int), xs.getLast? = some z → (z = x → ∃ D k, bkL xs = D ++ [(x, k)] ∧ bkL (xs ++ [x]) = D ++ [(x, k + 1)]) ∧ (z ≠ x → bkL (xs ++ [x]) = bkL xs ++ [(x, 1)])
  | [], _, _, h => by cases h
  | [y], x, z, h => by
    have e : y = z := by simpa using h
    subst e
    refine ⟨fun e => ?_, fun e => ?_⟩
    · subst e; exact ⟨[], 1, by simp [bkL], by simp [bkL]⟩
    · have : ¬ x = y := fun h => e h.symm
      simp [bkL, this]
  | y :: a :: r, x, z, h => by
    have h2 : (a :: r).getLast? = some z := by simpa using h
    obtain ⟨i1, i2⟩ := bk_snoc (a :: r) x z h2
    obtain ⟨k0, q0, e0⟩ := bk_cons a r
    refine ⟨fun e => ?_, fun e => ?_⟩
    · obtain ⟨D, k, h3, h4⟩ := i1 e
      cases D with
      | nil =>
        simp only [List.nil_append] at h3 h4
        by_cases hy : x = y
        · subst hy
          exact ⟨[], k + 1, bk_same h3, bk_same h4⟩
        · exact ⟨[(y, 1)], k, bk_other h3 hy, bk_other h4 hy⟩
      | cons d D =>
        obtain ⟨d1, d2⟩ := d
        by_cases hy : d1 = y
        · subst hy
          exact ⟨(d1, d2 + 1) :: D, k, bk_same h3, bk_same h4⟩
        · exact ⟨(y, 1) :: (d1, d2) :: D, k, bk_other h3 hy, bk_other h4 hy⟩
    · have h4 := i2 e
      rw [e0] at h4
      by_cases hy : a = y
      · subst hy
        show bkL (a :: ((a :: r) ++ [x])) = _
        rw [bk_same h4, bk_same e0]; rfl
      · show bkL (y :: ((a :: r) ++ [x])) = _
        rw [bk_other h4 hy, bk_other e0 hy]; rfl
theorem bk_bound : ∀ (xs : List Int), (bkL xs).length ≤ xs.length ∧ ∀ p ∈ bkL xs, 1 ≤ p.2 ∧ p.2 ≤ xs.length
  | [] => by simp [bkL]
  | x :: r => by
    obtain ⟨i1, i2⟩ := bk_bound r
    cases h : bkL r with
    | nil => rw [bk_none h]; simp; omega
    | cons p q =>
      obtain ⟨y, k⟩ := p
      rw [h] at i1 i2
      have hk := i2 (y, k) (by simp)
      by_cases hy : y = x
      · subst hy
        rw [bk_same h]
        refine ⟨by simp at i1 ⊢; omega, fun p hp => ?_⟩
        rcases List.mem_cons.1 hp with rfl | hp
        · simp at hk ⊢; omega
        · have := i2 p (by simp [hp]); simp; omega
      · rw [bk_other h hy]
        refine ⟨by simp at i1 ⊢; omega, fun p hp => ?_⟩
        rcases List.mem_cons.1 hp with rfl | hp
        · simp; omega
        · have := i2 p hp; simp; omega
/-- As lists of two numbers. -/
def bkQ (xs : List Int) : List (List Int) := (bkL xs).map fun p => [p.1, p.2]
end Go.Proofs.Ytncgkoanckefmaa
