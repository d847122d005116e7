/- The division of lists of integers with a limit: the plain function that both ways to it are held against. Conditions: stated at each theorem. -/
import Derived.Test.YtbipihamkfifjaaRow
namespace Go.Proofs.Ytbipihamkfifjaa
open Go.ChangeShapes Go.WideShapes Go.ChangeAt Go.RowKit
set_option linter.unusedVariables false

/-- One step: the coefficient at a place of the quotient. -/
def divStep (M : Int) (q : List Int) (place : Nat) (s : List Int × List Int) : Except Int (List Int × List Int) :=
  if (s.1.getD (place + (q.length - 1)) 0).tmod (q.getD (q.length - 1) 0) ≠ 0 then .error 5
  else if s.1.getD (place + (q.length - 1)) 0 = 0 then .ok s
  else match addR M place (q.map (mulE (-((s.1.getD (place + (q.length - 1)) 0).tdiv (q.getD (q.length - 1) 0))) M)) s.1 with
    | none => .error 3
    | some r => .ok (r, s.2.set place ((s.1.getD (place + (q.length - 1)) 0).tdiv (q.getD (q.length - 1) 0)))
def divIter (M : Int) (q : List Int) (n : Nat) (s : List Int × List Int) : Nat → Except Int (List Int × List Int)
  | 0 => .ok s
  | j + 1 => (divIter M q n s j).bind (divStep M q (n - 1 - j))
theorem divIter_step {M : Int} {q : List Int} {n j : Nat} {s t : List Int × List Int} (h : divIter M q n s j = .ok t) : divIter M q n s (j + 1) = divStep M q (n - 1 - j) t := by
  show (divIter M q n s j).bind (divStep M q (n - 1 - j)) = _
  rw [h]; rfl
theorem divIter_error {M : Int} {q : List Int} {n j : Nat} {s : List Int × List Int} {c : Int} (h : divIter M q n s j = .error c) : ∀ {m : Nat}, j ≤ m → divIter M q n s m = .error c
  | 0, hm => by obtain rfl : j = 0 := by omega
                exact h
  | m + 1, hm => by
    by_cases e : j = m + 1
    · subst e; exact h
    · show (divIter M q n s m).bind (divStep M q (n - 1 - m)) = _
      rw [divIter_error h (show j ≤ m by omega)]; rfl
theorem divStep_ok {M : Int} {q : List Int} {place : Nat} {s t : List Int × List Int} (h : divStep M q place s = .ok t) : t.1.length = s.1.length ∧ t.2.length = s.2.length ∧ (InM M s.1 → InM M t.1) := by
  unfold divStep at h
  split at h
  · cases h
  · split at h
    · cases h; exact ⟨rfl, rfl, id⟩
    · split at h
      · cases h
      · rename_i r hr
        cases h
        exact ⟨addR_len hr, by simp, fun hi => addR_in hi hr⟩
theorem divIter_ok {M : Int} {q : List Int} {n : Nat} {s : List Int × List Int} : ∀ {j : Nat} {t : List Int × List Int}, divIter M q n s j = .ok t → t.1.length = s.1.length ∧ t.2.length = s.2.length ∧ (InM M s.1 → InM M t.1)
  | 0, t, h => by cases h; exact ⟨rfl, rfl, id⟩
  | j + 1, t, h => by
    cases e : divIter M q n s j with
    | error c => rw [divIter_error e (Nat.le_succ j)] at h; cases h
    | ok u =>
      rw [divIter_step e] at h
      have h1 := divStep_ok h
      have h2 := divIter_ok e
      exact ⟨h1.1.trans h2.1, h1.2.1.trans h2.2.1, fun hi => h1.2.2 (h2.2.2 hi)⟩
def divEnd (x : Except Int (List Int × List Int)) : List Int × Int :=
  match x with
  | .error c => ([], c)
  | .ok t => if trimN t.1 t.1.length = 0 then (t.2, 0) else ([], 5)
/-- The quotient and the code. -/
def divL (M : Int) (p q : List Int) : List Int × Int :=
  if q.length = 0 ∨ (0 < p.length ∧ p.length < q.length) then ([], 5)
  else if p.length = 0 then ([], 0)
  else divEnd (divIter M q (p.length - (q.length - 1)) (p, List.replicate (p.length - (q.length - 1)) 0) (p.length - (q.length - 1)))
theorem divL_first {M : Int} {p q : List Int} (h : q.length = 0 ∨ (0 < p.length ∧ p.length < q.length)) : divL M p q = ([], 5) := by unfold divL; rw [if_pos h]
theorem divL_zero {M : Int} {p q : List Int} (h : 0 < q.length) (hp : p.length = 0) : divL M p q = ([], 0) := by unfold divL; rw [if_neg (by omega), if_pos hp]
theorem divL_main {M : Int} {p q : List Int} {n : Nat} (h : 0 < q.length) (hp : q.length ≤ p.length) (hn : n = p.length - (q.length - 1)) : divL M p q = divEnd (divIter M q n (p, List.replicate n 0) n) := by
  subst hn; unfold divL; rw [if_neg (by omega), if_neg (by omega)]
theorem divL_len (M : Int) (p q : List Int) : (divL M p q).1.length ≤ p.length := by
  unfold divL
  split
  · simp
  · split
    · simp
    · unfold divEnd
      split
      · simp
      · rename_i t ht
        split
        · have := (divIter_ok ht).2.1
          simp at this; simp [this]
        · simp
theorem tdiv_in {x y M : Int} (hx : -M ≤ x ∧ x ≤ M) : -M ≤ x.tdiv y ∧ x.tdiv y ≤ M := by
  have h := Int.natAbs_tdiv_le_natAbs x y
  omega
end Go.Proofs.Ytbipihamkfifjaa
