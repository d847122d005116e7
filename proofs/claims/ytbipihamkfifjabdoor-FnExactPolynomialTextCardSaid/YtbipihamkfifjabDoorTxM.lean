/- Texts of polynomials, in plain mathematics; no call is walked here. -/
import Derived.Test.YtbipihamkfifjabDoorTab
namespace Go.Proofs.YtbipihamkfifjabDoor
set_option linter.unusedVariables false

def powL (k : Nat) : List UInt8 := if k = 1 then [116] else 116 :: 94 :: Lib.itoa (k : Int)
def termL (c : Int) (k : Nat) : List UInt8 := if k = 0 then Lib.itoa c else if c = 1 then powL k else if c = -1 then 45 :: powL k else Lib.itoa c ++ powL k
def txtStep (p : List Int) (t : List UInt8) (k : Nat) : List UInt8 :=
  if p[k]?.getD 0 = 0 then t else t ++ (if 0 < p[k]?.getD 0 ∧ t ≠ [] then [43] else []) ++ termL (p[k]?.getD 0) k
def txtL (p : List Int) : Nat → List UInt8 → List UInt8
  | 0, t => t
  | k + 1, t => txtL p k (txtStep p t k)
theorem txtL_zero (p : List Int) (t : List UInt8) : txtL p 0 t = t := by rw [txtL]
theorem txtL_succ (p : List Int) (k : Nat) (t : List UInt8) : txtL p (k + 1) t = txtL p k (txtStep p t k) := by rw [txtL]
theorem powL_len {k : Nat} (h : k ≤ 2000) : (powL k).length ≤ 22 := by
  unfold powL; split
  · simp
  · have := itoa_len (n := (k : Int)) (by omega) (by omega); simp; omega
theorem termL_len {c : Int} {k : Nat} (hc : -1000000000000 ≤ c ∧ c ≤ 1000000000000) (h : k ≤ 2000) : (termL c k).length ≤ 42 := by
  have h1 := powL_len h
  have h2 := itoa_len (n := c) (by omega) (by omega)
  unfold termL
  repeat' split
  all_goals (try simp); omega
theorem itoa_ne (n : Int) : Lib.itoa n ≠ [] := by
  unfold Lib.itoa; split
  · simp
  · intro h; have := Lib.decDigits_length n.toNat; rw [h] at this
    by_cases hu : n.toNat < 10
    · rw [Lib.nDigits_small hu] at this; simp at this
    · rw [Lib.nDigits_big hu] at this; simp at this
theorem termL_ne (c : Int) (k : Nat) : termL c k ≠ [] := by
  unfold termL powL
  repeat' split
  all_goals first | exact itoa_ne _ | simp
theorem dig_head (u : Nat) : ∃ d l, Lib.decDigits u = d :: l ∧ d ≠ 45 := by
  induction u using Nat.strongRecOn with
  | ind u ih =>
    by_cases h : u < 10
    · refine ⟨_, [], Lib.decDigits_one h, fun e => ?_⟩
      have := congrArg UInt8.toNat e; simp at this; omega
    · obtain ⟨d, l, e, hd⟩ := ih (u / 10) (by omega)
      exact ⟨d, l ++ [UInt8.ofNat (48 + u % 10)], by rw [Lib.decDigits, dif_neg h, e]; rfl, hd⟩
/-- A term begins with a sign exactly if it is negative. -/
theorem termL_head (c : Int) (k : Nat) (h0 : c ≠ 0) : ∃ d l, termL c k = d :: l ∧ (d = 45 ↔ ¬ 0 < c) := by
  have hi : ∃ d l, Lib.itoa c = d :: l ∧ (d = 45 ↔ ¬ 0 < c) := by
    unfold Lib.itoa; split
    · exact ⟨45, _, rfl, by constructor <;> intro _ <;> first | omega | rfl⟩
    · obtain ⟨d, l, e, hd⟩ := dig_head c.toNat
      exact ⟨d, l, e, by constructor; (intro h; exact absurd h hd); (intro h; omega)⟩
  unfold termL
  split
  · exact hi
  split
  · unfold powL
    split
    · exact ⟨116, [], rfl, by constructor; (intro h; exact absurd h (by decide)); (intro h; omega)⟩
    · exact ⟨116, _, rfl, by constructor; (intro h; exact absurd h (by decide)); (intro h; omega)⟩
  split
  · exact ⟨45, _, rfl, by constructor <;> intro _ <;> first | omega | rfl⟩
  · obtain ⟨d, l, e, hd⟩ := hi
    exact ⟨d, l ++ powL k, by rw [e]; rfl, hd⟩
theorem step_len {p : List Int} {t : List UInt8} {k : Nat} (hc : -1000000000000 ≤ p[k]?.getD 0 ∧ p[k]?.getD 0 ≤ 1000000000000) (h : k ≤ 2000) : (txtStep p t k).length ≤ t.length + 43 := by
  have := termL_len hc h
  unfold txtStep
  repeat' split
  all_goals first | (simp; omega) | (simp; done) | omega
theorem step_ne {p : List Int} {t : List UInt8} {k : Nat} (h : t ≠ [] ∨ p[k]?.getD 0 ≠ 0) : txtStep p t k ≠ [] := by
  unfold txtStep
  split
  · rename_i h0; rcases h with h | h
    · exact h
    · exact absurd h0 h
  · intro e; have := List.append_eq_nil_iff.1 e; exact termL_ne _ _ this.2
theorem txtL_ne (p : List Int) : ∀ (k : Nat) (t : List UInt8), t ≠ [] → txtL p k t ≠ []
  | 0, t, h => by rw [txtL_zero]; exact h
  | k + 1, t, h => by rw [txtL_succ]; exact txtL_ne p k _ (step_ne (Or.inl h))
/-- The text of a polynomial. -/
def polyT (p : List Int) : List UInt8 := if txtL p p.length [] = [] then [48] else txtL p p.length []
theorem polyT_nil {p : List Int} (h : p.length = 0) : polyT p = [48] := by unfold polyT; rw [h, txtL_zero]; simp
theorem polyT_pos {p : List Int} {n : Nat} (h : p.length = n + 1) (hc : p[n]?.getD 0 ≠ 0) : txtL p (n + 1) [] ≠ [] ∧ polyT p = txtL p (n + 1) [] := by
  have hne : txtL p (n + 1) [] ≠ [] := by rw [txtL_succ]; exact txtL_ne p n _ (step_ne (Or.inr hc))
  exact ⟨hne, by unfold polyT; rw [h, if_neg hne]⟩
end Go.Proofs.YtbipihamkfifjabDoor
