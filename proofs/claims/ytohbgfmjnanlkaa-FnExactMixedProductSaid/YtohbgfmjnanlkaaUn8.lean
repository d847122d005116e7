/- Unloading, the program's: steps, raising, the first negative number. Conditions: stated at each theorem. -/
import Derived.Test.YtohbgfmjnanlkaaUn7
namespace Go.Proofs.Ytohbgfmjnanlkaa
open Go.ChangeShapes Go.WideShapes Go.ChangeAt Go.RowKit Go.Deep
set_option linter.unusedVariables false
set_option linter.unusedSimpArgs false

/-- The first index with a negative number, or -1. -/
def lsI (e : Nat → Int) : Nat → Int
  | 0 => -1
  | k + 1 => if 0 ≤ lsI e k then lsI e k else if e k < 0 then (k : Int) else -1
theorem lsI_no {e : Nat → Int} : ∀ {k : Nat}, (∀ i, i < k → 0 ≤ e i) → lsI e k = -1
  | 0, _ => rfl
  | k + 1, h => by
    show (if 0 ≤ lsI e k then lsI e k else if e k < 0 then (k : Int) else -1) = -1
    rw [lsI_no (k := k) (fun i hi => h i (by omega)), if_neg (by omega), if_neg (by have := h k (by omega); omega)]
theorem lsI_at {e : Nat → Int} {p : Nat} (hp : e p < 0) (h : ∀ i, i < p → 0 ≤ e i) : ∀ {n : Nat}, p < n → lsI e n = (p : Int)
  | 0, h0 => by omega
  | n + 1, h0 => by
    show (if 0 ≤ lsI e n then lsI e n else if e n < 0 then (n : Int) else -1) = _
    by_cases hn : p < n
    · rw [lsI_at hp h hn, if_pos (by omega)]
    · obtain rfl : p = n := by omega
      rw [lsI_no h, if_neg (by omega), if_pos hp]
theorem lsI_cases (e : Nat → Int) (n : Nat) : (lsI e n = -1 ∧ ∀ i, i < n → 0 ≤ e i) ∨ ∃ p : Nat, p < n ∧ lsI e n = (p : Int) ∧ e p < 0 ∧ ∀ i, i < p → 0 ≤ e i := by
  induction n with
  | zero => exact .inl ⟨rfl, fun i h => by omega⟩
  | succ n ih =>
    rcases ih with ⟨h1, h2⟩ | ⟨p, hp, h1, h2, h3⟩
    · by_cases h : e n < 0
      · exact .inr ⟨n, by omega, lsI_at h h2 (by omega), h, h2⟩
      · have h4 : ∀ i, i < n + 1 → 0 ≤ e i := fun i hi => by
          by_cases e' : i = n
          · subst e'; omega
          · exact h2 i (by omega)
        exact .inl ⟨lsI_no h4, h4⟩
    · exact .inr ⟨p, by omega, lsI_at h2 h3 (by omega), h2, h3⟩
/-- The least integer that is not less than a / b. -/
def qtI (a b : Int) : Int := (a + b - 1) / b
/-- Numbers added at points, one after the other. -/
def raF (O st : Nat → Int) (L : List Nat) : Nat → Int := L.foldl (fun F p => updF F p (st p)) O
theorem raF_next {O st : Nat → Int} {L : List Nat} {t p : Nat} (h : L[t]? = some p) : raF O st (L.take (t + 1)) = updF (raF O st (L.take t)) p (st p) := by
  unfold raF; rw [List.take_add_one, h]; simp
theorem raF_zero (O st : Nat → Int) (L : List Nat) : raF O st (L.take 0) = O := rfl

set_option maxRecDepth 100000 in
set_option maxHeartbeats 4000000 in
theorem quot_any (a b : Int) (w : World) (hb : 0 < b ∧ b ≤ 1000000000000000000) (ha : -1000000000000000000 < a ∧ a ≤ 3000000000000000000) (hab : 0 ≤ a + b - 1) :
    Calls Try.prog 180 #[.int .i64 a, .int .i64 b] w fun e w' => e = .returned (.int .i64 (qtI a b)) ∧ w = w' := by
  have p1 : IntKind.i64.wrap (a + b) = a + b := IntWalk.i64_in _ (by omega)
  have p2 : IntKind.i64.wrap (a + b - 1) = a + b - 1 := IntWalk.i64_in _ (by omega)
  have hb0 : b ≠ 0 := by omega
  have hb1 : ¬ b = 0 := hb0
  have hbb : (b == 0) = false := by simpa using hb0
  have hq : Int.tdiv (a + b - 1) b = qtI a b := Int.tdiv_eq_ediv_of_nonneg hab
  have hr := Int.ediv_le_self b hab
  have hr0 : 0 ≤ (a + b - 1) / b := Int.ediv_nonneg hab (Int.le_of_lt hb.1)
  have hqq : qtI a b = (a + b - 1) / b := rfl
  have p3 : IntKind.i64.wrap (qtI a b) = qtI a b := IntWalk.i64_in _ (by omega)
  have p4 : IntKind.i64.wrap (Int.tdiv (a + b - 1) b) = qtI a b := by rw [hq]; exact p3
  clear hr hr0 hqq
  go_enter Try.func180, Try.ntmps180
  go_wp2_with fail
  go_ret
  exact ⟨by simp [hq, p3, p4], rfl⟩

end Go.Proofs.Ytohbgfmjnanlkaa
