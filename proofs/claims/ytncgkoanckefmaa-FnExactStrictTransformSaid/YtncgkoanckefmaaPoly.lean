/- Polynomials as lists of integers: the plain functions that chapter 2 is held against. Conditions: stated at each theorem. -/
import Derived.Test.YtncgkoanckefmaaLaw
namespace Go.Proofs.Ytncgkoanckefmaa
set_option linter.unusedVariables false

/-- n steps of f, numbered from 0, as long as none fails. -/
def iterO {α : Type} (f : Nat → α → Option α) : Nat → α → Option α
  | 0, a => some a
  | n + 1, a => (iterO f n a).bind (f n)
theorem iterO_none {α : Type} {f : Nat → α → Option α} {a : α} {k : Nat} (h : iterO f k a = none) : ∀ {n : Nat}, k ≤ n → iterO f n a = none
  | 0, hk => by obtain rfl : k = 0 := by omega
                exact h
  | n + 1, hk => by
    by_cases e : k = n + 1
    · subst e; exact h
    · show (iterO f n a).bind (f n) = none
      rw [iterO_none h (show k ≤ n by omega)]; rfl
theorem iterO_step {α : Type} {f : Nat → α → Option α} {a b : α} {k : Nat} (h : iterO f k a = some b) : iterO f (k + 1) a = f k b := by
  show (iterO f k a).bind (f k) = f k b
  rw [h]; rfl
theorem iterO_inv {α : Type} {f : Nat → α → Option α} {P : α → Prop} {a : α} (h0 : P a) (hs : ∀ k x y, P x → f k x = some y → P y) : ∀ {n : Nat} {b : α}, iterO f n a = some b → P b
  | 0, b, h => by cases h; exact h0
  | n + 1, b, h => by
    cases e : iterO f n a with
    | none => rw [show iterO f (n + 1) a = (iterO f n a).bind (f n) from rfl, e] at h; cases h
    | some c => rw [iterO_step e] at h; exact hs n c b (iterO_inv h0 hs e) h

def coB (z : Int) : Bool := decide (-1000000000000 ≤ z ∧ z ≤ 1000000000000)
theorem coB_true {z : Int} : coB z = true ↔ -1000000000000 ≤ z ∧ z ≤ 1000000000000 := by simp [coB]
theorem coB_false {z : Int} : coB z = false ↔ ¬(-1000000000000 ≤ z ∧ z ≤ 1000000000000) := by simp [coB]
/-- The last number is not 0. -/
def endB (p : List Int) : Bool := p.isEmpty || (p.getD (p.length - 1) 0 != 0)
def polyB (p : List Int) : Bool := decide (p.length ≤ 2001) && p.all coB && endB p
theorem polyB_len {p : List Int} (h : polyB p = true) : p.length ≤ 2001 := by
  simp only [polyB, Bool.and_eq_true, decide_eq_true_eq] at h; exact h.1.1
theorem polyB_co {p : List Int} (h : polyB p = true) (k : Nat) : -1000000000000 ≤ p.getD k 0 ∧ p.getD k 0 ≤ 1000000000000 := by
  simp only [polyB, Bool.and_eq_true, decide_eq_true_eq, List.all_eq_true] at h
  by_cases hk : k < p.length
  · have := coB_true.1 (h.1.2 p[k] (List.getElem_mem _))
    simpa [List.getD, hk] using this
  · simp [List.getD, List.getElem?_eq_none (show p.length ≤ k by omega)]
theorem polyB_end {p : List Int} (h : polyB p = true) : endB p = true := by
  simp only [polyB, Bool.and_eq_true] at h; exact h.2
theorem all_take_succ {p : List Int} {k : Nat} (h : k < p.length) (ht : (p.take k).all coB = true) (hc : coB (p.getD k 0) = true) : (p.take (k + 1)).all coB = true := by
  have e : p.take (k + 1) = p.take k ++ [p.getD k 0] := by
    rw [List.take_succ_eq_append_getElem h]; simp [List.getD, h]
  rw [e, List.all_append, ht, List.all_cons, hc]; rfl
theorem all_false {p : List Int} {k : Nat} (h : k < p.length) (hc : coB (p.getD k 0) = false) : p.all coB = false := by
  rw [Bool.eq_false_iff]
  intro ha
  have := List.all_eq_true.1 ha p[k] (List.getElem_mem _)
  rw [show p.getD k 0 = p[k] by simp [List.getD, h], this] at hc
  cases hc

/-- How many numbers are left when the zeros at the end are taken away. -/
def trimN (p : List Int) : Nat → Nat
  | 0 => 0
  | n + 1 => if p.getD n 0 = 0 then trimN p n else n + 1
def trimL (p : List Int) : List Int := p.take (trimN p p.length)
theorem trimN_le (p : List Int) : ∀ n, trimN p n ≤ n
  | 0 => Nat.le_refl _
  | n + 1 => by unfold trimN; split; exact Nat.le_succ_of_le (trimN_le p n); exact Nat.le_refl _
theorem trimN_zero {p : List Int} {n : Nat} (h : p.getD n 0 = 0) : trimN p (n + 1) = trimN p n := by
  conv => lhs; unfold trimN
  rw [if_pos h]
theorem trimN_stop {p : List Int} {n : Nat} (h : p.getD n 0 ≠ 0) : trimN p (n + 1) = n + 1 := by
  conv => lhs; unfold trimN
  rw [if_neg h]
theorem trimL_len (p : List Int) : (trimL p).length = trimN p p.length := by
  have := trimN_le p p.length
  simp [trimL]; omega
theorem trimN_last (p : List Int) : ∀ n, trimN p n ≠ 0 → p.getD (trimN p n - 1) 0 ≠ 0
  | 0, h => by simp [trimN] at h
  | n + 1, h => by
    by_cases e : p.getD n 0 = 0
    · rw [trimN_zero e] at h ⊢; exact trimN_last p n h
    · rw [trimN_stop e]; simpa using e
theorem trimL_end (p : List Int) : endB (trimL p) = true := by
  unfold endB
  by_cases e : trimN p p.length = 0
  · simp [trimL, e]
  · have h := trimN_last p p.length e
    have hl := trimN_le p p.length
    have h2 : (trimL p).getD ((trimL p).length - 1) 0 = p.getD (trimN p p.length - 1) 0 := by
      rw [trimL_len]
      have h3 : trimN p p.length - 1 < trimN p p.length := by omega
      simp [trimL, List.getD, h3]
    rw [h2]
    have h5 : (p.getD (trimN p p.length - 1) 0 != 0) = true := by simpa using h
    rw [h5]; simp
theorem getD_take {p : List Int} {n k : Nat} (h : k < n) : (p.take n).getD k 0 = p.getD k 0 := by
  simp [List.getD, h]

/-- The list p with k times q added. -/
def plusL (p q : List Int) (k : Int) : List Int := (List.range (max p.length q.length)).map fun i => p.getD i 0 + k * q.getD i 0
theorem plusL_len (p q : List Int) (k : Int) : (plusL p q k).length = max p.length q.length := by simp [plusL]
def fitL (p : List Int) : List Int := if polyB p then p else []
def fitC (p : List Int) : Int := if polyB p then 0 else 3
def addA (p q : List Int) (k : Int) : List Int := if polyB p && polyB q then fitL (trimL (plusL p q k)) else []
def addC (p q : List Int) (k : Int) : Int := if polyB p && polyB q then fitC (trimL (plusL p q k)) else 1
theorem trimL_poly {p : List Int} (hl : p.length ≤ 2001) : polyB (trimL p) = p.all coB := by
  have e : polyB (trimL p) = (trimL p).all coB := by
    have h1 := trimL_len p
    have h2 := trimN_le p p.length
    have h3 : (trimL p).length ≤ 2001 := by omega
    simp [polyB, trimL_end, h3]
  rw [e]
  have hz : ∀ n, n ≤ p.length → (p.take n).all coB = (p.take (trimN p n)).all coB := by
    intro n
    induction n with
    | zero => intro _; rfl
    | succ n ih =>
      intro hn
      by_cases e : p.getD n 0 = 0
      · rw [trimN_zero e, ← ih (by omega)]
        have e2 : p.take (n + 1) = p.take n ++ [p.getD n 0] := by
          rw [List.take_succ_eq_append_getElem (by omega)]; simp [List.getD, show n < p.length by omega]
        rw [e2, List.all_append, e]; simp [coB]
      · rw [trimN_stop e]
  have := hz p.length (Nat.le_refl _)
  rw [List.take_length] at this
  exact this.symm
/-- Values, from the greatest power on; none if one leaves the range. -/
def evalL (x : Int) : Int → List Int → Option Int
  | v, [] => some v
  | v, c :: cs => if coB (v * x + c) then evalL x (v * x + c) cs else none
def pointB (x : Int) : Bool := decide (-1000 ≤ x ∧ x ≤ 1000)
def evA (p : List Int) (x : Int) : Int := if polyB p then (if pointB x then (evalL x 0 p.reverse).getD 0 else 0) else 0
def evC (p : List Int) (x : Int) : Int := if polyB p then (if pointB x then (if (evalL x 0 p.reverse).isSome then 0 else 3) else 2) else 1
def revA (p : List Int) : List Int := if polyB p then trimL p.reverse else []
def revC (p : List Int) : Int := if polyB p then 0 else 1
def symA (p : List Int) : Bool := polyB p && decide (p = p.reverse)
/-- t^k in place of t. -/
def spreadL (p : List Int) (k : Nat) : List Int := if p = [] then [] else (List.range ((p.length - 1) * k + 1)).map fun i => if i % k = 0 then p.getD (i / k) 0 else 0
def subA (p : List Int) (k : Int) : List Int := if polyB p then (if 1 ≤ k ∧ k ≤ 2000 then (if ((p.length : Int) - 1) * k ≤ 2000 then spreadL p k.toNat else []) else []) else []
def subC (p : List Int) (k : Int) : Int := if polyB p then (if 1 ≤ k ∧ k ≤ 2000 then (if ((p.length : Int) - 1) * k ≤ 2000 then 0 else 3) else 2) else 1
end Go.Proofs.Ytncgkoanckefmaa
