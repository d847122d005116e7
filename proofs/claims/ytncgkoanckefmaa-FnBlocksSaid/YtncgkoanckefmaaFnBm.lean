/- Blocks of a list against the list, its sums: arithmetic. Conditions: stated at each theorem. -/
import Derived.Test.YtncgkoanckefmaaZD
namespace Go.Proofs.Ytncgkoanckefmaa
set_option linter.unusedVariables false
set_option linter.unusedSimpArgs false

/-- The list of blocks, again as a list. -/
def fpL (D : List (Int × Int)) : List Int := D.flatMap fun p => List.replicate p.2.toNat p.1
theorem fpL_cons (p : Int × Int) (D : List (Int × Int)) : fpL (p :: D) = List.replicate p.2.toNat p.1 ++ fpL D := by simp [fpL]
theorem rep_lead (x : Int) : ∀ (r : List Int), List.replicate (lead x r) x ++ r.drop (lead x r) = r
  | [] => by simp [lead]
  | y :: r => by
    by_cases h : y = x
    · subst h
      rw [lead, if_pos rfl, List.replicate_succ, List.drop_succ_cons, List.cons_append, rep_lead y r]
    · rw [lead, if_neg h]; rfl
theorem fp_bk : ∀ (n : Nat) (xs : List Int), xs.length ≤ n → fpL (bkL xs) = xs
  | 0, xs, h => by have : xs = [] := List.length_eq_zero_iff.1 (by omega); subst this; rfl
  | n + 1, [], _ => rfl
  | n + 1, x :: r, h => by
    rw [bk_lead, fpL_cons, fp_bk n (r.drop (lead x r)) (by simp at h ⊢; omega)]
    show List.replicate ((lead x r + 1 : Nat) : Int).toNat x ++ r.drop (lead x r) = x :: r
    rw [Int.toNat_natCast, List.replicate_succ, List.cons_append, rep_lead]
def halfF (x : Int) : Int := x * (x - 1) / 2
def moreF (x : Int) : Int := if 1 < x then 1 else 0
def sumF (f : Int → Int) (xs : List Int) : Int := (xs.map f).sum
theorem sumF_snoc (f : Int → Int) (xs : List Int) (x : Int) : sumF f (xs ++ [x]) = sumF f xs + f x := by simp [sumF]
theorem sumF_rep (f : Int → Int) (k : Nat) (x : Int) : sumF f (List.replicate k x) = k * f x := by
  induction k with
  | zero => simp [sumF]
  | succ k ih =>
    simp only [sumF, List.replicate_succ, List.map_cons, List.sum_cons] at ih ⊢
    rw [ih]; push_cast; rw [Int.add_mul]; omega
theorem sumF_append (f : Int → Int) (xs ys : List Int) : sumF f (xs ++ ys) = sumF f xs + sumF f ys := by simp [sumF]
theorem fl_half : ∀ {L : List (Int × Int)}, (∀ p ∈ L, StOK p) → sumF halfF (flL L) = delL L
  | [], _ => rfl
  | p :: r, h => by
    have h1 := (h p (by simp)).1
    have h2 := fl_half (L := r) (fun q hq => h q (by simp [hq]))
    have e : flL (p :: r) = List.replicate p.1.toNat p.2 ++ flL r := by simp [flL]
    have e2 : delL (p :: r) = p.1 * (p.2 * (p.2 - 1) / 2) + delL r := by simp [delL]
    rw [e, sumF_append, sumF_rep, h2, e2, Int.toNat_of_nonneg h1.1]
    rfl
theorem fl_more : ∀ {L : List (Int × Int)}, (∀ p ∈ L, StOK p) → sumF moreF (flL L) = upsL L
  | [], _ => rfl
  | p :: r, h => by
    have h1 := (h p (by simp)).1
    have h2 := fl_more (L := r) (fun q hq => h q (by simp [hq]))
    have e : flL (p :: r) = List.replicate p.1.toNat p.2 ++ flL r := by simp [flL]
    have e2 : upsL (p :: r) = (if 1 < p.2 then p.1 else 0) + upsL r := by simp [upsL]
    rw [e, sumF_append, sumF_rep, h2, e2, Int.toNat_of_nonneg h1.1]
    unfold moreF
    split <;> simp
/-- The walk over the blocks: q numbers are counted, k of x remain ahead of the blocks D. -/
def AtB (xs : List Int) (q : Nat) (k : Int) (x : Int) (D : List (Int × Int)) : Prop := xs.drop q = List.replicate k.toNat x ++ fpL D
theorem AtB.step {xs : List Int} {q : Nat} {k x : Int} {D : List (Int × Int)} (h : AtB xs q k x D) (hk : 0 < k) : q < xs.length ∧ xs[q]?.getD 0 = x ∧ AtB xs (q + 1) (k - 1) x D := by
  obtain ⟨j, rfl⟩ : ∃ j : Nat, k = ((j + 1 : Nat) : Int) := ⟨(k - 1).toNat, by omega⟩
  unfold AtB at h ⊢
  rw [Int.toNat_natCast, List.replicate_succ, List.cons_append] at h
  have hl : q < xs.length := by
    rcases Nat.lt_or_ge q xs.length with h1 | h1
    · exact h1
    · rw [List.drop_eq_nil_of_le h1] at h; cases h
  have e := List.drop_eq_getElem_cons hl
  rw [e] at h
  injection h with h1 h2
  refine ⟨hl, by simp [hl, h1], ?_⟩
  rw [show (((j + 1 : Nat) : Int) - 1).toNat = j by omega]
  exact h2
theorem AtB.next {xs : List Int} {q : Nat} {x k y : Int} {D : List (Int × Int)} (h : AtB xs q 0 x ((y, k) :: D)) : AtB xs q k y D := by
  unfold AtB at h ⊢
  rw [h, fpL_cons]; rfl
theorem AtB.zero {xs : List Int} {q : Nat} {x y : Int} {D : List (Int × Int)} (h : AtB xs q 0 x D) : AtB xs q 0 y D := h
theorem AtB.none {xs : List Int} {q : Nat} {x : Int} (h : AtB xs q 0 x []) (hq : q ≤ xs.length) : q = xs.length := by
  unfold AtB at h
  have : xs.drop q = [] := h
  have := List.drop_eq_nil_iff.1 this
  omega
theorem AtB.start (xs : List Int) (x : Int) : AtB xs 0 0 x (bkL xs) := by
  unfold AtB
  rw [fp_bk xs.length xs (Nat.le_refl _)]; rfl
end Go.Proofs.Ytncgkoanckefmaa
