/- The calls of FnEuclid with named lengths and codes; the sum along the steps. Conditions: stated at each theorem. -/
import Derived.Test.YtbipihamkfifjaaCf
import Derived.Test.YtbipihamkfifjaaEuM
namespace Go.Proofs.Ytbipihamkfifjaa
open Go.ChangeShapes Go.WideShapes Go.ChangeAt Go.RowKit Go.Proofs.Ytbipihamkfifjaa.Cf
set_option linter.unusedVariables false

def StepsAt (w : World) (L : List (Int × Int)) (n : Nat) (C : Int) (e : Ending) (w' : World) : Prop :=
  ∃ A c vf, e = .returned (.tuple #[.slice A n c, .int .i64 C]) ∧ OwnSS w' w.heap.size A n c vf two (fun i => (stF L i).map (.int .i64)) ∧ Below w.heap.size w w'
def ListAt (w : World) (zs : List Int) (n : Nat) (C : Int) (e : Ending) (w' : World) : Prop :=
  ∃ A c, e = .returned (.tuple #[.slice A n c, .int .i64 C]) ∧ Own w' w.heap.size (.slice A n c) n (zs.map (.int .i64)) ∧ Below w.heap.size w w'
def FracPost (w : World) (x y C : Int) (e : Ending) (w' : World) : Prop :=
  e = .returned (.tuple #[.agg #[.int .i64 x, .int .i64 y], .int .i64 C]) ∧ Below w.heap.size w w'
def TwoAt (w : World) (g C : Int) (e : Ending) (w' : World) : Prop := e = .returned (.tuple #[.int .i64 g, .int .i64 C]) ∧ Below w.heap.size w w'

theorem esI_at {a b C : Int} {L : List (Int × Int)} {n : Nat} (h1 : esA a b = L) (h2 : esC a b = C) (h3 : L.length = n) (w : World) :
    Calls Try.prog 14 #[.int .i64 a, .int .i64 b] w (StepsAt w L n C) := by
  subst h1; subst h2; subst h3; exact implEuclidSteps_any a b w
theorem esS_at {a b C : Int} {L : List (Int × Int)} {n : Nat} (h1 : esA a b = L) (h2 : esC a b = C) (h3 : L.length = n) (w : World) :
    Calls Try.prog 15 #[.int .i64 a, .int .i64 b] w (StepsAt w L n C) := by
  subst h1; subst h2; subst h3; exact specEuclidSteps_any a b w
theorem cfI_at {a b C : Int} {L : List Int} {n : Nat} (h1 : cfA a b = L) (h2 : esC a b = C) (h3 : L.length = n) (w : World) :
    Calls Try.prog 16 #[.int .i64 a, .int .i64 b] w (ListAt w L n C) := by
  subst h1; subst h2; subst h3; exact implContinuedFraction_any a b w
theorem nfI_at {a b C : Int} {L : List Int} {n : Nat} (h1 : nfA a b = L) (h2 : nfC a b = C) (h3 : L.length = n) (w : World) :
    Calls Try.prog 21 #[.int .i64 a, .int .i64 b] w (ListAt w L n C) := by
  subst h1; subst h2; subst h3; exact implNegativeFraction_any a b w
theorem nfS_at {a b C : Int} {L : List Int} {n : Nat} (h1 : nfA a b = L) (h2 : nfC a b = C) (h3 : L.length = n) (w : World) :
    Calls Try.prog 22 #[.int .i64 a, .int .i64 b] w (ListAt w L n C) := by
  subst h1; subst h2; subst h3; exact specNegativeFraction_any a b w
theorem fvI_at {x y C : Int} {zs : List Int} (he : nvR 0 1 1 zs = (x, y, C)) (A : Option Addr) (n c : Nat) (w : World) (hr : RI w w.heap.size A n zs) (hn : n ≤ 9223372036854775807) (hwf : ∀ z ∈ zs, (Lit.int .i64 z).wf = true) :
    Calls Try.prog 19 #[.slice A n c] w (FracPost w x y C) := by
  have h := implFractionValue_any A n c zs w hr hn hwf; rw [he] at h; exact h
theorem fvS_at {x y C : Int} {zs : List Int} (he : nvR 0 1 1 zs = (x, y, C)) (A : Option Addr) (n c : Nat) (w : World) (hr : RI w w.heap.size A n zs) (hn : n ≤ 9223372036854775807) (hwf : ∀ z ∈ zs, (Lit.int .i64 z).wf = true) :
    Calls Try.prog 28 #[.slice A n c] w (FracPost w x y C) := by
  have h := specFractionValue_any A n c zs w hr hn hwf; rw [he] at h; exact h
theorem nvI_at {x y C : Int} {zs : List Int} (he : nvR 2 2 (-1) zs = (x, y, C)) (A : Option Addr) (n c : Nat) (w : World) (hr : RI w w.heap.size A n zs) (hn : n ≤ 9223372036854775807) (hwf : ∀ z ∈ zs, (Lit.int .i64 z).wf = true) :
    Calls Try.prog 24 #[.slice A n c] w (FracPost w x y C) := by
  have h := implNegativeValue_any A n c zs w hr hn hwf; rw [he] at h; exact h
theorem nvS_at {x y C : Int} {zs : List Int} (he : nvR 2 2 (-1) zs = (x, y, C)) (A : Option Addr) (n c : Nat) (w : World) (hr : RI w w.heap.size A n zs) (hn : n ≤ 9223372036854775807) (hwf : ∀ z ∈ zs, (Lit.int .i64 z).wf = true) :
    Calls Try.prog 26 #[.slice A n c] w (FracPost w x y C) := by
  have h := specNegativeValue_any A n c zs w hr hn hwf; rw [he] at h; exact h
theorem cd_at {a b : Int} (ha : natB a = true) (hb : natB b = true) (w : World) :
    Calls Try.prog 18 #[.int .i64 a, .int .i64 b] w (TwoAt w (Int.gcd a b) 0) := by
  have h1 := natB_true.1 ha
  have h2 := natB_true.1 hb
  have e1 : intB a = true := intB_true.2 (by omega)
  have e2 : intB b = true := intB_true.2 (by omega)
  have h := implCommonDivisor_any a b w
  have e3 : cdA a b = Int.gcd a b := by simp [cdA, e1, e2]
  have e4 : cdC a b = 0 := by simp [cdC, e1, e2]
  rw [e3, e4] at h
  refine h.mono ?_
  rintro e w' ⟨rfl, m, rfl⟩
  exact ⟨rfl, ⟨rfl, rfl, rfl, Nat.le_refl _, fun _ _ => rfl⟩⟩

theorem eu_cases (a b : Int) : ∃ (L : List (Int × Int)) (n : Nat), L.length = n ∧ n ≤ 1000000001 ∧ esA a b = L ∧ cfA a b = L.map (·.1) ∧
    (esC a b = 2 ∨ (esC a b = 0 ∧ natB a = true ∧ natB b = true ∧ L = steps a b)) := by
  refine ⟨esA a b, _, rfl, esA_len a b, rfl, rfl, ?_⟩
  unfold esA esC
  cases ha : natB a <;> cases hb : natB b <;> simp

def okP (L : List (Int × Int)) : Prop := ∀ p ∈ L, (0 ≤ p.1 ∧ p.1 ≤ 1000000000) ∧ (1 ≤ p.2 ∧ p.2 ≤ 1000000000)
theorem okP_steps : ∀ (f : Nat) (a b : Int), 1 ≤ a ∧ a ≤ 1000000000 → 0 ≤ b ∧ b ≤ 1000000000 → okP (stL f a b)
  | 0, a, b, _, _ => by intro p hp; simp [stL] at hp
  | f + 1, a, b, ha, hb => by
    by_cases h0 : 0 < b
    · have hm : 0 ≤ a % b ∧ a % b < b := ⟨Int.emod_nonneg _ (by omega), Int.emod_lt_of_pos _ h0⟩
      have hq : 0 ≤ a / b ∧ a / b ≤ a := ⟨Int.ediv_nonneg (by omega) (by omega), Int.ediv_le_self _ (by omega)⟩
      rw [stL_cons h0]
      intro p hp
      rcases List.mem_cons.1 hp with rfl | hp
      · exact ⟨⟨hq.1, by show a / b ≤ 1000000000; omega⟩, ⟨by show 1 ≤ b; omega, by show b ≤ 1000000000; omega⟩⟩
      · exact okP_steps f b (a % b) (by omega) (by omega) p hp
    · obtain rfl : b = 0 := by omega
      rw [stL_zero]; intro p hp; cases hp
theorem sumS_cons (p : Int × Int) (L : List (Int × Int)) : sumS (p :: L) = p.1 * p.2 * p.2 + sumS L := by simp [sumS]
theorem term_ge {p : Int × Int} (h : (0 ≤ p.1 ∧ p.1 ≤ 1000000000) ∧ (1 ≤ p.2 ∧ p.2 ≤ 1000000000)) : 0 ≤ p.1 * p.2 ∧ p.1 * p.2 ≤ p.1 * p.2 * p.2 := by
  have h1 := Int.mul_nonneg h.1.1 (show 0 ≤ p.2 by omega)
  have h2 : p.1 * p.2 * 1 ≤ p.1 * p.2 * p.2 := Int.mul_le_mul_of_nonneg_left h.2.1 h1
  omega
theorem sumS_nonneg : ∀ (L : List (Int × Int)), okP L → 0 ≤ sumS L
  | [], _ => by simp [sumS]
  | p :: L, h => by
    have h1 := term_ge (h p (by simp))
    have h2 := sumS_nonneg L (fun x hx => h x (by simp [hx]))
    rw [sumS_cons]; omega
theorem sum_at : ∀ (L : List (Int × Int)), okP L → ∀ k, k < L.length →
    0 ≤ sumS (L.take k) ∧ sumS (L.take (k + 1)) = sumS (L.take k) + (L[k]?.getD (0, 0)).1 * (L[k]?.getD (0, 0)).2 * (L[k]?.getD (0, 0)).2 ∧ sumS (L.take (k + 1)) ≤ sumS L
  | [], _, k, h => by simp at h
  | p :: L, h, 0, hk => by
    have h2 := sumS_nonneg L (fun x hx => h x (by simp [hx]))
    simp only [List.take_zero, List.take_succ_cons, sumS_cons, List.getElem?_cons_zero, Option.getD_some]
    simp only [sumS, List.map_nil, List.sum_nil] at *
    omega
  | p :: L, h, k + 1, hk => by
    have ih := sum_at L (fun x hx => h x (by simp [hx])) k (by simp at hk; omega)
    have h1 := term_ge (h p (by simp))
    simp only [List.take_succ_cons, sumS_cons, List.getElem?_cons_succ]
    omega
/-- The k-th step: its product and its term are in their ranges, and the partial sum goes on. -/
theorem step_at (a b : Int) (ha : natB a = true) (hb : natB b = true) (k : Nat) (hk : k < (steps a b).length) (q r t : Int) (hq : ((steps a b)[k]?.getD (0, 0)).1 = q) (hr : ((steps a b)[k]?.getD (0, 0)).2 = r) (ht : sumS ((steps a b).take k) = t) :
    (0 ≤ q ∧ q ≤ 1000000000) ∧ (1 ≤ r ∧ r ≤ 1000000000) ∧ (0 ≤ q * r ∧ q * r ≤ 1000000000000000000) ∧ (0 ≤ q * r * r ∧ q * r * r ≤ 1000000000000000000) ∧ (0 ≤ t ∧ t + q * r * r ≤ 1000000000000000000) ∧ sumS ((steps a b).take (k + 1)) = t + q * r * r := by
  have h1 := natB_true.1 ha
  have h2 := natB_true.1 hb
  have ho := okP_steps (b.toNat + 1) a b h1 (by omega)
  have hs := sum_at (steps a b) ho k hk
  have hsum : sumS (steps a b) = a * b := sum_steps (b.toNat + 1) a b (by omega) (by omega)
  have hab : a * b ≤ 1000000000 * 1000000000 := Int.mul_le_mul h1.2 h2.2 (by omega) (by omega)
  have hp : (steps a b)[k]?.getD (0, 0) ∈ steps a b := by
    rw [List.getElem?_eq_getElem hk]; exact List.getElem_mem hk
  have h3 := ho _ hp
  have h4 := term_ge h3
  rw [hq, hr] at h3 h4 hs
  rw [ht] at hs
  rw [hsum] at hs
  refine ⟨h3.1, h3.2, ?_, ?_, ?_, hs.2.1⟩ <;> omega
theorem sum_all (a b : Int) (ha : natB a = true) (hb : natB b = true) (n : Nat) (hn : (steps a b).length = n) : sumS ((steps a b).take n) = a * b := by
  have h1 := natB_true.1 ha
  have h2 := natB_true.1 hb
  rw [← hn, List.take_length]
  exact sum_steps (b.toNat + 1) a b (by omega) (by omega)

theorem quot_at (a b : Int) (ha : natB a = true) (hb : natB b = true) : ∃ g x y : Int, (Int.gcd a b : Int) = g ∧ a / g = x ∧ b / g = y ∧ x * g = a ∧ y * g = b ∧ (1 ≤ g ∧ g ≤ 1000000000) ∧ (0 ≤ x ∧ x ≤ 1000000000) ∧ (0 ≤ y ∧ y ≤ 1000000000) ∧ nvR 0 1 1 ((steps a b).map (·.1)) = (x, y, 0) := by
  have h1 := natB_true.1 ha
  have h2 := natB_true.1 hb
  have gp : 1 ≤ (Int.gcd a b : Int) := by
    have := Int.gcd_pos_of_ne_zero_right a (show b ≠ 0 by omega); omega
  have gle : (Int.gcd a b : Int) ≤ b := Int.le_of_dvd (by omega) (Int.gcd_dvd_right a b)
  refine ⟨_, _, _, rfl, rfl, rfl, Int.ediv_mul_cancel (Int.gcd_dvd_left a b), Int.ediv_mul_cancel (Int.gcd_dvd_right a b), by omega, ?_, ?_, cf_nvR a b h1 h2⟩
  · exact ⟨Int.ediv_nonneg (by omega) (by omega), by have := Int.ediv_le_self (a := a) (Int.gcd a b : Int) (by omega); omega⟩
  · exact ⟨Int.ediv_nonneg (by omega) (by omega), by have := Int.ediv_le_self (a := b) (Int.gcd a b : Int) (by omega); omega⟩

theorem nf_cases (c d : Int) : ∃ (L : List Int) (n : Nat), L.length = n ∧ n ≤ 1000 ∧ nfA c d = L ∧
    ((∃ K, nfC c d = K ∧ (K = 2 ∨ K = 3 ∨ K = 5)) ∨ (nfC c d = 0 ∧ (n ≤ 64 → nvR 2 2 (-1) L = (c, d, 0)) ∧ ∀ z ∈ L, (Lit.int .i64 z).wf = true)) := by
  by_cases h : (natB c && natB d && decide (d < c)) = true
  · have h' := h
    simp only [Bool.and_eq_true, decide_eq_true_eq] at h'
    obtain ⟨⟨hc, hd⟩, hlt⟩ := h'
    have h1 := natB_true.1 hc
    have h2 := natB_true.1 hd
    by_cases hg : Int.gcd c d = 1
    · cases hx : nfL 1000 c d with
      | none =>
        refine ⟨[], 0, rfl, by omega, by simp only [nfA, if_pos h, if_pos hg, hx]; rfl, .inl ⟨3, by simp only [nfC, if_pos h, if_pos hg, hx]; rfl, by omega⟩⟩
      | some l =>
        have hv := nf_val 1000 c d l h1 (.inl (by omega)) hg hx
        refine ⟨l, l.length, rfl, nfL_len 1000 c d l hx, by simp only [nfA, if_pos h, if_pos hg, hx]; rfl, .inr ⟨by simp only [nfC, if_pos h, if_pos hg, hx]; rfl, fun hl => nf_nvR c d l h1 (by omega) hg hx hl, fun z hz => ?_⟩⟩
        obtain ⟨k, hk, rfl⟩ := List.getElem_of_mem hz
        have h5 := okL_get l 2 2 hv.2 k hk
        rw [List.getElem?_eq_getElem hk, Option.getD_some] at h5
        have h6 : 2 ≤ l[k] := by have := h5.1; split at this <;> omega
        simp [Lit.wf, IntKind.min, IntKind.max, IntKind.signed, IntKind.bits]; omega
    · exact ⟨[], 0, rfl, by omega, by simp only [nfA, if_pos h, if_neg hg], .inl ⟨5, by simp only [nfC, if_pos h, if_neg hg], by omega⟩⟩
  · exact ⟨[], 0, rfl, by omega, by simp only [nfA, if_neg h], .inl ⟨2, by simp only [nfC, if_neg h], by omega⟩⟩
end Go.Proofs.Ytbipihamkfifjaa
