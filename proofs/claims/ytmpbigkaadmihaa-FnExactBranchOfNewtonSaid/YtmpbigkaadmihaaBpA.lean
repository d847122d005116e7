/- Branches of pairs: plain mathematics. Conditions: stated at each theorem. -/
import Derived.Test.YtmpbigkaadmihaaBpE
import Derived.Test.YtmpbigkaadmihaaPrM
namespace Go.Proofs.Ytmpbigkaadmihaa
open Go.ChangeShapes Go.WideShapes Go.ChangeAt Go.RowKit
set_option linter.unusedVariables false
set_option linter.unusedSimpArgs false

/-- The product of the second numbers. -/
def prdL : List (Int × Int) → Int
  | [] => 1
  | p :: r => p.2 * prdL r
def pairB : List Int → Bool
  | [a, b] => tmB a && tmB b
  | _ => false
def pairOf (z : List Int) : Int × Int := (z.getD 0 0, z.getD 1 0)
/-- Lists of two terms with no product above 64, behind the product n. -/
def pdB (n : Int) : List (List Int) → Bool
  | [] => true
  | z :: zs => pairB z && (decide (n * (pairOf z).2 ≤ 64) && pdB (n * (pairOf z).2) zs)
def bpB (zs : List (List Int)) : Bool := decide (zs.length ≤ 6) && pdB 1 zs
def psOf (zs : List (List Int)) : List (Int × Int) := zs.map pairOf
def pF (ps : List (Int × Int)) (i : Nat) : Int × Int := ps.getD i (0, 0)
theorem pairB_form {z : List Int} (h : pairB z = true) : ∃ a b, z = [a, b] ∧ (1 ≤ a ∧ a ≤ 2000) ∧ (1 ≤ b ∧ b ≤ 2000) ∧ pairOf z = (a, b) := by
  match z with
  | [a, b] =>
    simp only [pairB, Bool.and_eq_true] at h
    exact ⟨a, b, rfl, tmB_true.1 h.1, tmB_true.1 h.2, rfl⟩
  | [] => cases h
  | [_] => cases h
  | _ :: _ :: _ :: _ => cases h
theorem prdL_drop {ps : List (Int × Int)} {i : Nat} (h : i < ps.length) : prdL (ps.drop i) = (pF ps i).2 * prdL (ps.drop (i + 1)) := by
  rw [List.drop_eq_getElem_cons h, prdL]
  simp [pF, List.getD, h]
/-- The terms: each first number times the second numbers behind it. -/
def tmF (ps : List (Int × Int)) (i : Nat) : Int := (pF ps i).1 * prdL (ps.drop (i + 1))
def tmL (ps : List (Int × Int)) : List Int := (List.range ps.length).map (tmF ps)
def bpL (ps : List (Int × Int)) : List Int := prdL ps :: tmL ps
theorem tmL_len (ps : List (Int × Int)) : (tmL ps).length = ps.length := by simp [tmL]
theorem bpL_len (ps : List (Int × Int)) : (bpL ps).length = ps.length + 1 := by simp [bpL, tmL_len]
theorem tmL_at {ps : List (Int × Int)} {i : Nat} (h : i < ps.length) : (tmL ps).getD i 0 = tmF ps i := by simp [tmL, List.getD, h]
/-- Pairs whose numbers are at least 1 and whose product is at most 64. -/
structure PsOK (M : Int) (ps : List (Int × Int)) : Prop where
  first : ∀ p ∈ ps, 1 ≤ p.1 ∧ p.1 ≤ M
  second : ∀ p ∈ ps, 1 ≤ p.2
  prod : prdL ps ≤ 64
theorem prdL_pos {ps : List (Int × Int)} (h : ∀ p ∈ ps, 1 ≤ p.2) : 1 ≤ prdL ps := by
  induction ps with
  | nil => simp [prdL]
  | cons p r ih =>
    have h1 := h p (List.mem_cons_self ..)
    have h2 := ih fun q hq => h q (List.mem_cons_of_mem _ hq)
    rw [prdL]
    have := Int.mul_le_mul h1 h2 (by omega) (by omega)
    omega
theorem prdL_tail {p : Int × Int} {r : List (Int × Int)} (h : ∀ q ∈ p :: r, 1 ≤ q.2) : prdL r ≤ prdL (p :: r) ∧ p.2 ≤ prdL (p :: r) := by
  have h1 := h p (List.mem_cons_self ..)
  have h2 := prdL_pos fun q hq => h q (List.mem_cons_of_mem _ hq)
  rw [prdL]
  have e1 := Int.mul_le_mul_of_nonneg_right h1 (show 0 ≤ prdL r by omega)
  have e2 := Int.mul_le_mul_of_nonneg_left h2 (show 0 ≤ p.2 by omega)
  constructor <;> omega
theorem PsOK.tail {M : Int} {p : Int × Int} {r : List (Int × Int)} (h : PsOK M (p :: r)) : PsOK M r :=
  ⟨fun q hq => h.first q (List.mem_cons_of_mem _ hq), fun q hq => h.second q (List.mem_cons_of_mem _ hq), by have := (prdL_tail h.second).1; have := h.prod; omega⟩
theorem PsOK.drop {M : Int} : ∀ {ps : List (Int × Int)}, PsOK M ps → ∀ i, PsOK M (ps.drop i)
  | [], h, i => by simpa using h
  | _ :: _, h, 0 => h
  | _ :: _, h, i + 1 => by simpa using PsOK.drop h.tail i
theorem PsOK.e {M : Int} {ps : List (Int × Int)} (h : PsOK M ps) (i : Nat) : 1 ≤ prdL (ps.drop i) ∧ prdL (ps.drop i) ≤ 64 := ⟨prdL_pos (h.drop i).second, (h.drop i).prod⟩
theorem PsOK.at {M : Int} {ps : List (Int × Int)} (h : PsOK M ps) {i : Nat} (hi : i < ps.length) : (1 ≤ (pF ps i).1 ∧ (pF ps i).1 ≤ M) ∧ 1 ≤ (pF ps i).2 ∧ (pF ps i).2 ≤ 64 := by
  have e : pF ps i = ps[i] := by simp [pF, List.getD, hi]
  have hm : ps[i] ∈ ps := List.getElem_mem _
  rw [e]
  refine ⟨h.first _ hm, h.second _ hm, ?_⟩
  have h1 := (h.drop i).prod
  rw [List.drop_eq_getElem_cons hi] at h1
  have h2 := h.drop i
  rw [List.drop_eq_getElem_cons hi] at h2
  have := (prdL_tail h2.second).2
  omega
theorem mul_range {a b M : Int} (ha : 1 ≤ a ∧ a ≤ M) (hb : 1 ≤ b ∧ b ≤ 64) : 1 ≤ a * b ∧ a * b ≤ M * 64 := by
  have e1 := Int.mul_le_mul ha.1 hb.1 (by omega) (by omega)
  have e2 := Int.mul_le_mul ha.2 hb.2 (by omega) (by omega)
  omega
theorem PsOK.term {M : Int} {ps : List (Int × Int)} (h : PsOK M ps) {i : Nat} (hi : i < ps.length) : 1 ≤ tmF ps i ∧ tmF ps i ≤ M * 64 := mul_range (h.at hi).1 (h.e (i + 1))
theorem PsOK.range {M : Int} (hM : 1 ≤ M) {ps : List (Int × Int)} (h : PsOK M ps) : ∀ z ∈ bpL ps, 1 ≤ z ∧ z ≤ M * 64 := by
  intro z hz
  rcases List.mem_cons.1 hz with rfl | hz
  · have := h.e 0; simp at this; omega
  · simp only [tmL, List.mem_map, List.mem_range] at hz
    obtain ⟨i, hi, rfl⟩ := hz
    exact h.term hi
theorem pd_ok : ∀ {zs : List (List Int)} {n : Int}, 1 ≤ n → n ≤ 64 → pdB n zs = true → (∀ p ∈ psOf zs, 1 ≤ p.1 ∧ p.1 ≤ 2000) ∧ (∀ p ∈ psOf zs, 1 ≤ p.2) ∧ n * prdL (psOf zs) ≤ 64
  | [], n, h1, h2, _ => ⟨by simp [psOf], by simp [psOf], by simp [psOf, prdL]; exact h2⟩
  | z :: zs, n, h1, h2, h => by
    simp only [pdB, Bool.and_eq_true, decide_eq_true_eq] at h
    obtain ⟨hz, h3, h4⟩ := h
    obtain ⟨a, b, rfl, ha, hb, e⟩ := pairB_form hz
    rw [e] at h3 h4
    have h5 : 1 ≤ n * b := by have := Int.mul_le_mul h1 hb.1 (by omega) (by omega); omega
    have ih := pd_ok h5 h3 h4
    refine ⟨fun p hp => ?_, fun p hp => ?_, ?_⟩
    · rcases List.mem_cons.1 (show p ∈ pairOf [a, b] :: psOf zs from hp) with rfl | hp
      · exact ha
      · exact ih.1 p hp
    · rcases List.mem_cons.1 (show p ∈ pairOf [a, b] :: psOf zs from hp) with rfl | hp
      · exact hb.1
      · exact ih.2.1 p hp
    · show n * (b * prdL (psOf zs)) ≤ 64
      rw [← Int.mul_assoc]; exact ih.2.2
theorem bpB_ok {zs : List (List Int)} (h : bpB zs = true) : PsOK 2000 (psOf zs) ∧ zs.length ≤ 6 := by
  simp only [bpB, Bool.and_eq_true, decide_eq_true_eq] at h
  have := pd_ok (by omega) (by omega) h.2
  exact ⟨⟨this.1, this.2.1, by have := this.2.2; omega⟩, h.1⟩
theorem psOf_at {zs : List (List Int)} {i : Nat} (h : i < zs.length) : pF (psOf zs) i = pairOf (zs.getD i []) := by simp [pF, psOf, List.getD, h]
theorem psOf_len (zs : List (List Int)) : (psOf zs).length = zs.length := by simp [psOf]
theorem pd_pairs : ∀ {zs : List (List Int)} {n : Int}, pdB n zs = true → ∀ z ∈ zs, pairB z = true
  | [], n, _ => by simp
  | z :: zs, n, h => by
    simp only [pdB, Bool.and_eq_true, decide_eq_true_eq] at h
    intro y hy
    rcases List.mem_cons.1 hy with rfl | hy
    · exact h.1
    · exact pd_pairs h.2.2 y hy
/-! ### The answer -/
def listsOf (ps : List (Int × Int)) : List (List Int) := ps.map fun p => [p.1, p.2]
def bqB (ps : List (Int × Int)) : Bool := brB (bpL ps) && decide (prL (ppF (bpL ps)) ps.length = listsOf ps)
def bqA (ps : List (Int × Int)) : List Int := if bqB ps then bpL ps else []
def bqC (ps : List (Int × Int)) : Int := if bqB ps then 0 else 5
def bpA (zs : List (List Int)) : List Int := if bpB zs then bqA (psOf zs) else []
def bpC (zs : List (List Int)) : Int := if bpB zs then bqC (psOf zs) else 2
theorem bq_yes {ps : List (Int × Int)} (h : bqB ps = true) : bqA ps = bpL ps ∧ bqC ps = 0 := by simp [bqA, bqC, h]
theorem bq_no {ps : List (Int × Int)} (h : bqB ps = false) : bqA ps = [] ∧ bqC ps = 5 := by simp [bqA, bqC, h]
theorem bp_no {zs : List (List Int)} (h : bpB zs = false) : bpA zs = [] ∧ bpC zs = 2 := by simp [bpA, bpC, h]
theorem bp_yes {zs : List (List Int)} (h : bpB zs = true) : bpA zs = bqA (psOf zs) ∧ bpC zs = bqC (psOf zs) := by simp [bpA, bpC, h]
theorem listsOf_prL (ps : List (Int × Int)) : listsOf ps = prL (pF ps) ps.length := by
  apply List.ext_getElem (by simp [listsOf, prL])
  intro i h1 h2
  have hi : i < ps.length := by simpa [listsOf] using h1
  simp [listsOf, prL, pF, List.getD, hi]
theorem prL_eq {f g : Nat → Int × Int} {n : Nat} : prL f n = prL g n ↔ ∀ i, i < n → f i = g i := by
  constructor
  · intro h i hi
    have e := congrArg (fun l => l.getD i []) h
    simp only [prL_at _ hi, List.cons.injEq, and_true] at e
    exact Prod.ext e.1 e.2
  · intro h
    unfold prL
    exact List.map_congr_left fun i hi => by rw [h i (List.mem_range.1 hi)]
theorem bqB_iff {ps : List (Int × Int)} : bqB ps = true ↔ brB (bpL ps) = true ∧ ∀ i, i < ps.length → ppF (bpL ps) i = pF ps i := by
  simp only [bqB, Bool.and_eq_true, decide_eq_true_eq, listsOf_prL, prL_eq]
theorem listsOf_psOf : ∀ {zs : List (List Int)}, (∀ z ∈ zs, pairB z = true) → listsOf (psOf zs) = zs
  | [], _ => rfl
  | z :: zs, h => by
    obtain ⟨a, b, rfl, _, _, e⟩ := pairB_form (h z (List.mem_cons_self ..))
    have ih := listsOf_psOf fun y hy => h y (List.mem_cons_of_mem _ hy)
    show [(pairOf [a, b]).1, (pairOf [a, b]).2] :: listsOf (psOf zs) = _
    rw [ih, e]
theorem bpA_len (zs : List (List Int)) (h : zs.length ≤ 1048576) : (bpA zs).length ≤ 1099511627776 := by
  unfold bpA bqA; split
  · split
    · rw [bpL_len, psOf_len]; omega
    · simp
  · simp
end Go.Proofs.Ytmpbigkaadmihaa
