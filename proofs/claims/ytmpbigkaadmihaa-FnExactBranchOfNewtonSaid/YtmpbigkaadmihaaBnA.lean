/- Branches of Newton pairs: plain mathematics. Conditions: stated at each theorem. -/
import Derived.Test.YtmpbigkaadmihaaBpM
import Derived.Test.YtmpbigkaadmihaaPrN
namespace Go.Proofs.Ytmpbigkaadmihaa
open Go.ChangeShapes Go.WideShapes Go.ChangeAt Go.RowKit
set_option linter.unusedVariables false
set_option linter.unusedSimpArgs false

/-- The Puiseux pairs of Newton pairs. -/
def qnL (b : Int) : List (Int × Int) → List (Int × Int)
  | [] => []
  | p :: r => (p.1 + b * p.2, p.2) :: qnL (p.1 + b * p.2) r
theorem qnL_len (b : Int) (ps : List (Int × Int)) : (qnL b ps).length = ps.length := by
  induction ps generalizing b with
  | nil => rfl
  | cons p r ih => simp [qnL, ih]
/-- The first number ahead of the pair with the index i. -/
def pvF (b : Int) (ps : List (Int × Int)) : Nat → Int
  | 0 => b
  | i + 1 => (pF (qnL b ps) i).1
theorem qn_at {ps : List (Int × Int)} : ∀ {b : Int} {i : Nat}, i < ps.length → pF (qnL b ps) i = ((pF ps i).1 + pvF b ps i * (pF ps i).2, (pF ps i).2) := by
  induction ps with
  | nil => intro b i h; simp at h
  | cons p r ih =>
    intro b i h
    cases i with
    | zero => simp [qnL, pF, pvF]
    | succ i =>
      have h2 : i < r.length := by simpa using h
      have e := ih (b := p.1 + b * p.2) h2
      have e1 : pF (qnL b (p :: r)) (i + 1) = pF (qnL (p.1 + b * p.2) r) i := by simp [qnL, pF]
      have e2 : pF (p :: r) (i + 1) = pF r i := by simp [pF]
      have e3 : pvF b (p :: r) (i + 1) = pvF (p.1 + b * p.2) r i := by
        cases i with
        | zero => simp [pvF, qnL, pF]
        | succ i => simp [pvF, qnL, pF]
      rw [e1, e, e2, e3]
theorem qn_prd (b : Int) : ∀ (ps : List (Int × Int)) (b : Int) (i : Nat), prdL ((qnL b ps).drop i) = prdL (ps.drop i)
  | [], b, i => by simp [qnL]
  | p :: r, b, 0 => by
    have := qn_prd b r (p.1 + b * p.2) 0
    simp only [List.drop_zero] at this ⊢
    rw [qnL, prdL, prdL, this]
  | p :: r, b, i + 1 => by simpa [qnL] using qn_prd b r (p.1 + b * p.2) i
theorem qn_bound : ∀ {ps : List (Int × Int)} {b : Int}, 0 ≤ b → (∀ p ∈ ps, 1 ≤ p.1 ∧ p.1 ≤ 2000) → (∀ p ∈ ps, 1 ≤ p.2) → ∀ q ∈ qnL b ps, 1 ≤ q.1 ∧ q.1 ≤ (b + 2000 * (ps.length : Int)) * prdL ps
  | [], b, hb, h1, h2 => by simp [qnL]
  | p :: r, b, hb, h1, h2 => by
    have hp1 := h1 p (List.mem_cons_self ..)
    have hp2 := h2 p (List.mem_cons_self ..)
    have hr := prdL_pos fun q hq => h2 q (List.mem_cons_of_mem _ hq)
    have hbp : 0 ≤ b * p.2 := Int.mul_nonneg hb (by omega)
    have hq0 : 0 ≤ p.1 + b * p.2 := by omega
    have ih := qn_bound hq0 (fun q hq => h1 q (List.mem_cons_of_mem _ hq)) (fun q hq => h2 q (List.mem_cons_of_mem _ hq))
    have hle : p.1 + b * p.2 ≤ (b + 2000) * p.2 := by
      have := Int.mul_le_mul_of_nonneg_left hp2 (show (0 : Int) ≤ 2000 by omega)
      rw [Int.add_mul]; omega
    have hlen : (0 : Int) ≤ 2000 * (r.length : Int) := by omega
    have hlr : 2000 * (r.length : Int) ≤ 2000 * (r.length : Int) * p.2 := by
      have := Int.mul_le_mul_of_nonneg_left hp2 hlen; omega
    have hall : (p.1 + b * p.2 + 2000 * (r.length : Int)) * prdL r ≤ (b + 2000 * ((p :: r).length : Int)) * prdL (p :: r) := by
      have e1 : (b + 2000 * ((p :: r).length : Int)) * prdL (p :: r) = ((b + 2000) * p.2 + 2000 * (r.length : Int) * p.2) * prdL r := by
        rw [prdL, ← Int.mul_assoc, ← Int.add_mul]
        congr 2
        simp [List.length_cons]; omega
      rw [e1]
      exact Int.mul_le_mul_of_nonneg_right (by omega) (by omega)
    have hone : p.1 + b * p.2 ≤ (p.1 + b * p.2 + 2000 * (r.length : Int)) * prdL r := by
      have := Int.mul_le_mul_of_nonneg_left hr (show 0 ≤ p.1 + b * p.2 + 2000 * (r.length : Int) by omega)
      omega
    intro q hq
    rcases List.mem_cons.1 (show q ∈ (p.1 + b * p.2, p.2) :: qnL (p.1 + b * p.2) r from hq) with rfl | hq
    · exact ⟨by show 1 ≤ p.1 + b * p.2; omega, by show p.1 + b * p.2 ≤ _; omega⟩
    · have := ih q hq; exact ⟨this.1, by omega⟩
theorem qn_second : ∀ {ps : List (Int × Int)} {b : Int}, (∀ p ∈ ps, 1 ≤ p.2) → ∀ q ∈ qnL b ps, 1 ≤ q.2
  | [], b, h => by simp [qnL]
  | p :: r, b, h => by
    intro q hq
    rcases List.mem_cons.1 (show q ∈ (p.1 + b * p.2, p.2) :: qnL (p.1 + b * p.2) r from hq) with rfl | hq
    · exact h p (List.mem_cons_self ..)
    · exact qn_second (fun q hq => h q (List.mem_cons_of_mem _ hq)) q hq
theorem qn_ok {ps : List (Int × Int)} (h : PsOK 2000 ps) (hl : ps.length ≤ 6) : PsOK 1000000 (qnL 0 ps) := by
  have hp : prdL (qnL 0 ps) = prdL ps := by simpa using qn_prd 0 ps 0 0
  refine ⟨fun q hq => ?_, qn_second h.second, by rw [hp]; exact h.prod⟩
  have h1 := qn_bound (Int.le_refl 0) h.first h.second q hq
  have h2 := prdL_pos h.second
  have h3 := h.prod
  have h4 := Int.mul_le_mul (show 0 + 2000 * (ps.length : Int) ≤ 12000 by omega) h3 (by omega) (by omega)
  omega
/-- The next term: the one before, and the first number times the second ones behind it. -/
theorem qn_term {ps : List (Int × Int)} {i : Nat} (h : i < ps.length) : tmF (qnL 0 ps) i = pvF 0 ps i * prdL (ps.drop i) + (pF ps i).1 * prdL (ps.drop (i + 1)) := by
  rw [tmF, qn_at h, qn_prd 0, prdL_drop h]
  show ((pF ps i).1 + pvF 0 ps i * (pF ps i).2) * prdL (ps.drop (i + 1)) = _
  rw [Int.add_mul, Int.mul_assoc, Int.add_comm]
theorem qn_prev {ps : List (Int × Int)} {i : Nat} (h : i < ps.length) : pvF 0 ps (i + 1) * prdL (ps.drop (i + 1)) = tmF (qnL 0 ps) i := by
  rw [tmF, pvF, qn_prd 0]
/-! ### The divisors of a branch of pairs -/
theorem dvL_dvd : ∀ {zs : List Int} {e : Int} {i : Nat}, i + 1 < zs.length → (dvL e zs)[i + 1]?.getD 0 ∣ (dvL e zs)[i]?.getD 0
  | [], e, i, h => by simp at h
  | [z], e, i, h => by simp at h
  | z :: y :: r, e, 0, h => by
    simp only [dvL, List.getElem?_cons_succ, List.getElem?_cons_zero, Option.getD_some]
    exact Int.gcd_dvd_left ..
  | z :: y :: r, e, i + 1, h => by
    have h2 : i + 1 < (y :: r).length := by simpa using h
    have := dvL_dvd (e := (Int.gcd e z : Int)) h2
    simpa [dvL] using this
theorem dv_last {zs : List Int} (hp : brB zs = true) : (dvL 0 zs)[zs.length - 1]?.getD 0 = 1 := by
  have h1 := brB_dcB hp
  have h0 := brB_pos hp
  match zs, h0 with
  | n :: r, _ =>
    rw [dcB_split] at h1
    simp only [Bool.and_eq_true, decide_eq_true_eq] at h1
    have h2 := last_at (L := dvL 0 (n :: r)) (n := (n :: r).length) (dvL_len _ _) (by simp)
    rw [h1.2.2.2] at h2
    exact (Option.some.inj h2).symm
/-- Where the second numbers are those of the branch, so are the divisors. -/
theorem dv_pairs {qs : List (Int × Int)} (hp : brB (bpL qs) = true) (h : ∀ i, i < qs.length → ((dvL 0 (bpL qs))[i]?.getD 0).tdiv ((dvL 0 (bpL qs))[i + 1]?.getD 0) = (pF qs i).2) :
    ∀ k i, i + k = qs.length → (dvL 0 (bpL qs))[i]?.getD 0 = prdL (qs.drop i) := by
  intro k
  induction k with
  | zero =>
    intro i hi
    have h1 := dv_last hp
    rw [bpL_len] at h1
    rw [show i = qs.length by omega, List.drop_length]
    simpa [prdL] using h1
  | succ k ih =>
    intro i hi
    have hi' : i < qs.length := by omega
    have h2 := ih (i + 1) (by omega)
    have h3 := h i hi'
    have h4 : (dvL 0 (bpL qs))[i + 1]?.getD 0 ∣ (dvL 0 (bpL qs))[i]?.getD 0 := dvL_dvd (by rw [bpL_len]; omega)
    rw [prdL_drop hi', ← h2, ← h3]
    exact (Int.tdiv_mul_cancel h4).symm
theorem bp_at {qs : List (Int × Int)} {i : Nat} (h : i < qs.length) : (bpL qs)[i + 1]?.getD 0 = tmF qs i := by
  have := tmL_at h
  simp only [bpL, List.getElem?_cons_succ]
  simpa [List.getD] using this
/-- The two tests are one. -/
theorem bn_same {ps : List (Int × Int)} (hok : PsOK 2000 ps) (hp : brB (bpL (qnL 0 ps)) = true) :
    (∀ i, i < ps.length → ppF (bpL (qnL 0 ps)) i = pF (qnL 0 ps) i) ↔ ∀ i, i < ps.length → npF (bpL (qnL 0 ps)) i = pF ps i := by
  have hl := qnL_len 0 ps
  have key : (∀ i, i < (qnL 0 ps).length → ((dvL 0 (bpL (qnL 0 ps)))[i]?.getD 0).tdiv ((dvL 0 (bpL (qnL 0 ps)))[i + 1]?.getD 0) = (pF (qnL 0 ps) i).2) → ∀ i, i < ps.length → (dvL 0 (bpL (qnL 0 ps)))[i + 1]?.getD 0 = prdL (ps.drop (i + 1)) := by
    intro h i hi
    rw [dv_pairs hp h (ps.length - (i + 1)) (i + 1) (by omega), qn_prd 0]
  constructor
  · intro h i hi
    have hs : ∀ i, i < (qnL 0 ps).length → ((dvL 0 (bpL (qnL 0 ps)))[i]?.getD 0).tdiv ((dvL 0 (bpL (qnL 0 ps)))[i + 1]?.getD 0) = (pF (qnL 0 ps) i).2 := fun i hi => by
      rw [← h i (by omega)]; rfl
    have hd := key hs i hi
    have he := (hok.e (i + 1)).1
    refine Prod.ext ?_ ?_
    · show ((bpL (qnL 0 ps))[i + 1]?.getD 0 - if i = 0 then 0 else (bpL (qnL 0 ps))[i]?.getD 0).tdiv ((dvL 0 (bpL (qnL 0 ps)))[i + 1]?.getD 0) = (pF ps i).1
      rw [hd, bp_at (by omega), qn_term hi]
      have e1 : (if i = 0 then 0 else (bpL (qnL 0 ps))[i]?.getD 0) = pvF 0 ps i * prdL (ps.drop i) := by
        cases i with
        | zero => simp [pvF]
        | succ i => rw [if_neg (by omega), bp_at (by omega), qn_prev (by omega)]
      rw [e1, Int.add_comm, Int.add_sub_cancel]
      exact Int.mul_tdiv_cancel _ (by omega)
    · show ((dvL 0 (bpL (qnL 0 ps)))[i]?.getD 0).tdiv ((dvL 0 (bpL (qnL 0 ps)))[i + 1]?.getD 0) = (pF ps i).2
      rw [hs i (by omega), qn_at hi]
  · intro h i hi
    have hs : ∀ i, i < (qnL 0 ps).length → ((dvL 0 (bpL (qnL 0 ps)))[i]?.getD 0).tdiv ((dvL 0 (bpL (qnL 0 ps)))[i + 1]?.getD 0) = (pF (qnL 0 ps) i).2 := fun i hi => by
      have h1 := congrArg Prod.snd (h i (by omega))
      rw [qn_at (by omega)]
      exact h1
    have hd := key hs i hi
    have he := (hok.e (i + 1)).1
    refine Prod.ext ?_ ?_
    · show ((bpL (qnL 0 ps))[i + 1]?.getD 0).tdiv ((dvL 0 (bpL (qnL 0 ps)))[i + 1]?.getD 0) = (pF (qnL 0 ps) i).1
      rw [hd, bp_at (by omega), tmF, qn_prd 0]
      exact Int.mul_tdiv_cancel _ (by omega)
    · show ((dvL 0 (bpL (qnL 0 ps)))[i]?.getD 0).tdiv ((dvL 0 (bpL (qnL 0 ps)))[i + 1]?.getD 0) = (pF (qnL 0 ps) i).2
      exact hs i (by omega)
/-! ### The answer -/
def bnA (zs : List (List Int)) : List Int := if bpB zs then bqA (qnL 0 (psOf zs)) else []
def bnC (zs : List (List Int)) : Int := if bpB zs then bqC (qnL 0 (psOf zs)) else 2
theorem bn_no {zs : List (List Int)} (h : bpB zs = false) : bnA zs = [] ∧ bnC zs = 2 := by simp [bnA, bnC, h]
theorem bn_yes {zs : List (List Int)} (h : bpB zs = true) : bnA zs = bqA (qnL 0 (psOf zs)) ∧ bnC zs = bqC (qnL 0 (psOf zs)) := by simp [bnA, bnC, h]
theorem bn_bq {zs : List (List Int)} (h : bpB zs = true) (hp : brB (bpL (qnL 0 (psOf zs))) = true) : bqB (qnL 0 (psOf zs)) = decide (prL (npF (bpL (qnL 0 (psOf zs)))) zs.length = zs) := by
  have hz : ∀ z ∈ zs, pairB z = true := by simp only [bpB, Bool.and_eq_true] at h; exact pd_pairs h.2
  have h1 := bn_same (bpB_ok h).1 hp
  rw [Bool.eq_iff_iff, bqB_iff, decide_eq_true_eq]
  have h2 : prL (npF (bpL (qnL 0 (psOf zs)))) zs.length = zs ↔ ∀ i, i < (psOf zs).length → npF (bpL (qnL 0 (psOf zs))) i = pF (psOf zs) i := by
    have e := listsOf_psOf hz
    rw [listsOf_prL] at e
    rw [← prL_eq, psOf_len, ← psOf_len zs]
    constructor
    · intro h; rw [h, e]
    · intro h; rw [h, e]
  rw [h2, ← h1, qnL_len]
  simp [hp]
theorem bnA_len (zs : List (List Int)) (h : zs.length ≤ 1048576) : (bnA zs).length ≤ 1099511627776 := by
  unfold bnA bqA; split
  · split
    · rw [bpL_len, qnL_len, psOf_len]; omega
    · simp
  · simp
end Go.Proofs.Ytmpbigkaadmihaa
