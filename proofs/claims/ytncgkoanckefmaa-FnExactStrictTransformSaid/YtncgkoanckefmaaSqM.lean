/- The runs of a branch and its sequence: plain mathematics. Conditions: stated at each theorem. -/
import Derived.Test.YtncgkoanckefmaaSteps
import Derived.Test.YtncgkoanckefmaaBrM
namespace Go.Proofs.Ytncgkoanckefmaa
open Go.ChangeShapes Go.WideShapes Go.ChangeAt Go.RowKit
set_option linter.unusedVariables false

/-- The steps of the runs behind a term p, where e is the divisor there. -/
def rnL (p e : Int) : List Int → List (Int × Int)
  | [] => []
  | z :: r => steps (z - p) e ++ rnL z (Int.gcd e z : Int) r
def rsS : List Int → List (Int × Int)
  | [] => []
  | n :: r => rnL 0 n r
def rsI (zs : List Int) : List (Int × Int) := if zs.length = 1 then [(1, 1)] else rsS zs
/-- A step as they come: q numbers r. -/
def StOK (p : Int × Int) : Prop := (0 ≤ p.1 ∧ p.1 ≤ 2000) ∧ 1 ≤ p.2 ∧ p.2 ≤ 64
def cntL (L : List (Int × Int)) : Int := (L.map (·.1)).sum
def delL (L : List (Int × Int)) : Int := (L.map fun p => p.1 * (p.2 * (p.2 - 1) / 2)).sum
def upsL (L : List (Int × Int)) : Int := (L.map fun p => if 1 < p.2 then p.1 else 0).sum
def flL (L : List (Int × Int)) : List Int := L.flatMap fun p => List.replicate p.1.toNat p.2

theorem cntL_snoc (L : List (Int × Int)) (p : Int × Int) : cntL (L ++ [p]) = cntL L + p.1 := by simp [cntL]
theorem delL_snoc (L : List (Int × Int)) (p : Int × Int) : delL (L ++ [p]) = delL L + p.1 * (p.2 * (p.2 - 1) / 2) := by simp [delL]
theorem upsL_snoc (L : List (Int × Int)) (p : Int × Int) : upsL (L ++ [p]) = upsL L + (if 1 < p.2 then p.1 else 0) := by simp [upsL]
theorem flL_snoc (L : List (Int × Int)) (p : Int × Int) : flL (L ++ [p]) = flL L ++ List.replicate p.1.toNat p.2 := by simp [flL]
theorem flL_append (L M : List (Int × Int)) : flL (L ++ M) = flL L ++ flL M := by simp [flL]

theorem halfR {r : Int} (h : 1 ≤ r ∧ r ≤ 64) : 0 ≤ r * (r - 1) ∧ r * (r - 1) ≤ 4032 := by
  have h1 : 0 ≤ r * (r - 1) := Int.mul_nonneg (by omega) (by omega)
  have h2 : r * (r - 1) ≤ 64 * 63 := Int.mul_le_mul (by omega) (by omega) (by omega) (by omega)
  omega
theorem delP {p : Int × Int} (h : StOK p) : 0 ≤ p.1 * (p.2 * (p.2 - 1) / 2) ∧ p.1 * (p.2 * (p.2 - 1) / 2) ≤ 4032000 := by
  obtain ⟨h1, h2⟩ := h
  have h3 := halfR h2
  generalize p.2 * (p.2 - 1) = x at *
  have h4 : 0 ≤ x / 2 ∧ x / 2 ≤ 2016 := by omega
  generalize x / 2 = y at *
  have h5 : 0 ≤ p.1 * y := Int.mul_nonneg (by omega) (by omega)
  have h6 : p.1 * y ≤ 2000 * 2016 := Int.mul_le_mul (by omega) (by omega) (by omega) (by omega)
  omega

theorem sumL_bound {α : Type} (f : α → Int) (b : Int) : ∀ (L : List α), (∀ p ∈ L, 0 ≤ f p ∧ f p ≤ b) → 0 ≤ (L.map f).sum ∧ (L.map f).sum ≤ b * L.length
  | [], _ => by simp
  | p :: L, h => by
    have h1 := h p (by simp)
    have h2 := sumL_bound f b L (fun x hx => h x (by simp [hx]))
    have e : b * ((p :: L).length : Int) = b * (L.length : Int) + b := by simp only [List.length_cons, Int.natCast_add, Int.natCast_one, Int.mul_add, Int.mul_one]
    rw [e]; simp only [List.map_cons, List.sum_cons]; omega
theorem cntL_bound {L : List (Int × Int)} (h : ∀ p ∈ L, StOK p) : 0 ≤ cntL L ∧ cntL L ≤ 2000 * L.length := sumL_bound _ 2000 L fun p hp => (h p hp).1
theorem delL_bound {L : List (Int × Int)} (h : ∀ p ∈ L, StOK p) : 0 ≤ delL L ∧ delL L ≤ 4032000 * L.length := sumL_bound _ 4032000 L fun p hp => delP (h p hp)
theorem upsL_bound {L : List (Int × Int)} (h : ∀ p ∈ L, StOK p) : 0 ≤ upsL L ∧ upsL L ≤ 2000 * L.length := sumL_bound _ 2000 L fun p hp => by
  have := (h p hp).1; split <;> omega
theorem flL_len {L : List (Int × Int)} (h : ∀ p ∈ L, StOK p) : ((flL L).length : Int) = cntL L := by
  induction L with
  | nil => rfl
  | cons p L ih =>
    have h1 := (h p (by simp)).1
    have h2 := ih (fun x hx => h x (by simp [hx]))
    simp only [flL, cntL, List.flatMap_cons, List.length_append, List.length_replicate, List.map_cons, List.sum_cons] at *
    omega

theorem stL_ok : ∀ (f : Nat) (a b : Int), (0 ≤ a ∧ a ≤ 2000) → (0 ≤ b ∧ b ≤ 64) → ∀ p ∈ stL f a b, StOK p
  | 0, _, _, _, _ => by simp [stL]
  | f + 1, a, b, ha, hb => by
    unfold stL
    split
    · simp
    · rename_i hb0
      intro p hp
      rcases List.mem_cons.1 hp with rfl | hp
      · have h1 : 0 ≤ a / b ∧ a / b ≤ a := ⟨Int.ediv_nonneg (by omega) (by omega), Int.ediv_le_self _ (by omega)⟩
        exact ⟨by dsimp; omega, by dsimp; omega⟩
      · have h2 : 0 ≤ a % b ∧ a % b < b := ⟨Int.emod_nonneg _ (by omega), Int.emod_lt_of_pos _ (by omega)⟩
        exact stL_ok f b (a % b) (by omega) (by omega) p hp
theorem steps_ok {a b : Int} (ha : 0 ≤ a ∧ a ≤ 2000) (hb : 0 ≤ b ∧ b ≤ 64) : ∀ p ∈ steps a b, StOK p := stL_ok _ _ _ ha hb
theorem steps_len {a b : Int} (hb : 0 ≤ b ∧ b ≤ 64) : (steps a b).length ≤ 65 := by
  have := stL_len (b.toNat + 1) a b
  unfold steps; omega
theorem rnL_ok : ∀ (zs : List Int) {p e : Int}, 0 ≤ p → (1 ≤ e ∧ e ≤ 64) → ascB p zs = true → (∀ x ∈ rnL p e zs, StOK x) ∧ (rnL p e zs).length ≤ 65 * zs.length
  | [], p, e, _, _, _ => by simp [rnL]
  | z :: r, p, e, hp, he, ha => by
    have h1 := ascB_all ha z (by simp)
    have hg := gcd_le_left (e := e) (z := z) he.1
    have ha2 : ascB z r = true := by simp only [ascB, Bool.and_eq_true] at ha; exact ha.2
    obtain ⟨i1, i2⟩ := rnL_ok r (p := z) (e := (Int.gcd e z : Int)) (by omega) (by omega) ha2
    have s1 := steps_ok (a := z - p) (b := e) (by omega) (by omega)
    have s2 := steps_len (a := z - p) (b := e) (by omega)
    refine ⟨fun x hx => ?_, ?_⟩
    · simp only [rnL, List.mem_append] at hx
      rcases hx with hx | hx
      · exact s1 x hx
      · exact i1 x hx
    · simp only [rnL, List.length_append, List.length_cons]; omega
theorem asc_len : ∀ (zs : List Int) {p : Int}, ascB p zs = true → p ≤ 2000 → p + zs.length ≤ 2000
  | [], p, _, hp => by simp; omega
  | z :: r, p, h, _ => by
    have h1 := ascB_all h z (by simp)
    have h2 : ascB z r = true := by simp only [ascB, Bool.and_eq_true] at h; exact h.2
    have := asc_len r h2 (by omega)
    simp only [List.length_cons, Int.natCast_add, Int.natCast_one]; omega

theorem br_cons {zs : List Int} (h : brB zs = true) : ∃ n r, zs = n :: r ∧ (1 ≤ n ∧ n ≤ 64) ∧ ascB 0 r = true ∧ r.length ≤ 2000 := by
  obtain ⟨n, r, e, hn, ha, _⟩ := dcB_parts (brB_dcB h)
  have := asc_len r ha (by omega)
  exact ⟨n, r, e, hn, ha, by omega⟩
theorem rsS_ok {zs : List Int} (h : brB zs = true) : (∀ x ∈ rsS zs, StOK x) ∧ (rsS zs).length ≤ 130000 := by
  obtain ⟨n, r, rfl, hn, ha, hl⟩ := br_cons h
  obtain ⟨h1, h2⟩ := rnL_ok r (p := 0) (e := n) (by omega) hn ha
  exact ⟨h1, by show (rnL 0 n r).length ≤ _; omega⟩
theorem rsI_ok {zs : List Int} (h : brB zs = true) : (∀ x ∈ rsI zs, StOK x) ∧ (rsI zs).length ≤ 130000 := by
  unfold rsI
  split
  · exact ⟨by simp [StOK], by simp⟩
  · exact rsS_ok h
theorem br_more {n z : Int} {r : List Int} (h : brB (n :: z :: r) = true) : n < z := by
  rw [brB_more] at h; simp only [Bool.and_eq_true, decide_eq_true_eq] at h; exact h.2
theorem cnt_pos {n z : Int} {r : List Int} (h : brB (n :: z :: r) = true) : 1 ≤ cntL (rsS (n :: z :: r)) := by
  obtain ⟨n', r', e, hn, ha, hl⟩ := br_cons h
  cases e
  have hz := br_more h
  have h1 := ascB_all ha z (by simp)
  have hq : steps (z - 0) n = ((z - 0) / n, n) :: stL n.toNat n ((z - 0) % n) := by
    unfold steps; conv => lhs; unfold stL
    rw [if_neg (by omega)]
  have hq1 : 1 ≤ (z - 0) / n := by
    have := (Int.le_ediv_iff_mul_le (a := (1 : Int)) (b := z - 0) (c := n) (by omega)).2 (by omega)
    exact this
  have ho := (rsS_ok h).1
  have hr : rsS (n :: z :: r) = [((z - 0) / n, n)] ++ (stL n.toNat n ((z - 0) % n) ++ rnL z (Int.gcd n z : Int) r) := by
    show steps (z - 0) n ++ _ = _; rw [hq]; simp
  rw [hr] at ho ⊢
  have h2 := cntL_bound (L := stL n.toNat n ((z - 0) % n) ++ rnL z (Int.gcd n z : Int) r) (fun p hp => ho p (List.mem_append.2 (.inr hp)))
  have : ∀ A B, cntL (A ++ B) = cntL A + cntL B := by intro A B; simp [cntL]
  rw [this]
  have : cntL [((z - 0) / n, n)] = (z - 0) / n := by simp [cntL]
  omega
theorem rsI_one (n : Int) : rsI [n] = [(1, 1)] ∧ rsS [n] = [] := ⟨rfl, rfl⟩
theorem rsI_more (n z : Int) (r : List Int) : rsI (n :: z :: r) = rsS (n :: z :: r) := by simp [rsI]
theorem del_eq {zs : List Int} (h : brB zs = true) : delL (rsI zs) = delL (rsS zs) := by
  obtain ⟨n, r, rfl, _⟩ := br_cons h
  cases r with
  | nil => rfl
  | cons z r => rw [rsI_more]
theorem ups_eq {zs : List Int} (h : brB zs = true) : upsL (rsI zs) = upsL (rsS zs) := by
  obtain ⟨n, r, rfl, _⟩ := br_cons h
  cases r with
  | nil => rfl
  | cons z r => rw [rsI_more]
theorem cnt_eq {zs : List Int} (h : brB zs = true) : cntL (rsI zs) = max (cntL (rsS zs)) 1 := by
  obtain ⟨n, r, rfl, _⟩ := br_cons h
  cases r with
  | nil => rfl
  | cons z r => rw [rsI_more]; have := cnt_pos h; omega
/-- The sequence of a branch. -/
def seqL (zs : List Int) : List Int := flL (rsI zs)
theorem seq_eq {zs : List Int} (h : brB zs = true) : seqL zs = if (flL (rsS zs)).length = 0 then [1] else flL (rsS zs) := by
  obtain ⟨n, r, rfl, _⟩ := br_cons h
  cases r with
  | nil => rfl
  | cons z r =>
    have h1 := cnt_pos h
    have h2 := flL_len (rsS_ok h).1
    rw [if_neg (by omega), seqL, rsI_more]
theorem seq_len {zs : List Int} (h : brB zs = true) : ((seqL zs).length : Int) = cntL (rsI zs) ∧ (seqL zs).length ≤ 260000000 := by
  have h1 := flL_len (rsI_ok h).1
  have h2 := cntL_bound (rsI_ok h).1
  have h3 := (rsI_ok h).2
  exact ⟨h1, by unfold seqL; omega⟩
/-- The divisors, one by one. -/
theorem dvL_next : ∀ (zs : List Int) (e : Int) (k : Nat), k + 1 < zs.length → (dvL e zs)[k + 1]?.getD 0 = (Int.gcd ((dvL e zs)[k]?.getD 0) (zs[k + 1]?.getD 0) : Int)
  | [], _, k, h => by simp at h
  | z :: r, e, k, h => by
    cases k with
    | zero =>
      cases r with
      | nil => simp at h
      | cons y r => simp [dvL]
    | succ k =>
      have := dvL_next r (Int.gcd e z : Int) k (by simpa using h)
      simpa [dvL] using this
end Go.Proofs.Ytncgkoanckefmaa
