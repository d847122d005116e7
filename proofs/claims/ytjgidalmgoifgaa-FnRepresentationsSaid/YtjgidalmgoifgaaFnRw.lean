/- What laws.FnRepresentations meets: cases of the codes, words for its loops. Conditions: stated at each theorem. -/
import Derived.Test.YtjgidalmgoifgaaFnRm
import Derived.Test.YtjgidalmgoifgaaZE
namespace Go.Proofs.Ytjgidalmgoifgaa
set_option linter.unusedVariables false
set_option linter.unusedSimpArgs false

theorem rep_cases (L : List Int) (x : Int) : (brB L = false ∧ reC L x = 1 ∧ ivA L x = false ∧ ivC L x = 1) ∨ (brB L = true ∧ reC L x = 2 ∧ ivA L x = false ∧ ivC L x = 2) ∨
    ((brB L = true ∧ semiB x = true ∧ reB L x = false) ∧ reC L x = 4 ∧ ivA L x = false ∧ ivC L x = 0) ∨ ((brB L = true ∧ semiB x = true ∧ reB L x = true) ∧ reC L x = 0 ∧ ivA L x = true ∧ ivC L x = 0) := by
  unfold reC ivA ivC
  cases brB L <;> cases semiB x <;> cases reB L x <;> simp
/-- The values up to x: x is among them just if it is one; they ascend. -/
theorem vu_facts {L : List Int} {x : Int} (h : brB L = true ∧ semiB x = true) : (vuA L x).length ≤ 1099511627776 ∧ decide (x ∈ vuA L x) = reB L x ∧
    ∀ i, i + 1 < (vuA L x).length → (vuA L x)[i]?.getD 0 < (vuA L x)[i + 1]?.getD 0 := by
  have hx := semiB_yes h.2
  have e : vuA L x = vlL L true (x.toNat + 1) := by unfold vuA; rw [if_pos h.1, if_pos h.2]
  rw [e]
  refine ⟨?_, ?_, vl_asc L true _⟩
  · have := vlL_len L true (x.toNat + 1); omega
  · have := vl_mem L true (x.toNat + 1) x.toNat
    rw [show ((x.toNat : Nat) : Int) = x by omega] at this
    cases hr : reB L x
    · exact decide_eq_false (by rw [this, hr]; simp)
    · exact decide_eq_true (by rw [this, hr]; exact ⟨by omega, rfl⟩)
/-- What is known of a representation, its generators and divisors. -/
structure RepOK (L : List Int) (x : Int) (M : Nat) : Prop where
  l1 : (reA L x).length = M
  l2 : (goA L).length = M
  l3 : (doA L).length = M
  m : M ≤ 64
  c1 : goC L = 0
  c2 : brC L = 0
  sum : prS (reA L x) (goA L) M = x
  pre : ∀ k, k ≤ M → 0 ≤ prS (reA L x) (goA L) k ∧ prS (reA L x) (goA L) k ≤ 4611686018427387904
  pos : ∀ i, i < M → 0 ≤ (reA L x)[i]?.getD 0
  dv : ∀ i, i < M → 1 ≤ (doA L)[i]?.getD 0 ∧ (doA L)[i]?.getD 0 ≤ 4611686018427387904
  lt : ∀ i, i + 1 < M → (reA L x)[i + 1]?.getD 0 < ((doA L)[i]?.getD 0).tdiv ((doA L)[i + 1]?.getD 0)
theorem RepOK.make {L : List Int} {x : Int} (hp : brB L = true) (hs : semiB x = true) (hr : reB L x = true) (hl : L.length ≤ 9) : RepOK L x L.length := by
  have e1 : reA L x = rpC L (L.length - 1) x := (re_yes hp hs hr).1
  have e2 : goA L = gnB L := by unfold goA; rw [if_pos hp]
  have e3 : doA L = dvL 0 L := by unfold doA; rw [if_pos hp]
  have hx := semiB_yes hs
  have h0 := brB_pos hp
  obtain ⟨h1, h2, h3⟩ := rp_all hp hr
  have hb := prS_range hp h2 h1
  refine ⟨by rw [e1, rpC_len]; omega, by rw [e2, gnB_len], by rw [e3, dvL_len], by omega, by unfold goC; rw [if_pos hp], by unfold brC; rw [if_pos hp], by rw [e1, e2]; exact h1, fun k hk => ?_, fun i hi => by rw [e1]; exact h2 i hi, fun i hi => ?_, fun i hi => ?_⟩
  · rw [e1, e2]; have := hb k hk; omega
  · rw [e3]; have := dvA_pos hp hi; exact ⟨this.1, Int.le_trans this.2 (by omega)⟩
  · rw [e1, e3]; exact h3 i hi
/-- What is known of an entry of the Apery list. -/
structure ApOK (L : List Int) (N r : Nat) (z : Int) : Prop where
  rem : z.tmod (N : Int) = (r : Int)
  pos : 0 ≤ z
  hi : z ≤ 8192000
  val : z ≤ 20000 → ivA L z = true ∧ ivC L z = 0
  less : z ≤ 20000 → (N : Int) ≤ z → ivA L (z - (N : Int)) = false ∧ ivC L (z - (N : Int)) = 0
theorem ApOK.make {L : List Int} {r : Nat} (hr : r < (apoA L).length) : ApOK L (apoA L).length r ((apoA L)[r]?.getD 0) := by
  have hp : brB L = true := by
    cases h : brB L
    · simp [apoA, h] at hr
    · rfl
  have e : apoA L = apL L := by unfold apoA; rw [if_pos hp]
  rw [e] at hr ⊢
  generalize hNN : (apL L).length = N at *
  have hr : r < (dvA L 0).toNat := by rw [← apL_len, hNN]; exact hr
  have hd := (dvA_pos hp (i := 0) (brB_pos hp)).1
  have hN : (N : Int) = dvA L 0 := by rw [← hNN, apL_len]; omega
  rw [apL_at (by omega)]
  have h1 := apA_range hp (r : Int)
  have h2 := apA_rem hp (r := (r : Int)) (by omega)
  have h3 := reB_apA hp (r : Int)
  have h4 := ap_less hp (r : Int)
  refine ⟨by rw [Int.tmod_eq_emod_of_nonneg h1.1, hN]; exact h2, h1.1, h1.2, fun h => ?_, fun h h' => ?_⟩
  · have hs : semiB (apA L (r : Int)) = true := decide_eq_true ⟨h1.1, h⟩
    unfold ivA ivC
    rw [if_pos hp, if_pos hp, if_pos hs, if_pos hs]
    exact ⟨h3, rfl⟩
  · rw [hN] at h' ⊢
    have hs : semiB (apA L (r : Int) - dvA L 0) = true := decide_eq_true ⟨by omega, by omega⟩
    unfold ivA ivC
    rw [if_pos hp, if_pos hp, if_pos hs, if_pos hs]
    exact ⟨h4, rfl⟩
end Go.Proofs.Ytjgidalmgoifgaa
