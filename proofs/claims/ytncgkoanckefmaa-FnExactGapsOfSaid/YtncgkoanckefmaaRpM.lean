/- Representations by generators: plain mathematics of chapter 5. Conditions: stated at each theorem. -/
import Derived.Test.YtncgkoanckefmaaGnC
namespace Go.Proofs.Ytncgkoanckefmaa
set_option linter.unusedVariables false

/-- How often g is taken away from v until e divides what is left. -/
def rcL (e g v : Int) : Nat → Nat
  | 0 => 0
  | f + 1 => if v.tmod e = 0 then 0 else rcL e g (v - g) f + 1
abbrev dvA (zs : List Int) (i : Nat) : Int := (dvL 0 zs)[i]?.getD 0
abbrev gnA (zs : List Int) (i : Nat) : Int := (gnB zs)[i]?.getD 0
def rcA (zs : List Int) (i : Nat) (v : Int) : Nat := rcL (dvA zs i) (gnA zs (i + 1)) v 64
/-- What is left behind the generators with the indices i, .., 1. -/
def rpV (zs : List Int) : Nat → Int → Int
  | 0, v => v
  | i + 1, v => rpV zs i (v - (rcA zs i v : Int) * gnA zs (i + 1))
/-- The numbers with the indices 0, .., i. -/
def rpC (zs : List Int) : Nat → Int → List Int
  | 0, v => [v.tdiv (zs[0]?.getD 0)]
  | i + 1, v => rpC zs i (v - (rcA zs i v : Int) * gnA zs (i + 1)) ++ [(rcA zs i v : Int)]
theorem rpC_len (zs : List Int) (i : Nat) (v : Int) : (rpC zs i v).length = i + 1 := by
  induction i generalizing v with
  | zero => rfl
  | succ i ih => simp [rpC, ih]

theorem tmod_zero {v e : Int} : v.tmod e = 0 ↔ e ∣ v := Int.dvd_iff_tmod_eq_zero.symm
/-- If e divides v - c g for a c below the fuel, the count is at most this c, and e divides what is left. -/
theorem rcL_end {e g : Int} : ∀ {f c : Nat} {v : Int}, c < f → e ∣ v - (c : Int) * g → rcL e g v f ≤ c ∧ e ∣ v - (rcL e g v f : Int) * g := by
  intro f
  induction f with
  | zero => intro c v h _; omega
  | succ f ih =>
    intro c v h hd
    unfold rcL
    by_cases h0 : v.tmod e = 0
    · rw [if_pos h0]
      exact ⟨by omega, by simpa using tmod_zero.1 h0⟩
    · rw [if_neg h0]
      cases c with
      | zero => exact absurd (tmod_zero.2 (by simpa using hd)) h0
      | succ c =>
        have e1 : v - g - (c : Int) * g = v - ((c + 1 : Nat) : Int) * g := by push_cast; rw [Int.add_mul]; omega
        have h2 := ih (c := c) (v := v - g) (by omega) (by rw [e1]; exact hd)
        refine ⟨by omega, ?_⟩
        have e2 : v - ((rcL e g (v - g) f + 1 : Nat) : Int) * g = v - g - (rcL e g (v - g) f : Int) * g := by push_cast; rw [Int.add_mul]; omega
        rw [e2]; exact h2.2
theorem rcL_step {e g v : Int} {f : Nat} (h : ¬ v.tmod e = 0) : rcL e g v (f + 1) = rcL e g (v - g) f + 1 := by rw [rcL, if_neg h]
theorem rcL_zero {e g v : Int} {f : Nat} (h : v.tmod e = 0) : rcL e g v f = 0 := by
  cases f with
  | zero => rfl
  | succ f => rw [rcL, if_pos h]
theorem bezN (a b : Nat) : ∃ x y : Int, (Nat.gcd a b : Int) = (a : Int) * x + (b : Int) * y := by
  induction a, b using Nat.gcd.induction with
  | H0 n => exact ⟨0, 1, by simp⟩
  | H1 m n hm ih =>
    obtain ⟨x, y, h⟩ := ih
    rw [Nat.gcd_rec]
    refine ⟨y - ((n / m : Nat) : Int) * x, x, ?_⟩
    rw [h]
    have h1 : (n : Int) = (m : Int) * ((n / m : Nat) : Int) + ((n % m : Nat) : Int) := by
      have := Nat.div_add_mod n m
      omega
    grind
theorem bezI {e g : Int} (he : 0 ≤ e) (hg : 0 ≤ g) : ∃ x y : Int, (Int.gcd e g : Int) = e * x + g * y := by
  obtain ⟨x, y, h⟩ := bezN e.natAbs g.natAbs
  refine ⟨x, y, ?_⟩
  have h1 : (e.natAbs : Int) = e := by omega
  have h2 : (g.natAbs : Int) = g := by omega
  rw [h1, h2] at h
  exact h
/-- There is such a c below e. -/
theorem rc_exists {e g v : Int} (he : 1 ≤ e ∧ e ≤ 64) (hg : 0 ≤ g) (hd : (Int.gcd e g : Int) ∣ v) : ∃ c : Nat, c < 64 ∧ (c : Int) < e ∧ e ∣ v - (c : Int) * g := by
  obtain ⟨k, rfl⟩ := hd
  obtain ⟨a, b, hb⟩ := bezI (e := e) (g := g) (by omega) hg
  have hx0 : 0 ≤ (k * b) % e := Int.emod_nonneg _ (by omega)
  have hx1 : (k * b) % e < e := Int.emod_lt_of_pos _ (by omega)
  refine ⟨((k * b) % e).toNat, by omega, by omega, ?_⟩
  have hxx : ((((k * b) % e).toNat : Nat) : Int) = (k * b) % e := by omega
  rw [hxx]
  have hm := Int.mul_ediv_add_emod (k * b) e
  generalize (k * b) / e = m at *
  generalize (k * b) % e = x at *
  rw [hb]
  refine ⟨a * k + m * g, ?_⟩
  grind
/-- The divisors and generators of a branch. -/
theorem dvA_pos {zs : List Int} (hp : brB zs = true) {i : Nat} (h : i < zs.length) : 1 ≤ dvA zs i ∧ dvA zs i ≤ 64 := by
  have h1 := all_at (dvL_pos (dcB_range (brB_dcB hp)) (e := 0)) (i := i) (by rw [dvL_len]; exact h)
  have h2 := br_first hp
  refine ⟨h1.1, ?_⟩
  induction i with
  | zero =>
    have h3 := dv_at (e := 0) (zs := zs) (i := 0) h
    simp only [if_true] at h3
    have h4 : (Int.gcd 0 (zs[0]?.getD 0) : Int) = zs[0]?.getD 0 := by simp; omega
    show (dvL 0 zs)[0]?.getD 0 ≤ 64
    omega
  | succ i ih =>
    have h3 := dv_at (e := 0) (zs := zs) (i := i + 1) h
    rw [if_neg (by omega), Nat.add_sub_cancel] at h3
    have h5 := all_at (dvL_pos (dcB_range (brB_dcB hp)) (e := 0)) (i := i) (by rw [dvL_len]; omega)
    have h4 := gcd_le_left (e := (dvL 0 zs)[i]?.getD 0) (z := zs[i + 1]?.getD 0) h5.1
    have h6 := ih (by omega) h5
    show (dvL 0 zs)[i + 1]?.getD 0 ≤ 64
    rw [h3]
    have h7 : (dvL 0 zs)[i]?.getD 0 ≤ 64 := h6
    omega
theorem gnA_pos {zs : List Int} (hp : brB zs = true) {i : Nat} (h : i < zs.length) : 1 ≤ gnA zs i ∧ gnA zs i ≤ 128000 := all_at (gnB_all hp) (by rw [gnB_len]; exact h)
/-- The list of generators index by index, with what is known of divisor and shift. -/
theorem gn_state {zs : List Int} (hp : brB zs = true) : ∀ k, k ≤ zs.length → ∃ L e s, L.length = k ∧ gnB zs = L ++ gnL e s (zs.drop k) ∧ GSt (zs[0]?.getD 0) e s (if k = 0 then 0 else zs[k - 1]?.getD 0) ∧ e = (if k = 0 then zs[0]?.getD 0 else dvA zs (k - 1)) := by
  intro k
  induction k with
  | zero => intro _; exact ⟨[], zs[0]?.getD 0, 0, rfl, by simp [gnB], GSt.start (br_first hp).1 (br_first hp).2, rfl⟩
  | succ k ih =>
    intro hk
    obtain ⟨L, e, s, h1, h2, h3, h4⟩ := ih (by omega)
    have hz := dcB_range (brB_dcB hp) (zs[k]?.getD 0) (by simp [show k < zs.length by omega])
    have hzp : (if k = 0 then 0 else zs[k - 1]?.getD 0) ≤ zs[k]?.getD 0 := by
      by_cases h0 : k = 0
      · rw [if_pos h0]; omega
      · rw [if_neg h0]; have := br_next hp (show k < zs.length by omega) (by omega); omega
    have hgc : (Int.gcd e (zs[k]?.getD 0) : Int) = dvA zs k := by
      have h5 := dv_at (e := 0) (zs := zs) (i := k) (by omega)
      by_cases h0 : k = 0
      · subst h0
        simp only [if_true] at h5
        show _ = (dvL 0 zs)[0]?.getD 0
        rw [h5]
        have h6 : e = zs[0]?.getD 0 := by simpa using h4
        have h7 := (br_first hp).1
        rw [h6, Int.gcd_self, Int.gcd_zero_left]
      · rw [if_neg h0] at h5
        show _ = (dvL 0 zs)[k]?.getD 0
        rw [h5, h4, if_neg h0]
    refine ⟨L ++ [zs[k]?.getD 0 + s], _, _, by simp [h1], gn_step rfl (by omega) h2, by rw [if_neg (by omega), Nat.add_sub_cancel]; exact h3.step hzp hz.1, by rw [if_neg (by omega), Nat.add_sub_cancel]; exact hgc⟩
/-- The divisor of a divisor and the generator behind it is the next divisor. -/
theorem gn_gcd {zs : List Int} (hp : brB zs = true) {i : Nat} (h : i + 1 < zs.length) : (Int.gcd (dvA zs i) (gnA zs (i + 1)) : Int) = dvA zs (i + 1) := by
  obtain ⟨L, e, s, h1, h2, h3, h4⟩ := gn_state hp (i + 1) (by omega)
  rw [if_neg (by omega), Nat.add_sub_cancel] at h4
  have h5 : gnA zs (i + 1) = zs[i + 1]?.getD 0 + s := by
    show (gnB zs)[i + 1]?.getD 0 = _
    rw [h2, drop_at rfl h]
    simp [gnL, ← h1]
  have h6 := dv_at (e := 0) (zs := zs) (i := i + 1) h
  rw [if_neg (by omega), Nat.add_sub_cancel] at h6
  rw [h5, ← h4, gcd_shift h3.dv, h4]
  exact h6.symm
theorem dvA_dvd {zs : List Int} (hp : brB zs = true) {i : Nat} (h : i + 1 < zs.length) : dvA zs (i + 1) ∣ dvA zs i ∧ dvA zs (i + 1) ∣ gnA zs (i + 1) := by
  rw [← gn_gcd hp h]; exact ⟨Int.gcd_dvd_left _ _, Int.gcd_dvd_right _ _⟩
theorem dvA_last {zs : List Int} (hp : brB zs = true) : dvA zs (zs.length - 1) = 1 := by
  have hd := brB_dcB hp
  cases zs with
  | nil => cases hp
  | cons n r =>
    rw [dcB_split] at hd
    simp only [Bool.and_eq_true, decide_eq_true_eq] at hd
    have h1 := last_at (L := dvL 0 (n :: r)) rfl (by rw [dvL_len]; simp)
    rw [hd.2.2.2, dvL_len] at h1
    exact (Option.some.inj h1).symm
theorem dvA_first {zs : List Int} (hp : brB zs = true) : dvA zs 0 = zs[0]?.getD 0 := by
  have h1 := dv_at (e := 0) (zs := zs) (i := 0) (brB_pos hp)
  simp only [if_true, Int.gcd_zero_left] at h1
  have := (br_first hp).1
  show (dvL 0 zs)[0]?.getD 0 = _
  omega
/-- One level. -/
theorem rc_level {zs : List Int} (hp : brB zs = true) {i : Nat} (h : i + 1 < zs.length) {v : Int} (hd : dvA zs (i + 1) ∣ v) : rcA zs i v < 64 ∧ (rcA zs i v : Int) < dvA zs i ∧ dvA zs i ∣ v - (rcA zs i v : Int) * gnA zs (i + 1) := by
  have h1 := dvA_pos hp (i := i) (by omega)
  have h2 := gnA_pos hp (i := i + 1) h
  obtain ⟨c, hc, hce, hcd⟩ := rc_exists (e := dvA zs i) (g := gnA zs (i + 1)) (v := v) h1 (by omega) (by rw [gn_gcd hp h]; exact hd)
  have h3 := rcL_end hc hcd
  show rcL _ _ _ 64 < 64 ∧ _
  exact ⟨by omega, by show (rcL _ _ _ 64 : Int) < _; omega, h3.2⟩
/-- Bounds of what is left. -/
theorem rc_range {zs : List Int} (hp : brB zs = true) {i : Nat} (h : i + 1 < zs.length) {j : Nat} (hj : j ≤ 64) : 0 ≤ (j : Int) * gnA zs (i + 1) ∧ (j : Int) * gnA zs (i + 1) ≤ 8192000 := by
  have h2 := gnA_pos hp (i := i + 1) h
  have := mul_range (A := 64) (B := 128000) (a := (j : Int)) (b := gnA zs (i + 1)) (by omega) (by omega)
  omega
theorem rc_inner {e g v : Int} {j : Nat} {c f : Nat} (h : rcL e g v 64 = c) (hf : j + rcL e g (v - (j : Int) * g) f = c) (hjf : j + f = 64) (hc : c < 64) (h0 : ¬ (v - (j : Int) * g).tmod e = 0) :
    ∃ f', f = f' + 1 ∧ (j + 1) + rcL e g (v - ((j + 1 : Nat) : Int) * g) f' = c := by
  cases f with
  | zero => omega
  | succ f' =>
    refine ⟨f', rfl, ?_⟩
    rw [rcL_step h0] at hf
    have e1 : v - ((j + 1 : Nat) : Int) * g = v - (j : Int) * g - g := by push_cast; rw [Int.add_mul]; omega
    rw [e1]; omega
def semiB (v : Int) : Bool := decide (0 ≤ v ∧ v ≤ 20000)
def reB (zs : List Int) (v : Int) : Bool := decide (0 ≤ rpV zs (zs.length - 1) v)
def reA (zs : List Int) (v : Int) : List Int := if brB zs then (if semiB v then (if reB zs v then rpC zs (zs.length - 1) v else []) else []) else []
def reC (zs : List Int) (v : Int) : Int := if brB zs then (if semiB v then (if reB zs v then 0 else 4) else 2) else 1
theorem reA_len {zs : List Int} (v : Int) (h : zs.length ≤ 1048576) : (reA zs v).length ≤ 1099511627776 := by
  unfold reA
  split
  · split
    · split
      · rw [rpC_len]; omega
      · simp
    · simp
  · simp
theorem re_no {zs : List Int} {v : Int} (h : brB zs = false) : reA zs v = [] ∧ reC zs v = 1 := by simp [reA, reC, h]
theorem re_out {zs : List Int} {v : Int} (h : brB zs = true) (h2 : semiB v = false) : reA zs v = [] ∧ reC zs v = 2 := by simp [reA, reC, h, h2]
theorem re_none {zs : List Int} {v : Int} (h : brB zs = true) (h2 : semiB v = true) (h3 : reB zs v = false) : reA zs v = [] ∧ reC zs v = 4 := by simp [reA, reC, h, h2, h3]
theorem re_yes {zs : List Int} {v : Int} (h : brB zs = true) (h2 : semiB v = true) (h3 : reB zs v = true) : reA zs v = rpC zs (zs.length - 1) v ∧ reC zs v = 0 := by simp [reA, reC, h, h2, h3]
theorem semiB_yes {v : Int} (h : semiB v = true) : 0 ≤ v ∧ v ≤ 20000 := by simpa [semiB] using h
theorem semiB_no {v : Int} (h : semiB v = false) : ¬ (0 ≤ v ∧ v ≤ 20000) := by simpa only [semiB, decide_eq_false_iff_not] using h
theorem rpC_step (zs : List Int) (i : Nat) (v : Int) : rpC zs (i + 1) v = rpC zs i (v - (rcA zs i v : Int) * gnA zs (i + 1)) ++ [(rcA zs i v : Int)] := rfl
theorem rpV_step (zs : List Int) (i : Nat) (v : Int) : rpV zs (i + 1) v = rpV zs i (v - (rcA zs i v : Int) * gnA zs (i + 1)) := rfl
end Go.Proofs.Ytncgkoanckefmaa
