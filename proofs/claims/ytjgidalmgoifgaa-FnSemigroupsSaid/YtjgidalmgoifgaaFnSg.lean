/- Generators and branches turn into each other; what laws.FnSemigroups asks of a branch: arithmetic. Conditions: stated at each theorem. -/
import Derived.Test.YtjgidalmgoifgaaZH
import Derived.Test.YtjgidalmgoifgaaFnSm
namespace Go.Proofs.Ytjgidalmgoifgaa
set_option linter.unusedVariables false
set_option linter.unusedSimpArgs false

theorem des_pow : ∀ {r : List Int} {e : Int}, 1 ≤ e → desB e r = true → (2 : Int) ^ r.length ≤ e
  | [], e, h1, h => by simpa using h1
  | z :: r, e, h1, h => by
    simp only [desB, Bool.and_eq_true, decide_eq_true_eq] at h
    have hg := gcd_le_left (e := e) (z := z) h1
    have hd1 : (Int.gcd e z : Int) ∣ e := Int.gcd_dvd_left _ _
    have hm := tdiv_mul_of_dvd hd1
    have ih := des_pow hg.1 h.2
    have hne := h.1
    generalize (Int.gcd e z : Int) = g at *
    generalize e.tdiv g = q at *
    have hq : 2 ≤ q := by
      by_cases h : 2 ≤ q
      · exact h
      · by_cases h1 : q = 1
        · subst h1; omega
        · have h2 : q * g ≤ 0 * g := Int.mul_le_mul_of_nonneg_right (by omega) (by omega)
          omega
    have h3 : 2 * g ≤ q * g := Int.mul_le_mul_of_nonneg_right hq (by omega)
    rw [List.length_cons, Int.pow_succ]
    omega
theorem br_seven {zs : List Int} (h : brB zs = true) : zs.length ≤ 7 := by
  cases zs with
  | nil => cases h
  | cons n r =>
    simp only [brB, Bool.and_eq_true] at h
    have hn := mulB_true.1 h.1
    have h2 := h.2
    rw [isB_split] at h2
    simp only [Bool.and_eq_true] at h2
    have h3 := des_pow hn.1 h2.2
    rcases Nat.lt_or_ge r.length 7 with h4 | h4
    · simp; omega
    · have h5 : (2 : Int) ^ 7 ≤ (2 : Int) ^ r.length := by
        have := Nat.pow_le_pow_right (show 0 < 2 by omega) h4
        exact_mod_cast this
      omega
theorem tg_gn : ∀ {zs : List Int} {e s : Int}, e ∣ s → tgL e s (gnL e s zs) = zs
  | [], _, _, _ => rfl
  | z :: r, e, s, h => by
    have hd1 : (Int.gcd e z : Int) ∣ e := Int.gcd_dvd_left _ _
    have hd2 : (Int.gcd e z : Int) ∣ z := Int.gcd_dvd_right _ _
    rw [gnL, tgL, gcd_shift h, Int.add_sub_cancel]
    rw [tg_gn (Int.dvd_sub (Int.dvd_trans (Int.dvd_add hd2 (Int.dvd_trans hd1 h)) (Int.dvd_mul_left _ _)) hd2)]
theorem gn_tg : ∀ {vs : List Int} {e s : Int}, e ∣ s → gnL e s (tgL e s vs) = vs
  | [], _, _, _ => rfl
  | v :: r, e, s, h => by
    have hd1 : (Int.gcd e v : Int) ∣ e := Int.gcd_dvd_left _ _
    have hd2 : (Int.gcd e v : Int) ∣ v := Int.gcd_dvd_right _ _
    have hg : (Int.gcd e (v - s) : Int) = (Int.gcd e v : Int) := by
      have := gcd_shift (z := v - s) h
      rw [Int.sub_add_cancel] at this
      exact this.symm
    rw [tgL, gnL, hg, Int.sub_add_cancel]
    rw [gn_tg (Int.dvd_sub (Int.dvd_trans hd2 (Int.dvd_mul_left _ _)) (Int.dvd_sub hd2 (Int.dvd_trans hd1 h)))]
theorem tgB_gnB (zs : List Int) : tgB (gnB zs) = zs := by
  have e : (gnB zs)[0]?.getD 0 = zs[0]?.getD 0 := by
    cases zs with
    | nil => rfl
    | cons z r => simp [gnB, gnL]
  show tgL ((gnB zs)[0]?.getD 0) 0 (gnB zs) = zs
  rw [e]
  exact tg_gn ⟨0, by simp⟩
theorem gnB_tgB (vs : List Int) : gnB (tgB vs) = vs := by
  have e : (tgB vs)[0]?.getD 0 = vs[0]?.getD 0 := by
    cases vs with
    | nil => rfl
    | cons z r => simp [tgB, tgL]
  show gnL ((tgB vs)[0]?.getD 0) 0 (tgB vs) = vs
  rw [e]
  exact gn_tg ⟨0, by simp⟩
theorem agL_of : ∀ {zs : List Int}, (∀ z ∈ zs, 1 ≤ z ∧ z ≤ 1000000) → agL zs = true
  | [], _ => rfl
  | z :: r, h => by
    rw [agL, agL_of (zs := r) (fun x hx => h x (List.mem_cons_of_mem _ hx)), Bool.and_true]
    exact decide_eq_true (h z (by simp))
/-- The codes of a list of gaps. -/
theorem gp_cases (L : List Int) : (brB L = false ∧ gpC L = 1) ∨ ((brB L = true ∧ ¬ cdB L ≤ 20000) ∧ gpC L = 3) ∨ ((brB L = true ∧ cdB L ≤ 20000) ∧ gpC L = 0) := by
  unfold gpC
  cases brB L
  · simp
  · by_cases h : cdB L ≤ 20000 <;> simp [h]
/-- What the law asks of a branch. -/
structure GapOK (L : List Int) : Prop where
  g : goC L = 0
  gl : (goA L).length ≤ 8
  gw : ∀ z ∈ goA L, (Lit.int .i64 z).wf = true
  ba : bgA (goA L) = L
  bc : bgC (goA L) = 0
  mu : mA L = coA L
  m : sqC L = 0
  c0 : 0 ≤ coA L ∧ coA L ≤ 1099511627776
theorem GapOK.make {L : List Int} (hp : brB L = true) : GapOK L := by
  have e : goA L = gnB L := by unfold goA; rw [if_pos hp]
  have h7 := br_seven hp
  have h0 := brB_pos hp
  have ha := gnB_all hp
  have ho : ogB (gnB L) = true := by
    unfold ogB
    rw [gnB_len, decide_eq_true (by omega), agL_of (fun z hz => by have := ha z hz; omega)]
    rfl
  have hc := cdS_bound hp (k := L.length - 1) (by omega)
  have hc0 := cdB_nonneg hp
  have ec : coA L = cdB L := by unfold coA; rw [if_pos hp]
  refine ⟨by unfold goC; rw [if_pos hp], by rw [e, gnB_len]; omega, fun z hz => ?_, ?_, ?_, (co_mu hp).symm, by unfold sqC; rw [if_pos hp], ?_⟩
  · rw [e] at hz
    have := ha z hz
    exact i64_wf (by omega) (by omega)
  · rw [e]; unfold bgA; rw [if_pos ho, tgB_gnB, if_pos hp]
  · rw [e]; unfold bgC; rw [if_pos ho, tgB_gnB, if_pos hp]
  · rw [ec]
    refine ⟨hc0, ?_⟩
    have : cdB L = cdS L (L.length - 1) := rfl
    omega
/-- The gaps of a branch whose conductor is in the limit. -/
structure GapsOK (L : List Int) : Prop where
  half : 2 * (((gpA L).length : Nat) : Int) = coA L
  c : coA L ≤ 20000
  at' : ∀ v, 0 ≤ v → v < coA L → (ivA L v = reB L v ∧ ivC L v = 0) ∧ (ivA L (coA L - 1 - v) = !(reB L v) ∧ ivC L (coA L - 1 - v) = 0) ∧ decide (v ∈ gpA L) = !(reB L v)
theorem GapsOK.make {L : List Int} (hp : brB L = true) (hc : cdB L ≤ 20000) : GapsOK L := by
  have e : gpA L = vlL L false (cdB L).toNat := by unfold gpA; rw [if_pos hp, if_pos hc]
  have ec : coA L = cdB L := by unfold coA; rw [if_pos hp]
  rw [show GapsOK L ↔ GapsOK L from Iff.rfl]
  have iv : ∀ v, 0 ≤ v → v ≤ 20000 → ivA L v = reB L v ∧ ivC L v = 0 := fun v h1 h2 => by
    have hs : semiB v = true := decide_eq_true ⟨h1, h2⟩
    unfold ivA ivC
    rw [if_pos hp, if_pos hp, if_pos hs, if_pos hs]
    exact ⟨rfl, rfl⟩
  refine ⟨by rw [e, ec]; exact gp_half hp, by rw [ec]; exact hc, fun v h1 h2 => ?_⟩
  rw [ec] at h2 ⊢
  refine ⟨iv v h1 (by omega), ?_, ?_⟩
  · have h3 := iv (cdB L - 1 - v) (by omega) (by omega)
    rw [reB_mirror hp] at h3
    exact h3
  · rw [e]
    have h3 := vl_mem L false (cdB L).toNat v.toNat
    rw [show ((v.toNat : Nat) : Int) = v by omega] at h3
    cases hr : reB L v
    · exact decide_eq_true (by rw [h3, hr]; exact ⟨by omega, rfl⟩)
    · exact decide_eq_false (by rw [h3, hr]; simp)
/-- The generators of a branch that has just been found are the list again. -/
theorem bg_back {vs : List Int} (h : bgC vs = 0) : goA (bgA vs) = vs ∧ goC (bgA vs) = 0 ∧ (bgA vs).length ≤ 8 ∧ ∀ z ∈ bgA vs, (Lit.int .i64 z).wf = true := by
  unfold bgC at h
  split at h
  · rename_i h1
    split at h
    · rename_i h2
      have e : bgA vs = tgB vs := by unfold bgA; rw [if_pos h1, if_pos h2]
      rw [e]
      have h7 := br_seven h2
      refine ⟨by unfold goA; rw [if_pos h2, gnB_tgB], by unfold goC; rw [if_pos h2], by omega, fun z hz => ?_⟩
      have := dcB_range (brB_dcB h2) z hz
      exact i64_wf (by omega) (by omega)
    · omega
  · omega
end Go.Proofs.Ytjgidalmgoifgaa
