/- The conductor is the Milnor number, gaps and values mirror each other, generators and branches turn into each other: arithmetic. Conditions: stated at each theorem. -/
import Derived.Test.YtjgidalmgoifgaaZG
import Derived.Test.YtjgidalmgoifgaaZD
import Derived.Test.YtjgidalmgoifgaaFnRm
namespace Go.Proofs.Ytjgidalmgoifgaa
set_option linter.unusedVariables false
set_option linter.unusedSimpArgs false

/-- Twice the delta of Euclid's steps. -/
theorem even_half (q r : Int) : 2 * (q * (r * (r - 1) / 2)) = q * (r * (r - 1)) := by
  have h : r * (r - 1) % 2 = 0 := by
    rcases Int.emod_two_eq r with h | h
    · rw [Int.mul_emod, h]; simp
    · rw [Int.mul_emod, show (r - 1) % 2 = 0 by omega]; simp
  have h2 : 2 * (r * (r - 1) / 2) = r * (r - 1) := by omega
  rw [← Int.mul_assoc, Int.mul_comm 2 q, Int.mul_assoc, h2]
theorem delL_cons (p : Int × Int) (L : List (Int × Int)) : 2 * delL (p :: L) = p.1 * (p.2 * (p.2 - 1)) + 2 * delL L := by
  have e : delL (p :: L) = p.1 * (p.2 * (p.2 - 1) / 2) + delL L := by simp [delL]
  rw [e, Int.mul_add, even_half]
theorem delL_append (L M : List (Int × Int)) : delL (L ++ M) = delL L + delL M := by simp [delL]
theorem stL_delta : ∀ (f : Nat) (a b : Int), 0 ≤ a → 1 ≤ b → b < f → 2 * delL (stL f a b) = a * b - a - b + (Int.gcd a b : Int)
  | 0, a, b, ha, hb, hf => by omega
  | f + 1, a, b, ha, hb, hf => by
    unfold stL
    rw [if_neg (by omega), delL_cons]
    show a / b * (b * (b - 1)) + 2 * delL (stL f b (a % b)) = _
    have hm := Int.emod_add_mul_ediv a b
    have hm0 := Int.emod_nonneg a (show b ≠ 0 by omega)
    have hm1 := Int.emod_lt_of_pos a (show 0 < b by omega)
    have hg : (Int.gcd a b : Int) = (Int.gcd b (a % b) : Int) := by
      conv => lhs; rw [← hm, Int.gcd_comm, Int.gcd_add_mul_left_right]
    have hq : a / b * (b * (b - 1)) = a * b - a - (a % b) * b + a % b := by
      have e1 : a / b * (b * (b - 1)) = b * (a / b) * b - b * (a / b) := by
        rw [← Int.mul_assoc, Int.mul_sub, Int.mul_one, Int.mul_comm (a / b) b]
      have e2 : b * (a / b) = a - a % b := by omega
      rw [e1, e2, Int.sub_mul]; omega
    by_cases hz : a % b = 0
    · rw [hz] at hg hq ⊢
      have e : stL f b 0 = [] := by cases f <;> simp [stL]
      rw [e, hq]
      have e0 : delL [] = 0 := rfl
      have h1 : (Int.gcd a b : Int) = b := by rw [hg, Int.gcd_zero_right]; omega
      rw [e0, h1]; omega
    · rw [stL_delta f b (a % b) (by omega) (by omega) (by omega), hq, hg, Int.mul_comm b (a % b)]
      omega
theorem steps_delta {a b : Int} (ha : 0 ≤ a) (hb : 1 ≤ b) : 2 * delL (steps a b) = a * b - a - b + (Int.gcd a b : Int) := stL_delta _ a b ha hb (by omega)
/-- The sum of the generators behind n, each as often as the conductor has it. -/
def cC (e s : Int) : List Int → Int
  | [] => 0
  | z :: r => (e.tdiv (Int.gcd e z : Int) - 1) * (z + s) + cC (Int.gcd e z : Int) (e.tdiv (Int.gcd e z : Int) * (z + s) - z) r
theorem cC_delta : ∀ {zs : List Int} {p e s : Int}, 1 ≤ e → e ∣ p → 0 ≤ p → ascB p zs = true → (e :: dvL e zs).getLast? = some 1 →
    2 * delL (rnL p e zs) = cC e s zs + s - e * (s + p) + p - e + 1
  | [], p, e, s, h1, h2, h3, h4, h5 => by
    have e1 : e = 1 := by simpa [dvL] using h5
    have e0 : delL (rnL p e []) = 0 := rfl
    rw [e0, e1]; simp [cC]; omega
  | z :: r, p, e, s, h1, h2, h3, h4, h5 => by
    simp only [ascB, Bool.and_eq_true, decide_eq_true_eq] at h4
    have hg := gcd_le_left (e := e) (z := z) h1
    have hd1 : (Int.gcd e z : Int) ∣ e := Int.gcd_dvd_left _ _
    have hd2 : (Int.gcd e z : Int) ∣ z := Int.gcd_dvd_right _ _
    have hm := tdiv_mul_of_dvd hd1
    have ih := cC_delta (zs := r) (p := z) (e := (Int.gcd e z : Int)) (s := e.tdiv (Int.gcd e z : Int) * (z + s) - z) hg.1 hd2 (by omega) h4.2 (by rw [dvL, List.getLast?_cons_cons] at h5; exact h5)
    have e1 : rnL p e (z :: r) = steps (z - p) e ++ rnL z (Int.gcd e z : Int) r := rfl
    have e2 : (Int.gcd (z - p) e : Int) = (Int.gcd e z : Int) := by
      obtain ⟨k, rfl⟩ := h2
      rw [Int.gcd_comm]
      have := Int.gcd_sub_mul_left_right e z k
      rw [this]
    rw [e1, delL_append, Int.mul_add, steps_delta (by omega) h1, ih, e2, cC]
    generalize (Int.gcd e z : Int) = g at *
    generalize e.tdiv g = q at *
    have h6 : g * (q * (z + s) - z + z) = e * (z + s) := by rw [Int.sub_add_cancel, ← Int.mul_assoc, Int.mul_comm g q, hm]
    rw [h6]
    generalize cC g (q * (z + s) - z) r = C
    have h7 : (q - 1) * (z + s) = q * (z + s) - z - s := by rw [Int.sub_mul]; omega
    rw [h7]
    generalize q * (z + s) = Q
    have h8 : (z - p) * e = e * z - e * p := by rw [Int.sub_mul, Int.mul_comm z, Int.mul_comm p]
    rw [h8, Int.mul_add, Int.mul_add]
    omega
/-- The same sum, its first k terms. -/
def cT (e s : Int) : List Int → Nat → Int
  | [], _ => 0
  | _ :: _, 0 => 0
  | z :: r, k + 1 => (e.tdiv (Int.gcd e z : Int) - 1) * (z + s) + cT (Int.gcd e z : Int) (e.tdiv (Int.gcd e z : Int) * (z + s) - z) r k
theorem cT_zero (e s : Int) (r : List Int) : cT e s r 0 = 0 := by cases r <;> rfl
theorem cT_all : ∀ (r : List Int) (e s : Int), cT e s r r.length = cC e s r
  | [], _, _ => rfl
  | z :: r, e, s => by rw [List.length_cons, cT, cC, cT_all r]
theorem cT_step : ∀ (r : List Int) (e s : Int) (k : Nat), k < r.length → cT e s r (k + 1) = cT e s r k + (((e :: dvL e r)[k]?.getD 0).tdiv ((dvL e r)[k]?.getD 0) - 1) * ((gnL e s r)[k]?.getD 0)
  | [], _, _, k, h => by simp at h
  | z :: r, e, s, 0, h => by
    rw [cT_zero]
    show (e.tdiv (Int.gcd e z : Int) - 1) * (z + s) + cT (Int.gcd e z : Int) (e.tdiv (Int.gcd e z : Int) * (z + s) - z) r 0 = _
    rw [cT_zero]
    simp [dvL, gnL]
  | z :: r, e, s, k + 1, h => by
    rw [cT, cT, cT_step r _ _ k (by simpa using h)]
    simp only [dvL, gnL, List.getElem?_cons_succ]
    omega
theorem dv_first (n : Int) (r : List Int) (hn : 1 ≤ n) : dvL 0 (n :: r) = n :: dvL n r := by
  have : (Int.gcd 0 n : Int) = n := by rw [Int.gcd_zero_left]; omega
  show (Int.gcd 0 n : Int) :: dvL (Int.gcd 0 n : Int) r = _
  rw [this]
theorem gnB_first (n : Int) (r : List Int) (hn : 1 ≤ n) : gnB (n :: r) = n :: gnL n 0 r := by
  have h : (Int.gcd n n : Int) = n := by rw [Int.gcd_self]; omega
  have h2 : n.tdiv n = 1 := Int.tdiv_self (by omega)
  show (n + 0) :: gnL (Int.gcd n n : Int) (n.tdiv (Int.gcd n n : Int) * (n + 0) - n) r = _
  rw [h, h2]
  simp
theorem cdS_cT {n : Int} {r : List Int} (hn : 1 ≤ n) : ∀ k, k ≤ r.length → cdS (n :: r) k = 1 - n + cT n 0 r k
  | 0, _ => by rw [cT_zero]; simp [cdS]
  | k + 1, h => by
    rw [cdS_step, cdS_cT hn k (by omega), cT_step r n 0 k (by omega), dv_first n r hn, gnB_first n r hn]
    simp only [List.getElem?_cons_succ]
    omega
/-- The conductor is the Milnor number. -/
theorem cd_delta {zs : List Int} (hp : brB zs = true) : cdB zs = 2 * delL (rsI zs) := by
  rw [del_eq hp]
  have hd := brB_dcB hp
  obtain ⟨n, r, rfl, hn, ha, hl⟩ := br_cons hp
  rw [dcB_split] at hd
  simp only [Bool.and_eq_true, decide_eq_true_eq] at hd
  have h1 := hd.2.2.2
  rw [dv_first n r hn.1] at h1
  have h2 := cC_delta (zs := r) (p := 0) (e := n) (s := 0) hn.1 ⟨0, by simp⟩ (by omega) ha h1
  show cdS (n :: r) ((n :: r).length - 1) = 2 * delL (rnL 0 n r)
  rw [h2, List.length_cons, Nat.add_sub_cancel, cdS_cT hn.1 _ (Nat.le_refl _), cT_all]
  simp
  omega
theorem co_mu {zs : List Int} (hp : brB zs = true) : coA zs = mA zs := by
  unfold coA mA dA
  rw [if_pos hp, if_pos hp, cd_delta hp]
/-- v is a value just if the conductor less 1 less v is a gap. -/
theorem cd_dvd {zs : List Int} (hp : brB zs = true) : ∀ {i : Nat}, i < zs.length → dvA zs i ∣ cdS zs i - 1
  | 0, h => by
    rw [dvA_first hp]
    show _ ∣ 1 - zs[0]?.getD 0 - 1
    exact ⟨-1, by omega⟩
  | i + 1, h => by
    have ih := cd_dvd hp (i := i) (by omega)
    obtain ⟨h1, h2⟩ := dvA_dvd hp h
    rw [cdS_step]
    have e : cdS zs i + (((dvL 0 zs)[i]?.getD 0).tdiv ((dvL 0 zs)[i + 1]?.getD 0) - 1) * ((gnB zs)[i + 1]?.getD 0) - 1 = (cdS zs i - 1) + (nnA zs i - 1) * gnA zs (i + 1) := by
      show cdS zs i + (nnA zs i - 1) * gnA zs (i + 1) - 1 = _; omega
    rw [e]
    exact Int.dvd_add (Int.dvd_trans h1 ih) (Int.dvd_trans h2 (Int.dvd_mul_left _ _))
theorem rp_mirror {zs : List Int} (hp : brB zs = true) : ∀ {i : Nat} {v : Int}, i < zs.length → dvA zs i ∣ v → rpV zs i (cdS zs i - 1 - v) = - dvA zs 0 - rpV zs i v
  | 0, v, h, hd => by
    rw [dvA_first hp]
    show 1 - zs[0]?.getD 0 - 1 - v = - zs[0]?.getD 0 - v
    omega
  | i + 1, v, h, hd => by
    have hl := rc_level hp h hd
    have hlt := rcA_lt hp h hd
    have hn := nnA_pos hp h
    have hc := cd_dvd hp (i := i) (by omega)
    have e : cdS zs (i + 1) - 1 - v = cdS zs i + (nnA zs i - 1) * gnA zs (i + 1) - 1 - v := rfl
    obtain ⟨c, hcc⟩ : ∃ c : Nat, (c : Int) = nnA zs i - 1 - rcA zs i v := ⟨(nnA zs i - 1 - rcA zs i v).toNat, by omega⟩
    have e2 : cdS zs (i + 1) - 1 - v - (c : Int) * gnA zs (i + 1) = cdS zs i - 1 - (v - (rcA zs i v : Int) * gnA zs (i + 1)) := by
      rw [e, hcc, Int.sub_mul (nnA zs i - 1)]; omega
    have h1 : rcA zs i (cdS zs (i + 1) - 1 - v) = c := rcA_is hp h (by omega) (by rw [e2]; exact Int.dvd_sub hc hl.2.2)
    rw [rpV_step, rpV_step, h1, e2]
    exact rp_mirror hp (by omega) hl.2.2
theorem reB_mirror {zs : List Int} (hp : brB zs = true) (v : Int) : reB zs (cdB zs - 1 - v) = !(reB zs v) := by
  have h0 := brB_pos hp
  have hd := dv_last_dvd hp v
  have h1 := rp_mirror hp (i := zs.length - 1) (v := v) (by omega) hd
  have h2 := rpV_dvd hp (i := zs.length - 1) (v := v) (by omega) hd
  have hz := (dvA_pos hp (i := 0) h0).1
  unfold reB
  rw [show cdB zs - 1 - v = cdS zs (zs.length - 1) - 1 - v from rfl, h1]
  obtain ⟨k, hk⟩ := h2
  rw [hk]
  by_cases hk0 : 0 ≤ k
  · have h3 : 0 ≤ dvA zs 0 * k := Int.mul_nonneg (by omega) hk0
    rw [decide_eq_false (by omega), decide_eq_true h3]; rfl
  · have h3 : dvA zs 0 * k ≤ dvA zs 0 * -1 := Int.mul_le_mul_of_nonneg_left (by omega) (by omega)
    rw [decide_eq_true (by omega), decide_eq_false (by omega)]; rfl
/-- Values and gaps below the conductor are equally many. -/
theorem vl_count (zs : List Int) (b : Bool) : ∀ k, (vlL zs b k).length = ((List.range k).filter fun (j : Nat) => decide (reB zs (j : Int) = b)).length
  | 0 => rfl
  | k + 1 => by
    rw [List.range_succ, List.filter_append, List.length_append, ← vl_count zs b k]
    by_cases h : reB zs (k : Int) = b
    · rw [vlL_yes h]; simp [h]
    · rw [vlL_no h]; simp [h]
theorem vl_both (zs : List Int) : ∀ k, (vlL zs false k).length + (vlL zs true k).length = k
  | 0 => rfl
  | k + 1 => by
    have ih := vl_both zs k
    cases h : reB zs (k : Int)
    · rw [vlL_yes h, vlL_no (b := true) (by simp [h])]; simp; omega
    · rw [vlL_yes h, vlL_no (b := false) (by simp [h])]; simp; omega
theorem range_mirror (p : Nat → Bool) (k : Nat) : ((List.range k).filter p).length = ((List.range k).filter fun j => p (k - 1 - j)).length := by
  have h1 : (List.range k).reverse = (List.range k).map fun j => k - 1 - j := by
    apply List.ext_getElem
    · simp
    · intro i h1 h2
      simp at h1 h2 ⊢
  have h2 : ((List.range k).filter p).length = ((List.range k).reverse.filter p).length := by
    rw [List.filter_reverse, List.length_reverse]
  rw [h2, h1, List.filter_map, List.length_map]
  rfl
theorem gp_half {zs : List Int} (hp : brB zs = true) : 2 * (((vlL zs false (cdB zs).toNat).length : Nat) : Int) = cdB zs := by
  have h0 := cdB_nonneg hp
  obtain ⟨k, hk⟩ : ∃ k : Nat, (cdB zs).toNat = k := ⟨_, rfl⟩
  rw [hk]
  have h1 := vl_both zs k
  have h2 : (vlL zs false k).length = (vlL zs true k).length := by
    rw [vl_count, vl_count, range_mirror]
    congr 1
    refine List.filter_congr fun j hj => ?_
    rw [List.mem_range] at hj
    have h3 := reB_mirror hp (j : Int)
    rw [show ((k - 1 - j : Nat) : Int) = cdB zs - 1 - (j : Int) by omega, h3]
    cases reB zs (j : Int) <;> simp
  omega
end Go.Proofs.Ytjgidalmgoifgaa
