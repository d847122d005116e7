/- What laws.FnSequences meets: facts of sequences at their codes. Conditions: stated at each theorem. -/
import Derived.Test.YtjgidalmgoifgaaFnQm
import Derived.Test.YtjgidalmgoifgaaZE
namespace Go.Proofs.Ytjgidalmgoifgaa
set_option linter.unusedVariables false
set_option linter.unusedSimpArgs false

/-- The sum of k numbers behind place a. -/
def psum (s : List Int) (a : Nat) : Nat → Int
  | 0 => 0
  | k + 1 => psum s a k + s[a + k]?.getD 0
theorem psum_take (s : List Int) (a : Nat) : ∀ k, ((s.drop a).take k).sum = psum s a k
  | 0 => by simp [psum]
  | k + 1 => by
    rw [List.take_add_one, List.sum_append, psum_take s a k, psum, List.getElem?_drop]
    congr 1
    cases s[a + k]? <;> simp
theorem psum_lt {s : List Int} {a : Nat} (hs : ∀ i, i < s.length → 1 ≤ s[i]?.getD 0) : ∀ {k t : Nat}, t < k → a + k ≤ s.length → psum s a t < psum s a k
  | 0, t, h, _ => by omega
  | k + 1, t, h, hk => by
    have h1 := hs (a + k) (by omega)
    rw [psum]
    by_cases e : t = k
    · subst e; omega
    · have := psum_lt (a := a) hs (k := k) (t := t) (by omega) (by omega)
      omega
theorem px_at : ∀ {s : List Int} {i : Nat}, PX s → i < s.length → 1 < s[i]?.getD 0 → ∃ k, i + 1 + k ≤ s.length ∧ psum s (i + 1) k = s[i]?.getD 0
  | [], i, _, h, _ => by simp at h
  | x :: r, 0, hp, _, h => by
    obtain ⟨k, hk, e⟩ := hp.1 (by simpa using h)
    refine ⟨k, by simp; omega, ?_⟩
    rw [← psum_take]
    simpa using e
  | x :: r, i + 1, hp, hi, h => by
    obtain ⟨k, hk, e⟩ := px_at (s := r) (i := i) hp.2 (by simpa using hi) (by simpa using h)
    refine ⟨k, by simp; omega, ?_⟩
    rw [← psum_take, List.drop_succ_cons, psum_take]
    simpa using e
/-- What the law asks of a long sequence. -/
structure LqOK (L : List Int) (x : Int) (N M : Nat) : Prop where
  len : (lqA L x).length = N
  slen : (seqL L).length = M
  sum : (N : Int) = (M : Int) + x
  x0 : 0 ≤ x
  n1 : 1 ≤ M
  n400 : N ≤ 400
  ba : bsA (lqA L x) = L
  bc : bsC (lqA L x) = 0
  iq : isqB (lqA L x) = true
  a0 : lqA L 0 = seqL L
  c0 : lqC L 0 = 0
  cb : cbA L = (M : Int)
  sq : sqC L = 0
  take : (lqA L x).take M = seqL L
  wf : ∀ z ∈ lqA L x, (Lit.int .i64 z).wf = true
  range : ∀ i, i < N → 1 ≤ (lqA L x)[i]?.getD 0 ∧ (lqA L x)[i]?.getD 0 ≤ 64
  ones : ∀ i, M ≤ i → i < N → (lqA L x)[i]?.getD 0 = 1
  px : ∀ i, i < N → 1 < (lqA L x)[i]?.getD 0 → ∃ k, i + 1 + k ≤ N ∧ psum (lqA L x) (i + 1) k = (lqA L x)[i]?.getD 0
theorem lq_parts {L : List Int} {x : Int} (h : lqC L x = 0) : brB L = true ∧ (0 ≤ x ∧ x ≤ 400) ∧ cntL (rsI L) + x ≤ 400 := by
  unfold lqC at h
  split at h
  · rename_i hp
    split at h
    · rename_i hx
      split at h
      · omega
      · exact ⟨hp, hx, by omega⟩
    · omega
  · omega
theorem seq_all {L : List Int} (hp : brB L = true) (m : Nat) : ∀ z ∈ seqL L ++ List.replicate m 1, 1 ≤ z ∧ z ≤ 64 := fun z hz => by
  rcases List.mem_append.1 hz with hz | hz
  · obtain ⟨p, hp1, hp2⟩ := List.mem_flatMap.1 hz
    have h5 := (rsI_ok hp).1 p hp1
    have h6 := (List.mem_replicate.1 hp2).2
    subst h6
    exact h5.2
  · rw [(List.mem_replicate.1 hz).2]; omega
theorem sql_of {R : List Int} (h1 : 1 ≤ R.length ∧ R.length ≤ 400) (h2 : ∀ z ∈ R, 1 ≤ z ∧ z ≤ 64) : sqlB R = true := by
  simp only [sqlB, Bool.and_eq_true, decide_eq_true_eq, List.all_eq_true]
  exact ⟨h1, fun z hz => mulB_true.2 (h2 z hz)⟩
theorem LqOK.make {L : List Int} {x : Int} (h : lqC L x = 0) : LqOK L x (lqA L x).length (seqL L).length := by
  obtain ⟨hp, hx, hc⟩ := lq_parts h
  have e : lqA L x = seqL L ++ List.replicate x.toNat 1 := by unfold lqA; rw [if_pos h]
  have hs := (seq_len hp).1
  have h1 : 1 ≤ (seqL L).length := by
    have h3 := hs
    rw [cnt_eq hp] at h3
    omega
  have hl : (lqA L x).length = (seqL L).length + x.toNat := by rw [e]; simp
  have ha := seq_all hp x.toNat
  rw [← e] at ha
  have hn : (lqA L x).length ≤ 400 := lqA_len L x
  have hsq : sqlB (lqA L x) = true := sql_of (by omega) ha
  obtain ⟨hb, ht⟩ := bs_back hp x.toNat
  rw [← e] at hb ht
  have hy := bs_yes hsq hb
  have c0 : lqC L 0 = 0 := (lq_yes hp (by omega) (by omega)).1
  have hr : ∀ i, i < (lqA L x).length → 1 ≤ (lqA L x)[i]?.getD 0 ∧ (lqA L x)[i]?.getD 0 ≤ 64 := fun i hi => ha _ (by simp [hi])
  refine ⟨rfl, rfl, by rw [hl]; push_cast; omega, hx.1, h1, hn, by rw [hy.1, ht], hy.2, by unfold isqB; rw [hsq, hb]; rfl, ?_, c0, ?_, by unfold sqC; rw [if_pos hp], ?_, ?_, hr, ?_, ?_⟩
  · unfold lqA; rw [if_pos c0]; simp
  · unfold cbA; rw [if_pos hp, hs]
  · rw [e, List.take_append_of_le_length (Nat.le_refl _), List.take_of_length_le (Nat.le_refl _)]
  · intro z hz
    have := ha z hz
    exact i64_wf (by omega) (by omega)
  · intro i h2 h3
    rw [e, List.getElem?_append_right h2, List.getElem?_replicate]
    rw [hl] at h3
    rw [if_pos (by omega)]; rfl
  · intro i h2 h3
    have hpx := px_seq hp x.toNat
    rw [← e] at hpx
    exact px_at hpx h2 h3
theorem des_powQ : ∀ {r : List Int} {e : Int}, 1 ≤ e → desB e r = true → (2 : Int) ^ r.length ≤ e
  | [], e, h1, h => by simpa using h1
  | z :: r, e, h1, h => by
    simp only [desB, Bool.and_eq_true, decide_eq_true_eq] at h
    have hg := gcd_le_left (e := e) (z := z) h1
    have hd1 : (Int.gcd e z : Int) ∣ e := Int.gcd_dvd_left _ _
    have hm : e.tdiv (Int.gcd e z : Int) * (Int.gcd e z : Int) = e := Int.tdiv_mul_cancel hd1
    have ih := des_powQ hg.1 h.2
    have hne := h.1
    generalize (Int.gcd e z : Int) = g at *
    generalize e.tdiv g = q at *
    have hq : 2 ≤ q := by
      by_cases h : 2 ≤ q
      · exact h
      · by_cases h1 : q = 1
        · subst h1; omega
        · have h2 : q * g ≤ 0 * g := Int.mul_le_mul_of_nonneg_right (by omega) (by omega)
          omega
    have h3 : 2 * g ≤ q * g := Int.mul_le_mul_of_nonneg_right hq (by omega)
    rw [List.length_cons, Int.pow_succ]
    omega
theorem br_sevenQ {zs : List Int} (h : brB zs = true) : zs.length ≤ 7 := by
  cases zs with
  | nil => cases h
  | cons n r =>
    simp only [brB, Bool.and_eq_true] at h
    have hn := mulB_true.1 h.1
    have h2 := h.2
    rw [isB_split] at h2
    simp only [Bool.and_eq_true] at h2
    have h3 := des_powQ hn.1 h2.2
    rcases Nat.lt_or_ge r.length 7 with h4 | h4
    · simp; omega
    · have h5 : (2 : Int) ^ 7 ≤ (2 : Int) ^ r.length := by
        have := Nat.pow_le_pow_right (show 0 < 2 by omega) h4
        exact_mod_cast this
      omega
/-- What the law asks of a strict transform. -/
structure SxOK (c : List Int) (N J : Nat) : Prop where
  len : (lqA c 1).length = N + 1
  n : 1 ≤ N ∧ N ≤ 399
  dl : (stA c).length ≤ 8
  dw : ∀ z ∈ stA c, (Lit.int .i64 z).wf = true
  cb : cbA (stA c) = (N : Int) - (J : Int)
  jn : J ≤ N
  sq : sqC (stA c) = 0
  lc : lqC (stA c) (J : Int) = 0
  la : lqA (stA c) (J : Int) = (lqA c 1).drop 1
theorem SxOK.make {c : List Int} (h : lqC c 1 = 0) : ∃ N J, SxOK c N J := by
  obtain ⟨hp, hx, hc⟩ := lq_parts h
  have e : lqA c 1 = seqL c ++ [1] := by unfold lqA; rw [if_pos h]; rfl
  have hl := st_len h
  have hsq := st_sql h
  have hb := strict_seq hp
  have hy := sql_yes hsq
  have ed : stA c = bsT ((seqL c ++ [1]).drop 1) := by unfold stA; rw [if_pos h]
  obtain ⟨h1, j, h2⟩ := bs_inv (R := (seqL c ++ [1]).drop 1) (by omega) (fun x hx => (hy.2 x hx).1) hb
  rw [← ed] at h1 h2
  have hs := (seq_len h1).1
  have hR : ((seqL c ++ [1]).drop 1).length = (seqL c ++ [1]).length - 1 := by rw [List.length_drop]
  have hj : ((seqL c ++ [1]).drop 1).length = (seqL (stA c)).length + j := by
    have := congrArg List.length h2
    rw [this]; simp
  refine ⟨((seqL c ++ [1]).drop 1).length, j, ?_⟩
  have h7 : (stA c).length ≤ 2000 + 1 := by
    obtain ⟨n, r, e5, _, _, hr⟩ := br_cons h1
    rw [e5]; simp; omega
  have lc : lqC (stA c) (j : Int) = 0 := (lq_yes h1 (by omega) (by omega)).1
  refine ⟨by rw [e]; omega, by omega, ?_, ?_, ?_, by omega, by unfold sqC; rw [if_pos h1], lc, ?_⟩
  · have := br_sevenQ h1; omega
  · intro z hz
    have := dcB_range (brB_dcB h1) z hz
    exact i64_wf (by omega) (by omega)
  · unfold cbA; rw [if_pos h1, ← hs]; omega
  · have : lqA (stA c) (j : Int) = seqL (stA c) ++ List.replicate j 1 := by unfold lqA; rw [if_pos lc]; simp
    rw [this, e, ← h2]
theorem ReadI.take {w : World} {B M k c : Nat} {A : Option Addr} {xs : List Int} (h : ReadI w B (.slice A M c) xs) (hM : xs.length = M) (hk : k ≤ M) : ReadI w B (.slice A k c) (xs.take k) := by
  have hd : (xs.take k).length = k := by rw [List.length_take]; omega
  obtain ⟨A', c', e7, h6, h4, h5, h7, h8⟩ := h
  rw [hM] at e7 h5 h6
  cases e7
  refine ⟨A, c, by rw [hd], ⟨rfl, fun j hj => ?_⟩, h4, by omega, h7, h8⟩
  rw [hd] at hj
  obtain ⟨a, e1, h9, h10⟩ := h6.2 j (by omega)
  refine ⟨a, e1, h9, ?_⟩
  rw [h10]
  simp [List.getD, List.getElem?_take, hj]
end Go.Proofs.Ytjgidalmgoifgaa
