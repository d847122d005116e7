/- StrictTransform, the model's and the program's: contracts. Conditions: stated at each theorem. -/
import Derived.Test.YtncgkoanckefmaaRdU
import Derived.Test.YtncgkoanckefmaaSqL
namespace Go.Proofs.Ytncgkoanckefmaa
open Go.ChangeShapes Go.WideShapes Go.ChangeAt Go.RowKit Go.Deep
set_option linter.unusedVariables false
set_option linter.unusedSimpArgs false

theorem flL_cons (p : Int × Int) (S : List (Int × Int)) : flL (p :: S) = List.replicate p.1.toNat p.2 ++ flL S := by simp [flL]
theorem lead_more (x : Int) (c : Nat) (R : List Int) : c ≤ lead x (List.replicate c x ++ R) := by rw [lead_rep]; omega
/-- Steps are read from their own list. -/
theorem eat_full : ∀ (S : List (Int × Int)) (e : Int) (Y : List Int), (∀ p ∈ S, (0 : Int) ≤ p.1) → ∃ e', eat S e (flL S ++ Y) = some (e', Y)
  | [], e, Y, _ => ⟨e, rfl⟩
  | (q, r) :: S, e, Y, h => by
    have hq := h (q, r) (List.mem_cons_self ..)
    dsimp only at hq
    obtain ⟨e', he⟩ := eat_full S r Y (fun p hp => h p (List.mem_cons_of_mem _ hp))
    refine ⟨e', ?_⟩
    rw [eat_cons, flL_cons, List.append_assoc]
    have h1 := lead_more r q.toNat (flL S ++ Y)
    show (if (lead r (List.replicate q.toNat r ++ (flL S ++ Y)) : Int) < q then none else eat S r ((List.replicate q.toNat r ++ (flL S ++ Y)).drop q.toNat)) = _
    rw [if_neg (by omega), List.drop_append_of_le_length (by simp), List.drop_eq_nil_of_le (by simp), List.nil_append]
    exact he
theorem stL_nonneg : ∀ (f : Nat) (a b : Int), 0 ≤ a → ∀ p ∈ stL f a b, (0 : Int) ≤ p.1
  | 0, _, _, _, p, hp => by cases hp
  | f + 1, a, b, ha, p, hp => by
    unfold stL at hp
    split at hp
    · cases hp
    · rcases List.mem_cons.1 hp with rfl | hp
      · exact Int.ediv_nonneg ha (by omega)
      · exact stL_nonneg f b (a % b) (by omega) p hp
theorem stL_fuel : ∀ (f f' : Nat) (a b : Int), b.toNat < f → b.toNat < f' → stL f a b = stL f' a b
  | 0, _, _, _, h, _ => by omega
  | _, 0, _, _, _, h => by omega
  | f + 1, f' + 1, a, b, h, h' => by
    unfold stL
    by_cases hb : b ≤ 0
    · rw [if_pos hb, if_pos hb]
    · rw [if_neg hb, if_neg hb]
      have h1 : a % b < b := Int.emod_lt_of_pos _ (by omega)
      rw [stL_fuel f f' b (a % b) (by omega) (by omega)]
theorem steps_cons {k e : Int} (he : 1 ≤ e) : steps k e = (k / e, e) :: stL e.toNat e (k % e) := by unfold steps; exact stL_cons he
/-- The first numbers of a run. -/
theorem run_first {k e : Int} {Y : List Int} (hk : 0 ≤ k) (he : 1 ≤ e) (hd : ¬ e ∣ k) :
    lead e (flL (steps k e) ++ Y) = (k / e).toNat ∧ kk e (flL (steps k e) ++ Y) = k ∧ lead e (flL (steps k e) ++ Y) < (flL (steps k e) ++ Y).length := by
  have hm0 : 0 ≤ k % e := Int.emod_nonneg _ (by omega)
  have hm1 : k % e < e := Int.emod_lt_of_pos _ (by omega)
  have hm2 : k % e ≠ 0 := fun h => hd (Int.dvd_of_emod_eq_zero h)
  have hq0 : 0 ≤ k / e := Int.ediv_nonneg hk (by omega)
  have hqq : 1 ≤ e / (k % e) := (Int.le_ediv_iff_mul_le (a := (1 : Int)) (b := e) (c := k % e) (by omega)).2 (by omega)
  obtain ⟨f, hf⟩ : ∃ f, e.toNat = f + 1 := ⟨e.toNat - 1, by omega⟩
  obtain ⟨j, hj⟩ : ∃ j, (e / (k % e)).toNat = j + 1 := ⟨(e / (k % e)).toNat - 1, by omega⟩
  have hR : flL (steps k e) ++ Y = List.replicate (k / e).toNat e ++ ((k % e) :: (List.replicate j (k % e) ++ (flL (stL f (k % e) (e % (k % e))) ++ Y))) := by
    rw [steps_cons he, flL_cons, hf, stL_cons (by omega), flL_cons]
    show (List.replicate (k / e).toNat e ++ (List.replicate (e / (k % e)).toNat (k % e) ++ _)) ++ Y = _
    rw [hj, List.replicate_succ]
    simp only [List.append_assoc, List.cons_append]
  have hl : lead e (flL (steps k e) ++ Y) = (k / e).toNat := by
    rw [hR, lead_rep, lead, if_neg (by omega)]; omega
  refine ⟨hl, ?_, ?_⟩
  · unfold kk
    rw [hl, hR, List.getElem?_append_right (by simp)]
    simp only [List.length_replicate, Nat.sub_self, List.getElem?_cons_zero, Option.getD_some]
    have := Int.mul_ediv_add_emod k e
    rw [show ((k / e).toNat : Int) = k / e by omega, Int.mul_comm]
    exact this
  · rw [hl, hR]
    simp
/-- The runs of a branch are read back. -/
theorem rd_full : ∀ (r : List Int) (f : Nat) (e p : Int) (X : List Int), 1 ≤ e → e.toNat < f → e ∣ p → 0 ≤ p → ascB p r = true → desB e r = true → rd f e p (flL (rnL p e r) ++ X) = some (r, X)
  | [], f, e, p, X, he, hf, _, _, _, hdes => by
    have h1 : e = 1 := by simpa [desB] using hdes
    obtain ⟨f, rfl⟩ : ∃ f', f = f' + 1 := ⟨f - 1, by omega⟩
    rw [rd_end (by omega)]; rfl
  | z :: r, f, e, p, X, he, hf, hep, hp0, hasc, hdes => by
    simp only [ascB, Bool.and_eq_true, decide_eq_true_eq] at hasc
    simp only [desB, Bool.and_eq_true, decide_eq_true_eq] at hdes
    obtain ⟨f, rfl⟩ : ∃ f', f = f' + 1 := ⟨f - 1, by omega⟩
    have hgz : (Int.gcd e (z - p) : Int) = (Int.gcd e z : Int) := by
      obtain ⟨s, hs⟩ := hep
      rw [hs, show z - e * s = z + e * (-s) by rw [Int.mul_neg]; omega, Int.gcd_add_mul_left_right]
    have hg := gcd_le_left (e := e) (z := z) he
    have hnd : ¬ e ∣ z - p := fun hd => by
      have h5 : (e : Int) ∣ (Int.gcd e (z - p) : Int) := Int.dvd_coe_gcd (Int.dvd_refl _) hd
      rw [hgz] at h5
      have := Int.le_of_dvd (by omega) h5
      exact hdes.1 (by omega)
    have hgne := hdes.1
    have he2 : ¬ e ≤ 1 := by omega
    have hR : flL (rnL p e (z :: r)) ++ X = flL (steps (z - p) e) ++ (flL (rnL z (Int.gcd e z : Int) r) ++ X) := by
      show flL (steps (z - p) e ++ rnL z (Int.gcd e z : Int) r) ++ X = _
      rw [flL_append, List.append_assoc]
    rw [hR]
    obtain ⟨h1, h2, h3⟩ := run_first (k := z - p) (Y := flL (rnL z (Int.gcd e z : Int) r) ++ X) (by omega) he hnd
    obtain ⟨e', he'⟩ := eat_full (steps (z - p) e) e (flL (rnL z (Int.gcd e z : Int) r) ++ X) (stL_nonneg _ _ _ (by omega))
    have hee := eat_gcd (by omega) he he'
    have hee2 : e' = (Int.gcd e z : Int) := by rw [hee, Int.gcd_comm, hgz]
    rw [hee2] at he'
    rw [rd, if_neg he2, if_neg (by omega), h2, he']
    have ih := rd_full r f (Int.gcd e z : Int) z X hg.1 (by omega) (Int.gcd_dvd_right _ _) (by omega) hasc.2 hdes.2
    simp only [show p + (z - p) = z by omega, ih]
/-- Runs with all terms less by a multiple of the divisor. -/
theorem rn_shift : ∀ (r : List Int) (p e m : Int), e ∣ m → rnL (p - m) e (r.map fun z => z - m) = rnL p e r
  | [], _, _, _, _ => rfl
  | z :: r, p, e, m, h => by
    obtain ⟨s, hs⟩ := h
    have hg : (Int.gcd e (z - m) : Int) = (Int.gcd e z : Int) := by
      rw [hs, show z - e * s = z + e * (-s) by rw [Int.mul_neg]; omega, Int.gcd_add_mul_left_right]
    show steps (z - m - (p - m)) e ++ rnL (z - m) (Int.gcd e (z - m) : Int) (r.map fun z => z - m) = steps (z - p) e ++ rnL z (Int.gcd e z : Int) r
    rw [hg, rn_shift r z (Int.gcd e z : Int) m (Int.dvd_trans (Int.gcd_dvd_left _ _) ⟨s, hs⟩), show z - m - (p - m) = z - p by omega]
theorem asc_shift : ∀ (r : List Int) (p m : Int), 0 ≤ m → ascB p r = true → ascB (p - m) (r.map fun z => z - m) = true
  | [], _, _, _, _ => rfl
  | z :: r, p, m, hm, h => by
    simp only [ascB, Bool.and_eq_true, decide_eq_true_eq] at h
    simp only [List.map_cons, ascB, Bool.and_eq_true, decide_eq_true_eq]
    exact ⟨by omega, asc_shift r z m hm h.2⟩
theorem des_shift : ∀ (r : List Int) (e m : Int), e ∣ m → desB e r = true → desB e (r.map fun z => z - m) = true
  | [], _, _, _, h => h
  | z :: r, e, m, h, hd => by
    simp only [desB, Bool.and_eq_true, decide_eq_true_eq] at hd
    obtain ⟨s, hs⟩ := h
    have hg : (Int.gcd e (z - m) : Int) = (Int.gcd e z : Int) := by
      rw [hs, show z - e * s = z + e * (-s) by rw [Int.mul_neg]; omega, Int.gcd_add_mul_left_right]
    simp only [List.map_cons, desB, Bool.and_eq_true, decide_eq_true_eq, hg]
    exact ⟨hd.1, des_shift r (Int.gcd e z : Int) m (Int.dvd_trans (Int.gcd_dvd_left _ _) ⟨s, hs⟩) hd.2⟩
/-- What is read back is a sequence. -/
theorem bs_full {n z : Int} {r : List Int} (hn : 1 ≤ n ∧ n ≤ 64) (hnz : n < z) (hasc : ascB 0 (z :: r) = true) (hdes : desB n (z :: r) = true) {L : List Int} (hL : L = flL (rnL 0 n (z :: r)) ++ [1]) (h0 : L[0]?.getD 0 = n) : bsB L = true := by
  have h1 := rd_full (z :: r) 65 n 0 [1] hn.1 (by omega) (Int.dvd_zero _) (Int.le_refl _) hasc hdes
  have h2 : bsR L = some (z :: r, [1]) := by unfold bsR; rw [h0, hL]; exact h1
  have h3 : brB (n :: z :: r) = true := by
    rw [brB_more]
    simp only [dcB, Bool.and_eq_true, decide_eq_true_eq]
    exact ⟨⟨mulB_true.2 hn, hasc, hdes⟩, hnz⟩
  simp only [bsB, h2, h0, h3, Bool.true_and]
  simp [lead]
/-- The strict transform of a branch has a sequence. -/
theorem strict_seq {zs : List Int} (hp : brB zs = true) : bsB ((seqL zs ++ [1]).drop 1) = true := by
  cases zs with
  | nil => cases hp
  | cons n r =>
    cases r with
    | nil =>
      have h1 : n = 1 := by
        rw [brB_one] at hp
        simp only [dcB, desB, Bool.and_eq_true, beq_iff_eq] at hp
        exact hp.2.2
      subst h1
      decide
    | cons z r =>
      have hp2 := hp
      rw [brB_more] at hp2
      simp only [dcB, Bool.and_eq_true, decide_eq_true_eq] at hp2
      obtain ⟨⟨hm, hasc, hdes⟩, hnz⟩ := hp2
      have hn := mulB_true.1 hm
      have hasc' := hasc
      have hdes' := hdes
      simp only [ascB, Bool.and_eq_true, decide_eq_true_eq] at hasc'
      simp only [desB, Bool.and_eq_true, decide_eq_true_eq] at hdes'
      have hgd := gcd_le_left (e := n) (z := z) hn.1
      obtain ⟨q, hq⟩ : ∃ q, z / n = q := ⟨_, rfl⟩
      obtain ⟨x, hx⟩ : ∃ x, z % n = x := ⟨_, rfl⟩
      have hx0 : 0 ≤ x ∧ x < n := by rw [← hx]; exact ⟨Int.emod_nonneg _ (by omega), Int.emod_lt_of_pos _ (by omega)⟩
      have hzq : n * q + x = z := by rw [← hq, ← hx]; exact Int.mul_ediv_add_emod z n
      have hq1 : 1 ≤ q := by rw [← hq]; exact (Int.le_ediv_iff_mul_le (by omega)).2 (by omega)
      have hgx : (Int.gcd n z : Int) = (Int.gcd n x : Int) := by rw [← hzq, Int.add_comm, Int.gcd_add_mul_left_right]
      have hx1 : 1 ≤ x := by
        by_cases h0 : x = 0
        · have h5 := hdes'.1
          rw [hgx, h0, Int.gcd_zero_right] at h5
          omega
        · omega
      have hnx : 1 ≤ n / x := (Int.le_ediv_iff_mul_le (by omega)).2 (by omega)
      have hs : seqL (n :: z :: r) = List.replicate q.toNat n ++ (flL (stL n.toNat n x) ++ flL (rnL z (Int.gcd n z : Int) r)) := by
        show flL (rsI (n :: z :: r)) = _
        rw [rsI_more]
        show flL (steps (z - 0) n ++ rnL z (Int.gcd n z : Int) r) = _
        rw [flL_append, Int.sub_zero, steps_cons hn.1, flL_cons, hq, hx, List.append_assoc]
      obtain ⟨q', hq'⟩ : ∃ q', q.toNat = q' + 1 := ⟨q.toNat - 1, by omega⟩
      have hL : (seqL (n :: z :: r) ++ [1]).drop 1 = List.replicate q' n ++ (flL (stL n.toNat n x) ++ (flL (rnL z (Int.gcd n z : Int) r) ++ [1])) := by
        rw [hs, hq', List.replicate_succ]
        simp [List.append_assoc]
      rw [hL]
      by_cases hq2 : 2 ≤ q
      · -- a number n less in front
        have hd : ((z - n) / n).toNat = q' := by
          rw [← hzq, show n * q + x - n = x + n * (q - 1) by rw [Int.mul_sub]; omega, Int.add_mul_ediv_left _ _ (by omega), Int.ediv_eq_zero_of_lt hx0.1 hx0.2]; omega
        have hmd : (z - n) % n = x := by
          rw [← hzq, show n * q + x - n = x + n * (q - 1) by rw [Int.mul_sub]; omega, Int.add_mul_emod_self_left, Int.emod_eq_of_lt hx0.1 hx0.2]
        have hg2 : (Int.gcd n (z - n) : Int) = (Int.gcd n z : Int) := by
          rw [show z - n = z + n * (-1) by omega, Int.gcd_add_mul_left_right]
        have hz2 : 2 * n < z := by
          have : n * 2 ≤ n * q := Int.mul_le_mul_of_nonneg_left hq2 (by omega)
          omega
        refine bs_full (n := n) (z := z - n) (r := r.map fun y => y - n) hn (by omega) ?_ ?_ ?_ ?_
        · simp only [ascB, Bool.and_eq_true, decide_eq_true_eq]
          exact ⟨by omega, asc_shift r z n (by omega) hasc'.2⟩
        · simp only [desB, Bool.and_eq_true, decide_eq_true_eq, hg2]
          exact ⟨hdes'.1, des_shift r _ n (Int.gcd_dvd_left _ _) hdes'.2⟩
        · show _ = flL (steps (z - n - 0) n ++ rnL (z - n) (Int.gcd n (z - n) : Int) (r.map fun y => y - n)) ++ [1]
          rw [hg2, rn_shift r z _ n (Int.gcd_dvd_left _ _), flL_append, Int.sub_zero, steps_cons hn.1, flL_cons, hmd]
          show _ = (List.replicate ((z - n) / n).toNat n ++ _) ++ _ ++ _
          rw [hd]
          simp [List.append_assoc]
        · obtain ⟨q'', hq''⟩ : ∃ k, q' = k + 1 := ⟨q' - 1, by omega⟩
          rw [hq'', List.replicate_succ]; rfl
      · -- the first number is the remainder
        obtain rfl : q = 1 := by omega
        obtain rfl : q' = 0 := by
          have : (1 : Int).toNat = 1 := rfl
          omega
        rw [List.replicate_zero, List.nil_append]
        obtain ⟨f, hf⟩ : ∃ f, n.toNat = f + 1 := ⟨n.toNat - 1, by omega⟩
        obtain ⟨j, hj⟩ : ∃ j, (n / x).toNat = j + 1 := ⟨(n / x).toNat - 1, by omega⟩
        have hst : stL n.toNat n x = (n / x, x) :: stL f x (n % x) := by rw [hf, stL_cons hx1]
        have h0 : (flL (stL n.toNat n x) ++ (flL (rnL z (Int.gcd n z : Int) r) ++ [1]))[0]?.getD 0 = x := by
          rw [hst, flL_cons]
          show ((List.replicate (n / x).toNat x ++ _) ++ _)[0]?.getD 0 = x
          rw [hj, List.replicate_succ]; rfl
        have hzx : z = n + x := by omega
        by_cases hxn : x ∣ n
        · -- a run less
          have hgxx : (Int.gcd n z : Int) = x := by
            rw [hgx]
            have h5 : x ∣ (Int.gcd n x : Int) := Int.dvd_coe_gcd hxn (Int.dvd_refl _)
            have h6 := Int.le_of_dvd (by have := gcd_le (e := n) hx1; omega) h5
            have h7 := gcd_le (e := n) hx1
            omega
          rw [hgxx] at hdes' ⊢
          rw [hgxx] at h0
          have hmx : n % x = 0 := Int.emod_eq_zero_of_dvd hxn
          rw [hmx, stL_zero] at hst
          rw [hst] at h0 ⊢
          cases r with
          | nil =>
            have h1 : x = 1 := by simpa [desB] using hdes'.2
            subst h1
            have hR : bsR (flL [(n / 1, 1)] ++ (flL (rnL z 1 []) ++ [1])) = some ([], flL [(n / 1, 1)] ++ (flL (rnL z 1 []) ++ [1])) := by
              unfold bsR; rw [h0]; exact rd_end (by omega)
            simp only [bsB, hR, h0]
            have hE : flL [(n / 1, (1 : Int))] ++ (flL (rnL z 1 []) ++ [1]) = List.replicate (n / 1).toNat 1 ++ [1] := by simp [flL, rnL]
            rw [hE, lead_rep]
            simp [lead, brB, mulB, isB]
          | cons y r =>
            have hasc2 := hasc'.2
            simp only [ascB, Bool.and_eq_true, decide_eq_true_eq] at hasc2
            have hdes2 := hdes'.2
            simp only [desB, Bool.and_eq_true, decide_eq_true_eq] at hdes2
            have hg2 : (Int.gcd x (y - x) : Int) = (Int.gcd x y : Int) := by
              rw [show y - x = y + x * (-1) by omega, Int.gcd_add_mul_left_right]
            obtain ⟨k, hk⟩ := hxn
            have hnk : n / x = k := by rw [hk, Int.mul_ediv_cancel_left _ (by omega)]
            have hyz : (y - x) / x = k + (y - z) / x := by
              rw [show y - x = (y - z) + x * k by omega, Int.add_mul_ediv_left _ _ (by omega)]; omega
            have hym : (y - x) % x = (y - z) % x := by
              rw [show y - x = (y - z) + x * k by omega, Int.add_mul_emod_self_left]
            have hyq : 0 ≤ (y - z) / x := Int.ediv_nonneg (by omega) (by omega)
            have hxx : x < n := hx0.2
            refine bs_full (n := x) (z := y - x) (r := r.map fun w => w - x) (by omega) (by omega) ?_ ?_ ?_ h0
            · simp only [ascB, Bool.and_eq_true, decide_eq_true_eq]
              exact ⟨by omega, asc_shift r y x (by omega) hasc2.2⟩
            · simp only [desB, Bool.and_eq_true, decide_eq_true_eq, hg2]
              exact ⟨hdes2.1, des_shift r _ x (Int.gcd_dvd_left _ _) hdes2.2⟩
            · show _ = flL (steps (y - x - 0) x ++ rnL (y - x) (Int.gcd x (y - x) : Int) (r.map fun w => w - x)) ++ [1]
              show flL [(n / x, x)] ++ (flL (steps (y - z) x ++ rnL y (Int.gcd x y : Int) r) ++ [1]) = _
              rw [hg2, rn_shift r y _ x (Int.gcd_dvd_left _ _), flL_append, flL_append, Int.sub_zero, steps_cons hx1, steps_cons hx1, flL_cons, flL_cons, flL_cons, hym]
              show (List.replicate (n / x).toNat x ++ flL []) ++ ((List.replicate ((y - z) / x).toNat x ++ _) ++ _ ++ _) = (List.replicate ((y - x) / x).toNat x ++ _) ++ _ ++ _
              rw [hyz, hnk, show (k + (y - z) / x).toNat = k.toNat + ((y - z) / x).toNat by omega, ← List.replicate_append_replicate]
              simp [flL, List.append_assoc, -List.replicate_append_replicate]
        · -- as many runs
          have hx2 : 2 ≤ x := by
            by_cases h5 : x = 1
            · exact absurd (h5 ▸ Int.one_dvd n) hxn
            · omega
          have hgn : (Int.gcd x n : Int) = (Int.gcd n z : Int) := by rw [Int.gcd_comm, hgx]
          have hgx2 : (Int.gcd n z : Int) ∣ x := by rw [hgx]; exact Int.gcd_dvd_right _ _
          refine bs_full (n := x) (z := n) (r := r.map fun y => y - x) (by omega) hx0.2 ?_ ?_ ?_ h0
          · simp only [ascB, Bool.and_eq_true, decide_eq_true_eq]
            have h5 := asc_shift r z x (by omega) hasc'.2
            rw [show z - x = n by omega] at h5
            exact ⟨by omega, h5⟩
          · simp only [desB, Bool.and_eq_true, decide_eq_true_eq, hgn]
            refine ⟨fun h5 => hxn ?_, des_shift r _ x hgx2 hdes'.2⟩
            rw [← h5]; exact Int.gcd_dvd_left _ _
          · show _ = flL (steps (n - 0) x ++ rnL n (Int.gcd x n : Int) (r.map fun y => y - x)) ++ [1]
            have h5 := rn_shift r z (Int.gcd n z : Int) x hgx2
            rw [show z - x = n by omega] at h5
            rw [hgn, h5, flL_append, Int.sub_zero]
            unfold steps
            rw [stL_fuel n.toNat (x.toNat + 1) n x (by omega) (by omega)]
            simp [List.append_assoc]
def stA (zs : List Int) : List Int := if lqC zs 1 = 0 then bsT ((seqL zs ++ [1]).drop 1) else []
theorem lq_br {zs : List Int} (h0 : lqC zs 1 = 0) : brB zs = true := by
  rcases bool_fs (brB zs) with hp | hp
  · rw [(lq_no hp).1] at h0; cases h0
  · exact hp
theorem lq_cnt {zs : List Int} (h0 : lqC zs 1 = 0) : cntL (rsI zs) + 1 ≤ 400 := by
  have hp := lq_br h0
  by_cases h3 : 400 < cntL (rsI zs) + 1
  · rw [(lq_big hp (by omega) h3).1] at h0; cases h0
  · omega
theorem st_len {zs : List Int} (h0 : lqC zs 1 = 0) : 2 ≤ (seqL zs ++ [1]).length ∧ (seqL zs ++ [1]).length ≤ 400 := by
  have hp := lq_br h0
  have h1 := (seq_len hp).1
  have h2 := lq_cnt h0
  have h3 := cnt_eq hp
  rw [List.length_append]
  simp only [List.length_cons, List.length_nil]
  omega
theorem st_sql {zs : List Int} (h0 : lqC zs 1 = 0) : sqlB ((seqL zs ++ [1]).drop 1) = true := by
  have hp := lq_br h0
  have h1 := st_len h0
  unfold sqlB
  rw [decide_eq_true (by rw [List.length_drop]; omega), Bool.true_and, List.all_eq_true]
  intro z hz
  have hz2 := List.mem_of_mem_drop hz
  refine mulB_true.2 ?_
  rcases List.mem_append.1 hz2 with h5 | h5
  · obtain ⟨p, hp1, hp2⟩ := List.mem_flatMap.1 h5
    have h6 := (rsI_ok hp).1 p hp1
    have h7 := (List.mem_replicate.1 hp2).2
    rw [h7]
    exact h6.2
  · have : z = 1 := by simpa using h5
    omega
theorem stA_len (zs : List Int) : (stA zs).length ≤ 1099511627776 := by
  unfold stA
  split
  · rename_i h0
    have h1 := bsA_len ((seqL zs ++ [1]).drop 1)
    rwa [(bs_yes (st_sql h0) (strict_seq (lq_br h0))).1] at h1
  · simp

set_option maxRecDepth 100000 in
set_option maxHeartbeats 2000000 in
theorem specStrictTransform_any (v : Value) (zs : List Int) (w : World) (h : ReadI w w.heap.size v zs) (hn : zs.length ≤ 1048576) (hw : ∀ z ∈ zs, (Lit.int .i64 z).wf = true) :
    Calls Try.prog 38 #[.agg #[v]] w (AnsRC w (stA zs) (lqC zs 1)) := by
  obtain ⟨n, A, c, rfl, hr, HL, HN, hnc, HF, hcm⟩ := h.split2
  obtain ⟨Wb, HEb⟩ : ∃ W, W = w.alloc (.cells #[.slice A n c] 28) := ⟨_, rfl⟩
  have hbb : Below w.heap.size w Wb := by rw [HEb]; exact below_box _ _
  have hqb : BoxI Wb w.heap.size (.slice A n c) := by rw [HEb]; exact BoxI.new _ _ _
  have hsb : Wb.heap.size = w.heap.size + 1 := by rw [HEb]; simp
  obtain ⟨W0, HE⟩ : ∃ W, W = Wb.alloc (.cells #[.slice none 0 0] 28) := ⟨_, rfl⟩
  have hS0 : Start1 Wb W0 := by rw [HE]; exact Start1.new _
  have hb0 := hS0.below
  have HB0 := Lib.hid (hbb.trans (hb0.mono (by omega)))
  have H0 := Lib.hid ((h.below HB0.out).more HB0.out.size)
  have S0 := Lib.hid hS0
  have HEQ := Lib.hid HE
  have HEQb := Lib.hid HEb
  have HNN := Lib.hid hn
  have HWW := Lib.hid hw
  have cb0 : W0.cell? ⟨w.heap.size, 0, none⟩ = some (.slice A n c) := by rw [hb0.cell (p := ⟨w.heap.size, 0, none⟩) hqb.2]; exact hqb.1
  have hs0 := hS0.size
  rw [hsb] at hs0
  clear h hr HE HEb HF hn hw hbb hqb hb0 hS0
  by_cases h0 : lqC zs 1 = 0
  · have hp : brB zs = true := lq_br h0
    have hsq := st_sql h0
    have hst := strict_seq hp
    have E : Hid (stA zs = bsT ((seqL zs ++ [1]).drop 1)) := Lib.hid (by rw [stA, if_pos h0])
    have HP := Lib.hid hp
    have H00 := Lib.hid h0
    have HSQ := Lib.hid hsq
    have HST := Lib.hid hst
    have HLEN := Lib.hid (st_len h0)
    clear h0 hp hsq hst
    go_enter Try.func38, Try.ntmps38
    go_wp2_with fail
    rw [← HEQb.out, ← HEQ.out]
    refine (l04Long_any _ zs 1 W0 H0.out HNN.out HWW.out).mono ?_
    rintro e w1 ⟨rfl, hb1⟩
    have cb1 := (hb1.cell (p := ⟨w.heap.size, 0, none⟩) (by show w.heap.size < _; omega)).trans cb0
    have H1 := Lib.hid ((H0.out.below hb1).more hb1.size)
    have HB1 := Lib.hid hb1
    have hs1 := hb1.size
    rw [H00.out]
    clear hb1 cb0
    go_wp2_with fail
    refine (l04Full_any _ zs 1 w1 H1.out HNN.out HP.out (by omega)).mono ?_
    rintro e w2 ⟨A2, c2, rfl, ho2, hb2⟩
    rw [show List.replicate 1 (1 : Int) = [1] from rfl] at ho2 ⊢
    have hs2 := hb2.size
    have HB2 := Lib.hid (HB1.out.trans (hb2.mono hs1))
    clear hb2 cb1
    obtain ⟨M, hM⟩ : ∃ M, (seqL zs ++ [1]).length = M + 1 := ⟨(seqL zs ++ [1]).length - 1, by have := HLEN.out; omega⟩
    have hM1 : 1 ≤ M := by have := HLEN.out; omega
    have hML : Hid (((seqL zs ++ [1]).drop 1).length = M) := Lib.hid (by rw [List.length_drop, hM]; omega)
    rw [hM] at ho2 ⊢
    obtain ⟨gs, e8, hg1, hg2, _, _⟩ := own_at ho2 hM (show 0 < M + 1 by omega)
    subst e8
    obtain ⟨C, rfl⟩ : ∃ C, c2 = C + 1 := ⟨c2 - 1, by
      obtain ⟨A', c', e7, _, _, h5, _⟩ := (ho2).reads
      rw [hM] at e7 h5
      cases e7; omega⟩
    have hC : M + 1 ≤ C + 1 ∧ C + 1 ≤ 9223372036854775807 := by
      obtain ⟨A', c', e7, _, _, h5, _, h6⟩ := (ho2).reads
      rw [hM] at e7 h5
      cases e7; exact ⟨h5, h6⟩
    have HRL : Hid (ReadI w2 (World.heap w2).size (.slice (some ⟨gs, 1, none⟩) M C) ((seqL zs ++ [1]).drop 1)) := Lib.hid ⟨some ⟨gs, 1, none⟩, C, by rw [hML.out], ⟨rfl, fun k hk => ⟨_, rfl, hg2, by
        rw [hML.out] at hk
        obtain ⟨g', e1, _, _, h5, _⟩ := own_at ho2 hM (show 1 + k < M + 1 by omega)
        cases e1
        rw [add_lit, h5]
        simp [List.getD, Nat.add_comm 1 k]⟩⟩, (by intro h; cases h), (by rw [hML.out]; omega), fun a ha => by cases ha; exact ⟨_, _, rfl⟩, by omega⟩
    have hC0 : ¬ C = 0 := by omega
    have h1M : (1 : Int) ≤ (M : Int) + 1 := by omega
    clear ho2 hM
    go_wp2_with fail
    refine (l04Branch_any _ _ w2 HRL.out HSQ.out).mono ?_
    rintro e W1 ⟨vb, rfl, hob, hb1⟩
    rw [HST.out] at ⊢
    have HLL : Hid (bsL ((seqL zs ++ [1]).drop 1) = bsT ((seqL zs ++ [1]).drop 1)) := Lib.hid (by rw [bsL, HST.out]; rfl)
    rw [HLL.out] at hob
    generalize bsT ((seqL zs ++ [1]).drop 1) = X at *
    obtain ⟨Ab, cb, rfl⟩ := own_form hob.1
    have hs3 := hb1.size
    have HB3 := Lib.hid (HB2.out.trans (hb1.mono (by omega)))
    obtain ⟨W3, HE3⟩ : ∃ W, W = W1.alloc (.cells #[.slice Ab X.length cb] 28) := ⟨_, rfl⟩
    have hb3 : Below W1.heap.size W1 W3 := by rw [HE3]; exact below_box _ _
    have hq3 : BoxI W3 W1.heap.size (.slice Ab X.length cb) := by rw [HE3]; exact BoxI.new _ _ _
    have HE3' := Lib.hid HE3
    have hq30 := hq3.1
    have hsz3 : W3.heap.size = W1.heap.size + 1 := by rw [HE3]; simp
    have HB4 := Lib.hid (HB3.out.trans (hb3.mono (by have := HB3.out.size; omega)))
    have O3 := Lib.hid (hob.kept (Kept.of_below hb3 (Nat.le_refl _)))
    obtain ⟨l2, l3, l4⟩ := S0.out.later HB4.out
    rw [hsb] at l2 l3 l4
    have HNE : Hid ((Value.slice Ab X.length cb).ownBlock ≠ some (w.heap.size + 1)) := Lib.hid (fun h5 => by
      have := (O3.out.1 : Own W3 w2.heap.size _ _ _).lt (w.heap.size + 1) h5
      have := HB2.out.size
      omega)
    have B3 := Lib.hid (HB0.out.trans (HB4.out.mono (by omega)))
    have hw2s := HB2.out.size
    rw [HE3'.out] at l2 l3 hq30
    clear hob hb1 hb3 hq3 HE3
    go_wp2_with fail
    rw [← HE3'.out]
    have cr : (W3.setCell ⟨w.heap.size + 1, 0, none⟩ (.slice Ab X.length cb)).cell? ⟨w.heap.size + 1, 0, none⟩ = some (.slice Ab X.length cb) := by rw [HE3'.out]; go_simp
    refine bodyPost_ret (v := .tuple #[.agg #[.slice Ab X.length cb], .int .i64 0]) (by simp [results, Try.results38, go_sem, cr]) rfl ?_
    exact ansR_endG _ (by omega) E.out.symm H00.out.symm ((own_lessB O3.out (by omega)).raise (by omega) (Nat.le_refl _)) HNE.out B3.out _
  · have E : Hid (stA zs = []) := Lib.hid (by rw [stA, if_neg h0])
    have hcb : 0 ≤ lqC zs 1 ∧ lqC zs 1 ≤ 3 := by unfold lqC; split <;> (try split) <;> (try split) <;> omega
    go_enter Try.func38, Try.ntmps38
    go_wp2_with fail
    rw [← HEQb.out, ← HEQ.out]
    refine (l04Long_any _ zs 1 W0 H0.out HNN.out HWW.out).mono ?_
    rintro e w1 ⟨rfl, hb1⟩
    skip
    obtain ⟨l2, l3, l4⟩ := S0.out.later hb1
    rw [hsb] at l2 l3
    have B1 := Lib.hid (HB0.out.trans (hb1.mono (by omega)))
    clear hb1 cb0
    generalize lqC zs 1 = C at *
    have h1 : (C != 0) = true := by simp [h0]
    go_wp2_with fail
    have cr : (w1.setCell ⟨w.heap.size + 1, 0, none⟩ (.slice none 0 0)).cell? ⟨w.heap.size + 1, 0, none⟩ = some (.slice none 0 0) := by go_simp
    refine bodyPost_ret (v := .tuple #[.agg #[.slice none 0 0], .int .i64 C]) (by simp [results, Try.results38, go_sem, cr]) rfl ?_
    exact ansR_endG _ (by omega) E.out.symm rfl (OwnI.nil _ _) (by intro h; cases h) B1.out _
set_option maxRecDepth 100000 in
set_option maxHeartbeats 2000000 in
theorem implStrictTransform_any (v : Value) (zs : List Int) (w : World) (h : ReadI w w.heap.size v zs) (hn : zs.length ≤ 1048576) (hw : ∀ z ∈ zs, (Lit.int .i64 z).wf = true) :
    Calls Try.prog 39 #[.agg #[v]] w (AnsRC w (stA zs) (lqC zs 1)) := by
  obtain ⟨n, A, c, rfl, hr, HL, HN, hnc, HF, hcm⟩ := h.split2
  obtain ⟨Wb, HEb⟩ : ∃ W, W = w.alloc (.cells #[.slice A n c] 28) := ⟨_, rfl⟩
  have hbb : Below w.heap.size w Wb := by rw [HEb]; exact below_box _ _
  have hqb : BoxI Wb w.heap.size (.slice A n c) := by rw [HEb]; exact BoxI.new _ _ _
  have hsb : Wb.heap.size = w.heap.size + 1 := by rw [HEb]; simp
  obtain ⟨W0, HE⟩ : ∃ W, W = Wb.alloc (.cells #[.slice none 0 0] 28) := ⟨_, rfl⟩
  have hS0 : Start1 Wb W0 := by rw [HE]; exact Start1.new _
  have hb0 := hS0.below
  have HB0 := Lib.hid (hbb.trans (hb0.mono (by omega)))
  have H0 := Lib.hid ((h.below HB0.out).more HB0.out.size)
  have S0 := Lib.hid hS0
  have HEQ := Lib.hid HE
  have HEQb := Lib.hid HEb
  have HNN := Lib.hid hn
  have HWW := Lib.hid hw
  have cb0 : W0.cell? ⟨w.heap.size, 0, none⟩ = some (.slice A n c) := by rw [hb0.cell (p := ⟨w.heap.size, 0, none⟩) hqb.2]; exact hqb.1
  have hs0 := hS0.size
  rw [hsb] at hs0
  clear h hr HE HEb HF hn hw hbb hqb hb0 hS0
  by_cases h0 : lqC zs 1 = 0
  · have hp : brB zs = true := lq_br h0
    have hsq := st_sql h0
    have hst := strict_seq hp
    have E : Hid (stA zs = bsT ((seqL zs ++ [1]).drop 1)) := Lib.hid (by rw [stA, if_pos h0])
    have HP := Lib.hid hp
    have H00 := Lib.hid h0
    have HSQ := Lib.hid hsq
    have HST := Lib.hid hst
    have HLEN := Lib.hid (st_len h0)
    clear h0 hp hsq hst
    go_enter Try.func39, Try.ntmps39
    go_wp2_with fail
    rw [← HEQb.out, ← HEQ.out]
    refine (implLongSequence_any _ zs 1 W0 H0.out HNN.out HWW.out (by decide)).mono ?_
    rintro e w2 ⟨v2, rfl, ho2, hb2⟩
    rw [show lqA zs 1 = seqL zs ++ [1] by rw [lqA, if_pos H00.out]; rfl] at ho2
    obtain ⟨A2, c2, rfl⟩ := own_form ho2.1
    have hs2 := hb2.size
    have HB2 := Lib.hid hb2
    rw [H00.out]
    clear hb2 cb0
    obtain ⟨M, hM⟩ : ∃ M, (seqL zs ++ [1]).length = M + 1 := ⟨(seqL zs ++ [1]).length - 1, by have := HLEN.out; omega⟩
    have hM1 : 1 ≤ M := by have := HLEN.out; omega
    have hML : Hid (((seqL zs ++ [1]).drop 1).length = M) := Lib.hid (by rw [List.length_drop, hM]; omega)
    rw [hM] at ho2 ⊢
    obtain ⟨gs, e8, hg1, hg2, _, _⟩ := own_at ho2 hM (show 0 < M + 1 by omega)
    subst e8
    obtain ⟨C, rfl⟩ : ∃ C, c2 = C + 1 := ⟨c2 - 1, by
      obtain ⟨A', c', e7, _, _, h5, _⟩ := (ho2).reads
      rw [hM] at e7 h5
      cases e7; omega⟩
    have hC : M + 1 ≤ C + 1 ∧ C + 1 ≤ 9223372036854775807 := by
      obtain ⟨A', c', e7, _, _, h5, _, h6⟩ := (ho2).reads
      rw [hM] at e7 h5
      cases e7; exact ⟨h5, h6⟩
    have HRL : Hid (ReadI w2 (World.heap w2).size (.slice (some ⟨gs, 1, none⟩) M C) ((seqL zs ++ [1]).drop 1)) := Lib.hid ⟨some ⟨gs, 1, none⟩, C, by rw [hML.out], ⟨rfl, fun k hk => ⟨_, rfl, hg2, by
        rw [hML.out] at hk
        obtain ⟨g', e1, _, _, h5, _⟩ := own_at ho2 hM (show 1 + k < M + 1 by omega)
        cases e1
        rw [add_lit, h5]
        simp [List.getD, Nat.add_comm 1 k]⟩⟩, (by intro h; cases h), (by rw [hML.out]; omega), fun a ha => by cases ha; exact ⟨_, _, rfl⟩, by omega⟩
    have hC0 : ¬ C = 0 := by omega
    have h1M : (1 : Int) ≤ (M : Int) + 1 := by omega
    have HDL : Hid (((seqL zs ++ [1]).drop 1).length ≤ 1048576) := Lib.hid (by have := (sql_yes HSQ.out).1; omega)
    have HDW : Hid (∀ z ∈ (seqL zs ++ [1]).drop 1, (Lit.int .i64 z).wf = true) := Lib.hid (fun z hz => by have := (sql_yes HSQ.out).2 z hz; exact WalkArith.wf_i64 (by omega))
    have EBS := Lib.hid (bs_yes HSQ.out HST.out)
    clear ho2 hM
    go_wp2_with fail
    refine (implBranchOfSequence_any _ _ w2 HRL.out HDL.out HDW.out).mono ?_
    rintro e W1 ⟨vb, rfl, hob, hb1⟩
    rw [EBS.out.1] at hob
    rw [EBS.out.2]
    generalize bsT ((seqL zs ++ [1]).drop 1) = X at *
    obtain ⟨Ab, cb, rfl⟩ := own_form hob.1
    have HB3 := Lib.hid (HB2.out.trans (hb1.mono (by omega)))
    obtain ⟨l2, l3, l4⟩ := S0.out.later HB3.out
    rw [hsb] at l2 l3 l4
    have HNE : Hid ((Value.slice Ab X.length cb).ownBlock ≠ some (w.heap.size + 1)) := Lib.hid (fun h5 => by
      have := (hob.1 : Own W1 w2.heap.size _ _ _).lt (w.heap.size + 1) h5
      omega)
    have O3 := Lib.hid hob
    have B3 := Lib.hid (HB0.out.trans (HB3.out.mono (by omega)))
    clear hob hb1
    go_wp2_with fail
    have cr : (W1.setCell ⟨w.heap.size + 1, 0, none⟩ (.slice Ab X.length cb)).cell? ⟨w.heap.size + 1, 0, none⟩ = some (.slice Ab X.length cb) := by go_simp
    refine bodyPost_ret (v := .tuple #[.agg #[.slice Ab X.length cb], .int .i64 0]) (by simp [results, Try.results39, go_sem, cr]) rfl ?_
    exact ansR_endG _ (by omega) E.out.symm H00.out.symm (own_lessB O3.out (by omega)) HNE.out B3.out _
  · have E : Hid (stA zs = []) := Lib.hid (by rw [stA, if_neg h0])
    have hcb : 0 ≤ lqC zs 1 ∧ lqC zs 1 ≤ 3 := by unfold lqC; split <;> (try split) <;> (try split) <;> omega
    go_enter Try.func39, Try.ntmps39
    go_wp2_with fail
    rw [← HEQb.out, ← HEQ.out]
    refine (implLongSequence_any _ zs 1 W0 H0.out HNN.out HWW.out (by decide)).mono ?_
    rintro e w1 ⟨v2, rfl, ho2, hb1⟩
    obtain ⟨A2, c2, rfl⟩ := own_form ho2.1
    clear ho2
    obtain ⟨l2, l3, l4⟩ := S0.out.later hb1
    rw [hsb] at l2 l3
    have B1 := Lib.hid (HB0.out.trans (hb1.mono (by omega)))
    clear hb1 cb0
    generalize lqC zs 1 = C at *
    have h1 : (C != 0) = true := by simp [h0]
    go_wp2_with fail
    have cr : (w1.setCell ⟨w.heap.size + 1, 0, none⟩ (.slice none 0 0)).cell? ⟨w.heap.size + 1, 0, none⟩ = some (.slice none 0 0) := by go_simp
    refine bodyPost_ret (v := .tuple #[.agg #[.slice none 0 0], .int .i64 C]) (by simp [results, Try.results39, go_sem, cr]) rfl ?_
    exact ansR_endG _ (by omega) E.out.symm rfl (OwnI.nil _ _) (by intro h; cases h) B1.out _
end Go.Proofs.Ytncgkoanckefmaa
