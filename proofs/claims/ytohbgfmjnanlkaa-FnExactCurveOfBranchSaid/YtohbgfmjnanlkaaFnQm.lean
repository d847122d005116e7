/- Sequences: read back into their branches, a number is the sum of those behind it: arithmetic. Conditions: stated at each theorem. -/
import Derived.Test.YtohbgfmjnanlkaaZI
import Derived.Test.YtohbgfmjnanlkaaZR
namespace Go.Proofs.Ytohbgfmjnanlkaa
set_option linter.unusedVariables false
set_option linter.unusedSimpArgs false

/-- Some of the first numbers of a list have the sum x. -/
def SumTo (Y : List Int) (x : Int) : Prop := ∃ k, k ≤ Y.length ∧ (Y.take k).sum = x
/-- Each number greater than 1 is the sum of the next ones. -/
def PX : List Int → Prop
  | [] => True
  | x :: r => (1 < x → SumTo r x) ∧ PX r
theorem SumTo.one (x : Int) (Y : List Int) : SumTo (x :: Y) x := ⟨1, by simp, by simp⟩
theorem PX.ones : ∀ (m : Nat), PX (List.replicate m 1)
  | 0 => trivial
  | m + 1 => ⟨fun h => absurd h (by omega), PX.ones m⟩
theorem PX.rep {b : Int} {W : List Int} (h : PX W) (hs : 1 < b → SumTo W b) : ∀ q : Nat, PX (List.replicate q b ++ W)
  | 0 => h
  | q + 1 => by
    refine ⟨fun hb => ?_, PX.rep h hs q⟩
    cases q with
    | zero => exact hs hb
    | succ q => exact SumTo.one b _
theorem rep_sum (q : Nat) (m : Int) : (List.replicate q m).sum = q * m := by
  induction q with
  | zero => simp
  | succ q ih => rw [List.replicate_succ, List.sum_cons, ih]; push_cast; rw [Int.add_mul]; omega
theorem fl_first {a b : Int} {f : Nat} (hb : 1 ≤ b) (hab : b ≤ a) (Y : List Int) : ∃ R, flL (stL (f + 1) a b) ++ Y = b :: R := by
  have hq : 1 ≤ a / b := (Int.le_ediv_iff_mul_le (by omega)).2 (by omega)
  obtain ⟨q, hq2⟩ : ∃ q : Nat, (a / b).toNat = q + 1 := ⟨(a / b).toNat - 1, by omega⟩
  unfold stL
  rw [if_neg (by omega), flL_cons, hq2, List.replicate_succ]
  exact ⟨_, rfl⟩
theorem sum_euclid {b m : Int} {f : Nat} (hm : 1 ≤ m) (hb : 0 ≤ b) (hf : m < f) (Y : List Int) : SumTo (flL (stL f b m) ++ Y) b := by
  obtain ⟨f, rfl⟩ : ∃ f', f = f' + 1 := ⟨f - 1, by omega⟩
  have h1 := Int.mul_ediv_add_emod b m
  have h2 := Int.emod_nonneg b (show m ≠ 0 by omega)
  have h3 := Int.emod_lt_of_pos b (show 0 < m by omega)
  have hq : 0 ≤ b / m := Int.ediv_nonneg hb (by omega)
  obtain ⟨q, hq2⟩ : ∃ q : Nat, (b / m) = q := ⟨(b / m).toNat, by omega⟩
  have e : flL (stL (f + 1) b m) ++ Y = List.replicate q m ++ (flL (stL f m (b % m)) ++ Y) := by
    conv => lhs; unfold stL
    rw [if_neg (by omega), flL_cons, hq2, Int.toNat_natCast, List.append_assoc]
  rw [e]
  rw [hq2, Int.mul_comm] at h1
  by_cases h0 : b % m = 0
  · refine ⟨q, by simp, ?_⟩
    rw [List.take_append_of_le_length (by simp), List.take_of_length_le (by simp), rep_sum]
    omega
  · obtain ⟨f, rfl⟩ : ∃ f', f = f' + 1 := ⟨f - 1, by omega⟩
    obtain ⟨R, hR⟩ := fl_first (a := m) (b := b % m) (f := f) (by omega) (by omega) Y
    rw [hR]
    refine ⟨q + 1, by simp, ?_⟩
    rw [List.take_append, List.take_of_length_le (by simp), List.length_replicate, show q + 1 - q = 1 by omega, List.sum_append, rep_sum]
    simp
    omega
theorem sum_steps {k e : Int} (hk : 1 ≤ k) (he : 1 ≤ e) (Y : List Int) : SumTo (flL (steps k e) ++ Y) e := by
  rw [steps_cons he, flL_cons, List.append_assoc]
  by_cases h : e ≤ k
  · have hq : 1 ≤ k / e := (Int.le_ediv_iff_mul_le (by omega)).2 (by omega)
    obtain ⟨q, hq2⟩ : ∃ q : Nat, (k / e).toNat = q + 1 := ⟨(k / e).toNat - 1, by omega⟩
    dsimp only
    rw [hq2, List.replicate_succ, List.cons_append]
    exact SumTo.one e _
  · have hq : k / e = 0 := Int.ediv_eq_zero_of_lt (by omega) (by omega)
    have hr : k % e = k := Int.emod_eq_of_lt (by omega) (by omega)
    dsimp only
    rw [hq, hr]
    exact sum_euclid hk (by omega) (by omega) Y
theorem px_stL : ∀ (f : Nat) (a b : Int) (Y : List Int), 0 ≤ a → 1 ≤ b → b < f → PX Y → (1 < (Int.gcd a b : Int) → SumTo Y (Int.gcd a b : Int)) → PX (flL (stL f a b) ++ Y)
  | 0, a, b, Y, ha, hb, hf, _, _ => by omega
  | f + 1, a, b, Y, ha, hb, hf, hY, hS => by
    have h2 := Int.emod_nonneg a (show b ≠ 0 by omega)
    have h3 := Int.emod_lt_of_pos a (show 0 < b by omega)
    have hg : (Int.gcd a b : Int) = (Int.gcd b (a % b) : Int) := by
      conv => lhs; rw [← Int.emod_add_mul_ediv a b, Int.gcd_comm, Int.gcd_add_mul_left_right]
    have e : flL (stL (f + 1) a b) ++ Y = List.replicate (a / b).toNat b ++ (flL (stL f b (a % b)) ++ Y) := by
      conv => lhs; unfold stL
      rw [if_neg (by omega), flL_cons, List.append_assoc]
    rw [e]
    by_cases h0 : a % b = 0
    · have e2 : stL f b (a % b) = [] := by rw [h0]; cases f <;> simp [stL]
      rw [h0, Int.gcd_zero_right] at hg
      have hg2 : (Int.gcd a b : Int) = b := by omega
      rw [e2]
      exact PX.rep hY (fun h => by rw [hg2] at hS; exact hS h) _
    · exact PX.rep (px_stL f b (a % b) Y (by omega) (by omega) (by omega) hY (by rw [← hg]; exact hS)) (fun _ => sum_euclid (by omega) (by omega) (by omega) Y) _
theorem px_rn : ∀ {zs : List Int} {p e : Int} {X : List Int}, 1 ≤ e → e ∣ p → 0 ≤ p → ascB p zs = true → desB e zs = true → PX X → PX (flL (rnL p e zs) ++ X)
  | [], p, e, X, _, _, _, _, _, hX => hX
  | z :: r, p, e, X, he, hep, hp, hasc, hdes, hX => by
    simp only [ascB, Bool.and_eq_true, decide_eq_true_eq] at hasc
    simp only [desB, Bool.and_eq_true, decide_eq_true_eq] at hdes
    have hg := gcd_le_left (e := e) (z := z) he
    have hd2 : (Int.gcd e z : Int) ∣ z := Int.gcd_dvd_right _ _
    have ih := px_rn (zs := r) (p := z) (e := (Int.gcd e z : Int)) (X := X) hg.1 hd2 (by omega) hasc.2 hdes.2 hX
    have e2 : (Int.gcd (z - p) e : Int) = (Int.gcd e z : Int) := by
      obtain ⟨k, rfl⟩ := hep
      rw [Int.gcd_comm]
      exact_mod_cast Int.gcd_sub_mul_left_right e z k
    have e1 : flL (rnL p e (z :: r)) ++ X = flL (steps (z - p) e) ++ (flL (rnL z (Int.gcd e z : Int) r) ++ X) := by
      show flL (steps (z - p) e ++ rnL z (Int.gcd e z : Int) r) ++ X = _
      rw [flL_append, List.append_assoc]
    rw [e1]
    refine px_stL _ (z - p) e _ (by omega) he (by omega) ih (fun h => ?_)
    rw [e2] at h ⊢
    cases r with
    | nil =>
      have h1 : (Int.gcd e z : Int) = 1 := by simpa [desB] using hdes.2
      omega
    | cons y r =>
      have hy := hasc.2
      simp only [ascB, Bool.and_eq_true, decide_eq_true_eq] at hy
      have e3 : flL (rnL z (Int.gcd e z : Int) (y :: r)) ++ X = flL (steps (y - z) (Int.gcd e z : Int)) ++ (flL (rnL y (Int.gcd (Int.gcd e z : Int) y : Int) r) ++ X) := by
        show flL (steps (y - z) (Int.gcd e z : Int) ++ rnL y (Int.gcd (Int.gcd e z : Int) y : Int) r) ++ X = _
        rw [flL_append, List.append_assoc]
      rw [e3]
      exact sum_steps (by omega) hg.1 _
/-- A branch of more than one number, taken apart. -/
theorem br_two {n z : Int} {r : List Int} (hp : brB (n :: z :: r) = true) : (1 ≤ n ∧ n ≤ 64) ∧ ascB 0 (z :: r) = true ∧ desB n (z :: r) = true ∧ n < z := by
  rw [brB_more] at hp
  simp only [dcB, Bool.and_eq_true, decide_eq_true_eq] at hp
  obtain ⟨⟨hm, hasc, hdes⟩, hnz⟩ := hp
  exact ⟨mulB_true.1 hm, hasc, hdes, hnz⟩
theorem br_single {n : Int} (hp : brB [n] = true) : n = 1 := by
  rw [brB_one] at hp
  simp only [dcB, desB, Bool.and_eq_true, beq_iff_eq] at hp
  exact hp.2.2
theorem px_seq {zs : List Int} (hp : brB zs = true) (m : Nat) : PX (seqL zs ++ List.replicate m 1) := by
  cases zs with
  | nil => cases hp
  | cons n r =>
    cases r with
    | nil =>
      obtain rfl := br_single hp
      have e : seqL [1] ++ List.replicate m 1 = List.replicate (m + 1) 1 := by rw [List.replicate_succ]; rfl
      rw [e]
      exact PX.ones _
    | cons z r =>
      obtain ⟨hn, hasc, hdes, hnz⟩ := br_two hp
      have e : seqL (n :: z :: r) = flL (rnL 0 n (z :: r)) := by unfold seqL; rw [rsI_more]; rfl
      rw [e]
      exact px_rn hn.1 ⟨0, by simp⟩ (by omega) hasc hdes (PX.ones m)
theorem lead_ones (m : Nat) : lead 1 (List.replicate m 1) = m := by
  have := lead_rep 1 m []
  rw [List.append_nil] at this
  simpa [lead] using this
theorem ones_of : ∀ {X : List Int}, lead 1 X = X.length → X = List.replicate X.length 1
  | [], _ => rfl
  | x :: r, h => by
    by_cases h1 : x = 1
    · subst h1
      have h2 : lead 1 r = r.length := by simp only [lead, if_pos, List.length_cons] at h; omega
      rw [List.length_cons, List.replicate_succ, ← ones_of h2]
    · simp only [lead, if_neg h1, List.length_cons] at h
      omega
/-- The sequence of a branch with more ones is read back. -/
theorem bs_back {zs : List Int} (hp : brB zs = true) (m : Nat) : bsB (seqL zs ++ List.replicate m 1) = true ∧ bsT (seqL zs ++ List.replicate m 1) = zs := by
  cases zs with
  | nil => cases hp
  | cons n r =>
    cases r with
    | nil =>
      obtain rfl := br_single hp
      have e : seqL [1] ++ List.replicate m 1 = List.replicate (m + 1) 1 := by rw [List.replicate_succ]; rfl
      rw [e]
      have h0 : (List.replicate (m + 1) (1 : Int))[0]?.getD 0 = 1 := by rw [List.replicate_succ]; rfl
      have h1 : bsR (List.replicate (m + 1) 1) = some ([], List.replicate (m + 1) 1) := by
        unfold bsR; rw [h0]; exact rd_end (by omega)
      unfold bsB bsT
      rw [h1]
      dsimp only
      rw [h0, lead_ones]
      simp [hp]
    | cons z r =>
      obtain ⟨hn, hasc, hdes, hnz⟩ := br_two hp
      have e : seqL (n :: z :: r) = flL (rnL 0 n (z :: r)) := by unfold seqL; rw [rsI_more]; rfl
      have hf := rd_full (z :: r) 65 n 0 (List.replicate m 1) hn.1 (by omega) ⟨0, by simp⟩ (by omega) hasc hdes
      have h0 : (seqL (n :: z :: r) ++ List.replicate m 1)[0]?.getD 0 = n := by
        rw [e]
        have e1 : flL (rnL 0 n (z :: r)) ++ List.replicate m 1 = flL (stL (n.toNat + 1) (z - 0) n) ++ (flL (rnL z (Int.gcd n z : Int) r) ++ List.replicate m 1) := by
          show flL (steps (z - 0) n ++ rnL z (Int.gcd n z : Int) r) ++ List.replicate m 1 = _
          rw [flL_append, List.append_assoc]; rfl
        obtain ⟨R, hR⟩ := fl_first (a := z - 0) (b := n) (f := n.toNat) hn.1 (by omega) (flL (rnL z (Int.gcd n z : Int) r) ++ List.replicate m 1)
        rw [e1, hR]; rfl
      have h1 : bsR (seqL (n :: z :: r) ++ List.replicate m 1) = some (z :: r, List.replicate m 1) := by
        unfold bsR; rw [h0, e]; exact hf
      unfold bsB bsT
      rw [h1]
      dsimp only
      rw [h0, lead_ones]
      simp [hp]
theorem lead_split : ∀ (q : Nat) (r : Int) (R : List Int), q ≤ lead r R → R = List.replicate q r ++ R.drop q
  | 0, r, R, _ => by simp
  | q + 1, r, [], h => by simp [lead] at h
  | q + 1, r, x :: R, h => by
    by_cases h1 : x = r
    · subst h1
      have h2 : q ≤ lead x R := by simp only [lead, if_pos] at h; omega
      rw [List.replicate_succ, List.drop_succ_cons, List.cons_append, ← lead_split q x R h2]
    · simp only [lead, if_neg h1] at h; omega
theorem eat_inv : ∀ {S : List (Int × Int)} {e e' : Int} {R R' : List Int}, eat S e R = some (e', R') → R = flL S ++ R'
  | [], e, e', R, R', h => by
    simp only [eat, Option.some.injEq, Prod.mk.injEq] at h
    rw [h.2]; rfl
  | (q, r) :: S, e, e', R, R', h => by
    simp only [eat] at h
    split at h
    · cases h
    · rename_i hq
      have ih := eat_inv h
      rw [flL_cons, List.append_assoc, ← ih]
      exact lead_split q.toNat r R (by omega)
theorem rd_inv : ∀ {f : Nat} {e t : Int} {R T X : List Int}, 1 ≤ e → e ∣ t → (∀ x ∈ R, (1 : Int) ≤ x) → rd f e t R = some (T, X) → R = flL (rnL t e T) ++ X
  | 0, e, t, R, T, X, _, _, _, h => by cases h
  | f + 1, e, t, R, T, X, he, ht, hR, h => by
    by_cases h1 : e ≤ 1
    · rw [rd_end h1] at h
      simp only [Option.some.injEq, Prod.mk.injEq] at h
      rw [← h.1, h.2]; rfl
    · by_cases h2 : lead e R = R.length
      · rw [rd_short h1 h2] at h; cases h
      · cases h3 : eat (steps (kk e R) e) e R with
        | none => rw [rd_none h1 h2 h3] at h; cases h
        | some p =>
          obtain ⟨e', R'⟩ := p
          rw [rd, if_neg h1, if_neg h2, h3] at h
          dsimp only at h
          cases h4 : rd f e' (t + kk e R) R' with
          | none => rw [h4] at h; cases h
          | some x =>
            rw [h4] at h
            simp only [Option.some.injEq, Prod.mk.injEq] at h
            have hk : 0 ≤ kk e R := by
              unfold kk
              have h5 : 0 ≤ (R[lead e R]?.getD 0 : Int) := by
                cases h6 : R[lead e R]? with
                | none => simp
                | some y => have := hR y (List.mem_of_getElem? h6); simp; omega
              have h6 : 0 ≤ ((lead e R : Nat) : Int) * e := Int.mul_nonneg (by omega) (by omega)
              omega
            have hge := eat_gcd hk he h3
            have hei := eat_inv h3
            have hg1 : 1 ≤ e' := by
              rw [hge, Int.gcd_comm]
              exact (gcd_le_left (e := e) (z := kk e R) he).1
            have hgt : e' ∣ t + kk e R := by
              rw [hge]
              exact Int.dvd_add (Int.dvd_trans (Int.gcd_dvd_right _ _) ht) (Int.gcd_dvd_left _ _)
            have hgc : (Int.gcd e (t + kk e R) : Int) = e' := by
              rw [hge, Int.gcd_comm (kk e R) e, Int.add_comm]
              obtain ⟨s, rfl⟩ := ht
              rw [Int.gcd_add_mul_left_right]
            have ih := rd_inv hg1 hgt (fun y hy => hR y (by rw [hei]; exact List.mem_append_right _ hy)) h4
            rw [← h.1, ← h.2]
            have e1 : rnL t e ((t + kk e R) :: x.1) = steps (kk e R) e ++ rnL (t + kk e R) e' x.1 := by
              show steps (t + kk e R - t) e ++ rnL (t + kk e R) (Int.gcd e (t + kk e R) : Int) x.1 = _
              rw [hgc, show t + kk e R - t = kk e R by omega]
            rw [e1, flL_append, List.append_assoc, ← ih]
            exact hei
/-- What is read back is a branch, and its sequence with ones is the list. -/
theorem bs_inv {R : List Int} (hl : 0 < R.length) (hR : ∀ x ∈ R, (1 : Int) ≤ x) (hb : bsB R = true) : brB (bsT R) = true ∧ ∃ j : Nat, R = seqL (bsT R) ++ List.replicate j 1 := by
  unfold bsB at hb
  unfold bsT
  cases h1 : bsR R with
  | none => rw [h1] at hb; cases hb
  | some p =>
    rw [h1] at hb
    dsimp only at hb ⊢
    simp only [Bool.and_eq_true, decide_eq_true_eq] at hb
    obtain ⟨hp, hx⟩ := hb
    have hX := ones_of hx
    have h0 : (1 : Int) ≤ R[0]?.getD 0 := by
      have := hR R[0] (List.getElem_mem hl)
      simpa [hl] using this
    have hi : R = flL (rnL 0 (R[0]?.getD 0) p.1) ++ p.2 := by
      have h2 : rd 65 (R[0]?.getD 0) 0 R = some (p.1, p.2) := h1
      exact rd_inv h0 ⟨0, by simp⟩ hR h2
    refine ⟨hp, ?_⟩
    generalize R[0]?.getD 0 = n at *
    cases hT : p.1 with
    | nil =>
      rw [hT] at hp hi
      obtain rfl := br_single hp
      have e1 : R = p.2 := hi
      rw [← e1] at hX
      refine ⟨R.length - 1, ?_⟩
      have e2 : seqL [1] ++ List.replicate (R.length - 1) 1 = List.replicate (R.length - 1 + 1) 1 := by rw [List.replicate_succ]; rfl
      rw [e2, show R.length - 1 + 1 = R.length by omega]
      exact hX
    | cons z r =>
      rw [hT] at hi
      refine ⟨p.2.length, ?_⟩
      have e1 : seqL (n :: z :: r) = flL (rnL 0 n (z :: r)) := by unfold seqL; rw [rsI_more]; rfl
      rw [e1, ← hX]
      exact hi
end Go.Proofs.Ytohbgfmjnanlkaa
