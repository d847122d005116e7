/- Multiplicities at points, proximity and codes: plain mathematics of chapter 6. Conditions: stated at each theorem. -/
import Derived.Test.YtohbgfmjnanlkaaFnQm
namespace Go.Proofs.Ytohbgfmjnanlkaa
set_option linter.unusedVariables false
set_option linter.unusedSimpArgs false

/-- The numbers of R whose sum does not exceed x are equal but for the last one; the first one does not exceed x. -/
def EE (x : Int) (R : List Int) : Prop := (∀ y Y, R = y :: Y → y ≤ x) ∧ ∀ j, j < R.length → (R.take (j + 1)).sum ≤ x → ∀ t, t < j → R[t]?.getD 0 = R[0]?.getD 0
def EX : List Int → Prop
  | [] => True
  | x :: r => EE x r ∧ EX r
def Pos (R : List Int) : Prop := ∀ y ∈ R, (1 : Int) ≤ y
theorem Pos.tail {y : Int} {R : List Int} (h : Pos (y :: R)) : Pos R := fun z hz => h z (by simp [hz])
theorem Pos.app {A B : List Int} (h : Pos A) (k : Pos B) : Pos (A ++ B) := fun z hz => by
  rcases List.mem_append.1 hz with hz | hz
  · exact h z hz
  · exact k z hz
theorem Pos.rep {b : Int} (h : 1 ≤ b) (q : Nat) : Pos (List.replicate q b) := fun z hz => by rw [(List.mem_replicate.1 hz).2]; exact h
theorem Pos.take {R : List Int} (h : Pos R) (k : Nat) : Pos (R.take k) := fun z hz => h z (List.mem_of_mem_take hz)
theorem sum_nn : ∀ {Y : List Int}, Pos Y → ∀ k, 0 ≤ (Y.take k).sum
  | [], _, k => by simp
  | y :: Y, h, 0 => by simp
  | y :: Y, h, k + 1 => by
    have h1 := h y (by simp)
    have h2 := sum_nn h.tail k
    simp only [List.take_succ_cons, List.sum_cons]; omega
theorem sum_pos {Y : List Int} (h : Pos Y) {k : Nat} (hk : 1 ≤ k) (hl : k ≤ Y.length) : 1 ≤ (Y.take k).sum := by
  cases Y with
  | nil => simp at hl; omega
  | cons y Y =>
    obtain ⟨k, rfl⟩ : ∃ j, k = j + 1 := ⟨k - 1, by omega⟩
    have h1 := h y (by simp)
    have h2 := sum_nn h.tail k
    simp only [List.take_succ_cons, List.sum_cons]; omega
theorem ee_of {x b c : Int} {q : Nat} {Y : List Int} (hb : 1 ≤ b) (hq : 1 ≤ q) (hx : x = q * b + c) (hY : Pos Y) (hc : c = 0 ∨ (1 ≤ c ∧ ∃ Y', Y = c :: Y')) : EE x (List.replicate q b ++ Y) := by
  have hc0 : 0 ≤ c := by rcases hc with h | h <;> omega
  have hqb : b ≤ q * b := by
    have := Int.mul_le_mul_of_nonneg_right (show (1 : Int) ≤ q by omega) (show 0 ≤ b by omega)
    omega
  refine ⟨fun y Y' h => ?_, fun j hj hs t ht => ?_⟩
  · obtain ⟨q, rfl⟩ : ∃ p, q = p + 1 := ⟨q - 1, by omega⟩
    rw [List.replicate_succ, List.cons_append] at h
    simp only [List.cons.injEq] at h
    omega
  · have hlen : (List.replicate q b ++ Y).length = q + Y.length := by simp
    have hjq : j ≤ q := by
      by_cases h1 : j ≤ q
      · exact h1
      · exfalso
        rw [List.take_append, List.take_of_length_le (by simp; omega), List.length_replicate, List.sum_append, rep_sum] at hs
        rcases hc with h | ⟨h2, Y', rfl⟩
        · have := sum_pos hY (k := j + 1 - q) (by omega) (by omega)
          omega
        · obtain ⟨n, hn⟩ : ∃ n, j + 1 - q = n + 2 := ⟨j + 1 - q - 2, by omega⟩
          rw [hn, List.take_succ_cons, List.sum_cons] at hs
          have := sum_pos hY.tail (k := n + 1) (by omega) (by rw [hlen, List.length_cons] at hj; omega)
          omega
    have hget : ∀ s, s < q → (List.replicate q b ++ Y)[s]?.getD 0 = b := fun s hs => by
      rw [List.getElem?_append_left (by simpa using hs), List.getElem?_replicate, if_pos hs]; rfl
    rw [hget t (by omega), hget 0 (by omega)]
theorem EX.rep {b : Int} {W : List Int} (hb : 1 ≤ b) (hW : Pos W) (h : EX W) (hs : EE b W) : ∀ q : Nat, EX (List.replicate q b ++ W)
  | 0 => h
  | q + 1 => by
    refine ⟨?_, EX.rep hb hW h hs q⟩
    cases q with
    | zero => exact hs
    | succ q =>
      show EE b (List.replicate 1 b ++ (List.replicate q b ++ W))
      exact ee_of hb (Nat.le_refl _) (c := 0) (by simp) ((Pos.rep hb q).app hW) (Or.inl rfl)
theorem ee_ones (m : Nat) : EE 1 (List.replicate m 1) := by
  cases m with
  | zero => exact ⟨fun y Y h => by simp at h, fun j hj => by simp at hj⟩
  | succ m =>
    show EE 1 (List.replicate 1 1 ++ List.replicate m 1)
    exact ee_of (by omega) (Nat.le_refl _) (c := 0) (by simp) (Pos.rep (by omega) m) (Or.inl rfl)
theorem EX.ones : ∀ (m : Nat), EX (List.replicate m 1)
  | 0 => trivial
  | m + 1 => ⟨ee_ones m, EX.ones m⟩
theorem fl_pos {L : List (Int × Int)} (h : ∀ p ∈ L, 1 ≤ p.2) : Pos (flL L) := fun z hz => by
  obtain ⟨p, hp1, hp2⟩ := List.mem_flatMap.1 hz
  rw [(List.mem_replicate.1 hp2).2]; exact h p hp1
theorem stL_pos : ∀ (f : Nat) (a b : Int), ∀ p ∈ stL f a b, 1 ≤ p.2
  | 0, _, _ => by simp [stL]
  | f + 1, a, b => by
    unfold stL
    split
    · simp
    · intro p hp
      rcases List.mem_cons.1 hp with rfl | hp
      · show 1 ≤ b; omega
      · exact stL_pos f b (a % b) p hp
theorem rnL_pos : ∀ (zs : List Int) (p e : Int), ∀ x ∈ rnL p e zs, 1 ≤ x.2
  | [], _, _ => by simp [rnL]
  | z :: r, p, e => fun x hx => by
    simp only [rnL, List.mem_append] at hx
    rcases hx with hx | hx
    · exact stL_pos _ _ _ x hx
    · exact rnL_pos r _ _ x hx
theorem ee_euclid {b m : Int} {f : Nat} (hm : 1 ≤ m) (hb : m ≤ b) (hf : m < f) {Y : List Int} (hY : Pos Y) : EE b (flL (stL f b m) ++ Y) := by
  obtain ⟨f, rfl⟩ : ∃ f', f = f' + 1 := ⟨f - 1, by omega⟩
  have h1 := Int.mul_ediv_add_emod b m
  have h2 := Int.emod_nonneg b (show m ≠ 0 by omega)
  have h3 := Int.emod_lt_of_pos b (show 0 < m by omega)
  have hq1 : 1 ≤ b / m := (Int.le_ediv_iff_mul_le (by omega)).2 (by omega)
  obtain ⟨q, hq2⟩ : ∃ q : Nat, (b / m) = q := ⟨(b / m).toNat, by omega⟩
  have e : flL (stL (f + 1) b m) ++ Y = List.replicate q m ++ (flL (stL f m (b % m)) ++ Y) := by
    conv => lhs; unfold stL
    rw [if_neg (by omega), flL_cons, hq2, Int.toNat_natCast, List.append_assoc]
  rw [e]
  rw [hq2, Int.mul_comm] at h1
  refine ee_of hm (by omega) h1.symm ((fl_pos (stL_pos _ _ _)).app hY) ?_
  by_cases h0 : b % m = 0
  · exact Or.inl h0
  · obtain ⟨f, rfl⟩ : ∃ f', f = f' + 1 := ⟨f - 1, by omega⟩
    obtain ⟨R, hR⟩ := fl_first (a := m) (b := b % m) (f := f) (by omega) (by omega) Y
    exact Or.inr ⟨by omega, R, hR⟩
theorem ee_steps {k e : Int} (hk : 1 ≤ k) (he : 1 ≤ e) {Y : List Int} (hY : Pos Y) : EE e (flL (steps k e) ++ Y) := by
  rw [steps_cons he, flL_cons, List.append_assoc]
  by_cases h : e ≤ k
  · have hq : 1 ≤ k / e := (Int.le_ediv_iff_mul_le (by omega)).2 (by omega)
    obtain ⟨q, hq2⟩ : ∃ q : Nat, (k / e).toNat = q + 1 := ⟨(k / e).toNat - 1, by omega⟩
    dsimp only
    have e2 : List.replicate (q + 1) e = List.replicate 1 e ++ List.replicate q e := rfl
    rw [hq2, e2, List.append_assoc]
    exact ee_of he (Nat.le_refl _) (c := 0) (by simp) ((Pos.rep he q).app ((fl_pos (stL_pos _ _ _)).app hY)) (Or.inl rfl)
  · have hq : k / e = 0 := Int.ediv_eq_zero_of_lt (by omega) (by omega)
    have hr : k % e = k := Int.emod_eq_of_lt (by omega) (by omega)
    dsimp only
    rw [hq, hr]
    exact ee_euclid hk (by omega) (by omega) hY
theorem ex_stL : ∀ (f : Nat) (a b : Int) (Y : List Int), 0 ≤ a → 1 ≤ b → b < f → Pos Y → EX Y → EE (Int.gcd a b : Int) Y → EX (flL (stL f a b) ++ Y)
  | 0, a, b, Y, ha, hb, hf, _, _, _ => by omega
  | f + 1, a, b, Y, ha, hb, hf, hP, hY, hS => by
    have h2 := Int.emod_nonneg a (show b ≠ 0 by omega)
    have h3 := Int.emod_lt_of_pos a (show 0 < b by omega)
    have hg : (Int.gcd a b : Int) = (Int.gcd b (a % b) : Int) := by
      conv => lhs; rw [← Int.emod_add_mul_ediv a b, Int.gcd_comm, Int.gcd_add_mul_left_right]
    have e : flL (stL (f + 1) a b) ++ Y = List.replicate (a / b).toNat b ++ (flL (stL f b (a % b)) ++ Y) := by
      conv => lhs; unfold stL
      rw [if_neg (by omega), flL_cons, List.append_assoc]
    rw [e]
    by_cases h0 : a % b = 0
    · have e2 : stL f b (a % b) = [] := by rw [h0]; cases f <;> simp [stL]
      rw [h0, Int.gcd_zero_right] at hg
      have hg2 : (Int.gcd a b : Int) = b := by omega
      rw [e2]
      exact EX.rep hb hP hY (by rw [hg2] at hS; exact hS) _
    · exact EX.rep hb ((fl_pos (stL_pos _ _ _)).app hP) (ex_stL f b (a % b) Y (by omega) (by omega) (by omega) hP hY (by rw [← hg]; exact hS)) (ee_euclid (by omega) (by omega) (by omega) hP) _
theorem ex_rn : ∀ {zs : List Int} {p e : Int} {X : List Int}, 1 ≤ e → e ∣ p → 0 ≤ p → ascB p zs = true → desB e zs = true → Pos X → EX X → EE 1 X → EX (flL (rnL p e zs) ++ X)
  | [], p, e, X, _, _, _, _, _, _, hX, _ => hX
  | z :: r, p, e, X, he, hep, hp, hasc, hdes, hPX, hX, hX1 => by
    simp only [ascB, Bool.and_eq_true, decide_eq_true_eq] at hasc
    simp only [desB, Bool.and_eq_true, decide_eq_true_eq] at hdes
    have hg := gcd_le_left (e := e) (z := z) he
    have hd2 : (Int.gcd e z : Int) ∣ z := Int.gcd_dvd_right _ _
    have ih := ex_rn (zs := r) (p := z) (e := (Int.gcd e z : Int)) (X := X) hg.1 hd2 (by omega) hasc.2 hdes.2 hPX hX hX1
    have e2 : (Int.gcd (z - p) e : Int) = (Int.gcd e z : Int) := by
      obtain ⟨k, rfl⟩ := hep
      rw [Int.gcd_comm]
      exact_mod_cast Int.gcd_sub_mul_left_right e z k
    have e1 : flL (rnL p e (z :: r)) ++ X = flL (steps (z - p) e) ++ (flL (rnL z (Int.gcd e z : Int) r) ++ X) := by
      show flL (steps (z - p) e ++ rnL z (Int.gcd e z : Int) r) ++ X = _
      rw [flL_append, List.append_assoc]
    rw [e1]
    have hPr : Pos (flL (rnL z (Int.gcd e z : Int) r) ++ X) := (fl_pos (rnL_pos _ _ _)).app hPX
    refine ex_stL _ (z - p) e _ (by omega) he (by omega) hPr ih ?_
    rw [e2]
    cases r with
    | nil =>
      have h1 : (Int.gcd e z : Int) = 1 := by simpa [desB] using hdes.2
      rw [h1]
      exact hX1
    | cons y r =>
      have hy := hasc.2
      simp only [ascB, Bool.and_eq_true, decide_eq_true_eq] at hy
      have e3 : flL (rnL z (Int.gcd e z : Int) (y :: r)) ++ X = flL (steps (y - z) (Int.gcd e z : Int)) ++ (flL (rnL y (Int.gcd (Int.gcd e z : Int) y : Int) r) ++ X) := by
        show flL (steps (y - z) (Int.gcd e z : Int) ++ rnL y (Int.gcd (Int.gcd e z : Int) y : Int) r) ++ X = _
        rw [flL_append, List.append_assoc]
      rw [e3]
      exact ee_steps (by omega) hg.1 ((fl_pos (rnL_pos _ _ _)).app hPX)
theorem seq_pos {zs : List Int} (hp : brB zs = true) : Pos (seqL zs) := fun z hz => by
  obtain ⟨p, hp1, hp2⟩ := List.mem_flatMap.1 hz
  have h5 := (rsI_ok hp).1 p hp1
  rw [(List.mem_replicate.1 hp2).2]
  exact h5.2.1
theorem ex_seq {zs : List Int} (hp : brB zs = true) (m : Nat) : EX (seqL zs ++ List.replicate m 1) := by
  cases zs with
  | nil => cases hp
  | cons n r =>
    cases r with
    | nil =>
      obtain rfl := br_single hp
      have e : seqL [1] ++ List.replicate m 1 = List.replicate (m + 1) 1 := by rw [List.replicate_succ]; rfl
      rw [e]
      exact EX.ones _
    | cons z r =>
      obtain ⟨hn, hasc, hdes, hnz⟩ := br_two hp
      have e : seqL (n :: z :: r) = flL (rnL 0 n (z :: r)) := by unfold seqL; rw [rsI_more]; rfl
      rw [e]
      exact ex_rn hn.1 ⟨0, by simp⟩ (by omega) hasc hdes (Pos.rep (by omega) m) (EX.ones m) (ee_ones m)
theorem EE.take {x : Int} {R : List Int} (h : EE x R) (n : Nat) : EE x (R.take n) := by
  refine ⟨fun y Y e => ?_, fun j hj hs t ht => ?_⟩
  · cases R with
    | nil => simp at e
    | cons a R =>
      cases n with
      | zero => simp at e
      | succ n =>
        rw [List.take_succ_cons] at e
        simp only [List.cons.injEq] at e
        have := h.1 a R rfl
        omega
  · have hj2 : j < n ∧ j < R.length := by rw [List.length_take] at hj; omega
    rw [List.take_take, Nat.min_eq_left (by omega)] at hs
    have := h.2 j hj2.2 hs t ht
    rw [List.getElem?_take, List.getElem?_take, if_pos (by omega), if_pos (by omega)]
    exact this
theorem EX.take : ∀ {R : List Int} (n : Nat), EX R → EX (R.take n)
  | [], n, _ => by simp [EX]
  | x :: R, 0, _ => trivial
  | x :: R, n + 1, h => ⟨h.1.take n, EX.take n h.2⟩
theorem ex_at : ∀ {M : List Int} {i : Nat}, EX M → i < M.length → EE (M[i]?.getD 0) (M.drop (i + 1))
  | [], i, _, h => by simp at h
  | x :: r, 0, h, _ => by simpa using h.1
  | x :: r, i + 1, h, hi => by
    have := ex_at (M := r) (i := i) h.2 (by simpa using hi)
    simpa using this

/-- The multiplicities at the first k points. -/
def mqL (zs : List Int) (k : Nat) : List Int := (seqL zs ++ List.replicate k 1).take k
theorem mq_len (zs : List Int) (k : Nat) : (mqL zs k).length = k := by simp [mqL]
theorem mq_pos {zs : List Int} (hp : brB zs = true) (k : Nat) : Pos (mqL zs k) := ((seq_pos hp).app (Pos.rep (by omega) k)).take k
theorem mq_ex {zs : List Int} (hp : brB zs = true) (k : Nat) : EX (mqL zs k) := (ex_seq hp k).take k
theorem seq_range {L : List Int} (hp : brB L = true) (m : Nat) : ∀ z ∈ seqL L ++ List.replicate m 1, 1 ≤ z ∧ z ≤ 64 := fun z hz => by
  rcases List.mem_append.1 hz with hz | hz
  · obtain ⟨p, hp1, hp2⟩ := List.mem_flatMap.1 hz
    have h5 := (rsI_ok hp).1 p hp1
    have h6 := (List.mem_replicate.1 hp2).2
    subst h6
    exact h5.2
  · rw [(List.mem_replicate.1 hz).2]; omega
theorem mq_range {zs : List Int} (hp : brB zs = true) (k : Nat) : ∀ z ∈ mqL zs k, 1 ≤ z ∧ z ≤ 64 := fun z hz => seq_range hp k z (List.mem_of_mem_take hz)
theorem mq_at {zs : List Int} (hp : brB zs = true) {k i : Nat} (h : i < k) : 1 ≤ (mqL zs k)[i]?.getD 0 ∧ (mqL zs k)[i]?.getD 0 ≤ 64 := by
  have hl : i < (mqL zs k).length := by rw [mq_len]; exact h
  have := mq_range hp k (mqL zs k)[i] (List.getElem_mem hl)
  simpa [hl] using this
theorem mq_model {zs : List Int} (hp : brB zs = true) (k : Nat) : mqL zs k = (flL (rsS zs) ++ List.replicate k 1).take k := by
  unfold mqL
  rw [seq_eq hp]
  split
  · rename_i h
    rw [List.eq_nil_of_length_eq_zero h, List.nil_append]
    cases k with
    | zero => rfl
    | succ k => rw [List.take_of_length_le (show (List.replicate (k + 1) (1 : Int)).length ≤ k + 1 by simp), List.singleton_append, List.take_succ_cons, List.take_replicate, List.replicate_succ]; simp
  · rfl

/-- The sum of k numbers behind place a. -/
def sm (m : List Int) (a : Nat) : Nat → Int
  | 0 => 0
  | k + 1 => sm m a k + m[a + k]?.getD 0
theorem sm_take (s : List Int) (a : Nat) : ∀ k, ((s.drop a).take k).sum = sm s a k
  | 0 => by simp [sm]
  | k + 1 => by
    rw [List.take_add_one, List.sum_append, sm_take s a k, sm, List.getElem?_drop]
    congr 1
    cases s[a + k]? <;> simp
/-- The point j is proximate to the point i: the multiplicities behind i up to j are not more than its own. -/
def PR (m : List Int) (i j : Nat) : Bool := decide (i < j ∧ sm m (i + 1) (j - i) ≤ m[i]?.getD 0)
/-- What is known of the multiplicities at n points. -/
structure MQ (m : List Int) (n : Nat) : Prop where
  len : m.length = n
  ex : EX m
  rng : ∀ i, i < n → 1 ≤ m[i]?.getD 0 ∧ m[i]?.getD 0 ≤ 64
theorem mq_ok {zs : List Int} (hp : brB zs = true) (k : Nat) : MQ (mqL zs k) k := ⟨mq_len zs k, mq_ex hp k, fun i h => mq_at hp h⟩
theorem pr_true {m : List Int} {i j : Nat} : PR m i j = true ↔ i < j ∧ sm m (i + 1) (j - i) ≤ m[i]?.getD 0 := by unfold PR; simp
theorem pr_prev {m : List Int} {n i j : Nat} (h : MQ m n) (hj : j + 1 < n) (hi : i < j) (hp : PR m i (j + 1) = true) : PR m i j = true := by
  rw [pr_true] at *
  obtain ⟨h1, h2⟩ := hp
  have e : j + 1 - i = (j - i) + 1 := by omega
  rw [e, sm] at h2
  have := (h.rng (i + 1 + (j - i)) (by omega)).1
  exact ⟨hi, by omega⟩
theorem pr_near {m : List Int} {n j : Nat} (h : MQ m n) (hj : j + 1 < n) : PR m j (j + 1) = true := by
  rw [pr_true]
  refine ⟨by omega, ?_⟩
  have h1 := (ex_at h.ex (i := j) (by rw [h.len]; omega)).1
  have hl : j + 1 < m.length := by rw [h.len]; omega
  rw [List.drop_eq_getElem_cons hl] at h1
  have h2 := h1 _ _ rfl
  rw [show j + 1 - j = 0 + 1 by omega, sm, sm]
  simpa [hl] using h2
theorem pr_equal {m : List Int} {n i j t : Nat} (h : MQ m n) (hj : j < n) (hp : PR m i j = true) (h1 : i < t) (h2 : t < j) : m[t]?.getD 0 = m[i + 1]?.getD 0 := by
  rw [pr_true] at hp
  obtain ⟨h3, h4⟩ := hp
  have h5 := (ex_at h.ex (i := i) (by rw [h.len]; omega)).2 (j - i - 1) (by rw [List.length_drop, h.len]; omega) (by rw [sm_take, show j - i - 1 + 1 = j - i by omega]; exact h4) (t - i - 1) (by omega)
  rw [List.getElem?_drop, List.getElem?_drop, show i + 1 + (t - i - 1) = t by omega] at h5
  simpa using h5
/-- A point is proximate to the point before it, and to at most one more. -/
theorem pr_once {m : List Int} {n i i' j : Nat} (h : MQ m n) (hj : j < n) (hp : PR m i j = true) (h1 : i < i') (h2 : i' + 1 < j) : PR m i' j = false := by
  cases hq : PR m i' j
  · rfl
  · exfalso
    have e1 := pr_equal h hj hp (t := i') h1 (by omega)
    have e2 := pr_equal h hj hp (t := i' + 1) (by omega) h2
    have hq2 : PR m i' (i' + 2) = true := by
      have : ∀ d, i' + 2 + d < n → PR m i' (i' + 2 + d) = true → PR m i' (i' + 2) = true := by
        intro d
        induction d with
        | zero => intro _ h; exact h
        | succ d ih => intro hd hh; exact ih (by omega) (pr_prev h (by omega) (by omega) hh)
      exact this (j - (i' + 2)) (by omega) (by rw [show i' + 2 + (j - (i' + 2)) = j by omega]; exact hq)
    rw [pr_true] at hq2
    have e3 := hq2.2
    rw [show i' + 2 - i' = 0 + 1 + 1 by omega, sm, sm, sm] at e3
    have := (h.rng (i' + 2) (by omega)).1
    rw [show i' + 1 + (0 + 1) = i' + 2 by omega, Nat.add_zero] at e3
    omega

/-- The points to which j is proximate, among the first I ones. -/
def prx (m : List Int) : Nat → Nat → List Int
  | 0, _ => []
  | I + 1, j => prx m I j ++ if PR m I j then [(I : Int)] else []
/-- The code of the point j, after I rounds. -/
def cdI (m : List Int) : Nat → Nat → Int
  | 0, _ => 0
  | I + 1, j => if I + 1 < j ∧ PR m I j = true then (j : Int) - (I : Int) else cdI m I j
def cdL (m : List Int) (n : Nat) : List Int := (List.range (n - 1)).map fun a => cdI m n (a + 1)
def prQ (m : List Int) (n : Nat) : List (List Int) := (List.range n).map fun j => prx m n j
/-- The points to which a point with a code is proximate. -/
def nearL (c : Int) (j : Nat) : List Int := if j = 0 then [] else if c = 0 then [(j : Int) - 1] else [(j : Int) - c, (j : Int) - 1]
theorem pr_out {m : List Int} {i j : Nat} (h : j ≤ i) : PR m i j = false := by unfold PR; simp; omega
theorem prx_stop {m : List Int} {j : Nat} : ∀ d, prx m (j + d) j = prx m j j ∧ cdI m (j + d) j = cdI m j j
  | 0 => ⟨rfl, rfl⟩
  | d + 1 => by
    obtain ⟨h1, h2⟩ := prx_stop (m := m) (j := j) d
    refine ⟨?_, ?_⟩
    · show prx m (j + d) j ++ (if PR m (j + d) j = true then [((j + d : Nat) : Int)] else []) = _
      rw [pr_out (show j ≤ j + d by omega), h1]; simp
    · show (if j + d + 1 < j ∧ PR m (j + d) j = true then _ else cdI m (j + d) j) = _
      rw [if_neg (fun h => absurd h.1 (show ¬ j + d + 1 < j by omega)), h2]
/-- Before the last point: none, or just one. -/
theorem prx_before {m : List Int} {n j : Nat} (h : MQ m n) (hj : j < n) : ∀ I, I + 1 ≤ j → (cdI m I j = 0 ∧ prx m I j = []) ∨ ∃ i, i < I ∧ PR m i j = true ∧ cdI m I j = (j : Int) - (i : Int) ∧ prx m I j = [(i : Int)]
  | 0, _ => .inl ⟨rfl, rfl⟩
  | I + 1, hI => by
    rcases prx_before h hj I (by omega) with ⟨h1, h2⟩ | ⟨i, h1, h2, h3, h4⟩
    · cases hp : PR m I j
      · refine .inl ⟨?_, ?_⟩
        · show (if _ then _ else _) = _
          rw [hp, if_neg (by simp), h1]
        · show prx m I j ++ _ = _
          rw [hp, h2]; rfl
      · refine .inr ⟨I, by omega, hp, ?_, ?_⟩
        · show (if _ then _ else _) = _
          rw [if_pos ⟨by omega, hp⟩]
        · show prx m I j ++ _ = _
          rw [hp, h2]; rfl
    · have hp := pr_once h hj h2 (i' := I) h1 (by omega)
      refine .inr ⟨i, by omega, h2, ?_, ?_⟩
      · show (if _ then _ else _) = _
        rw [hp, if_neg (by simp), h3]
      · show prx m I j ++ _ = _
        rw [hp, h4]; rfl
theorem prx_near {m : List Int} {n j : Nat} (h : MQ m n) (hj : j < n) : prx m n j = nearL (cdI m n j) j ∧ (cdI m n j = 0 ∨ (2 ≤ cdI m n j ∧ cdI m n j ≤ (j : Int))) := by
  obtain ⟨d, rfl⟩ : ∃ d, n = j + d := ⟨n - j, by omega⟩
  obtain ⟨e1, e2⟩ := prx_stop (m := m) (j := j) d
  rw [e1, e2]
  cases j with
  | zero => exact ⟨rfl, .inl rfl⟩
  | succ j =>
    have hn := pr_near h (j := j) hj
    have e3 : prx m (j + 1) (j + 1) = prx m j (j + 1) ++ [(j : Int)] := by show _ ++ _ = _; rw [hn]; rfl
    have e4 : cdI m (j + 1) (j + 1) = cdI m j (j + 1) := by show (if _ then _ else _) = _; rw [if_neg (by omega)]
    rw [e3, e4]
    rcases prx_before h hj j (Nat.le_refl _) with ⟨h1, h2⟩ | ⟨i, h1, h2, h3, h4⟩
    · rw [h1, h2]
      refine ⟨?_, .inl rfl⟩
      unfold nearL; rw [if_neg (by omega), if_pos rfl]; simp
    · rw [h3, h4]
      refine ⟨?_, .inr (by omega)⟩
      unfold nearL; rw [if_neg (by omega), if_neg (by omega)]
      simp; omega
theorem cdL_len (m : List Int) (n : Nat) : (cdL m n).length = n - 1 := by simp [cdL]
theorem cdL_at {m : List Int} {n a : Nat} (h : a < n - 1) : (cdL m n)[a]?.getD 0 = cdI m n (a + 1) := by simp [cdL, h]
theorem prQ_len (m : List Int) (n : Nat) : (prQ m n).length = n := by simp [prQ]
theorem prQ_at {m : List Int} {n j : Nat} (h : j < n) : (prQ m n).getD j [] = prx m n j := by simp [prQ, List.getD, h]
end Go.Proofs.Ytohbgfmjnanlkaa
