/- Unloading, plain mathematics: joining, raising, least consistent orders. Conditions: stated at each theorem. -/
import Derived.Test.YtohbgfmjnanlkaaUbM
namespace Go.Proofs.Ytohbgfmjnanlkaa
set_option linter.unusedVariables false
set_option linter.unusedSimpArgs false

section gen
variable {n : Nat} {M : Nat → Nat → Int} {A : Nat → Nat → Prop} {z : Nat → Int} {sd : Nat → Int → Nat → Bool} {mu : Nat → Int → Nat} {K : Nat}
theorem pd_split (b : Nat → Int) {c : Nat} : ∀ {n : Nat}, c < n → pdC b n = b c * pdC (fun w => if w = c then 1 else b w) n
  | 0, h => by omega
  | n + 1, h => by
    show pdC b n * b n = b c * (pdC _ n * (if n = c then 1 else b n))
    by_cases e : n = c
    · subst e
      rw [if_pos rfl, Int.mul_one, pdC_congr (F := fun w => if w = n then 1 else b w) (G := b) (fun i hi => if_neg (by omega)), Int.mul_comm]
    · rw [if_neg e, pd_split (c := c) b (n := n) (by omega), Int.mul_assoc]
/-- With a point that has to rise joined, all joined points still have to rise. -/
theorem ri_join (hM : MX n M A z) (hT : TB n A sd mu K) (e : Nat → Int) {J : Nat → Bool} {p : Nat} (hp : p < n) (hJp : J p = false) (h1 : 0 < (riR M e J n K p (-1)).1) (h2 : ∀ q, q < n → J q = true → 0 < (riR M e J n K q (-1)).1) :
    ∀ q, q < n → (J q || decide (q = p)) = true → 0 < (riR M e (fun x => J x || decide (x = p)) n K q (-1)).1 := by
  obtain ⟨J', hJ'⟩ : ∃ J' : Nat → Bool, J' = fun x => J x || decide (x = p) := ⟨_, rfl⟩
  have hJe : ∀ x, J' x = (J x || decide (x = p)) := fun x => by rw [hJ']
  rw [← hJ']
  have hsub : ∀ x, J x = true → J' x = true := fun x hx => by rw [hJe, hx]; rfl
  have hloc : riR M e J n K p (-1) = riR M e J' n K p (-1) := ri_loc hM hT e J J' (mu p (-1) + 1) p (-1) hp (.inl rfl) (by omega) fun x _ hne _ => by rw [hJe]; simp [hne]
  have hpos : ∀ q, q < n → 0 < (riR M e J' n K q (-1)).2.1 := fun q hq => (ri_pos hM hT e J' (mu q (-1) + 1) q (-1) hq (.inl rfl) (by omega)).2.1
  have hT'p : 0 < (riR M e J' n K p (-1)).1 := by rw [← hloc]; exact h1
  intro q hq hqj
  by_cases hqp : q = p
  · subst hqp; exact hT'p
  have hJq : J q = true := by simpa [hqp] using hqj
  obtain ⟨b, hb⟩ : ∃ b : Nat → Int, b = fun w => if J' w = true then (riR M e J' n K w (-1)).2.1 else 1 := ⟨_, rfl⟩
  have hb1 : ∀ w, w < n → 1 ≤ b w := fun w hw => by
    rw [hb]
    have := hpos w hw
    show 1 ≤ if J' w = true then (riR M e J' n K w (-1)).2.1 else 1
    split <;> omega
  obtain ⟨Qf, hQf⟩ : ∃ Qf : Nat → Int, Qf = fun c => pdC (fun w => if w = c then 1 else b w) n := ⟨_, rfl⟩
  have hQs : ∀ c, c < n → pdC b n = b c * Qf c := fun c hc => by rw [hQf]; exact pd_split b hc
  have hQp : ∀ c, c < n → 1 ≤ Qf c := fun c hc => by
    rw [hQf]
    exact pdC_pos fun i hi => by have := hb1 i hi; split <;> omega
  obtain ⟨y, hy⟩ : ∃ y : Nat → Int, y = fun c => if J' c = true then (riR M e J' n K c (-1)).1 * Qf c else 0 := ⟨_, rfl⟩
  have hyy : ∀ c, J' c = true → y c = (riR M e J' n K c (-1)).1 * Qf c := fun c hc => by rw [hy]; exact if_pos hc
  have hyn : ∀ c, J' c = false → y c = 0 := fun c hc => by rw [hy]; exact if_neg (by rw [hc]; decide)
  have hbe : ∀ c, J' c = true → b c = (riR M e J' n K c (-1)).2.1 := fun c hc => by rw [hb]; exact if_pos hc
  have heq : ∀ v, v < n → J' v = true → pdC b n * e v - sgC (fun k => M v k * y k) n = 0 := fun v hv hJv => by
    have hnb := nb_sum hM y hv
    have hex := ri_exact hM hT e (J := J') hv hJv
    have hs : sgC (fun c => if M v c = 1 then y c else 0) n = Qf v * sgC (fun c => if M v c = 1 ∧ (c : Int) ≠ -1 ∧ J' c = true then (riR M e J' n K c (-1)).1 else 0) n := by
      rw [← sgC_smul]
      refine sgC_congr fun c hc => ?_
      by_cases hm : M v c = 1
      · rw [if_pos hm]
        cases hJc : J' c with
        | false => rw [hyn c hJc, if_neg (fun h => by simp at h), Int.mul_zero]
        | true =>
          rw [if_pos ⟨hm, by omega, rfl⟩, hyy c hJc]
          have ha := hM.iff hv hc hm
          have h5 := (ri_two hM hT e hv hc ha hJv hJc).1
          have h6 := hQs c hc
          have h7 := hQs v hv
          rw [hbe c hJc, h5] at h6
          rw [hbe v hJv] at h7
          have h8 : (riR M e J' n K v (-1)).2.1 * Qf c = (riR M e J' n K v (-1)).2.1 * Qf v := by rw [← h6, ← h7]
          have h9 : Qf c = Qf v := Int.eq_of_mul_eq_mul_left (by have := hpos v hv; omega) h8
          rw [h9, Int.mul_comm]
      · rw [if_neg hm, if_neg (fun h => hm h.1), Int.mul_zero]
    have h7 := hQs v hv
    rw [hbe v hJv] at h7
    rw [hs, hex] at hnb
    rw [hyy v hJv] at hnb
    rw [h7]
    grind
  have hlow := ri_low hM hT e J y (pdC b n) (fun c hc hJc => by
    by_cases hcp : c = p
    · subst hcp
      have hJ'c : J' c = true := by rw [hJe]; simp
      rw [hyy c hJ'c]
      exact Int.le_of_lt (Int.mul_pos hT'p (by have := hQp c hc; omega))
    · rw [hyn c (by rw [hJe, hJc]; simp [hcp])]; exact Int.le_refl _) (fun v hv hJv => by rw [heq v hv (hsub v hJv)]; exact Int.le_refl _) (mu q (-1) + 1) q (-1) hq (.inl rfl) (by omega) (by rw [heq q hq (hsub q hJq)]; exact Int.le_refl _)
  rw [if_pos rfl, Int.mul_zero, Int.add_zero, hyy q (hsub q hJq)] at hlow
  have hQ : 1 ≤ pdC b n := pdC_pos hb1
  have h3 : 0 < pdC b n * (riR M e J n K q (-1)).1 := Int.mul_pos (by omega) (h2 q hq hJq)
  have h4 := (ri_pos hM hT e J (mu q (-1) + 1) q (-1) hq (.inl rfl) (by omega)).2.1
  have h5 := hQp q hq
  apply Classical.byContradiction
  intro hn
  have h6 : (riR M e J' n K q (-1)).1 * Qf q ≤ 0 * Qf q := Int.mul_le_mul_of_nonneg_right (by omega) (by omega)
  have h7 : (riR M e J n K q (-1)).2.1 * ((riR M e J' n K q (-1)).1 * Qf q) ≤ (riR M e J n K q (-1)).2.1 * 0 := Int.mul_le_mul_of_nonneg_left (by omega) (by omega)
  rw [Int.mul_zero] at h7
  omega
/-- The step of a joined point. -/
def qtR (r : Int × Int × Int) : Int := (r.1 + r.2.1 - 1) / r.2.1
theorem qt_rng {t b : Int} (hb : 0 < b) : t ≤ (t + b - 1) / b * b ∧ (t + b - 1) / b * b ≤ t + b - 1 := by
  have h1 := Int.emod_add_mul_ediv (t + b - 1) b
  have h2 := Int.emod_nonneg (t + b - 1) (show b ≠ 0 by omega)
  have h3 := Int.emod_lt_of_pos (t + b - 1) hb
  rw [Int.mul_comm] at h1
  omega
theorem qt_low {t b y : Int} (hb : 0 < b) (h : t ≤ b * y) : (t + b - 1) / b ≤ y := by
  have h1 : (t + b - 1) / b ≤ (b * y + b - 1) / b := Int.ediv_le_ediv hb (by omega)
  have h2 : (b * y + b - 1) / b = y := by
    have : b * y + b - 1 = (b - 1) + b * y := by omega
    rw [this, Int.add_mul_ediv_left _ _ (by omega), Int.ediv_eq_zero_of_lt (by omega) (by omega)]; omega
  omega
def dtR (M : Nat → Nat → Int) (e : Nat → Int) (J : Nat → Bool) (n K : Nat) (x : Nat) : Int := if J x = true then qtR (riR M e J n K x (-1)) else 0
theorem rf_cnt {o : Nat → Int × Int × Int} {J : Nat → Bool} {v : Nat} {e d : Int} {q : Nat → Int} : ∀ {m : Nat}, (∀ c, c < m → M v c = 1 ∧ (c : Int) ≠ -1 ∧ J c = true → 0 < (o c).2.1 ∧ 0 < (o c).2.2 ∧ q c * (o c).2.1 ≤ (o c).1 + (o c).2.1) → 0 < (rfN M J o v (-1) (-e, d, 1) m).2.2 ∧
    (rfN M J o v (-1) (-e, d, 1) m).2.2 * sgC (fun c => if M v c = 1 ∧ (c : Int) ≠ -1 ∧ J c = true then q c else 0) m ≤ (rfN M J o v (-1) (-e, d, 1) m).1 + (rfN M J o v (-1) (-e, d, 1) m).2.2 * (e + sgC (fun c => if M v c = 1 ∧ (c : Int) ≠ -1 ∧ J c = true then 1 else 0) m)
  | 0, _ => by
    refine ⟨by show (0 : Int) < 1; decide, ?_⟩
    show 1 * 0 ≤ -e + 1 * (e + 0)
    omega
  | m + 1, h => by
    have ih := rf_cnt (m := m) (e := e) (d := d) (q := q) (fun c hc => h c (by omega))
    by_cases hc : M v m = 1 ∧ (m : Int) ≠ -1 ∧ J m = true
    · obtain ⟨h1, h2, h3⟩ := h m (by omega) hc
      rw [rfN_yes hc]
      show _ ∧ _ * (sgC _ m + (if M v m = 1 ∧ (m : Int) ≠ -1 ∧ J m = true then q m else 0)) ≤ _ + _ * (e + (sgC _ m + (if M v m = 1 ∧ (m : Int) ≠ -1 ∧ J m = true then 1 else 0)))
      rw [if_pos hc, if_pos hc]
      obtain ⟨i1, i2⟩ := ih
      generalize rfN M J o v (-1) (-e, d, 1) m = r at *
      generalize sgC (fun c => if M v c = 1 ∧ (c : Int) ≠ -1 ∧ J c = true then q c else 0) m = X at *
      generalize sgC (fun c => if M v c = 1 ∧ (c : Int) ≠ -1 ∧ J c = true then (1 : Int) else 0) m = Y at *
      rcases hO : o m with ⟨t', b', s'⟩
      obtain ⟨t, b, s⟩ := r
      rw [hO] at h1 h2 h3
      simp only [acR] at *
      refine ⟨Int.mul_pos i1 h1, ?_⟩
      have e1 := Int.mul_le_mul_of_nonneg_right i2 (Int.le_of_lt h1)
      have e2 := Int.mul_le_mul_of_nonneg_left h3 (Int.le_of_lt i1)
      grind
    · rw [rfN_no hc]
      show _ ∧ _ * (sgC _ m + (if M v m = 1 ∧ (m : Int) ≠ -1 ∧ J m = true then q m else 0)) ≤ _ + _ * (e + (sgC _ m + (if M v m = 1 ∧ (m : Int) ≠ -1 ∧ J m = true then 1 else 0)))
      rw [if_neg hc, if_neg hc, Int.add_zero, Int.add_zero]
      exact ih
theorem sgC_le_n {F : Nat → Int} {n : Nat} (h : ∀ i, i < n → F i ≤ 1) : sgC F n ≤ n := by
  have h1 := sgC_mono (F := F) (G := fun _ => 1) (n := n) h
  have h2 : ∀ k : Nat, sgC (fun _ => 1) k = k := fun k => by
    induction k with
    | zero => rfl
    | succ k ih => show sgC _ k + 1 = _; rw [ih]; omega
  rw [h2] at h1; exact h1
/-- What raising joined points does. -/
theorem ri_raise (hM : MX n M A z) (hT : TB n A sd mu K) (e : Nat → Int) {J : Nat → Bool} (hin : ∀ q, q < n → J q = true → 0 < (riR M e J n K q (-1)).1) (hout : ∀ q, q < n → J q = false → (riR M e J n K q (-1)).1 ≤ 0) :
    (∀ v, v < n → J v = true → 1 ≤ dtR M e J n K v) ∧ (∀ v, v < n → J v = false → dtR M e J n K v = 0) ∧
    (∀ v, v < n → -(n : Int) ≤ e v - sgC (fun k => M v k * dtR M e J n K k) n ∧ (J v = true → e v - sgC (fun k => M v k * dtR M e J n K k) n ≤ -(M v v)) ∧ (J v = false → e v - sgC (fun k => M v k * dtR M e J n K k) n ≤ e v)) := by
  have hpos : ∀ q, q < n → 0 < (riR M e J n K q (-1)).2.1 := fun q hq => (ri_pos hM hT e J (mu q (-1) + 1) q (-1) hq (.inl rfl) (by omega)).2.1
  have hq1 : ∀ v, v < n → J v = true → 1 ≤ dtR M e J n K v := fun v hv hJ => by
    unfold dtR; rw [if_pos hJ]
    have h1 := hpos v hv
    have h2 := hin v hv hJ
    have h3 := (qt_rng (t := (riR M e J n K v (-1)).1) h1).1
    apply Classical.byContradiction
    intro hn
    have h4 : qtR (riR M e J n K v (-1)) * (riR M e J n K v (-1)).2.1 ≤ 0 * (riR M e J n K v (-1)).2.1 := Int.mul_le_mul_of_nonneg_right (by omega) (by omega)
    unfold qtR at h4
    omega
  have hq0 : ∀ v, J v = false → dtR M e J n K v = 0 := fun v hJ => by unfold dtR; rw [if_neg (by rw [hJ]; decide)]
  refine ⟨hq1, fun v _ => hq0 v, fun v hv => ?_⟩
  have hnb := nb_sum hM (dtR M e J n K) hv
  have hsum : sgC (fun c => if M v c = 1 then dtR M e J n K c else 0) n = sgC (fun c => if M v c = 1 ∧ (c : Int) ≠ -1 ∧ J c = true then qtR (riR M e J n K c (-1)) else 0) n := sgC_congr fun c hc => by
    unfold dtR
    by_cases h1 : M v c = 1
    · rw [if_pos h1]
      by_cases h2 : J c = true
      · rw [if_pos h2, if_pos ⟨h1, by omega, h2⟩]
      · rw [if_neg h2, if_neg (fun h => h2 h.2.2)]
    · rw [if_neg h1, if_neg (fun h => h1 h.1)]
  have hcn : sgC (fun c => if M v c = 1 ∧ (c : Int) ≠ -1 ∧ J c = true then (1 : Int) else 0) n ≤ n := sgC_le_n fun i _ => by split <;> omega
  have hc0 : 0 ≤ sgC (fun c => if M v c = 1 ∧ (c : Int) ≠ -1 ∧ J c = true then (1 : Int) else 0) n := sgC_nn fun i _ => by split <;> omega
  rw [hsum] at hnb
  cases hJv : J v with
  | true =>
    have hex := ri_exact hM hT e (J := J) hv hJv
    have hB := hpos v hv
    have hqv := qt_rng (t := (riR M e J n K v (-1)).1) hB
    have hdv : dtR M e J n K v = qtR (riR M e J n K v (-1)) := if_pos hJv
    have hlo : sgC (fun c => if M v c = 1 ∧ (c : Int) ≠ -1 ∧ J c = true then (riR M e J n K c (-1)).1 else 0) n ≤ sgC (fun c => (riR M e J n K v (-1)).2.1 * (if M v c = 1 ∧ (c : Int) ≠ -1 ∧ J c = true then qtR (riR M e J n K c (-1)) else 0)) n := sgC_mono fun c hc => by
      by_cases h : M v c = 1 ∧ (c : Int) ≠ -1 ∧ J c = true
      · rw [if_pos h, if_pos h]
        have h5 := (ri_two hM hT e hv hc (hM.iff hv hc h.1) hJv h.2.2).1
        have h6 := (qt_rng (t := (riR M e J n K c (-1)).1) (hpos c hc)).1
        rw [← h5, Int.mul_comm]; exact h6
      · rw [if_neg h, if_neg h, Int.mul_zero]; exact Int.le_refl _
    have hhi : sgC (fun c => (riR M e J n K v (-1)).2.1 * (if M v c = 1 ∧ (c : Int) ≠ -1 ∧ J c = true then qtR (riR M e J n K c (-1)) else 0)) n ≤ sgC (fun c => (if M v c = 1 ∧ (c : Int) ≠ -1 ∧ J c = true then (riR M e J n K c (-1)).1 else 0) + (riR M e J n K v (-1)).2.1 * (if M v c = 1 ∧ (c : Int) ≠ -1 ∧ J c = true then (1 : Int) else 0)) n := sgC_mono fun c hc => by
      by_cases h : M v c = 1 ∧ (c : Int) ≠ -1 ∧ J c = true
      · rw [if_pos h, if_pos h, if_pos h]
        have h5 := (ri_two hM hT e hv hc (hM.iff hv hc h.1) hJv h.2.2).1
        have h6 := (qt_rng (t := (riR M e J n K c (-1)).1) (hpos c hc)).2
        have h7 : (riR M e J n K v (-1)).2.1 * qtR (riR M e J n K c (-1)) = qtR (riR M e J n K c (-1)) * (riR M e J n K c (-1)).2.1 := by rw [← h5, Int.mul_comm]
        unfold qtR at h7 ⊢
        omega
      · rw [if_neg h, if_neg h, if_neg h]; simp
    rw [sgC_smul] at hlo hhi
    rw [sgC_add, sgC_smul] at hhi
    rw [hex] at hlo hhi
    rw [hdv] at hnb
    unfold qtR at hnb hlo hhi
    have hsz : sgC (fun k => M v k * dtR M e J n K k) n = sgC (fun k => M v k * dtR M e J n K k) n := rfl
    generalize sgC (fun k => M v k * dtR M e J n K k) n = X at *
    generalize sgC (fun c => if M v c = 1 ∧ (c : Int) ≠ -1 ∧ J c = true then ((riR M e J n K c (-1)).1 + (riR M e J n K c (-1)).2.1 - 1) / (riR M e J n K c (-1)).2.1 else 0) n = Y at *
    generalize sgC (fun c => if M v c = 1 ∧ (c : Int) ≠ -1 ∧ J c = true then (1 : Int) else 0) n = Z at *
    have hd0 : 0 < -(M v v) := by have := hM.neg v hv; omega
    generalize -(M v v) = d at *
    generalize (riR M e J n K v (-1)).2.1 = B at *
    generalize (riR M e J n K v (-1)).1 = T at *
    generalize (T + B - 1) / B = q at *
    have k1 := Int.mul_le_mul_of_nonneg_left hqv.1 (Int.le_of_lt hd0)
    have k2 := Int.mul_le_mul_of_nonneg_left hqv.2 (Int.le_of_lt hd0)
    refine ⟨?_, fun _ => ?_, fun h => by cases h⟩
    · apply Classical.byContradiction
      intro hn
      have h5 : B * (e v - X) ≤ B * (-(Z : Int) - 1) := Int.mul_le_mul_of_nonneg_left (by omega) (by omega)
      have h6 : e v - X = e v - Y + d * q := by omega
      rw [h6] at h5
      grind
    · apply Classical.byContradiction
      intro hn
      have h5 : B * (d + 1) ≤ B * (e v - X) := Int.mul_le_mul_of_nonneg_left (by omega) (by omega)
      have h6 : e v - X = e v - Y + d * q := by omega
      rw [h6] at h5
      grind
  | false =>
    have hdv : dtR M e J n K v = 0 := hq0 v hJv
    rw [hdv, Int.mul_zero, Int.add_zero] at hnb
    have hsame : ∀ c, c < n → M v c = 1 → riR M e J n K c (v : Int) = riR M e J n K c (-1) := fun c hc h1 => by
      have ha := hM.iff hv hc h1
      rw [ri_eq hM hT e J hc (.inl rfl), ri_eq hM hT e J hc (.inr ⟨v, rfl, hv, ha⟩)]
      have : ∀ m, m ≤ n → rfN M J (fun x => riR M e J n K x (c : Int)) c (v : Int) (-(e c), -(M c c), 1) m = rfN M J (fun x => riR M e J n K x (c : Int)) c (-1) (-(e c), -(M c c), 1) m := by
        intro m
        induction m with
        | zero => intro _; rfl
        | succ m ih =>
          intro hm
          by_cases hcc : M c m = 1 ∧ J m = true
          · have hmv : (m : Int) ≠ (v : Int) := fun e' => by
              have : m = v := by omega
              subst this; rw [hJv] at hcc; cases hcc.2
            rw [rfN_yes ⟨hcc.1, hmv, hcc.2⟩, rfN_yes ⟨hcc.1, by omega, hcc.2⟩, ih (by omega)]
          · rw [rfN_no (fun h => hcc ⟨h.1, h.2.2⟩), rfN_no (fun h => hcc ⟨h.1, h.2.2⟩), ih (by omega)]
      exact this n (Nat.le_refl n)
    have h1 := rf_cnt (M := M) (J := J) (o := fun x => riR M e J n K x (v : Int)) (v := v) (e := e v) (d := -(M v v)) (q := fun c => qtR (riR M e J n K c (-1))) (m := n) (fun c hc h => by
      have hp := ri_pos hM hT e J (mu c (-1) + 1) c (-1) hc (.inl rfl) (by omega)
      have h5 := (qt_rng (t := (riR M e J n K c (-1)).1) hp.2.1).2
      show 0 < (riR M e J n K c (v : Int)).2.1 ∧ _
      rw [hsame c hc h.1]
      refine ⟨hp.2.1, hp.2.2.1, ?_⟩
      unfold qtR
      omega)
    rw [← ri_eq hM hT e J hv (.inl rfl)] at h1
    have h2 := hout v hv hJv
    obtain ⟨h3, h4⟩ := h1
    have hY : 0 ≤ sgC (fun c => if M v c = 1 ∧ (c : Int) ≠ -1 ∧ J c = true then qtR (riR M e J n K c (-1)) else 0) n := sgC_nn fun c hc => by
      by_cases h : M v c = 1 ∧ (c : Int) ≠ -1 ∧ J c = true
      · rw [if_pos h]
        have := hq1 c hc h.2.2
        unfold dtR at this
        rw [if_pos h.2.2] at this
        omega
      · rw [if_neg h]; exact Int.le_refl _
    generalize sgC (fun k => M v k * dtR M e J n K k) n = X at *
    generalize sgC (fun c => if M v c = 1 ∧ (c : Int) ≠ -1 ∧ J c = true then qtR (riR M e J n K c (-1)) else 0) n = Y at *
    generalize sgC (fun c => if M v c = 1 ∧ (c : Int) ≠ -1 ∧ J c = true then (1 : Int) else 0) n = Z at *
    generalize riR M e J n K v (-1) = r at *
    refine ⟨?_, fun h => (by cases h), fun _ => by omega⟩
    have h5 : r.2.2 * Y ≤ r.2.2 * (e v + Z) := by omega
    have h6 : Y ≤ e v + Z := Int.le_of_mul_le_mul_left h5 h3
    omega
/-- Whatever leaves no excess negative is not less than the raised orders. -/
theorem ri_feas (hM : MX n M A z) (hT : TB n A sd mu K) (e : Nat → Int) (J : Nat → Bool) {y : Nat → Int} (hy : ∀ c, c < n → 0 ≤ y c) (hx : ∀ v, v < n → 0 ≤ e v - sgC (fun k => M v k * y k) n) : ∀ v, v < n → dtR M e J n K v ≤ y v := by
  intro v hv
  unfold dtR
  split
  · have h1 := ri_low hM hT e J y 1 (fun c hc _ => hy c hc) (fun v hv _ => by have := hx v hv; omega) (mu v (-1) + 1) v (-1) hv (.inl rfl) (by omega) (by have := hx v hv; omega)
    rw [if_pos rfl, Int.mul_zero, Int.add_zero, Int.one_mul] at h1
    exact qt_low (ri_pos hM hT e J (mu v (-1) + 1) v (-1) hv (.inl rfl) (by omega)).2.1 h1
  · exact hy v hv
end gen
end Go.Proofs.Ytohbgfmjnanlkaa
