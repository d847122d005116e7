/- Curvettes of codes: plain mathematics of chapter 6. Conditions: stated at each theorem. -/
import Derived.Test.YtohbgfmjnanlkaaPtM
import Derived.Test.YtohbgfmjnanlkaaPoM
import Derived.Test.YtohbgfmjnanlkaaPcS
namespace Go.Proofs.Ytohbgfmjnanlkaa
set_option linter.unusedVariables false
set_option linter.unusedSimpArgs false

/-- The numbers of a code are 0, or lead back to a point. -/
def CV (c : List Int) (n : Nat) : Prop := c.length = n ∧ ∀ a, a < n → c[a]?.getD 0 = 0 ∨ (2 ≤ c[a]?.getD 0 ∧ c[a]?.getD 0 ≤ (a : Int) + 1)
/-- By the code c, the point j is proximate to the point x. -/
def pcB (c : List Int) (x j : Nat) : Bool := decide (x < j ∧ (x + 1 = j ∨ c[j - 1]?.getD 0 = (j : Int) - (x : Int)))
/-- The multiplicities of the curvette, after t of the n rounds. -/
def cvF (c : List Int) (n : Nat) : Nat → Nat → Int
  | 0, x => if x = n then 1 else 0
  | t + 1, x => cvF c n t x + if pcB c x (n - t) = true then cvF c n t (n - t) else 0
def cvM (c : List Int) (n x : Nat) : Int := cvF c n n x
theorem pcB_lt {c : List Int} {x j : Nat} (h : pcB c x j = true) : x < j := by unfold pcB at h; simp at h; exact h.1
theorem pcB_next (c : List Int) (x : Nat) : pcB c x (x + 1) = true := by unfold pcB; simp
theorem pcB_out {c : List Int} {x j : Nat} (h : j ≤ x) : pcB c x j = false := by unfold pcB; simp; omega
/-- A number that is done stays. -/
theorem cvF_done {c : List Int} {n x t : Nat} (h : n - t ≤ x) : ∀ d, cvF c n (t + d) x = cvF c n t x
  | 0 => rfl
  | d + 1 => by
    show cvF c n (t + d) x + (if pcB c x (n - (t + d)) = true then _ else 0) = _
    rw [pcB_out (show n - (t + d) ≤ x by omega), cvF_done h d]; simp
theorem cvF_M {c : List Int} {n x t : Nat} (h : n - t ≤ x) (ht : t ≤ n) : cvF c n t x = cvM c n x := by
  have := cvF_done (c := c) h (n - t)
  unfold cvM
  rw [← this]; congr 1; omega
/-- The rounds, as sums. -/
theorem cvF_sg {c : List Int} {n x : Nat} : ∀ t, t ≤ n → cvF c n t x = (if x = n then 1 else 0) + sg (fun s => if pcB c x (n - s) = true then cvM c n (n - s) else 0) t
  | 0, _ => by simp [cvF, sg]
  | t + 1, h => by
    show cvF c n t x + (if pcB c x (n - t) = true then cvF c n t (n - t) else 0) = (if x = n then 1 else 0) + (sg _ t + _)
    rw [cvF_sg t (by omega), cvF_M (x := n - t) (Nat.le_refl _) (by omega)]
    dsimp only
    omega
theorem cvM_last (c : List Int) (n : Nat) : cvM c n n = 1 := by
  rw [← cvF_M (t := 0) (by omega) (by omega)]; simp [cvF]
theorem cvM_sg {c : List Int} {n x : Nat} (h : x < n) : cvM c n x = sg (fun s => if pcB c x (n - s) = true then cvM c n (n - s) else 0) n := by
  have := cvF_sg (c := c) (x := x) n (Nat.le_refl _)
  rw [if_neg (by omega)] at this
  unfold cvM at this ⊢
  omega
theorem sg_one {F : Nat → Int} : ∀ {n s : Nat}, (∀ i, i < n → 0 ≤ F i) → s < n → F s ≤ sg F n
  | 0, _, _, h => by omega
  | n + 1, s, h, hs => by
    have h1 := sg_nn (n := n) (fun i hi => h i (by omega))
    have h2 := h n (by omega)
    show F s ≤ sg F n + F n
    by_cases e : s = n
    · subst e; omega
    · have := sg_one (n := n) (s := s) (fun i hi => h i (by omega)) (by omega)
      omega
theorem cvM_pos {c : List Int} {n : Nat} : ∀ d, d ≤ n → 1 ≤ cvM c n (n - d) := by
  intro d
  induction d using Nat.strongRecOn with
  | ind d ih =>
    intro hd
    cases d with
    | zero => rw [Nat.sub_zero, cvM_last]; exact Int.le_refl _
    | succ d =>
      rw [cvM_sg (by omega)]
      have hnn : ∀ i, i < n → 0 ≤ (fun s => if pcB c (n - (d + 1)) (n - s) = true then cvM c n (n - s) else 0) i := fun i hi => by
        show 0 ≤ if pcB c (n - (d + 1)) (n - i) = true then cvM c n (n - i) else 0
        split
        · rename_i hp
          have := pcB_lt hp
          have := ih i (by omega) (by omega)
          omega
        · exact Int.le_refl _
      have h1 := sg_one hnn (s := d) (by omega)
      have h2 : pcB c (n - (d + 1)) (n - d) = true := by
        have := pcB_next c (n - (d + 1))
        rwa [show n - (d + 1) + 1 = n - d by omega] at this
      rw [if_pos h2] at h1
      have := ih d (by omega) (by omega)
      omega
theorem cvM_ge {c : List Int} {n x : Nat} (h : x ≤ n) : 1 ≤ cvM c n x := by
  have := cvM_pos (c := c) (n := n) (n - x) (by omega)
  rwa [show n - (n - x) = x by omega] at this
/-- Partial numbers are not negative and bounded while those behind are. -/
theorem cvF_range {c : List Int} {n x t : Nat} (ht : t ≤ n) (h : ∀ s, s < t → cvM c n (n - s) ≤ 64) : 0 ≤ cvF c n t x ∧ cvF c n t x ≤ 64 * t + 1 := by
  rw [cvF_sg t ht]
  have h1 : 0 ≤ sg (fun s => if pcB c x (n - s) = true then cvM c n (n - s) else 0) t := sg_nn fun s hs => by
    show 0 ≤ if pcB c x (n - s) = true then cvM c n (n - s) else 0
    split
    · have := cvM_ge (c := c) (n := n) (x := n - s) (by omega); omega
    · exact Int.le_refl _
  have h2 : sg (fun s => if pcB c x (n - s) = true then cvM c n (n - s) else 0) t ≤ 64 * t := sg_le fun s hs => by
    show (if pcB c x (n - s) = true then cvM c n (n - s) else 0) ≤ 64
    split
    · exact h s hs
    · omega
  split <;> omega
def cvOK (c : List Int) (n : Nat) : Bool := (List.range (n + 1)).all fun x => decide (cvM c n x ≤ 64)
theorem cvOK_true {c : List Int} {n : Nat} : cvOK c n = true ↔ ∀ x, x ≤ n → cvM c n x ≤ 64 := by
  unfold cvOK
  simp only [List.all_eq_true, List.mem_range, decide_eq_true_eq]
  exact ⟨fun h x hx => h x (by omega), fun h x hx => h x (by omega)⟩
theorem cvOK_false {c : List Int} {n x : Nat} (hx : x ≤ n) (h : 64 < cvM c n x) : cvOK c n = false := by
  cases hb : cvOK c n
  · rfl
  · have := cvOK_true.1 hb x hx; omega
def cvL (c : List Int) (n : Nat) : List Int := (List.range (n + 1)).map fun x => cvM c n x
theorem cvL_len (c : List Int) (n : Nat) : (cvL c n).length = n + 1 := by simp [cvL]
theorem cvL_at {c : List Int} {n x : Nat} (h : x ≤ n) : (cvL c n)[x]?.getD 0 = cvM c n x := by
  unfold cvL
  rw [List.getElem?_map, List.getElem?_range (by omega)]; rfl

/-- Codes are such lists. -/
theorem cd_vals : ∀ {r : List Int} {b : Int} {f : Bool} {p : Nat}, cdOK b f r = true → (0 ≤ b ∧ b ≤ (p : Int)) → (f = false → 1 ≤ p) → ∀ a, a < r.length → r[a]?.getD 0 = 0 ∨ (2 ≤ r[a]?.getD 0 ∧ r[a]?.getD 0 ≤ ((p + a : Nat) : Int) + 1)
  | [], _, _, _, _, _, _, a, h => by simp at h
  | z :: r, b, f, p, h, hb, hf, a, ha => by
    simp only [cdOK, Bool.and_eq_true, Bool.or_eq_true, Bool.not_eq_true', decide_eq_true_eq] at h
    obtain ⟨h1, h2⟩ := h
    have hz : z = 0 ∨ (2 ≤ z ∧ z ≤ (p : Int) + 1) := by
      rcases h1 with h1 | ⟨h1, h3⟩
      · exact .inl h1
      · have := hf h1
        rcases h3 with h3 | ⟨h3, h4⟩
        · right; omega
        · by_cases e : b = 1
          · right; omega
          · right; omega
    cases a with
    | zero => simpa using hz
    | succ a =>
      have h5 := cd_vals (p := p + 1) h2 (by omega) (fun _ => by omega) a (by simpa using ha)
      simp only [List.getElem?_cons_succ]
      rw [show p + (a + 1) = p + 1 + a by omega]
      exact h5
theorem isC_cv {c : List Int} (h : isC c = true) : CV c c.length := by
  unfold isC at h
  simp only [Bool.and_eq_true] at h
  refine ⟨rfl, fun a ha => ?_⟩
  have := cd_vals (p := 0) h.1 (by omega) (fun h => by cases h) a ha
  simpa using this
/-- The codes of the points of a branch are such lists, and lead back by proximity. -/
theorem cdL_cv {m : List Int} {n : Nat} (h : MQ m (n + 1)) : CV (cdL m (n + 1)) n := by
  refine ⟨by rw [cdL_len]; omega, fun a ha => ?_⟩
  rw [cdL_at (by omega)]
  have := (prx_near h (j := a + 1) (by omega)).2
  omega
theorem cdI_pr {m : List Int} {n j x : Nat} (h : MQ m n) (hj : j < n) (hx : x + 1 < j) (hc : cdI m n j = (j : Int) - (x : Int)) : PR m x j = true := by
  obtain ⟨d, rfl⟩ : ∃ d, n = j + d := ⟨n - j, by omega⟩
  rw [(prx_stop (m := m) (j := j) d).2] at hc
  obtain ⟨i, rfl⟩ : ∃ i, j = i + 1 := ⟨j - 1, by omega⟩
  have e4 : cdI m (i + 1) (i + 1) = cdI m i (i + 1) := by show (if _ then _ else _) = _; rw [if_neg (by omega)]
  rw [e4] at hc
  rcases prx_before h hj i (Nat.le_refl _) with ⟨h1, h2⟩ | ⟨y, h1, h2, h3, h4⟩
  · omega
  · have : y = x := by omega
    rw [← this]; exact h2
theorem pcB_pr {m : List Int} {n x j : Nat} (h : MQ m (n + 1)) (hj : j ≤ n) (hp : pcB (cdL m (n + 1)) x j = true) : PR m x j = true := by
  unfold pcB at hp
  simp only [decide_eq_true_eq] at hp
  obtain ⟨h1, h2⟩ := hp
  by_cases e : x + 1 = j
  · subst e; exact pr_near h (by omega)
  · have h3 : (cdL m (n + 1))[j - 1]?.getD 0 = (j : Int) - (x : Int) := by rcases h2 with h2 | h2; (exact absurd h2 e); exact h2
    rw [cdL_at (by omega), show j - 1 + 1 = j by omega] at h3
    exact cdI_pr h (by omega) (by omega) h3
theorem pw_sg (m : List Int) (i : Nat) : ∀ t, pw m i t = sg (fun j => if PR m i j = true then m[j]?.getD 0 else 0) t
  | 0 => rfl
  | t + 1 => by show pw m i t + _ = sg _ t + _; rw [pw_sg m i t]
theorem sg_rev (F : Nat → Int) : ∀ n, sg (fun s => F (n - s)) n = sg (fun s => F (s + 1)) n := by
  intro n
  have key : ∀ (n : Nat) (F : Nat → Int), sg F (n + 1) = F 0 + sg (fun s => F (s + 1)) n := by
    intro n
    induction n with
    | zero => intro F; simp [sg]
    | succ n ih =>
      intro F
      show sg F (n + 1) + F (n + 1) = F 0 + (sg (fun s => F (s + 1)) n + F (n + 1))
      rw [ih F]; omega
  induction n with
  | zero => rfl
  | succ n ih =>
    have h2 : sg (fun s => F (n + 1 - s)) (n + 1) = F (n + 1) + sg (fun s => F (n - s)) n := by
      rw [key n]
      congr 1
      exact sg_congr fun i hi => by congr 1; omega
    rw [h2, ih]
    show F (n + 1) + sg (fun s => F (s + 1)) n = sg (fun s => F (s + 1)) n + F (n + 1)
    omega
/-- The curvette at a point has multiplicities that are not greater than those of the branch. -/
theorem cvM_le {m : List Int} {n : Nat} (h : MQ m (n + 1)) : ∀ d, d ≤ n → cvM (cdL m (n + 1)) n (n - d) ≤ m[n - d]?.getD 0 := by
  intro d
  induction d using Nat.strongRecOn with
  | ind d ih =>
    intro hd
    cases d with
    | zero => rw [Nat.sub_zero, cvM_last]; exact (h.rng n (by omega)).1
    | succ d =>
      have h1 := (pw_le (i := n - (d + 1)) h (n + 1) (by omega) (Nat.le_refl _)).1
      rw [pw_sg] at h1
      have h2 : sg (fun s => if pcB (cdL m (n + 1)) (n - (d + 1)) (n - s) = true then cvM (cdL m (n + 1)) n (n - s) else 0) n ≤ sg (fun s => if PR m (n - (d + 1)) (n - s) = true then m[n - s]?.getD 0 else 0) n := by
        have h3 : 0 ≤ sg (fun s => (if PR m (n - (d + 1)) (n - s) = true then m[n - s]?.getD 0 else 0) - 1 * (if pcB (cdL m (n + 1)) (n - (d + 1)) (n - s) = true then cvM (cdL m (n + 1)) n (n - s) else 0)) n := sg_nn fun s hs => by
          show 0 ≤ (if PR m (n - (d + 1)) (n - s) = true then m[n - s]?.getD 0 else 0) - 1 * (if pcB (cdL m (n + 1)) (n - (d + 1)) (n - s) = true then cvM (cdL m (n + 1)) n (n - s) else 0)
          by_cases hp : pcB (cdL m (n + 1)) (n - (d + 1)) (n - s) = true
          · rw [if_pos hp, if_pos (pcB_pr h (by omega) hp)]
            have := pcB_lt hp
            have := ih s (by omega) (by omega)
            omega
          · rw [if_neg hp]
            split
            · have := (h.rng (n - s) (by omega)).1; omega
            · omega
        rw [sg_lin] at h3
        omega
      have h4 : sg (fun s => if PR m (n - (d + 1)) (n - s) = true then m[n - s]?.getD 0 else 0) n ≤ sg (fun j => if PR m (n - (d + 1)) j = true then m[j]?.getD 0 else 0) (n + 1) := by
        rw [sg_rev (fun j => if PR m (n - (d + 1)) j = true then m[j]?.getD 0 else 0) n]
        have key : ∀ (n : Nat) (F : Nat → Int), sg F (n + 1) = F 0 + sg (fun s => F (s + 1)) n := by
          intro n
          induction n with
          | zero => intro F; simp [sg]
          | succ n ih =>
            intro F
            show sg F (n + 1) + F (n + 1) = F 0 + (sg (fun s => F (s + 1)) n + F (n + 1))
            rw [ih F]; omega
        rw [key]
        rw [pr_out (show 0 ≤ n - (d + 1) by omega)]
        simp
      rw [cvM_sg (by omega)]
      omega
theorem cdL_ok {m : List Int} {n : Nat} (h : MQ m (n + 1)) : cvOK (cdL m (n + 1)) n = true := cvOK_true.2 fun x hx => by
  have := cvM_le h (n - x) (by omega)
  rw [show n - (n - x) = x by omega] at this
  have := (h.rng x (by omega)).2
  omega
end Go.Proofs.Ytohbgfmjnanlkaa
