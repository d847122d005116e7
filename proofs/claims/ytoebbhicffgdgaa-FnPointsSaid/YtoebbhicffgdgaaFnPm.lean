/- FnPoints: the mathematics of a branch's points. No condition. -/
import Derived.Test.YtoebbhicffgdgaaPoW
import Derived.Test.YtoebbhicffgdgaaPcS
import Derived.Test.YtoebbhicffgdgaaCvM
namespace Go.Proofs.Ytoebbhicffgdgaa
open Go.ChangeShapes Go.WideShapes Go.ChangeAt Go.RowKit Go.Deep
set_option linter.unusedVariables false
set_option linter.unusedSimpArgs false

theorem cdI_zero {m : List Int} {n : Nat} : cdI m n 0 = 0 := by
  have := (prx_stop (m := m) (j := 0) n).2
  rw [Nat.zero_add] at this; rw [this]; rfl
theorem cdI_first {m : List Int} {n : Nat} (h : 1 ≤ n) : cdI m n 1 = 0 := by
  obtain ⟨d, rfl⟩ : ∃ d, n = 1 + d := ⟨n - 1, by omega⟩
  rw [(prx_stop (m := m) (j := 1) d).2]
  show (if _ then _ else _) = _
  rw [if_neg (by omega)]; rfl
/-- The point i that is the code of j: the only one before j - 1 to which j is proximate. -/
theorem cdI_of_pr {m : List Int} {n i j : Nat} (h : MQ m n) (hj : j < n) (hi : i + 1 < j) (hp : PR m i j = true) : cdI m n j = (j : Int) - (i : Int) := by
  obtain ⟨d, rfl⟩ : ∃ d, n = j + d := ⟨n - j, by omega⟩
  rw [(prx_stop (m := m) (j := j) d).2]
  have go : ∀ e, i + 1 + e ≤ j → cdI m (i + 1 + e) j = (j : Int) - (i : Int) := by
    intro e
    induction e with
    | zero => intro _; show (if _ then _ else _) = _; rw [if_pos ⟨hi, hp⟩]
    | succ e ih =>
      intro he
      show (if i + 1 + e + 1 < j ∧ PR m (i + 1 + e) j = true then _ else _) = _
      rw [if_neg]
      · exact ih (by omega)
      · rintro ⟨h1, h2⟩
        have := pr_once h (i := i) (i' := i + 1 + e) (j := j) hj hp (by omega) (by omega)
        rw [this] at h2; cases h2
  have := go (j - (i + 1)) (by omega)
  rwa [show i + 1 + (j - (i + 1)) = j by omega] at this
/-- A code is 0, 2, or one more than the one before it. -/
theorem cdI_next {m : List Int} {n j : Nat} (h : MQ m n) (hj : j + 1 < n) (h1 : 1 ≤ j) : cdI m n (j + 1) = 0 ∨ cdI m n (j + 1) = 2 ∨ (cdI m n j ≠ 0 ∧ cdI m n (j + 1) = cdI m n j + 1) := by
  have hr := (prx_near h hj).2
  rcases hr with hr | hr
  · exact .inl hr
  · obtain ⟨x, hx⟩ : ∃ x : Nat, cdI m n (j + 1) = ((j + 1 : Nat) : Int) - (x : Int) := ⟨((j + 1 : Nat) - cdI m n (j + 1)).toNat, by omega⟩
    have hp := cdI_pr h hj (x := x) (by omega) hx
    by_cases e : x + 1 = j
    · right; left; omega
    · have hq := pr_prev h hj (by omega) hp
      have := cdI_of_pr h (j := j) (by omega) (i := x) (by omega) hq
      right; right; omega
theorem cdOK_ind : ∀ {r : List Int} {b : Int} {f : Bool}, (∀ z, r[0]? = some z → z = 0 ∨ (f = false ∧ (z = 2 ∨ (b ≠ 0 ∧ z = b + 1)))) → (∀ a, a + 1 < r.length → r[a + 1]?.getD 0 = 0 ∨ r[a + 1]?.getD 0 = 2 ∨ (r[a]?.getD 0 ≠ 0 ∧ r[a + 1]?.getD 0 = r[a]?.getD 0 + 1)) → cdOK b f r = true
  | [], _, _, _, _ => rfl
  | z :: r, b, f, h0, hs => by
    simp only [cdOK, Bool.and_eq_true, Bool.or_eq_true, Bool.not_eq_true', decide_eq_true_eq]
    refine ⟨?_, cdOK_ind (fun y hy => ?_) (fun a ha => ?_)⟩
    · rcases h0 z rfl with h | ⟨h, k⟩
      · exact .inl h
      · exact .inr ⟨h, k⟩
    · have hl : 0 + 1 < (z :: r).length := by
        cases r with
        | nil => simp at hy
        | cons a r => simp
      have := hs 0 hl
      simp only [List.getElem?_cons_succ, List.getElem?_cons_zero, hy, Option.getD_some] at this
      rcases this with h | h | h
      · exact .inl h
      · exact .inr ⟨rfl, .inl h⟩
      · exact .inr ⟨rfl, .inr h⟩
    · have := hs (a + 1) (by simpa using ha)
      simpa using this
/-- The code of points of a branch is a code. -/
theorem isC_cdL {m : List Int} {n : Nat} (h : MQ m n) (hn : n ≤ 400) : isC (cdL m n) = true := by
  unfold isC
  rw [Bool.and_eq_true]
  refine ⟨cdOK_ind (fun z hz => ?_) (fun a ha => ?_), by rw [cdL_len]; simp; omega⟩
  · left
    by_cases hl : 0 < n - 1
    · have := cdL_at (m := m) hl
      rw [hz] at this
      rw [Option.getD_some] at this
      rw [this]; exact cdI_first (by omega)
    · have : (cdL m n)[0]? = none := by rw [List.getElem?_eq_none]; rw [cdL_len]; omega
      rw [this] at hz; cases hz
  · rw [cdL_len] at ha
    rw [cdL_at (by omega), cdL_at (by omega)]
    exact cdI_next h (j := a + 1) (by omega) (by omega)
/-- A point's own multiplicity is at least the sum of those proximate to it. -/
theorem pw_all {m : List Int} {n i : Nat} (h : MQ m n) (hi : i < n) : pw m i n ≤ m[i]?.getD 0 := (pw_le h n (by omega) (Nat.le_refl n)).1
theorem pw_nn {m : List Int} {n i : Nat} (h : MQ m n) : ∀ t, t ≤ n → 0 ≤ pw m i t := by
  intro t ht
  rw [pw_sg]
  exact sg_nn fun j hj => by
    by_cases e : PR m i j = true
    · simp only [e, if_true]; have := (h.rng j (by omega)).1; omega
    · simp only [e]; simp
/-- A place in the list of proximate points is there just if the point is proximate. -/
theorem prx_pr {m : List Int} {n i j : Nat} (h : MQ m n) (hj : j < n) : (i : Int) ∈ prx m n j ↔ PR m i j = true := by
  have go : ∀ I, (i : Int) ∈ prx m I j ↔ (i < I ∧ PR m i j = true) := by
    intro I
    induction I with
    | zero => simp [prx]
    | succ I ih =>
      show _ ∈ prx m I j ++ _ ↔ _
      rw [List.mem_append, ih]
      by_cases e : PR m I j = true
      · simp only [e, if_true, List.mem_singleton]
        constructor
        · rintro (⟨h1, h2⟩ | h1)
          · exact ⟨by omega, h2⟩
          · have : i = I := by omega
            subst this; exact ⟨by omega, e⟩
        · rintro ⟨h1, h2⟩
          by_cases q : i = I
          · right; omega
          · left; exact ⟨by omega, h2⟩
      · have e' : PR m I j = false := by simpa using e
        simp only [e', Bool.false_eq_true, if_false, List.not_mem_nil, or_false]
        constructor
        · rintro ⟨h1, h2⟩; exact ⟨by omega, h2⟩
        · rintro ⟨h1, h2⟩
          refine ⟨?_, h2⟩
          have : i ≠ I := fun q => by subst q; exact e h2
          omega
  rw [go]
  constructor
  · exact fun h => h.2
  · exact fun k => ⟨by have := (pr_true.1 k).1; omega, k⟩
end Go.Proofs.Ytoebbhicffgdgaa
