/- Reading a branch from the blocks of its sequence: plain mathematics of chapter 4. Conditions: stated at each theorem. -/
import Derived.Test.YtncgkoanckefmaaRdM
namespace Go.Proofs.Ytncgkoanckefmaa
set_option linter.unusedVariables false

/-- The list of some blocks. -/
def flB (D : List (Int × Int)) : List Int := D.flatMap fun p => List.replicate p.2.toNat p.1
theorem flB_cons (p : Int × Int) (D : List (Int × Int)) : flB (p :: D) = List.replicate p.2.toNat p.1 ++ flB D := by simp [flB]
/-- Blocks of strictly descending numbers; the first one may be empty. -/
def wfB : List (Int × Int) → Prop
  | [] => True
  | [p] => 1 ≤ p.1 ∧ 0 ≤ p.2
  | p :: q :: r => q.1 < p.1 ∧ 0 ≤ p.2 ∧ 1 ≤ q.2 ∧ wfB (q :: r)
theorem wfB_tail {p : Int × Int} {D : List (Int × Int)} (h : wfB (p :: D)) : wfB D := by
  cases D with
  | nil => trivial
  | cons q r => exact h.2.2.2
theorem wfB_pos {p : Int × Int} {D : List (Int × Int)} (h : wfB (p :: D)) : 1 ≤ p.1 ∧ 0 ≤ p.2 := by
  induction D generalizing p with
  | nil => exact h
  | cons q r ih =>
    have := ih h.2.2.2
    exact ⟨by have := h.1; omega, h.2.1⟩
theorem wfB_set {p : Int × Int} {D : List (Int × Int)} {c : Int} (h : wfB (p :: D)) (hc : 0 ≤ c) : wfB ((p.1, c) :: D) := by
  cases D with
  | nil => exact ⟨h.1, hc⟩
  | cons q r => exact ⟨h.1, hc, h.2.2.1, h.2.2.2⟩
theorem lead_rep (x : Int) : ∀ (c : Nat) (R : List Int), lead x (List.replicate c x ++ R) = c + lead x R
  | 0, R => by simp
  | c + 1, R => by
    rw [List.replicate_succ, List.cons_append, lead, if_pos rfl, lead_rep x c R]; omega
theorem lead_flB {p : Int × Int} {D : List (Int × Int)} (h : wfB (p :: D)) : lead p.1 (flB (p :: D)) = p.2.toNat := by
  rw [flB_cons, lead_rep]
  cases D with
  | nil => rfl
  | cons q r =>
    have h1 := h.1
    have h2 := h.2.2.1
    obtain ⟨k, hk⟩ : ∃ k, q.2.toNat = k + 1 := ⟨q.2.toNat - 1, by omega⟩
    rw [flB_cons, hk, List.replicate_succ, List.cons_append, lead, if_neg (by omega)]; rfl
/-- Another number than the first one does not stand at the beginning. -/
theorem lead_not {x y : Int} {D : List (Int × Int)} {c : Int} (hc : 1 ≤ c) (h : y ≠ x) : lead x (flB ((y, c) :: D)) = 0 := by
  obtain ⟨k, hk⟩ : ∃ k, c.toNat = k + 1 := ⟨c.toNat - 1, by omega⟩
  rw [flB_cons]
  show lead x (List.replicate c.toNat y ++ _) = 0
  rw [hk, List.replicate_succ, List.cons_append, lead, if_neg h]
theorem drop_flB {v c : Int} {D : List (Int × Int)} {q : Nat} (h : (q : Int) ≤ c) : (flB ((v, c) :: D)).drop q = flB ((v, c - q) :: D) := by
  rw [flB_cons, flB_cons]
  show (List.replicate c.toNat v ++ flB D).drop q = List.replicate (c - (q : Int)).toNat v ++ flB D
  rw [List.drop_append_of_le_length (by simp; omega), List.drop_replicate]
  congr 2
  omega
theorem flB_zero (v : Int) (D : List (Int × Int)) : flB ((v, 0) :: D) = flB D := by simp [flB_cons]
theorem flB_get {v c x c1 : Int} {D : List (Int × Int)} (hc : 0 ≤ c) (h1 : 1 ≤ c1) : (flB ((v, c) :: (x, c1) :: D))[c.toNat]?.getD 0 = x := by
  obtain ⟨k, hk⟩ : ∃ k, c1.toNat = k + 1 := ⟨c1.toNat - 1, by omega⟩
  rw [flB_cons, List.getElem?_append_right (by simp)]
  simp only [List.length_replicate, Nat.sub_self]
  rw [flB_cons]
  show (List.replicate c1.toNat x ++ _)[0]?.getD 0 = x
  rw [hk, List.replicate_succ]; rfl
/-- The first step of a run over blocks. -/
theorem eat_first {e c x c1 : Int} {D : List (Int × Int)} (h : wfB ((e, c) :: (x, c1) :: D)) :
    kk e (flB ((e, c) :: (x, c1) :: D)) = c * e + x ∧ eat (steps (c * e + x) e) e (flB ((e, c) :: (x, c1) :: D)) = eat (stL (e.toNat) e x) e (flB ((x, c1) :: D)) := by
  have hx := wfB_pos (wfB_tail h)
  have hc := h.2.1
  have hlt := h.1
  have h1 := h.2.2.1
  dsimp only at hx hc hlt h1
  have hl := lead_flB h
  dsimp only at hl
  have hg := flB_get (v := e) (x := x) (D := D) hc h1
  refine ⟨?_, ?_⟩
  · unfold kk
    rw [hl, hg]
    congr 2
    omega
  · have hq : (c * e + x) / e = c := by
      rw [Int.add_comm, Int.add_mul_ediv_right _ _ (by omega), Int.ediv_eq_zero_of_lt (by omega) hlt]; omega
    have hm : (c * e + x) % e = x := by
      rw [Int.add_comm, Int.add_mul_emod_self_right, Int.emod_eq_of_lt (by omega) hlt]
    unfold steps
    rw [stL, if_neg (by omega), hq, hm]
    simp only [eat]
    rw [if_neg (by rw [hl]; omega), drop_flB (q := c.toNat) (by omega)]
    rw [show c - (c.toNat : Int) = 0 by omega, flB_zero]
theorem stL_cons {f : Nat} {a b : Int} (hb : 1 ≤ b) : stL (f + 1) a b = (a / b, b) :: stL f b (a % b) := by rw [stL, if_neg (by omega)]
theorem stL_zero (f : Nat) (a : Int) : stL f a 0 = [] := by
  cases f with
  | zero => rfl
  | succ f => rw [stL, if_pos (Int.le_refl 0)]
theorem eat_cons (q r e : Int) (S : List (Int × Int)) (R : List Int) : eat ((q, r) :: S) e R = if (lead r R : Int) < q then none else eat S r (R.drop q.toNat) := rfl
/-- A step in between that can't be read. -/
theorem eat_mid_no {f : Nat} {e x c1 : Int} {D : List (Int × Int)} (hf : x.toNat < f + 1) (h : wfB ((x, c1) :: D)) (hx : x < e) (hm : ¬ e % x = 0) (hbad : c1 ≠ e / x ∨ D = [] ∨ ∃ y c2 D2, D = (y, c2) :: D2 ∧ y ≠ e % x) :
    eat (stL (f + 1) e x) e (flB ((x, c1) :: D)) = none := by
  have hp := wfB_pos h
  dsimp only at hp
  have h1 : 0 ≤ e % x := Int.emod_nonneg _ (by omega)
  have h2 : e % x < x := Int.emod_lt_of_pos _ (by omega)
  have hq0 : 0 ≤ e / x := Int.ediv_nonneg (by omega) (by omega)
  have hq2 : 1 ≤ x / (e % x) := by
    have := (Int.le_ediv_iff_mul_le (a := (1 : Int)) (b := x) (c := e % x) (by omega)).2 (by omega)
    exact this
  have hl := lead_flB h
  dsimp only at hl
  rw [stL_cons (by omega), eat_cons]
  by_cases hlt : (lead x (flB ((x, c1) :: D)) : Int) < e / x
  · rw [if_pos hlt]
  · rw [if_neg hlt]
    rw [hl] at hlt
    obtain ⟨f, rfl⟩ : ∃ f', f = f' + 1 := ⟨f - 1, by omega⟩
    rw [stL_cons (by omega), eat_cons, drop_flB (by omega)]
    have hz : lead (e % x) (flB ((x, c1 - ((e / x).toNat : Int)) :: D)) = 0 := by
      by_cases hc : c1 - ((e / x).toNat : Int) = 0
      · rw [hc, flB_zero]
        rcases hbad with hb | rfl | ⟨y, c2, D2, rfl, hy⟩
        · omega
        · rfl
        · exact lead_not (by have := h.2.2.1; exact this) hy
      · exact lead_not (by omega) (by omega)
    rw [if_pos (by rw [hz]; omega)]
/-- A step in between. -/
theorem eat_mid {f : Nat} {e x c1 c2 : Int} {D : List (Int × Int)} (h : wfB ((x, c1) :: (e % x, c2) :: D)) (hx : x < e) (hm : ¬ e % x = 0) (hc : c1 = e / x) :
    eat (stL (f + 1) e x) e (flB ((x, c1) :: (e % x, c2) :: D)) = eat (stL f x (e % x)) x (flB ((e % x, c2) :: D)) := by
  have hp := wfB_pos h
  dsimp only at hp
  have hl := lead_flB h
  dsimp only at hl
  have hq0 : 0 ≤ e / x := Int.ediv_nonneg (by omega) (by omega)
  rw [stL_cons (by omega), eat_cons, if_neg (by rw [hl, hc]; omega), drop_flB (by omega)]
  rw [hc, show e / x - ((e / x).toNat : Int) = 0 by omega, flB_zero]
/-- The last step. -/
theorem eat_last {f : Nat} {e x c1 : Int} {D : List (Int × Int)} (h : wfB ((x, c1) :: D)) (hx : x < e) (hm : e % x = 0) :
    eat (stL (f + 1) e x) e (flB ((x, c1) :: D)) = if c1 < e / x then none else some (x, flB ((x, c1 - e / x) :: D)) := by
  have hp := wfB_pos h
  dsimp only at hp
  have hl := lead_flB h
  dsimp only at hl
  have hq0 : 0 ≤ e / x := Int.ediv_nonneg (by omega) (by omega)
  rw [stL_cons (by omega), eat_cons, hm, stL_zero, hl]
  by_cases hlt : c1 < e / x
  · rw [if_pos hlt, if_pos (by omega)]
  · rw [if_neg hlt, if_neg (by omega), drop_flB (by omega)]
    show some (x, _) = some (x, _)
    rw [show ((e / x).toNat : Int) = e / x by omega]
/-- No number is greater than the one before it; the first one is at most e. -/
def dsc (e : Int) : List Int → Prop
  | [] => True
  | x :: r => x ≤ e ∧ dsc x r
theorem dsc_more {e e' : Int} {R : List Int} (h : dsc e R) (he : e ≤ e') : dsc e' R := by
  cases R with
  | nil => trivial
  | cons x r => exact ⟨by have := h.1; omega, h.2⟩
theorem dsc_rep {x : Int} : ∀ (c : Nat) {R : List Int}, dsc x R → dsc x (List.replicate c x ++ R)
  | 0, R, h => by simpa using h
  | c + 1, R, h => by
    rw [List.replicate_succ, List.cons_append]
    exact ⟨Int.le_refl _, dsc_rep c h⟩
theorem lead_take {x : Int} : ∀ {R : List Int} {q : Nat}, q ≤ lead x R → R = List.replicate q x ++ R.drop q
  | R, 0, _ => by simp
  | [], q + 1, h => by simp [lead] at h
  | y :: r, q + 1, h => by
    unfold lead at h
    split at h
    · rename_i hy
      subst hy
      have := lead_take (x := y) (R := r) (q := q) (by omega)
      rw [List.replicate_succ, List.cons_append, List.drop_succ_cons, ← this]
    · omega
theorem eat_dsc : ∀ (f : Nat) (a b e0 : Int) (R : List Int), 0 ≤ a → 1 ≤ b → b.toNat < f → ∀ e' R', eat (stL f a b) e0 R = some (e', R') → dsc e' R' → dsc b R
  | 0, _, b, _, _, _, _, h, _, _, _, _ => by omega
  | f + 1, a, b, e0, R, ha, hb, hf, e', R', h, hd => by
    rw [stL_cons hb, eat_cons] at h
    split at h
    · cases h
    · rename_i hl
      have hq0 : 0 ≤ a / b := Int.ediv_nonneg ha (by omega)
      have h1 : 0 ≤ a % b ∧ a % b < b := ⟨Int.emod_nonneg _ (by omega), Int.emod_lt_of_pos _ (by omega)⟩
      have hR := lead_take (x := b) (R := R) (q := (a / b).toNat) (by omega)
      rw [hR]
      refine dsc_rep _ ?_
      by_cases h0 : a % b = 0
      · rw [h0, stL_zero] at h
        simp only [eat, Option.some.injEq, Prod.mk.injEq] at h
        rw [← h.1, ← h.2] at hd; exact hd
      · exact dsc_more (eat_dsc f b (a % b) b _ (by omega) (by omega) (by omega) e' R' h hd) (by omega)
theorem ones_dsc : ∀ {R : List Int}, lead 1 R = R.length → dsc 1 R
  | [], _ => trivial
  | x :: r, h => by
    unfold lead at h
    split at h
    · rename_i hx
      exact ⟨by omega, by rw [hx]; exact ones_dsc (by simpa using h)⟩
    · simp at h
/-- What can be read descends. -/
theorem rd_dsc : ∀ (f : Nat) (e t : Int) (R : List Int), 1 ≤ e → (∀ x ∈ R, (1 : Int) ≤ x) → ∀ T R', rd f e t R = some (T, R') → lead 1 R' = R'.length → dsc e R
  | 0, _, _, _, _, _, _, _, h, _ => by cases h
  | f + 1, e, t, R, he, hR, T, R', h, h1 => by
    rw [rd] at h
    split at h
    · rename_i hle
      simp only [Option.some.injEq, Prod.mk.injEq] at h
      rw [← h.2] at h1
      have : e = 1 := by omega
      subst this
      exact ones_dsc h1
    · split at h
      · cases h
      · rename_i hlen
        split at h
        · cases h
        · rename_i p hp
          split at h
          · cases h
          · rename_i y hy
            obtain ⟨e', R2⟩ := p
            obtain ⟨T2, R3⟩ := y
            simp only [Option.some.injEq, Prod.mk.injEq] at h
            have hl : lead e R < R.length := by have := lead_le e R; omega
            have hless := eat_less he hR hl hp
            have hk0 : 0 ≤ kk e R := by
              unfold kk
              have h5 : 0 ≤ (lead e R : Int) * e := Int.mul_nonneg (by omega) (by omega)
              have := hless.2.1
              omega
            have hsub : ∀ x ∈ R2, (1 : Int) ≤ x := by
              have : ∀ (S : List (Int × Int)) (e0 : Int) (R0 : List Int) (e1 : Int) (R1 : List Int), eat S e0 R0 = some (e1, R1) → ∀ x ∈ R1, x ∈ R0 := by
                intro S
                induction S with
                | nil => intro e0 R0 e1 R1 h x hx; simp only [eat, Option.some.injEq, Prod.mk.injEq] at h; rw [h.2]; exact hx
                | cons q S ih =>
                  intro e0 R0 e1 R1 h x hx
                  obtain ⟨q1, r1⟩ := q
                  rw [eat_cons] at h
                  split at h
                  · cases h
                  · exact List.mem_of_mem_drop (ih _ _ _ _ h x hx)
              exact fun x hx => hR x (this _ _ _ _ _ hp x hx)
            have ih := rd_dsc f e' (t + kk e R) R2 hless.1.1 hsub T2 R3 hy (by rw [h.2]; exact h1)
            exact eat_dsc (e.toNat + 1) (kk e R) e e R hk0 he (by omega) e' R2 hp ih
theorem bs_dsc {L : List Int} (h : sqlB L = true) (hb : bsB L = true) : dsc (L[0]?.getD 0) L := by
  obtain ⟨⟨h1, h2⟩, h3⟩ := sql_yes h
  unfold bsB at hb
  split at hb
  · cases hb
  · rename_i p hp
    simp only [Bool.and_eq_true, decide_eq_true_eq] at hb
    have h0 : (1 : Int) ≤ L[0]?.getD 0 := by
      have := (h3 L[0] (List.getElem_mem (by omega))).1
      simpa [show 0 < L.length by omega] using this
    exact rd_dsc 65 _ 0 L h0 (fun x hx => (h3 x hx).1) p.1 p.2 hp hb.2
theorem dsc_at : ∀ {e : Int} {L : List Int} {i : Nat}, dsc e L → i + 1 < L.length → L[i + 1]?.getD 0 ≤ L[i]?.getD 0
  | e, [], i, _, hi => by simp at hi
  | e, x :: r, 0, h, hi => by
    cases r with
    | nil => simp at hi
    | cons y s => simpa using h.2.1
  | e, x :: r, i + 1, h, hi => by
    have := dsc_at (e := x) (L := r) (i := i) h.2 (by simpa using hi)
    simpa using this
theorem dsc_of : ∀ {L : List Int} {e : Int}, (0 < L.length → L[0]?.getD 0 ≤ e) → (∀ i, i + 1 < L.length → L[i + 1]?.getD 0 ≤ L[i]?.getD 0) → dsc e L
  | [], _, _, _ => trivial
  | x :: r, e, h0, h => by
    refine ⟨by simpa using h0 (by simp), dsc_of (fun hr => by simpa using h 0 (by simpa using hr)) (fun i hi => by simpa using h (i + 1) (by simpa using hi))⟩
/-- The blocks of a list make it up, and they descend if it does. -/
theorem flB_bk : ∀ (L : List Int), flB (bkL L) = L
  | [] => rfl
  | x :: r => by
    have ih := flB_bk r
    cases h : bkL r with
    | nil =>
      rw [bk_none h]
      rw [h] at ih
      have : r = [] := ih.symm
      subst this; rfl
    | cons p q =>
      obtain ⟨y, k⟩ := p
      have hk := (bk_bound r).2 (y, k) (by rw [h]; simp)
      rw [h] at ih
      by_cases hy : y = x
      · subst hy
        rw [bk_same h]
        conv => rhs; rw [← ih]
        rw [flB_cons, flB_cons]
        show List.replicate (k + 1).toNat y ++ _ = y :: (List.replicate k.toNat y ++ _)
        rw [show (k + 1).toNat = k.toNat + 1 by dsimp only at hk; omega, List.replicate_succ]; rfl
      · rw [bk_other h hy]
        conv => rhs; rw [← ih]
        rw [flB_cons]; rfl
theorem wfB_bk : ∀ {L : List Int} {e : Int}, dsc e L → (∀ x ∈ L, (1 : Int) ≤ x) → wfB (bkL L)
  | [], _, _, _ => trivial
  | x :: r, e, h, h1 => by
    have ih := wfB_bk (L := r) h.2 (fun y hy => h1 y (List.mem_cons_of_mem _ hy))
    have hx := h1 x (List.mem_cons_self ..)
    cases hb : bkL r with
    | nil => rw [bk_none hb]; exact ⟨hx, by show (0 : Int) ≤ 1; decide⟩
    | cons p q =>
      obtain ⟨y, k⟩ := p
      have hk := (bk_bound r).2 (y, k) (by rw [hb]; simp)
      rw [hb] at ih
      dsimp only at hk
      by_cases hy : y = x
      · subst hy
        rw [bk_same hb]
        exact wfB_set ih (by omega)
      · rw [bk_other hb hy]
        refine ⟨?_, by show (0 : Int) ≤ 1; decide, hk.1, ih⟩
        have hyx : y ≤ x := by
          cases r with
          | nil => simp [bkL] at hb
          | cons z s =>
            have e1 := bk_lead s z
            rw [hb] at e1
            have e2 : y = z := by
              have := (List.cons.inj e1).1
              simpa using congrArg Prod.fst this
            rw [e2]; exact h.2.1
        show y < x
        omega
theorem bk_first {x : Int} {r : List Int} : ∃ k q, bkL (x :: r) = (x, k) :: q ∧ 1 ≤ k := ⟨_, _, bk_lead r x, by omega⟩
end Go.Proofs.Ytncgkoanckefmaa
