/- Unloading, plain mathematics: the curves that meet make a tree. Conditions: stated at each theorem. -/
import Derived.Test.YtohbgfmjnanlkaaUnM
namespace Go.Proofs.Ytohbgfmjnanlkaa
set_option linter.unusedVariables false
set_option linter.unusedSimpArgs false

/-- The point i is proximate to k. -/
def prB (P S : List Int) (i k : Nat) : Prop := (k : Int) ∈ nrC P S i
theorem pr_lt {P S : List Int} {n i k : Nat} (h : okAll P S n = true) (hi : i < n) (hp : prB P S i k) : k < i := by
  have := nr_mem h hi _ hp
  omega
theorem pr_cn {P S : List Int} {n i k : Nat} (h : okAll P S n = true) (hi : i < n) : (prB P S i k → cnQ (nrC P S i) k = 1) ∧ (¬ prB P S i k → cnQ (nrC P S i) k = 0) := by
  rw [cn_le h hi]
  constructor
  · intro hp; rw [if_pos (by simpa [prB] using hp)]
  · intro hp; rw [if_neg (by intro hc; exact hp (by simpa [prB] using hc))]
theorem nr_parts {P S : List Int} {i : Nat} {s p : Nat} (h : nrC P S i = [(s : Int), (p : Int)]) : S[i]?.getD 0 = (s : Int) ∧ P[i]?.getD 0 = (p : Int) := by
  unfold nrC at h
  by_cases h1 : S[i]?.getD 0 = -1
  · rw [if_pos h1] at h
    by_cases h2 : i = 0
    · rw [if_pos h2] at h; simp at h
    · rw [if_neg h2] at h; simp at h
  · rw [if_neg h1] at h
    by_cases h2 : i = 0
    · rw [if_pos h2] at h; simp at h
    · rw [if_neg h2] at h; simp at h; exact h
/-- A point with two: they are proximate themselves, and no other point has the same two. -/
theorem nr_two {P S : List Int} {n i s p : Nat} (h : okAll P S n = true) (hi : i < n) (hq : nrC P S i = [(s : Int), (p : Int)]) : prB P S p s ∧ ∀ j, j < i → nrC P S j ≠ [(s : Int), (p : Int)] := by
  have h0 : 0 < i := by
    rcases Nat.eq_zero_or_pos i with e | e
    · subst e; rw [(nr_zero h hi).1] at hq; cases hq
    · exact e
  have h1 := okAll_at h hi
  rw [okQ_pos h0] at h1
  obtain ⟨e1, e2⟩ := nr_parts hq
  rw [e1, e2] at h1
  simp only [Bool.and_eq_true, decide_eq_true_eq, Bool.or_eq_true, Int.toNat_natCast, Bool.not_eq_true'] at h1
  obtain ⟨_, h4⟩ := h1
  have h5 := h4.resolve_left (by omega)
  refine ⟨by simpa [prB] using h5.1, fun j hj hjq => ?_⟩
  obtain ⟨e3, e4⟩ := nr_parts hjq
  have h6 := h5.2
  unfold twinB at h6
  rw [List.any_eq_false] at h6
  have := h6 j (List.mem_range.2 hj)
  rw [e3, e4, e1, e2] at this
  simp at this
/-- Whoever is proximate to two points has just these two, in ascending order. -/
theorem pr_both {P S : List Int} {n j u v : Nat} (h : okAll P S n = true) (hj : j < n) (huv : u < v) (hu : prB P S j u) (hv : prB P S j v) : nrC P S j = [(u : Int), (v : Int)] := by
  have h0 : 0 < j := by have := pr_lt h hj hu; omega
  obtain ⟨p, _, hp, hq⟩ := nr_lt h j hj h0
  unfold prB at hu hv
  rcases hq with ⟨_, hq⟩ | ⟨s, _, hs2, hq⟩
  · rw [hq] at hu hv; simp at hu hv; omega
  · rw [hq] at hu hv ⊢
    simp only [List.mem_cons, List.not_mem_nil, or_false] at hu hv
    have e1 : u = s := by omega
    have e2 : v = p := by omega
    rw [e1, e2]
/-- Two curves meet, when the points before k are there. -/
def adjB (P S : List Int) (k u v : Nat) : Prop := (u < v ∧ prB P S v u ∨ v < u ∧ prB P S u v) ∧ ∀ j, j < k → ¬ (prB P S j u ∧ prB P S j v)
theorem adj_sym {P S : List Int} {k u v : Nat} (h : adjB P S k u v) : adjB P S k v u := ⟨h.1.symm, fun j hj hb => h.2 j hj hb.symm⟩
theorem adj_ne {P S : List Int} {k u v : Nat} (h : adjB P S k u v) : u ≠ v := by
  rcases h.1 with h | h <;> omega
theorem me_off {P S : List Int} {n u v : Nat} (h : okAll P S n = true) (hu : u < n) (hv : v < n) (huv : u < v) : meE P S n u v = cnQ (nrC P S v) u - sgC (fun j => cnQ (nrC P S j) u * cnQ (nrC P S j) v) n := by
  rw [me_pf h]
  have e : sgC (fun j => pfE P S j u * pfE P S j v) n = sgC (fun j => cnQ (nrC P S j) u * cnQ (nrC P S j) v - (if v = j then 1 else 0) * cnQ (nrC P S j) u) n := sgC_congr fun j hj => by
    unfold pfE
    by_cases e1 : j = u
    · subst e1
      rw [cn_self h hj (Nat.le_refl j), cn_self h hj (by omega), if_pos rfl, if_neg (by omega), if_neg (by omega)]; rfl
    · rw [if_neg e1]
      by_cases e2 : j = v
      · subst e2
        rw [if_pos rfl, cn_self h hj (Nat.le_refl j)]; omega
      · rw [if_neg e2, if_neg (fun e => e2 e.symm)]
        rw [Int.zero_sub, Int.zero_sub, Int.neg_mul_neg]; omega
  rw [e, sgC_sub, sgC_if_succ (fun j => cnQ (nrC P S j) u) v n hv]; omega
theorem me_adj {P S : List Int} {n u v : Nat} (h : okAll P S n = true) (hu : u < n) (hv : v < n) (hne : u ≠ v) : (adjB P S n u v → meE P S n u v = 1) ∧ (¬ adjB P S n u v → meE P S n u v = 0) := by
  suffices H : ∀ u v, u < n → v < n → u < v → (adjB P S n u v → meE P S n u v = 1) ∧ (¬ adjB P S n u v → meE P S n u v = 0) by
    rcases Nat.lt_or_gt_of_ne hne with e | e
    · exact H u v hu hv e
    · have := H v u hv hu e
      rw [me_sym]
      exact ⟨fun ha => this.1 (adj_sym ha), fun ha => this.2 (fun hb => ha (adj_sym hb))⟩
  intro u v hu hv huv
  rw [me_off h hu hv huv]
  by_cases h1 : prB P S v u
  · rw [(pr_cn h hv).1 h1]
    by_cases h2 : ∃ j, j < n ∧ prB P S j u ∧ prB P S j v
    · obtain ⟨j, hj, h3, h4⟩ := h2
      have hs : sgC (fun j => cnQ (nrC P S j) u * cnQ (nrC P S j) v) n = 1 := by
        rw [sgC_one hj (fun i hi hne => ?_), (pr_cn h hj).1 h3, (pr_cn h hj).1 h4]
        · rfl
        · by_cases h5 : prB P S i u
          · by_cases h6 : prB P S i v
            · exfalso
              have e1 := pr_both h hj huv h3 h4
              have e2 := pr_both h hi huv h5 h6
              rcases Nat.lt_or_gt_of_ne hne with e | e
              · exact (nr_two h hj e1).2 i e e2
              · exact (nr_two h hi e2).2 j e e1
            · rw [(pr_cn h hi).2 h6, Int.mul_zero]
          · rw [(pr_cn h hi).2 h5, Int.zero_mul]
      rw [hs]
      exact ⟨fun ha => absurd ⟨h3, h4⟩ (ha.2 j hj), fun _ => rfl⟩
    · have hs : sgC (fun j => cnQ (nrC P S j) u * cnQ (nrC P S j) v) n = 0 := by
        rw [sgC_congr (G := fun _ => 0) (fun i hi => ?_), sgC_zero]
        by_cases h5 : prB P S i u
        · have h6 : ¬ prB P S i v := fun h6 => h2 ⟨i, hi, h5, h6⟩
          rw [(pr_cn h hi).2 h6, Int.mul_zero]
        · rw [(pr_cn h hi).2 h5, Int.zero_mul]
      rw [hs]
      exact ⟨fun _ => rfl, fun ha => absurd ⟨.inl ⟨huv, h1⟩, fun j hj hb => h2 ⟨j, hj, hb⟩⟩ ha⟩
  · rw [(pr_cn h hv).2 h1]
    have hs : sgC (fun j => cnQ (nrC P S j) u * cnQ (nrC P S j) v) n = 0 := by
      rw [sgC_congr (G := fun _ => 0) (fun i hi => ?_), sgC_zero]
      by_cases h5 : prB P S i u
      · by_cases h6 : prB P S i v
        · exact absurd (nr_two h hi (pr_both h hi huv h5 h6)).1 h1
        · rw [(pr_cn h hi).2 h6, Int.mul_zero]
      · rw [(pr_cn h hi).2 h5, Int.zero_mul]
    rw [hs]
    exact ⟨fun ha => by rcases ha.1 with h9 | h9
                        · exact absurd h9.2 h1
                        · omega, fun _ => rfl⟩

/-- A tree with the root 0: parents and depths. -/
structure RT (n : Nat) (A : Nat → Nat → Prop) (π dep : Nat → Nat) : Prop where
  par : ∀ v, 0 < v → v < n → π v < n ∧ dep (π v) < dep v
  adj : ∀ u v, u < n → v < n → (A u v ↔ (0 < v ∧ π v = u) ∨ (0 < u ∧ π u = v))
theorem rt_free {P S : List Int} {n k p : Nat} {π dep : Nat → Nat} (h : okAll P S n = true) (hk : k < n) (h0 : 0 < k) (hp : p < k) (hq : nrC P S k = [(p : Int)]) (ht : RT k (adjB P S k) π dep) :
    RT (k + 1) (adjB P S (k + 1)) (fun x => if x = k then p else π x) (fun x => if x = k then dep p + 1 else dep x) := by
  have hpr : ∀ x, prB P S k x ↔ x = p := fun x => by unfold prB; rw [hq]; simp; omega
  constructor
  · intro v hv hvk
    by_cases e : v = k
    · subst e
      simp only [if_true]
      rw [if_neg (show ¬ p = v by omega)]
      omega
    · have := ht.par v hv (by omega)
      simp only [if_neg e]
      rw [if_neg (show ¬ π v = k by omega)]
      omega
  · have hold : ∀ u v, u < k → v < k → (adjB P S (k + 1) u v ↔ adjB P S k u v) := fun u v hu hv => by
      constructor
      · intro ha; exact ⟨ha.1, fun j hj => ha.2 j (by omega)⟩
      · intro ha
        refine ⟨ha.1, fun j hj hb => ?_⟩
        by_cases e : j = k
        · subst e
          have e1 := (hpr u).1 hb.1
          have e2 := (hpr v).1 hb.2
          exact adj_ne ha (by omega)
        · exact ha.2 j (by omega) hb
    have hnew : ∀ u, u < k → (adjB P S (k + 1) u k ↔ u = p) := fun u hu => by
      constructor
      · intro ha
        rcases ha.1 with h9 | h9
        · exact (hpr u).1 h9.2
        · omega
      · intro e
        refine ⟨.inl ⟨hu, (hpr u).2 e⟩, fun j hj hb => ?_⟩
        have := pr_lt h (show j < n by omega) hb.2
        omega
    intro u v hu hv
    by_cases e1 : v = k
    · subst e1
      by_cases e2 : u = v
      · subst e2
        constructor
        · intro ha; exact absurd rfl (adj_ne ha)
        · intro h9; simp at h9; omega
      · rw [hnew u (by omega)]
        have : 0 < u → π u < v := fun h9 => (ht.par u h9 (by omega)).1
        simp only [if_true, if_neg e2]
        constructor
        · intro e; exact .inl ⟨h0, e.symm⟩
        · rintro (h9 | h9)
          · exact h9.2.symm
          · have := this h9.1; omega
    · by_cases e2 : u = k
      · subst e2
        have hs : adjB P S (u + 1) u v ↔ adjB P S (u + 1) v u := ⟨adj_sym, adj_sym⟩
        rw [hs, hnew v (by omega)]
        have : 0 < v → π v < u := fun h9 => (ht.par v h9 (by omega)).1
        simp only [if_true, if_neg e1]
        constructor
        · intro e; exact .inr ⟨h0, e.symm⟩
        · rintro (h9 | h9)
          · have := this h9.1; omega
          · exact h9.2.symm
      · rw [hold u v (by omega) (by omega), ht.adj u v (by omega) (by omega)]
        simp only [if_neg e1, if_neg e2]
theorem rt_sub {P S : List Int} {n k a b : Nat} {π dep : Nat → Nat} (h : okAll P S n = true) (hk : k < n) (ha : a < k) (hb : b < k) (hb0 : 0 < b) (hab : π b = a) (hpr : ∀ x, prB P S k x ↔ x = a ∨ x = b) (ht : RT k (adjB P S k) π dep) :
    RT (k + 1) (adjB P S (k + 1)) (fun x => if x = k then a else if x = b then k else π x) (fun x => if x = k then 2 * dep a + 1 else 2 * dep x) := by
  have hd := (ht.par b hb0 hb).2
  rw [hab] at hd
  have hne : a ≠ b := fun e => by subst e; omega
  constructor
  · intro v hv hvk
    by_cases e : v = k
    · subst e
      simp only [if_true]
      rw [if_neg (show ¬ a = v by omega)]
      omega
    · by_cases e2 : v = b
      · subst e2
        simp only [if_neg e, if_true]
        omega
      · have := ht.par v hv (by omega)
        simp only [if_neg e, if_neg e2]
        rw [if_neg (show ¬ π v = k by omega)]
        omega
  · have hold : ∀ u v, u < k → v < k → (adjB P S (k + 1) u v ↔ adjB P S k u v ∧ ¬ (u = a ∧ v = b) ∧ ¬ (u = b ∧ v = a)) := fun u v hu hv => by
      constructor
      · intro h9
        have h8 := h9.2 k (by omega)
        rw [hpr, hpr] at h8
        exact ⟨⟨h9.1, fun j hj => h9.2 j (by omega)⟩, fun e => h8 ⟨.inl e.1, .inr e.2⟩, fun e => h8 ⟨.inr e.1, .inl e.2⟩⟩
      · rintro ⟨h9, h8, h7⟩
        refine ⟨h9.1, fun j hj hbb => ?_⟩
        by_cases e : j = k
        · subst e
          rw [hpr, hpr] at hbb
          have := adj_ne h9
          omega
        · exact h9.2 j (by omega) hbb
    have hnew : ∀ u, u < k → (adjB P S (k + 1) u k ↔ u = a ∨ u = b) := fun u hu => by
      constructor
      · intro h9
        rcases h9.1 with h8 | h8
        · exact (hpr u).1 h8.2
        · omega
      · intro e
        refine ⟨.inl ⟨hu, (hpr u).2 e⟩, fun j hj hb => ?_⟩
        have := pr_lt h (show j < n by omega) hb.2
        omega
    have hrec : ∀ u v, u < k → v < k → (adjB P S (k + 1) u v ↔ (0 < v ∧ (if v = b then k else π v) = u) ∨ (0 < u ∧ (if u = b then k else π u) = v)) := fun u v hu hv => by
      rw [hold u v hu hv, ht.adj u v hu hv]
      by_cases e1 : v = b
      · subst e1
        by_cases e2 : u = v
        · subst e2
          simp only [if_true]
          omega
        · rw [if_pos rfl, if_neg e2]
          constructor
          · rintro ⟨h9 | h9, h8, h7⟩
            · exact absurd ⟨by omega, rfl⟩ h8
            · exact .inr h9
          · rintro (h9 | h9)
            · omega
            · have := (ht.par u h9.1 hu).2
              rw [h9.2] at this
              refine ⟨.inr h9, ?_, ?_⟩
              · rintro ⟨rfl, _⟩; omega
              · omega
      · by_cases e2 : u = b
        · subst e2
          rw [if_pos rfl, if_neg e1]
          constructor
          · rintro ⟨h9 | h9, h8, h7⟩
            · exact .inl h9
            · exact absurd ⟨rfl, by omega⟩ h7
          · rintro (h9 | h9)
            · have := (ht.par v h9.1 hv).2
              rw [h9.2] at this
              refine ⟨.inl h9, ?_, ?_⟩
              · omega
              · rintro ⟨_, rfl⟩; omega
            · omega
        · rw [if_neg e1, if_neg e2]
          constructor
          · rintro ⟨h9, _⟩; exact h9
          · intro h9; exact ⟨h9, by omega, by omega⟩
    intro u v hu hv
    by_cases e1 : v = k
    · subst e1
      by_cases e2 : u = v
      · subst e2
        constructor
        · intro h9; exact absurd rfl (adj_ne h9)
        · intro h9; simp at h9; omega
      · rw [hnew u (by omega)]
        have : 0 < u → π u < v := fun h9 => (ht.par u h9 (by omega)).1
        simp only [if_true, if_neg e2]
        by_cases e3 : u = b
        · subst e3
          simp only [if_true]
          constructor
          · intro _; exact .inr ⟨hb0, trivial⟩
          · intro _; exact .inr trivial
        · rw [if_neg e3]
          constructor
          · intro e; exact .inl ⟨by omega, by omega⟩
          · rintro (h9 | h9)
            · exact .inl h9.2.symm
            · have := this h9.1; omega
    · by_cases e2 : u = k
      · subst e2
        have hs : adjB P S (u + 1) u v ↔ adjB P S (u + 1) v u := ⟨adj_sym, adj_sym⟩
        rw [hs, hnew v (by omega)]
        have : 0 < v → π v < u := fun h9 => (ht.par v h9 (by omega)).1
        simp only [if_true, if_neg e1]
        by_cases e3 : v = b
        · subst e3
          simp only [if_true]
          constructor
          · intro _; exact .inl ⟨hb0, trivial⟩
          · intro _; exact .inr trivial
        · rw [if_neg e3]
          constructor
          · intro e; exact .inr ⟨by omega, by omega⟩
          · rintro (h9 | h9)
            · have := this h9.1; omega
            · exact .inl h9.2.symm
      · simp only [if_neg e1, if_neg e2]
        exact hrec u v (by omega) (by omega)
theorem rt_all {P S : List Int} {n : Nat} (h : okAll P S n = true) : ∀ k, k < n → ∃ π dep, RT (k + 1) (adjB P S (k + 1)) π dep
  | 0, _ => ⟨fun _ => 0, fun _ => 0, fun v h0 h1 => by omega, fun u v hu hv => by
      have e1 : u = 0 := by omega
      have e2 : v = 0 := by omega
      subst e1; subst e2
      constructor
      · intro ha; exact absurd rfl (adj_ne ha)
      · intro h9; omega⟩
  | k + 1, hk => by
    obtain ⟨π, dep, ht⟩ := rt_all h k (by omega)
    obtain ⟨p, _, hp, hq⟩ := nr_lt h (k + 1) hk (by omega)
    rcases hq with ⟨_, hq⟩ | ⟨s, _, hs2, hq⟩
    · exact ⟨_, _, rt_free h hk (by omega) hp hq ht⟩
    · have h2 := nr_two h hk hq
      have hpr : ∀ x, prB P S (k + 1) x ↔ x = s ∨ x = p := fun x => by unfold prB; rw [hq]; simp; omega
      have hA : adjB P S (k + 1) s p := ⟨.inl ⟨hs2, h2.1⟩, fun j hj hb => h2.2 j hj (pr_both h (by omega) hs2 hb.1 hb.2)⟩
      rcases (ht.adj s p (by omega) (by omega)).1 hA with h9 | h9
      · exact ⟨_, _, rt_sub h hk (by omega) hp h9.1 h9.2 hpr ht⟩
      · exact ⟨_, _, rt_sub h hk hp (by omega) h9.1 h9.2 (fun x => (hpr x).trans Or.comm) ht⟩

/-- The points from which one comes to v by parents. -/
def upN (π : Nat → Nat) : Nat → Nat → Nat
  | 0, x => x
  | m + 1, x => upN π m (π x)
def Dsc (π : Nat → Nat) (v x : Nat) : Prop := ∃ m, upN π m x = v ∧ ∀ i, i < m → 0 < upN π i x
theorem up_succ (π : Nat → Nat) : ∀ (m x : Nat), upN π (m + 1) x = π (upN π m x)
  | 0, _ => rfl
  | m + 1, x => up_succ π m (π x)
theorem up_add (π : Nat → Nat) (a : Nat) : ∀ (b x : Nat), upN π (a + b) x = upN π b (upN π a x)
  | 0, _ => rfl
  | b + 1, x => by
    show upN π (a + b + 1) x = upN π (b + 1) (upN π a x)
    rw [up_succ, up_succ, up_add π a b x]
theorem ds_self (π : Nat → Nat) (v : Nat) : Dsc π v v := ⟨0, rfl, fun i h => by omega⟩
theorem ds_up {π : Nat → Nat} {c x : Nat} (h0 : 0 < c) (h : Dsc π c x) : Dsc π (π c) x := by
  obtain ⟨m, e, hm⟩ := h
  refine ⟨m + 1, by rw [up_succ, e], fun i hi => ?_⟩
  by_cases h1 : i = m
  · subst h1; rw [e]; exact h0
  · exact hm i (by omega)
theorem ds_dep {n : Nat} {A : Nat → Nat → Prop} {π dep : Nat → Nat} (ht : RT n A π dep) {v : Nat} : ∀ (m x : Nat), x < n → upN π m x = v → (∀ i, i < m → 0 < upN π i x) → dep v ≤ dep x
  | 0, x, _, e, _ => by
    have e' : x = v := e
    rw [e']; exact Nat.le_refl _
  | m + 1, x, hx, e, h => by
    have h0 : 0 < x := h 0 (by omega)
    have h1 := ht.par x h0 hx
    have := ds_dep ht m (π x) h1.1 e (fun i hi => h (i + 1) (by omega))
    omega
theorem ds_lin {π : Nat → Nat} {a b x : Nat} (ha : Dsc π a x) (hb : Dsc π b x) : Dsc π a b ∨ Dsc π b a := by
  obtain ⟨m, e1, h1⟩ := ha
  obtain ⟨k, e2, h2⟩ := hb
  rcases Nat.le_total m k with h | h
  · obtain ⟨d, rfl⟩ : ∃ d, k = m + d := ⟨k - m, by omega⟩
    rw [up_add, e1] at e2
    refine .inr ⟨d, e2, fun i hi => ?_⟩
    have := h2 (m + i) (by omega)
    rw [up_add, e1] at this; exact this
  · obtain ⟨d, rfl⟩ : ∃ d, m = k + d := ⟨m - k, by omega⟩
    rw [up_add, e2] at e1
    refine .inl ⟨d, e1, fun i hi => ?_⟩
    have := h1 (k + i) (by omega)
    rw [up_add, e2] at this; exact this
theorem ds_off {n : Nat} {A : Nat → Nat → Prop} {π dep : Nat → Nat} (ht : RT n A π dep) {c : Nat} (h0 : 0 < c) (hc : c < n) : ¬ Dsc π c (π c) := by
  rintro ⟨m, e, h⟩
  have h1 := ht.par c h0 hc
  have := ds_dep ht m (π c) h1.1 e h
  omega
theorem ds_sib {n : Nat} {A : Nat → Nat → Prop} {π dep : Nat → Nat} (ht : RT n A π dep) {c c' x : Nat} (h0 : 0 < c) (h0' : 0 < c') (hc : c < n) (hc' : c' < n) (hne : c ≠ c') (hp : π c = π c') : ¬ (Dsc π c x ∧ Dsc π c' x) := by
  rintro ⟨h1, h2⟩
  have key : ∀ a b, 0 < a → 0 < b → a < n → b < n → a ≠ b → π a = π b → Dsc π a b → False := by
    intro a b ha hb han hbn hab hpp hd
    obtain ⟨m, e, h⟩ := hd
    cases m with
    | zero => exact hab (by have e' : b = a := e
                            exact e'.symm)
    | succ m =>
      have : Dsc π a (π b) := ⟨m, e, fun i hi => h (i + 1) (by omega)⟩
      rw [← hpp] at this
      exact ds_off ht ha han this
  rcases ds_lin h1 h2 with h | h
  · exact key c c' h0 h0' hc hc' hne hp h
  · exact key c' c h0' h0 hc' hc (fun e => hne e.symm) hp.symm h

/-- From which point a point may be come to: from none, or from one that it meets. -/
def Vf (n : Nat) (A : Nat → Nat → Prop) (v : Nat) (f : Int) : Prop := f = -1 ∨ ∃ u : Nat, f = (u : Int) ∧ u < n ∧ A u v
/-- What a search through a tree needs: the sides of its edges, and a measure. -/
structure TQ (n : Nat) (A : Nat → Nat → Prop) (sd : Nat → Int → Nat → Prop) (mu : Nat → Int → Nat) : Prop where
  sym : ∀ u v, u < n → v < n → A u v → A v u
  irr : ∀ v, v < n → ¬ A v v
  self : ∀ v f, v < n → Vf n A v f → sd v f v
  sub : ∀ v f c, v < n → Vf n A v f → c < n → A v c → (c : Int) ≠ f → ∀ x, sd c (v : Int) x → sd v f x
  off : ∀ v c, v < n → c < n → A v c → ¬ sd c (v : Int) v
  apart : ∀ v c c', v < n → c < n → c' < n → A v c → A v c' → c ≠ c' → ∀ x, sd c (v : Int) x → ¬ sd c' (v : Int) x
  less : ∀ v f c, v < n → Vf n A v f → c < n → A v c → (c : Int) ≠ f → mu c (v : Int) < mu v f
def sdT (π : Nat → Nat) (v : Nat) (f : Int) (x : Nat) : Prop := if f = -1 then True else if 0 < v ∧ π v = f.toNat then Dsc π v x else ¬ Dsc π f.toNat x
def muT (π dep : Nat → Nat) (H : Nat) (v : Nat) (f : Int) : Nat := if f = -1 then H + dep v + 1 else if 0 < v ∧ π v = f.toNat then H - dep v else H + dep v + 1
theorem sd_none (π : Nat → Nat) (v x : Nat) : sdT π v (-1) x ↔ True := by unfold sdT; rw [if_pos rfl]
theorem sd_down {π : Nat → Nat} {v u : Nat} (h0 : 0 < v) (h : π v = u) (x : Nat) : sdT π v (u : Int) x ↔ Dsc π v x := by
  unfold sdT; rw [if_neg (by omega), if_pos ⟨h0, by rw [h]; simp⟩]
theorem sd_up {π : Nat → Nat} {v u : Nat} (h : ¬ (0 < v ∧ π v = u)) (x : Nat) : sdT π v (u : Int) x ↔ ¬ Dsc π u x := by
  unfold sdT; rw [if_neg (by omega), if_neg (by simpa using h), Int.toNat_natCast]
theorem tq_rt {n : Nat} {A : Nat → Nat → Prop} {π dep : Nat → Nat} (ht : RT n A π dep) {H : Nat} (hH : ∀ v, v < n → dep v < H) : TQ n A (sdT π) (muT π dep H) := by
  have anti : ∀ u v, u < n → v < n → 0 < u → π u = v → ¬ (0 < v ∧ π v = u) := by
    intro u v hu hv h0 h1 h2
    have a := (ht.par u h0 hu).2
    have b := (ht.par v h2.1 hv).2
    rw [h1] at a; rw [h2.2] at b; omega
  have cases_ : ∀ v c, v < n → c < n → A v c → (0 < c ∧ π c = v) ∨ (¬ (0 < c ∧ π c = v) ∧ 0 < v ∧ π v = c) := by
    intro v c hv hc ha
    rcases (ht.adj v c hv hc).1 ha with h | h
    · exact .inl h
    · exact .inr ⟨anti v c hv hc h.1 h.2, h⟩
  constructor
  · intro u v hu hv ha
    rw [ht.adj v u hv hu]; rw [ht.adj u v hu hv] at ha; exact ha.symm
  · intro v hv ha
    rw [ht.adj v v hv hv] at ha
    rcases ha with h | h
    · have := (ht.par v h.1 hv).2; rw [h.2] at this; omega
    · have := (ht.par v h.1 hv).2; rw [h.2] at this; omega
  · intro v f hv hf
    rcases hf with rfl | ⟨u, rfl, hu, ha⟩
    · rw [sd_none]; trivial
    · rcases cases_ u v hu hv ha with h | h
      · rw [sd_down h.1 h.2]; exact ds_self _ _
      · rw [sd_up h.1]; rw [← h.2.2]; exact ds_off ht h.2.1 hu
  · intro v f c hv hf hc ha hcf x hx
    rcases hf with rfl | ⟨u, rfl, hu, hau⟩
    · rw [sd_none]; trivial
    · rcases cases_ u v hu hv hau with h | h
      · rw [sd_down h.1 h.2]
        rcases cases_ v c hv hc ha with h' | h'
        · rw [sd_down h'.1 h'.2] at hx
          have := ds_up h'.1 hx
          rw [h'.2] at this; exact this
        · exfalso; exact hcf (by rw [← h'.2.2, h.2])
      · rw [sd_up h.1]
        rcases cases_ v c hv hc ha with h' | h'
        · rw [sd_down h'.1 h'.2] at hx
          intro h9
          exact ds_sib ht h'.1 h.2.1 hc hu (fun e => hcf (by rw [e])) (by rw [h'.2, h.2.2]) ⟨hx, h9⟩
        · rw [sd_up h'.1] at hx
          intro h9
          have := ds_up h.2.1 h9
          rw [h.2.2] at this; exact hx this
  · intro v c hv hc ha hx
    rcases cases_ v c hv hc ha with h' | h'
    · rw [sd_down h'.1 h'.2] at hx
      rw [← h'.2] at hx; exact ds_off ht h'.1 hc hx
    · rw [sd_up h'.1] at hx; exact hx (ds_self _ _)
  · intro v c c' hv hc hc' ha ha' hne x hx hx'
    rcases cases_ v c hv hc ha with h1 | h1
    · rw [sd_down h1.1 h1.2] at hx
      rcases cases_ v c' hv hc' ha' with h2 | h2
      · rw [sd_down h2.1 h2.2] at hx'
        exact ds_sib ht h1.1 h2.1 hc hc' hne (by rw [h1.2, h2.2]) ⟨hx, hx'⟩
      · rw [sd_up h2.1] at hx'
        have := ds_up h1.1 hx
        rw [h1.2] at this; exact hx' this
    · rw [sd_up h1.1] at hx
      rcases cases_ v c' hv hc' ha' with h2 | h2
      · rw [sd_down h2.1 h2.2] at hx'
        have := ds_up h2.1 hx'
        rw [h2.2] at this; exact hx this
      · exact hne (by rw [← h1.2.2, ← h2.2.2])
  · intro v f c hv hf hc ha hcf
    have hdv := hH v hv
    have hdc := hH c hc
    rcases cases_ v c hv hc ha with h1 | h1
    · have e1 : muT π dep H c (v : Int) = H - dep c := by unfold muT; rw [if_neg (by omega), if_pos ⟨h1.1, by rw [h1.2]; simp⟩]
      have h2 := (ht.par c h1.1 hc).2
      rw [h1.2] at h2
      rw [e1]
      unfold muT
      split
      · omega
      · split <;> omega
    · have e1 : muT π dep H c (v : Int) = H + dep c + 1 := by unfold muT; rw [if_neg (by omega), if_neg (by simpa using h1.1)]
      have h2 := (ht.par v h1.2.1 hv).2
      rw [h1.2.2] at h2
      rw [e1]
      rcases hf with rfl | ⟨u, rfl, hu, hau⟩
      · unfold muT; rw [if_pos rfl]; omega
      · rcases cases_ u v hu hv hau with h | h
        · exfalso; exact hcf (by rw [← h1.2.2, h.2])
        · unfold muT
          rw [if_neg (by omega), if_neg (by simpa using h.1)]; omega
theorem dep_bound (dep : Nat → Nat) : ∀ n, ∃ H, ∀ v, v < n → dep v < H
  | 0 => ⟨0, fun v h => by omega⟩
  | n + 1 => by
    obtain ⟨H, h⟩ := dep_bound dep n
    refine ⟨H + dep n + 1, fun v hv => ?_⟩
    by_cases e : v = n
    · subst e; omega
    · have := h v (by omega); omega
/-- The same, with sides as Bool functions and a bound of the measure. -/
structure TB (n : Nat) (A : Nat → Nat → Prop) (sd : Nat → Int → Nat → Bool) (mu : Nat → Int → Nat) (K : Nat) : Prop where
  sym : ∀ u v, u < n → v < n → A u v → A v u
  irr : ∀ v, v < n → ¬ A v v
  self : ∀ v f, v < n → Vf n A v f → sd v f v = true
  sub : ∀ v f c, v < n → Vf n A v f → c < n → A v c → (c : Int) ≠ f → ∀ x, sd c (v : Int) x = true → sd v f x = true
  off : ∀ v c, v < n → c < n → A v c → sd c (v : Int) v = false
  apart : ∀ v c c', v < n → c < n → c' < n → A v c → A v c' → c ≠ c' → ∀ x, sd c (v : Int) x = true → sd c' (v : Int) x = false
  less : ∀ v f c, v < n → Vf n A v f → c < n → A v c → (c : Int) ≠ f → mu c (v : Int) < mu v f
  top : ∀ v f, v < n → mu v f ≤ K
/-- The curves of a cluster make a tree. -/
theorem tb_cluster {P S : List Int} {n : Nat} (h : okAll P S n = true) (hn : 1 ≤ n) : ∃ sd mu K, TB n (adjB P S n) sd mu K := by
  classical
  obtain ⟨k, rfl⟩ : ∃ k, n = k + 1 := ⟨n - 1, by omega⟩
  obtain ⟨π, dep, ht⟩ := rt_all h k (by omega)
  obtain ⟨H, hH⟩ := dep_bound dep (k + 1)
  have q := tq_rt ht hH
  refine ⟨fun v f x => decide (sdT π v f x), muT π dep H, 2 * H, q.sym, q.irr, fun v f hv hf => by simpa using q.self v f hv hf, fun v f c hv hf hc ha hcf x hx => by simpa using q.sub v f c hv hf hc ha hcf x (by simpa using hx), fun v c hv hc ha => by simpa using q.off v c hv hc ha, fun v c c' hv hc hc' ha ha' hne x hx => by simpa using q.apart v c c' hv hc hc' ha ha' hne x (by simpa using hx), q.less, fun v f hv => ?_⟩
  have := hH v hv
  unfold muT
  split
  · omega
  · split <;> omega
end Go.Proofs.Ytohbgfmjnanlkaa
