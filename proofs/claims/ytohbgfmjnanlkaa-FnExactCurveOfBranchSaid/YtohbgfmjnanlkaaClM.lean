/- Clusters: plain mathematics: the conditions, proximities, excesses, weights out of excesses, orders. Conditions: stated at each theorem. -/
import Derived.Test.YtohbgfmjnanlkaaRows
namespace Go.Proofs.Ytohbgfmjnanlkaa
set_option linter.unusedVariables false
set_option linter.unusedSimpArgs false

/-- The points to which the point i is proximate, in ascending order. -/
def nrC (P S : List Int) (i : Nat) : List Int := (if S[i]?.getD 0 = -1 then [] else [S[i]?.getD 0]) ++ (if i = 0 then [] else [P[i]?.getD 0])
theorem nrC_len (P S : List Int) (i : Nat) : (nrC P S i).length ≤ 2 := by unfold nrC; split <;> split <;> simp
/-- A point before i has the same parent and the same second. -/
def twinB (P S : List Int) (i t : Nat) : Bool := (List.range t).any fun j => decide (P[j]?.getD 0 = P[i]?.getD 0) && decide (S[j]?.getD 0 = S[i]?.getD 0)
theorem twinB_zero (P S : List Int) (i : Nat) : twinB P S i 0 = false := rfl
theorem twinB_succ (P S : List Int) (i t : Nat) : twinB P S i (t + 1) = (twinB P S i t || (decide (P[t]?.getD 0 = P[i]?.getD 0) && decide (S[t]?.getD 0 = S[i]?.getD 0))) := by
  simp [twinB, List.range_succ]
/-- The point i may have its parent and its second. -/
def okQ (P S : List Int) (i : Nat) : Bool :=
  if i = 0 then decide (P[i]?.getD 0 = -1) && decide (S[i]?.getD 0 = -1)
  else decide (0 ≤ P[i]?.getD 0) && decide (P[i]?.getD 0 < (i : Int)) && (decide (S[i]?.getD 0 = -1) || ((nrC P S (P[i]?.getD 0).toNat).contains (S[i]?.getD 0) && !twinB P S i i))
def okAll (P S : List Int) (k : Nat) : Bool := (List.range k).all (okQ P S)
theorem okAll_succ (P S : List Int) (k : Nat) : okAll P S (k + 1) = (okAll P S k && okQ P S k) := by simp [okAll, List.range_succ]
theorem okAll_at {P S : List Int} {k i : Nat} (h : okAll P S k = true) (hi : i < k) : okQ P S i = true := by
  unfold okAll at h; rw [List.all_eq_true] at h; exact h i (List.mem_range.2 hi)
theorem okAll_le {P S : List Int} {k i : Nat} (h : okAll P S k = true) (hi : i ≤ k) : okAll P S i = true := by
  unfold okAll at h ⊢; rw [List.all_eq_true] at h ⊢; exact fun x hx => h x (List.mem_range.2 (by have := List.mem_range.1 hx; omega))
theorem okAll_bad {P S : List Int} {k i : Nat} (h : okQ P S i = false) (hi : i < k) : okAll P S k = false := by
  cases e : okAll P S k with
  | false => rfl
  | true => rw [okAll_at e hi] at h; cases h
def wtOK (W : List Int) : Bool := W.all fun z => decide (-100000 ≤ z) && decide (z ≤ 100000)
theorem wtOK_at {W : List Int} {i : Nat} (h : wtOK W = true) : -100000 ≤ W[i]?.getD 0 ∧ W[i]?.getD 0 ≤ 100000 := by
  unfold wtOK at h; rw [List.all_eq_true] at h
  by_cases hi : i < W.length
  · have := h W[i] (List.getElem_mem hi)
    simp only [Bool.and_eq_true, decide_eq_true_eq] at this
    simpa [hi] using this
  · rw [List.getElem?_eq_none (by omega)]; simp
theorem wtOK_iff {W : List Int} {n : Nat} (hl : W.length = n) : wtOK W = (List.range n).all fun i => decide (-100000 ≤ W[i]?.getD 0) && decide (W[i]?.getD 0 ≤ 100000) := by
  subst hl
  rw [Bool.eq_iff_iff]
  constructor
  · intro h
    rw [List.all_eq_true]; intro i hi
    have := wtOK_at (i := i) h
    simp [this]
  · intro h
    rw [List.all_eq_true] at h
    unfold wtOK; rw [List.all_eq_true]; intro z hz
    obtain ⟨i, hi, rfl⟩ := List.getElem_of_mem hz
    have := h i (List.mem_range.2 hi)
    simpa [hi] using this
theorem wtOK_bad {W : List Int} {i : Nat} (hi : i < W.length) (h : ¬(-100000 ≤ W[i]?.getD 0 ∧ W[i]?.getD 0 ≤ 100000)) : wtOK W = false := by
  cases e : wtOK W with
  | false => rfl
  | true => exact absurd (wtOK_at e) h
/-- Three lists are a cluster. -/
def clB (P S W : List Int) : Bool := decide (1 ≤ P.length) && decide (P.length ≤ 24) && decide (S.length = P.length) && decide (W.length = P.length) && okAll P S P.length && wtOK W
/-- The points of a cluster. -/
structure ClP (P S : List Int) (n : Nat) : Prop where
  p : P.length = n
  s : S.length = n
  lo : 1 ≤ n
  hi : n ≤ 24
  ok : okAll P S n = true
structure ClOK (P S W : List Int) (n : Nat) : Prop extends ClP P S n where
  w : W.length = n
  wt : wtOK W = true
theorem clB_true {P S W : List Int} (h : clB P S W = true) : ∃ n, ClOK P S W n := by
  unfold clB at h
  simp only [Bool.and_eq_true, decide_eq_true_eq] at h
  exact ⟨P.length, ⟨rfl, h.1.1.1.2, h.1.1.1.1.1, h.1.1.1.1.2, h.1.2⟩, h.1.1.2, h.2⟩
theorem ClOK.b {P S W : List Int} {n : Nat} (h : ClOK P S W n) : clB P S W = true := by
  have hp := h.p
  subst hp
  unfold clB; simp [h.s, h.lo, h.hi, h.ok, h.w, h.wt]
theorem clB_with {P S W : List Int} {n : Nat} (h : ClP P S n) {V : List Int} (hl : V.length = n) : clB P S V = wtOK V := by
  have hp := h.p
  subst hp
  unfold clB; simp [h.s, h.lo, h.hi, h.ok, hl]
/-- What a point's condition says. -/
theorem okQ_zero {P S : List Int} : okQ P S 0 = (decide (P[0]?.getD 0 = -1) && decide (S[0]?.getD 0 = -1)) := rfl
theorem okQ_pos {P S : List Int} {i : Nat} (h0 : 0 < i) : okQ P S i = (decide (0 ≤ P[i]?.getD 0) && decide (P[i]?.getD 0 < (i : Int)) && (decide (S[i]?.getD 0 = -1) || ((nrC P S (P[i]?.getD 0).toNat).contains (S[i]?.getD 0) && !twinB P S i i))) := by
  unfold okQ; rw [if_neg (by omega)]
theorem nr_zero {P S : List Int} {n : Nat} (h : okAll P S n = true) (hn : 0 < n) : nrC P S 0 = [] ∧ P[0]?.getD 0 = -1 ∧ S[0]?.getD 0 = -1 := by
  have h1 := okAll_at h hn
  rw [okQ_zero] at h1
  simp only [Bool.and_eq_true, decide_eq_true_eq] at h1
  exact ⟨by simp [nrC, h1.2], h1⟩
/-- The parent of a point is before it; the second, if there is one, is before the parent. -/
theorem nr_lt {P S : List Int} {n : Nat} (h : okAll P S n = true) : ∀ i, i < n → 0 < i → ∃ p : Nat, P[i]?.getD 0 = (p : Int) ∧ p < i ∧ (S[i]?.getD 0 = -1 ∧ nrC P S i = [(p : Int)] ∨ ∃ s : Nat, S[i]?.getD 0 = (s : Int) ∧ s < p ∧ nrC P S i = [(s : Int), (p : Int)]) := by
  intro i
  induction i using Nat.strongRecOn with
  | ind i ih =>
    intro hi h0
    have h1 := okAll_at h hi
    rw [okQ_pos h0] at h1
    simp only [Bool.and_eq_true, decide_eq_true_eq, Bool.or_eq_true] at h1
    obtain ⟨⟨h2, h3⟩, h4⟩ := h1
    obtain ⟨p, hp⟩ : ∃ p : Nat, P[i]?.getD 0 = (p : Int) := ⟨(P[i]?.getD 0).toNat, by omega⟩
    refine ⟨p, hp, by omega, ?_⟩
    by_cases hs : S[i]?.getD 0 = -1
    · left; exact ⟨hs, by unfold nrC; rw [if_pos hs, if_neg (by omega), hp]; rfl⟩
    · right
      have h5 := (h4.resolve_left hs).1
      rw [hp, Int.toNat_natCast] at h5
      have h6 : S[i]?.getD 0 ∈ nrC P S p := by simpa using h5
      have h7 : ∃ s : Nat, S[i]?.getD 0 = (s : Int) ∧ s < p := by
        by_cases hp0 : p = 0
        · subst hp0
          rw [(nr_zero h (by omega)).1] at h6; cases h6
        · obtain ⟨q, _, hq2, hq⟩ := ih p (by omega) (by omega) (by omega)
          rcases hq with ⟨_, hq⟩ | ⟨s, _, hs2, hq⟩
          · rw [hq] at h6; simp at h6; exact ⟨q, h6, hq2⟩
          · rw [hq] at h6; simp at h6
            rcases h6 with h6 | h6
            · exact ⟨s, h6, by omega⟩
            · exact ⟨q, h6, hq2⟩
      obtain ⟨s, hs1, hs2⟩ := h7
      exact ⟨s, hs1, hs2, by unfold nrC; rw [if_neg hs, if_neg (by omega), hp, hs1]; rfl⟩
theorem nr_mem {P S : List Int} {n i : Nat} (h : okAll P S n = true) (hi : i < n) : ∀ z ∈ nrC P S i, 0 ≤ z ∧ z < (i : Int) := by
  intro z hz
  by_cases h0 : i = 0
  · subst h0; rw [(nr_zero h hi).1] at hz; cases hz
  · obtain ⟨p, _, hp, hq⟩ := nr_lt h i hi (by omega)
    rcases hq with ⟨_, hq⟩ | ⟨s, _, hs2, hq⟩
    · rw [hq] at hz; simp at hz; omega
    · rw [hq] at hz; simp at hz; omega
theorem nr_at {P S : List Int} {n i t : Nat} (h : okAll P S n = true) (hi : i < n) (ht : t < (nrC P S i).length) : ∃ j : Nat, (nrC P S i)[t]? = some (j : Int) ∧ j < i := by
  have := nr_mem h hi _ (List.getElem_mem ht)
  exact ⟨((nrC P S i)[t]).toNat, by rw [List.getElem?_eq_getElem ht]; congr 1; omega, by omega⟩
theorem nr_nodup {P S : List Int} {n i : Nat} (h : okAll P S n = true) (hi : i < n) : (nrC P S i).Nodup := by
  by_cases h0 : i = 0
  · subst h0; rw [(nr_zero h hi).1]; exact List.nodup_nil
  · obtain ⟨p, _, hp, hq⟩ := nr_lt h i hi (by omega)
    rcases hq with ⟨_, hq⟩ | ⟨s, _, hs2, hq⟩
    · rw [hq]; simp
    · rw [hq]; simp; omega
/-- S is -1 or at least 0. -/
theorem sec_lt {P S : List Int} {n i : Nat} (h : okAll P S n = true) (hi : i < n) : S[i]?.getD 0 = -1 ∨ (0 < i ∧ ∃ p s : Nat, P[i]?.getD 0 = (p : Int) ∧ p < i ∧ S[i]?.getD 0 = (s : Int) ∧ s < p ∧ nrC P S i = [(s : Int), (p : Int)]) := by
  by_cases h0 : i = 0
  · subst h0; exact .inl (nr_zero h hi).2.2
  · obtain ⟨p, hp1, hp, hq⟩ := nr_lt h i hi (by omega)
    rcases hq with ⟨hq, _⟩ | ⟨s, hs1, hs2, hq⟩
    · exact .inl hq
    · exact .inr ⟨by omega, p, s, hp1, hp, hs1, hs2, hq⟩

/-- F with d more at j. -/
def updF (F : Nat → Int) (j : Nat) (d : Int) : Nat → Int := fun x => if x = j then F x + d else F x
theorem updF_comm (F : Nat → Int) (a b : Nat) (d : Int) : updF (updF F a d) b d = updF (updF F b d) a d := by
  funext x; unfold updF
  by_cases h1 : x = a
  · by_cases h2 : x = b
    · simp only [if_pos h1, if_pos h2]
    · simp only [if_pos h1, if_neg h2]
  · by_cases h2 : x = b
    · simp only [if_neg h1, if_pos h2]
    · simp only [if_neg h1, if_neg h2]
/-- F with d more at all numbers of a list. -/
def stQ (F : Nat → Int) (L : List Int) (d : Int) : Nat → Int := L.foldl (fun F j => updF F j.toNat d) F
theorem stQ_nil (F : Nat → Int) (d : Int) : stQ F [] d = F := rfl
theorem stQ_snoc (F : Nat → Int) (L : List Int) (z d : Int) : stQ F (L ++ [z]) d = updF (stQ F L d) z.toNat d := by simp [stQ]
theorem stQ_take {F : Nat → Int} {L : List Int} {t j : Nat} {d : Int} (h : L[t]? = some (j : Int)) : stQ F (L.take (t + 1)) d = updF (stQ F (L.take t) d) j d := by
  rw [List.take_add_one, h]
  exact stQ_snoc _ _ _ _
theorem stQ_zero : ∀ (L : List Int) (F : Nat → Int), stQ F L 0 = F
  | [], _ => rfl
  | z :: L, F => by
    show stQ (updF F z.toNat 0) L 0 = F
    rw [stQ_zero L]; funext x; simp [updF]
/-- What it comes to at x. -/
theorem stQ_at (d : Int) (x : Nat) : ∀ (L : List Int) (F : Nat → Int), stQ F L d x = F x + d * ((L.filter fun z => decide (z.toNat = x)).length : Int)
  | [], F => by simp [stQ]
  | z :: L, F => by
    show stQ (updF F z.toNat d) L d x = _
    rw [stQ_at d x L]
    unfold updF
    by_cases h : x = z.toNat
    · have h' : z.toNat = x := h.symm
      simp [h', Int.mul_add]; omega
    · have h' : ¬ z.toNat = x := fun e => h e.symm
      simp [h, h']
theorem stQ_off {F : Nat → Int} {L : List Int} {d : Int} {x : Nat} (h : ∀ z ∈ L, z.toNat ≠ x) : stQ F L d x = F x := by
  rw [stQ_at]
  have : (L.filter fun z => decide (z.toNat = x)) = [] := by
    rw [List.filter_eq_nil_iff]; intro z hz; simpa using h z hz
  simp [this]
theorem stQ_le {L : List Int} {F : Nat → Int} {d M D : Int} (hF : ∀ x, -M ≤ F x ∧ F x ≤ M) (hd : -D ≤ d ∧ d ≤ D) : ∀ x, -(M + D * L.length) ≤ stQ F L d x ∧ stQ F L d x ≤ M + D * L.length := by
  intro x
  rw [stQ_at]
  have h1 := hF x
  obtain ⟨c, hc⟩ : ∃ c : Nat, (L.filter fun z => decide (z.toNat = x)).length = c := ⟨_, rfl⟩
  have hcl : c ≤ L.length := by rw [← hc]; exact List.length_filter_le _ _
  rw [hc]
  have h2 : d * (c : Int) ≤ D * (c : Int) := Int.mul_le_mul_of_nonneg_right hd.2 (by omega)
  have h3 : -D * (c : Int) ≤ d * (c : Int) := Int.mul_le_mul_of_nonneg_right hd.1 (by omega)
  have h4 : D * (c : Int) ≤ D * (L.length : Int) := Int.mul_le_mul_of_nonneg_left (by omega) (by omega)
  have h5 : -D * (c : Int) = -(D * (c : Int)) := Int.neg_mul _ _
  omega
theorem stQ_add (L : List Int) (F G : Nat → Int) (d e : Int) (x : Nat) : stQ (fun x => F x + G x) L (d + e) x = stQ F L d x + stQ G L e x := by
  rw [stQ_at, stQ_at, stQ_at, Int.add_mul]; omega
theorem stQ_smul (L : List Int) (F : Nat → Int) (c d : Int) (x : Nat) : stQ (fun x => c * F x) L (c * d) x = c * stQ F L d x := by
  rw [stQ_at, stQ_at, Int.mul_add, Int.mul_assoc]
/-- The model puts the parent ahead of the second. -/
theorem stQ_swap {F : Nat → Int} {s p : Int} {d : Int} : updF (updF F p.toNat d) s.toNat d = stQ F [s, p] d := updF_comm _ _ _ _

/-- The excesses: what is left of the weights behind the points before k. -/
def exN (P S : List Int) (W : Nat → Int) : Nat → Nat → Int
  | 0 => W
  | k + 1 => stQ (exN P S W k) (nrC P S k) (-(W k))
def ecL (P S W : List Int) (n : Nat) : List Int := (List.range n).map (exN P S (fun x => W[x]?.getD 0) n)
theorem ecL_len (P S W : List Int) (n : Nat) : (ecL P S W n).length = n := by simp [ecL]
theorem ecL_at {P S W : List Int} {n x : Nat} (h : x < n) : (ecL P S W n)[x]?.getD 0 = exN P S (fun x => W[x]?.getD 0) n x := by simp [ecL, h]
theorem exN_le (P S : List Int) {W : Nat → Int} {M : Int} (hM : 0 ≤ M) (h : ∀ x, -M ≤ W x ∧ W x ≤ M) : ∀ k x, -(M + 2 * M * k) ≤ exN P S W k x ∧ exN P S W k x ≤ M + 2 * M * k
  | 0, x => by have := h x; simpa [exN] using this
  | k + 1, x => by
    have h1 := stQ_le (L := nrC P S k) (exN_le P S hM h k) (d := -(W k)) (D := M) (by have := h k; omega) x
    have h2 : M * ((nrC P S k).length : Int) ≤ M * 2 := Int.mul_le_mul_of_nonneg_left (by have := nrC_len P S k; omega) hM
    have h3 : 2 * M * ((k + 1 : Nat) : Int) = 2 * M * (k : Int) + 2 * M := by push_cast; rw [Int.mul_add, Int.mul_one]
    show _ ≤ stQ _ _ _ x ∧ stQ _ _ _ x ≤ _
    omega

/-- Weights out of excesses: the points before k are still to be counted. -/
def dwn (P S : List Int) : Nat → (Nat → Int) → Nat → Int
  | 0, G => G
  | k + 1, G => dwn P S k (stQ G (nrC P S k) (G k))
theorem dwn_add (P S : List Int) : ∀ (k : Nat) (F G : Nat → Int), dwn P S k (fun x => F x + G x) = fun x => dwn P S k F x + dwn P S k G x
  | 0, _, _ => rfl
  | k + 1, F, G => by
    show dwn P S k (stQ _ _ _) = fun x => dwn P S k (stQ _ _ _) x + dwn P S k (stQ _ _ _) x
    rw [show stQ (fun x => F x + G x) (nrC P S k) (F k + G k) = fun x => stQ F (nrC P S k) (F k) x + stQ G (nrC P S k) (G k) x from funext fun x => stQ_add _ _ _ _ _ x]
    exact dwn_add P S k _ _
theorem dwn_smul (P S : List Int) (c : Int) : ∀ (k : Nat) (F : Nat → Int), dwn P S k (fun x => c * F x) = fun x => c * dwn P S k F x
  | 0, _ => rfl
  | k + 1, F => by
    show dwn P S k (stQ _ _ _) = fun x => c * dwn P S k (stQ _ _ _) x
    rw [show stQ (fun x => c * F x) (nrC P S k) (c * F k) = fun x => c * stQ F (nrC P S k) (F k) x from funext fun x => stQ_smul _ _ _ _ x]
    exact dwn_smul P S c k _
theorem dwn_zero (P S : List Int) : ∀ k : Nat, dwn P S k (fun _ => 0) = fun _ => 0
  | 0 => rfl
  | k + 1 => by
    show dwn P S k (stQ _ _ 0) = _
    rw [stQ_zero]; exact dwn_zero P S k
def unF (i : Nat) : Nat → Int := fun x => if x = i then 1 else 0
theorem dwn_un {P S : List Int} {i : Nat} : ∀ {k : Nat}, k ≤ i → dwn P S k (unF i) = unF i
  | 0, _ => rfl
  | k + 1, h => by
    show dwn P S k (stQ _ _ (unF i k)) = _
    rw [show unF i k = 0 from by simp [unF]; omega, stQ_zero]
    exact dwn_un (by omega)
theorem dwn_stop {P S : List Int} {i : Nat} (d : Nat) : dwn P S (i + 1 + d) (unF i) = dwn P S (i + 1) (unF i) := by
  induction d with
  | zero => rfl
  | succ d ih =>
    show dwn P S (i + 1 + d) (stQ _ _ (unF i (i + 1 + d))) = _
    rw [show unF i (i + 1 + d) = 0 from by simp [unF]; omega, stQ_zero]
    exact ih
theorem dwn_cut {P S : List Int} {i k n : Nat} (h : i < k) (hk : k ≤ n) : dwn P S n (unF i) = dwn P S k (unF i) := by
  obtain ⟨d, rfl⟩ : ∃ d, n = i + 1 + d := ⟨n - (i + 1), by omega⟩
  obtain ⟨e, rfl⟩ : ∃ e, k = i + 1 + e := ⟨k - (i + 1), by omega⟩
  rw [dwn_stop, dwn_stop]
theorem updF_un (F : Nat → Int) (j : Nat) (d : Int) : updF F j d = fun x => F x + d * unF j x := by
  funext x; unfold updF unF; by_cases h : x = j <;> simp [h]
/-- The weights of the simple cluster of i. -/
def smF1 (P S : List Int) (n i : Nat) : Nat → Int := dwn P S n (unF i)
theorem sm_zero {P S : List Int} {n : Nat} (h : okAll P S n = true) (hn : 0 < n) : smF1 P S n 0 = unF 0 := by
  unfold smF1
  rw [dwn_cut (k := 1) (by omega) (by omega)]
  show stQ (unF 0) (nrC P S 0) _ = _
  rw [(nr_zero h hn).1]; rfl
theorem sm_step {P S : List Int} {n i : Nat} (hi : i < n) : smF1 P S n i = dwn P S i (stQ (unF i) (nrC P S i) 1) := by
  unfold smF1
  rw [dwn_cut (k := i + 1) (by omega) (by omega)]
  show dwn P S i (stQ _ _ (unF i i)) = _
  rw [show unF i i = 1 from by simp [unF]]
theorem sm_one {P S : List Int} {n i p : Nat} (hi : i < n) (hp : p < i) (h : nrC P S i = [(p : Int)]) (x : Nat) : smF1 P S n i x = unF i x + smF1 P S n p x := by
  rw [sm_step hi, h]
  show dwn P S i (updF (unF i) p 1) x = _
  rw [updF_un, show (fun x => unF i x + 1 * unF p x) = fun x => unF i x + unF p x from by funext x; omega, dwn_add, dwn_un (Nat.le_refl i)]
  unfold smF1
  rw [dwn_cut (n := n) (k := i) hp (by omega)]
theorem sm_two {P S : List Int} {n i p s : Nat} (hi : i < n) (hp : p < i) (hs : s < i) (h : nrC P S i = [(s : Int), (p : Int)]) (x : Nat) : smF1 P S n i x = unF i x + smF1 P S n s x + smF1 P S n p x := by
  rw [sm_step hi, h]
  show dwn P S i (updF (updF (unF i) s 1) p 1) x = _
  rw [updF_un, updF_un, show (fun x => (fun x => unF i x + 1 * unF s x) x + 1 * unF p x) = fun x => (fun x => unF i x + unF s x) x + unF p x from by funext x; simp, dwn_add, dwn_add, dwn_un (Nat.le_refl i)]
  unfold smF1
  rw [dwn_cut (n := n) (k := i) hp (by omega), dwn_cut (n := n) (k := i) hs (by omega)]
def fibN : Nat → Int
  | 0 => 0
  | 1 => 1
  | n + 2 => fibN (n + 1) + fibN n
theorem fib_nn : ∀ n, 0 ≤ fibN n ∧ 0 ≤ fibN (n + 1)
  | 0 => by decide
  | n + 1 => by have := fib_nn n; exact ⟨this.2, by show 0 ≤ fibN (n + 1) + fibN n; omega⟩
theorem fib_mono1 (n : Nat) : fibN n ≤ fibN (n + 1) := by
  cases n with
  | zero => decide
  | succ n => have := fib_nn n; show fibN (n + 1) ≤ fibN (n + 1) + fibN n; omega
theorem fib_mono {a b : Nat} (h : a ≤ b) : fibN a ≤ fibN b := by
  induction b with
  | zero => obtain rfl : a = 0 := by omega
            exact Int.le_refl _
  | succ b ih =>
    by_cases e : a = b + 1
    · subst e; exact Int.le_refl _
    · exact Int.le_trans (ih (by omega)) (fib_mono1 b)
theorem fib_24 : fibN 24 = 46368 := by decide +kernel
theorem sm_le {P S : List Int} {n : Nat} (h : okAll P S n = true) : ∀ i, i < n → ∀ x, 0 ≤ smF1 P S n i x ∧ smF1 P S n i x ≤ fibN (i + 1) ∧ (i < x → smF1 P S n i x = 0) := by
  intro i
  induction i using Nat.strongRecOn with
  | ind i ih =>
    intro hi x
    by_cases h0 : i = 0
    · subst h0
      rw [sm_zero h hi]
      unfold unF
      refine ⟨?_, ?_, fun hx => if_neg (by omega)⟩ <;> split <;> decide
    · have hu : 0 ≤ unF i x ∧ unF i x ≤ 1 ∧ (x ≠ i → unF i x = 0) := by
        unfold unF
        refine ⟨?_, ?_, fun e => if_neg e⟩ <;> split <;> decide
      obtain ⟨p, _, hp, hq⟩ := nr_lt h i hi (by omega)
      have h1 := ih p hp (by omega) x
      have hfm := fib_mono (show p + 1 ≤ i by omega)
      have hf1 := fib_nn i
      rcases hq with ⟨_, hq⟩ | ⟨s, _, hs2, hq⟩
      · rw [sm_one hi hp hq]
        refine ⟨by omega, ?_, fun hx => by have := h1.2.2 (by omega); have := hu.2.2 (by omega); omega⟩
        by_cases hx : x = i
        · have := h1.2.2 (by omega)
          have : fibN 1 ≤ fibN (i + 1) := fib_mono (by omega)
          have : fibN 1 = 1 := rfl
          omega
        · have := hu.2.2 hx
          have := fib_mono (show i ≤ i + 1 by omega)
          omega
      · have h2 := ih s (by omega) (by omega) x
        rw [sm_two hi hp (by omega) hq]
        refine ⟨by omega, ?_, fun hx => by have := h1.2.2 (by omega); have := h2.2.2 (by omega); have := hu.2.2 (by omega); omega⟩
        by_cases hx : x = i
        · have := h1.2.2 (by omega)
          have := h2.2.2 (by omega)
          have : fibN 1 ≤ fibN (i + 1) := fib_mono (by omega)
          have : fibN 1 = 1 := rfl
          omega
        · have := hu.2.2 hx
          obtain ⟨j, rfl⟩ : ∃ j, i = j + 1 := ⟨i - 1, by omega⟩
          have h3 : fibN (j + 1 + 1) = fibN (j + 1) + fibN j := rfl
          have h4 := fib_mono (show s + 1 ≤ j by omega)
          omega
theorem sm_bound {P S : List Int} {n i x : Nat} (h : okAll P S n = true) (hn : n ≤ 24) (hi : i < n) : 0 ≤ smF1 P S n i x ∧ smF1 P S n i x ≤ 46368 := by
  have h1 := sm_le h i hi x
  have h2 := fib_mono (show i + 1 ≤ 24 by omega)
  rw [fib_24] at h2
  omega
/-- The sum of F over the numbers less than n. -/
def sgC (F : Nat → Int) : Nat → Int
  | 0 => 0
  | n + 1 => sgC F n + F n
theorem sgC_le {F : Nat → Int} {b : Int} : ∀ {n : Nat}, (∀ i, i < n → -b ≤ F i ∧ F i ≤ b) → -(b * n) ≤ sgC F n ∧ sgC F n ≤ b * n
  | 0, _ => by simp [sgC]
  | n + 1, h => by
    have h1 := sgC_le (n := n) (fun i hi => h i (by omega))
    have h2 := h n (by omega)
    have e : b * ((n + 1 : Nat) : Int) = b * n + b := by push_cast; rw [Int.mul_add, Int.mul_one]
    show _ ≤ sgC F n + F n ∧ sgC F n + F n ≤ _
    omega
theorem sgC_congr {F G : Nat → Int} : ∀ {n : Nat}, (∀ i, i < n → F i = G i) → sgC F n = sgC G n
  | 0, _ => rfl
  | n + 1, h => by
    show sgC F n + F n = sgC G n + G n
    rw [sgC_congr (n := n) (fun i hi => h i (by omega)), h n (by omega)]
theorem dwn_sum (P S : List Int) (k : Nat) (E : Nat → Int) (x : Nat) : ∀ m, dwn P S k (fun x => if x < m then E x else 0) x = sgC (fun i => E i * dwn P S k (unF i) x) m
  | 0 => by
    rw [show (fun x => if x < 0 then E x else 0) = fun _ => (0 : Int) from by funext x; simp, dwn_zero]; rfl
  | m + 1 => by
    show _ = sgC _ m + _
    rw [← dwn_sum P S k E x m]
    have e : (fun x => if x < m + 1 then E x else 0) = fun x => (fun x => if x < m then E x else 0) x + (fun x => E m * unF m x) x := by
      funext x
      unfold unF
      by_cases h1 : x < m
      · have : ¬ x = m := by omega
        simp [h1, this, show x < m + 1 by omega]
      · by_cases h2 : x = m
        · subst h2; simp
        · simp [h1, h2, show ¬ x < m + 1 by omega]
    rw [e, dwn_add, dwn_smul]
/-- The list of weights with the excesses E. -/
def wtL (P S E : List Int) (n : Nat) : List Int := (List.range n).map (dwn P S n (fun x => E[x]?.getD 0))
theorem wtL_len (P S E : List Int) (n : Nat) : (wtL P S E n).length = n := by simp [wtL]
theorem wtL_at {P S E : List Int} {n x : Nat} (h : x < n) : (wtL P S E n)[x]?.getD 0 = dwn P S n (fun x => E[x]?.getD 0) x := by simp [wtL, h]
theorem wt_sum {P S E : List Int} {n x : Nat} (hl : E.length = n) : dwn P S n (fun x => E[x]?.getD 0) x = sgC (fun i => E[i]?.getD 0 * smF1 P S n i x) n := by
  have e : (fun x => E[x]?.getD 0) = fun x => if x < n then E[x]?.getD 0 else (0 : Int) := by
    funext x
    by_cases h : x < n
    · simp [h]
    · rw [if_neg h, List.getElem?_eq_none (by omega)]; rfl
  have := dwn_sum P S n (fun x => E[x]?.getD 0) x n
  rw [e]
  exact this
def smL (P S : List Int) (n i : Nat) : List Int := (List.range n).map (smF1 P S n i)
theorem smL_len (P S : List Int) (n i : Nat) : (smL P S n i).length = n := by simp [smL]
theorem smL_at {P S : List Int} {n i x : Nat} (h : x < n) : (smL P S n i)[x]?.getD 0 = smF1 P S n i x := by simp [smL, h]
/-- A power of three. -/
def tri : Nat → Int
  | 0 => 1
  | n + 1 => 3 * tri n
theorem tri_pos : ∀ n, 1 ≤ tri n
  | 0 => by decide
  | n + 1 => by have := tri_pos n; show 1 ≤ 3 * tri n; omega
theorem tri_mono {a b : Nat} (h : a ≤ b) : tri a ≤ tri b := by
  induction b with
  | zero => obtain rfl : a = 0 := by omega
            exact Int.le_refl _
  | succ b ih =>
    by_cases e : a = b + 1
    · subst e; exact Int.le_refl _
    · have := ih (by omega); have := tri_pos b; show tri a ≤ 3 * tri b; omega
theorem tri_24 : tri 24 = 282429536481 := by decide +kernel
theorem stQ_tri {P S : List Int} {G : Nat → Int} {M : Int} {t k : Nat} {d : Int} (hM : 0 ≤ M) (h : ∀ x, -(M * tri t) ≤ G x ∧ G x ≤ M * tri t) (hd : -(M * tri t) ≤ d ∧ d ≤ M * tri t) (j : Nat) : ∀ x, -(M * tri (t + 1)) ≤ stQ G ((nrC P S k).take j) d x ∧ stQ G ((nrC P S k).take j) d x ≤ M * tri (t + 1) := by
  intro x
  have h1 := stQ_le (L := (nrC P S k).take j) h hd x
  have h0 : 0 ≤ M * tri t := Int.mul_nonneg hM (by have := tri_pos t; omega)
  have h2 : M * tri t * (((nrC P S k).take j).length : Int) ≤ M * tri t * 2 := Int.mul_le_mul_of_nonneg_left (by have := nrC_len P S k; simp only [List.length_take]; omega) h0
  have h3 : M * tri (t + 1) = 3 * (M * tri t) := by show M * (3 * tri t) = _; rw [← Int.mul_assoc, Int.mul_comm M 3, Int.mul_assoc]
  omega

/-- Orders: each point's weight and the orders of those to which it is proximate. -/
def oC (P S : List Int) (W : Nat → Int) : Nat → List Int
  | 0 => []
  | j + 1 => oC P S W j ++ [W j + ((nrC P S j).map fun z => (oC P S W j)[z.toNat]?.getD 0).sum]
theorem oC_len (P S : List Int) (W : Nat → Int) : ∀ j, (oC P S W j).length = j
  | 0 => rfl
  | j + 1 => by show (oC P S W j ++ _).length = _; rw [List.length_append, oC_len P S W j]; rfl
theorem oC_get (P S : List Int) (W : Nat → Int) {i : Nat} : ∀ {j : Nat}, i < j → (oC P S W j)[i]? = (oC P S W (i + 1))[i]?
  | 0, h => by omega
  | j + 1, h => by
    by_cases e : i = j
    · subst e; rfl
    · show (oC P S W j ++ _)[i]? = _
      rw [List.getElem?_append_left (by rw [oC_len]; omega)]
      exact oC_get P S W (by omega)
def oF (P S : List Int) (W : Nat → Int) (i : Nat) : Int := (oC P S W (i + 1))[i]?.getD 0
theorem oC_at {P S : List Int} {W : Nat → Int} {i j : Nat} (h : i < j) : (oC P S W j)[i]?.getD 0 = oF P S W i := by unfold oF; rw [oC_get P S W h]
theorem oC_next (P S : List Int) (W : Nat → Int) (j : Nat) : oC P S W (j + 1) = oC P S W j ++ [oF P S W j] := by
  show oC P S W j ++ [_] = _
  congr 2
  unfold oF
  show _ = (oC P S W j ++ [_])[j]?.getD 0
  rw [List.getElem?_append_right (by rw [oC_len]; exact Nat.le_refl _), oC_len]
  simp
theorem oF_eq {P S : List Int} {W : Nat → Int} {n j : Nat} (h : okAll P S n = true) (hj : j < n) : oF P S W j = W j + ((nrC P S j).map fun z => oF P S W z.toNat).sum := by
  have e : (nrC P S j).map (fun z => (oC P S W j)[z.toNat]?.getD 0) = (nrC P S j).map fun z => oF P S W z.toNat := List.map_congr_left fun z hz => by
    have := nr_mem h hj z hz
    exact oC_at (by omega)
  have h1 := oC_next P S W j
  have h2 : oC P S W (j + 1) = oC P S W j ++ [W j + ((nrC P S j).map fun z => (oC P S W j)[z.toNat]?.getD 0).sum] := rfl
  rw [h2, e] at h1
  have h3 := List.append_cancel_left h1
  simpa using h3.symm
theorem oF_zero {P S : List Int} {W : Nat → Int} {n : Nat} (h : okAll P S n = true) (hn : 0 < n) : oF P S W 0 = W 0 := by
  rw [oF_eq h hn, (nr_zero h hn).1]; simp
theorem oF_one {P S : List Int} {W : Nat → Int} {n i p : Nat} (h : okAll P S n = true) (hi : i < n) (hq : nrC P S i = [(p : Int)]) : oF P S W i = W i + oF P S W p := by
  rw [oF_eq h hi, hq]; simp
theorem oF_two {P S : List Int} {W : Nat → Int} {n i p s : Nat} (h : okAll P S n = true) (hi : i < n) (hq : nrC P S i = [(s : Int), (p : Int)]) : oF P S W i = W i + oF P S W s + oF P S W p := by
  rw [oF_eq h hi, hq]; simp; omega
theorem oF_le {P S : List Int} {W : Nat → Int} {n : Nat} {M : Int} (h : okAll P S n = true) (hM : 0 ≤ M) (hW : ∀ i, i < n → -M ≤ W i ∧ W i ≤ M) : ∀ i, i < n → -(M * tri i) ≤ oF P S W i ∧ oF P S W i ≤ M * tri i := by
  intro i
  induction i using Nat.strongRecOn with
  | ind i ih =>
    intro hi
    have hw := hW i hi
    by_cases h0 : i = 0
    · subst h0
      rw [oF_zero h hi]
      show -(M * 1) ≤ _ ∧ _ ≤ M * 1
      omega
    · obtain ⟨p, _, hp, hq⟩ := nr_lt h i hi (by omega)
      obtain ⟨j, rfl⟩ : ∃ j, i = j + 1 := ⟨i - 1, by omega⟩
      have h1 := ih p hp (by omega)
      have e : M * tri (j + 1) = 3 * (M * tri j) := by show M * (3 * tri j) = _; rw [← Int.mul_assoc, Int.mul_comm M 3, Int.mul_assoc]
      have h3 : M * tri p ≤ M * tri j := Int.mul_le_mul_of_nonneg_left (tri_mono (by omega)) hM
      have h4 : M * 1 ≤ M * tri j := Int.mul_le_mul_of_nonneg_left (tri_pos j) hM
      rcases hq with ⟨_, hq⟩ | ⟨s, _, hs2, hq⟩
      · rw [oF_one h hi hq]; omega
      · have h2 := ih s (by omega) (by omega)
        have h5 : M * tri s ≤ M * tri j := Int.mul_le_mul_of_nonneg_left (tri_mono (by omega)) hM
        rw [oF_two h hi hq]; omega
def orL (P S W : List Int) (n : Nat) : List Int := oC P S (fun x => W[x]?.getD 0) n
theorem orL_len (P S W : List Int) (n : Nat) : (orL P S W n).length = n := oC_len _ _ _ _
theorem orL_at {P S W : List Int} {n x : Nat} (h : x < n) : (orL P S W n)[x]?.getD 0 = oF P S (fun x => W[x]?.getD 0) x := oC_at h

/-- The rows of proximities. -/
def nrQ (P S : List Int) (n : Nat) : List (List Int) := (List.range n).map (nrC P S)
theorem nrQ_len (P S : List Int) (n : Nat) : (nrQ P S n).length = n := by simp [nrQ]
theorem nrQ_at {P S : List Int} {n x : Nat} (h : x < n) : (nrQ P S n).getD x [] = nrC P S x := by simp [nrQ, h, List.getD]
/-- The proximity matrix. -/
def pxE (P S : List Int) (i j : Nat) : Int := if j = i then 1 else if (nrC P S i).contains (j : Int) then -1 else 0
def pxR (P S : List Int) (n i : Nat) : List Int := (List.range n).map (pxE P S i)
def pxQ (P S : List Int) (n : Nat) : List (List Int) := (List.range n).map (pxR P S n)
theorem pxR_len (P S : List Int) (n i : Nat) : (pxR P S n i).length = n := by simp [pxR]
theorem pxR_at {P S : List Int} {n i j : Nat} (h : j < n) : (pxR P S n i)[j]?.getD 0 = pxE P S i j := by simp [pxR, h]
theorem pxQ_len (P S : List Int) (n : Nat) : (pxQ P S n).length = n := by simp [pxQ]
theorem pxQ_at {P S : List Int} {n i : Nat} (h : i < n) : (pxQ P S n).getD i [] = pxR P S n i := by simp [pxQ, h, List.getD]
theorem pxE_le (P S : List Int) (i j : Nat) : -1 ≤ pxE P S i j ∧ pxE P S i j ≤ 1 := by unfold pxE; split <;> (try split) <;> decide
/-- The intersection matrix. -/
def meE (P S : List Int) (n i k : Nat) : Int := -sgC (fun j => pxE P S j i * pxE P S j k) n
def meR (P S : List Int) (n i : Nat) : List Int := (List.range n).map (meE P S n i)
def meQ (P S : List Int) (n : Nat) : List (List Int) := (List.range n).map (meR P S n)
theorem meR_len (P S : List Int) (n i : Nat) : (meR P S n i).length = n := by simp [meR]
theorem meR_at {P S : List Int} {n i j : Nat} (h : j < n) : (meR P S n i)[j]?.getD 0 = meE P S n i j := by simp [meR, h]
theorem meQ_len (P S : List Int) (n : Nat) : (meQ P S n).length = n := by simp [meQ]
theorem meQ_at {P S : List Int} {n i : Nat} (h : i < n) : (meQ P S n).getD i [] = meR P S n i := by simp [meQ, h, List.getD]
def ivQ (P S : List Int) (n : Nat) : List (List Int) := (List.range n).map (smL P S n)
theorem ivQ_len (P S : List Int) (n : Nat) : (ivQ P S n).length = n := by simp [ivQ]
theorem ivQ_at {P S : List Int} {n i : Nat} (h : i < n) : (ivQ P S n).getD i [] = smL P S n i := by simp [ivQ, h, List.getD]
end Go.Proofs.Ytohbgfmjnanlkaa
