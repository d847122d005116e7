/- Unloading, plain mathematics: least consistent orders of a cluster. Conditions: stated at each theorem. -/
import Derived.Test.YtohbgfmjnanlkaaUuM
namespace Go.Proofs.Ytohbgfmjnanlkaa
set_option linter.unusedVariables false
set_option linter.unusedSimpArgs false

/-- Weights out of excesses have these excesses. -/
theorem dwn_eq {P S : List Int} {n : Nat} (h : okAll P S n = true) : ∀ (k : Nat) (G : Nat → Int) (x : Nat), k ≤ n → dwn P S k G x = G x + sgC (fun j => cnQ (nrC P S j) x * dwn P S k G j) k
  | 0, G, x, _ => by show G x = G x + 0; omega
  | k + 1, G, x, hk => by
    show dwn P S k (stQ G (nrC P S k) (G k)) x = _
    have ih := dwn_eq h k (stQ G (nrC P S k) (G k)) x (by omega)
    have ik := dwn_eq h k (stQ G (nrC P S k) (G k)) k (by omega)
    have hz : sgC (fun j => cnQ (nrC P S j) k * dwn P S k (stQ G (nrC P S k) (G k)) j) k = 0 := by
      rw [sgC_congr (G := fun _ => 0) (fun j hj => by rw [cn_self h (by omega) (by omega), Int.zero_mul]), sgC_zero]
    have hs : ∀ y, stQ G (nrC P S k) (G k) y = G y + cnQ (nrC P S k) y * G k := fun y => by rw [stQ_at]; unfold cnQ; rw [Int.mul_comm]
    have hkk : dwn P S k (stQ G (nrC P S k) (G k)) k = G k := by
      rw [ik, hz, hs, cn_self h (by omega) (Nat.le_refl k), Int.zero_mul]; omega
    rw [ih, hs]
    show _ = G x + (sgC (fun j => cnQ (nrC P S j) x * dwn P S k (stQ G (nrC P S k) (G k)) j) k + cnQ (nrC P S k) x * dwn P S k (stQ G (nrC P S k) (G k)) k)
    rw [hkk]; omega
theorem ex_dwn {P S : List Int} {n x : Nat} (h : okAll P S n = true) (G : Nat → Int) : exN P S (dwn P S n G) n x = G x := by
  rw [ex_pf h _ (Nat.le_refl n)]
  have := dwn_eq h n G x (Nat.le_refl n)
  omega
theorem dwn_ge {P S : List Int} : ∀ (k : Nat) (G : Nat → Int), (∀ x, 0 ≤ G x) → ∀ x, G x ≤ dwn P S k G x
  | 0, _, _, _ => Int.le_refl _
  | k + 1, G, hG, x => by
    show G x ≤ dwn P S k (stQ G (nrC P S k) (G k)) x
    have hs : ∀ y, G y ≤ stQ G (nrC P S k) (G k) y := fun y => by
      rw [stQ_at]
      have : 0 ≤ G k * (((nrC P S k).filter fun z => decide (z.toNat = y)).length : Int) := Int.mul_nonneg (hG k) (by omega)
      omega
    exact Int.le_trans (hs x) (dwn_ge k _ (fun y => Int.le_trans (hG y) (hs y)) x)
def oneF (n : Nat) (x : Nat) : Int := if x < n then 1 else 0
theorem one_rng (n x : Nat) : 0 ≤ oneF n x ∧ oneF n x ≤ 1 := by unfold oneF; split <;> omega
/-- The sum of Fibonacci's numbers. -/
theorem fib_sum : ∀ n, sgC (fun i => fibN (i + 1)) n = fibN (n + 2) - 1
  | 0 => rfl
  | n + 1 => by
    show sgC _ n + fibN (n + 1) = fibN (n + 3) - 1
    rw [fib_sum n]
    have : fibN (n + 3) = fibN (n + 2) + fibN (n + 1) := rfl
    omega
theorem fib_26 : fibN 26 = 121393 := by decide +kernel
theorem w1_rng {P S : List Int} {n x : Nat} (h : okAll P S n = true) (hn : n ≤ 24) (hx : x < n) : 1 ≤ dwn P S n (oneF n) x ∧ dwn P S n (oneF n) x ≤ 121392 := by
  refine ⟨Int.le_trans (by unfold oneF; rw [if_pos hx]; exact Int.le_refl _) (dwn_ge n (oneF n) (fun y => (one_rng n y).1) x), ?_⟩
  have h1 := dwn_sum P S n (fun _ => 1) x n
  have e : (fun x => if x < n then (1 : Int) else 0) = oneF n := rfl
  rw [e] at h1
  rw [h1]
  have h2 : sgC (fun i => 1 * dwn P S n (unF i) x) n ≤ sgC (fun i => fibN (i + 1)) n := sgC_mono fun i hi => by
    rw [Int.one_mul]; exact (sm_le h i hi x).2.1
  rw [fib_sum] at h2
  have h3 := fib_mono (show n + 2 ≤ 26 by omega)
  rw [fib_26] at h3
  omega
/-- Orders of bounded weights. -/
theorem oF_fib {P S : List Int} {W : Nat → Int} {n : Nat} {M : Int} (h : okAll P S n = true) (hM : 0 ≤ M) (hW : ∀ i, i < n → -M ≤ W i ∧ W i ≤ M) : ∀ i, i < n → -(M * (fibN (i + 3) - 1)) ≤ oF P S W i ∧ oF P S W i ≤ M * (fibN (i + 3) - 1) := by
  intro i
  induction i using Nat.strongRecOn with
  | ind i ih =>
    intro hi
    have hw := hW i hi
    by_cases h0 : i = 0
    · subst h0
      rw [oF_zero h hi, show fibN (0 + 3) - 1 = 1 from by decide, Int.mul_one]; exact hw
    · obtain ⟨p, _, hp, hq⟩ := nr_lt h i hi (by omega)
      have h1 := ih p hp (by omega)
      obtain ⟨j, rfl⟩ : ∃ j, i = j + 1 := ⟨i - 1, by omega⟩
      have e : fibN (j + 1 + 3) = fibN (j + 3) + fibN (j + 2) := rfl
      have hf := fib_mono (show p + 3 ≤ j + 3 by omega)
      have hf2 := fib_mono (show 1 ≤ j + 2 by omega)
      have hf1 : fibN 1 = 1 := rfl
      have h3 : M * (fibN (p + 3) - 1) ≤ M * (fibN (j + 3) - 1) := Int.mul_le_mul_of_nonneg_left (by omega) hM
      rcases hq with ⟨_, hq⟩ | ⟨s, _, hs2, hq⟩
      · rw [oF_one h hi hq]
        have h4 : M * (fibN (j + 3) - 1) + M ≤ M * (fibN (j + 1 + 3) - 1) := by
          have : M * (fibN (j + 3) - 1) + M = M * fibN (j + 3) := by rw [Int.mul_sub]; omega
          rw [this]; exact Int.mul_le_mul_of_nonneg_left (by omega) hM
        omega
      · have h2 := ih s (by omega) (by omega)
        have hfs := fib_mono (show s + 3 ≤ j + 2 by omega)
        have h5 : M * (fibN (s + 3) - 1) ≤ M * (fibN (j + 2) - 1) := Int.mul_le_mul_of_nonneg_left (by omega) hM
        rw [oF_two h hi hq]
        have h4 : M * (fibN (j + 3) - 1) + M * (fibN (j + 2) - 1) + M = M * (fibN (j + 1 + 3) - 1) := by rw [e]; grind
        omega
theorem oF_121 {P S : List Int} {W : Nat → Int} {n : Nat} {M : Int} (h : okAll P S n = true) (hn : n ≤ 24) (hM : 0 ≤ M) (hW : ∀ i, i < n → -M ≤ W i ∧ W i ≤ M) : ∀ i, i < n → -(M * 121392) ≤ oF P S W i ∧ oF P S W i ≤ M * 121392 := fun i hi => by
  have h1 := oF_fib h hM hW i hi
  have h2 := fib_mono (show i + 3 ≤ 26 by omega)
  rw [fib_26] at h2
  have h3 : M * (fibN (i + 3) - 1) ≤ M * 121392 := Int.mul_le_mul_of_nonneg_left (by omega) hM
  omega
/-- Orders with all excesses 1. -/
def zU (P S : List Int) (n : Nat) (x : Nat) : Int := oF P S (dwn P S n (oneF n)) x
theorem oF_one_le {P S : List Int} {W : Nat → Int} {n : Nat} (h : okAll P S n = true) (hW : ∀ i, i < n → 1 ≤ W i) : ∀ i, i < n → 1 ≤ oF P S W i := by
  intro i
  induction i using Nat.strongRecOn with
  | ind i ih =>
    intro hi
    have hw := hW i hi
    by_cases h0 : i = 0
    · subst h0; rw [oF_zero h hi]; exact hw
    · obtain ⟨p, _, hp, hq⟩ := nr_lt h i hi (by omega)
      have h1 := ih p hp (by omega)
      rcases hq with ⟨_, hq⟩ | ⟨s, _, hs2, hq⟩
      · rw [oF_one h hi hq]; omega
      · have h2 := ih s (by omega) (by omega)
        rw [oF_two h hi hq]; omega
theorem zU_rng {P S : List Int} {n x : Nat} (h : okAll P S n = true) (hn : n ≤ 24) (hx : x < n) : 1 ≤ zU P S n x ∧ zU P S n x ≤ 14736017664 := by
  refine ⟨oF_one_le h (fun i hi => (w1_rng h hn hi).1) x hx, ?_⟩
  have := (oF_121 (M := 121392) (W := dwn P S n (oneF n)) h hn (by omega) (fun i hi => by have := w1_rng h hn hi; omega) x hx).2
  unfold zU; omega
theorem zU_xs {P S : List Int} {n x : Nat} (h : okAll P S n = true) (hx : x < n) : xsF P S n (zU P S n) x = 1 := by
  unfold zU
  rw [← ex_oF h hx, ex_dwn h]
  unfold oneF; rw [if_pos hx]
theorem mx_cluster {P S : List Int} {n : Nat} (h : okAll P S n = true) (hn : n ≤ 24) : MX n (meE P S n) (adjB P S n) (zU P S n) := by
  constructor
  · intro u v hu hv ha; exact (me_adj h hu hv (adj_ne ha)).1 ha
  · intro u v hu hv hne ha; exact (me_adj h hu hv hne).2 ha
  · intro u v _ _ ha; exact adj_sym ha
  · intro v hv
    have h1 := me_self h hv
    have h2 : 0 ≤ sgC (fun j => cnQ (nrC P S j) v) n := sgC_nn fun i _ => cnQ_nn _ _
    omega
  · intro v hv; exact (zU_rng h hn hv).1
  · intro v hv
    have := zU_xs h hv
    unfold xsF at this
    omega
/-- The numbers on the diagonal add up to at most 72. -/
theorem diag_72 {P S : List Int} {n : Nat} (h : okAll P S n = true) (hn : n ≤ 24) : sgC (fun v => -(meE P S n v v)) n ≤ 72 := by
  have e : sgC (fun v => -(meE P S n v v)) n = sgC (fun v => 1 + sgC (fun j => cnQ (nrC P S j) v) n) n := sgC_congr fun v hv => me_self h hv
  rw [e, sgC_add, sgC_swap]
  have h1 : sgC (fun _ => (1 : Int)) n ≤ n := sgC_le_n fun i _ => Int.le_refl _
  have h2 : sgC (fun j => sgC (fun v => cnQ (nrC P S j) v) n) n ≤ 2 * n := (sgC_le (b := 2) (n := n) (fun j hj => by
    have h3 := sum_cnQ (fun _ => 1) (n := n) (L := nrC P S j) (fun z hz => by have := nr_mem h hj z hz; omega)
    have h4 : sgC (fun k => cnQ (nrC P S j) k * 1) n = sgC (fun v => cnQ (nrC P S j) v) n := sgC_congr fun k _ => Int.mul_one _
    rw [h4] at h3
    have h5 : ((nrC P S j).map fun _ => (1 : Int)).sum = (nrC P S j).length := by
      generalize nrC P S j = L
      induction L with
      | nil => rfl
      | cons z L ih => simp only [List.map_cons, List.sum_cons, ih, List.length_cons]; omega
    have h6 := nrC_len P S j
    have h7 : 0 ≤ sgC (fun v => cnQ (nrC P S j) v) n := sgC_nn fun v _ => cnQ_nn _ _
    omega)).2
  omega
/-- The bound of excesses at a point. -/
def bdE (P S : List Int) (n v : Nat) : Int := 100100 * -(meE P S n v v)
theorem rise_bd {P S : List Int} {n : Nat} (h : okAll P S n = true) (hn : n ≤ 24) : pdC (fun v => -(meE P S n v v)) n ≤ 282429536481 ∧ sgC (bdE P S n) n ≤ 7207200 ∧ sgC (bdE P S n) n * pdC (fun v => -(meE P S n v v)) n ≤ 2100000000000000000 := by
  have hM := mx_cluster h hn
  have hd : ∀ i, i < n → 1 ≤ -(meE P S n i i) := fun i hi => by have := hM.neg i hi; omega
  have h1 := pd_72 hd (diag_72 h hn)
  have h2 : sgC (bdE P S n) n ≤ 7207200 := by
    unfold bdE
    rw [sgC_smul]
    have := diag_72 h hn
    omega
  have h3 := pdC_pos hd
  have h4 : 0 ≤ sgC (bdE P S n) n := sgC_nn fun i hi => by unfold bdE; have := hd i hi; omega
  refine ⟨h1, h2, ?_⟩
  have h5 : sgC (bdE P S n) n * pdC (fun v => -(meE P S n v v)) n ≤ 7207200 * 282429536481 := Int.mul_le_mul h2 h1 (by omega) (by omega)
  omega
theorem w_bd {P S : List Int} {n v : Nat} {M : Int} {W : Nat → Int} (h : okAll P S n = true) (hv : v < n) (hM : 0 ≤ M) (hW : ∀ i, i < n → -M ≤ W i ∧ W i ≤ M) : -(M * -(meE P S n v v)) ≤ exN P S W n v ∧ exN P S W n v ≤ M * -(meE P S n v v) := by
  rw [ex_pf h _ (Nat.le_refl n), me_self h hv, Int.mul_add, Int.mul_one, ← sgC_smul]
  have h1 : sgC (fun j => cnQ (nrC P S j) v * W j) n ≤ sgC (fun i => M * cnQ (nrC P S i) v) n := sgC_mono fun i hi => by
    rw [Int.mul_comm]; exact Int.mul_le_mul_of_nonneg_right (hW i hi).2 (cnQ_nn _ _)
  have h2 : sgC (fun j => cnQ (nrC P S j) v * W j) n ≥ -sgC (fun i => M * cnQ (nrC P S i) v) n := by
    rw [← sgC_neg]
    exact sgC_mono fun i hi => by
      rw [Int.mul_comm (cnQ _ _), ← Int.neg_mul]; exact Int.mul_le_mul_of_nonneg_right (hW i hi).1 (cnQ_nn _ _)
  have := hW v hv
  omega

/-- The least consistent orders that are not less than O. -/
structure Lst (P S : List Int) (n : Nat) (O Q : Nat → Int) : Prop where
  ge : ∀ v, v < n → O v ≤ Q v
  cns : ∀ v, v < n → 0 ≤ xsF P S n Q v
  low : ∀ y : Nat → Int, (∀ v, v < n → O v ≤ y v) → (∀ v, v < n → 0 ≤ xsF P S n y v) → ∀ v, v < n → Q v ≤ y v
theorem Lst.uniq {P S : List Int} {n : Nat} {O Q R : Nat → Int} (h : Lst P S n O Q) (k : Lst P S n O R) : ∀ v, v < n → Q v = R v := fun v hv => by
  have h1 := h.low R k.ge k.cns v hv
  have h2 := k.low Q h.ge h.cns v hv
  omega
/-- Orders on the way: not less than O, not greater than any consistent ones. -/
structure Btw (P S : List Int) (n : Nat) (O Q : Nat → Int) : Prop where
  ge : ∀ v, v < n → O v ≤ Q v
  low : ∀ y : Nat → Int, (∀ v, v < n → O v ≤ y v) → (∀ v, v < n → 0 ≤ xsF P S n y v) → ∀ v, v < n → Q v ≤ y v
theorem Btw.refl (P S : List Int) (n : Nat) (O : Nat → Int) : Btw P S n O O := ⟨fun _ _ => Int.le_refl _, fun _ h _ => h⟩
theorem Btw.lst {P S : List Int} {n : Nat} {O Q : Nat → Int} (h : Btw P S n O Q) (hc : ∀ v, v < n → 0 ≤ xsF P S n Q v) : Lst P S n O Q := ⟨h.ge, hc, h.low⟩
/-- A bound: orders raised by so many orders with excesses 1. -/
theorem Btw.top {P S : List Int} {n : Nat} {O Q : Nat → Int} {c : Int} (h : Btw P S n O Q) (ho : okAll P S n = true) (hn : n ≤ 24) (hc : 0 ≤ c) (he : ∀ v, v < n → -c ≤ xsF P S n O v) : ∀ v, v < n → Q v ≤ O v + c * zU P S n v := by
  refine h.low (fun v => O v + c * zU P S n v) (fun v hv => ?_) (fun v hv => ?_)
  · have : 0 ≤ c * zU P S n v := Int.mul_nonneg hc (by have := (zU_rng ho hn hv).1; omega)
    omega
  · rw [xs_add]
    have h1 : xsF P S n (fun x => c * zU P S n x) v = c * xsF P S n (zU P S n) v := by
      unfold xsF
      rw [sgC_congr (F := fun k => meE P S n v k * (c * zU P S n k)) (G := fun k => c * (meE P S n v k * zU P S n k)) (fun k _ => by rw [← Int.mul_assoc, ← Int.mul_assoc, Int.mul_comm c]), sgC_smul, Int.mul_neg]
    rw [h1, zU_xs ho hv, Int.mul_one]
    have := he v hv
    omega
/-- Raising by numbers that no consistent orders can do without. -/
theorem Btw.step {P S : List Int} {n : Nat} {O Q : Nat → Int} (h : Btw P S n O Q) (D : Nat → Int) (hD : ∀ v, v < n → 0 ≤ D v) (hl : ∀ y : Nat → Int, (∀ c, c < n → 0 ≤ y c) → (∀ v, v < n → 0 ≤ xsF P S n Q v - sgC (fun k => meE P S n v k * y k) n) → ∀ v, v < n → D v ≤ y v) : Btw P S n O (fun x => Q x + D x) := by
  refine ⟨fun v hv => by have := h.ge v hv; have := hD v hv; omega, fun y hy hc v hv => ?_⟩
  have h1 := h.low y hy hc
  have h2 := hl (fun x => y x - Q x) (fun c hcn => by have := h1 c hcn; omega) (fun v hv => by
    have h3 := hc v hv
    unfold xsF at h3 ⊢
    rw [sgC_congr (F := fun k => meE P S n v k * (y k - Q k)) (G := fun k => meE P S n v k * y k - meE P S n v k * Q k) (fun k _ => Int.mul_sub _ _ _), sgC_sub]
    omega) v hv
  have h4 : D v ≤ y v - Q v := h2
  show Q v + D v ≤ y v
  omega
end Go.Proofs.Ytohbgfmjnanlkaa
