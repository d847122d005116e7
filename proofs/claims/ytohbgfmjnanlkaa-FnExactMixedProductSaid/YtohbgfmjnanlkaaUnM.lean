/- Unloading, plain mathematics: weights of orders, excesses of orders by the intersection matrix, a step. Conditions: stated at each theorem. -/
import Derived.Test.YtohbgfmjnanlkaaClM
namespace Go.Proofs.Ytohbgfmjnanlkaa
set_option linter.unusedVariables false
set_option linter.unusedSimpArgs false

theorem sgC_add (F G : Nat → Int) : ∀ n, sgC (fun i => F i + G i) n = sgC F n + sgC G n
  | 0 => rfl
  | n + 1 => by show sgC _ n + (F n + G n) = (sgC F n + F n) + (sgC G n + G n); rw [sgC_add F G n]; omega
theorem sgC_smul (c : Int) (F : Nat → Int) : ∀ n, sgC (fun i => c * F i) n = c * sgC F n
  | 0 => by simp [sgC]
  | n + 1 => by show sgC _ n + _ = c * (sgC F n + F n); rw [sgC_smul c F n, Int.mul_add]
theorem sgC_neg (F : Nat → Int) : ∀ n, sgC (fun i => -F i) n = -sgC F n
  | 0 => rfl
  | n + 1 => by show sgC _ n + -F n = -(sgC F n + F n); rw [sgC_neg F n]; omega
theorem sgC_sub (F G : Nat → Int) (n : Nat) : sgC (fun i => F i - G i) n = sgC F n - sgC G n := by
  have h := sgC_add F (fun i => -G i) n
  rw [sgC_neg] at h
  have e : (fun i => F i - G i) = fun i => F i + -G i := by funext i; omega
  rw [e, h]; omega
theorem sgC_zero : ∀ n, sgC (fun _ => 0) n = 0
  | 0 => rfl
  | n + 1 => by show sgC _ n + 0 = 0; rw [sgC_zero n]; rfl
theorem sgC_swap (F : Nat → Nat → Int) (b : Nat) : ∀ a, sgC (fun i => sgC (fun j => F i j) b) a = sgC (fun j => sgC (fun i => F i j) a) b
  | 0 => by
    show (0 : Int) = _
    have : (fun j => sgC (fun i => F i j) 0) = fun _ => (0 : Int) := rfl
    rw [this, sgC_zero]
  | a + 1 => by
    show sgC _ a + sgC _ b = _
    rw [sgC_swap F b a, ← sgC_add]
    rfl
theorem sgC_one {F : Nat → Int} {x : Nat} : ∀ {n : Nat}, x < n → (∀ i, i < n → i ≠ x → F i = 0) → sgC F n = F x
  | 0, h, _ => by omega
  | n + 1, h, hz => by
    show sgC F n + F n = _
    by_cases e : x = n
    · subst e
      have : sgC F x = 0 := by
        rw [sgC_congr (G := fun _ => 0) (fun i hi => hz i (by omega) (by omega)), sgC_zero]
      omega
    · rw [sgC_one (n := n) (by omega) (fun i hi hne => hz i (by omega) hne), hz n (by omega) (fun e' => e e'.symm)]; omega
theorem sgC_nn {F : Nat → Int} : ∀ {n : Nat}, (∀ i, i < n → 0 ≤ F i) → 0 ≤ sgC F n
  | 0, _ => by simp [sgC]
  | n + 1, h => by
    have := sgC_nn (n := n) (fun i hi => h i (by omega))
    have := h n (by omega)
    show 0 ≤ sgC F n + F n
    omega
theorem sgC_mono {F G : Nat → Int} : ∀ {n : Nat}, (∀ i, i < n → F i ≤ G i) → sgC F n ≤ sgC G n
  | 0, _ => Int.le_refl _
  | n + 1, h => by
    have := sgC_mono (n := n) (fun i hi => h i (by omega))
    have := h n (by omega)
    show sgC F n + F n ≤ sgC G n + G n
    omega
theorem sgC_ge {F : Nat → Int} {n i : Nat} (h : ∀ i, i < n → 0 ≤ F i) (hi : i < n) : F i ≤ sgC F n := by
  have h1 : sgC (fun j => if j = i then F i else 0) n = F i := by
    rw [sgC_one (x := i) hi (fun j _ hj => by simp [hj])]; simp
  rw [← h1]
  exact sgC_mono fun j hj => by
    by_cases e : j = i
    · subst e; simp
    · simp [e]; exact h j hj
theorem sgC_if_succ (F : Nat → Int) (x : Nat) : ∀ n, x < n → sgC (fun k => (if x = k then 1 else 0) * F k) n = F x := fun n h => by
  rw [sgC_one (x := x) h (fun k _ hk => by rw [if_neg (fun e => hk e.symm), Int.zero_mul])]
  simp

/-- How often the point k stands in the list of i: 0 or 1. -/
def cnQ (L : List Int) (k : Nat) : Int := ((L.filter fun z => decide (z.toNat = k)).length : Int)
theorem cnQ_cons (z : Int) (L : List Int) (k : Nat) : cnQ (z :: L) k = (if z.toNat = k then 1 else 0) + cnQ L k := by
  unfold cnQ
  by_cases h : z.toNat = k
  · simp [h]; omega
  · simp [h]
theorem cnQ_nil (k : Nat) : cnQ [] k = 0 := rfl
theorem cnQ_nn (L : List Int) (k : Nat) : 0 ≤ cnQ L k := by unfold cnQ; omega
theorem sum_cnQ (O : Nat → Int) {n : Nat} : ∀ {L : List Int}, (∀ z ∈ L, z.toNat < n) → (L.map fun z => O z.toNat).sum = sgC (fun k => cnQ L k * O k) n
  | [], _ => by
    rw [sgC_congr (G := fun _ => 0) (fun i _ => by rw [cnQ_nil, Int.zero_mul]), sgC_zero]; rfl
  | z :: L, h => by
    have h1 := sum_cnQ O (n := n) (L := L) (fun y hy => h y (by simp [hy]))
    rw [List.map_cons, List.sum_cons, h1]
    rw [sgC_congr (F := fun k => cnQ (z :: L) k * O k) (G := fun k => (if z.toNat = k then 1 else 0) * O k + cnQ L k * O k) (fun i _ => by rw [cnQ_cons, Int.add_mul]), sgC_add, sgC_if_succ O z.toNat n (h z (by simp))]
/-- The number of the proximity matrix, by counting. -/
def pfE (P S : List Int) (i k : Nat) : Int := (if i = k then 1 else 0) - cnQ (nrC P S i) k
theorem cn_le {P S : List Int} {n i k : Nat} (h : okAll P S n = true) (hi : i < n) : cnQ (nrC P S i) k = if (nrC P S i).contains (k : Int) then 1 else 0 := by
  by_cases h0 : i = 0
  · subst h0; rw [(nr_zero h hi).1]; rfl
  · obtain ⟨p, _, hp, hq⟩ := nr_lt h i hi (by omega)
    rcases hq with ⟨_, hq⟩ | ⟨s, _, hs2, hq⟩
    · rw [hq]
      by_cases e : p = k
      · subst e; simp [cnQ]
      · have : ¬ (k : Int) = (p : Int) := by omega
        simp [cnQ, e, this]
    · rw [hq]
      by_cases e : p = k
      · subst e
        have : ¬ s = p := by omega
        simp [cnQ, this]
      · by_cases e2 : s = k
        · subst e2; simp [cnQ, e]
        · have h1 : ¬ (k : Int) = (p : Int) := by omega
          have h2 : ¬ (k : Int) = (s : Int) := by omega
          simp [cnQ, e, e2, h1, h2]
theorem cn_self {P S : List Int} {n i k : Nat} (h : okAll P S n = true) (hi : i < n) (hk : i ≤ k) : cnQ (nrC P S i) k = 0 := by
  rw [cn_le h hi, if_neg]
  intro hc
  have hm : (k : Int) ∈ nrC P S i := by simpa using hc
  have := nr_mem h hi _ hm
  omega
theorem px_pf {P S : List Int} {n i k : Nat} (h : okAll P S n = true) (hi : i < n) : pxE P S i k = pfE P S i k := by
  unfold pxE pfE
  rw [cn_le h hi]
  by_cases e : k = i
  · subst e
    have := cn_self h hi (Nat.le_refl k)
    rw [cn_le h hi] at this
    rw [if_pos rfl, if_pos rfl, this]; rfl
  · rw [if_neg e, if_neg (show ¬ i = k from fun e' => e e'.symm)]
    by_cases hc : (nrC P S i).contains (k : Int) = true
    · rw [if_pos hc, if_pos hc]; rfl
    · rw [if_neg hc, if_neg hc]; rfl
/-- Weights of orders. -/
def woF (P S : List Int) (O : Nat → Int) (i : Nat) : Int := O i - ((nrC P S i).map fun z => O z.toNat).sum
theorem wo_pf {P S : List Int} {n i : Nat} (h : okAll P S n = true) (hi : i < n) (O : Nat → Int) : woF P S O i = sgC (fun k => pfE P S i k * O k) n := by
  unfold woF pfE
  rw [sum_cnQ O (n := n) (fun z hz => by have := nr_mem h hi z hz; omega)]
  rw [sgC_congr (F := fun k => ((if i = k then 1 else 0) - cnQ (nrC P S i) k) * O k) (G := fun k => (if i = k then 1 else 0) * O k - cnQ (nrC P S i) k * O k) (fun k _ => Int.sub_mul _ _ _), sgC_sub, sgC_if_succ O i n hi]
theorem wo_oF {P S : List Int} {n i : Nat} (h : okAll P S n = true) (hi : i < n) (W : Nat → Int) : woF P S (oF P S W) i = W i := by
  unfold woF; rw [oF_eq h hi]; omega
theorem wo_congr {P S : List Int} {n i : Nat} (h : okAll P S n = true) (hi : i < n) {O O' : Nat → Int} (e : ∀ x, x < n → O x = O' x) : woF P S O i = woF P S O' i := by
  unfold woF
  rw [e i hi]
  congr 2
  exact List.map_congr_left fun z hz => e _ (by have := nr_mem h hi z hz; omega)
/-- Excesses are sums. -/
theorem ex_pf {P S : List Int} {n x : Nat} (h : okAll P S n = true) (W : Nat → Int) : ∀ {k : Nat}, k ≤ n → exN P S W k x = W x - sgC (fun j => cnQ (nrC P S j) x * W j) k
  | 0, _ => by simp [exN, sgC]
  | k + 1, hk => by
    show stQ (exN P S W k) (nrC P S k) (-(W k)) x = _
    rw [stQ_at, ex_pf h W (k := k) (by omega)]
    show _ = W x - (sgC _ k + cnQ (nrC P S k) x * W k)
    unfold cnQ
    rw [Int.neg_mul, Int.mul_comm (W k)]; omega
theorem ex_sum {P S : List Int} {n x : Nat} (h : okAll P S n = true) (hx : x < n) (W : Nat → Int) : exN P S W n x = sgC (fun j => pfE P S j x * W j) n := by
  rw [ex_pf h W (Nat.le_refl n)]
  unfold pfE
  rw [sgC_congr (F := fun j => ((if j = x then 1 else 0) - cnQ (nrC P S j) x) * W j) (G := fun j => (if x = j then 1 else 0) * W j - cnQ (nrC P S j) x * W j) (fun j _ => by
    by_cases e : j = x
    · subst e; simp [Int.sub_mul]
    · rw [if_neg e, if_neg (fun e' => e e'.symm), Int.sub_mul]), sgC_sub, sgC_if_succ W x n hx]
theorem me_pf {P S : List Int} {n i k : Nat} (h : okAll P S n = true) : meE P S n i k = -sgC (fun j => pfE P S j i * pfE P S j k) n := by
  unfold meE
  rw [sgC_congr (fun j hj => by rw [px_pf h hj, px_pf h hj])]
/-- The excesses of orders: the opposite of the product with the intersection matrix. -/
def xsF (P S : List Int) (n : Nat) (O : Nat → Int) (v : Nat) : Int := -sgC (fun k => meE P S n v k * O k) n
theorem ex_wo {P S : List Int} {n v : Nat} (h : okAll P S n = true) (hv : v < n) (O : Nat → Int) : exN P S (woF P S O) n v = xsF P S n O v := by
  rw [ex_sum h hv]
  rw [sgC_congr (F := fun j => pfE P S j v * woF P S O j) (G := fun j => sgC (fun k => pfE P S j v * (pfE P S j k * O k)) n) (fun j hj => by rw [wo_pf h hj, sgC_smul])]
  rw [sgC_swap]
  unfold xsF
  rw [← sgC_neg]
  refine sgC_congr fun k _ => ?_
  rw [me_pf h, Int.neg_mul, Int.neg_neg]
  rw [sgC_congr (F := fun j => pfE P S j v * (pfE P S j k * O k)) (G := fun j => O k * (pfE P S j v * pfE P S j k)) (fun j _ => by rw [← Int.mul_assoc, Int.mul_comm]), sgC_smul, Int.mul_comm]
theorem exN_congr {P S : List Int} {n v : Nat} (h : okAll P S n = true) (hv : v < n) {W W' : Nat → Int} (e : ∀ x, x < n → W x = W' x) : exN P S W n v = exN P S W' n v := by
  rw [ex_sum h hv, ex_sum h hv]
  exact sgC_congr fun j hj => by rw [e j hj]
theorem ex_oF {P S : List Int} {n v : Nat} (h : okAll P S n = true) (hv : v < n) (W : Nat → Int) : exN P S W n v = xsF P S n (oF P S W) v := by
  rw [← ex_wo h hv]
  exact exN_congr h hv fun x hx => (wo_oF h hx W).symm
theorem xs_add (P S : List Int) (n : Nat) (O D : Nat → Int) (v : Nat) : xsF P S n (fun x => O x + D x) v = xsF P S n O v + xsF P S n D v := by
  unfold xsF
  rw [sgC_congr (F := fun k => meE P S n v k * (O k + D k)) (G := fun k => meE P S n v k * O k + meE P S n v k * D k) (fun k _ => Int.mul_add _ _ _), sgC_add]; omega
theorem wo_add (P S : List Int) (O D : Nat → Int) (i : Nat) : woF P S (fun x => O x + D x) i = woF P S O i + woF P S D i := by
  have hs : ∀ L : List Int, (L.map fun z => O z.toNat + D z.toNat).sum = (L.map fun z => O z.toNat).sum + (L.map fun z => D z.toNat).sum := fun L => by
    induction L with
    | nil => rfl
    | cons z L ih => simp only [List.map_cons, List.sum_cons, ih]; omega
  unfold woF
  rw [hs]
  show O i + D i - _ = _
  omega
theorem wo_un {P S : List Int} {n i : Nat} (h : okAll P S n = true) (hi : i < n) {p : Nat} (hp : p < n) (s : Int) : woF P S (fun x => if x = p then s else 0) i = pfE P S i p * s := by
  rw [wo_pf h hi, sgC_one (x := p) hp (fun k _ hk => by rw [if_neg hk, Int.mul_zero]), if_pos rfl]
theorem me_self {P S : List Int} {n p : Nat} (h : okAll P S n = true) (hp : p < n) : -meE P S n p p = 1 + sgC (fun j => cnQ (nrC P S j) p) n := by
  rw [me_pf h, Int.neg_neg]
  rw [sgC_congr (F := fun j => pfE P S j p * pfE P S j p) (G := fun j => (if p = j then 1 else 0) * 1 + cnQ (nrC P S j) p) (fun j hj => ?_), sgC_add, sgC_if_succ (fun _ => 1) p n hp]
  unfold pfE
  have h1 := cn_le (k := p) h hj
  by_cases e : j = p
  · subst e
    rw [cn_self h hj (Nat.le_refl j), if_pos rfl]; rfl
  · rw [if_neg e, if_neg (show ¬ p = j from fun e' => e e'.symm), h1]
    by_cases hc : (nrC P S j).contains (p : Int) = true
    · rw [if_pos hc]; rfl
    · rw [if_neg hc]; rfl
theorem me_sym (P S : List Int) (n i k : Nat) : meE P S n i k = meE P S n k i := by
  unfold meE
  congr 1
  exact sgC_congr fun j _ => Int.mul_comm _ _
end Go.Proofs.Ytohbgfmjnanlkaa
