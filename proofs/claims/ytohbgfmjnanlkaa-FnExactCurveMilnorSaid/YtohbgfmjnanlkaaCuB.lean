/- Sums of delta invariants and intersection numbers of a curve. No conditions. -/
import Derived.Test.YtohbgfmjnanlkaaCuA
namespace Go.Proofs.Ytohbgfmjnanlkaa
open Go.ChangeShapes Go.WideShapes Go.ChangeAt Go.RowKit Go.Deep
set_option linter.unusedVariables false
set_option linter.unusedSimpArgs false

/-- Sums of delta invariants; of intersection numbers of one branch with those before; of the model; of a table. -/
def dlF (Z : List (List Int)) : Nat → Int
  | 0 => 0
  | n + 1 => dlF Z n + dA (bt Z n)
def inF (Z M : List (List Int)) (i : Nat) : Nat → Int
  | 0 => 0
  | k + 1 => inF Z M i k + inV Z M i k
def dsF (Z M : List (List Int)) : Nat → Int
  | 0 => 0
  | n + 1 => dsF Z M n + dA (bt Z n) + inF Z M n n
def smT (f : Nat → Int) : Nat → Int
  | 0 => 0
  | n + 1 => smT f n + f n
theorem smT_congr {f g : Nat → Int} : ∀ n, (∀ t, t < n → f t = g t) → smT f n = smT g n
  | 0, _ => rfl
  | n + 1, h => by show smT f n + f n = smT g n + g n; rw [smT_congr n (fun t ht => h t (by omega)), h n (by omega)]
/-- The same sum, row by row or column by column. -/
def inG (v : Nat → Nat → Int) (i : Nat) : Nat → Int
  | 0 => 0
  | k + 1 => inG v i k + v k i
def dsG (v : Nat → Nat → Int) : Nat → Int
  | 0 => 0
  | n + 1 => dsG v n + inG v n n
theorem tri_sum (v : Nat → Nat → Int) {r : Nat} (h1 : 1 ≤ r) (h6 : r ≤ 6) : smT (fun t => v (tI r t).1 (tI r t).2) (tO r r) = dsG v r := by
  have h : r = 1 ∨ r = 2 ∨ r = 3 ∨ r = 4 ∨ r = 5 ∨ r = 6 := by omega
  rcases h with rfl | rfl | rfl | rfl | rfl | rfl
  · rfl
  · show (0 : Int) + v 0 1 = 0 + 0 + (0 + v 0 1); omega
  · show (0 : Int) + v 0 1 + v 0 2 + v 1 2 = 0 + 0 + (0 + v 0 1) + (0 + v 0 2 + v 1 2); omega
  · show (0 : Int) + v 0 1 + v 0 2 + v 0 3 + v 1 2 + v 1 3 + v 2 3 = 0 + 0 + (0 + v 0 1) + (0 + v 0 2 + v 1 2) + (0 + v 0 3 + v 1 3 + v 2 3); omega
  · show (0 : Int) + v 0 1 + v 0 2 + v 0 3 + v 0 4 + v 1 2 + v 1 3 + v 1 4 + v 2 3 + v 2 4 + v 3 4 = 0 + 0 + (0 + v 0 1) + (0 + v 0 2 + v 1 2) + (0 + v 0 3 + v 1 3 + v 2 3) + (0 + v 0 4 + v 1 4 + v 2 4 + v 3 4); omega
  · show (0 : Int) + v 0 1 + v 0 2 + v 0 3 + v 0 4 + v 0 5 + v 1 2 + v 1 3 + v 1 4 + v 1 5 + v 2 3 + v 2 4 + v 2 5 + v 3 4 + v 3 5 + v 4 5 = 0 + 0 + (0 + v 0 1) + (0 + v 0 2 + v 1 2) + (0 + v 0 3 + v 1 3 + v 2 3) + (0 + v 0 4 + v 1 4 + v 2 4 + v 3 4) + (0 + v 0 5 + v 1 5 + v 2 5 + v 3 5 + v 4 5); omega
theorem inF_inG {Z M : List (List Int)} {r i : Nat} (h : CuOK Z M) (hr : Z.length = r) (hi : i < r) : ∀ k, k ≤ i → inF Z M i k = inG (tN Z M) i k
  | 0, _ => rfl
  | k + 1, hk => by
    show inF Z M i k + inV Z M i k = inG (tN Z M) i k + tN Z M k i
    rw [inF_inG h hr hi k (by omega), ← (inV_tN h hr (show k < i by omega) hi).2]
theorem dsF_dsG {Z M : List (List Int)} {r : Nat} (h : CuOK Z M) (hr : Z.length = r) : ∀ n, n ≤ r → dsF Z M n = dlF Z n + dsG (tN Z M) n
  | 0, _ => rfl
  | n + 1, hn => by
    show dsF Z M n + dA (bt Z n) + inF Z M n n = dlF Z n + dA (bt Z n) + (dsG (tN Z M) n + inG (tN Z M) n n)
    rw [dsF_dsG h hr n (by omega), inF_inG h hr (by omega) n (Nat.le_refl _)]
    omega
theorem delta_same {Z M : List (List Int)} {r : Nat} (h : CuOK Z M) (hr : Z.length = r) : dsF Z M r = dlF Z r + smT (cN Z M r) (tO r r) := by
  rw [dsF_dsG h hr r (Nat.le_refl _)]
  have h1 : 1 ≤ r := by rw [← hr]; exact h.parts.lo
  have h6 : r ≤ 6 := by rw [← hr]; exact h.parts.hi
  rw [← tri_sum (tN Z M) h1 h6]
  rfl
theorem dlF_rng (Z : List (List Int)) : ∀ n : Nat, 0 ≤ dlF Z n ∧ dlF Z n ≤ 600000000000 * n
  | 0 => by simp [dlF]
  | n + 1 => by
    have h1 := dlF_rng Z n
    have h2 := dA_bound (bt Z n)
    show 0 ≤ dlF Z n + dA (bt Z n) ∧ dlF Z n + dA (bt Z n) ≤ 600000000000 * ((n + 1 : Nat) : Int)
    push_cast; omega
theorem smT_rng {f : Nat → Int} {b : Int} {T : Nat} (hb : 0 ≤ b) (h : ∀ t, t < T → 0 ≤ f t ∧ f t ≤ b) : ∀ n, n ≤ T → 0 ≤ smT f n ∧ smT f n ≤ b * n
  | 0, _ => by simp [smT]
  | n + 1, hn => by
    have h1 := smT_rng hb h n (by omega)
    have h2 := h n (by omega)
    show 0 ≤ smT f n + f n ∧ smT f n + f n ≤ b * ((n + 1 : Nat) : Int)
    push_cast
    rw [Int.mul_add]; omega
theorem inV_rng {Z M : List (List Int)} {r i k : Nat} (h : CuOK Z M) (hr : Z.length = r) (hi : i < r) (hk : k < r) : 0 ≤ inV Z M i k ∧ inV Z M i k ≤ 819200 := by
  have hc := h.com
  rw [hr] at hc
  have h1 := mt_nn hc hi hk
  have h2 := dot_rng (V := mqL (bt Z i) (mt M i k).toNat) (W := mqL (bt Z k) (mt M i k).toNat) (n := (mt M i k).toNat) (fun j hj => ⟨mq_at (h.parts.br i (by rw [hr]; exact hi)) hj, mq_at (h.parts.br k (by rw [hr]; exact hk)) hj⟩) _ (Nat.le_refl _)
  unfold inV
  omega
theorem inF_rng {Z M : List (List Int)} {r i : Nat} (h : CuOK Z M) (hr : Z.length = r) (hi : i < r) : ∀ k, k ≤ i → 0 ≤ inF Z M i k ∧ inF Z M i k ≤ 819200 * k
  | 0, _ => by simp [inF]
  | k + 1, hk => by
    have h1 := inF_rng h hr hi k (by omega)
    have h2 := inV_rng h hr hi (show k < r by omega)
    show 0 ≤ inF Z M i k + inV Z M i k ∧ inF Z M i k + inV Z M i k ≤ 819200 * ((k + 1 : Nat) : Int)
    push_cast; omega
theorem dsF_rng {Z M : List (List Int)} {r : Nat} (h : CuOK Z M) (hr : Z.length = r) (h6 : r ≤ 6) : ∀ n, n ≤ r → 0 ≤ dsF Z M n ∧ dsF Z M n ≤ 700000000000 * n
  | 0, _ => by simp [dsF]
  | n + 1, hn => by
    have h1 := dsF_rng h hr h6 n (by omega)
    have h2 := dA_bound (bt Z n)
    have h3 := inF_rng h hr (show n < r by omega) n (Nat.le_refl _)
    show 0 ≤ dsF Z M n + dA (bt Z n) + inF Z M n n ∧ dsF Z M n + dA (bt Z n) + inF Z M n n ≤ 700000000000 * ((n + 1 : Nat) : Int)
    push_cast; omega
theorem cN_rng {Z M : List (List Int)} {r t : Nat} (h : CuOK Z M) (hr : Z.length = r) (ht : t < tO r r) : 0 ≤ cN Z M r t ∧ cN Z M r t ≤ 819200 := by
  have h6 : r ≤ 6 := by rw [← hr]; exact h.parts.hi
  rw [tO_end h6] at ht
  obtain ⟨a1, a2, a3⟩ := tI_ok h6 ht
  unfold cN
  rw [(inV_tN h hr a1 a2).1]
  exact inV_rng h hr (by omega) a2
noncomputable def cdeA (Z M : List (List Int)) : Int := if cuB Z M then dsF Z M Z.length else 0
noncomputable def cmiA (Z M : List (List Int)) : Int := if cuB Z M then 2 * dsF Z M Z.length - Z.length + 1 else 0
end Go.Proofs.Ytohbgfmjnanlkaa
