/- Curves: what a curve is, over lists; codes of the first points at different lengths; triangular tables. No conditions. -/
import Derived.Test.YtohbgfmjnanlkaaPtM
namespace Go.Proofs.Ytohbgfmjnanlkaa
set_option linter.unusedVariables false
set_option linter.unusedSimpArgs false

/-- The number of points that two branches have in common. -/
def mt (M : List (List Int)) (i k : Nat) : Int := (M.getD i []).getD k 0
/-- The branch. -/
def bt (Z : List (List Int)) (i : Nat) : List Int := Z.getD i []
structure CuParts (Z M : List (List Int)) : Prop where
  lo : 1 ≤ Z.length
  hi : Z.length ≤ 6
  ml : M.length = Z.length
  br : ∀ i, i < Z.length → brB (bt Z i) = true
  row : ∀ i, i < Z.length → (M.getD i []).length = Z.length
structure CuCom (M : List (List Int)) (r : Nat) : Prop where
  sym : ∀ i k, i < r → k < r → mt M i k = mt M k i
  dia : ∀ i, i < r → mt M i i = 0
  off : ∀ i k, i < r → k < r → i ≠ k → 1 ≤ mt M i k ∧ mt M i k ≤ 200
/-- The number in the code of a branch behind the point j, of any number of points. -/
def cuD (zs : List Int) (j : Nat) : Int := cdI (mqL zs (j + 2)) (j + 1) (j + 1)
/-- Two branches can have exactly c points in common. -/
def CuPair (xs ys : List Int) (c : Nat) : Prop := (∀ j, j + 1 < c → cuD xs j = cuD ys j) ∧ (cuD xs (c - 1) ≠ cuD ys (c - 1) ∨ cuD xs (c - 1) = 0)
structure CuOK (Z M : List (List Int)) : Prop where
  parts : CuParts Z M
  com : CuCom M Z.length
  pair : ∀ i k, i < k → k < Z.length → CuPair (bt Z i) (bt Z k) (mt M i k).toNat
  tri : ∀ i k j, i < Z.length → k < Z.length → j < Z.length → i ≠ k → i ≠ j → j ≠ k → min (mt M i j) (mt M j k) ≤ mt M i k
open Classical in
/-- Is it a curve. -/
noncomputable def cuB (Z M : List (List Int)) : Bool := decide (CuOK Z M)
theorem cuB_true {Z M : List (List Int)} : cuB Z M = true ↔ CuOK Z M := by unfold cuB; simp
theorem cuB_false {Z M : List (List Int)} (h : ¬ CuOK Z M) : cuB Z M = false := by unfold cuB; simp [h]

theorem sm_congr {m m' : List Int} {a : Nat} : ∀ {k : Nat}, (∀ x, x < a + k → m[x]?.getD 0 = m'[x]?.getD 0) → sm m a k = sm m' a k
  | 0, _ => rfl
  | k + 1, h => by
    show sm m a k + m[a + k]?.getD 0 = sm m' a k + m'[a + k]?.getD 0
    rw [sm_congr (fun x hx => h x (by omega)), h (a + k) (by omega)]
theorem pr_congr {m m' : List Int} {i j : Nat} (h : ∀ x, x ≤ j → m[x]?.getD 0 = m'[x]?.getD 0) : PR m i j = PR m' i j := by
  by_cases hij : i < j
  · unfold PR
    rw [sm_congr (m := m) (m' := m') (fun x hx => h x (by omega)), h i (by omega)]
  · rw [pr_out (by omega), pr_out (by omega)]
theorem cdI_congr {m m' : List Int} {j : Nat} (h : ∀ x, x ≤ j → m[x]?.getD 0 = m'[x]?.getD 0) : ∀ I, cdI m I j = cdI m' I j
  | 0 => rfl
  | I + 1 => by
    have e := cdI_congr h I
    show (if _ then _ else _) = (if _ then _ else _)
    rw [pr_congr h, e]
theorem mq_pre {zs : List Int} {n k x : Nat} (hx : x < n) (hn : n ≤ k) : (mqL zs k)[x]?.getD 0 = (mqL zs n)[x]?.getD 0 := by
  unfold mqL
  rw [List.getElem?_take_of_lt (by omega), List.getElem?_take_of_lt hx]
  by_cases h : x < (seqL zs).length
  · rw [List.getElem?_append_left h, List.getElem?_append_left h]
  · rw [List.getElem?_append_right (by omega), List.getElem?_append_right (by omega), List.getElem?_replicate_of_lt (by omega), List.getElem?_replicate_of_lt (by omega)]
theorem mq_take {zs : List Int} {n k : Nat} (hn : n ≤ k) : (mqL zs k).take n = mqL zs n := by
  apply List.ext_getElem?
  intro x
  by_cases hx : x < n
  · rw [List.getElem?_take_of_lt hx, List.getElem?_eq_getElem (by rw [mq_len]; omega), List.getElem?_eq_getElem (by rw [mq_len]; omega)]
    have := mq_pre (zs := zs) hx hn
    rw [List.getElem?_eq_getElem (by rw [mq_len]; omega), List.getElem?_eq_getElem (by rw [mq_len]; omega)] at this
    simpa using this
  · rw [List.getElem?_eq_none (by simp [mq_len]; omega), List.getElem?_eq_none (by rw [mq_len]; omega)]
theorem cdL_cuD {zs : List Int} {n a : Nat} (h : a + 1 < n) : (cdL (mqL zs n) n)[a]?.getD 0 = cuD zs a := by
  rw [cdL_at (by omega)]
  obtain ⟨d, rfl⟩ : ∃ d, n = (a + 1) + d := ⟨n - (a + 1), by omega⟩
  rw [(prx_stop d).2]
  exact cdI_congr (fun x hx => mq_pre (by omega) (by omega)) _
theorem mt_nn {M : List (List Int)} {r i k : Nat} (h : CuCom M r) (hi : i < r) (hk : k < r) : 0 ≤ mt M i k ∧ mt M i k ≤ 200 := by
  by_cases e : i = k
  · subst e; rw [h.dia i hi]; omega
  · have := h.off i k hi hk e; omega

/-- Where the cell of i and k, i less than k, is in a triangular table of r rows; the cells of the rows before i. -/
def tO (r i : Nat) : Nat := i * (2 * r - i - 1) / 2
def tX (r i k : Nat) : Nat := tO r i + (k - i - 1)
/-- Which one the t-th cell is. -/
def tI (r t : Nat) : Nat × Nat := (((List.range r).flatMap fun i => (List.range (r - i - 1)).map fun d => (i, i + 1 + d))[t]?).getD (0, 0)
theorem tI_tX {r i k : Nat} (hr : r ≤ 6) (h : i < k) (hk : k < r) : tI r (tX r i k) = (i, k) := by
  have : ∀ r, r < 7 → ∀ k, k < r → ∀ i, i < k → tI r (tX r i k) = (i, k) := by decide
  exact this r (by omega) k hk i h
theorem tX_lt {r i k : Nat} (hr : r ≤ 6) (h : i < k) (hk : k < r) : tX r i k < r * (r - 1) / 2 := by
  have : ∀ r, r < 7 → ∀ k, k < r → ∀ i, i < k → tX r i k < r * (r - 1) / 2 := by decide
  exact this r (by omega) k hk i h
theorem tI_ok {r t : Nat} (hr : r ≤ 6) (h : t < r * (r - 1) / 2) : (tI r t).1 < (tI r t).2 ∧ (tI r t).2 < r ∧ tX r (tI r t).1 (tI r t).2 = t := by
  have : ∀ r, r < 7 → ∀ t, t < r * (r - 1) / 2 → ((tI r t).1 < (tI r t).2 ∧ (tI r t).2 < r ∧ tX r (tI r t).1 (tI r t).2 = t) := by decide
  exact this r (by omega) t h
theorem tO_next {r i : Nat} (hr : r ≤ 6) (h : i < r) : tO r i + (r - i - 1) = tO r (i + 1) := by
  have : ∀ r, r < 7 → ∀ i, i < r → tO r i + (r - i - 1) = tO r (i + 1) := by decide
  exact this r (by omega) i h
theorem tO_end {r : Nat} (hr : r ≤ 6) : tO r r = r * (r - 1) / 2 := by
  have : ∀ r, r < 7 → tO r r = r * (r - 1) / 2 := by decide
  exact this r (by omega)
theorem tO_le {r i : Nat} (hr : r ≤ 6) (h : i ≤ r) : tO r i ≤ 15 := by
  have : ∀ r, r < 7 → ∀ i, i < r + 1 → tO r i ≤ 15 := by decide
  exact this r (by omega) i (by omega)
end Go.Proofs.Ytohbgfmjnanlkaa
