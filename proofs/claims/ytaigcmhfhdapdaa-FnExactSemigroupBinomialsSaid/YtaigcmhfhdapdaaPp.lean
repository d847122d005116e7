/- PuiseuxPairs: contracts. Conditions: stated at each theorem. -/
import Derived.Test.YtaigcmhfhdapdaaPrS
import Derived.Test.YtaigcmhfhdapdaaBrB
import Derived.Test.YtaigcmhfhdapdaaBrA
namespace Go.Proofs.Ytaigcmhfhdapdaa
open Go.ChangeShapes Go.WideShapes Go.ChangeAt Go.RowKit
set_option linter.unusedVariables false
set_option linter.unusedSimpArgs false

def ppA (zs : List Int) : List (List Int) := if brB zs then prL (ppF zs) (zs.length - 1) else []
theorem ppA_no {zs : List Int} (h : brB zs = false) : ppA zs = [] ∧ brC zs = 1 := by simp [ppA, brC, h]
theorem ppA_yes {zs : List Int} (h : brB zs = true) : ppA zs = prL (ppF zs) (zs.length - 1) ∧ brC zs = 0 := by simp [ppA, brC, h]
theorem ansQ_end {w w' : World} {v : Value} {zss L : List (List Int)} {C D : Int} (h1 : zss = L) (h2 : D = C) (ho : OwnQ w' w.heap.size w'.heap.size v zss) (hb : Below w.heap.size w w') : AnsQC w L C (.returned (.tuple #[v, .int .i64 D])) w' := by
  subst h1; subst h2; exact ⟨v, rfl, ho, hb⟩
theorem prL_szTot {f : Nat → Int × Int} {n : Nat} : szTot (prL f n) = n + 2 * n := by
  have h : ∀ k, k ≤ n → sumTo (lens (prL f n)) k = 2 * k := by
    intro k
    induction k with
    | zero => intro _; rfl
    | succ k ih =>
      intro hk
      have h2 : sumTo (lens (prL f n)) (k + 1) = sumTo (lens (prL f n)) k + lens (prL f n) k := rfl
      have h3 : lens (prL f n) k = 2 := by unfold lens; rw [prL_at f (show k < n by omega)]; rfl
      rw [h2, ih (by omega), h3]; omega
  unfold szTot
  rw [prL_len, h n (Nat.le_refl _)]
theorem ppA_sz {zs : List Int} (h : zs.length ≤ 1048576) : szTot (ppA zs) ≤ 549755813888 := by
  unfold ppA; split
  · rw [prL_szTot]; omega
  · show 0 + 0 ≤ _; omega

end Go.Proofs.Ytaigcmhfhdapdaa
