/- GeneratorsOf, the model's and the program's: contracts. Conditions: stated at each theorem. -/
import Derived.Test.YtncgkoanckefmaaGnS
import Derived.Test.YtncgkoanckefmaaBrA
import Derived.Test.YtncgkoanckefmaaSteps
namespace Go.Proofs.Ytncgkoanckefmaa
open Go.ChangeShapes Go.WideShapes Go.ChangeAt Go.RowKit
set_option linter.unusedVariables false
set_option linter.unusedSimpArgs false

def goA (zs : List Int) : List Int := if brB zs then gnB zs else []
def goC (zs : List Int) : Int := if brB zs then 0 else 1
theorem goA_len (zs : List Int) (h : zs.length ≤ 1048576) : (goA zs).length ≤ 1099511627776 := by
  unfold goA
  split
  · rw [gnB_len]; omega
  · simp

set_option maxHeartbeats 1000000 in
theorem implGeneratorsOf_any (v : Value) (zs : List Int) (w : World) (h : ReadI w w.heap.size v zs) (hn : zs.length ≤ 1048576) (hw : ∀ z ∈ zs, (Lit.int .i64 z).wf = true) :
    Calls Try.prog 59 #[.agg #[v]] w (AnsIC w (goA zs) (goC zs)) := by
  obtain ⟨n, A, c, rfl, hr, HL, _, hnc, HF, hcm⟩ := h.split2
  obtain ⟨W0, HE⟩ : ∃ W, W = w.alloc (.cells #[.slice A n c] 28) := ⟨_, rfl⟩
  have hb0 : Below w.heap.size w W0 := by rw [HE]; exact below_box _ _
  have hq0 : BoxI W0 w.heap.size (.slice A n c) := by rw [HE]; exact BoxI.new _ _ _
  have H0 := Lib.hid ((h.below hb0).more hb0.size)
  have HNN := Lib.hid hn
  have HWW := Lib.hid hw
  have HEQ := Lib.hid HE
  clear h hr HE HF hn hw
  rcases bool_fs (brB zs) with hp | hp
  · have HP := Lib.hid hp
    clear hp
    go_enter Try.func59, Try.ntmps59
    go_wp2_with fail
    rw [← HEQ.out]
    refine (implIsBranch_if _ zs _ false H0.out HNN.out HWW.out HP.out).mono ?_
    rintro e w1 ⟨rfl, hb1⟩
    go_wp2
    go_ret2
    exact AnsIC.empty (by rw [goA, HP.out]; rfl) (by rw [goC, HP.out]; rfl) (hb0.trans (hb1.mono hb0.size))
  · have HP := Lib.hid hp
    clear hp
    go_enter Try.func59, Try.ntmps59
    go_wp2_with fail
    rw [← HEQ.out]
    refine (implIsBranch_if _ zs _ true H0.out HNN.out HWW.out HP.out).mono ?_
    rintro e w1 ⟨rfl, hb1⟩
    have cb1 : w1.cell? ⟨w.heap.size, 0, none⟩ = some (.slice A n c) := by rw [hb1.cell (p := ⟨w.heap.size, 0, none⟩) hq0.2]; exact hq0.1
    have H1 := Lib.hid ((H0.out.below hb1).more hb1.size)
    have B1 := Lib.hid (hb0.trans (hb1.mono hb0.size))
    clear hb1 hb0 HEQ
    go_wp2_with fail
    refine (generators_any _ zs w1 H1.out HNN.out HP.out).mono ?_
    rintro e w2 ⟨v1, rfl, hv1, ho1, hb2⟩
    clear hv1
    obtain ⟨A1, c1, rfl⟩ := own_form ho1.1
    have HO1 := Lib.hid (own_lessB ho1 (lo' := w.heap.size) B1.out.size)
    have B2 := Lib.hid (B1.out.trans (hb2.mono B1.out.size))
    clear ho1 hb2
    go_wp2_with fail
    go_ret2
    exact AnsIC.mk' (by rw [goA, HP.out]; rfl) (by rw [goC, HP.out]; rfl) HO1.out B2.out
end Go.Proofs.Ytncgkoanckefmaa
