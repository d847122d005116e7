/- DivisorsOf: contracts. Conditions: stated at each theorem. -/
import Derived.Test.YtncgkoanckefmaaBrV
namespace Go.Proofs.Ytncgkoanckefmaa
open Go.ChangeShapes Go.WideShapes Go.ChangeAt Go.RowKit
set_option linter.unusedVariables false
def doA (zs : List Int) : List Int := if brB zs then dvL 0 zs else []
theorem do_no {zs : List Int} (h : brB zs = false) : doA zs = [] ∧ brC zs = 1 := by simp [doA, brC, h]
theorem do_yes {zs : List Int} (h : brB zs = true) : doA zs = dvL 0 zs ∧ brC zs = 0 := by simp [doA, brC, h]
theorem doA_len {zs : List Int} (h : zs.length ≤ 1048576) : (doA zs).length ≤ 1099511627776 := by
  unfold doA; split
  · rw [dvL_len]; omega
  · simp

set_option maxHeartbeats 1000000 in
theorem implDivisorsOf_any (v : Value) (zs : List Int) (w : World) (h : ReadI w w.heap.size v zs) (hn : zs.length ≤ 1048576) (hw : ∀ z ∈ zs, (Lit.int .i64 z).wf = true) :
    Calls Try.prog 70 #[.agg #[v]] w (AnsIC w (doA zs) (brC zs)) := by
  obtain ⟨n, A, c, rfl, hr, HL, HN, hnc, HF, hcm⟩ := h.split2
  rw [HL.out] at hn
  obtain ⟨W0, HE⟩ : ∃ W, W = w.alloc (.cells #[.slice A n c] 28) := ⟨_, rfl⟩
  have hb0 : Below w.heap.size w W0 := by rw [HE]; exact below_box _ _
  have hq0 : BoxI W0 w.heap.size (.slice A n c) := by rw [HE]; exact BoxI.new _ _ _
  have HR := Lib.hid ((h.below hb0).more hb0.size)
  have H0 := Lib.hid (hr.below hb0)
  have B0 := Lib.hid hb0
  have Q0 := Lib.hid hq0
  have HW := Lib.hid hw
  have HEQ := Lib.hid HE
  clear h hr hb0 hq0 hw HE
  cases hp : brB zs
  · have E := Lib.hid (do_no hp)
    have HP := Lib.hid hp
    clear hp
    go_enter Try.func70, Try.ntmps70
    go_wp2_with fail
    rw [← HEQ.out]
    refine (implIsBranch_if _ zs W0 false HR.out (by rw [HL.out]; exact hn) HW.out HP.out).mono ?_
    rintro e w1 ⟨rfl, hb⟩
    have B1 := Lib.hid (B0.out.trans (hb.mono B0.out.size))
    clear hb
    go_wp2_with fail
    go_ret2
    exact AnsIC.empty E.out.1.symm E.out.2.symm B1.out
  · have E := Lib.hid (do_yes hp)
    have hn0 : 0 < n := by have := brB_pos hp; rw [HL.out] at this; exact this
    have HP := Lib.hid hp
    clear hp
    go_enter Try.func70, Try.ntmps70
    go_wp2_with fail
    rw [← HEQ.out]
    refine (implIsBranch_if _ zs W0 true HR.out (by rw [HL.out]; exact hn) HW.out HP.out).mono ?_
    rintro e w1 ⟨rfl, hb⟩
    have B1 := Lib.hid (B0.out.trans (hb.mono B0.out.size))
    have BW := Lib.hid hb
    have q1 := Q0.out.kept (Kept.of_below hb (by have := Q0.out.2; omega))
    have qc := q1.1
    have qs := q1.2
    clear hb q1
    have R1 := Lib.hid ((HR.out.below BW.out).more BW.out.size)
    go_wp2_with fail
    refine (divisors_any _ zs w1 w1.heap.size R1.out (by rw [HL.out]; exact hn) (Nat.le_refl _) (dcB_range (brB_dcB HP.out))).mono ?_
    rintro e w2 ⟨v1, rfl, -, ho, hb2⟩
    have O2 := Lib.hid (own_lessB ho B1.out.size)
    have B2 := Lib.hid (B1.out.trans (hb2.mono B1.out.size))
    clear ho hb2
    go_wp2_with fail
    go_ret2
    exact AnsIC.mk' E.out.1.symm E.out.2.symm O2.out B2.out

end Go.Proofs.Ytncgkoanckefmaa
