/- NewtonPairs: contracts. Conditions: stated at each theorem. -/
import Derived.Test.YtlidleaigjemnaaPrM
import Derived.Test.YtlidleaigjemnaaPp
import Derived.Test.YtlidleaigjemnaaBrB
import Derived.Test.YtlidleaigjemnaaBrA
namespace Go.Proofs.Ytlidleaigjemnaa
open Go.ChangeShapes Go.WideShapes Go.ChangeAt Go.RowKit
set_option linter.unusedVariables false
set_option linter.unusedSimpArgs false

def npA (zs : List Int) : List (List Int) := if brB zs then prL (npF zs) (zs.length - 1) else []
theorem npA_no {zs : List Int} (h : brB zs = false) : npA zs = [] ∧ brC zs = 1 := by simp [npA, brC, h]
theorem npA_yes {zs : List Int} (h : brB zs = true) : npA zs = prL (npF zs) (zs.length - 1) ∧ brC zs = 0 := by simp [npA, brC, h]
theorem npA_sz {zs : List Int} (h : zs.length ≤ 1048576) : szTot (npA zs) ≤ 549755813888 := by
  unfold npA; split
  · rw [prL_szTot]; omega
  · show 0 + 0 ≤ _; omega

set_option maxHeartbeats 1000000 in
theorem specNewtonPairs_any (v : Value) (zs : List Int) (w : World) (h : ReadI w w.heap.size v zs) (hn : zs.length ≤ 1048576) (hw : ∀ z ∈ zs, (Lit.int .i64 z).wf = true) :
    Calls Try.prog 39 #[.agg #[v]] w (AnsQC w (npA zs) (brC zs)) := by
  obtain ⟨A, n, c, rfl⟩ : ∃ A n c, v = .slice A n c := by obtain ⟨A, c, e, _⟩ := h; exact ⟨A, _, c, e⟩
  obtain ⟨W0, HE⟩ : ∃ W, W = w.alloc (.cells #[.slice A n c] 26) := ⟨_, rfl⟩
  have hb0 : Below w.heap.size w W0 := by rw [HE]; exact below_box2 _ _
  have hq0 : BoxI W0 w.heap.size (.slice A n c) := by rw [HE]; exact BoxI.new _ _ _
  have HR := Lib.hid ((h.below hb0).more hb0.size)
  have B0 := Lib.hid hb0
  have HW := Lib.hid hw
  have HEQ := Lib.hid HE
  have q0 := hq0.1
  have hs0 := hq0.2
  clear h hb0 hw HE hq0
  cases hp : brB zs
  · have E := Lib.hid (npA_no hp)
    have HP := Lib.hid hp
    clear hp
    go_enter Try.func39, Try.ntmps39
    go_wp2_with fail
    rw [← HEQ.out]
    refine (l03Is_if _ zs W0 false HR.out hn HW.out HP.out).mono ?_
    rintro e w1 ⟨rfl, hb⟩
    have B1 := Lib.hid (B0.out.trans (hb.mono B0.out.size))
    clear hb q0
    go_wp2_with fail
    go_ret2
    exact ansQ_end E.out.1.symm E.out.2.symm (OwnQ.nil _ _) B1.out
  · have E := Lib.hid (npA_yes hp)
    have HP := Lib.hid hp
    clear hp
    go_enter Try.func39, Try.ntmps39
    go_wp2_with fail
    rw [← HEQ.out]
    refine (l03Is_if _ zs W0 true HR.out hn HW.out HP.out).mono ?_
    rintro e w1 ⟨rfl, hb⟩
    have q1 := (hb.cell (p := ⟨w.heap.size, 0, none⟩) hs0).trans q0
    have R1 := Lib.hid ((HR.out.below hb).more hb.size)
    have B1 := Lib.hid (B0.out.trans (hb.mono B0.out.size))
    clear hb q0
    go_wp2_with fail
    refine (l03Newton_any _ zs w1 R1.out hn HP.out).mono ?_
    rintro e w2 ⟨v2, rfl, ho2, hb2⟩
    have B2 := Lib.hid (B1.out.trans (hb2.mono B1.out.size))
    have O2 := Lib.hid (ownQ_less ho2 B1.out.size)
    clear hb2 ho2
    go_wp2_with fail
    go_ret2
    exact ansQ_end E.out.1.symm E.out.2.symm O2.out B2.out

set_option maxHeartbeats 1000000 in
theorem implNewtonPairs_any (v : Value) (zs : List Int) (w : World) (h : ReadI w w.heap.size v zs) (hn : zs.length ≤ 1048576) (hw : ∀ z ∈ zs, (Lit.int .i64 z).wf = true) :
    Calls Try.prog 18 #[.agg #[v]] w (AnsQC w (npA zs) (brC zs)) := by
  obtain ⟨A, n, c, rfl⟩ : ∃ A n c, v = .slice A n c := by obtain ⟨A, c, e, _⟩ := h; exact ⟨A, _, c, e⟩
  obtain ⟨W0, HE⟩ : ∃ W, W = w.alloc (.cells #[.slice A n c] 26) := ⟨_, rfl⟩
  have hb0 : Below w.heap.size w W0 := by rw [HE]; exact below_box2 _ _
  have hq0 : BoxI W0 w.heap.size (.slice A n c) := by rw [HE]; exact BoxI.new _ _ _
  have HR := Lib.hid ((h.below hb0).more hb0.size)
  have B0 := Lib.hid hb0
  have HW := Lib.hid hw
  have HEQ := Lib.hid HE
  have q0 := hq0.1
  have hs0 := hq0.2
  clear h hb0 hw HE hq0
  cases hp : brB zs
  · have E := Lib.hid (npA_no hp)
    have HP := Lib.hid hp
    clear hp
    go_enter Try.func18, Try.ntmps18
    go_wp2_with fail
    rw [← HEQ.out]
    refine (implIsBranch_if _ zs W0 false HR.out hn HW.out HP.out).mono ?_
    rintro e w1 ⟨rfl, hb⟩
    have B1 := Lib.hid (B0.out.trans (hb.mono B0.out.size))
    clear hb q0
    go_wp2_with fail
    go_ret2
    exact ansQ_end E.out.1.symm E.out.2.symm (OwnQ.nil _ _) B1.out
  · have E := Lib.hid (npA_yes hp)
    have HP := Lib.hid hp
    clear hp
    go_enter Try.func18, Try.ntmps18
    go_wp2_with fail
    rw [← HEQ.out]
    refine (implIsBranch_if _ zs W0 true HR.out hn HW.out HP.out).mono ?_
    rintro e w1 ⟨rfl, hb⟩
    have q1 := (hb.cell (p := ⟨w.heap.size, 0, none⟩) hs0).trans q0
    have R1 := Lib.hid ((HR.out.below hb).more hb.size)
    have B1 := Lib.hid (B0.out.trans (hb.mono B0.out.size))
    clear hb q0
    go_wp2_with fail
    refine (puiseux_any _ zs w1 R1.out hn HP.out).mono ?_
    rintro e w2 ⟨g2, rfl, hg2, hp2, hb2⟩
    have B2 := Lib.hid (B1.out.trans (hb2.mono B1.out.size))
    have P2 := Lib.hid hp2
    clear hb2 hp2
    go_wp2_with fail
    refine (newton_any g2 _ _ w2 P2.out (by omega) (npOK HP.out)).mono ?_
    rintro e w3 ⟨g3, rfl, hg3, hp3, hb3⟩
    have B3 := Lib.hid (B2.out.trans (hb3.mono B2.out.size))
    have P3 := Lib.hid (hp3.congr (fun i hi => np_eq HP.out hi))
    clear hb3 hp3
    go_wp2_with fail
    refine (lists_any g3 _ _ w3 P3.out (by omega)).mono ?_
    rintro e w4 ⟨v4, rfl, ho4, hb4⟩
    have B4 := Lib.hid (B3.out.trans (hb4.mono B3.out.size))
    have O4 := Lib.hid (ownQ_less ho4 B3.out.size)
    clear hb4 ho4
    go_wp2_with fail
    go_ret2
    exact ansQ_end (E.out.1.symm) E.out.2.symm O4.out B4.out
end Go.Proofs.Ytlidleaigjemnaa
