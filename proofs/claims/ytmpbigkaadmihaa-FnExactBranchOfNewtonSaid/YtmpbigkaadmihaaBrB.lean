/- MultiplicityOf, CountPairs: contracts. Conditions: stated at each theorem. -/
import Derived.Test.YtmpbigkaadmihaaBrA
namespace Go.Proofs.Ytmpbigkaadmihaa
open Go.ChangeShapes Go.WideShapes Go.ChangeAt Go.RowKit
set_option linter.unusedVariables false
def muA (zs : List Int) : Int := if brB zs then zs[0]?.getD 0 else 0
def brC (zs : List Int) : Int := if brB zs then 0 else 1
def cpA (zs : List Int) : Int := if brB zs then (zs.length : Int) - 1 else 0
theorem mu_no {zs : List Int} (h : brB zs = false) : muA zs = 0 ∧ brC zs = 1 := by simp [muA, brC, h]
theorem mu_yes {zs : List Int} (h : brB zs = true) : muA zs = zs[0]?.getD 0 ∧ brC zs = 0 := by simp [muA, brC, h]
theorem cp_no {zs : List Int} (h : brB zs = false) : cpA zs = 0 ∧ brC zs = 1 := by simp [cpA, brC, h]
theorem cp_yes {zs : List Int} (h : brB zs = true) : cpA zs = (zs.length : Int) - 1 ∧ brC zs = 0 := by simp [cpA, brC, h]
theorem ans_ii {w w' : World} {a b A B : Int} (h1 : a = A) (h2 : b = B) (hb : Below w.heap.size w w') : AnsII w A B (.returned (.tuple #[.int .i64 a, .int .i64 b])) w' := by subst h1; subst h2; exact ⟨rfl, hb⟩

set_option maxHeartbeats 1000000 in
theorem implMultiplicityOf_any (v : Value) (zs : List Int) (w : World) (h : ReadI w w.heap.size v zs) (hn : zs.length ≤ 1048576) (hw : ∀ z ∈ zs, (Lit.int .i64 z).wf = true) :
    Calls Try.prog 23 #[.agg #[v]] w (AnsII w (muA zs) (brC zs)) := by
  obtain ⟨n, A, c, rfl, hr, HL, HN, hnc, HF, hcm⟩ := h.split2
  rw [HL.out] at hn
  obtain ⟨W0, HE⟩ : ∃ W, W = w.alloc (.cells #[.slice A n c] 26) := ⟨_, rfl⟩
  have hb0 : Below w.heap.size w W0 := by rw [HE]; exact below_box _ _
  have hq0 : BoxI W0 w.heap.size (.slice A n c) := by rw [HE]; exact BoxI.new _ _ _
  have HR := Lib.hid ((h.below hb0).more hb0.size)
  have H0 := Lib.hid (hr.below hb0)
  have B0 := Lib.hid hb0
  have Q0 := Lib.hid hq0
  have HW := Lib.hid hw
  have HEQ := Lib.hid HE
  clear h hr hb0 hq0 hw HE
  cases hp : brB zs
  · have E := Lib.hid (mu_no hp)
    have HP := Lib.hid hp
    clear hp
    go_enter Try.func23, Try.ntmps23
    go_wp2_with fail
    rw [← HEQ.out]
    refine (implIsBranch_if _ zs W0 false HR.out (by rw [HL.out]; exact hn) HW.out HP.out).mono ?_
    rintro e w1 ⟨rfl, hb⟩
    have B1 := Lib.hid (B0.out.trans (hb.mono B0.out.size))
    clear hb
    go_wp2_with fail
    go_ret2
    exact ans_ii E.out.1.symm E.out.2.symm B1.out
  · have E := Lib.hid (mu_yes hp)
    have hn0 : 0 < n := by have := brB_pos hp; rw [HL.out] at this; exact this
    have HP := Lib.hid hp
    clear hp
    go_enter Try.func23, Try.ntmps23
    go_wp2_with fail
    rw [← HEQ.out]
    refine (implIsBranch_if _ zs W0 true HR.out (by rw [HL.out]; exact hn) HW.out HP.out).mono ?_
    rintro e w1 ⟨rfl, hb⟩
    have B1 := Lib.hid (B0.out.trans (hb.mono B0.out.size))
    have BW := Lib.hid hb
    have q1 := Q0.out.kept (Kept.of_below hb (by have := Q0.out.2; omega))
    have qc := q1.1
    have qs := q1.2
    clear hb q1
    obtain ⟨a, rfl, hlt, hc0⟩ := H0.out.2 0 hn0
    obtain ⟨g, o, rfl⟩ := HF.out a rfl
    have hcell : w1.cell? ⟨g, o, none⟩ = some (.int .i64 (zs[0]?.getD 0)) := by
      rw [BW.out.cell (p := ⟨g, o, none⟩) (Nat.lt_of_lt_of_le hlt B0.out.size)]
      have h2 : (⟨g, o, none⟩ : Addr).add 0 = ⟨g, o, none⟩ := by rw [add_lit]; rfl
      rw [h2] at hc0; simpa using hc0
    go_wp2_with fail
    go_ret2
    exact ans_ii E.out.1.symm E.out.2.symm B1.out

set_option maxHeartbeats 1000000 in
theorem implCountPairs_any (v : Value) (zs : List Int) (w : World) (h : ReadI w w.heap.size v zs) (hn : zs.length ≤ 1048576) (hw : ∀ z ∈ zs, (Lit.int .i64 z).wf = true) :
    Calls Try.prog 22 #[.agg #[v]] w (AnsII w (cpA zs) (brC zs)) := by
  obtain ⟨n, A, c, rfl, hr, HL, HN, hnc, HF, hcm⟩ := h.split2
  rw [HL.out] at hn
  obtain ⟨W0, HE⟩ : ∃ W, W = w.alloc (.cells #[.slice A n c] 26) := ⟨_, rfl⟩
  have hb0 : Below w.heap.size w W0 := by rw [HE]; exact below_box _ _
  have hq0 : BoxI W0 w.heap.size (.slice A n c) := by rw [HE]; exact BoxI.new _ _ _
  have HR := Lib.hid ((h.below hb0).more hb0.size)
  have H0 := Lib.hid (hr.below hb0)
  have B0 := Lib.hid hb0
  have Q0 := Lib.hid hq0
  have HW := Lib.hid hw
  have HEQ := Lib.hid HE
  clear h hr hb0 hq0 hw HE
  cases hp : brB zs
  · have E := Lib.hid (cp_no hp)
    have HP := Lib.hid hp
    clear hp
    go_enter Try.func22, Try.ntmps22
    go_wp2_with fail
    rw [← HEQ.out]
    refine (implIsBranch_if _ zs W0 false HR.out (by rw [HL.out]; exact hn) HW.out HP.out).mono ?_
    rintro e w1 ⟨rfl, hb⟩
    have B1 := Lib.hid (B0.out.trans (hb.mono B0.out.size))
    clear hb
    go_wp2_with fail
    go_ret2
    exact ans_ii E.out.1.symm E.out.2.symm B1.out
  · have E := Lib.hid (cp_yes hp)
    have hn0 : 0 < n := by have := brB_pos hp; rw [HL.out] at this; exact this
    have HP := Lib.hid hp
    clear hp
    go_enter Try.func22, Try.ntmps22
    go_wp2_with fail
    rw [← HEQ.out]
    refine (implIsBranch_if _ zs W0 true HR.out (by rw [HL.out]; exact hn) HW.out HP.out).mono ?_
    rintro e w1 ⟨rfl, hb⟩
    have B1 := Lib.hid (B0.out.trans (hb.mono B0.out.size))
    have BW := Lib.hid hb
    have q1 := Q0.out.kept (Kept.of_below hb (by have := Q0.out.2; omega))
    have qc := q1.1
    have qs := q1.2
    clear hb q1
    go_wp2_with fail
    go_ret2
    exact ans_ii (by rw [E.out.1, HL.out]) E.out.2.symm B1.out

end Go.Proofs.Ytmpbigkaadmihaa
