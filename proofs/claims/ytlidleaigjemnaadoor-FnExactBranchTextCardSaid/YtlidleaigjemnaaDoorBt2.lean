/- BranchText, the model's and the program's: contracts. Conditions: stated at each theorem. -/
import Derived.Test.YtlidleaigjemnaaDoorBtI
import Derived.Test.YtlidleaigjemnaaDoorBtS
import Derived.Test.YtlidleaigjemnaaDoorBrA
namespace Go.Proofs.YtlidleaigjemnaaDoor
open Go.ChangeShapes Go.WideShapes Go.ChangeAt Go.RowKit
set_option linter.unusedVariables false

def btT (zs : List Int) : ByteArray := if brB zs = true then ⟨(brT zs).toArray⟩ else ⟨#[]⟩
def btC (zs : List Int) : Int := if brB zs = true then 0 else 1
/-- A text and a code come back. -/
def AnsS (w : World) (T : ByteArray) (C : Int) : Ending → World → Prop := fun e w' => e = .returned (.tuple #[.string T, .int .i64 C]) ∧ Below w.heap.size w w'
theorem AnsS.mk {w w' : World} {T U : ByteArray} {C D : Int} (h : T = U) (k : C = D) (hb : Below w.heap.size w w') : AnsS w T C (.returned (.tuple #[.string U, .int .i64 D])) w' := by subst h; subst k; exact ⟨rfl, hb⟩

set_option maxRecDepth 100000 in
theorem specBranchText_any (v : Value) (zs : List Int) (w : World) (h : ReadI w w.heap.size v zs) (hn : zs.length ≤ 1048576) (hw : ∀ z ∈ zs, (Lit.int .i64 z).wf = true) :
    Calls Tryd.prog 31 #[.agg #[v]] w (AnsS w (btT zs) (btC zs)) := by
  obtain ⟨A, n, c, rfl⟩ : ∃ A n c, v = .slice A n c := by obtain ⟨A, c, e, _⟩ := h; exact ⟨A, _, c, e⟩
  obtain ⟨W0, HE⟩ : ∃ W, W = w.alloc (.cells #[.slice A n c] 51) := ⟨_, rfl⟩
  have hb0 : Below w.heap.size w W0 := by rw [HE]; exact below_box2 _ _
  have hq0 : BoxI W0 w.heap.size (.slice A n c) := by rw [HE]; exact BoxI.new _ _ _
  have HR := Lib.hid ((h.below hb0).more hb0.size)
  have B0 := Lib.hid hb0
  have HW := Lib.hid hw
  have HEQ := Lib.hid HE

  have q0 := hq0.1
  have hs0 := hq0.2
  clear h hb0 hw HE hq0
  cases hp : brB zs
  · have E1 := Lib.hid (show btT zs = ⟨#[]⟩ by simp [btT, hp])
    have E2 := Lib.hid (show btC zs = 1 by simp [btC, hp])
    have HP := Lib.hid hp
    clear hp
    go_enter Tryd.func31, Tryd.ntmps31
    go_wp2_with fail
    rw [← HEQ.out]
    refine (l03Is_if _ zs W0 false HR.out hn HW.out HP.out).mono ?_
    rintro e w1 ⟨rfl, hb⟩
    have B1 := Lib.hid (B0.out.trans (hb.mono B0.out.size))
    clear hb q0
    go_wp2_with fail
    go_ret2
    exact AnsS.mk E1.out E2.out B1.out
  · have E1 := Lib.hid (show btT zs = ⟨(brT zs).toArray⟩ by simp [btT, hp])
    have E2 := Lib.hid (show btC zs = 0 by simp [btC, hp])
    have HP := Lib.hid hp
    clear hp
    go_enter Tryd.func31, Tryd.ntmps31
    go_wp2_with fail
    rw [← HEQ.out]
    refine (l03Is_if _ zs W0 true HR.out hn HW.out HP.out).mono ?_
    rintro e w1 ⟨rfl, hb⟩
    have q1 := (hb.cell (p := ⟨w.heap.size, 0, none⟩) hs0).trans q0
    have R1 := Lib.hid ((HR.out.below hb).more hb.size)
    have B1 := Lib.hid (B0.out.trans (hb.mono B0.out.size))
    clear hb q0
    go_wp2_with fail
    refine (l03Text_any _ zs w1 R1.out HP.out).mono ?_
    rintro e w2 ⟨rfl, hb2⟩
    have B2 := Lib.hid (B1.out.trans (hb2.mono B1.out.size))
    clear hb2
    go_wp2_with fail
    go_ret2
    exact AnsS.mk E1.out E2.out B2.out

set_option maxRecDepth 100000 in
theorem implBranchText_any (v : Value) (zs : List Int) (w : World) (h : ReadI w w.heap.size v zs) (hn : zs.length ≤ 1048576) (hw : ∀ z ∈ zs, (Lit.int .i64 z).wf = true) (ht : Tab w) :
    Calls Tryd.prog 33 #[.agg #[v]] w (AnsS w (btT zs) (btC zs)) := by
  obtain ⟨A, n, c, rfl⟩ : ∃ A n c, v = .slice A n c := by obtain ⟨A, c, e, _⟩ := h; exact ⟨A, _, c, e⟩
  obtain ⟨W0, HE⟩ : ∃ W, W = w.alloc (.cells #[.slice A n c] 51) := ⟨_, rfl⟩
  have hb0 : Below w.heap.size w W0 := by rw [HE]; exact below_box2 _ _
  have hq0 : BoxI W0 w.heap.size (.slice A n c) := by rw [HE]; exact BoxI.new _ _ _
  have HR := Lib.hid ((h.below hb0).more hb0.size)
  have B0 := Lib.hid hb0
  have HW := Lib.hid hw
  have HEQ := Lib.hid HE
  have HT := Lib.hid ht
  have q0 := hq0.1
  have hs0 := hq0.2
  clear h hb0 hw HE hq0 ht
  cases hp : brB zs
  · have E1 := Lib.hid (show btT zs = ⟨#[]⟩ by simp [btT, hp])
    have E2 := Lib.hid (show btC zs = 1 by simp [btC, hp])
    have HP := Lib.hid hp
    clear hp
    go_enter Tryd.func33, Tryd.ntmps33
    go_wp2_with fail
    rw [← HEQ.out]
    refine (implIsBranch_if _ zs W0 false HR.out hn HW.out HP.out).mono ?_
    rintro e w1 ⟨rfl, hb⟩
    have B1 := Lib.hid (B0.out.trans (hb.mono B0.out.size))
    clear hb q0
    go_wp2_with fail
    go_ret2
    exact AnsS.mk E1.out E2.out B1.out
  · have E1 := Lib.hid (show btT zs = ⟨(brT zs).toArray⟩ by simp [btT, hp])
    have E2 := Lib.hid (show btC zs = 0 by simp [btC, hp])
    have HP := Lib.hid hp
    clear hp
    go_enter Tryd.func33, Tryd.ntmps33
    go_wp2_with fail
    rw [← HEQ.out]
    refine (implIsBranch_if _ zs W0 true HR.out hn HW.out HP.out).mono ?_
    rintro e w1 ⟨rfl, hb⟩
    have q1 := (hb.cell (p := ⟨w.heap.size, 0, none⟩) hs0).trans q0
    have R1 := Lib.hid ((HR.out.below hb).more hb.size)
    have B1 := Lib.hid (B0.out.trans (hb.mono B0.out.size))
    clear hb q0
    go_wp2_with fail
    refine (textOfBranch_any _ zs w1 R1.out HP.out (HT.out.below B1.out)).mono ?_
    rintro e w2 ⟨rfl, hb2⟩
    have B2 := Lib.hid (B1.out.trans (hb2.mono B1.out.size))
    clear hb2
    go_wp2_with fail
    go_ret2
    exact AnsS.mk E1.out E2.out B2.out
end Go.Proofs.YtlidleaigjemnaaDoor
