/- PolynomialText, the model's and the program's: contracts. Conditions: stated at each theorem. -/
import Derived.Test.YtbipihamkfifjabDoorPti
import Derived.Test.YtbipihamkfifjabDoorPts
namespace Go.Proofs.YtbipihamkfifjabDoor
open Go.ChangeShapes Go.WideShapes Go.ChangeAt Go.RowKit
set_option linter.unusedVariables false

def ptT (p : List Int) : ByteArray := if polyB p = true then ⟨(polyT p).toArray⟩ else ⟨#[]⟩
def ptC (p : List Int) : Int := if polyB p = true then 0 else 1
/-- A text and a code come back. -/
def AnsS (w : World) (T : ByteArray) (C : Int) : Ending → World → Prop := fun e w' => e = .returned (.tuple #[.string T, .int .i64 C]) ∧ Below w.heap.size w w'
theorem AnsS.mk {w w' : World} {T U : ByteArray} {C D : Int} (h : T = U) (k : C = D) (hb : Below w.heap.size w w') : AnsS w T C (.returned (.tuple #[.string U, .int .i64 D])) w' := by subst h; subst k; exact ⟨rfl, hb⟩

set_option maxRecDepth 100000 in
theorem specPolynomialText_any (v : Value) (p : List Int) (w : World) (h0 : ReadI w w.heap.size v p) (hn0 : p.length ≤ 1048576) (hw0 : ∀ z ∈ p, (Lit.int .i64 z).wf = true) :
    Calls Tryd.prog 5 #[v] w (AnsS w (ptT p) (ptC p)) := by
  have H0 := Lib.hid h0
  have W0 := Lib.hid hw0

  clear h0 hw0
  cases hp : polyB p
  · have E1 := Lib.hid (show ptT p = ⟨#[]⟩ by simp [ptT, hp])
    have E2 := Lib.hid (show ptC p = 1 by simp [ptC, hp])
    have HP := Lib.hid hp
    clear hp
    go_enter Tryd.func5, Tryd.ntmps5
    go_wp2_with fail
    refine (l02Is_no _ p _ _ H0.out hn0 W0.out HP.out).mono ?_
    rintro e w' ⟨rfl, rfl⟩
    go_wp2_with fail
    go_ret2
    exact AnsS.mk E1.out E2.out (Below.refl _ _)
  · have E1 := Lib.hid (show ptT p = ⟨(polyT p).toArray⟩ by simp [ptT, hp])
    have E2 := Lib.hid (show ptC p = 0 by simp [ptC, hp])
    have HP := Lib.hid hp
    clear hp
    go_enter Tryd.func5, Tryd.ntmps5
    go_wp2_with fail
    refine (l02Is_yes _ p _ _ H0.out hn0 W0.out HP.out).mono ?_
    rintro e w' ⟨rfl, rfl⟩
    go_wp2_with fail
    refine (l02Text_any _ p _ H0.out (polyB_len HP.out) (polyB_co HP.out)).mono ?_
    rintro e w1 ⟨rfl, hb1⟩
    go_wp2_with fail
    go_ret2
    exact AnsS.mk E1.out E2.out hb1

set_option maxRecDepth 100000 in
theorem implPolynomialText_any (v : Value) (p : List Int) (w : World) (h0 : ReadI w w.heap.size v p) (hn0 : p.length ≤ 1048576) (hw0 : ∀ z ∈ p, (Lit.int .i64 z).wf = true) (ht : Tab w) :
    Calls Tryd.prog 7 #[v] w (AnsS w (ptT p) (ptC p)) := by
  have H0 := Lib.hid h0
  have W0 := Lib.hid hw0
  have HT := Lib.hid ht
  clear h0 hw0 ht
  cases hp : polyB p
  · have E1 := Lib.hid (show ptT p = ⟨#[]⟩ by simp [ptT, hp])
    have E2 := Lib.hid (show ptC p = 1 by simp [ptC, hp])
    have HP := Lib.hid hp
    clear hp
    go_enter Tryd.func7, Tryd.ntmps7
    go_wp2_with fail
    refine (implIs_no _ p _ _ H0.out hn0 W0.out HP.out).mono ?_
    rintro e w' ⟨rfl, rfl⟩
    go_wp2_with fail
    go_ret2
    exact AnsS.mk E1.out E2.out (Below.refl _ _)
  · have E1 := Lib.hid (show ptT p = ⟨(polyT p).toArray⟩ by simp [ptT, hp])
    have E2 := Lib.hid (show ptC p = 0 by simp [ptC, hp])
    have HP := Lib.hid hp
    clear hp
    go_enter Tryd.func7, Tryd.ntmps7
    go_wp2_with fail
    refine (implIs_yes _ p _ _ H0.out hn0 W0.out HP.out).mono ?_
    rintro e w' ⟨rfl, rfl⟩
    go_wp2_with fail
    refine (textOfPoly_any _ p _ H0.out HP.out HT.out).mono ?_
    rintro e w1 ⟨rfl, hb1⟩
    go_wp2_with fail
    go_ret2
    exact AnsS.mk E1.out E2.out hb1
end Go.Proofs.YtbipihamkfifjabDoor
