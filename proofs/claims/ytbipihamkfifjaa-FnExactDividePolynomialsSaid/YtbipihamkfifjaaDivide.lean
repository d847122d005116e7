/- Division of polynomials, the program's: a contract of impl.DividePolynomials. Conditions: stated at each theorem. -/
import Derived.Test.YtbipihamkfifjaaDivI
namespace Go.Proofs.Ytbipihamkfifjaa
open Go.ChangeShapes Go.WideShapes Go.ChangeAt Go.RowKit
set_option linter.unusedVariables false

def dvA (p q : List Int) : List Int := if polyB p && polyB q then (divL 1000000000000 p q).1 else []
def dvC (p q : List Int) : Int := if polyB p && polyB q then (divL 1000000000000 p q).2 else 1
theorem dv_first {p q : List Int} (h : polyB p = false) : dvA p q = [] ∧ dvC p q = 1 := by simp [dvA, dvC, h]
theorem dv_second {p q : List Int} (h : polyB q = false) : dvA p q = [] ∧ dvC p q = 1 := by simp [dvA, dvC, h]
theorem dv_both {p q : List Int} (h : polyB p = true) (k : polyB q = true) : dvA p q = (divL 1000000000000 p q).1 ∧ dvC p q = (divL 1000000000000 p q).2 := by simp [dvA, dvC, h, k]
theorem dvA_len (p q : List Int) : (dvA p q).length ≤ 1099511627776 := by
  unfold dvA; split
  · rename_i h
    simp only [Bool.and_eq_true] at h
    have := polyB_len h.1
    have := divL_len 1000000000000 p q
    omega
  · simp

theorem implDividePolynomials_any (v : Value) (p : List Int) (u : Value) (q : List Int) (w : World) (h0 : ReadI w w.heap.size v p) (hn0 : p.length ≤ 1048576) (hw0 : ∀ z ∈ p, (Lit.int .i64 z).wf = true) (h1 : ReadI w w.heap.size u q) (hn1 : q.length ≤ 1048576) (hw1 : ∀ z ∈ q, (Lit.int .i64 z).wf = true) :
    Calls Try.prog 34 #[v, u] w (AnsIC w (dvA p q) (dvC p q)) := by
  have H0 := Lib.hid h0
  have H1 := Lib.hid h1
  have W0 := Lib.hid hw0
  have W1 := Lib.hid hw1
  clear h0 h1 hw0 hw1
  cases hp : polyB p
  · have E1 := Lib.hid (dv_first (q := q) hp)
    have HP := Lib.hid hp
    clear hp
    go_enter Try.func34, Try.ntmps34
    go_wp2_with (go_at_call 32; refine (implIs_no _ p _ _ H0.out hn0 W0.out HP.out).mono ?_; rintro e w' ⟨rfl, rfl⟩)
    go_ret2
    exact AnsIC.empty E1.out.1.symm E1.out.2.symm (Below.refl _ _)
  cases hq : polyB q
  · have E1 := Lib.hid (dv_second (p := p) hq)
    have HP := Lib.hid hp
    have HQ := Lib.hid hq
    clear hp hq
    go_enter Try.func34, Try.ntmps34
    go_wp2_with fail
    refine (implIs_yes _ p _ _ H0.out hn0 W0.out HP.out).mono ?_
    rintro e w' ⟨rfl, rfl⟩
    go_wp2_with fail
    refine (implIs_no _ q _ _ H1.out hn1 W1.out HQ.out).mono ?_
    rintro e w' ⟨rfl, rfl⟩
    go_wp2_with fail
    go_ret2
    exact AnsIC.empty E1.out.1.symm E1.out.2.symm (Below.refl _ _)
  · have E1 := Lib.hid (dv_both hp hq)
    have HP := Lib.hid hp
    have HQ := Lib.hid hq
    clear hp hq
    go_enter Try.func34, Try.ntmps34
    go_wp2_with fail
    refine (implIs_yes _ p _ _ H0.out hn0 W0.out HP.out).mono ?_
    rintro e w' ⟨rfl, rfl⟩
    go_wp2_with fail
    refine (implIs_yes _ q _ _ H1.out hn1 W1.out HQ.out).mono ?_
    rintro e w' ⟨rfl, rfl⟩
    go_wp2_with fail
    refine (quotientWithin_any _ _ p q 1000000000000 w H0.out hn0 W0.out H1.out hn1 W1.out (by omega) (by omega) (polyB_co HP.out) (polyB_end HQ.out)).mono ?_
    rintro e w1 ⟨v1, rfl, ho, hb⟩
    have O1 := Lib.hid ho
    have B1 := Lib.hid hb
    clear ho hb
    go_wp2_with fail
    go_ret2
    exact AnsIC.mk' E1.out.1.symm E1.out.2.symm O1.out B1.out
end Go.Proofs.Ytbipihamkfifjaa
