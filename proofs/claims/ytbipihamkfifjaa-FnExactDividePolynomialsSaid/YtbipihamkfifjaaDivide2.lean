/- Division of polynomials, the model's: a contract of spec.DividePolynomials. Conditions: stated at each theorem. -/
import Derived.Test.YtbipihamkfifjaaDivS
namespace Go.Proofs.Ytbipihamkfifjaa
open Go.ChangeShapes Go.WideShapes Go.ChangeAt Go.RowKit
set_option linter.unusedVariables false

theorem divEnd_code (x : Except Int (List Int × List Int)) : (divEnd x).2 = 0 ∨ (divEnd x).1 = [] := by
  unfold divEnd
  split
  · exact Or.inr rfl
  · split
    · exact Or.inl rfl
    · exact Or.inr rfl
theorem divL_code (M : Int) (p q : List Int) : (divL M p q).2 = 0 ∨ (divL M p q).1 = [] := by
  unfold divL
  split
  · exact Or.inr rfl
  · split
    · exact Or.inr rfl
    · exact divEnd_code _

set_option maxRecDepth 100000 in
theorem specDividePolynomials_any (v : Value) (p : List Int) (u : Value) (q : List Int) (w : World) (h0 : ReadI w w.heap.size v p) (hn0 : p.length ≤ 1048576) (hw0 : ∀ z ∈ p, (Lit.int .i64 z).wf = true) (h1 : ReadI w w.heap.size u q) (hn1 : q.length ≤ 1048576) (hw1 : ∀ z ∈ q, (Lit.int .i64 z).wf = true) :
    Calls Try.prog 43 #[v, u] w (AnsIC w (dvA p q) (dvC p q)) := by
  obtain ⟨m, A1, c1, rfl, hr1, HL1⟩ := h1.split
  have H0 := Lib.hid h0
  have H1 := Lib.hid h1
  have W0 := Lib.hid hw0
  have W1 := Lib.hid hw1
  clear h0 h1 hw0 hw1 hr1
  cases hp : polyB p
  · have E1 := Lib.hid (dv_first (q := q) hp)
    have HP := Lib.hid hp
    clear hp
    go_enter Try.func43, Try.ntmps43
    go_wp2_with (go_at_call 75; refine (l02Is_no _ p _ _ H0.out hn0 W0.out HP.out).mono ?_; rintro e w' ⟨rfl, rfl⟩)
    go_ret2
    exact AnsIC.empty E1.out.1.symm E1.out.2.symm (Below.refl _ _)
  cases hq : polyB q
  · have E1 := Lib.hid (dv_second (p := p) hq)
    have HP := Lib.hid hp
    have HQ := Lib.hid hq
    clear hp hq
    go_enter Try.func43, Try.ntmps43
    go_wp2_with fail
    refine (l02Is_yes _ p _ _ H0.out hn0 W0.out HP.out).mono ?_
    rintro e w' ⟨rfl, rfl⟩
    go_wp2_with fail
    refine (l02Is_no _ q _ _ H1.out hn1 W1.out HQ.out).mono ?_
    rintro e w' ⟨rfl, rfl⟩
    go_wp2_with fail
    go_ret2
    exact AnsIC.empty E1.out.1.symm E1.out.2.symm (Below.refl _ _)
  have E1 := Lib.hid (dv_both hp hq)
  have HP := Lib.hid hp
  have HQ := Lib.hid hq
  clear hp hq
  by_cases hm : m = 0
  · subst hm
    have E2 : Hid (divL 1000000000000 p q = ([], 5)) := Lib.hid (divL_first (Or.inl HL1.out))
    go_enter Try.func43, Try.ntmps43
    go_wp2_with fail
    refine (l02Is_yes _ p _ _ H0.out hn0 W0.out HP.out).mono ?_
    rintro e w' ⟨rfl, rfl⟩
    go_wp2_with fail
    refine (l02Is_yes _ q _ _ H1.out hn1 W1.out HQ.out).mono ?_
    rintro e w' ⟨rfl, rfl⟩
    go_wp2_with fail
    go_ret2
    exact AnsIC.empty (by rw [E1.out.1, E2.out]) (by rw [E1.out.2, E2.out]) (Below.refl _ _)
  have hm0 : 0 < m := by omega
  have TM : ((m : Int) == 0) = false := by simp; omega
  clear hm
  have HD := hid_in (l02Divide_any _ _ p q w H0.out hn0 W0.out H1.out hn1 W1.out (polyB_co HP.out) (polyB_end HQ.out) (by rw [HL1.out]; exact hm0) (polyB_co HQ.out))
  obtain ⟨L, hL⟩ : ∃ L, L = (divL 1000000000000 p q).1 := ⟨_, rfl⟩
  obtain ⟨C, hC⟩ : ∃ C, C = (divL 1000000000000 p q).2 := ⟨_, rfl⟩
  rw [← hL, ← hC] at HD E1
  have HLC : Hid (C = 0 ∨ L = []) := Lib.hid (by rw [hL, hC]; exact divL_code _ _ _)
  clear hL hC
  by_cases hc : C = 0
  · subst hc
    go_enter Try.func43, Try.ntmps43
    go_wp2_with fail
    refine (l02Is_yes _ p _ _ H0.out hn0 W0.out HP.out).mono ?_
    rintro e w' ⟨rfl, rfl⟩
    go_wp2_with fail
    refine (l02Is_yes _ q _ _ H1.out hn1 W1.out HQ.out).mono ?_
    rintro e w' ⟨rfl, rfl⟩
    go_wp2_with fail
    refine (hid_out HD).mono ?_
    rintro e w1 ⟨v1, rfl, ho, hb⟩
    have O1 := Lib.hid ho
    have B1 := Lib.hid hb
    clear ho hb
    go_wp2_with fail
    go_ret2
    exact AnsIC.mk' E1.out.1.symm E1.out.2.symm O1.out B1.out
  · have T : (C != 0) = true := by simp [hc]
    have HE : Hid (L = []) := Lib.hid (HLC.out.resolve_left hc)
    clear hc
    go_enter Try.func43, Try.ntmps43
    go_wp2_with fail
    refine (l02Is_yes _ p _ _ H0.out hn0 W0.out HP.out).mono ?_
    rintro e w' ⟨rfl, rfl⟩
    go_wp2_with fail
    refine (l02Is_yes _ q _ _ H1.out hn1 W1.out HQ.out).mono ?_
    rintro e w' ⟨rfl, rfl⟩
    go_wp2_with fail
    refine (hid_out HD).mono ?_
    rintro e w1 ⟨v1, rfl, ho, hb⟩
    have B1 := Lib.hid hb
    clear ho hb
    go_wp2_with fail
    go_ret2
    exact AnsIC.empty (by rw [E1.out.1, HE.out]) E1.out.2.symm B1.out
end Go.Proofs.Ytbipihamkfifjaa
