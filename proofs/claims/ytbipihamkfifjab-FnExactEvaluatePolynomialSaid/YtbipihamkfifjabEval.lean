/- Values of polynomials, the model's and the program's: contracts of EvaluatePolynomial. Conditions: stated at each theorem. -/
import Derived.Test.YtbipihamkfifjabPolyIs
namespace Go.Proofs.Ytbipihamkfifjab
open Go.ChangeShapes Go.WideShapes Go.ChangeAt Go.RowKit
set_option linter.unusedVariables false

theorem pointB_true {x : Int} : pointB x = true ↔ -1000 ≤ x ∧ x ≤ 1000 := by simp [pointB]
theorem pointB_false {x : Int} : pointB x = false ↔ ¬(-1000 ≤ x ∧ x ≤ 1000) := by simp [pointB]
theorem ev_poly {p : List Int} {x : Int} (h : polyB p = false) : evA p x = 0 ∧ evC p x = 1 := by simp [evA, evC, h]
theorem ev_point {p : List Int} {x : Int} (h : polyB p = true) (k : pointB x = false) : evA p x = 0 ∧ evC p x = 2 := by simp [evA, evC, h, k]
theorem ev_both {p : List Int} {x : Int} (h : polyB p = true) (k : pointB x = true) : evA p x = (evalL x 0 p.reverse).getD 0 ∧ evC p x = if (evalL x 0 p.reverse).isSome then 0 else 3 := by simp [evA, evC, h, k]
theorem mul_1000 {v x : Int} (hv : -1000000000000 ≤ v ∧ v ≤ 1000000000000) (hx : -1000 ≤ x ∧ x ≤ 1000) : -1000000000000000 ≤ v * x ∧ v * x ≤ 1000000000000000 := by
  have h1 : (v.natAbs : Int) ≤ 1000000000000 := by omega
  have h2 : (x.natAbs : Int) ≤ 1000 := by omega
  have h3 : ((v * x).natAbs : Int) = (v.natAbs : Int) * (x.natAbs : Int) := by rw [Int.natAbs_mul]; exact Int.natCast_mul _ _
  have h4 : (v.natAbs : Int) * (x.natAbs : Int) ≤ 1000000000000 * 1000 := Int.mul_le_mul h1 h2 (by omega) (by omega)
  omega
theorem rev_take {p : List Int} {n k : Nat} (hl : p.length = n) (h0 : 0 < k) (hk : k ≤ n) : (p.take k).reverse = (p[k - 1]?.getD 0) :: (p.take (k - 1)).reverse := by
  obtain ⟨j, rfl⟩ : ∃ j, k = j + 1 := ⟨k - 1, by omega⟩
  have hj : j < p.length := by omega
  rw [List.take_succ_eq_append_getElem hj]; simp [hj]
theorem tup_intE {a b c d : Int} (h : a = c) (k : b = d) : Ending.returned (.tuple #[.int .i64 a, .int .i64 b]) = .returned (.tuple #[.int .i64 c, .int .i64 d]) := by rw [h, k]

set_option maxRecDepth 100000 in
theorem specEvaluatePolynomial_any (v : Value) (p : List Int) (x : Int) (w : World) (h0 : ReadI w w.heap.size v p) (hn0 : p.length ≤ 1048576) (hw0 : ∀ z ∈ p, (Lit.int .i64 z).wf = true) (hx : (Lit.int .i64 x).wf = true) :
    Calls Try.prog 9 #[v, .int .i64 x] w (AnsII w (evA p x) (evC p x)) := by
  have hx2 := range_i64 (zs := [x]) (by simpa using hx) 0
  have H0 := Lib.hid h0
  have W0 := Lib.hid hw0
  clear h0 hw0 hx
  cases hp : polyB p
  · have E1 := Lib.hid (ev_poly (x := x) hp)
    have HP := Lib.hid hp
    clear hp
    go_enter Try.func9, Try.ntmps9
    go_wp2_with fail
    refine (l02Is_no _ p _ _ H0.out hn0 W0.out HP.out).mono ?_
    rintro e w' ⟨rfl, rfl⟩
    go_wp2_with fail
    go_ret2
    exact ⟨tup_intE E1.out.1.symm E1.out.2.symm, Below.refl _ _⟩
  cases hq : pointB x
  · have E1 := Lib.hid (ev_point hp hq)
    have HP := Lib.hid hp
    have hx3 := pointB_false.1 hq
    clear hp hq
    go_enter Try.func9, Try.ntmps9
    go_wp2_with fail
    refine (l02Is_yes _ p _ _ H0.out hn0 W0.out HP.out).mono ?_
    rintro e w' ⟨rfl, rfl⟩
    go_wp2_with fail
    refine (inN _ _ _ _ (by omega)).mono ?_
    rintro e w' ⟨rfl, rfl⟩
    go_wp2_with fail
    go_ret2
    exact ⟨tup_intE E1.out.1.symm E1.out.2.symm, Below.refl _ _⟩
  · have E1 := Lib.hid (ev_both hp hq)
    have HP := Lib.hid hp
    have hx3 := pointB_true.1 hq
    have PC := Lib.hid (polyB_co hp)
    obtain ⟨n, A, c, rfl, hr, HL⟩ := H0.out.split
    rw [HL.out] at hn0
    have HR := Lib.hid hr
    clear hp hq hr
    go_enter Try.func9, Try.ntmps9
    go_wp2_with fail
    refine (l02Is_yes _ p _ _ H0.out (by rw [HL.out]; exact hn0) W0.out HP.out).mono ?_
    rintro e w' ⟨rfl, rfl⟩
    go_wp2_with fail
    refine (inY _ _ _ _ (by omega) (by omega)).mono ?_
    rintro e w' ⟨rfl, rfl⟩
    go_wp2_with fail
    go_loop [6, 7] (fun vs vi => ∃ (k : Nat) (s : Int), k ≤ n ∧ (-1000000000000 ≤ s ∧ s ≤ 1000000000000) ∧ vs = .int .i64 s ∧ vi = .int .i64 ((k : Int) - 1) ∧ Hid (evalL x 0 p.reverse = evalL x s (p.take k).reverse)) (fun _ vi => (intOf vi + 1).toNat)
    case atStart => exact ⟨n, 0, by omega, by omega, rfl, rfl, Lib.hid (by rw [← HL.out, List.take_length])⟩
    case round =>
      obtain ⟨k, s, hk, hs, rfl, rfl, hg⟩ := hrel
      by_cases h0 : 0 < k
      · obtain ⟨a, rfl, _, hcell⟩ := HR.out.2 (k - 1) (by omega)
        rw [getD_opt] at hcell
        have hm := mul_1000 hs hx3
        have hc := PC.out (k - 1)
        rw [getD_opt] at hc
        have HG : Hid (evalL x 0 p.reverse = evalL x s ((p[k - 1]?.getD 0) :: (p.take (k - 1)).reverse)) := Lib.hid (by rw [hg.out, rev_take HL.out h0 hk])
        have h5 : (0 : Int) ≤ (k : Int) - 1 := by omega
        by_cases hco : -1000000000000 ≤ s * x + p[k - 1]?.getD 0 ∧ s * x + p[k - 1]?.getD 0 ≤ 1000000000000
        · have HG2 : Hid (evalL x 0 p.reverse = evalL x (s * x + p[k - 1]?.getD 0) (p.take (k - 1)).reverse) := Lib.hid (by rw [HG.out]; conv => lhs; unfold evalL; rw [if_pos (coB_true.2 hco)])
          go_wp2_with (go_at_call 31; refine (inY _ _ _ _ (by omega) (by omega)).mono ?_; rintro e w' ⟨rfl, rfl⟩)
          go_round
          case rel => exact ⟨k - 1, _, by omega, hco, rfl, by rw [show (k : Int) - 1 - 1 = ((k - 1 : Nat) : Int) - 1 by omega], HG2⟩
          case measure => simp [intOf]; omega
        · have HN : Hid (evalL x 0 p.reverse = none) := Lib.hid (by rw [HG.out]; conv => lhs; unfold evalL; rw [if_neg (by rw [coB_true]; exact hco)])
          go_wp2_with (go_at_call 31; refine (inN _ _ _ _ (by omega)).mono ?_; rintro e w' ⟨rfl, rfl⟩)
          go_ret2
          exact ⟨tup_intE (by rw [E1.out.1, HN.out]; rfl) (by rw [E1.out.2, HN.out]; rfl), Below.refl _ _⟩
      · obtain rfl : k = 0 := by omega
        have HN : Hid (evalL x 0 p.reverse = some s) := Lib.hid (by rw [hg.out]; rfl)
        go_wp2
        go_ret2
        exact ⟨tup_intE (by rw [E1.out.1, HN.out]; rfl) (by rw [E1.out.2, HN.out]; rfl), Below.refl _ _⟩

set_option maxRecDepth 100000 in
theorem implEvaluatePolynomial_any (v : Value) (p : List Int) (x : Int) (w : World) (h0 : ReadI w w.heap.size v p) (hn0 : p.length ≤ 1048576) (hw0 : ∀ z ∈ p, (Lit.int .i64 z).wf = true) (hx : (Lit.int .i64 x).wf = true) :
    Calls Try.prog 11 #[v, .int .i64 x] w (AnsII w (evA p x) (evC p x)) := by
  have hx2 := range_i64 (zs := [x]) (by simpa using hx) 0
  have H0 := Lib.hid h0
  have W0 := Lib.hid hw0
  clear h0 hw0 hx
  cases hp : polyB p
  · have E1 := Lib.hid (ev_poly (x := x) hp)
    have HP := Lib.hid hp
    clear hp
    go_enter Try.func11, Try.ntmps11
    go_wp2_with fail
    refine (implIs_no _ p _ _ H0.out hn0 W0.out HP.out).mono ?_
    rintro e w' ⟨rfl, rfl⟩
    go_wp2_with fail
    go_ret2
    exact ⟨tup_intE E1.out.1.symm E1.out.2.symm, Below.refl _ _⟩
  cases hq : pointB x
  · have E1 := Lib.hid (ev_point hp hq)
    have HP := Lib.hid hp
    have hx3 := pointB_false.1 hq
    clear hp hq
    go_enter Try.func11, Try.ntmps11
    go_wp2_with fail
    refine (implIs_yes _ p _ _ H0.out hn0 W0.out HP.out).mono ?_
    rintro e w' ⟨rfl, rfl⟩
    go_wp2_with fail
    refine (withinN _ _ _ (by omega) (by omega) (by omega)).mono ?_
    rintro e w' ⟨rfl, rfl⟩
    go_wp2_with fail
    go_ret2
    exact ⟨tup_intE E1.out.1.symm E1.out.2.symm, Below.refl _ _⟩
  · have E1 := Lib.hid (ev_both hp hq)
    have HP := Lib.hid hp
    have hx3 := pointB_true.1 hq
    have PC := Lib.hid (polyB_co hp)
    obtain ⟨n, A, c, rfl, hr, HL⟩ := H0.out.split
    rw [HL.out] at hn0
    have HR := Lib.hid hr
    clear hp hq hr
    go_enter Try.func11, Try.ntmps11
    go_wp2_with fail
    refine (implIs_yes _ p _ _ H0.out (by rw [HL.out]; exact hn0) W0.out HP.out).mono ?_
    rintro e w' ⟨rfl, rfl⟩
    go_wp2_with fail
    refine (withinY _ _ _ (by omega) (by omega) (by omega) (by omega)).mono ?_
    rintro e w' ⟨rfl, rfl⟩
    go_wp2_with fail
    go_loop [6, 7] (fun vs vi => ∃ (k : Nat) (s : Int), k ≤ n ∧ (-1000000000000 ≤ s ∧ s ≤ 1000000000000) ∧ vs = .int .i64 s ∧ vi = .int .i64 ((k : Int) - 1) ∧ Hid (evalL x 0 p.reverse = evalL x s (p.take k).reverse)) (fun _ vi => (intOf vi + 1).toNat)
    case atStart => exact ⟨n, 0, by omega, by omega, rfl, rfl, Lib.hid (by rw [← HL.out, List.take_length])⟩
    case round =>
      obtain ⟨k, s, hk, hs, rfl, rfl, hg⟩ := hrel
      by_cases h0 : 0 < k
      · obtain ⟨a, rfl, _, hcell⟩ := HR.out.2 (k - 1) (by omega)
        rw [getD_opt] at hcell
        have hm := mul_1000 hs hx3
        have hc := PC.out (k - 1)
        rw [getD_opt] at hc
        have HG : Hid (evalL x 0 p.reverse = evalL x s ((p[k - 1]?.getD 0) :: (p.take (k - 1)).reverse)) := Lib.hid (by rw [hg.out, rev_take HL.out h0 hk])
        have h5 : (0 : Int) ≤ (k : Int) - 1 := by omega
        by_cases hco : -1000000000000 ≤ s * x + p[k - 1]?.getD 0 ∧ s * x + p[k - 1]?.getD 0 ≤ 1000000000000
        · have HG2 : Hid (evalL x 0 p.reverse = evalL x (s * x + p[k - 1]?.getD 0) (p.take (k - 1)).reverse) := Lib.hid (by rw [HG.out]; conv => lhs; unfold evalL; rw [if_pos (coB_true.2 hco)])
          go_wp2_with (go_at_call 34; refine (coY _ _ (by omega) (by omega)).mono ?_; rintro e w' ⟨rfl, rfl⟩)
          go_round
          case rel => exact ⟨k - 1, _, by omega, hco, rfl, by rw [show (k : Int) - 1 - 1 = ((k - 1 : Nat) : Int) - 1 by omega], HG2⟩
          case measure => simp [intOf]; omega
        · have HN : Hid (evalL x 0 p.reverse = none) := Lib.hid (by rw [HG.out]; conv => lhs; unfold evalL; rw [if_neg (by rw [coB_true]; exact hco)])
          go_wp2_with (go_at_call 34; refine (coN _ _ (by omega)).mono ?_; rintro e w' ⟨rfl, rfl⟩)
          go_ret2
          exact ⟨tup_intE (by rw [E1.out.1, HN.out]; rfl) (by rw [E1.out.2, HN.out]; rfl), Below.refl _ _⟩
      · obtain rfl : k = 0 := by omega
        have HN : Hid (evalL x 0 p.reverse = some s) := Lib.hid (by rw [hg.out]; rfl)
        go_wp2
        go_ret2
        exact ⟨tup_intE (by rw [E1.out.1, HN.out]; rfl) (by rw [E1.out.2, HN.out]; rfl), Below.refl _ _⟩
end Go.Proofs.Ytbipihamkfifjab
