/- t^k in place of t: contracts of SubstitutePower. Conditions: stated at each theorem. -/
import Derived.Test.YtbipihamkfifjaaSpread
namespace Go.Proofs.Ytbipihamkfifjaa
open Go.ChangeShapes Go.WideShapes Go.ChangeAt Go.RowKit
set_option linter.unusedVariables false

theorem sub_poly {p : List Int} {k : Int} (h : polyB p = false) : subA p k = [] ∧ subC p k = 1 := by simp [subA, subC, h]
theorem sub_range {p : List Int} {k : Int} (h : polyB p = true) (hk : ¬(1 ≤ k ∧ k ≤ 2000)) : subA p k = [] ∧ subC p k = 2 := by simp [subA, subC, h, hk]
theorem sub_over {p : List Int} {k : Int} (h : polyB p = true) (hk : 1 ≤ k ∧ k ≤ 2000) (ho : ¬((p.length : Int) - 1) * k ≤ 2000) : subA p k = [] ∧ subC p k = 3 := by simp [subA, subC, h, hk, ho]
theorem sub_fits {p : List Int} {k : Int} (h : polyB p = true) (hk : 1 ≤ k ∧ k ≤ 2000) (ho : ((p.length : Int) - 1) * k ≤ 2000) : subA p k = spreadL p k.toNat ∧ subC p k = 0 := by simp [subA, subC, h, hk, ho]
theorem sub_size {n k : Nat} (h : ((n : Int) - 1) * (k : Int) ≤ 2000) : (n - 1) * k + 1 ≤ 2001 := by
  by_cases h0 : n = 0
  · subst h0; simp
  · have := spread_size (n := n) (k := k) (by omega)
    omega
theorem subA_len (p : List Int) (k : Int) : (subA p k).length ≤ 1099511627776 := by
  unfold subA
  split
  · split
    · split
      · rename_i h1 h2 h3
        obtain ⟨j, rfl⟩ : ∃ j : Nat, k = (j : Int) := ⟨k.toNat, by omega⟩
        have := sub_size h3
        rw [Int.toNat_natCast]
        by_cases h0 : p.length = 0
        · rw [spread_nil _ h0]; simp
        · rw [spread_len rfl (by omega)]; omega
      · simp
    · simp
  · simp
theorem mul_2000 {n k : Int} (hn : 0 ≤ n ∧ n ≤ 2001) (hk : 1 ≤ k ∧ k ≤ 2000) : -2000 ≤ (n - 1) * k ∧ (n - 1) * k ≤ 4000000 := by
  have h3 : ((n - 1) * k).natAbs = (n - 1).natAbs * k.natAbs := Int.natAbs_mul _ _
  by_cases h0 : n = 0
  · subst h0; omega
  · have h4 : 0 ≤ (n - 1) * k := Int.mul_nonneg (by omega) (by omega)
    have h5 : (n - 1) * k ≤ 2000 * 2000 := Int.mul_le_mul (by omega) hk.2 (by omega) (by omega)
    omega

set_option maxRecDepth 100000 in
theorem specSubstitutePower_any (v : Value) (p : List Int) (k : Int) (w : World) (h0 : ReadI w w.heap.size v p) (hn0 : p.length ≤ 1048576) (hw0 : ∀ z ∈ p, (Lit.int .i64 z).wf = true) (hx : (Lit.int .i64 k).wf = true) :
    Calls Try.prog 59 #[v, .int .i64 k] w (AnsIC w (subA p k) (subC p k)) := by
  have hx2 := range_i64 (zs := [k]) (by simpa using hx) 0
  simp only [List.getElem?_cons_zero, Option.getD_some] at hx2
  obtain ⟨n, A, c, rfl, hr, HL⟩ := h0.split
  have H0 := Lib.hid h0
  have W0 := Lib.hid hw0
  clear h0 hw0 hx hr
  cases hp : polyB p
  · have E1 := Lib.hid (sub_poly (k := k) hp)
    have HP := Lib.hid hp
    clear hp
    go_enter Try.func59, Try.ntmps59
    go_wp2_with fail
    refine (l02Is_no _ p _ _ H0.out hn0 W0.out HP.out).mono ?_
    rintro e w' ⟨rfl, rfl⟩
    go_wp2_with fail
    go_ret2
    exact AnsIC.empty E1.out.1.symm E1.out.2.symm (Below.refl _ _)
  by_cases hk : 1 ≤ k ∧ k ≤ 2000
  rotate_left
  · have E1 := Lib.hid (sub_range hp hk)
    have HP := Lib.hid hp
    have HK := Lib.hid hk
    clear hp hk
    by_cases hk1 : k < 1
    · go_enter Try.func59, Try.ntmps59
      go_wp2_with fail
      refine (l02Is_yes _ p _ _ H0.out hn0 W0.out HP.out).mono ?_
      rintro e w' ⟨rfl, rfl⟩
      go_wp2_with fail
      refine (inN _ _ _ _ (by omega)).mono ?_
      rintro e w' ⟨rfl, rfl⟩
      go_wp2_with fail
      go_ret2
      exact AnsIC.empty E1.out.1.symm E1.out.2.symm (Below.refl _ _)
    · have hk2 : 2000 < k := by have := HK.out; omega
      go_enter Try.func59, Try.ntmps59
      go_wp2_with fail
      refine (l02Is_yes _ p _ _ H0.out hn0 W0.out HP.out).mono ?_
      rintro e w' ⟨rfl, rfl⟩
      go_wp2_with fail
      refine (inN _ _ _ _ (by omega)).mono ?_
      rintro e w' ⟨rfl, rfl⟩
      go_wp2_with fail
      go_ret2
      exact AnsIC.empty E1.out.1.symm E1.out.2.symm (Below.refl _ _)
  have hn2 : n ≤ 2001 := by have := polyB_len hp; have := HL.out; omega
  have hm := mul_2000 (n := (n : Int)) ⟨by omega, by omega⟩ hk
  by_cases ho : ((n : Int) - 1) * k ≤ 2000
  rotate_left
  · have E1 := Lib.hid (sub_over hp hk (by rw [HL.out]; exact ho))
    have HP := Lib.hid hp
    clear hp
    go_enter Try.func59, Try.ntmps59
    go_wp2_with fail
    refine (l02Is_yes _ p _ _ H0.out hn0 W0.out HP.out).mono ?_
    rintro e w' ⟨rfl, rfl⟩
    go_wp2_with fail
    refine (inY _ _ _ _ (by omega) (by omega)).mono ?_
    rintro e w' ⟨rfl, rfl⟩
    go_wp2_with fail
    go_ret2
    exact AnsIC.empty E1.out.1.symm E1.out.2.symm (Below.refl _ _)
  · have E1 := Lib.hid (sub_fits hp hk (by rw [HL.out]; exact ho))
    have HP := Lib.hid hp
    clear hp
    obtain ⟨j, rfl⟩ : ∃ j : Nat, k = (j : Int) := ⟨k.toNat, by omega⟩
    have HS := Lib.hid (sub_size ho)
    have hj : 1 ≤ j ∧ j ≤ 2000 := by omega
    go_enter Try.func59, Try.ntmps59
    go_wp2_with fail
    refine (l02Is_yes _ p _ _ H0.out hn0 W0.out HP.out).mono ?_
    rintro e w' ⟨rfl, rfl⟩
    go_wp2_with fail
    refine (inY _ _ _ _ (by omega) (by omega)).mono ?_
    rintro e w' ⟨rfl, rfl⟩
    go_wp2_with fail
    refine (l02Spread_any _ p j _ _ H0.out hn0 (Nat.le_refl _) hj.1 (by omega) (by rw [HL.out]; have := HS.out; omega)).mono ?_
    rintro e w1 ⟨v1, rfl, hw1, hb⟩
    have O1 := Lib.hid hw1
    have B1 := Lib.hid hb
    clear hw1 hb
    go_wp2_with fail
    go_ret2
    exact AnsIC.mk' (by rw [E1.out.1, Int.toNat_natCast]) E1.out.2.symm O1.out B1.out

set_option maxRecDepth 100000 in
theorem implSubstitutePower_any (v : Value) (p : List Int) (k : Int) (w : World) (h0 : ReadI w w.heap.size v p) (hn0 : p.length ≤ 1048576) (hw0 : ∀ z ∈ p, (Lit.int .i64 z).wf = true) (hx : (Lit.int .i64 k).wf = true) :
    Calls Try.prog 60 #[v, .int .i64 k] w (AnsIC w (subA p k) (subC p k)) := by
  have hx2 := range_i64 (zs := [k]) (by simpa using hx) 0
  simp only [List.getElem?_cons_zero, Option.getD_some] at hx2
  obtain ⟨n, A, c, rfl, hr, HL⟩ := h0.split
  have H0 := Lib.hid h0
  have W0 := Lib.hid hw0
  clear h0 hw0 hx hr
  cases hp : polyB p
  · have E1 := Lib.hid (sub_poly (k := k) hp)
    have HP := Lib.hid hp
    clear hp
    go_enter Try.func60, Try.ntmps60
    go_wp2_with fail
    refine (implIs_no _ p _ _ H0.out hn0 W0.out HP.out).mono ?_
    rintro e w' ⟨rfl, rfl⟩
    go_wp2_with fail
    go_ret2
    exact AnsIC.empty E1.out.1.symm E1.out.2.symm (Below.refl _ _)
  by_cases hk : 1 ≤ k ∧ k ≤ 2000
  rotate_left
  · have E1 := Lib.hid (sub_range hp hk)
    have HP := Lib.hid hp
    have HK := Lib.hid hk
    clear hp hk
    by_cases hk1 : k < 1
    · go_enter Try.func60, Try.ntmps60
      go_wp2_with fail
      refine (implIs_yes _ p _ _ H0.out hn0 W0.out HP.out).mono ?_
      rintro e w' ⟨rfl, rfl⟩
      go_wp2_with fail
      go_ret2
      exact AnsIC.empty E1.out.1.symm E1.out.2.symm (Below.refl _ _)
    · have hk2 : 2000 < k := by have := HK.out; omega
      go_enter Try.func60, Try.ntmps60
      go_wp2_with fail
      refine (implIs_yes _ p _ _ H0.out hn0 W0.out HP.out).mono ?_
      rintro e w' ⟨rfl, rfl⟩
      go_wp2_with fail
      go_ret2
      exact AnsIC.empty E1.out.1.symm E1.out.2.symm (Below.refl _ _)
  have hn2 : n ≤ 2001 := by have := polyB_len hp; have := HL.out; omega
  have hm := mul_2000 (n := (n : Int)) ⟨by omega, by omega⟩ hk
  by_cases ho : ((n : Int) - 1) * k ≤ 2000
  rotate_left
  · have E1 := Lib.hid (sub_over hp hk (by rw [HL.out]; exact ho))
    have HP := Lib.hid hp
    clear hp
    go_enter Try.func60, Try.ntmps60
    go_wp2_with fail
    refine (implIs_yes _ p _ _ H0.out hn0 W0.out HP.out).mono ?_
    rintro e w' ⟨rfl, rfl⟩
    go_wp2_with fail
    go_ret2
    exact AnsIC.empty E1.out.1.symm E1.out.2.symm (Below.refl _ _)
  · have E1 := Lib.hid (sub_fits hp hk (by rw [HL.out]; exact ho))
    have HP := Lib.hid hp
    clear hp
    obtain ⟨j, rfl⟩ : ∃ j : Nat, k = (j : Int) := ⟨k.toNat, by omega⟩
    have HS := Lib.hid (sub_size ho)
    have hj : 1 ≤ j ∧ j ≤ 2000 := by omega
    go_enter Try.func60, Try.ntmps60
    go_wp2_with fail
    refine (implIs_yes _ p _ _ H0.out hn0 W0.out HP.out).mono ?_
    rintro e w' ⟨rfl, rfl⟩
    go_wp2_with fail
    refine (withPower_any _ p j _ _ H0.out hn0 (Nat.le_refl _) hj.1 (by omega) (by rw [HL.out]; have := HS.out; omega)).mono ?_
    rintro e w1 ⟨v1, rfl, hw1, hb⟩
    have O1 := Lib.hid hw1
    have B1 := Lib.hid hb
    clear hw1 hb
    go_wp2_with fail
    go_ret2
    exact AnsIC.mk' (by rw [E1.out.1, Int.toNat_natCast]) E1.out.2.symm O1.out B1.out
end Go.Proofs.Ytbipihamkfifjaa
