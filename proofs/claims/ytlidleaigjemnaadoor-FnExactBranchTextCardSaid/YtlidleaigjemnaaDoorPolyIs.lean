/- What a polynomial is, the model's test and the program's: contracts of spec.l02Is, spec.IsPolynomial, impl.IsPolynomial. Conditions: stated at each theorem. -/
import Derived.Test.YtlidleaigjemnaaDoorKeep
import Derived.Test.YtlidleaigjemnaaDoorPoly
import Derived.Test.YtlidleaigjemnaaDoorIns
namespace Go.Proofs.YtlidleaigjemnaaDoor
open Go.ChangeShapes Go.WideShapes Go.ChangeAt Go.RowKit
set_option linter.unusedVariables false

theorem ret_bool {a b : Bool} (h : a = b) : Ending.returned (.bool a) = .returned (.bool b) := by rw [h]
theorem wf_at {zs : List Int} (h : ∀ z ∈ zs, (Lit.int .i64 z).wf = true) (k : Nat) : -9223372036854775808 ≤ zs[k]?.getD 0 ∧ zs[k]?.getD 0 ≤ 9223372036854775807 := range_i64 h k
theorem getD_opt (zs : List Int) (k : Nat) : zs.getD k 0 = zs[k]?.getD 0 := by simp [List.getD]
theorem poly_end {zs : List Int} {n : Nat} (hl : zs.length = n) (h : n ≤ 2001) (ha : (zs.take n).all coB = true) : polyB zs = endB zs := by
  subst hl
  rw [List.take_length] at ha
  simp [polyB, ha, h]
theorem poly_long {zs : List Int} {n : Nat} (hl : zs.length = n) (h : ¬ n ≤ 2001) : polyB zs = false := by subst hl; simp [polyB, h]
theorem poly_co {zs : List Int} {n k : Nat} (hl : zs.length = n) (h : k < n) (hc : coB (zs[k]?.getD 0) = false) : polyB zs = false := by
  subst hl; unfold polyB; rw [all_false h (by rw [getD_opt]; exact hc)]; simp
theorem end_nil {zs : List Int} (h : zs.length = 0) : endB zs = true := by
  have := List.eq_nil_of_length_eq_zero h; subst this; rfl
theorem end_some {zs : List Int} {n : Nat} (hl : zs.length = n) (h : 0 < n) : endB zs = (zs[n - 1]?.getD 0 != 0) := by
  subst hl
  have : zs.isEmpty = false := by cases zs <;> simp at h ⊢
  simp [endB, this]
theorem all_next {zs : List Int} {n k : Nat} (hl : zs.length = n) (h : k < n) (ht : (zs.take k).all coB = true) (hc : coB (zs[k]?.getD 0) = true) : (zs.take (k + 1)).all coB = true :=
  all_take_succ (by omega) ht (by rw [getD_opt]; exact hc)
/-- A slice that is read, its length under a name of its own. -/
theorem ReadI.split {w : World} {B : Nat} {v : Value} {zs : List Int} (h : ReadI w B v zs) : ∃ n A c, v = .slice A n c ∧ RI w B A n zs ∧ Hid (zs.length = n) := by
  obtain ⟨A, c, rfl, hr, _⟩ := h; exact ⟨_, A, c, rfl, hr, rfl⟩
theorem ReadI.split2 {w : World} {B : Nat} {v : Value} {zs : List Int} (h : ReadI w B v zs) : ∃ n A c, v = .slice A n c ∧ RI w B A n zs ∧ Hid (zs.length = n) ∧ Hid (A = none → c = 0) ∧ n ≤ c ∧ Hid (∀ a, A = some a → ∃ g o, a = ⟨g, o, none⟩) ∧ c ≤ 9223372036854775807 := by
  obtain ⟨A, c, rfl, hr, h1, h2, h3, h4⟩ := h; exact ⟨_, A, c, rfl, hr, rfl, h1, h2, h3, h4⟩

theorem l02Is_any (v : Value) (zs : List Int) (w : World) (B : Nat) (h : ReadI w B v zs) (hn : zs.length ≤ 1048576) (hw : ∀ z ∈ zs, (Lit.int .i64 z).wf = true) :
    Calls Tryd.prog 65 #[v] w fun e w' => e = .returned (.bool (polyB zs)) ∧ w = w' := by
  obtain ⟨n, A, c, rfl, hr, HL⟩ := h.split
  rw [HL.out] at hn
  have H0 := Lib.hid hr
  have HW := Lib.hid hw
  clear hr hw h
  obtain ⟨b, hb⟩ : ∃ b, b = polyB zs := ⟨_, rfl⟩
  rw [← hb]
  have HB := Lib.hid hb
  clear hb
  go_enter Tryd.func65, Tryd.ntmps65
  go_wp2
  go_loop [3] (fun i => ∃ k : Nat, k ≤ n ∧ i = .int .i64 k ∧ Hid ((zs.take k).all coB = true)) (fun i => n - (intOf i).toNat)
  case atStart => exact ⟨0, by omega, rfl, Lib.hid rfl⟩
  case round =>
    obtain ⟨k, hk, rfl, ha⟩ := hrel
    by_cases hlt : k < n
    · obtain ⟨a, rfl, _, hcell⟩ := H0.out.2 k hlt
      have hcell' : w.cell? (a.add k) = some (.int .i64 (zs[k]?.getD 0)) := by simpa using hcell
      clear hcell
      have hz := wf_at HW.out k
      cases hc : coB (zs[k]?.getD 0)
      · have hc' := coB_false.1 hc
        have R : Hid (false = b) := Lib.hid (by rw [HB.out, poly_co HL.out hlt hc])
        clear hc
        go_wp2_with (go_at_call 63; refine (inN _ _ _ _ (by omega)).mono ?_; rintro e w' ⟨rfl, rfl⟩)
        go_ret
        exact ⟨ret_bool R.out, rfl⟩
      · have hc' := coB_true.1 hc
        have HA : Hid ((zs.take (k + 1)).all coB = true) := Lib.hid (all_next HL.out hlt ha.out hc)
        clear hc
        go_wp2_with (go_at_call 63; refine (inY _ _ _ _ (by omega) (by omega)).mono ?_; rintro e w' ⟨rfl, rfl⟩)
        go_round
        case rel => exact ⟨k + 1, by omega, by go_num, HA⟩
        case measure => simp [intOf]; omega
    · obtain rfl : k = n := by omega
      by_cases h2 : k ≤ 2001
      rotate_left
      · have R : Hid (false = b) := Lib.hid (by rw [HB.out, poly_long HL.out h2])
        have h3 : ¬ (k : Int) ≤ 2001 := by omega
        clear hlt h2
        go_wp2
        go_ret
        exact ⟨ret_bool R.out, rfl⟩
      have E0 : Hid (b = endB zs) := Lib.hid (by rw [HB.out, poly_end HL.out h2 ha.out])
      have h4 : (k : Int) ≤ 2001 := by omega
      by_cases h0 : k = 0
      · subst h0
        have R : Hid (true = b) := Lib.hid (by rw [E0.out, end_nil HL.out])
        clear hlt h2
        go_wp2
        go_ret
        exact ⟨ret_bool R.out, rfl⟩
      have h6 : 0 < k := by omega
      obtain ⟨a, rfl, _, hcell⟩ := H0.out.2 (k - 1) (by omega)
      have hcell' : w.cell? (a.add (k - 1)) = some (.int .i64 (zs[k - 1]?.getD 0)) := by simpa using hcell
      clear hcell
      have h3 : ((k : Int) == 0) = false := by simp; omega
      have h5 : (0 : Int) ≤ (k : Int) - 1 := by omega
      have E : Hid ((zs[k - 1]?.getD 0 != 0) = b) := Lib.hid (by rw [E0.out, end_some HL.out h6])
      clear hlt h0 h2
      go_wp2
      go_ret
      exact ⟨ret_bool E.out, rfl⟩

/-- The model's test and the program's in the forms that a guard takes. -/
theorem l02Is_yes (v : Value) (zs : List Int) (w : World) (B : Nat) (h : ReadI w B v zs) (hn : zs.length ≤ 1048576) (hw : ∀ z ∈ zs, (Lit.int .i64 z).wf = true) (hp : polyB zs = true) :
    Calls Tryd.prog 65 #[v] w fun e w' => e = .returned (.bool true) ∧ w = w' := by
  rw [← hp]; exact l02Is_any v zs w B h hn hw
theorem l02Is_no (v : Value) (zs : List Int) (w : World) (B : Nat) (h : ReadI w B v zs) (hn : zs.length ≤ 1048576) (hw : ∀ z ∈ zs, (Lit.int .i64 z).wf = true) (hp : polyB zs = false) :
    Calls Tryd.prog 65 #[v] w fun e w' => e = .returned (.bool false) ∧ w = w' := by
  rw [← hp]; exact l02Is_any v zs w B h hn hw
end Go.Proofs.YtlidleaigjemnaaDoor
