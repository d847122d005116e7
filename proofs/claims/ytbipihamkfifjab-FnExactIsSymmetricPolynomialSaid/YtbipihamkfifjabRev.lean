/- Reversed polynomials and symmetric ones, the model's and the program's: contracts of ReversePolynomial and IsSymmetricPolynomial. Conditions: stated at each theorem. -/
import Derived.Test.YtbipihamkfifjabClone
import Derived.RegionTactic
import Derived.BigRegion
namespace Go.Proofs.Ytbipihamkfifjab
open Go.ChangeShapes Go.WideShapes Go.ChangeAt Go.RowKit
set_option linter.unusedVariables false

theorem rev_no {p : List Int} (h : polyB p = false) : revA p = [] ∧ revC p = 1 := by simp [revA, revC, h]
theorem rev_yes {p : List Int} (h : polyB p = true) : revA p = trimL p.reverse ∧ revC p = 0 := by simp [revA, revC, h]
theorem revA_len (p : List Int) : (revA p).length ≤ 1099511627776 := by
  unfold revA; split
  · have := polyB_len ‹_›
    have h2 := trimN_le p.reverse p.reverse.length
    rw [trimL_len]; simp at h2 ⊢; omega
  · simp
/-- The last k numbers in the other order. -/
theorem drop_rev {p : List Int} {n k : Nat} (hl : p.length = n) (h0 : 0 < k) (hk : k ≤ n) : (p.drop (k - 1)).reverse = (p.drop k).reverse ++ [p[k - 1]?.getD 0] := by
  obtain ⟨j, rfl⟩ : ∃ j, k = j + 1 := ⟨k - 1, by omega⟩
  have hj : j < p.length := by omega
  rw [Nat.add_sub_cancel, List.drop_eq_getElem_cons hj, List.reverse_cons]; simp [hj]
theorem wf_rev {p : List Int} (h : ∀ z ∈ p, (Lit.int .i64 z).wf = true) : ∀ z ∈ p.reverse, (Lit.int .i64 z).wf = true := fun z hz => h z (List.mem_reverse.1 hz)

set_option maxRecDepth 100000 in
theorem l02Reverse_any (v : Value) (p : List Int) (w : World) (B : Nat) (h : ReadI w B v p) (hn : p.length ≤ 1048576) (hB : B ≤ w.heap.size) :
    Calls Try.prog 36 #[v] w fun e w' => ∃ v', e = .returned v' ∧ OwnI w' w.heap.size w'.heap.size v' p.reverse ∧ Below w.heap.size w w' := by
  obtain ⟨n, A, c, rfl, hr, HL⟩ := h.split
  rw [HL.out] at hn
  have H0 := Lib.hid hr
  have S0 := Lib.hid hB
  clear hr h hB
  obtain ⟨i0, hi0, hz0, hz1, hz2⟩ := info_parts int_info
  go_enter Try.func36, Try.ntmps36
  go_wp2
  go_loopw [3, 4] (fun vo vi wr => ∃ (k j : Nat) (A : Option Addr) (c : Nat), k ≤ n ∧ j + k = n ∧ vi = .int .i64 ((k : Int) - 1) ∧ vo = .slice A j c ∧ Hid (Own wr w.heap.size (.slice A j c) j ((p.drop k).reverse.map (.int .i64))) ∧ Hid (Below w.heap.size w wr)) (fun _ vi _ => (intOf vi + 1).toNat)
  case atStart => exact ⟨n, 0, _, _, by omega, by omega, rfl, rfl, Lib.hid (by rw [List.drop_of_length_le (by rw [HL.out]; omega)]; exact World.ownsRow_made w #[] 0 (Nat.le_refl _) (by unfold maxLen; omega) rfl), Lib.hid ((Below.refl _ _).alloc (Nat.le_refl _) _)⟩
  case round =>
    obtain ⟨k, j, A2, c2, hk, hj, rfl, rfl, ho, hb⟩ := hrel
    by_cases h0 : 0 < k
    · obtain ⟨a, rfl, hab, hcell⟩ := H0.out.2 (k - 1) (by omega)
      rw [getD_opt] at hcell
      have hcell' : wr.cell? (a.add (k - 1)) = some (.int .i64 (p[k - 1]?.getD 0)) := by rw [hb.out.cell (by rw [add_block]; have := S0.out; omega)]; exact hcell
      clear hcell
      have h5 : (0 : Int) ≤ (k : Int) - 1 := by omega
      have h6 : (k : Int) - 1 < n := by omega
      have hj5 : j + 1 ≤ 1048576 := by omega
      have HD := Lib.hid (drop_rev HL.out h0 hk)
      go_wp2_with (at_builtin; refine wpList_append_own _ rfl _ _ 22 rfl w.heap.size 2 i0 (.int .i64 0) 1 8 Try.underlying22 hi0 hz0 hz1 hz2 rfl ?_ _ j ((p.drop k).reverse.map (.int .i64)) rfl (World.ownsRow.alloc ho.out _) ⟨wr.heap.size, 0, none⟩ 1 1 [.int .i64 (p[k - 1]?.getD 0)] rfl rfl ?_ ?_ ?_ ?_ ?_ ?_; (decide); (exact World.news_of_block (cs := #[.int .i64 (p[k - 1]?.getD 0)]) (t := 2) (fr := (0, 0)) (heap_alloc_new wr _)); (simp [Value.oneCell']); (simp [maxLen]; omega); (omega); (have := hb.out.size; simp; omega); intro v1 w1 hown1 hgrow _; obtain ⟨A1, c1, rfl⟩ := own_form (n := j + 1) hown1; have HO1 : Hid (Own w1 w.heap.size (.slice A1 (j + 1) c1) (j + 1) ((p.drop (k - 1)).reverse.map (.int .i64))) := Lib.hid (by rw [HD.out, List.map_append]; exact hown1); have hb1 : Hid (Below w.heap.size w w1) := Lib.hid ((hb.out.alloc hb.out.size _).grown hgrow (by have := hb.out.size; simp; omega) (fun k hk => (Own.lt ho.out k hk).1)); clear hown1 hgrow)
      go_roundw
      case rel => exact ⟨k - 1, j + 1, A1, c1, by omega, by omega, by rw [show (k : Int) - 1 - 1 = ((k - 1 : Nat) : Int) - 1 by omega], rfl, HO1, hb1⟩
      case measure => simp [intOf]; omega
    · obtain rfl : k = 0 := by omega
      obtain rfl : j = n := by omega
      go_wp2
      go_ret
      exact ⟨_, rfl, OwnI.mk' (n := j) ho.out, hb.out⟩

theorem specReversePolynomial_any (v : Value) (p : List Int) (w : World) (h0 : ReadI w w.heap.size v p) (hn0 : p.length ≤ 1048576) (hw0 : ∀ z ∈ p, (Lit.int .i64 z).wf = true) :
    Calls Try.prog 13 #[v] w (AnsIC w (revA p) (revC p)) := by
  have H0 := Lib.hid h0
  have W0 := Lib.hid hw0
  clear h0 hw0
  cases hp : polyB p
  · have E1 := Lib.hid (rev_no hp)
    have HP := Lib.hid hp
    clear hp
    go_enter Try.func13, Try.ntmps13
    go_wp2_with fail
    refine (l02Is_no _ p _ _ H0.out hn0 W0.out HP.out).mono ?_
    rintro e w' ⟨rfl, rfl⟩
    go_wp2_with fail
    go_ret2
    exact AnsIC.empty E1.out.1.symm E1.out.2.symm (Below.refl _ _)
  · have E1 := Lib.hid (rev_yes hp)
    have HP := Lib.hid hp
    clear hp
    go_enter Try.func13, Try.ntmps13
    go_wp2_with fail
    refine (l02Is_yes _ p _ _ H0.out hn0 W0.out HP.out).mono ?_
    rintro e w' ⟨rfl, rfl⟩
    go_wp2_with fail
    refine (l02Reverse_any _ p _ _ H0.out hn0 (Nat.le_refl _)).mono ?_
    rintro e w1 ⟨v1, rfl, ho, hb⟩
    have O1 := Lib.hid ho
    have B1 := Lib.hid hb
    clear ho hb
    go_wp2_with fail
    refine (l02Trim_any _ p.reverse _ _ O1.out.reads (by rw [List.length_reverse]; omega) (Nat.le_refl _) (wf_rev W0.out)).mono ?_
    rintro e w2 ⟨v2, rfl, ho, hb⟩
    have O2 := Lib.hid ho
    have B2 := Lib.hid hb
    clear ho hb
    go_wp2_with fail
    go_ret2
    exact AnsIC.mk' E1.out.1.symm E1.out.2.symm (own_less O2.out B1.out.size) (B1.out.trans (B2.out.mono B1.out.size))

theorem wf_of_trim {p : List Int} (h : ∀ z ∈ p, (Lit.int .i64 z).wf = true) : ∀ z ∈ p.reverse, (Lit.int .i64 z).wf = true := wf_rev h
theorem implReversePolynomial_any (v : Value) (p : List Int) (w : World) (h0 : ReadI w w.heap.size v p) (hn0 : p.length ≤ 1048576) (hw0 : ∀ z ∈ p, (Lit.int .i64 z).wf = true) :
    Calls Try.prog 14 #[v] w (AnsIC w (revA p) (revC p)) := by
  have H0 := Lib.hid h0
  have W0 := Lib.hid hw0
  clear h0 hw0
  cases hp : polyB p
  · have E1 := Lib.hid (rev_no hp)
    have HP := Lib.hid hp
    clear hp
    go_enter Try.func14, Try.ntmps14
    go_wp2_with fail
    refine (implIs_no _ p _ _ H0.out hn0 W0.out HP.out).mono ?_
    rintro e w' ⟨rfl, rfl⟩
    go_wp2_with fail
    go_ret2
    exact AnsIC.empty E1.out.1.symm E1.out.2.symm (Below.refl _ _)
  · have E1 := Lib.hid (rev_yes hp)
    have HP := Lib.hid hp
    clear hp
    go_enter Try.func14, Try.ntmps14
    go_wp2_with fail
    refine (implIs_yes _ p _ _ H0.out hn0 W0.out HP.out).mono ?_
    rintro e w' ⟨rfl, rfl⟩
    go_wp2_with fail
    refine (clone_any _ p _ _ H0.out (by omega) (Nat.le_refl _)).mono ?_
    rintro e w1 ⟨v1, rfl, ho, hb⟩
    obtain ⟨A, c, rfl⟩ := own_form ho.1
    have O1 := Lib.hid ho
    have B1 := Lib.hid hb
    clear ho hb
    go_wp2_with fail
    refine (reverse_any A p.length c p _ _ _ O1.out rfl (by omega)).mono ?_
    rintro e w2 ⟨rfl, ho, hb⟩
    have O2 := Lib.hid ho
    have B2 := Lib.hid hb
    have hcap : p.length ≤ c ∧ c ≤ 9223372036854775807 := by
      obtain ⟨A', c', e, _, _, h1, _, h2⟩ := O1.out.reads
      simp only [Value.slice.injEq] at e
      omega
    clear ho hb
    go_wp2_with fail
    refine (without_any p.length c A p.reverse w2 w2.heap.size (reads_as O2.out (List.length_reverse)) (List.length_reverse) (by omega) hcap.1 hcap.2 (wf_rev W0.out)).mono ?_
    rintro e w' ⟨rfl, rfl⟩
    go_wp2_with fail
    go_ret2
    exact AnsIC.mk' ((trim_as (List.length_reverse)).trans E1.out.1.symm) E1.out.2.symm ((O2.out.cut List.length_reverse (trimN_le _ _)).raise (B2.out.size) (Nat.le_refl _)) (B1.out.trans (B2.out.below (Nat.le_refl _) B1.out.size))

theorem sym_no {p : List Int} (h : polyB p = false) : symA p = false ∧ revC p = 1 := by simp [symA, revC, h]
theorem sym_yes {p : List Int} (h : polyB p = true) : symA p = decide (p = p.reverse) ∧ revC p = 0 := by simp [symA, revC, h]
theorem tup_bi {a b : Bool} {c d : Int} (h : a = b) (k : c = d) : Ending.returned (.tuple #[.bool a, .int .i64 c]) = .returned (.tuple #[.bool b, .int .i64 d]) := by rw [h, k]
end Go.Proofs.Ytbipihamkfifjab
