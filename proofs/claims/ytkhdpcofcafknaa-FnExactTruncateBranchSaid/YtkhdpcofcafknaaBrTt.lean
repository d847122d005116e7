/- TruncateBranch, the model's: contract. Conditions: stated at each theorem. -/
import Derived.Test.YtkhdpcofcafknaaBrTs
namespace Go.Proofs.Ytkhdpcofcafknaa
open Go.ChangeShapes Go.WideShapes Go.ChangeAt Go.RowKit
set_option linter.unusedVariables false
set_option linter.unusedSimpArgs false

set_option maxHeartbeats 1000000 in
theorem specTruncateBranch_any (v : Value) (zs : List Int) (k : Int) (w : World) (h : ReadI w w.heap.size v zs) (hn : zs.length ≤ 1048576) (hw : ∀ z ∈ zs, (Lit.int .i64 z).wf = true) (hwk : (Lit.int .i64 k).wf = true) :
    Calls Try.prog 54 #[.agg #[v], .int .i64 k] w (AnsRC w (tcA zs k) (tcC zs k)) := by
  obtain ⟨n, A, c, rfl, hr, HL, HN, hnc, HF, hcm⟩ := h.split2
  rw [HL.out] at hn
  have hk2 := range_i64 (zs := [k]) (by simpa using hwk) 0
  simp only [List.getElem?_cons_zero, Option.getD_some] at hk2
  obtain ⟨W0, HE⟩ : ∃ W, W = (w.alloc (.cells #[.slice A n c] 26)).alloc (.cells #[.slice none 0 0] 26) := ⟨_, rfl⟩
  have hS0 : Start w W0 (.slice A n c) := by rw [HE]; exact Start.new _ _
  have hb0 := hS0.below
  have HR := Lib.hid ((h.below hb0).more hb0.size)
  have H0 := Lib.hid (hr.below hb0)
  have S0 := Lib.hid hS0
  have HW := Lib.hid hw
  have HEQ := Lib.hid HE
  clear h hr hb0 hS0 hw HE hwk
  cases hp : brB zs
  · have E := Lib.hid (tc_no (k := k) hp)
    have HP := Lib.hid hp
    clear hp
    go_enter Try.func54, Try.ntmps54
    go_wp2_with fail
    rw [← HEQ.out]
    have q0 := S0.out.box.1
    refine (l03Is_if _ zs W0 false HR.out (by rw [HL.out]; exact hn) HW.out HP.out).mono ?_
    rintro e w1 ⟨rfl, hb⟩
    obtain ⟨l1, l2, l3, l4⟩ := S0.out.later hb
    have B1 := Lib.hid (S0.out.below.trans (hb.mono S0.out.below.size))
    clear hb l1
    go_wp2_with fail
    have cr : (w1.setCell ⟨w.heap.size + 1, 0, none⟩ (.slice none 0 0)).cell? ⟨w.heap.size + 1, 0, none⟩ = some (.slice none 0 0) := by go_simp
    refine bodyPost_ret (v := .tuple #[.agg #[.slice none 0 0], .int .i64 1]) (by simp [results, Try.results54, go_sem, cr]) rfl ?_
    exact ansR_end E.out.1.symm E.out.2.symm (OwnI.nil _ _) (by intro h; cases h) l4 B1.out _
  have HP := Lib.hid hp
  have hn0 : 0 < n := by have := brB_pos hp; rw [HL.out] at this; exact this
  by_cases hk0 : k < 0
  · have E := Lib.hid (tc_out (k := k) hp (by omega))
    clear hp
    go_enter Try.func54, Try.ntmps54
    go_wp2_with fail
    rw [← HEQ.out]
    have q0 := S0.out.box.1
    refine (l03Is_if _ zs W0 true HR.out (by rw [HL.out]; exact hn) HW.out HP.out).mono ?_
    rintro e w1 ⟨rfl, hb⟩
    obtain ⟨l1, l2, l3, l4⟩ := S0.out.later hb
    have l0 := l1.1
    have B1 := Lib.hid (S0.out.below.trans (hb.mono S0.out.below.size))
    have BW := Lib.hid hb
    clear hb l1
    go_wp2_with fail
    refine (inN _ _ _ _ (by omega)).mono ?_
    rintro e w' ⟨rfl, rfl⟩
    go_wp2_with fail
    have cr : (w1.setCell ⟨w.heap.size + 1, 0, none⟩ (.slice none 0 0)).cell? ⟨w.heap.size + 1, 0, none⟩ = some (.slice none 0 0) := by go_simp
    refine bodyPost_ret (v := .tuple #[.agg #[.slice none 0 0], .int .i64 2]) (by simp [results, Try.results54, go_sem, cr]) rfl ?_
    exact ansR_end E.out.1.symm E.out.2.symm (OwnI.nil _ _) (by intro h; cases h) l4 B1.out _
  by_cases hkn : (n : Int) ≤ k
  · have E := Lib.hid (tc_out (k := k) hp (by rw [HL.out]; omega))
    clear hp
    go_enter Try.func54, Try.ntmps54
    go_wp2_with fail
    rw [← HEQ.out]
    have q0 := S0.out.box.1
    refine (l03Is_if _ zs W0 true HR.out (by rw [HL.out]; exact hn) HW.out HP.out).mono ?_
    rintro e w1 ⟨rfl, hb⟩
    obtain ⟨l1, l2, l3, l4⟩ := S0.out.later hb
    have l0 := l1.1
    have B1 := Lib.hid (S0.out.below.trans (hb.mono S0.out.below.size))
    have BW := Lib.hid hb
    clear hb l1
    go_wp2_with fail
    refine (inN _ _ _ _ (by omega)).mono ?_
    rintro e w' ⟨rfl, rfl⟩
    go_wp2_with fail
    have cr : (w1.setCell ⟨w.heap.size + 1, 0, none⟩ (.slice none 0 0)).cell? ⟨w.heap.size + 1, 0, none⟩ = some (.slice none 0 0) := by go_simp
    refine bodyPost_ret (v := .tuple #[.agg #[.slice none 0 0], .int .i64 2]) (by simp [results, Try.results54, go_sem, cr]) rfl ?_
    exact ansR_end E.out.1.symm E.out.2.symm (OwnI.nil _ _) (by intro h; cases h) l4 B1.out _
  obtain ⟨j, rfl⟩ : ∃ j : Nat, k = (j : Int) := ⟨k.toNat, by omega⟩
  have hj : j < n := by omega
  have E := Lib.hid (tc_in hp (by rw [HL.out]; exact hj))
  have hj2 : (j : Int) < (n : Int) := by omega
  have hj0 : (0 : Int) ≤ (j : Int) := by omega
  clear hp hk0 hkn
  go_enter Try.func54, Try.ntmps54
  go_wp2_with fail
  rw [← HEQ.out]
  have q0 := S0.out.box.1
  refine (l03Is_if _ zs W0 true HR.out (by rw [HL.out]; exact hn) HW.out HP.out).mono ?_
  rintro e w1 ⟨rfl, hb⟩
  obtain ⟨l1, l2, l3, l4⟩ := S0.out.later hb
  have l0 := l1.1
  have B1 := Lib.hid (S0.out.below.trans (hb.mono S0.out.below.size))
  have BW := Lib.hid hb
  have HR1 := Lib.hid ((HR.out.below hb).more hb.size)
  clear hb l1
  go_wp2_with fail
  refine (inY _ _ _ _ (by omega) (by omega)).mono ?_
  rintro e w' ⟨rfl, rfl⟩
  go_wp2_with fail
  refine (l03Cut_any _ zs j w1 HR1.out (by rw [HL.out]; exact hn) HP.out (by rw [HL.out]; exact hj)).mono ?_
  rintro e w2 ⟨v2, rfl, ho2, hb2⟩
  obtain ⟨A2, c2, rfl⟩ := ho2.form (cutL_len (by rw [HL.out]; exact hj))
  have BF := Lib.hid (BW.out.trans (hb2.mono BW.out.size))
  have O2 := Lib.hid ho2
  obtain ⟨m1, m2, m3, m4⟩ := S0.out.later BF.out
  clear ho2 hb2 l2 l3 l0 m1
  go_wp2_with fail
  have cr : (w2.setCell ⟨w.heap.size + 1, 0, none⟩ (.slice A2 (j + 1) c2)).cell? ⟨w.heap.size + 1, 0, none⟩ = some (.slice A2 (j + 1) c2) := by go_simp
  refine bodyPost_ret (v := .tuple #[.agg #[.slice A2 (j + 1) c2], .int .i64 0]) (by simp [results, Try.results54, go_sem, cr]) rfl ?_
  have hne2 : (Value.slice A2 (j + 1) c2).ownBlock ≠ some (w.heap.size + 1) := by
    intro h
    have h2 := (O2.out.1.lt _ h).1
    omega
  exact ansR_end E.out.1.symm E.out.2.symm (own_lessB O2.out B1.out.size) hne2 m4 (S0.out.below.trans (BF.out.mono S0.out.below.size)) _
end Go.Proofs.Ytkhdpcofcafknaa
