/- TruncateBranch, the program's: contract. Conditions: stated at each theorem. -/
import Derived.Test.YtmpbigkaadmihaaBrT
namespace Go.Proofs.Ytmpbigkaadmihaa
open Go.ChangeShapes Go.WideShapes Go.ChangeAt Go.RowKit
set_option linter.unusedVariables false
set_option linter.unusedSimpArgs false

/-- Two blocks at the start of a function: a struct that came in, a struct that goes out. -/
structure Start (w W0 : World) (v : Value) : Prop where
  below : Below w.heap.size w W0
  box : BoxI W0 w.heap.size v
  res : BoxI W0 (w.heap.size + 1) (.slice none 0 0)
  free : W0.frozen? ⟨w.heap.size + 1, 0, none⟩ = false
  size : W0.heap.size = w.heap.size + 2
theorem Start.new (w : World) (v : Value) : Start w ((w.alloc (.cells #[v] 26)).alloc (.cells #[.slice none 0 0] 26)) v :=
  ⟨((Below.refl _ _).alloc (Nat.le_refl _) _).alloc (by simp) _, ⟨by go_simp, by simp; omega⟩, ⟨by go_simp, by simp⟩, by go_simp, by simp⟩
theorem Start.later {w W0 w1 : World} {v : Value} (h : Start w W0 v) (hb : Below W0.heap.size W0 w1) : BoxI w1 w.heap.size v ∧ w1.cell? ⟨w.heap.size + 1, 0, none⟩ = some (.slice none 0 0) ∧ w1.frozen? ⟨w.heap.size + 1, 0, none⟩ = false ∧ w.heap.size + 1 < w1.heap.size :=
  ⟨h.box.kept (Kept.of_below hb (by have := h.box.2; omega)), by rw [hb.cell (p := ⟨w.heap.size + 1, 0, none⟩) h.res.2]; exact h.res.1, by rw [hb.frozen (p := ⟨w.heap.size + 1, 0, none⟩) h.res.2]; exact h.free, Nat.lt_of_lt_of_le h.res.2 hb.size⟩
/-- The end of such a function: the answer has been stored. -/
theorem ansR_end {w w1 : World} {v : Value} {zs L : List Int} {C D : Int} (h1 : zs = L) (h2 : D = C) (ho : OwnI w1 w.heap.size w1.heap.size v zs) (hne : v.ownBlock ≠ some (w.heap.size + 1)) (hlt : w.heap.size + 1 < w1.heap.size) (hb : Below w.heap.size w w1) (u : Value) :
    AnsRC w L C (.returned (.tuple #[.agg #[v], .int .i64 D])) (w1.setCell ⟨w.heap.size + 1, 0, none⟩ u) := by
  subst h1; subst h2
  refine ⟨v, rfl, ?_, hb.setCell (by show w.heap.size ≤ w.heap.size + 1; omega) _⟩
  obtain ⟨⟨g0, g1⟩, g2, g3⟩ := ho
  refine ⟨⟨g0, ?_⟩, ?_, by simp⟩
  · rcases g1 with hn | ⟨g, cap, cur, e, hgb, hgg, rest⟩
    · exact .inl hn
    · refine .inr ⟨g, cap, cur, e, hgb, ?_, rest⟩
      rw [Below.heap_setCell w1 ⟨w.heap.size + 1, 0, none⟩ u g (by
        rintro rfl
        apply hne; rw [e]; rfl)]
      exact hgg
  · intro k hk; simpa [World.setCell] using g2 k hk

set_option maxHeartbeats 1000000 in
theorem implTruncateBranch_any (v : Value) (zs : List Int) (k : Int) (w : World) (h : ReadI w w.heap.size v zs) (hn : zs.length ≤ 1048576) (hw : ∀ z ∈ zs, (Lit.int .i64 z).wf = true) (hwk : (Lit.int .i64 k).wf = true) :
    Calls Try.prog 27 #[.agg #[v], .int .i64 k] w (AnsRC w (tcA zs k) (tcC zs k)) := by
  obtain ⟨n, A, c, rfl, hr, HL, HN, hnc, HF, hcm⟩ := h.split2
  rw [HL.out] at hn
  have hk2 := range_i64 (zs := [k]) (by simpa using hwk) 0
  simp only [List.getElem?_cons_zero, Option.getD_some] at hk2
  obtain ⟨W0, HE⟩ : ∃ W, W = (w.alloc (.cells #[.slice A n c] 26)).alloc (.cells #[.slice none 0 0] 26) := ⟨_, rfl⟩
  have hS0 : Start w W0 (.slice A n c) := by rw [HE]; exact Start.new _ _
  have hb0 := hS0.below
  have HR := Lib.hid ((h.below hb0).more hb0.size)
  have H0 := Lib.hid (hr.below hb0)
  have S0 := Lib.hid hS0
  have HW := Lib.hid hw
  have HEQ := Lib.hid HE
  clear h hr hb0 hS0 hw HE hwk
  cases hp : brB zs
  · have E := Lib.hid (tc_no (k := k) hp)
    have HP := Lib.hid hp
    clear hp
    go_enter Try.func27, Try.ntmps27
    go_wp2_with fail
    rw [← HEQ.out]
    have q0 := S0.out.box.1
    refine (implIsBranch_if _ zs W0 false HR.out (by rw [HL.out]; exact hn) HW.out HP.out).mono ?_
    rintro e w1 ⟨rfl, hb⟩
    obtain ⟨l1, l2, l3, l4⟩ := S0.out.later hb
    have B1 := Lib.hid (S0.out.below.trans (hb.mono S0.out.below.size))
    clear hb l1
    go_wp2_with fail
    have cr : (w1.setCell ⟨w.heap.size + 1, 0, none⟩ (.slice none 0 0)).cell? ⟨w.heap.size + 1, 0, none⟩ = some (.slice none 0 0) := by go_simp
    refine bodyPost_ret (v := .tuple #[.agg #[.slice none 0 0], .int .i64 1]) (by simp [results, Try.results27, go_sem, cr]) rfl ?_
    exact ansR_end E.out.1.symm E.out.2.symm (OwnI.nil _ _) (by intro h; cases h) l4 B1.out _
  have HP := Lib.hid hp
  have hn0 : 0 < n := by have := brB_pos hp; rw [HL.out] at this; exact this
  by_cases hk0 : k < 0
  · have E := Lib.hid (tc_out (k := k) hp (by omega))
    clear hp
    go_enter Try.func27, Try.ntmps27
    go_wp2_with fail
    rw [← HEQ.out]
    have q0 := S0.out.box.1
    refine (implIsBranch_if _ zs W0 true HR.out (by rw [HL.out]; exact hn) HW.out HP.out).mono ?_
    rintro e w1 ⟨rfl, hb⟩
    obtain ⟨l1, l2, l3, l4⟩ := S0.out.later hb
    have l0 := l1.1
    have B1 := Lib.hid (S0.out.below.trans (hb.mono S0.out.below.size))
    have BW := Lib.hid hb
    clear hb l1
    go_wp2_with fail
    have cr : (w1.setCell ⟨w.heap.size + 1, 0, none⟩ (.slice none 0 0)).cell? ⟨w.heap.size + 1, 0, none⟩ = some (.slice none 0 0) := by go_simp
    refine bodyPost_ret (v := .tuple #[.agg #[.slice none 0 0], .int .i64 2]) (by simp [results, Try.results27, go_sem, cr]) rfl ?_
    exact ansR_end E.out.1.symm E.out.2.symm (OwnI.nil _ _) (by intro h; cases h) l4 B1.out _
  by_cases hkn : (n : Int) ≤ k
  · have E := Lib.hid (tc_out (k := k) hp (by rw [HL.out]; omega))
    clear hp
    go_enter Try.func27, Try.ntmps27
    go_wp2_with fail
    rw [← HEQ.out]
    have q0 := S0.out.box.1
    refine (implIsBranch_if _ zs W0 true HR.out (by rw [HL.out]; exact hn) HW.out HP.out).mono ?_
    rintro e w1 ⟨rfl, hb⟩
    obtain ⟨l1, l2, l3, l4⟩ := S0.out.later hb
    have l0 := l1.1
    have B1 := Lib.hid (S0.out.below.trans (hb.mono S0.out.below.size))
    have BW := Lib.hid hb
    clear hb l1
    go_wp2_with fail
    have cr : (w1.setCell ⟨w.heap.size + 1, 0, none⟩ (.slice none 0 0)).cell? ⟨w.heap.size + 1, 0, none⟩ = some (.slice none 0 0) := by go_simp
    refine bodyPost_ret (v := .tuple #[.agg #[.slice none 0 0], .int .i64 2]) (by simp [results, Try.results27, go_sem, cr]) rfl ?_
    exact ansR_end E.out.1.symm E.out.2.symm (OwnI.nil _ _) (by intro h; cases h) l4 B1.out _
  obtain ⟨j, rfl⟩ : ∃ j : Nat, k = (j : Int) := ⟨k.toNat, by omega⟩
  have hj : j < n := by omega
  have E := Lib.hid (tc_in hp (by rw [HL.out]; exact hj))
  have HZ := Lib.hid (dcB_range (brB_dcB hp))
  have hj2 : (j : Int) < (n : Int) := by omega
  have hj3 : (j : Int) + 1 ≤ (c : Int) := by omega
  have hj0 : (0 : Int) ≤ (j : Int) := by omega
  clear hp hk0 hkn
  go_enter Try.func27, Try.ntmps27
  go_wp2_with fail
  rw [← HEQ.out]
  have q0 := S0.out.box.1
  refine (implIsBranch_if _ zs W0 true HR.out (by rw [HL.out]; exact hn) HW.out HP.out).mono ?_
  rintro e w1 ⟨rfl, hb⟩
  obtain ⟨l1, l2, l3, l4⟩ := S0.out.later hb
  have l0 := l1.1
  have B1 := Lib.hid (S0.out.below.trans (hb.mono S0.out.below.size))
  have BW := Lib.hid hb
  clear hb l1
  go_wp2_with fail
  have hlt : (zs.take (j + 1)).length = j + 1 := by rw [List.length_take, HL.out]; omega
  have HLT := Lib.hid hlt
  have R1 : Hid (ReadI w1 w1.heap.size (.slice A (j + 1) c) (zs.take (j + 1))) := Lib.hid (by
    have h1 := (HR.out.ri.below BW.out).more BW.out.size
    refine ⟨A, c, by rw [hlt], by rw [hlt]; exact h1.cut (by omega), HN.out, by rw [hlt]; omega, HF.out, hcm⟩)
  refine (clone_any _ (zs.take (j + 1)) w1 w1.heap.size R1.out (by rw [hlt]; omega) (Nat.le_refl _)).mono ?_
  rintro e w2 ⟨v2, rfl, ho2, hb2⟩
  obtain ⟨A2, c2, rfl⟩ := ho2.form hlt
  obtain ⟨g2, rfl, hg21, hg22, _, _⟩ := own_at ho2 hlt (show j < j + 1 by omega)
  have HZ2 : Hid (∀ z ∈ zs.take (j + 1), 1 ≤ z ∧ z ≤ 2000) := Lib.hid (fun z hz => HZ.out z (List.mem_of_mem_take hz))
  have O2 := Lib.hid ho2
  have B2 := Lib.hid hb2
  clear ho2 hb2
  go_wp2_with fail
  refine (divisors_any _ (zs.take (j + 1)) w2 w2.heap.size O2.out.reads (by rw [HLT.out]; omega) (Nat.le_refl _) HZ2.out).mono ?_
  rintro e w3 ⟨v3, rfl, hv3, ho3, hb3⟩
  rw [HLT.out] at hv3
  subst hv3
  obtain ⟨g3, e3, _, _, hc3, _⟩ := own_at ho3 (by rw [dvL_len, HLT.out]) (show j < j + 1 by omega)
  cases e3
  have hde : (dvL 0 (zs.take (j + 1)))[j]?.getD 0 = (dvL 0 zs)[j]?.getD 0 := by rw [dvL_take, List.getElem?_take, if_pos (by omega)]
  rw [hde] at hc3
  have HE2 : Hid (cutL zs j = (zs.take (j + 1)).map fun z => z.tdiv ((dvL 0 zs)[j]?.getD 0)) := Lib.hid rfl
  have hed : 1 ≤ (dvL 0 zs)[j]?.getD 0 ∧ (dvL 0 zs)[j]?.getD 0 ≤ 2000 := by
    have hl : j < (dvL 0 zs).length := by rw [dvL_len, HL.out]; exact hj
    have := dvL_pos HZ.out (dvL 0 zs)[j] (List.getElem_mem _)
    simpa [hl] using this
  generalize (dvL 0 zs)[j]?.getD 0 = d at *
  generalize hX : zs.take (j + 1) = X at *
  have O3 := Lib.hid (O2.out.kept (Kept.of_below hb3 (Nat.le_refl _)))
  have B3 := Lib.hid (B2.out.trans (hb3.mono B2.out.size))
  clear hde ho3 hb3 hlt
  have hj4 : (j : Int) < ((j + 1 : Nat) : Int) := by omega
  have hj5 : j < j + 1 := by omega
  have hj8 : j + 1 ≤ 1048576 := by omega
  generalize hm : j + 1 = m at *
  go_wp2_with fail
  go_loopw [36] (fun vi wr => ∃ i : Nat, i ≤ m ∧ vi = .int .i64 i ∧ Hid (OwnI wr w1.heap.size w2.heap.size (.slice (some ⟨g2, 0, none⟩) m c2) (mixL (fun z => z.tdiv d) X i)) ∧ Hid (Below w1.heap.size w1 wr)) (fun vi _ => m - (intOf vi).toNat)
  case atStart => exact ⟨0, by omega, rfl, Lib.hid (by rw [mix_zero]; exact O3.out), B3⟩
  case round =>
    obtain ⟨i, hi, rfl, ho, hb⟩ := hrel
    by_cases hlt : i < m
    · have hml : (mixL (fun z => z.tdiv d) X i).length = m := by rw [mix_len, HLT.out]
      obtain ⟨g4, e4, _, _, hc4, hf4⟩ := own_at ho.out hml hlt
      cases e4
      rw [mix_at _ _ (by rw [HLT.out]; exact hlt)] at hc4
      have hz1 := HZ2.out (X[i]?.getD 0) (by have := HLT.out; simp [show i < X.length by omega])
      have HN2 : Hid (OwnI (wr.setCell ⟨g2, i, none⟩ (.int .i64 ((X[i]?.getD 0).tdiv d))) w1.heap.size w2.heap.size (.slice (some ⟨g2, 0, none⟩) m c2) (mixL (fun z => z.tdiv d) X (i + 1))) := Lib.hid (by
        rw [← mix_set _ _ (by rw [HLT.out]; exact hlt)]; exact own_store ho.out hml _)
      have HB2 : Hid (Below w1.heap.size w1 (wr.setCell ⟨g2, i, none⟩ (.int .i64 ((X[i]?.getD 0).tdiv d)))) := Lib.hid (hb.out.setCell hg21 _)
      have htr := tdiv_range hz1 hed.1
      generalize X[i]?.getD 0 = z at *
      have hdz : (d == 0) = false := by simp; omega
      have hdz2 : ¬ d = 0 := by omega
      have p1 : IntKind.i64.wrap (z.tdiv d) = z.tdiv d := IntWalk.i64_in _ (by omega)
      clear hml
      go_wp2
      go_roundw
      case rel => exact ⟨i + 1, by omega, by go_num, HN2, HB2⟩
      case measure => simp [intOf]; omega
    · obtain rfl : i = m := by omega
      have BF := Lib.hid (BW.out.trans (hb.out.mono BW.out.size))
      obtain ⟨l1, l2, l3, l4⟩ := S0.out.later BF.out
      clear l1
      go_wp2_with fail
      have cr : (wr.setCell ⟨w.heap.size + 1, 0, none⟩ (.slice (some ⟨g2, 0, none⟩) i c2)).cell? ⟨w.heap.size + 1, 0, none⟩ = some (.slice (some ⟨g2, 0, none⟩) i c2) := by go_simp
      refine bodyPost_ret (v := .tuple #[.agg #[.slice (some ⟨g2, 0, none⟩) i c2], .int .i64 0]) (by simp [results, Try.results27, go_sem, cr]) rfl ?_
      have hw1 : w.heap.size + 1 < w1.heap.size := Nat.lt_of_lt_of_le S0.out.res.2 BW.out.size
      have hne2 : (Value.slice (some ⟨g2, 0, none⟩) i c2).ownBlock ≠ some (w.heap.size + 1) := by
        intro h
        have h2 : g2 = w.heap.size + 1 := by simpa [Value.ownBlock] using h
        omega
      refine ansR_end (by rw [E.out.1, HE2.out]; exact mix_all _ _ HLT.out) E.out.2.symm ((own_lessB ho.out B1.out.size).raise ho.out.2.2 (Nat.le_refl _)) hne2 l4 (S0.out.below.trans (BF.out.mono S0.out.below.size)) _
end Go.Proofs.Ytmpbigkaadmihaa
