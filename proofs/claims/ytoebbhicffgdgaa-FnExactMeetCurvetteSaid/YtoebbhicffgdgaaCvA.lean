/- The curvette at a point: contracts of CurvetteAt, the program's and the model's. Conditions: stated at each theorem. -/
import Derived.Test.YtoebbhicffgdgaaCvW
namespace Go.Proofs.Ytoebbhicffgdgaa
open Go.ChangeShapes Go.WideShapes Go.ChangeAt Go.RowKit Go.Deep
set_option linter.unusedVariables false
set_option linter.unusedSimpArgs false

/-- The number behind, as the program has it. -/
def nx (j : Int) : Int := IntKind.i64.wrap (j + 1)
theorem nx_cases {j : Int} (h : (Lit.int .i64 j).wf = true) : (Lit.int .i64 (nx j)).wf = true ∧ (nx j = j + 1 ∨ nx j < 0) := by
  have h2 := bounds_i64 h
  unfold nx
  by_cases e : j < 9223372036854775807
  · rw [IntWalk.i64_in _ (by omega)]
    exact ⟨i64_wf (by omega) (by omega), .inl rfl⟩
  · obtain rfl : j = 9223372036854775807 := by omega
    have : IntKind.i64.wrap (9223372036854775807 + 1) = -9223372036854775808 := by decide
    rw [this]
    exact ⟨by decide, .inr (by decide)⟩
def caA (zs : List Int) (j : Int) : List Int := if ptC zs (nx j) = 0 then ccA (ptK zs (nx j)) else []
def caC (zs : List Int) (j : Int) : Int := if ptC zs (nx j) = 0 then ccC (ptK zs (nx j)) else ptC zs (nx j)
theorem ca_no {zs : List Int} {j C : Int} (h : ptC zs (nx j) = C) (hC : C ≠ 0) : caA zs j = [] ∧ caC zs j = C := by
  unfold caA caC; rw [h, if_neg hC, if_neg hC]; exact ⟨rfl, rfl⟩
theorem ca_yes {zs : List Int} {j : Int} {m : Nat} (h : ptC zs (nx j) = 0) (hm : nx j = (m : Int)) : caA zs j = ccA (cdL (mqL zs m) m) ∧ caC zs j = ccC (cdL (mqL zs m) m) := by
  unfold caA caC
  rw [h, if_pos rfl, if_pos rfl, hm, ptK_yes (by rw [← hm]; exact h)]
  exact ⟨rfl, rfl⟩
theorem caA_len (zs : List Int) (j : Int) : (caA zs j).length ≤ 2001 := by
  unfold caA; split
  · exact ccA_len _
  · simp
theorem cdL_wf {m : List Int} {n : Nat} (h : MQ m n) (hn : n ≤ 400) : ∀ z ∈ cdL m n, (Lit.int .i64 z).wf = true := fun z hz => by
  unfold cdL at hz
  obtain ⟨a, ha, rfl⟩ := List.mem_map.1 hz
  have h1 := List.mem_range.1 ha
  have := (prx_near h (j := a + 1) (by omega)).2
  exact i64_wf (by omega) (by omega)

set_option maxRecDepth 100000 in
set_option maxHeartbeats 1000000 in
theorem implCurvetteAt_any (v : Value) (zs : List Int) (j : Int) (w : World) (h : ReadI w w.heap.size v zs) (hn : zs.length ≤ 1048576) (hw : ∀ z ∈ zs, (Lit.int .i64 z).wf = true) (hj : (Lit.int .i64 j).wf = true) :
    Calls Try.prog 33 #[.agg #[v], .int .i64 j] w (AnsRC w (caA zs j) (caC zs j)) := by
  obtain ⟨n, A, c, rfl, hr, HL, HN, hnc, HF, hcm⟩ := h.split2
  obtain ⟨Wb, HEb⟩ : ∃ W, W = w.alloc (.cells #[.slice A n c] 26) := ⟨_, rfl⟩
  have hbb : Below w.heap.size w Wb := by rw [HEb]; exact below_box _ _
  have hqb : BoxI Wb w.heap.size (.slice A n c) := by rw [HEb]; exact BoxI.new _ _ _
  have hsb : Wb.heap.size = w.heap.size + 1 := by rw [HEb]; simp
  obtain ⟨W0, HE⟩ : ∃ W, W = Wb.alloc (.cells #[.slice none 0 0] 26) := ⟨_, rfl⟩
  have hS0 : Start1 Wb W0 := by rw [HE]; exact Start1.new _
  have hb0 := hS0.below
  have HB0 := Lib.hid (hbb.trans (hb0.mono (by omega)))
  have H0 := Lib.hid ((h.below HB0.out).more HB0.out.size)
  have S0 := Lib.hid hS0
  have HEQ := Lib.hid HE
  have HEQb := Lib.hid HEb
  have HNN := Lib.hid hn
  have HWW := Lib.hid hw
  have cb0 : W0.cell? ⟨w.heap.size, 0, none⟩ = some (.slice A n c) := by rw [hb0.cell (p := ⟨w.heap.size, 0, none⟩) hqb.2]; exact hqb.1
  have hs0 := hS0.size
  rw [hsb] at hs0
  obtain ⟨hkw, hkc⟩ := nx_cases hj
  have HCA1 := Lib.hid (fun C (hC : C ≠ 0) (h : ptC zs (nx j) = C) => ca_no h hC)
  have HCA2 := Lib.hid (fun (m : Nat) (h : ptC zs (nx j) = 0) (hm : nx j = (m : Int)) => ca_yes h hm)
  obtain ⟨k, hk⟩ : ∃ k, nx j = k := ⟨_, rfl⟩
  have hnx : IntKind.i64.wrap (j + 1) = k := hk
  rw [hk] at hkw hkc HCA1 HCA2
  have HKW := Lib.hid hkw
  clear h hr HE HEb HF hn hw hbb hqb hb0 hS0 hk hkw hj
  rcases pt_cases zs k with ⟨hp, hc⟩ | ⟨hp, hk2, hc⟩ | ⟨m, hp, rfl, hm1, hm2, hc⟩
  · have E := Lib.hid (HCA1.out 1 (by omega) hc)
    have HC := Lib.hid hc
    clear hc hp hkc
    go_enter Try.func33, Try.ntmps33
    go_wp2_with fail
    rw [← HEQb.out, ← HEQ.out]
    refine (implCodeOf_any _ zs k W0 H0.out HNN.out HWW.out HKW.out).mono ?_
    rintro e w1 ⟨v2, rfl, ho2, hb1⟩
    rw [HC.out]
    obtain ⟨A2, c2, rfl⟩ := own_form ho2.1
    clear ho2
    obtain ⟨l2, l3, l4⟩ := S0.out.later hb1
    rw [hsb] at l2 l3
    have B1 := Lib.hid (HB0.out.trans (hb1.mono (by omega)))
    clear hb1 cb0
    go_wp2_with fail
    have cr : (w1.setCell ⟨w.heap.size + 1, 0, none⟩ (.slice none 0 0)).cell? ⟨w.heap.size + 1, 0, none⟩ = some (.slice none 0 0) := by go_simp
    refine bodyPost_ret (v := .tuple #[.agg #[.slice none 0 0], .int .i64 1]) (by simp [results, Try.results33, go_sem, cr]) rfl ?_
    exact ansR_endG _ (by omega) E.out.1.symm E.out.2.symm (OwnI.nil _ _) (by intro h; cases h) B1.out _
  · have E := Lib.hid (HCA1.out 2 (by omega) hc)
    have HC := Lib.hid hc
    clear hc hp hkc hk2
    go_enter Try.func33, Try.ntmps33
    go_wp2_with fail
    rw [← HEQb.out, ← HEQ.out]
    refine (implCodeOf_any _ zs k W0 H0.out HNN.out HWW.out HKW.out).mono ?_
    rintro e w1 ⟨v2, rfl, ho2, hb1⟩
    rw [HC.out]
    obtain ⟨A2, c2, rfl⟩ := own_form ho2.1
    clear ho2
    obtain ⟨l2, l3, l4⟩ := S0.out.later hb1
    rw [hsb] at l2 l3
    have B1 := Lib.hid (HB0.out.trans (hb1.mono (by omega)))
    clear hb1 cb0
    go_wp2_with fail
    have cr : (w1.setCell ⟨w.heap.size + 1, 0, none⟩ (.slice none 0 0)).cell? ⟨w.heap.size + 1, 0, none⟩ = some (.slice none 0 0) := by go_simp
    refine bodyPost_ret (v := .tuple #[.agg #[.slice none 0 0], .int .i64 2]) (by simp [results, Try.results33, go_sem, cr]) rfl ?_
    exact ansR_endG _ (by omega) E.out.1.symm E.out.2.symm (OwnI.nil _ _) (by intro h; cases h) B1.out _
  · have E := Lib.hid (HCA2.out m hc rfl)
    have HC := Lib.hid hc
    have HM := Lib.hid (mq_ok hp m)
    have HCW := Lib.hid (cdL_wf (mq_ok hp m) hm2)
    have HCL : Hid ((cdL (mqL zs m) m).length ≤ 1048576) := Lib.hid (by rw [cdL_len]; omega)
    clear hc hp hkc
    go_enter Try.func33, Try.ntmps33
    go_wp2_with fail
    rw [← HEQb.out, ← HEQ.out]
    refine (implCodeOf_any _ zs (m : Int) W0 H0.out HNN.out HWW.out HKW.out).mono ?_
    rintro e w1 ⟨v2, rfl, ho2, hb1⟩
    rw [HC.out]
    rw [ptK_yes HC.out] at ho2
    obtain ⟨A2, c2, rfl⟩ := own_form ho2.1
    have HR2 := Lib.hid ho2.reads
    have HB1 := Lib.hid hb1
    have hs1 := hb1.size
    clear ho2 hb1 cb0
    go_wp2_with fail
    refine (implCurvetteOfCode_any _ (cdL (mqL zs m) m) w1 HR2.out HCL.out HCW.out).mono ?_
    rintro e w3 ⟨vb, rfl, hob, hb3⟩
    obtain ⟨X, hX⟩ : ∃ X, ccA (cdL (mqL zs m) m) = X := ⟨_, rfl⟩
    obtain ⟨D, hD⟩ : ∃ D, ccC (cdL (mqL zs m) m) = D := ⟨_, rfl⟩
    rw [hX] at hob E
    rw [hD] at E ⊢
    obtain ⟨Ab, cb, rfl⟩ := own_form hob.1
    have HB3 := Lib.hid (HB1.out.trans (hb3.mono HB1.out.size))
    obtain ⟨l2, l3, l4⟩ := S0.out.later HB3.out
    rw [hsb] at l2 l3
    have HNE : Hid ((Value.slice Ab X.length cb).ownBlock ≠ some (w.heap.size + 1)) := Lib.hid (fun h5 => by
      have := (hob.1 : Own w3 w1.heap.size _ _ _).lt (w.heap.size + 1) h5
      omega)
    have O3 := Lib.hid hob
    have B3 := Lib.hid (HB0.out.trans (HB3.out.mono (by omega)))
    clear hob hb3 hX hD
    go_wp2_with fail
    have cr : (w3.setCell ⟨w.heap.size + 1, 0, none⟩ (.slice Ab X.length cb)).cell? ⟨w.heap.size + 1, 0, none⟩ = some (.slice Ab X.length cb) := by go_simp
    refine bodyPost_ret (v := .tuple #[.agg #[.slice Ab X.length cb], .int .i64 D]) (by simp [results, Try.results33, go_sem, cr]) rfl ?_
    exact ansR_endG _ (by omega) E.out.1.symm E.out.2.symm (own_lessB O3.out (by omega)) HNE.out B3.out _

set_option maxRecDepth 100000 in
set_option maxHeartbeats 1000000 in
theorem specCurvetteAt_any (v : Value) (zs : List Int) (j : Int) (w : World) (h : ReadI w w.heap.size v zs) (hn : zs.length ≤ 1048576) (hw : ∀ z ∈ zs, (Lit.int .i64 z).wf = true) (hj : (Lit.int .i64 j).wf = true) :
    Calls Try.prog 34 #[.agg #[v], .int .i64 j] w (AnsRC w (caA zs j) (caC zs j)) := by
  obtain ⟨n, A, c, rfl, hr, HL, HN, hnc, HF, hcm⟩ := h.split2
  obtain ⟨Wb, HEb⟩ : ∃ W, W = w.alloc (.cells #[.slice A n c] 26) := ⟨_, rfl⟩
  have hbb : Below w.heap.size w Wb := by rw [HEb]; exact below_box _ _
  have hqb : BoxI Wb w.heap.size (.slice A n c) := by rw [HEb]; exact BoxI.new _ _ _
  have hsb : Wb.heap.size = w.heap.size + 1 := by rw [HEb]; simp
  obtain ⟨W0, HE⟩ : ∃ W, W = Wb.alloc (.cells #[.slice none 0 0] 26) := ⟨_, rfl⟩
  have hS0 : Start1 Wb W0 := by rw [HE]; exact Start1.new _
  have hb0 := hS0.below
  have HB0 := Lib.hid (hbb.trans (hb0.mono (by omega)))
  have H0 := Lib.hid ((h.below HB0.out).more HB0.out.size)
  have S0 := Lib.hid hS0
  have HEQ := Lib.hid HE
  have HEQb := Lib.hid HEb
  have HNN := Lib.hid hn
  have HWW := Lib.hid hw
  have cb0 : W0.cell? ⟨w.heap.size, 0, none⟩ = some (.slice A n c) := by rw [hb0.cell (p := ⟨w.heap.size, 0, none⟩) hqb.2]; exact hqb.1
  have hs0 := hS0.size
  rw [hsb] at hs0
  obtain ⟨hkw, hkc⟩ := nx_cases hj
  have HCA1 := Lib.hid (fun C (hC : C ≠ 0) (h : ptC zs (nx j) = C) => ca_no h hC)
  have HCA2 := Lib.hid (fun (m : Nat) (h : ptC zs (nx j) = 0) (hm : nx j = (m : Int)) => ca_yes h hm)
  obtain ⟨k, hk⟩ : ∃ k, nx j = k := ⟨_, rfl⟩
  have hnx : IntKind.i64.wrap (j + 1) = k := hk
  rw [hk] at hkw hkc HCA1 HCA2
  have HKW := Lib.hid hkw
  clear h hr HE HEb HF hn hw hbb hqb hb0 hS0 hk hkw hj
  rcases pt_cases zs k with ⟨hp, hc⟩ | ⟨hp, hk2, hc⟩ | ⟨m, hp, rfl, hm1, hm2, hc⟩
  · have E := Lib.hid (HCA1.out 1 (by omega) hc)
    have HC := Lib.hid hc
    clear hc hp hkc
    go_enter Try.func34, Try.ntmps34
    go_wp2_with fail
    rw [← HEQb.out, ← HEQ.out]
    refine (l06Range_if _ zs k 1 W0 H0.out HNN.out HWW.out HC.out).mono ?_
    rintro e w1 ⟨rfl, hb1⟩
    obtain ⟨l2, l3, l4⟩ := S0.out.later hb1
    rw [hsb] at l2 l3
    have B1 := Lib.hid (HB0.out.trans (hb1.mono (by omega)))
    clear hb1 cb0
    go_wp2_with fail
    have cr : (w1.setCell ⟨w.heap.size + 1, 0, none⟩ (.slice none 0 0)).cell? ⟨w.heap.size + 1, 0, none⟩ = some (.slice none 0 0) := by go_simp
    refine bodyPost_ret (v := .tuple #[.agg #[.slice none 0 0], .int .i64 1]) (by simp [results, Try.results34, go_sem, cr]) rfl ?_
    exact ansR_endG _ (by omega) E.out.1.symm E.out.2.symm (OwnI.nil _ _) (by intro h; cases h) B1.out _
  · have E := Lib.hid (HCA1.out 2 (by omega) hc)
    have HC := Lib.hid hc
    clear hc hp hkc hk2
    go_enter Try.func34, Try.ntmps34
    go_wp2_with fail
    rw [← HEQb.out, ← HEQ.out]
    refine (l06Range_if _ zs k 2 W0 H0.out HNN.out HWW.out HC.out).mono ?_
    rintro e w1 ⟨rfl, hb1⟩
    obtain ⟨l2, l3, l4⟩ := S0.out.later hb1
    rw [hsb] at l2 l3
    have B1 := Lib.hid (HB0.out.trans (hb1.mono (by omega)))
    clear hb1 cb0
    go_wp2_with fail
    have cr : (w1.setCell ⟨w.heap.size + 1, 0, none⟩ (.slice none 0 0)).cell? ⟨w.heap.size + 1, 0, none⟩ = some (.slice none 0 0) := by go_simp
    refine bodyPost_ret (v := .tuple #[.agg #[.slice none 0 0], .int .i64 2]) (by simp [results, Try.results34, go_sem, cr]) rfl ?_
    exact ansR_endG _ (by omega) E.out.1.symm E.out.2.symm (OwnI.nil _ _) (by intro h; cases h) B1.out _
  · have E := Lib.hid (HCA2.out m hc rfl)
    have HC := Lib.hid hc
    have HP := Lib.hid hp
    have HM := Lib.hid (mq_ok hp m)
    have HCW := Lib.hid (cdL_wf (mq_ok hp m) hm2)
    have HCL : Hid ((cdL (mqL zs m) m).length ≤ 1048576) := Lib.hid (by rw [cdL_len]; omega)
    have hj0 : ¬ j < 0 := by omega
    clear hc hp hkc
    go_enter Try.func34, Try.ntmps34
    go_wp2_with fail
    rw [← HEQb.out, ← HEQ.out]
    refine (l06Range_if _ zs (m : Int) 0 W0 H0.out HNN.out HWW.out HC.out).mono ?_
    rintro e w1 ⟨rfl, hb1⟩
    have cb1 : w1.cell? ⟨w.heap.size, 0, none⟩ = some (.slice A n c) := by rw [hb1.cell (p := ⟨w.heap.size, 0, none⟩) (by rw [hs0]; show w.heap.size < w.heap.size + 1 + 1; omega)]; exact cb0
    have H1 := Lib.hid ((H0.out.below hb1).more hb1.size)
    have HB1 := Lib.hid hb1
    have hs1 := hb1.size
    clear hb1 cb0
    go_wp2_with fail
    refine (l06Code_any _ zs m w1 H1.out HNN.out HP.out hm1 hm2).mono ?_
    rintro e w2 ⟨A2, c2, rfl, ho2, hb2⟩
    have HR2 := Lib.hid ho2.reads
    have HB2 := Lib.hid (HB1.out.trans (hb2.mono hs1))
    have hs2 := hb2.size
    clear ho2 hb2 cb1
    go_wp2_with fail
    refine (specCurvetteOfCode_any _ (cdL (mqL zs m) m) w2 HR2.out HCL.out HCW.out).mono ?_
    rintro e w3 ⟨vb, rfl, hob, hb3⟩
    obtain ⟨X, hX⟩ : ∃ X, ccA (cdL (mqL zs m) m) = X := ⟨_, rfl⟩
    obtain ⟨D, hD⟩ : ∃ D, ccC (cdL (mqL zs m) m) = D := ⟨_, rfl⟩
    rw [hX] at hob E
    rw [hD] at E ⊢
    obtain ⟨Ab, cb, rfl⟩ := own_form hob.1
    have hs3 := hb3.size
    have HB3 := HB2.out.trans (hb3.mono HB2.out.size)
    obtain ⟨W4, HE4⟩ : ∃ W, W = w3.alloc (.cells #[.slice Ab X.length cb] 26) := ⟨_, rfl⟩
    have hb4 : Below w3.heap.size w3 W4 := by rw [HE4]; exact below_box _ _
    have hq4 : BoxI W4 w3.heap.size (.slice Ab X.length cb) := by rw [HE4]; exact BoxI.new _ _ _
    have hsz4 : W4.heap.size = w3.heap.size + 1 := by rw [HE4]; simp
    have HE4' := Lib.hid HE4
    have hs30 := HB3.size
    have HB4 := Lib.hid (HB3.trans (hb4.mono hs30))
    have hq40 := hq4.1
    have hlt4 := hq4.2
    obtain ⟨l2, l3, l4⟩ := S0.out.later HB4.out
    rw [hsb] at l2 l3
    have O4 := Lib.hid (hob.kept (Kept.of_below hb4 (Nat.le_refl _)))
    have HNE : Hid ((Value.slice Ab X.length cb).ownBlock ≠ some (w.heap.size + 1)) := Lib.hid (fun h5 => by
      have := (hob.1 : Own w3 w2.heap.size _ _ _).lt (w.heap.size + 1) h5
      omega)
    have hs40 := HB4.out.size
    have B4 := Lib.hid (HB0.out.trans (HB4.out.mono (by omega)))
    have hne5 : w3.heap.size ≠ w.heap.size + 1 := by omega
    have hne6 : w.heap.size + 1 ≠ w3.heap.size := by omega
    clear hob hb3 hX hD hb4 hq4 HB3
    rw [HE4'.out] at l2 l3 hq40
    clear HE4
    go_wp2_with fail
    rw [← HE4'.out]
    have cr : (W4.setCell ⟨w.heap.size + 1, 0, none⟩ (.slice Ab X.length cb)).cell? ⟨w.heap.size + 1, 0, none⟩ = some (.slice Ab X.length cb) := by rw [HE4'.out]; go_simp
    refine bodyPost_ret (v := .tuple #[.agg #[.slice Ab X.length cb], .int .i64 D]) (by simp [results, Try.results34, go_sem, cr]) rfl ?_
    exact ansR_endG _ (by omega) E.out.1.symm E.out.2.symm ((own_lessB O4.out (by omega)).raise (by omega) (Nat.le_refl _)) HNE.out B4.out _
end Go.Proofs.Ytoebbhicffgdgaa
