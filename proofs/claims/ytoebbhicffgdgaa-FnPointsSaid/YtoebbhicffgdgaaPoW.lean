/- Orders and discrepancies: contracts of OrdersOf, DiscrepanciesOf, the model's and the program's. Conditions: stated at each theorem. -/
import Derived.Test.YtoebbhicffgdgaaPoI
namespace Go.Proofs.Ytoebbhicffgdgaa
open Go.ChangeShapes Go.WideShapes Go.ChangeAt Go.RowKit Go.Deep
set_option linter.unusedVariables false
set_option linter.unusedSimpArgs false

def orA (zs : List Int) (k : Int) : List Int := if ptC zs k = 0 then odL (mqL zs k.toNat) k.toNat (fun j => (mqL zs k.toNat)[j]?.getD 0) else []
def ddA (zs : List Int) (k : Int) : List Int := if ptC zs k = 0 then odL (mqL zs k.toNat) k.toNat (fun _ => 1) else []
theorem orA_yes {zs : List Int} {m : Nat} (h : ptC zs (m : Int) = 0) : orA zs (m : Int) = odL (mqL zs m) m (fun j => (mqL zs m)[j]?.getD 0) := by unfold orA; rw [if_pos h]; simp
theorem orA_no {zs : List Int} {k C : Int} (h : ptC zs k = C) (hC : C ≠ 0) : orA zs k = [] := by unfold orA; rw [if_neg (by omega)]
theorem ddA_yes {zs : List Int} {m : Nat} (h : ptC zs (m : Int) = 0) : ddA zs (m : Int) = odL (mqL zs m) m (fun _ => 1) := by unfold ddA; rw [if_pos h]; simp
theorem ddA_no {zs : List Int} {k C : Int} (h : ptC zs k = C) (hC : C ≠ 0) : ddA zs k = [] := by unfold ddA; rw [if_neg (by omega)]
theorem orA_len (zs : List Int) (k : Int) : (orA zs k).length ≤ 400 := by
  unfold orA
  split
  · rename_i h
    have := (pt_parts h).2
    rw [odL_len]; omega
  · simp
theorem ddA_len (zs : List Int) (k : Int) : (ddA zs k).length ≤ 400 := by
  unfold ddA
  split
  · rename_i h
    have := (pt_parts h).2
    rw [odL_len]; omega
  · simp

set_option maxRecDepth 100000 in
set_option maxHeartbeats 1000000 in
theorem specOrdersOf_any (v : Value) (zs : List Int) (k : Int) (w : World) (h : ReadI w w.heap.size v zs) (hn : zs.length ≤ 1048576) (hw : ∀ z ∈ zs, (Lit.int .i64 z).wf = true) (hk : (Lit.int .i64 k).wf = true) :
    Calls Try.prog 20 #[.agg #[v], .int .i64 k] w (AnsIC w (orA zs k) (ptC zs k)) := by
  obtain ⟨n, A, c, rfl, hr, HL, _, hnc, HF, hcm⟩ := h.split2
  obtain ⟨W0, HE⟩ : ∃ W, W = w.alloc (.cells #[.slice A n c] 26) := ⟨_, rfl⟩
  have hb0 : Below w.heap.size w W0 := by rw [HE]; exact below_box _ _
  have hq0 : BoxI W0 w.heap.size (.slice A n c) := by rw [HE]; exact BoxI.new _ _ _
  have H0 := Lib.hid ((h.below hb0).more hb0.size)
  have HNN := Lib.hid hn
  have HWW := Lib.hid hw
  have HEQ := Lib.hid HE
  clear h hr HE HF hn hw
  rcases pt_cases zs k with ⟨hp, hc⟩ | ⟨hp, hk2, hc⟩ | ⟨m, hp, rfl, hm1, hm2, hc⟩
  · have HC := Lib.hid hc
    clear hc hp hk
    go_enter Try.func20, Try.ntmps20
    go_wp2_with fail
    rw [← HEQ.out]
    refine (l06Range_if _ zs k 1 _ H0.out HNN.out HWW.out HC.out).mono ?_
    rintro e w1 ⟨rfl, hb1⟩
    go_wp2_with fail
    go_ret2
    exact AnsIC.empty (orA_no HC.out (by omega)).symm HC.out.symm (hb0.trans (hb1.mono hb0.size))
  · have HC := Lib.hid hc
    clear hc hp hk hk2
    go_enter Try.func20, Try.ntmps20
    go_wp2_with fail
    rw [← HEQ.out]
    refine (l06Range_if _ zs k 2 _ H0.out HNN.out HWW.out HC.out).mono ?_
    rintro e w1 ⟨rfl, hb1⟩
    go_wp2_with fail
    go_ret2
    exact AnsIC.empty (orA_no HC.out (by omega)).symm HC.out.symm (hb0.trans (hb1.mono hb0.size))
  · have HC := Lib.hid hc
    have HP := Lib.hid hp
    clear hc hp hk
    go_enter Try.func20, Try.ntmps20
    go_wp2_with fail
    rw [← HEQ.out]
    refine (l06Range_if _ zs (m : Int) 0 _ H0.out HNN.out HWW.out HC.out).mono ?_
    rintro e w1 ⟨rfl, hb1⟩
    have cb1 : w1.cell? ⟨w.heap.size, 0, none⟩ = some (.slice A n c) := by rw [hb1.cell (p := ⟨w.heap.size, 0, none⟩) hq0.2]; exact hq0.1
    have H1 := Lib.hid ((H0.out.below hb1).more hb1.size)
    have B1 := Lib.hid (hb0.trans (hb1.mono hb0.size))
    have BX : Hid (w.heap.size < w1.heap.size) := Lib.hid (Nat.lt_of_lt_of_le hq0.2 hb1.size)
    clear hb1 hb0 HEQ
    have HM := Lib.hid (mq_ok HP.out m)
    have HBD : Hid (∀ j, j < m → 1 ≤ oD (mqL zs m) m (fun j => (mqL zs m)[j]?.getD 0) j ∧ oD (mqL zs m) m (fun j => (mqL zs m)[j]?.getD 0) j ≤ 1638400) := Lib.hid (fun j hj => od_bound HM.out hm2 hj)
    have hbx := BX.out
    have hs1 := B1.out.size
    have H1D : Hid (ReadI w1.drew w1.drew.heap.size (.slice A n c) zs) := Lib.hid (H1.out.below (drewN_below w1 1))
    go_wp2_with fail
    refine wp_region_held_drew (S := fun w' => w'.cell? ⟨w.heap.size, 0, none⟩ = some (.slice A n c)) (by kernel_rfl) (cb1) (fun hHeld => ?_)
    refine takeY 0 _ (v := ?_) rfl rfl (by kernel_rfl) (by kernel_rfl) (by kernel_rfl) (fun _ _ _ h => h) (by kernel_rfl) ?_ (by assumption) ?_
    rotate_left 1
    · intro w hSw; (try dsimp only at hSw); go_simp; (try with_reducible rfl)
    try simp only [Act.put, List.setIfInBounds_toArray, List.set_cons_zero, List.set_cons_succ]
    refine takeY 1 _ (v := ?_) rfl rfl (by kernel_rfl) (by kernel_rfl) (by kernel_rfl) (fun _ _ _ h => h) (by kernel_rfl) ?_ (by assumption) ?_
    rotate_left 1
    · intro w hSw; (try dsimp only at hSw); go_simp; (try with_reducible rfl)
    try simp only [Act.put, List.setIfInBounds_toArray, List.set_cons_zero, List.set_cons_succ]
    refine takeY 3 _ (v := ?_) rfl rfl (by kernel_rfl) (by kernel_rfl) (by kernel_rfl) (fun _ _ _ h => h) (by kernel_rfl) ?_ (by assumption) ?_
    rotate_left 1
    · intro w hSw; (try dsimp only at hSw); go_simp; (try with_reducible rfl)
    try simp only [Act.put, List.setIfInBounds_toArray, List.set_cons_zero, List.set_cons_succ]
    refine takeY 4 _ (v := ?_) rfl rfl (by kernel_rfl) (by kernel_rfl) (by kernel_rfl) (fun _ _ _ h => h) (by kernel_rfl) ?_ (by assumption) ?_
    rotate_left 1
    · intro w hSw; (try dsimp only at hSw); go_simp; (try with_reducible rfl)
    try simp only [Act.put, List.setIfInBounds_toArray, List.set_cons_zero, List.set_cons_succ]
    refine wpAnyH_ready (rs := [2]) (by kernel_rfl) (by simp) ?_
    refine AllReadyH.cons rfl (fun K hK => ?_) AllReadyH.nil
    go_simp
    refine (l06Code_any _ zs m w1.drew H1D.out HNN.out HP.out hm1 hm2).mono ?_
    rintro e w2 ⟨A2, c2, rfl, ho2, hb2⟩
    have HR2 := Lib.hid ho2.reads
    have B2 : Hid (Below w.heap.size w w2) := Lib.hid ((B1.out.trans ((drewN_below w1 1).mono hs1)).trans (hb2.mono hs1))
    have hs2 := B2.out.size
    have H2 := Lib.hid ((H1D.out.below hb2).more hb2.size)
    have cb2 : w2.cell? ⟨w.heap.size, 0, none⟩ = some (.slice A n c) := by rw [hb2.cell (p := ⟨w.heap.size, 0, none⟩) hbx]; exact cb1
    have hbx2 : w.heap.size < w2.heap.size := Nat.lt_of_lt_of_le hbx hb2.size
    clear ho2 hb2
    refine hK.out _ _ cb2 (fun hHeld => ?_)
    clear hK K
    try simp only [Act.put, List.setIfInBounds_toArray, List.set_cons_zero, List.set_cons_succ]
    refine wpAnyH_ready (rs := [5]) (by kernel_rfl) (by simp) ?_
    refine AllReadyH.cons rfl (fun K hK => ?_) AllReadyH.nil
    go_simp
    refine (l06Sequence_any _ zs m w2 H2.out HNN.out HP.out hm2).mono ?_
    rintro e w3 ⟨A3, c3, rfl, ho3, hb3⟩
    have HR3 := Lib.hid ho3.reads
    have HRC := Lib.hid ((HR2.out.below hb3).more hb3.size)
    have B3 : Hid (Below w.heap.size w w3) := Lib.hid (B2.out.trans (hb3.mono hs2))
    have hs3 := B3.out.size
    have cb3 : w3.cell? ⟨w.heap.size, 0, none⟩ = some (.slice A n c) := by rw [hb3.cell (p := ⟨w.heap.size, 0, none⟩) hbx2]; exact cb2
    have hbx3 : w.heap.size < w3.heap.size := Nat.lt_of_lt_of_le hbx2 hb3.size
    clear ho3 hb3
    refine hK.out _ _ cb3 (fun hHeld => ?_)
    clear hK K
    try simp only [Act.put, List.setIfInBounds_toArray, List.set_cons_zero, List.set_cons_succ]
    refine wpAnyH_ready (rs := [6]) (by kernel_rfl) (by simp) ?_
    refine AllReadyH.cons rfl (fun K hK => ?_) AllReadyH.nil
    go_simp
    refine (l06Sums_any _ _ (mqL zs m) (mqL zs m) m (fun j => (mqL zs m)[j]?.getD 0) w3 HRC.out HR3.out (mq_len zs m) (fun _ _ => rfl) HM.out hm2 HM.out.rng HBD.out).mono ?_
    rintro e w4 ⟨A4, c4, rfl, ho4, hb4⟩
    have HO4 := Lib.hid (own_lessB ho4 (lo' := w.heap.size) hs3)
    have B4 : Hid (Below w.heap.size w w4) := Lib.hid (B3.out.trans (hb4.mono hs3))
    have cb4 : w4.cell? ⟨w.heap.size, 0, none⟩ = some (.slice A n c) := by rw [hb4.cell (p := ⟨w.heap.size, 0, none⟩) hbx3]; exact cb3
    clear ho4 hb4
    refine hK.out _ _ cb4 (fun hHeld => ?_)
    clear hK K
    try simp only [Act.put, List.setIfInBounds_toArray, List.set_cons_zero, List.set_cons_succ]
    refine takeY 7 _ (v := ?_) rfl rfl (by kernel_rfl) (by kernel_rfl) (by kernel_rfl) (fun _ _ _ h => h) (by kernel_rfl) ?_ (by assumption) ?_
    rotate_left 1
    · intro w hSw; (try dsimp only at hSw); go_simp; (try with_reducible rfl)
    try simp only [Act.put, List.setIfInBounds_toArray, List.set_cons_zero, List.set_cons_succ]
    refine takeY 8 _ (v := ?_) rfl rfl (by kernel_rfl) (by kernel_rfl) (by kernel_rfl) (fun _ _ _ h => h) (by kernel_rfl) ?_ (by assumption) ?_
    rotate_left 1
    · intro w hSw; (try dsimp only at hSw); go_simp; (try with_reducible rfl)
    try simp only [Act.put, List.setIfInBounds_toArray, List.set_cons_zero, List.set_cons_succ]
    refine wpAnyH_done (by kernel_rfl) ?_ _
    go_wp2_with fail
    go_ret2
    exact AnsIC.mk' (orA_yes HC.out).symm HC.out.symm HO4.out B4.out

set_option maxRecDepth 100000 in
set_option maxHeartbeats 1000000 in
theorem specDiscrepanciesOf_any (v : Value) (zs : List Int) (k : Int) (w : World) (h : ReadI w w.heap.size v zs) (hn : zs.length ≤ 1048576) (hw : ∀ z ∈ zs, (Lit.int .i64 z).wf = true) (hk : (Lit.int .i64 k).wf = true) :
    Calls Try.prog 47 #[.agg #[v], .int .i64 k] w (AnsIC w (ddA zs k) (ptC zs k)) := by
  obtain ⟨n, A, c, rfl, hr, HL, _, hnc, HF, hcm⟩ := h.split2
  obtain ⟨W0, HE⟩ : ∃ W, W = w.alloc (.cells #[.slice A n c] 26) := ⟨_, rfl⟩
  have hb0 : Below w.heap.size w W0 := by rw [HE]; exact below_box _ _
  have hq0 : BoxI W0 w.heap.size (.slice A n c) := by rw [HE]; exact BoxI.new _ _ _
  have H0 := Lib.hid ((h.below hb0).more hb0.size)
  have HNN := Lib.hid hn
  have HWW := Lib.hid hw
  have HEQ := Lib.hid HE
  clear h hr HE HF hn hw
  rcases pt_cases zs k with ⟨hp, hc⟩ | ⟨hp, hk2, hc⟩ | ⟨m, hp, rfl, hm1, hm2, hc⟩
  · have HC := Lib.hid hc
    clear hc hp hk
    go_enter Try.func47, Try.ntmps47
    go_wp2_with fail
    rw [← HEQ.out]
    refine (l06Range_if _ zs k 1 _ H0.out HNN.out HWW.out HC.out).mono ?_
    rintro e w1 ⟨rfl, hb1⟩
    go_wp2_with fail
    go_ret2
    exact AnsIC.empty (ddA_no HC.out (by omega)).symm HC.out.symm (hb0.trans (hb1.mono hb0.size))
  · have HC := Lib.hid hc
    clear hc hp hk hk2
    go_enter Try.func47, Try.ntmps47
    go_wp2_with fail
    rw [← HEQ.out]
    refine (l06Range_if _ zs k 2 _ H0.out HNN.out HWW.out HC.out).mono ?_
    rintro e w1 ⟨rfl, hb1⟩
    go_wp2_with fail
    go_ret2
    exact AnsIC.empty (ddA_no HC.out (by omega)).symm HC.out.symm (hb0.trans (hb1.mono hb0.size))
  · have HC := Lib.hid hc
    have HP := Lib.hid hp
    clear hc hp hk
    go_enter Try.func47, Try.ntmps47
    go_wp2_with fail
    rw [← HEQ.out]
    refine (l06Range_if _ zs (m : Int) 0 _ H0.out HNN.out HWW.out HC.out).mono ?_
    rintro e w1 ⟨rfl, hb1⟩
    have cb1 : w1.cell? ⟨w.heap.size, 0, none⟩ = some (.slice A n c) := by rw [hb1.cell (p := ⟨w.heap.size, 0, none⟩) hq0.2]; exact hq0.1
    have H1 := Lib.hid ((H0.out.below hb1).more hb1.size)
    have B1 := Lib.hid (hb0.trans (hb1.mono hb0.size))
    have BX : Hid (w.heap.size < w1.heap.size) := Lib.hid (Nat.lt_of_lt_of_le hq0.2 hb1.size)
    clear hb1 hb0 HEQ
    have HM := Lib.hid (mq_ok HP.out m)
    have HBD : Hid (∀ j, j < m → 1 ≤ oD (mqL zs m) m (fun _ => 1) j ∧ oD (mqL zs m) m (fun _ => 1) j ≤ 1638400) := Lib.hid (fun j hj => dd_bound HM.out hm2 hj)
    have hbx := BX.out
    go_wp2_with fail
    refine (l06Code_any _ zs m _ H1.out HNN.out HP.out hm1 hm2).mono ?_
    rintro e w2 ⟨A2, c2, rfl, ho2, hb2⟩
    have hs1 := B1.out.size
    have HR2 := Lib.hid ho2.reads
    have H2 := Lib.hid ((H1.out.below hb2).more hb2.size)
    have B2 := Lib.hid (B1.out.trans (hb2.mono hs1))
    have hs2 := B2.out.size
    have cb2 : w2.cell? ⟨w.heap.size, 0, none⟩ = some (.slice A n c) := by rw [hb2.cell (p := ⟨w.heap.size, 0, none⟩) hbx]; exact cb1
    clear ho2 hb2
    go_wp2_with fail
    refine (l06Ones_any m _ (by omega)).mono ?_
    rintro e w3 ⟨A3, c3, rfl, ho3, hb3⟩
    have HR3 := Lib.hid ho3.reads
    have HLO : Hid ((List.replicate m (1 : Int)).length = m) := Lib.hid (by simp)
    have HFO : Hid (∀ j, j < m → (List.replicate m (1 : Int))[j]?.getD 0 = 1) := Lib.hid (fun j hj => by simp [hj])
    have HF1 : Hid (∀ j, j < m → (1 : Int) ≤ 1 ∧ (1 : Int) ≤ 64) := Lib.hid (fun _ _ => by omega)
    have HRC := Lib.hid ((HR2.out.below hb3).more hb3.size)
    have B3 := Lib.hid (B2.out.trans (hb3.mono hs2))
    have hs3 := B3.out.size
    clear ho3 hb3
    go_wp2_with fail
    refine (l06Sums_any _ _ (mqL zs m) (List.replicate m 1) m (fun _ => 1) _ HRC.out HR3.out HLO.out HFO.out HM.out hm2 HF1.out HBD.out).mono ?_
    rintro e w4 ⟨A4, c4, rfl, ho4, hb4⟩
    have HO4 := Lib.hid (own_lessB ho4 (lo' := w.heap.size) hs3)
    have B4 := Lib.hid (B3.out.trans (hb4.mono hs3))
    clear ho4 hb4
    go_wp2_with fail
    have HNM : Hid (∀ j, j < (odL (mqL zs m) m (fun _ => 1)).length → (odL (mqL zs m) m (fun _ => 1))[j]?.getD 0 ≠ -1) := Lib.hid (fun j hj => by
      rw [odL_len] at hj
      rw [odL_at hj]
      have := HBD.out j hj
      omega)
    refine (has_no _ (odL (mqL zs m) m (fun _ => 1)) (-1) _ _ (by have := HO4.out.reads; exact this) (by rw [odL_len]; omega) HNM.out).mono ?_
    rintro e w' ⟨rfl, rfl⟩
    go_wp2_with fail
    go_ret2
    exact AnsIC.mk' (ddA_yes HC.out).symm HC.out.symm HO4.out B4.out

set_option maxRecDepth 100000 in
set_option maxHeartbeats 1000000 in
theorem implDiscrepanciesOf_any (v : Value) (zs : List Int) (k : Int) (w : World) (h : ReadI w w.heap.size v zs) (hn : zs.length ≤ 1048576) (hw : ∀ z ∈ zs, (Lit.int .i64 z).wf = true) (hk : (Lit.int .i64 k).wf = true) :
    Calls Try.prog 46 #[.agg #[v], .int .i64 k] w (AnsIC w (ddA zs k) (ptC zs k)) := by
  obtain ⟨n, A, c, rfl, hr, HL, _, hnc, HF, hcm⟩ := h.split2
  obtain ⟨W0, HE⟩ : ∃ W, W = w.alloc (.cells #[.slice A n c] 26) := ⟨_, rfl⟩
  have hb0 : Below w.heap.size w W0 := by rw [HE]; exact below_box _ _
  have hq0 : BoxI W0 w.heap.size (.slice A n c) := by rw [HE]; exact BoxI.new _ _ _
  have H0 := Lib.hid ((h.below hb0).more hb0.size)
  have HNN := Lib.hid hn
  have HWW := Lib.hid hw
  have HEQ := Lib.hid HE
  clear h hr HE HF hn hw
  have HKW := Lib.hid hk
  rcases pt_cases zs k with ⟨hp, hc⟩ | ⟨hp, hk2, hc⟩ | ⟨m, hp, rfl, hm1, hm2, hc⟩
  · have HC := Lib.hid hc
    clear hc hp hk
    go_enter Try.func46, Try.ntmps46
    go_wp2_with fail
    rw [← HEQ.out]
    refine (implProximatesOf_no _ zs k 1 _ H0.out HNN.out HWW.out HKW.out HC.out (by omega)).mono ?_
    rintro e w1 ⟨A1, c1, rfl, hb1⟩
    go_wp2_with fail
    go_ret2
    exact AnsIC.empty (ddA_no HC.out (by omega)).symm HC.out.symm (hb0.trans (hb1.mono hb0.size))
  · have HC := Lib.hid hc
    clear hc hp hk hk2
    go_enter Try.func46, Try.ntmps46
    go_wp2_with fail
    rw [← HEQ.out]
    refine (implProximatesOf_no _ zs k 2 _ H0.out HNN.out HWW.out HKW.out HC.out (by omega)).mono ?_
    rintro e w1 ⟨A1, c1, rfl, hb1⟩
    go_wp2_with fail
    go_ret2
    exact AnsIC.empty (ddA_no HC.out (by omega)).symm HC.out.symm (hb0.trans (hb1.mono hb0.size))
  · have HC := Lib.hid hc
    have HP := Lib.hid hp
    have HM := Lib.hid (mq_ok hp m)
    clear hc hp hk
    go_enter Try.func46, Try.ntmps46
    go_wp2_with fail
    rw [← HEQ.out]
    refine (implProximatesOf_yes _ zs m _ H0.out HNN.out HWW.out HKW.out HC.out).mono ?_
    rintro e w1 ⟨A1, c1, rfl, ho1, hb1⟩
    have hs0 := hb0.size
    have HO1 := Lib.hid ho1
    have B1 := Lib.hid (hb0.trans (hb1.mono hb0.size))
    clear hb1 hb0 HEQ ho1
    have HBD : Hid (∀ j, j < m → 1 ≤ oD (mqL zs m) m (fun _ => 1) j ∧ oD (mqL zs m) m (fun _ => 1) j ≤ 1638400) := Lib.hid (fun j hj => dd_bound HM.out hm2 hj)
    go_wp2_with fail
    refine (sumsDiscr_any _ (mqL zs m) m (fun _ => 1) _ HO1.out.reads HM.out hm1 hm2 (fun _ _ => by omega) HBD.out (fun _ _ => rfl)).mono ?_
    rintro e w2 ⟨rfl, ho2, hb2⟩
    have hs1 := B1.out.size
    have HO2 := Lib.hid (own_lessB ho2 (lo' := w.heap.size) hs1)
    have B2 := Lib.hid (B1.out.trans (hb2.mono hs1))
    have HRD := Lib.hid ho2.reads
    clear ho2 hb2
    go_wp2_with fail
    refine (max_any _ (odL (mqL zs m) m (fun _ => 1)) 1 1638400 _ _ HRD.out (by rw [odL_len]; omega) (by rw [odL_len]; omega) (fun j hj => by rw [odL_len] at hj; rw [odL_at hj]; exact HBD.out j hj) (by omega) (by omega)).mono ?_
    rintro e w' ⟨x, rfl, hx, rfl⟩
    have hbig : ¬ 1000000000000 < x := by omega
    go_wp2_with fail
    go_ret2
    exact AnsIC.mk' (ddA_yes HC.out).symm HC.out.symm HO2.out B2.out

set_option maxRecDepth 100000 in
set_option maxHeartbeats 1000000 in
theorem implOrdersOf_any (v : Value) (zs : List Int) (k : Int) (w : World) (h : ReadI w w.heap.size v zs) (hn : zs.length ≤ 1048576) (hw : ∀ z ∈ zs, (Lit.int .i64 z).wf = true) (hk : (Lit.int .i64 k).wf = true) :
    Calls Try.prog 19 #[.agg #[v], .int .i64 k] w (AnsIC w (orA zs k) (ptC zs k)) := by
  obtain ⟨n, A, c, rfl, hr, HL, _, hnc, HF, hcm⟩ := h.split2
  obtain ⟨W0, HE⟩ : ∃ W, W = w.alloc (.cells #[.slice A n c] 26) := ⟨_, rfl⟩
  have hb0 : Below w.heap.size w W0 := by rw [HE]; exact below_box _ _
  have hq0 : BoxI W0 w.heap.size (.slice A n c) := by rw [HE]; exact BoxI.new _ _ _
  have H0 := Lib.hid ((h.below hb0).more hb0.size)
  have HNN := Lib.hid hn
  have HWW := Lib.hid hw
  have HEQ := Lib.hid HE
  clear h hr HE HF hn hw
  have HKW := Lib.hid hk
  rcases pt_cases zs k with ⟨hp, hc⟩ | ⟨hp, hk2, hc⟩ | ⟨m, hp, rfl, hm1, hm2, hc⟩
  · have HC := Lib.hid hc
    clear hc hp hk
    go_enter Try.func19, Try.ntmps19
    go_wp2_with fail
    rw [← HEQ.out]
    refine (implMultiplicitiesAt_no _ zs k 1 _ H0.out HNN.out HWW.out HKW.out HC.out (by omega)).mono ?_
    rintro e w1 ⟨v1, rfl, ho1, hb1⟩
    obtain ⟨A1, c1, rfl⟩ := own_form ho1.1
    have hsz1 := hb1.size
    have hsz0 := hb0.size
    go_wp2_with fail
    go_ret2
    exact AnsIC.empty (orA_no HC.out (by omega)).symm HC.out.symm ((hb0.trans (hb1.mono hb0.size)).alloc (by omega) _)
  · have HC := Lib.hid hc
    clear hc hp hk hk2
    go_enter Try.func19, Try.ntmps19
    go_wp2_with fail
    rw [← HEQ.out]
    refine (implMultiplicitiesAt_no _ zs k 2 _ H0.out HNN.out HWW.out HKW.out HC.out (by omega)).mono ?_
    rintro e w1 ⟨v1, rfl, ho1, hb1⟩
    obtain ⟨A1, c1, rfl⟩ := own_form ho1.1
    have hsz1 := hb1.size
    have hsz0 := hb0.size
    go_wp2_with fail
    go_ret2
    exact AnsIC.empty (orA_no HC.out (by omega)).symm HC.out.symm ((hb0.trans (hb1.mono hb0.size)).alloc (by omega) _)
  · have HC := Lib.hid hc
    have HP := Lib.hid hp
    have HM := Lib.hid (mq_ok hp m)
    clear hc hp hk
    go_enter Try.func19, Try.ntmps19
    go_wp2_with fail
    rw [← HEQ.out]
    refine (implMultiplicitiesAt_yes _ zs m _ H0.out HNN.out HWW.out HKW.out HC.out).mono ?_
    rintro e w1 ⟨A1, c1, rfl, ho1, hb1⟩
    have hs0 := hb0.size
    have HO1 := Lib.hid ho1
    have B1 := Lib.hid (hb0.trans (hb1.mono hb0.size))
    clear hb1 hb0 HEQ ho1
    have HBD : Hid (∀ j, j < m → 1 ≤ oD (mqL zs m) m (fun j => (mqL zs m)[j]?.getD 0) j ∧ oD (mqL zs m) m (fun j => (mqL zs m)[j]?.getD 0) j ≤ 1638400) := Lib.hid (fun j hj => od_bound HM.out hm2 hj)
    have hs1 := B1.out.size
    have hmf : ∀ (fn : Fn) (first cap : Array Value) (w : World), (Instr.makeFunc fn first cap).run Try.prog w = .ok (.func fn first cap) w := fun _ _ _ _ => rfl
    obtain ⟨ga, rfl, hga1, hga2, _, _⟩ := own_at HO1.out (mq_len zs m) (show 0 < m by omega)
    have HVC : Hid (∀ j, j < m → w1.cell? ⟨ga, 0 + j, none⟩ = some (.int .i64 ((mqL zs m)[j]?.getD 0))) := Lib.hid fun j hj => by
      obtain ⟨g', e1, _, _, h5, _⟩ := own_at HO1.out (mq_len zs m) hj
      cases e1
      rw [Nat.zero_add]; exact h5
    obtain ⟨W2, HE2⟩ : ∃ W, W = w1.alloc (.cells #[.slice (some ⟨ga, 0, none⟩) m c1] 24) := ⟨_, rfl⟩
    have hb2 : Below w1.heap.size w1 W2 := by rw [HE2]; exact below_box2 _ _
    have hcb2 : W2.cell? ⟨w1.heap.size, 0, none⟩ = some (.slice (some ⟨ga, 0, none⟩) m c1) := by rw [HE2]; go_simp
    have hsz2 : W2.heap.size = w1.heap.size + 1 := by rw [HE2]; simp
    have HR2 : Hid (ReadI W2 W2.heap.size (.slice (some ⟨ga, 0, none⟩) m c1) (mqL zs m)) := Lib.hid ((HO1.out.reads.below hb2).more hb2.size)
    have B2 : Hid (Below w.heap.size w W2) := Lib.hid (B1.out.trans (hb2.mono hs1))
    have HEQ2 := Lib.hid HE2
    have HB2 := Lib.hid hb2
    have HCB2 := Lib.hid hcb2
    clear HE2 hb2
    go_wp2_with fail
    rw [← HEQ2.out]
    refine (proximatesAt_any _ (mqL zs m) m _ HR2.out HM.out hm2).mono ?_
    rintro e w3 ⟨A3, c3, rfl, ho3, hb3⟩
    have HQ3 := Lib.hid ho3.reads
    have B3 : Hid (Below w.heap.size w w3) := Lib.hid (B2.out.trans (hb3.mono B2.out.size))
    have hs3 := B3.out.size
    have HB23 : Hid (Below w1.heap.size w1 w3) := Lib.hid (HB2.out.trans (hb3.mono HB2.out.size))
    have hcb3 : w3.cell? ⟨w1.heap.size, 0, none⟩ = some (.slice (some ⟨ga, 0, none⟩) m c1) := by rw [hb3.cell (p := ⟨w1.heap.size, 0, none⟩) (by rw [hsz2]; exact Nat.lt_succ_self _)]; exact HCB2.out
    have hsz3 : w1.heap.size + 1 ≤ w3.heap.size := by rw [← hsz2]; exact hb3.size
    have HCB3 := Lib.hid hcb3
    have HVC3 : Hid (∀ j, j < m → w3.cell? ⟨ga, 0 + j, none⟩ = some (.int .i64 ((mqL zs m)[j]?.getD 0))) := Lib.hid fun j hj => by rw [HB23.out.cell (p := ⟨ga, 0 + j, none⟩) hga2]; exact HVC.out j hj
    clear ho3 hb3 hsz2 hcb2
    go_wp2_with fail
    refine (sumsOrders_any _ (mqL zs m) m (fun j => (mqL zs m)[j]?.getD 0) w3 HQ3.out HM.out hm1 hm2 HM.out.rng HBD.out w1.heap.size ga 0 c1 (by omega) (by omega) HCB3.out HVC3.out).mono ?_
    rintro e w4 ⟨rfl, ho4, hb4⟩
    have HO4 := Lib.hid (own_lessB ho4 (lo' := w.heap.size) hs3)
    have B4 : Hid (Below w.heap.size w w4) := Lib.hid (B3.out.trans (hb4.mono hs3))
    clear ho4 hb4
    go_wp2_with fail
    go_ret2
    exact AnsIC.mk' (orA_yes HC.out).symm HC.out.symm HO4.out B4.out
end Go.Proofs.Ytoebbhicffgdgaa
