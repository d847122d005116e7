/- Long sequences and numbers of points, the model's and the program's: contracts. Conditions: stated at each theorem. -/
import Derived.Test.YtncgkoanckefmaaSqG
namespace Go.Proofs.Ytncgkoanckefmaa
open Go.ChangeShapes Go.WideShapes Go.ChangeAt Go.RowKit Go.Deep
set_option linter.unusedVariables false
set_option linter.unusedSimpArgs false

set_option maxRecDepth 100000 in
set_option maxHeartbeats 1000000 in
theorem specLongSequence_any (v : Value) (zs : List Int) (m : Int) (w : World) (h : ReadI w w.heap.size v zs) (hn : zs.length ≤ 1048576) (hw : ∀ z ∈ zs, (Lit.int .i64 z).wf = true) (hwm : (Lit.int .i64 m).wf = true) :
    Calls Try.prog 43 #[.agg #[v], .int .i64 m] w (AnsIC w (lqA zs m) (lqC zs m)) := by
  obtain ⟨n, A, c, rfl, hr, HL, _, hnc, HF, hcm⟩ := h.split2
  obtain ⟨W0, HE⟩ : ∃ W, W = w.alloc (.cells #[.slice A n c] 28) := ⟨_, rfl⟩
  have hb0 : Below w.heap.size w W0 := by rw [HE]; exact below_box _ _
  have hq0 : BoxI W0 w.heap.size (.slice A n c) := by rw [HE]; exact BoxI.new _ _ _
  have H0 := Lib.hid ((h.below hb0).more hb0.size)
  have HNN := Lib.hid hn
  have HWW := Lib.hid hw
  have HEQ := Lib.hid HE
  clear h hr HE HF hn hw
  by_cases h0 : lqC zs m = 0
  · have hp : brB zs = true := by
      rcases bool_fs (brB zs) with hp | hp
      · rw [(lq_no hp).1] at h0; cases h0
      · exact hp
    have hm : 0 ≤ m ∧ m ≤ 400 := by
      by_cases hm : 0 ≤ m ∧ m ≤ 400
      · exact hm
      · rw [(lq_out hp hm).1] at h0; cases h0
    obtain ⟨k, rfl⟩ : ∃ k : Nat, m = (k : Int) := ⟨m.toNat, by omega⟩
    have e1 : Hid (lqA zs (k : Int) = seqL zs ++ List.replicate k 1) := Lib.hid (by rw [lqA, if_pos h0, Int.toNat_natCast])
    have HP := Lib.hid hp
    have H00 := Lib.hid h0
    clear h0 hp
    go_enter Try.func43, Try.ntmps43
    go_wp2_with fail
    rw [← HEQ.out]
    refine (l04Long_any _ zs (k : Int) _ H0.out HNN.out HWW.out).mono ?_
    rintro e w1 ⟨rfl, hb1⟩
    have cb1 : w1.cell? ⟨w.heap.size, 0, none⟩ = some (.slice A n c) := by rw [hb1.cell (p := ⟨w.heap.size, 0, none⟩) hq0.2]; exact hq0.1
    have H1 := Lib.hid ((H0.out.below hb1).more hb1.size)
    have B1 := Lib.hid (hb0.trans (hb1.mono hb0.size))
    clear hb1 hb0 HEQ
    rw [H00.out]
    go_wp2_with fail
    refine (l04Full_any _ zs k _ H1.out HNN.out HP.out (by omega)).mono ?_
    rintro e w2 ⟨A2, c2, rfl, ho2, hb2⟩
    have HO2 := Lib.hid (own_lessB ho2 (lo' := w.heap.size) B1.out.size)
    rw [← e1.out] at HO2 ⊢
    go_wp2_with fail
    go_ret2
    exact AnsIC.mk' rfl H00.out.symm HO2.out (B1.out.trans (hb2.mono B1.out.size))
  · have e1 : Hid (lqA zs m = []) := Lib.hid (by rw [lqA, if_neg h0])
    have hcb : 0 ≤ lqC zs m ∧ lqC zs m ≤ 3 := by unfold lqC; split <;> (try split) <;> (try split) <;> omega
    go_enter Try.func43, Try.ntmps43
    go_wp2_with fail
    rw [← HEQ.out]
    refine (l04Long_any _ zs m _ H0.out HNN.out HWW.out).mono ?_
    rintro e w1 ⟨rfl, hb1⟩
    have cb1 : w1.cell? ⟨w.heap.size, 0, none⟩ = some (.slice A n c) := by rw [hb1.cell (p := ⟨w.heap.size, 0, none⟩) hq0.2]; exact hq0.1
    have H1 := Lib.hid ((H0.out.below hb1).more hb1.size)
    have B1 := Lib.hid (hb0.trans (hb1.mono hb0.size))
    clear hb1 hb0 HEQ
    generalize lqC zs m = C at *
    go_wp2_with fail
    go_ret2
    exact AnsIC.empty e1.out.symm rfl B1.out

set_option maxRecDepth 100000 in
set_option maxHeartbeats 1000000 in
theorem implLongSequence_any (v : Value) (zs : List Int) (m : Int) (w : World) (h : ReadI w w.heap.size v zs) (hn : zs.length ≤ 1048576) (hw : ∀ z ∈ zs, (Lit.int .i64 z).wf = true) (hwm : (Lit.int .i64 m).wf = true) :
    Calls Try.prog 42 #[.agg #[v], .int .i64 m] w (AnsIC w (lqA zs m) (lqC zs m)) := by
  obtain ⟨n, A, c, rfl, hr, HL, _, hnc, HF, hcm⟩ := h.split2
  obtain ⟨W0, HE⟩ : ∃ W, W = w.alloc (.cells #[.slice A n c] 28) := ⟨_, rfl⟩
  have hb0 : Below w.heap.size w W0 := by rw [HE]; exact below_box _ _
  have hq0 : BoxI W0 w.heap.size (.slice A n c) := by rw [HE]; exact BoxI.new _ _ _
  have H0 := Lib.hid ((h.below hb0).more hb0.size)
  have HNN := Lib.hid hn
  have HWW := Lib.hid hw
  have HEQ := Lib.hid HE
  clear h hr HE HF hn hw
  rcases bool_fs (brB zs) with hp | hp
  · have e1 := Lib.hid (lq_no (m := m) hp)
    have HP := Lib.hid hp
    clear hp
    go_enter Try.func42, Try.ntmps42
    go_wp2_with fail
    rw [← HEQ.out]
    refine (implIsBranch_if _ zs _ false H0.out HNN.out HWW.out HP.out).mono ?_
    rintro e w1 ⟨rfl, hb1⟩
    go_wp2
    go_ret2
    exact AnsIC.empty e1.out.2.symm e1.out.1.symm (hb0.trans (hb1.mono hb0.size))
  have HP := Lib.hid hp
  by_cases hm : 0 ≤ m ∧ m ≤ 400
  rotate_left
  · have e1 := Lib.hid (lq_out hp hm)
    clear hp
    go_enter Try.func42, Try.ntmps42
    go_wp2_with fail
    rw [← HEQ.out]
    refine (implIsBranch_if _ zs _ true H0.out HNN.out HWW.out HP.out).mono ?_
    rintro e w1 ⟨rfl, hb1⟩
    have cb1 : w1.cell? ⟨w.heap.size, 0, none⟩ = some (.slice A n c) := by rw [hb1.cell (p := ⟨w.heap.size, 0, none⟩) hq0.2]; exact hq0.1
    have H1 := Lib.hid ((H0.out.below hb1).more hb1.size)
    have B1 := Lib.hid (hb0.trans (hb1.mono hb0.size))
    clear hb1 hb0 HEQ
    by_cases hm1 : m < 0
    · go_wp2
      go_ret2
      exact AnsIC.empty e1.out.2.symm e1.out.1.symm B1.out
    · have hm2 : 400 < m := by omega
      go_wp2
      go_ret2
      exact AnsIC.empty e1.out.2.symm e1.out.1.symm B1.out
  obtain ⟨k, rfl⟩ : ∃ k : Nat, m = (k : Int) := ⟨m.toNat, by omega⟩
  by_cases h3 : 400 < cntL (rsI zs) + (k : Int)
  · have e1 := Lib.hid (lq_big hp hm h3)
    have hlen := (seq_len hp).1
    have hlen2 := (seq_len hp).2
    rw [← hlen] at h3
    clear hp hlen
    go_enter Try.func42, Try.ntmps42
    go_wp2_with fail
    rw [← HEQ.out]
    refine (implIsBranch_if _ zs _ true H0.out HNN.out HWW.out HP.out).mono ?_
    rintro e w1 ⟨rfl, hb1⟩
    have cb1 : w1.cell? ⟨w.heap.size, 0, none⟩ = some (.slice A n c) := by rw [hb1.cell (p := ⟨w.heap.size, 0, none⟩) hq0.2]; exact hq0.1
    have H1 := Lib.hid ((H0.out.below hb1).more hb1.size)
    have B1 := Lib.hid (hb0.trans (hb1.mono hb0.size))
    clear hb1 hb0 HEQ
    go_wp2_with fail
    refine (sequence_any _ zs _ H1.out HNN.out HP.out).mono ?_
    rintro e w2 ⟨A2, c2, rfl, ho2, hb2⟩
    have HO2 := Lib.hid ho2
    have hx2 : (w2.alloc (.cells #[.int .i64 1] 2)).cell? ⟨w2.heap.size, 0, none⟩ = some (.int .i64 1) := by go_simp
    have hb20 : Below w2.heap.size w2 (w2.alloc (.cells #[.int .i64 1] 2)) := below_box _ _
    have hsz2 : (w2.alloc (.cells #[.int .i64 1] 2)).heap.size = w2.heap.size + 1 := by simp
    obtain ⟨N, HNe⟩ : ∃ N, (seqL zs).length = N := ⟨_, rfl⟩
    have HNL := Lib.hid HNe
    rw [HNe] at HO2 h3 hlen2 ⊢
    have hbs1 := B1.out.size
    have hbs2 := hb2.size
    clear ho2 HNe
    go_wp2_with fail
    generalize (w2.alloc (.cells #[.int .i64 1] 2)) = w2a at *
    refine (repeat_any 1 k w2.heap.size 1 _ hx2 (by omega) (by omega)).mono ?_
    rintro e w3 ⟨rfl, ho3, hb3⟩
    rw [hsz2] at ho3 ⊢
    have HO3 := Lib.hid ho3
    have B3 := Lib.hid (hb20.trans (hb3.mono hb20.size))
    have hbs3 := B3.out.size
    have hrow := HO2.out.1
    obtain ⟨X, HXe⟩ : ∃ X, X = (seqL zs).map (Value.int .i64) := ⟨_, rfl⟩
    have hlz : (seqL zs).length = N := HNL.out
    rw [hlz, ← HXe] at hrow
    have HXE := Lib.hid HXe
    have HROW : Hid (Own w3 w1.heap.size (.slice A2 N c2) N X) := Lib.hid (Own.kept hrow (grown_of_below B3.out none) (by cases (Value.slice A2 N c2).ownBlock <;> simp))
    have hnews : Hid (∀ j u, (List.replicate k (Value.int .i64 1))[j]? = some u → w3.cell? ((⟨w2.heap.size + 1, 0, none⟩ : Addr).add j) = some u) := Lib.hid fun j u hj => by
      have hjl : j < k := by
        by_cases h5 : j < k
        · exact h5
        · rw [List.getElem?_eq_none (by simp; omega)] at hj; cases hj
      have h6 : u = .int .i64 1 := by rw [List.getElem?_replicate] at hj; simp [hjl] at hj; exact hj.symm
      obtain ⟨g', e1, _, _, h7, _⟩ := own_at HO3.out (by simp) hjl
      cases e1
      rw [add_lit, Nat.zero_add, h7, h6]
      simp [hjl]
    have hone : Hid (∀ u ∈ List.replicate k (Value.int .i64 1), u.oneCell' = true) := Lib.hid fun u hu => by rw [(List.mem_replicate.1 hu).2]; rfl
    have hlr : (List.replicate k (Value.int .i64 1)).length = k * 1 := by simp
    obtain ⟨Y, HYe⟩ : ∃ Y, Y = List.replicate k (Value.int .i64 1) := ⟨_, rfl⟩
    rw [← HYe] at hnews hone hlr
    have HYE := Lib.hid HYe
    obtain ⟨i0, hi0, hz0, hz1, hz2⟩ := info_parts int_info
    clear hrow hlz HXe HYe ho3 hb3 hb20 hx2
    go_wp2_with (at_builtin; refine wpList_append_own _ rfl _ _ 22 rfl w1.heap.size 2 i0 (.int .i64 0) 1 8 Try.underlying22 hi0 hz0 hz1 hz2 rfl (by decide) _ N X rfl HROW.out ⟨w2.heap.size + 1, 0, none⟩ k k Y rfl hlr hnews.out hone.out (by simp only [maxLen]; omega) (by omega) (by omega) ?_; intro v4 w4 hown4 hgrow4 _; obtain ⟨A4, c4, rfl⟩ := own_form hown4; have HO4 := Lib.hid hown4; have B4 := Lib.hid ((B1.out.trans ((hb2.mono hbs1).trans (B3.out.mono (by omega)))).grown hgrow4 (by omega) (fun k hk => Nat.le_trans hbs1 (World.ownsRow.lt HROW.out k hk).1)); clear hown4 hgrow4)
    go_ret2
    exact AnsIC.empty e1.out.2.symm e1.out.1.symm B4.out
  · have e1 := Lib.hid (lq_yes hp hm h3)
    have hlen := (seq_len hp).1
    have hlen2 := (seq_len hp).2
    rw [← hlen] at h3
    clear hp hlen
    go_enter Try.func42, Try.ntmps42
    go_wp2_with fail
    rw [← HEQ.out]
    refine (implIsBranch_if _ zs _ true H0.out HNN.out HWW.out HP.out).mono ?_
    rintro e w1 ⟨rfl, hb1⟩
    have cb1 : w1.cell? ⟨w.heap.size, 0, none⟩ = some (.slice A n c) := by rw [hb1.cell (p := ⟨w.heap.size, 0, none⟩) hq0.2]; exact hq0.1
    have H1 := Lib.hid ((H0.out.below hb1).more hb1.size)
    have B1 := Lib.hid (hb0.trans (hb1.mono hb0.size))
    clear hb1 hb0 HEQ
    go_wp2_with fail
    refine (sequence_any _ zs _ H1.out HNN.out HP.out).mono ?_
    rintro e w2 ⟨A2, c2, rfl, ho2, hb2⟩
    have HO2 := Lib.hid ho2
    have hx2 : (w2.alloc (.cells #[.int .i64 1] 2)).cell? ⟨w2.heap.size, 0, none⟩ = some (.int .i64 1) := by go_simp
    have hb20 : Below w2.heap.size w2 (w2.alloc (.cells #[.int .i64 1] 2)) := below_box _ _
    have hsz2 : (w2.alloc (.cells #[.int .i64 1] 2)).heap.size = w2.heap.size + 1 := by simp
    obtain ⟨N, HNe⟩ : ∃ N, (seqL zs).length = N := ⟨_, rfl⟩
    have HNL := Lib.hid HNe
    rw [HNe] at HO2 h3 hlen2 ⊢
    have hbs1 := B1.out.size
    have hbs2 := hb2.size
    clear ho2 HNe
    go_wp2_with fail
    generalize (w2.alloc (.cells #[.int .i64 1] 2)) = w2a at *
    refine (repeat_any 1 k w2.heap.size 1 _ hx2 (by omega) (by omega)).mono ?_
    rintro e w3 ⟨rfl, ho3, hb3⟩
    rw [hsz2] at ho3 ⊢
    have HO3 := Lib.hid ho3
    have B3 := Lib.hid (hb20.trans (hb3.mono hb20.size))
    have hbs3 := B3.out.size
    have hrow := HO2.out.1
    obtain ⟨X, HXe⟩ : ∃ X, X = (seqL zs).map (Value.int .i64) := ⟨_, rfl⟩
    have hlz : (seqL zs).length = N := HNL.out
    rw [hlz, ← HXe] at hrow
    have HXE := Lib.hid HXe
    have HROW : Hid (Own w3 w1.heap.size (.slice A2 N c2) N X) := Lib.hid (Own.kept hrow (grown_of_below B3.out none) (by cases (Value.slice A2 N c2).ownBlock <;> simp))
    have hnews : Hid (∀ j u, (List.replicate k (Value.int .i64 1))[j]? = some u → w3.cell? ((⟨w2.heap.size + 1, 0, none⟩ : Addr).add j) = some u) := Lib.hid fun j u hj => by
      have hjl : j < k := by
        by_cases h5 : j < k
        · exact h5
        · rw [List.getElem?_eq_none (by simp; omega)] at hj; cases hj
      have h6 : u = .int .i64 1 := by rw [List.getElem?_replicate] at hj; simp [hjl] at hj; exact hj.symm
      obtain ⟨g', e1, _, _, h7, _⟩ := own_at HO3.out (by simp) hjl
      cases e1
      rw [add_lit, Nat.zero_add, h7, h6]
      simp [hjl]
    have hone : Hid (∀ u ∈ List.replicate k (Value.int .i64 1), u.oneCell' = true) := Lib.hid fun u hu => by rw [(List.mem_replicate.1 hu).2]; rfl
    have hlr : (List.replicate k (Value.int .i64 1)).length = k * 1 := by simp
    obtain ⟨Y, HYe⟩ : ∃ Y, Y = List.replicate k (Value.int .i64 1) := ⟨_, rfl⟩
    rw [← HYe] at hnews hone hlr
    have HYE := Lib.hid HYe
    obtain ⟨i0, hi0, hz0, hz1, hz2⟩ := info_parts int_info
    clear hrow hlz HXe HYe ho3 hb3 hb20 hx2
    go_wp2_with (at_builtin; refine wpList_append_own _ rfl _ _ 22 rfl w1.heap.size 2 i0 (.int .i64 0) 1 8 Try.underlying22 hi0 hz0 hz1 hz2 rfl (by decide) _ N X rfl HROW.out ⟨w2.heap.size + 1, 0, none⟩ k k Y rfl hlr hnews.out hone.out (by simp only [maxLen]; omega) (by omega) (by omega) ?_; intro v4 w4 hown4 hgrow4 _; obtain ⟨A4, c4, rfl⟩ := own_form hown4; have HO4 := Lib.hid hown4; have B4 := Lib.hid ((B1.out.trans ((hb2.mono hbs1).trans (B3.out.mono (by omega)))).grown hgrow4 (by omega) (fun k hk => Nat.le_trans hbs1 (World.ownsRow.lt HROW.out k hk).1)); clear hown4 hgrow4)
    go_ret2
    refine AnsIC.mk' (zs := lqA zs (k : Int)) rfl e1.out.1.symm ?_ B4.out
    have h5 : Own w4 w1.heap.size (.slice A4 (N + k) c4) (N + k) ((seqL zs ++ List.replicate k 1).map (.int .i64)) := by
      rw [List.map_append, List.map_replicate, ← HXE.out, ← HYE.out]; exact HO4.out
    rw [e1.out.2, Int.toNat_natCast]
    exact own_lessB (OwnI.mk' h5) hbs1

set_option maxRecDepth 100000 in
set_option maxHeartbeats 1000000 in
theorem implSequenceOf_any (v : Value) (zs : List Int) (w : World) (h : ReadI w w.heap.size v zs) (hn : zs.length ≤ 1048576) (hw : ∀ z ∈ zs, (Lit.int .i64 z).wf = true) :
    Calls Try.prog 45 #[.agg #[v]] w (AnsIC w (lqA zs 0) (lqC zs 0)) := by
  obtain ⟨n, A, c, rfl, hr, HL, _, hnc, HF, hcm⟩ := h.split2
  obtain ⟨W0, HE⟩ : ∃ W, W = w.alloc (.cells #[.slice A n c] 28) := ⟨_, rfl⟩
  have hb0 : Below w.heap.size w W0 := by rw [HE]; exact below_box _ _
  have hq0 : BoxI W0 w.heap.size (.slice A n c) := by rw [HE]; exact BoxI.new _ _ _
  have H0 := Lib.hid ((h.below hb0).more hb0.size)
  have HNN := Lib.hid hn
  have HWW := Lib.hid hw
  have HEQ := Lib.hid HE
  clear h hr HE HF hn hw
  go_enter Try.func45, Try.ntmps45
  go_wp2_with fail
  rw [← HEQ.out]
  refine (implLongSequence_any _ zs 0 _ H0.out HNN.out HWW.out (by decide)).mono ?_
  rintro e w1 ⟨v1, rfl, ho1, hb1⟩
  obtain ⟨A1, c1, rfl⟩ := own_form ho1.1
  have HO1 := Lib.hid (own_lessB ho1 (lo' := w.heap.size) hb0.size)
  have B1 := Lib.hid (hb0.trans (hb1.mono hb0.size))
  clear ho1 hb1 hb0 HEQ
  go_wp2_with fail
  go_ret2
  exact AnsIC.mk' rfl rfl HO1.out B1.out

def cbA (zs : List Int) : Int := if brB zs then cntL (rsI zs) else 0
set_option maxRecDepth 100000 in
set_option maxHeartbeats 1000000 in
theorem implCountBranchPoints_any (v : Value) (zs : List Int) (w : World) (h : ReadI w w.heap.size v zs) (hn : zs.length ≤ 1048576) (hw : ∀ z ∈ zs, (Lit.int .i64 z).wf = true) :
    Calls Try.prog 46 #[.agg #[v]] w (AnsII w (cbA zs) (sqC zs)) := by
  obtain ⟨n, A, c, rfl, hr, HL, _, hnc, HF, hcm⟩ := h.split2
  obtain ⟨W0, HE⟩ : ∃ W, W = w.alloc (.cells #[.slice A n c] 28) := ⟨_, rfl⟩
  have hb0 : Below w.heap.size w W0 := by rw [HE]; exact below_box _ _
  have hq0 : BoxI W0 w.heap.size (.slice A n c) := by rw [HE]; exact BoxI.new _ _ _
  have H0 := Lib.hid ((h.below hb0).more hb0.size)
  have HNN := Lib.hid hn
  have HWW := Lib.hid hw
  have HEQ := Lib.hid HE
  clear h hr HE HF hn hw
  rcases bool_fs (brB zs) with hp | hp
  · have e1 : Hid (cbA zs = 0) := Lib.hid (by simp [cbA, hp])
    have e2 : Hid (sqC zs = 1) := Lib.hid (by simp [sqC, hp])
    have HP := Lib.hid hp
    clear hp
    go_enter Try.func46, Try.ntmps46
    go_wp2_with fail
    rw [← HEQ.out]
    refine (implIsBranch_if _ zs _ false H0.out HNN.out HWW.out HP.out).mono ?_
    rintro e w1 ⟨rfl, hb1⟩
    go_wp2_with fail
    go_ret2
    exact ⟨by rw [e1.out, e2.out]; rfl, hb0.trans (hb1.mono hb0.size)⟩
  · have e1 : Hid (cbA zs = cntL (rsI zs)) := Lib.hid (by simp [cbA, hp])
    have e2 : Hid (sqC zs = 0) := Lib.hid (by simp [sqC, hp])
    have HP := Lib.hid hp
    have hlen := Lib.hid (seq_len hp).1
    clear hp
    go_enter Try.func46, Try.ntmps46
    go_wp2_with fail
    rw [← HEQ.out]
    refine (implIsBranch_if _ zs _ true H0.out HNN.out HWW.out HP.out).mono ?_
    rintro e w1 ⟨rfl, hb1⟩
    have cb1 : w1.cell? ⟨w.heap.size, 0, none⟩ = some (.slice A n c) := by rw [hb1.cell (p := ⟨w.heap.size, 0, none⟩) hq0.2]; exact hq0.1
    have H1 := Lib.hid ((H0.out.below hb1).more hb1.size)
    have B1 := Lib.hid (hb0.trans (hb1.mono hb0.size))
    clear hb1 hb0 HEQ
    go_wp2_with fail
    refine (sequence_any _ zs _ H1.out HNN.out HP.out).mono ?_
    rintro e w2 ⟨A2, c2, rfl, ho2, hb2⟩
    go_wp2_with fail
    go_ret2
    exact ⟨by rw [e1.out, e2.out, ← hlen.out]; rfl, B1.out.trans (hb2.mono B1.out.size)⟩

end Go.Proofs.Ytncgkoanckefmaa
