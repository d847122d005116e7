/- MultiplicitiesAt, the model's and the program's: contracts. Conditions: stated at each theorem. -/
import Derived.Test.YtohbgfmjnanlkaaPtS
namespace Go.Proofs.Ytohbgfmjnanlkaa
open Go.ChangeShapes Go.WideShapes Go.ChangeAt Go.RowKit Go.Deep Go.Shelf
set_option linter.unusedVariables false
set_option linter.unusedSimpArgs false

theorem mqA_yes {zs : List Int} {m : Nat} (h : ptC zs (m : Int) = 0) : mqA zs (m : Int) = mqL zs m := by unfold mqA; rw [if_pos h]; simp
theorem mqA_no {zs : List Int} {k C : Int} (h : ptC zs k = C) (hC : C ≠ 0) : mqA zs k = [] := by unfold mqA; rw [if_neg (by omega)]

set_option maxRecDepth 100000 in
set_option maxHeartbeats 1000000 in
theorem implMultiplicitiesAt_any (v : Value) (zs : List Int) (k : Int) (w : World) (h : ReadI w w.heap.size v zs) (hn : zs.length ≤ 1048576) (hw : ∀ z ∈ zs, (Lit.int .i64 z).wf = true) (hk : (Lit.int .i64 k).wf = true) :
    Calls Try.prog 64 #[.agg #[v], .int .i64 k] w (AnsIC w (mqA zs k) (ptC zs k)) := by
  obtain ⟨n, A, c, rfl, hr, HL, _, hnc, HF, hcm⟩ := h.split2
  obtain ⟨W0, HE⟩ : ∃ W, W = w.alloc (.cells #[.slice A n c] 28) := ⟨_, rfl⟩
  have hb0 : Below w.heap.size w W0 := by rw [HE]; exact below_box _ _
  have hq0 : BoxI W0 w.heap.size (.slice A n c) := by rw [HE]; exact BoxI.new _ _ _
  have H0 := Lib.hid ((h.below hb0).more hb0.size)
  have HNN := Lib.hid hn
  have HWW := Lib.hid hw
  have HEQ := Lib.hid HE
  clear h hr HE HF hn hw
  rcases pt_cases zs k with ⟨hp, hc⟩ | ⟨hp, hk2, hc⟩ | ⟨m, hp, rfl, hm1, hm2, hc⟩
  · have HC := Lib.hid hc
    have HP := Lib.hid hp
    clear hc hp hk
    go_enter Try.func64, Try.ntmps64
    go_wp2_with fail
    rw [← HEQ.out]
    refine (implIsBranch_if _ zs _ false H0.out HNN.out HWW.out HP.out).mono ?_
    rintro e w1 ⟨rfl, hb1⟩
    go_wp2_with fail
    go_ret2
    exact AnsIC.empty (mqA_no HC.out (by omega)).symm HC.out.symm (hb0.trans (hb1.mono hb0.size))
  · have HC := Lib.hid hc
    have HP := Lib.hid hp
    clear hc hp hk
    have hq1 : k < 1 ∨ 400 < k := by omega
    clear hk2
    rcases hq1 with hk3 | hk3
    · go_enter Try.func64, Try.ntmps64
      go_wp2_with fail
      rw [← HEQ.out]
      refine (implIsBranch_if _ zs _ true H0.out HNN.out HWW.out HP.out).mono ?_
      rintro e w1 ⟨rfl, hb1⟩
      have B1 := Lib.hid (hb0.trans (hb1.mono hb0.size))
      clear hb1 hb0 HEQ
      go_wp2_with fail
      go_ret2
      exact AnsIC.empty (mqA_no HC.out (by omega)).symm HC.out.symm B1.out
    · have hk4 : ¬ k < 1 := by omega
      go_enter Try.func64, Try.ntmps64
      go_wp2_with fail
      rw [← HEQ.out]
      refine (implIsBranch_if _ zs _ true H0.out HNN.out HWW.out HP.out).mono ?_
      rintro e w1 ⟨rfl, hb1⟩
      have B1 := Lib.hid (hb0.trans (hb1.mono hb0.size))
      clear hb1 hb0 HEQ
      go_wp2_with fail
      go_ret2
      exact AnsIC.empty (mqA_no HC.out (by omega)).symm HC.out.symm B1.out
  · have HC := Lib.hid hc
    have HP := Lib.hid hp
    have hlen2 := (seq_len hp).2
    have hki : ¬ (m : Int) < 1 := by omega
    have hki2 : ¬ 400 < (m : Int) := by omega
    clear hc hp hk
    go_enter Try.func64, Try.ntmps64
    go_wp2_with fail
    rw [← HEQ.out]
    refine (implIsBranch_if _ zs _ true H0.out HNN.out HWW.out HP.out).mono ?_
    rintro e w1 ⟨rfl, hb1⟩
    have cb1 : w1.cell? ⟨w.heap.size, 0, none⟩ = some (.slice A n c) := by rw [hb1.cell (p := ⟨w.heap.size, 0, none⟩) hq0.2]; exact hq0.1
    have H1 := Lib.hid ((H0.out.below hb1).more hb1.size)
    have B1 := Lib.hid (hb0.trans (hb1.mono hb0.size))
    clear hb1 hb0 HEQ
    go_wp2_with fail
    refine (sequence_any _ zs _ H1.out HNN.out HP.out).mono ?_
    rintro e w2 ⟨A2, c2, rfl, ho2, hb2⟩
    have HO2 := Lib.hid ho2
    have hx2 : (w2.alloc (.cells #[.int .i64 1] 2)).cell? ⟨w2.heap.size, 0, none⟩ = some (.int .i64 1) := by go_simp
    have hb20 : Below w2.heap.size w2 (w2.alloc (.cells #[.int .i64 1] 2)) := below_box _ _
    have hsz2 : (w2.alloc (.cells #[.int .i64 1] 2)).heap.size = w2.heap.size + 1 := by simp
    obtain ⟨N, HNe⟩ : ∃ N, (seqL zs).length = N := ⟨_, rfl⟩
    have HNL := Lib.hid HNe
    rw [HNe] at HO2 hlen2 ⊢
    have hbs1 := B1.out.size
    have hbs2 := hb2.size
    clear ho2 HNe
    go_wp2_with fail
    generalize (w2.alloc (.cells #[.int .i64 1] 2)) = w2a at *
    refine (repeat_any 1 m w2.heap.size 1 _ hx2 (by omega) (by omega)).mono ?_
    rintro e w3 ⟨rfl, ho3, hb3⟩
    rw [hsz2] at ho3 ⊢
    have HO3 := Lib.hid ho3
    have B3 := Lib.hid (hb20.trans (hb3.mono hb20.size))
    have hbs3 := B3.out.size
    have hrow := HO2.out.1
    obtain ⟨X, HXe⟩ : ∃ X, X = (seqL zs).map (Value.int .i64) := ⟨_, rfl⟩
    have hlz : (seqL zs).length = N := HNL.out
    rw [hlz, ← HXe] at hrow
    have HXE := Lib.hid HXe
    have HROW : Hid (Own w3 w1.heap.size (.slice A2 N c2) N X) := Lib.hid (Own.kept hrow (grown_of_below B3.out none) (by cases (Value.slice A2 N c2).ownBlock <;> simp))
    have hnews : Hid (∀ j u, (List.replicate m (Value.int .i64 1))[j]? = some u → w3.cell? ((⟨w2.heap.size + 1, 0, none⟩ : Addr).add j) = some u) := Lib.hid fun j u hj => by
      have hjl : j < m := by
        by_cases h5 : j < m
        · exact h5
        · rw [List.getElem?_eq_none (by simp; omega)] at hj; cases hj
      have h6 : u = .int .i64 1 := by rw [List.getElem?_replicate] at hj; simp [hjl] at hj; exact hj.symm
      obtain ⟨g', e1, _, _, h7, _⟩ := own_at HO3.out (by simp) hjl
      cases e1
      rw [add_lit, Nat.zero_add, h7, h6]
      simp [hjl]
    have hone : Hid (∀ u ∈ List.replicate m (Value.int .i64 1), u.oneCell' = true) := Lib.hid fun u hu => by rw [(List.mem_replicate.1 hu).2]; rfl
    have hlr : (List.replicate m (Value.int .i64 1)).length = m * 1 := by simp
    obtain ⟨Y, HYe⟩ : ∃ Y, Y = List.replicate m (Value.int .i64 1) := ⟨_, rfl⟩
    rw [← HYe] at hnews hone hlr
    have HYE := Lib.hid HYe
    obtain ⟨i0, hi0, hz0, hz1, hz2⟩ := info_parts int_info
    clear hrow hlz HXe HYe ho3 hb3 hb20 hx2
    go_wp2_with (at_builtin; go_loud (refine wpList_append_own _ rfl _ _ 22 rfl w1.heap.size 2 i0 (.int .i64 0) 1 8 Try.underlying22 hi0 hz0 hz1 hz2 rfl (by decide) _ N X rfl HROW.out ⟨w2.heap.size + 1, 0, none⟩ m m Y rfl hlr hnews.out hone.out (by simp only [maxLen]; omega) (by omega) (by omega) ?_; intro v4 w4 hown4 hgrow4 _; obtain ⟨A4, c4, rfl⟩ := own_form hown4; have HO4 := Lib.hid hown4; have B4 := Lib.hid ((B1.out.trans ((hb2.mono hbs1).trans (B3.out.mono (by omega)))).grown hgrow4 (by omega) (fun k hk => Nat.le_trans hbs1 (World.ownsRow.lt HROW.out k hk).1)); have HL4 : Hid ((seqL zs ++ List.replicate m 1).length = N + m) := Lib.hid (by rw [List.length_append, HNL.out, List.length_replicate]); have HI4 : Hid (OwnI w4 w1.heap.size w4.heap.size (.slice A4 (N + m) c4) (seqL zs ++ List.replicate m 1)) := Lib.hid (OwnI.mk' (n := N + m) (by rw [List.map_append, List.map_replicate, ← HXE.out, ← HYE.out]; exact hown4)); have hcap : N + m ≤ c4 := (by obtain ⟨A', c', e', _, _, h9, _⟩ := HI4.out.reads; have h10 := HL4.out; simp only [Value.slice.injEq] at e'; omega); clear hown4 hgrow4))
    have hmc : (m : Int) ≤ (c4 : Int) := by omega
    go_wp2_with fail
    go_ret2
    exact AnsIC.mk' (mqA_yes HC.out).symm HC.out.symm (own_lessB (HI4.out.cut HL4.out (by omega)) hbs1) B4.out
end Go.Proofs.Ytohbgfmjnanlkaa
