/- The curvette of a code: contracts of CurvetteOfCode, the program's and the model's. Conditions: stated at each theorem. -/
import Derived.Test.YtoebbhicffgdgaaCvS
import Derived.Test.YtoebbhicffgdgaaCvB
import Derived.Test.YtoebbhicffgdgaaBw
import Derived.Test.YtoebbhicffgdgaaPoS
namespace Go.Proofs.Ytoebbhicffgdgaa
open Go.ChangeShapes Go.WideShapes Go.ChangeAt Go.RowKit Go.Deep
set_option linter.unusedVariables false
set_option linter.unusedSimpArgs false

def ccA (c : List Int) : List Int := if isC c then (if cvOK c c.length then bsA (cvL c c.length) else []) else []
def ccC (c : List Int) : Int := if isC c then (if cvOK c c.length then bsC (cvL c c.length) else 5) else 2
theorem cc_no {c : List Int} (h : isC c = false) : ccA c = [] ∧ ccC c = 2 := by simp [ccA, ccC, h]
theorem cc_big {c : List Int} (h : isC c = true) (h2 : cvOK c c.length = false) : ccA c = [] ∧ ccC c = 5 := by simp [ccA, ccC, h, h2]
theorem cc_yes {c : List Int} (h : isC c = true) (h2 : cvOK c c.length = true) : ccA c = bsA (cvL c c.length) ∧ ccC c = bsC (cvL c c.length) := by simp [ccA, ccC, h, h2]
theorem cvL_range {c : List Int} {n : Nat} (h : cvOK c n = true) : ∀ x ∈ cvL c n, 1 ≤ x ∧ x ≤ 64 := fun x hx => by
  refine ⟨cvL_pos x hx, ?_⟩
  obtain ⟨i, hi, rfl⟩ := List.mem_map.1 hx
  exact cvOK_true.1 h i (by have := List.mem_range.1 hi; omega)
theorem cvL_sql {c : List Int} {n : Nat} (hn : n ≤ 399) (h : cvOK c n = true) : sqlB (cvL c n) = true := by
  simp only [sqlB, Bool.and_eq_true, decide_eq_true_eq, List.all_eq_true]
  exact ⟨by rw [cvL_len]; omega, fun z hz => mulB_true.2 (cvL_range h z hz)⟩
theorem br_short {L : List Int} (h : brB L = true) : L.length ≤ 2001 := by
  obtain ⟨n, r, rfl, _, _, hl⟩ := br_cons h
  simp; omega
theorem bsA_len6 (L : List Int) : (bsA L).length ≤ 2001 := by
  unfold bsA
  split
  · split
    · rename_i h1 h2
      have h3 := (sql_yes h1).1
      have := bs_inv (R := L) (by omega) (fun x hx => ((sql_yes h1).2 x hx).1) h2
      exact br_short this.1
    · simp
  · simp
theorem ccA_len (c : List Int) : (ccA c).length ≤ 2001 := by
  unfold ccA
  split
  · split
    · exact bsA_len6 _
    · simp
  · simp

set_option maxRecDepth 100000 in
set_option maxHeartbeats 1000000 in
theorem implCurvetteOfCode_any (v : Value) (c : List Int) (w : World) (h : ReadI w w.heap.size v c) (hn : c.length ≤ 1048576) (hw : ∀ z ∈ c, (Lit.int .i64 z).wf = true) :
    Calls Try.prog 39 #[v] w (AnsRC w (ccA c) (ccC c)) := by
  obtain ⟨n, A, cc, rfl, hr, HL, HN, hnc, HF, hcm⟩ := h.split2
  rw [HL.out] at hn
  obtain ⟨W0, HE⟩ : ∃ W, W = w.alloc (.cells #[.slice none 0 0] 26) := ⟨_, rfl⟩
  have hS0 : Start1 w W0 := by rw [HE]; exact Start1.new _
  have hb0 := hS0.below
  have hs0 := hS0.size
  have HRD := Lib.hid ((h.below hb0).more hb0.size)
  have H0 := Lib.hid (hr.below hb0)
  have S0 := Lib.hid hS0
  have HEQ := Lib.hid HE
  rcases bool_fs (isC c) with hp | hp
  · have E := Lib.hid (cc_no hp)
    have HP := Lib.hid hp
    clear h hr hb0 hS0 hw HE hp
    go_enter Try.func39, Try.ntmps39
    go_wp2_with fail
    rw [← HEQ.out]
    obtain ⟨l2, l3, l4⟩ := S0.out.later (Below.refl _ _)
    refine (isCode_if _ n _ c W0 _ false H0.out HL.out hn HP.out).mono ?_
    rintro e w1 ⟨rfl, rfl⟩
    go_wp2_with fail
    have cr : (W0.setCell ⟨w.heap.size, 0, none⟩ (.slice none 0 0)).cell? ⟨w.heap.size, 0, none⟩ = some (.slice none 0 0) := by go_simp
    refine bodyPost_ret (v := .tuple #[.agg #[.slice none 0 0], .int .i64 2]) (by simp [results, Try.results39, go_sem, cr]) rfl ?_
    exact ansR_endG _ (Nat.le_refl _) E.out.1.symm E.out.2.symm (OwnI.nil _ _) (by intro h; cases h) S0.out.below _
  have HP := Lib.hid hp
  have hn9 : n ≤ 399 := by have := isC_len hp; rw [HL.out] at this; exact this
  have HCV : Hid (CV c n) := Lib.hid (by have := isC_cv hp; rw [HL.out] at this; exact this)
  rcases bool_fs (cvOK c n) with hok | hok
  · have E := Lib.hid (cc_big hp (by rw [HL.out]; exact hok))
    have HOK := Lib.hid hok
    clear h hr hb0 hS0 hw HE hp hok
    go_enter Try.func39, Try.ntmps39
    go_wp2_with fail
    rw [← HEQ.out]
    refine (isCode_if _ n _ c W0 _ true H0.out HL.out hn HP.out).mono ?_
    rintro e w1 ⟨rfl, rfl⟩
    go_wp2_with fail
    refine (curvette_any _ c n W0 HRD.out HCV.out (by omega)).mono ?_
    rintro e w2 (⟨hno, _⟩ | ⟨_, rfl, hb2⟩)
    · rw [HOK.out] at hno; cases hno
    obtain ⟨l2, l3, l4⟩ := S0.out.later hb2
    have B2 := Lib.hid (S0.out.below.trans (hb2.mono (by omega)))
    clear hb2
    go_wp2_with fail
    have cr : (w2.setCell ⟨w.heap.size, 0, none⟩ (.slice none 0 0)).cell? ⟨w.heap.size, 0, none⟩ = some (.slice none 0 0) := by go_simp
    refine bodyPost_ret (v := .tuple #[.agg #[.slice none 0 0], .int .i64 5]) (by simp [results, Try.results39, go_sem, cr]) rfl ?_
    exact ansR_endG _ (Nat.le_refl _) E.out.1.symm E.out.2.symm (OwnI.nil _ _) (by intro h; cases h) B2.out _
  · have E := Lib.hid (cc_yes hp (by rw [HL.out]; exact hok))
    have HOK := Lib.hid hok
    have HSQ := Lib.hid (cvL_sql hn9 hok)
    have HLN : Hid ((cvL c n).length ≤ 1048576) := Lib.hid (by rw [cvL_len]; omega)
    have HWF : Hid (∀ z ∈ cvL c n, (Lit.int .i64 z).wf = true) := Lib.hid (fun z hz => by have := cvL_range hok z hz; exact WalkArith.wf_i64 (by omega))
    rw [HL.out] at E
    clear h hr hb0 hS0 hw HE hp hok
    go_enter Try.func39, Try.ntmps39
    go_wp2_with fail
    rw [← HEQ.out]
    refine (isCode_if _ n _ c W0 _ true H0.out HL.out hn HP.out).mono ?_
    rintro e w1 ⟨rfl, rfl⟩
    go_wp2_with fail
    refine (curvette_any _ c n W0 HRD.out HCV.out (by omega)).mono ?_
    rintro e w2 (⟨_, A2, c2, rfl, ho2, hb2⟩ | ⟨hno, _⟩)
    rotate_left
    · rw [HOK.out] at hno; cases hno
    have HR2 : Hid (ReadI w2 w2.heap.size (.slice A2 (n + 1) c2) (cvL c n)) := Lib.hid ho2.reads
    have hs2 := hb2.size
    have HB2 := Lib.hid hb2
    clear ho2 hb2
    go_wp2_with fail
    refine (implBranchOfSequence_any _ (cvL c n) w2 HR2.out HLN.out HWF.out).mono ?_
    rintro e w3 ⟨vb, rfl, hob, hb3⟩
    obtain ⟨X, hX⟩ : ∃ X, bsA (cvL c n) = X := ⟨_, rfl⟩
    obtain ⟨D, hD⟩ : ∃ D, bsC (cvL c n) = D := ⟨_, rfl⟩
    rw [hX] at hob E
    rw [hD] at E ⊢
    obtain ⟨Ab, cb, rfl⟩ := own_form hob.1
    have HB3 := Lib.hid (HB2.out.trans (hb3.mono HB2.out.size))
    obtain ⟨l2, l3, l4⟩ := S0.out.later HB3.out
    have HNE : Hid ((Value.slice Ab X.length cb).ownBlock ≠ some w.heap.size) := Lib.hid (fun h5 => by
      have := (hob.1 : Own w3 w2.heap.size _ _ _).lt w.heap.size h5
      omega)
    have O3 := Lib.hid hob
    have B3 := Lib.hid (S0.out.below.trans (HB3.out.mono (by omega)))
    clear hob hb3 hX hD
    go_wp2_with fail
    have cr : (w3.setCell ⟨w.heap.size, 0, none⟩ (.slice Ab X.length cb)).cell? ⟨w.heap.size, 0, none⟩ = some (.slice Ab X.length cb) := by go_simp
    refine bodyPost_ret (v := .tuple #[.agg #[.slice Ab X.length cb], .int .i64 D]) (by simp [results, Try.results39, go_sem, cr]) rfl ?_
    exact ansR_endG _ (Nat.le_refl _) E.out.1.symm E.out.2.symm (own_lessB O3.out (by omega)) HNE.out B3.out _

set_option maxRecDepth 100000 in
set_option maxHeartbeats 2000000 in
theorem specCurvetteOfCode_any (v : Value) (c : List Int) (w : World) (h : ReadI w w.heap.size v c) (hn : c.length ≤ 1048576) (hw : ∀ z ∈ c, (Lit.int .i64 z).wf = true) :
    Calls Try.prog 40 #[v] w (AnsRC w (ccA c) (ccC c)) := by
  obtain ⟨n, A, cc, rfl, hr, HL, HN, hnc, HF, hcm⟩ := h.split2
  rw [HL.out] at hn
  obtain ⟨W0, HE⟩ : ∃ W, W = w.alloc (.cells #[.slice none 0 0] 26) := ⟨_, rfl⟩
  have hS0 : Start1 w W0 := by rw [HE]; exact Start1.new _
  have hb0 := hS0.below
  have hs0 := hS0.size
  have HRD := Lib.hid ((h.below hb0).more hb0.size)
  have H0 := Lib.hid (hr.below hb0)
  have S0 := Lib.hid hS0
  have HEQ := Lib.hid HE
  rcases bool_fs (isC c) with hp | hp
  · have E := Lib.hid (cc_no hp)
    have HP := Lib.hid hp
    have hnl : c.length ≤ 1048576 := by rw [HL.out]; exact hn
    clear h hr hb0 hS0 hw HE hp
    go_enter Try.func40, Try.ntmps40
    go_wp2_with fail
    rw [← HEQ.out]
    refine (l06Is_if _ c W0 _ false HRD.out hnl HP.out).mono ?_
    rintro e w1 ⟨rfl, mm, hw1⟩
    have hb1 : Below W0.heap.size W0 w1 := by rw [hw1]; exact drewN_below _ _
    obtain ⟨l2, l3, l4⟩ := S0.out.later hb1
    have B1 := Lib.hid (S0.out.below.trans (hb1.mono (by omega)))
    clear hw1 hb1
    go_wp2_with fail
    have cr : (w1.setCell ⟨w.heap.size, 0, none⟩ (.slice none 0 0)).cell? ⟨w.heap.size, 0, none⟩ = some (.slice none 0 0) := by go_simp
    refine bodyPost_ret (v := .tuple #[.agg #[.slice none 0 0], .int .i64 2]) (by simp [results, Try.results40, go_sem, cr]) rfl ?_
    exact ansR_endG _ (Nat.le_refl _) E.out.1.symm E.out.2.symm (OwnI.nil _ _) (by intro h; cases h) B1.out _
  have HP := Lib.hid hp
  have hnl : c.length ≤ 1048576 := by rw [HL.out]; exact hn
  have hn9 : n ≤ 399 := by have := isC_len hp; rw [HL.out] at this; exact this
  have HCV : Hid (CV c n) := Lib.hid (by have := isC_cv hp; rw [HL.out] at this; exact this)
  rcases bool_fs (cvOK c n) with hok | hok
  · have E := Lib.hid (cc_big hp (by rw [HL.out]; exact hok))
    have HOK := Lib.hid hok
    clear h hr hb0 hS0 hw HE hp hok
    go_enter Try.func40, Try.ntmps40
    go_wp2_with fail
    rw [← HEQ.out]
    refine (l06Is_if _ c W0 _ true HRD.out hnl HP.out).mono ?_
    rintro e w1 ⟨rfl, mm, hw1⟩
    have hb1 : Below W0.heap.size W0 w1 := by rw [hw1]; exact drewN_below _ _
    have HR1 := Lib.hid ((HRD.out.below hb1).more hb1.size)
    have HB1 := Lib.hid hb1
    clear hw1 hb1
    go_wp2_with fail
    refine (l06Curvette_any _ c n w1 HR1.out HCV.out (by omega)).mono ?_
    rintro e w2 (⟨hno, _⟩ | ⟨_, v2, rfl, hb2⟩)
    · rw [HOK.out] at hno; cases hno
    have HB2 := Lib.hid (HB1.out.trans (hb2.mono HB1.out.size))
    obtain ⟨l2, l3, l4⟩ := S0.out.later HB2.out
    have B2 := Lib.hid (S0.out.below.trans (HB2.out.mono (by omega)))
    clear hb2
    go_wp2_with fail
    have cr : (w2.setCell ⟨w.heap.size, 0, none⟩ (.slice none 0 0)).cell? ⟨w.heap.size, 0, none⟩ = some (.slice none 0 0) := by go_simp
    refine bodyPost_ret (v := .tuple #[.agg #[.slice none 0 0], .int .i64 5]) (by simp [results, Try.results40, go_sem, cr]) rfl ?_
    exact ansR_endG _ (Nat.le_refl _) E.out.1.symm E.out.2.symm (OwnI.nil _ _) (by intro h; cases h) B2.out _
  · have E := Lib.hid (cc_yes hp (by rw [HL.out]; exact hok))
    have HOK := Lib.hid hok
    have HSQ := Lib.hid (cvL_sql hn9 hok)
    have HSAME := Lib.hid (cv_same c n 64)
    have HRG : Hid ((1 ≤ (cvL c n ++ List.replicate 64 1).length ∧ (cvL c n ++ List.replicate 64 1).length ≤ 1000) ∧ ∀ x ∈ cvL c n ++ List.replicate 64 1, 1 ≤ x ∧ x ≤ 64) := Lib.hid (by
      refine ⟨by rw [List.length_append, cvL_len, List.length_replicate]; omega, fun x hx => ?_⟩
      rcases List.mem_append.1 hx with hx | hx
      · exact cvL_range hok x hx
      · rw [(List.mem_replicate.1 hx).2]; omega)
    rw [HL.out] at E
    have hs0W := S0.out.size
    clear h hr hb0 hS0 hw HE hp hok
    go_enter Try.func40, Try.ntmps40
    go_wp2_with fail
    rw [← HEQ.out]
    refine (l06Is_if _ c W0 _ true HRD.out hnl HP.out).mono ?_
    rintro e w1 ⟨rfl, mm, hw1⟩
    have hb1 : Below W0.heap.size W0 w1 := by rw [hw1]; exact drewN_below _ _
    have HR1 := Lib.hid ((HRD.out.below hb1).more hb1.size)
    have HB1 := Lib.hid hb1
    clear hw1 hb1
    go_wp2_with fail
    refine (l06Curvette_any _ c n w1 HR1.out HCV.out (by omega)).mono ?_
    rintro e w2 (⟨_, A2, c2, rfl, ho2, hb2⟩ | ⟨hno, _⟩)
    rotate_left
    · rw [HOK.out] at hno; cases hno
    have HO2 := Lib.hid ho2
    have hs1 := HB1.out.size
    have hs2 := hb2.size
    have HB2 := Lib.hid (HB1.out.trans (hb2.mono hs1))
    clear ho2 hb2
    go_wp2_with fail
    refine (l06Ones_any 64 w2 (by omega)).mono ?_
    rintro e w3 ⟨A3, c3, rfl, ho3, hb3⟩
    have hs3 := hb3.size
    have HB3 := Lib.hid hb3
    obtain ⟨g3, rfl, hg3a, hg3b, _, _⟩ := own_at ho3 (by simp) (show 0 < 64 by omega)
    have hnews : Hid (∀ j u, (List.replicate 64 (Value.int .i64 1))[j]? = some u → w3.cell? ((⟨g3, 0, none⟩ : Addr).add j) = some u) := Lib.hid fun j u hj => by
      have hjl : j < 64 := by
        by_cases h5 : j < 64
        · exact h5
        · rw [List.getElem?_eq_none (by simp; omega)] at hj; cases hj
      have h6 : u = .int .i64 1 := by rw [List.getElem?_replicate] at hj; simp [hjl] at hj; exact hj.symm
      obtain ⟨g', e1, _, _, h7, _⟩ := own_at ho3 (by simp) hjl
      cases e1
      rw [add_lit, Nat.zero_add, h7, h6]
      rw [List.getElem?_replicate, if_pos hjl]; rfl
    have hone : Hid (∀ u ∈ List.replicate 64 (Value.int .i64 1), u.oneCell' = true) := Lib.hid fun u hu => by rw [(List.mem_replicate.1 hu).2]; rfl
    have hlr : (List.replicate 64 (Value.int .i64 1)).length = 64 * 1 := by simp
    obtain ⟨Y, HYe⟩ : ∃ Y, Y = List.replicate 64 (Value.int .i64 1) := ⟨_, rfl⟩
    rw [← HYe] at hnews hone hlr
    have HYE := Lib.hid HYe
    have hrow := HO2.out.1
    obtain ⟨X, HXe⟩ : ∃ X, X = (cvL c n).map (Value.int .i64) := ⟨_, rfl⟩
    rw [cvL_len, ← HXe] at hrow
    have HXE := Lib.hid HXe
    have HROW : Hid (Own w3 w1.heap.size (.slice A2 (n + 1) c2) (n + 1) X) := Lib.hid (Own.kept hrow (grown_of_below HB3.out none) (by cases (Value.slice A2 (n + 1) c2).ownBlock <;> simp))
    obtain ⟨i0, hi0, hz0, hz1, hz2⟩ := info_parts int_info
    clear hrow HXe HYe ho3 hb3
    go_wp2_with (at_builtin; (refine wpList_append_own _ rfl _ _ 24 rfl w1.heap.size 2 i0 (.int .i64 0) 1 8 Try.underlying24 hi0 hz0 hz1 hz2 rfl (by decide) _ (n + 1) X rfl HROW.out ⟨g3, 0, none⟩ 64 c3 Y rfl hlr hnews.out hone.out (by simp only [maxLen]; omega) (by omega) (by omega) ?_; intro v4 w4 hown4 hgrow4 _; obtain ⟨A4, c4, rfl⟩ := own_form hown4; have HB4 : Hid (Below W0.heap.size W0 w4) := Lib.hid ((HB2.out.trans (HB3.out.mono (by omega))).grown hgrow4 (by omega) (fun k hk => by have := (World.ownsRow.lt HROW.out k hk).1; omega)); have HO4 : Hid (ReadI w4 w4.heap.size (.slice A4 (n + 1 + 64) c4) (cvL c n ++ List.replicate 64 1)) := Lib.hid ((OwnI.mk' (n := n + 1 + 64) (by rw [List.map_append, List.map_replicate, ← HXE.out, ← HYE.out]; exact hown4) : OwnI w4 w1.heap.size w4.heap.size _ (cvL c n ++ List.replicate 64 1)).reads); clear hown4 hgrow4))
    refine (l04BranchW_any _ _ w4 HO4.out HRG.out).mono ?_
    rintro e W1 ⟨vb, rfl, hob, hb5⟩
    obtain ⟨Ab, cb, rfl⟩ := own_form hob.1
    have hs5 := hb5.size
    obtain ⟨nb, hnb⟩ : ∃ nb, (bsL (cvL c n ++ List.replicate 64 1)).length = nb := ⟨_, rfl⟩
    rw [hnb] at hob ⊢
    have HNB := Lib.hid hnb
    clear hnb
    have hs4 := HB4.out.size
    have hb1' : Below W0.heap.size W0 W1 := HB4.out.trans (hb5.mono hs4)
    obtain ⟨W3, HE3⟩ : ∃ W, W = W1.alloc (.cells #[.slice Ab nb cb] 26) := ⟨_, rfl⟩
    have hb3 : Below W1.heap.size W1 W3 := by rw [HE3]; exact below_box _ _
    have hq3 : BoxI W3 W1.heap.size (.slice Ab nb cb) := by rw [HE3]; exact BoxI.new _ _ _
    have HE3' := Lib.hid HE3
    have hq30 := hq3.1
    have hlt3 := hq3.2
    have hs6 := hb3.size
    have hs1' := hb1'.size
    have HB6 := Lib.hid (hb1'.trans (hb3.mono hs1'))
    have O3 := Lib.hid (hob.kept (Kept.of_below hb3 (Nat.le_refl _)))
    obtain ⟨l2, l3, l4⟩ := S0.out.later HB6.out
    have hne : (Value.slice Ab nb cb).ownBlock ≠ some w.heap.size := fun h5 => by
      have h6 := O3.out.1
      rw [HNB.out] at h6
      have := (h6 : Own W3 w4.heap.size _ _ _).lt w.heap.size h5
      omega
    have B3 := Lib.hid (S0.out.below.trans (HB6.out.mono (by omega)))
    have HNE := Lib.hid hne
    have hs7 := HB6.out.size
    have hsz3 : W3.heap.size = W1.heap.size + 1 := by rw [HE3]; simp
    clear hob hb1' hb3 hq3 hne hb5
    rcases bool_fs (bsB (cvL c n ++ List.replicate 64 1)) with hbb | hbb
    · have hb2 : bsB (cvL c n) = false := by rw [← HSAME.out.1]; exact hbb
      have E2 := Lib.hid (bs_out HSQ.out hb2)
      rw [hbb]
      clear hbb hb2
      rw [HE3'.out] at l2 l3 hq30
      clear HE3
      go_wp2_with fail
      rw [← HE3'.out]
      have cr : (W3.setCell ⟨w.heap.size, 0, none⟩ (.slice none 0 0)).cell? ⟨w.heap.size, 0, none⟩ = some (.slice none 0 0) := by rw [HE3'.out]; go_simp
      refine bodyPost_ret (v := .tuple #[.agg #[.slice none 0 0], .int .i64 5]) (by simp [results, Try.results40, go_sem, cr]) rfl ?_
      exact ansR_endG _ (Nat.le_refl _) (by rw [E.out.1, E2.out.1]) (by rw [E.out.2, E2.out.2]) (OwnI.nil _ _) (by intro h; cases h) B3.out _
    · have hb2 : bsB (cvL c n) = true := by rw [← HSAME.out.1]; exact hbb
      have E2 := Lib.hid (bs_yes HSQ.out hb2)
      have HLL : Hid (bsL (cvL c n ++ List.replicate 64 1) = bsT (cvL c n)) := Lib.hid (by rw [bsL, hbb]; exact HSAME.out.2 hb2)
      rw [hbb]
      clear hbb hb2
      rw [HE3'.out] at l2 l3 hq30
      clear HE3
      go_wp2_with fail
      rw [← HE3'.out]
      have cr : (W3.setCell ⟨w.heap.size, 0, none⟩ (.slice Ab nb cb)).cell? ⟨w.heap.size, 0, none⟩ = some (.slice Ab nb cb) := by rw [HE3'.out]; go_simp
      refine bodyPost_ret (v := .tuple #[.agg #[.slice Ab nb cb], .int .i64 0]) (by simp [results, Try.results40, go_sem, cr]) rfl ?_
      exact ansR_endG _ (Nat.le_refl _) (by rw [E.out.1, E2.out.1, HLL.out]) (by rw [E.out.2, E2.out.2]) ((own_lessB O3.out (by omega)).raise (by omega) (Nat.le_refl _)) HNE.out B3.out _
end Go.Proofs.Ytoebbhicffgdgaa
