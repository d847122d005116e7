/- Products of clusters: contracts. Conditions: stated at each theorem. -/
import Derived.Test.YtbempmbnhfnlbaaClQ
namespace Go.Proofs.Ytbempmbnhfnlbaa
open Go.ChangeShapes Go.WideShapes Go.ChangeAt Go.RowKit Go.Deep
set_option linter.unusedVariables false
set_option linter.unusedSimpArgs false

def mlA (P S W P' S' W' : List Int) : Int := if alC P S W P' S' W' = 0 then pdN W W' W.length else 0
theorem al_zero {P S W P' S' W' : List Int} (h : alC P S W P' S' W' = 0) : clB P S W = true ∧ clB P' S' W' = true ∧ P = P' ∧ S = S' := by
  unfold alC at h
  cases h1 : clB P S W <;> cases h2 : clB P' S' W' <;> rw [h1, h2] at h <;> simp at h
  exact ⟨rfl, rfl, h.1, h.2⟩
set_option maxRecDepth 100000 in
set_option maxHeartbeats 4000000 in
theorem implMult_any (a b c a' b' c' : Value) (P S W P' S' W' : List Int) (w : World) (h : ReadC w w.heap.size a b c P S W) (h' : ReadC w w.heap.size a' b' c' P' S' W') (hP : P.length ≤ 1048576) (hS : S.length ≤ 1048576) (hW : W.length ≤ 1048576) (hP' : P'.length ≤ 1048576) (hS' : S'.length ≤ 1048576) (hW' : W'.length ≤ 1048576) (hwp : ∀ z ∈ P, (Lit.int .i64 z).wf = true) (hws : ∀ z ∈ S, (Lit.int .i64 z).wf = true) (hwp' : ∀ z ∈ P', (Lit.int .i64 z).wf = true) (hws' : ∀ z ∈ S', (Lit.int .i64 z).wf = true) :
    Calls Try.prog 61 #[.agg #[a, b, c], .agg #[a', b', c']] w (AnsII w (mlA P S W P' S' W') (alC P S W P' S' W')) := by
  obtain ⟨W0, HE⟩ : ∃ V, V = (w.alloc (.cells #[a, b, c] 26)).alloc (.cells #[a', b', c'] 26) := ⟨_, rfl⟩
  have hb0 : Below w.heap.size w W0 := by rw [HE]; exact (below_box2 _ _).alloc (by simp) _
  have hx : CBox W0 w.heap.size a b c := by rw [HE]; exact (CBox.new w a b c 26).alloc _
  have hy : CBox W0 (w.heap.size + 1) a' b' c' := by
    have := CBox.new (w.alloc (.cells #[a, b, c] 26)) a' b' c' 26
    rw [World.size_alloc] at this
    rw [HE]; exact this
  have HR := Lib.hid ((h.below hb0).more hb0.size)
  have HR' := Lib.hid ((h'.below hb0).more hb0.size)
  have HB := Lib.hid hb0
  have HEQ := Lib.hid HE
  have HX := Lib.hid hx
  have HY := Lib.hid hy
  have HWP := Lib.hid hwp; have HWS := Lib.hid hws; have HWP' := Lib.hid hwp'; have HWS' := Lib.hid hws'
  have x0 := hx.c0; have x1 := hx.c1; have x2 := hx.c2; have x6 := hx.lt
  have y0 := hy.c0; have y1 := hy.c1; have y2 := hy.c2; have y6 := hy.lt
  clear h h' hb0 hx hy HE hwp hws hwp' hws'
  have HCC := Lib.hid (checkAlike_any a b c a' b' c' P S W P' S' W' W0 HR.out HR'.out hP hS hW hP' hS' hW' HWP.out HWS.out HWP'.out HWS'.out)
  by_cases h0 : alC P S W P' S' W' = 0
  · obtain ⟨hc1, hc2, rfl, rfl⟩ := al_zero h0
    obtain ⟨n, hC⟩ := clB_true hc1
    obtain ⟨n', hC'⟩ := clB_true hc2
    obtain rfl : n = n' := hC.p.symm.trans hC'.p
    have HC := Lib.hid hC
    have HC' := Lib.hid hC'
    have HA : Hid (mlA P S W P S W' = pdN W W' n) := Lib.hid (by rw [mlA, if_pos h0, hC.w])
    have HZ := Lib.hid h0
    rw [HA.out, HZ.out]
    rw [h0] at HCC
    clear h0 hc1 hc2 hC hC'
    go_enter Try.func61, Try.ntmps61
    go_wp2_with fail
    rw [← HEQ.out]
    refine HCC.out.mono ?_
    rintro e w1 ⟨rfl, hb1⟩
    have hX1 := HX.out.below hb1; have hY1 := HY.out.below hb1
    have u0 := hX1.c0; have u1 := hX1.c1; have u2 := hX1.c2; have u6 := hX1.lt
    have v0 := hY1.c0; have v1 := hY1.c1; have v2 := hY1.c2; have v6 := hY1.lt
    have HB1 := Lib.hid (HB.out.trans (hb1.mono HB.out.size))
    have HR1 := Lib.hid ((HR.out.below hb1).more hb1.size); have HR1' := Lib.hid ((HR'.out.below hb1).more hb1.size)
    clear hb1 hX1 hY1 x0 x1 x2 x6 y0 y1 y2 y6
    go_wp2_with fail
    refine (implProduct_any c c' W W' n w1 w1.heap.size w1.heap.size HR1.out.2.2 HR1'.out.2.2 HC.out.w HC'.out.w HC.out.lo HC.out.hi HC.out.wt HC'.out.wt).mono ?_
    rintro e w2 ⟨rfl, m, rfl⟩
    go_wp2_with fail
    go_ret2
    exact AnsII.mkC rfl rfl (below_drewN HB1.out _)
  · have HA : Hid (mlA P S W P' S' W' = 0) := Lib.hid (by rw [mlA, if_neg h0])
    have hne : alC P S W P' S' W' = 1 ∨ alC P S W P' S' W' = 2 := by
      unfold alC at h0 ⊢
      split
      · split
        · rename_i h1 h2; rw [if_pos h1, if_pos h2] at h0; exact absurd rfl h0
        · exact .inr rfl
      · exact .inl rfl
    rw [HA.out]
    clear h0 HA
    rcases hne with hne | hne
    all_goals
      rw [hne] at HCC
      rw [hne]
      clear hne
      go_enter Try.func61, Try.ntmps61
      go_wp2_with fail
      rw [← HEQ.out]
      refine HCC.out.mono ?_
      rintro e w1 ⟨rfl, hb1⟩
      have HB1 := Lib.hid (HB.out.trans (hb1.mono HB.out.size))
      clear hb1
      go_wp2_with fail
      go_ret2
      exact AnsII.mkC rfl rfl HB1.out

set_option maxRecDepth 100000 in
set_option maxHeartbeats 4000000 in
theorem specMult_any (a b c a' b' c' : Value) (P S W P' S' W' : List Int) (w : World) (h : ReadC w w.heap.size a b c P S W) (h' : ReadC w w.heap.size a' b' c' P' S' W') (hP : P.length ≤ 1048576) (hS : S.length ≤ 1048576) (hW : W.length ≤ 1048576) (hP' : P'.length ≤ 1048576) (hS' : S'.length ≤ 1048576) (hW' : W'.length ≤ 1048576) (hwp : ∀ z ∈ P, (Lit.int .i64 z).wf = true) (hws : ∀ z ∈ S, (Lit.int .i64 z).wf = true) (hwp' : ∀ z ∈ P', (Lit.int .i64 z).wf = true) (hws' : ∀ z ∈ S', (Lit.int .i64 z).wf = true) :
    Calls Try.prog 60 #[.agg #[a, b, c], .agg #[a', b', c']] w (AnsII w (mlA P S W P' S' W') (alC P S W P' S' W')) := by
  obtain ⟨W0, HE⟩ : ∃ V, V = (w.alloc (.cells #[a, b, c] 26)).alloc (.cells #[a', b', c'] 26) := ⟨_, rfl⟩
  have hb0 : Below w.heap.size w W0 := by rw [HE]; exact (below_box2 _ _).alloc (by simp) _
  have hx : CBox W0 w.heap.size a b c := by rw [HE]; exact (CBox.new w a b c 26).alloc _
  have hy : CBox W0 (w.heap.size + 1) a' b' c' := by
    have := CBox.new (w.alloc (.cells #[a, b, c] 26)) a' b' c' 26
    rw [World.size_alloc] at this
    rw [HE]; exact this
  have HR := Lib.hid ((h.below hb0).more hb0.size)
  have HR' := Lib.hid ((h'.below hb0).more hb0.size)
  have HB := Lib.hid hb0
  have HEQ := Lib.hid HE
  have HX := Lib.hid hx
  have HY := Lib.hid hy
  have HWP := Lib.hid hwp; have HWS := Lib.hid hws; have HWP' := Lib.hid hwp'; have HWS' := Lib.hid hws'
  have x0 := hx.c0; have x1 := hx.c1; have x2 := hx.c2; have x6 := hx.lt
  have y0 := hy.c0; have y1 := hy.c1; have y2 := hy.c2; have y6 := hy.lt
  clear h h' hb0 hx hy HE hwp hws hwp' hws'
  have HCC := Lib.hid (l07Alike_any a b c a' b' c' P S W P' S' W' W0 HR.out HR'.out hP hS hW hP' hS' hW' HWP.out HWS.out HWP'.out HWS'.out)
  by_cases h0 : alC P S W P' S' W' = 0
  · obtain ⟨hc1, hc2, rfl, rfl⟩ := al_zero h0
    obtain ⟨n, hC⟩ := clB_true hc1
    obtain ⟨n', hC'⟩ := clB_true hc2
    obtain rfl : n = n' := hC.p.symm.trans hC'.p
    have HC := Lib.hid hC
    have HC' := Lib.hid hC'
    have HA : Hid (mlA P S W P S W' = pdN W W' n) := Lib.hid (by rw [mlA, if_pos h0, hC.w])
    have HZ := Lib.hid h0
    rw [HA.out, HZ.out]
    rw [h0] at HCC
    clear h0 hc1 hc2 hC hC'
    go_enter Try.func60, Try.ntmps60
    go_wp2_with fail
    rw [← HEQ.out]
    refine HCC.out.mono ?_
    rintro e w1 ⟨rfl, hb1⟩
    have hX1 := HX.out.below hb1; have hY1 := HY.out.below hb1
    have u0 := hX1.c0; have u1 := hX1.c1; have u2 := hX1.c2; have u6 := hX1.lt
    have v0 := hY1.c0; have v1 := hY1.c1; have v2 := hY1.c2; have v6 := hY1.lt
    have HB1 := Lib.hid (HB.out.trans (hb1.mono HB.out.size))
    have HR1 := Lib.hid ((HR.out.below hb1).more hb1.size); have HR1' := Lib.hid ((HR'.out.below hb1).more hb1.size)
    clear hb1 hX1 hY1 x0 x1 x2 x6 y0 y1 y2 y6
    go_wp2_with fail
    refine (specProduct_any c c' W W' n w1 w1.heap.size w1.heap.size HR1.out.2.2 HR1'.out.2.2 HC.out.w HC'.out.w HC.out.lo HC.out.hi HC.out.wt HC'.out.wt).mono ?_
    rintro e w2 ⟨rfl, m, rfl⟩
    go_wp2_with fail
    go_ret2
    exact AnsII.mkC rfl rfl (below_drewN HB1.out _)
  · have HA : Hid (mlA P S W P' S' W' = 0) := Lib.hid (by rw [mlA, if_neg h0])
    have hne : alC P S W P' S' W' = 1 ∨ alC P S W P' S' W' = 2 := by
      unfold alC at h0 ⊢
      split
      · split
        · rename_i h1 h2; rw [if_pos h1, if_pos h2] at h0; exact absurd rfl h0
        · exact .inr rfl
      · exact .inl rfl
    rw [HA.out]
    clear h0 HA
    rcases hne with hne | hne
    all_goals
      rw [hne] at HCC
      rw [hne]
      clear hne
      go_enter Try.func60, Try.ntmps60
      go_wp2_with fail
      rw [← HEQ.out]
      refine HCC.out.mono ?_
      rintro e w1 ⟨rfl, hb1⟩
      have HB1 := Lib.hid (HB.out.trans (hb1.mono HB.out.size))
      clear hb1
      go_wp2_with fail
      go_ret2
      exact AnsII.mkC rfl rfl HB1.out

theorem specMultiplyClusters_any (a b c : Value) (P S W : List Int) (a' b' c' : Value) (P' S' W' : List Int) (w : World) (h : ReadC w w.heap.size a b c P S W) (hP : P.length ≤ 1048576) (hS : S.length ≤ 1048576) (hW : W.length ≤ 1048576) (hwp : ∀ z ∈ P, (Lit.int .i64 z).wf = true) (hws : ∀ z ∈ S, (Lit.int .i64 z).wf = true) (hww : ∀ z ∈ W, (Lit.int .i64 z).wf = true)
    (h' : ReadC w w.heap.size a' b' c' P' S' W') (hP' : P'.length ≤ 1048576) (hS' : S'.length ≤ 1048576) (hW' : W'.length ≤ 1048576) (hwp' : ∀ z ∈ P', (Lit.int .i64 z).wf = true) (hws' : ∀ z ∈ S', (Lit.int .i64 z).wf = true) (hww' : ∀ z ∈ W', (Lit.int .i64 z).wf = true) :
    Calls Try.prog 60 #[.agg #[a, b, c], .agg #[a', b', c']] w (AnsII w (mlA P S W P' S' W') (alC P S W P' S' W')) := specMult_any a b c a' b' c' P S W P' S' W' w h h' hP hS hW hP' hS' hW' hwp hws hwp' hws'
theorem implMultiplyClusters_any (a b c : Value) (P S W : List Int) (a' b' c' : Value) (P' S' W' : List Int) (w : World) (h : ReadC w w.heap.size a b c P S W) (hP : P.length ≤ 1048576) (hS : S.length ≤ 1048576) (hW : W.length ≤ 1048576) (hwp : ∀ z ∈ P, (Lit.int .i64 z).wf = true) (hws : ∀ z ∈ S, (Lit.int .i64 z).wf = true) (hww : ∀ z ∈ W, (Lit.int .i64 z).wf = true)
    (h' : ReadC w w.heap.size a' b' c' P' S' W') (hP' : P'.length ≤ 1048576) (hS' : S'.length ≤ 1048576) (hW' : W'.length ≤ 1048576) (hwp' : ∀ z ∈ P', (Lit.int .i64 z).wf = true) (hws' : ∀ z ∈ S', (Lit.int .i64 z).wf = true) (hww' : ∀ z ∈ W', (Lit.int .i64 z).wf = true) :
    Calls Try.prog 61 #[.agg #[a, b, c], .agg #[a', b', c']] w (AnsII w (mlA P S W P' S' W') (alC P S W P' S' W')) := implMult_any a b c a' b' c' P S W P' S' W' w h h' hP hS hW hP' hS' hW' hwp hws hwp' hws'
end Go.Proofs.Ytbempmbnhfnlbaa
