/- The mixed product. Conditions: stated at each theorem. -/
import Derived.Test.YtohbgfmjnanlkaaSq
import Derived.Test.YtohbgfmjnanlkaaClS
namespace Go.Proofs.Ytohbgfmjnanlkaa
open Go.ChangeShapes Go.WideShapes Go.ChangeAt Go.RowKit Go.Deep
set_option linter.unusedVariables false
set_option linter.unusedSimpArgs false

theorem ul_03 {P S W : List Int} (h : clB P S W = true) : ulC P S W = 0 ∨ ulC P S W = 3 := by
  unfold ulC; rw [if_pos h]
  cases wtOK (ulL P S W P.length)
  · exact .inr rfl
  · exact .inl rfl
theorem ul_list {P S W : List Int} (h : ulC P S W = 0) : (ulWA P S W).length = P.length ∧ wtOK (ulWA P S W) = true := by
  obtain ⟨n, hC, hw⟩ := ul_cl h
  rw [(ul_yes hC hw).2.2.2, ulL_len, hC.p]
  exact ⟨rfl, hw⟩
noncomputable def mxC (P S W P' S' W' : List Int) : Int := if alC P S W P' S' W' = 0 then (if ulC P S W = 0 ∧ ulC P' S' W' = 0 then 0 else 3) else alC P S W P' S' W'
noncomputable def mxA (P S W P' S' W' : List Int) : Int := if mxC P S W P' S' W' = 0 then pdN (ulWA P S W) (ulWA P' S' W') P.length else 0

set_option maxRecDepth 100000 in
set_option maxHeartbeats 4000000 in
theorem specMixedProduct_any (a b c : Value) (P S W : List Int) (a' b' c' : Value) (P' S' W' : List Int) (w : World) (h : ReadC w w.heap.size a b c P S W) (hP : P.length ≤ 1048576) (hS : S.length ≤ 1048576) (hW : W.length ≤ 1048576) (hwp : ∀ z ∈ P, (Lit.int .i64 z).wf = true) (hws : ∀ z ∈ S, (Lit.int .i64 z).wf = true) (hww : ∀ z ∈ W, (Lit.int .i64 z).wf = true)
    (h' : ReadC w w.heap.size a' b' c' P' S' W') (hP' : P'.length ≤ 1048576) (hS' : S'.length ≤ 1048576) (hW' : W'.length ≤ 1048576) (hwp' : ∀ z ∈ P', (Lit.int .i64 z).wf = true) (hws' : ∀ z ∈ S', (Lit.int .i64 z).wf = true) (hww' : ∀ z ∈ W', (Lit.int .i64 z).wf = true) :
    Calls Try.prog 21 #[.agg #[a, b, c], .agg #[a', b', c']] w (AnsII w (mxA P S W P' S' W') (mxC P S W P' S' W')) := by
  obtain ⟨W0, HE⟩ : ∃ V, V = (w.alloc (.cells #[a, b, c] 36)).alloc (.cells #[a', b', c'] 36) := ⟨_, rfl⟩
  have hb0 : Below w.heap.size w W0 := by rw [HE]; exact (below_box2 _ _).alloc (by simp) _
  have hx : CBox W0 w.heap.size a b c := by rw [HE]; exact (CBox.new w a b c 36).alloc _
  have hy : CBox W0 (w.heap.size + 1) a' b' c' := by
    have := CBox.new (w.alloc (.cells #[a, b, c] 36)) a' b' c' 36
    rw [World.size_alloc] at this
    rw [HE]; exact this
  have HR := Lib.hid ((h.below hb0).more hb0.size)
  have HR' := Lib.hid ((h'.below hb0).more hb0.size)
  have HB := Lib.hid hb0
  have HEQ := Lib.hid HE
  have HX := Lib.hid hx
  have HY := Lib.hid hy
  have HWP := Lib.hid hwp; have HWS := Lib.hid hws; have HWW := Lib.hid hww; have HWP' := Lib.hid hwp'; have HWS' := Lib.hid hws'; have HWW' := Lib.hid hww'
  have x0 := hx.c0; have x1 := hx.c1; have x2 := hx.c2; have x6 := hx.lt
  have y0 := hy.c0; have y1 := hy.c1; have y2 := hy.c2; have y6 := hy.lt
  clear h h' hb0 hx hy HE hwp hws hwp' hws' hww hww'
  have HCC := Lib.hid (l07Alike_any a b c a' b' c' P S W P' S' W' W0 HR.out HR'.out hP hS hW hP' hS' hW' HWP.out HWS.out HWP'.out HWS'.out)
  by_cases h0 : alC P S W P' S' W' = 0
  · obtain ⟨e1, e2, e3, e4⟩ := al_zero h0
    have HPP : Hid (P' = P) := Lib.hid e3.symm
    have HN : Hid (1 ≤ P.length ∧ P.length ≤ 24) := Lib.hid (by obtain ⟨n, hC⟩ := clB_true e1; rw [hC.p]; exact ⟨hC.lo, hC.hi⟩)
    rcases ul_03 e1 with k1 | k1
    · rcases ul_03 e2 with k2 | k2
      · clear e1 e2 e3 e4
        have HK : Hid (mxC P S W P' S' W' = 0) := Lib.hid (by unfold mxC; rw [if_pos h0]; simp [k1, k2])
        have HA : Hid (mxA P S W P' S' W' = pdN (ulWA P S W) (ulWA P' S' W') P.length) := Lib.hid (by unfold mxA; rw [HK.out]; simp)
        rw [HK.out, HA.out]
        have HU1 := Lib.hid (fun (V : World) (hR : ReadC V V.heap.size a b c P S W) => specUnloadCluster_any a b c P S W V hR hP hS hW HWP.out HWS.out HWW.out)
        have HU2 := Lib.hid (fun (V : World) (hR : ReadC V V.heap.size a' b' c' P' S' W') => specUnloadCluster_any a' b' c' P' S' W' V hR hP' hS' hW' HWP'.out HWS'.out HWW'.out)
        rw [k1] at HU1
        rw [k2] at HU2
        rw [h0] at HCC
        have HL1 := Lib.hid (ul_list k1)
        have HL2 := Lib.hid (ul_list k2)
        clear h0 k1 k2
        go_enter Try.func21, Try.ntmps21
        go_wp2_with fail
        rw [← HEQ.out]
        go_wp2_with (first | (go_at_call 69; refine HCC.out.mono ?_; rintro e w1 ⟨rfl, hb1⟩; have C1 := Lib.hid (HB.out.trans (hb1.mono HB.out.size)); have hx1 := HX.out.below hb1; have hy1 := HY.out.below hb1; have x0 := hx1.c0; have x1 := hx1.c1; have x2 := hx1.c2; have y0 := hy1.c0; have y1 := hy1.c1; have y2 := hy1.c2; have y6 := hy1.lt; have HY1 := Lib.hid hy1; have HR1 := Lib.hid ((HR.out.below hb1).more hb1.size); have HR1' := Lib.hid ((HR'.out.below hb1).more hb1.size); clear hb1 hx1 hy1) | (go_at_call 70; (with_reducible refine (HU1.out w1 HR1.out).mono ?_); rintro e w2 ⟨a1, b1, c1, rfl, ⟨hh, l0, h0, l1, h1, l2, h2, ap, o0, o1, o2⟩, hb⟩; obtain ⟨A1, k1, rfl⟩ := own_form o0.1; obtain ⟨A2, k2, rfl⟩ := own_form o1.1; obtain ⟨A3, k3, rfl⟩ := own_form o2.1; have C2 := Lib.hid (C1.out.trans (hb.mono C1.out.size)); have hy2 := HY1.out.below hb; have y0 := hy2.c0; have y1 := hy2.c1; have y2 := hy2.c2; have y6 := hy2.lt; have HR2' := Lib.hid ((HR1'.out.below hb).more hb.size); have HO2 := Lib.hid o2; clear hb hy2 o0 o1 o2 ap hh) | (go_at_call 70; (with_reducible refine (HU2.out (w2.alloc (.cells #[.slice A1 (ulPA P S W).length k1, .slice A2 (ulSA P S W).length k2, .slice A3 (ulWA P S W).length k3] 36)) ((HR2'.out.below (below_box2 w2 (.cells #[.slice A1 (ulPA P S W).length k1, .slice A2 (ulSA P S W).length k2, .slice A3 (ulWA P S W).length k3] 36))).more (by simp))).mono ?_); rintro e w3 ⟨a4, b4, c4, rfl, ⟨hh, l0, h0, l1, h1, l2, h2, ap, o0, o1, o2⟩, hb⟩; obtain ⟨A4, k4, rfl⟩ := own_form o0.1; obtain ⟨A5, k5, rfl⟩ := own_form o1.1; obtain ⟨A6, k6, rfl⟩ := own_form o2.1; have C2a := C2.out.alloc (by have := C2.out.size; omega) (.cells #[.slice A1 (ulPA P S W).length k1, .slice A2 (ulSA P S W).length k2, .slice A3 (ulWA P S W).length k3] 36); have C3 := Lib.hid (C2a.trans (hb.mono C2a.size)); have q2 := (hb.cell (p := ⟨w2.heap.size, 2, none⟩) (by simp)).trans (CBox.new w2 (.slice A1 (ulPA P S W).length k1) (.slice A2 (ulSA P S W).length k2) (.slice A3 (ulWA P S W).length k3) 36).c2; have q6 : w2.heap.size < w3.heap.size := (by have h9 := hb.size; rw [World.size_alloc] at h9; omega); have HO3 := Lib.hid ((HO2.out.stay (below_box2 _ _)).stay hb); have HO6 := Lib.hid o2; clear hb C2a o0 o1 o2 ap hh))
        refine (specProduct_any _ _ (ulWA P S W) (ulWA P' S' W') P.length _ _ _ ((HO3.out.stay (below_box2 _ _)).reads) ((HO6.out.stay (below_box2 _ _)).reads) HL1.out.1 (HL2.out.1.trans (by rw [HPP.out])) HN.out.1 HN.out.2 HL1.out.2 HL2.out.2).mono ?_
        rintro e w4 ⟨rfl, d, rfl⟩
        go_wp2_with fail
        go_ret2
        exact ⟨rfl, (C3.out.alloc (by have := C3.out.size; omega) _).trans (drewN_below _ d)⟩
      · clear e1 e2 e3 e4
        have HK : Hid (mxC P S W P' S' W' = 3) := Lib.hid (by unfold mxC; rw [if_pos h0]; simp [k1, k2])
        have HA : Hid (mxA P S W P' S' W' = 0) := Lib.hid (by unfold mxA; rw [HK.out]; simp)
        rw [HK.out, HA.out]
        have HU1 := Lib.hid (fun (V : World) (hR : ReadC V V.heap.size a b c P S W) => specUnloadCluster_any a b c P S W V hR hP hS hW HWP.out HWS.out HWW.out)
        have HU2 := Lib.hid (fun (V : World) (hR : ReadC V V.heap.size a' b' c' P' S' W') => specUnloadCluster_any a' b' c' P' S' W' V hR hP' hS' hW' HWP'.out HWS'.out HWW'.out)
        rw [k1] at HU1
        rw [k2] at HU2
        rw [h0] at HCC
        clear h0 k1 k2
        go_enter Try.func21, Try.ntmps21
        go_wp2_with fail
        rw [← HEQ.out]
        go_wp2_with (first | (go_at_call 69; refine HCC.out.mono ?_; rintro e w1 ⟨rfl, hb1⟩; have C1 := Lib.hid (HB.out.trans (hb1.mono HB.out.size)); have hx1 := HX.out.below hb1; have hy1 := HY.out.below hb1; have x0 := hx1.c0; have x1 := hx1.c1; have x2 := hx1.c2; have y0 := hy1.c0; have y1 := hy1.c1; have y2 := hy1.c2; have y6 := hy1.lt; have HY1 := Lib.hid hy1; have HR1 := Lib.hid ((HR.out.below hb1).more hb1.size); have HR1' := Lib.hid ((HR'.out.below hb1).more hb1.size); clear hb1 hx1 hy1) | (go_at_call 70; (with_reducible refine (HU1.out w1 HR1.out).mono ?_); rintro e w2 ⟨a1, b1, c1, rfl, ⟨hh, l0, h0, l1, h1, l2, h2, ap, o0, o1, o2⟩, hb⟩; obtain ⟨A1, k1, rfl⟩ := own_form o0.1; obtain ⟨A2, k2, rfl⟩ := own_form o1.1; obtain ⟨A3, k3, rfl⟩ := own_form o2.1; have C2 := Lib.hid (C1.out.trans (hb.mono C1.out.size)); have hy2 := HY1.out.below hb; have y0 := hy2.c0; have y1 := hy2.c1; have y2 := hy2.c2; have y6 := hy2.lt; have HR2' := Lib.hid ((HR1'.out.below hb).more hb.size); have HO2 := Lib.hid o2; clear hb hy2 o0 o1 o2 ap hh) | (go_at_call 70; (with_reducible refine (HU2.out (w2.alloc (.cells #[.slice A1 (ulPA P S W).length k1, .slice A2 (ulSA P S W).length k2, .slice A3 (ulWA P S W).length k3] 36)) ((HR2'.out.below (below_box2 w2 (.cells #[.slice A1 (ulPA P S W).length k1, .slice A2 (ulSA P S W).length k2, .slice A3 (ulWA P S W).length k3] 36))).more (by simp))).mono ?_); rintro e w3 ⟨a4, b4, c4, rfl, ⟨hh, l0, h0, l1, h1, l2, h2, ap, o0, o1, o2⟩, hb⟩; obtain ⟨A4, k4, rfl⟩ := own_form o0.1; obtain ⟨A5, k5, rfl⟩ := own_form o1.1; obtain ⟨A6, k6, rfl⟩ := own_form o2.1; have C2a := C2.out.alloc (by have := C2.out.size; omega) (.cells #[.slice A1 (ulPA P S W).length k1, .slice A2 (ulSA P S W).length k2, .slice A3 (ulWA P S W).length k3] 36); have C3 := Lib.hid (C2a.trans (hb.mono C2a.size)); have q2 := (hb.cell (p := ⟨w2.heap.size, 2, none⟩) (by simp)).trans (CBox.new w2 (.slice A1 (ulPA P S W).length k1) (.slice A2 (ulSA P S W).length k2) (.slice A3 (ulWA P S W).length k3) 36).c2; have q6 : w2.heap.size < w3.heap.size := (by have h9 := hb.size; rw [World.size_alloc] at h9; omega); have HO3 := Lib.hid ((HO2.out.stay (below_box2 _ _)).stay hb); have HO6 := Lib.hid o2; clear hb C2a o0 o1 o2 ap hh))
        go_ret2
        exact ⟨rfl, C3.out.alloc (by have := C3.out.size; omega) _⟩
    · rcases ul_03 e2 with k2 | k2
      · clear e1 e2 e3 e4
        have HK : Hid (mxC P S W P' S' W' = 3) := Lib.hid (by unfold mxC; rw [if_pos h0]; simp [k1, k2])
        have HA : Hid (mxA P S W P' S' W' = 0) := Lib.hid (by unfold mxA; rw [HK.out]; simp)
        rw [HK.out, HA.out]
        have HU1 := Lib.hid (fun (V : World) (hR : ReadC V V.heap.size a b c P S W) => specUnloadCluster_any a b c P S W V hR hP hS hW HWP.out HWS.out HWW.out)
        have HU2 := Lib.hid (fun (V : World) (hR : ReadC V V.heap.size a' b' c' P' S' W') => specUnloadCluster_any a' b' c' P' S' W' V hR hP' hS' hW' HWP'.out HWS'.out HWW'.out)
        rw [k1] at HU1
        rw [k2] at HU2
        rw [h0] at HCC
        clear h0 k1 k2
        go_enter Try.func21, Try.ntmps21
        go_wp2_with fail
        rw [← HEQ.out]
        go_wp2_with (first | (go_at_call 69; refine HCC.out.mono ?_; rintro e w1 ⟨rfl, hb1⟩; have C1 := Lib.hid (HB.out.trans (hb1.mono HB.out.size)); have hx1 := HX.out.below hb1; have hy1 := HY.out.below hb1; have x0 := hx1.c0; have x1 := hx1.c1; have x2 := hx1.c2; have y0 := hy1.c0; have y1 := hy1.c1; have y2 := hy1.c2; have y6 := hy1.lt; have HY1 := Lib.hid hy1; have HR1 := Lib.hid ((HR.out.below hb1).more hb1.size); have HR1' := Lib.hid ((HR'.out.below hb1).more hb1.size); clear hb1 hx1 hy1) | (go_at_call 70; (with_reducible refine (HU1.out w1 HR1.out).mono ?_); rintro e w2 ⟨a1, b1, c1, rfl, ⟨hh, l0, h0, l1, h1, l2, h2, ap, o0, o1, o2⟩, hb⟩; obtain ⟨A1, k1, rfl⟩ := own_form o0.1; obtain ⟨A2, k2, rfl⟩ := own_form o1.1; obtain ⟨A3, k3, rfl⟩ := own_form o2.1; have C2 := Lib.hid (C1.out.trans (hb.mono C1.out.size)); have hy2 := HY1.out.below hb; have y0 := hy2.c0; have y1 := hy2.c1; have y2 := hy2.c2; have y6 := hy2.lt; have HR2' := Lib.hid ((HR1'.out.below hb).more hb.size); have HO2 := Lib.hid o2; clear hb hy2 o0 o1 o2 ap hh) | (go_at_call 70; (with_reducible refine (HU2.out (w2.alloc (.cells #[.slice A1 (ulPA P S W).length k1, .slice A2 (ulSA P S W).length k2, .slice A3 (ulWA P S W).length k3] 36)) ((HR2'.out.below (below_box2 w2 (.cells #[.slice A1 (ulPA P S W).length k1, .slice A2 (ulSA P S W).length k2, .slice A3 (ulWA P S W).length k3] 36))).more (by simp))).mono ?_); rintro e w3 ⟨a4, b4, c4, rfl, ⟨hh, l0, h0, l1, h1, l2, h2, ap, o0, o1, o2⟩, hb⟩; obtain ⟨A4, k4, rfl⟩ := own_form o0.1; obtain ⟨A5, k5, rfl⟩ := own_form o1.1; obtain ⟨A6, k6, rfl⟩ := own_form o2.1; have C2a := C2.out.alloc (by have := C2.out.size; omega) (.cells #[.slice A1 (ulPA P S W).length k1, .slice A2 (ulSA P S W).length k2, .slice A3 (ulWA P S W).length k3] 36); have C3 := Lib.hid (C2a.trans (hb.mono C2a.size)); have q2 := (hb.cell (p := ⟨w2.heap.size, 2, none⟩) (by simp)).trans (CBox.new w2 (.slice A1 (ulPA P S W).length k1) (.slice A2 (ulSA P S W).length k2) (.slice A3 (ulWA P S W).length k3) 36).c2; have q6 : w2.heap.size < w3.heap.size := (by have h9 := hb.size; rw [World.size_alloc] at h9; omega); have HO3 := Lib.hid ((HO2.out.stay (below_box2 _ _)).stay hb); have HO6 := Lib.hid o2; clear hb C2a o0 o1 o2 ap hh))
        go_ret2
        exact ⟨rfl, C3.out.alloc (by have := C3.out.size; omega) _⟩
      · clear e1 e2 e3 e4
        have HK : Hid (mxC P S W P' S' W' = 3) := Lib.hid (by unfold mxC; rw [if_pos h0]; simp [k1, k2])
        have HA : Hid (mxA P S W P' S' W' = 0) := Lib.hid (by unfold mxA; rw [HK.out]; simp)
        rw [HK.out, HA.out]
        have HU1 := Lib.hid (fun (V : World) (hR : ReadC V V.heap.size a b c P S W) => specUnloadCluster_any a b c P S W V hR hP hS hW HWP.out HWS.out HWW.out)
        have HU2 := Lib.hid (fun (V : World) (hR : ReadC V V.heap.size a' b' c' P' S' W') => specUnloadCluster_any a' b' c' P' S' W' V hR hP' hS' hW' HWP'.out HWS'.out HWW'.out)
        rw [k1] at HU1
        rw [k2] at HU2
        rw [h0] at HCC
        clear h0 k1 k2
        go_enter Try.func21, Try.ntmps21
        go_wp2_with fail
        rw [← HEQ.out]
        go_wp2_with (first | (go_at_call 69; refine HCC.out.mono ?_; rintro e w1 ⟨rfl, hb1⟩; have C1 := Lib.hid (HB.out.trans (hb1.mono HB.out.size)); have hx1 := HX.out.below hb1; have hy1 := HY.out.below hb1; have x0 := hx1.c0; have x1 := hx1.c1; have x2 := hx1.c2; have y0 := hy1.c0; have y1 := hy1.c1; have y2 := hy1.c2; have y6 := hy1.lt; have HY1 := Lib.hid hy1; have HR1 := Lib.hid ((HR.out.below hb1).more hb1.size); have HR1' := Lib.hid ((HR'.out.below hb1).more hb1.size); clear hb1 hx1 hy1) | (go_at_call 70; (with_reducible refine (HU1.out w1 HR1.out).mono ?_); rintro e w2 ⟨a1, b1, c1, rfl, ⟨hh, l0, h0, l1, h1, l2, h2, ap, o0, o1, o2⟩, hb⟩; obtain ⟨A1, k1, rfl⟩ := own_form o0.1; obtain ⟨A2, k2, rfl⟩ := own_form o1.1; obtain ⟨A3, k3, rfl⟩ := own_form o2.1; have C2 := Lib.hid (C1.out.trans (hb.mono C1.out.size)); have hy2 := HY1.out.below hb; have y0 := hy2.c0; have y1 := hy2.c1; have y2 := hy2.c2; have y6 := hy2.lt; have HR2' := Lib.hid ((HR1'.out.below hb).more hb.size); have HO2 := Lib.hid o2; clear hb hy2 o0 o1 o2 ap hh) | (go_at_call 70; (with_reducible refine (HU2.out (w2.alloc (.cells #[.slice A1 (ulPA P S W).length k1, .slice A2 (ulSA P S W).length k2, .slice A3 (ulWA P S W).length k3] 36)) ((HR2'.out.below (below_box2 w2 (.cells #[.slice A1 (ulPA P S W).length k1, .slice A2 (ulSA P S W).length k2, .slice A3 (ulWA P S W).length k3] 36))).more (by simp))).mono ?_); rintro e w3 ⟨a4, b4, c4, rfl, ⟨hh, l0, h0, l1, h1, l2, h2, ap, o0, o1, o2⟩, hb⟩; obtain ⟨A4, k4, rfl⟩ := own_form o0.1; obtain ⟨A5, k5, rfl⟩ := own_form o1.1; obtain ⟨A6, k6, rfl⟩ := own_form o2.1; have C2a := C2.out.alloc (by have := C2.out.size; omega) (.cells #[.slice A1 (ulPA P S W).length k1, .slice A2 (ulSA P S W).length k2, .slice A3 (ulWA P S W).length k3] 36); have C3 := Lib.hid (C2a.trans (hb.mono C2a.size)); have q2 := (hb.cell (p := ⟨w2.heap.size, 2, none⟩) (by simp)).trans (CBox.new w2 (.slice A1 (ulPA P S W).length k1) (.slice A2 (ulSA P S W).length k2) (.slice A3 (ulWA P S W).length k3) 36).c2; have q6 : w2.heap.size < w3.heap.size := (by have h9 := hb.size; rw [World.size_alloc] at h9; omega); have HO3 := Lib.hid ((HO2.out.stay (below_box2 _ _)).stay hb); have HO6 := Lib.hid o2; clear hb C2a o0 o1 o2 ap hh))
        go_ret2
        exact ⟨rfl, C3.out.alloc (by have := C3.out.size; omega) _⟩
  · obtain ⟨C, hC⟩ : ∃ C, alC P S W P' S' W' = C := ⟨_, rfl⟩
    have HK : Hid (mxC P S W P' S' W' = C) := Lib.hid (by unfold mxC; rw [if_neg h0, hC])
    rw [hC] at h0 HCC
    have HA : Hid (mxA P S W P' S' W' = 0) := Lib.hid (by unfold mxA; rw [HK.out, if_neg h0])
    rw [HK.out, HA.out]
    have hne : (C == 0) = false := by simpa using h0
    clear hC
    go_enter Try.func21, Try.ntmps21
    go_wp2_with fail
    rw [← HEQ.out]
    go_wp2_with (go_at_call 69; refine HCC.out.mono ?_; rintro e w1 ⟨rfl, hb1⟩; have C1 := Lib.hid (HB.out.trans (hb1.mono HB.out.size)); have hx1 := HX.out.below hb1; have hy1 := HY.out.below hb1; have x0 := hx1.c0; have x1 := hx1.c1; have x2 := hx1.c2; have y0 := hy1.c0; have y1 := hy1.c1; have y2 := hy1.c2; have y6 := hy1.lt; have HY1 := Lib.hid hy1; have HR1 := Lib.hid ((HR.out.below hb1).more hb1.size); have HR1' := Lib.hid ((HR'.out.below hb1).more hb1.size); clear hb1 hx1 hy1)
    go_ret2
    exact ⟨rfl, C1.out⟩

set_option maxRecDepth 100000 in
set_option maxHeartbeats 4000000 in
theorem implMixedProduct_any (a b c : Value) (P S W : List Int) (a' b' c' : Value) (P' S' W' : List Int) (w : World) (h : ReadC w w.heap.size a b c P S W) (hP : P.length ≤ 1048576) (hS : S.length ≤ 1048576) (hW : W.length ≤ 1048576) (hwp : ∀ z ∈ P, (Lit.int .i64 z).wf = true) (hws : ∀ z ∈ S, (Lit.int .i64 z).wf = true) (hww : ∀ z ∈ W, (Lit.int .i64 z).wf = true)
    (h' : ReadC w w.heap.size a' b' c' P' S' W') (hP' : P'.length ≤ 1048576) (hS' : S'.length ≤ 1048576) (hW' : W'.length ≤ 1048576) (hwp' : ∀ z ∈ P', (Lit.int .i64 z).wf = true) (hws' : ∀ z ∈ S', (Lit.int .i64 z).wf = true) (hww' : ∀ z ∈ W', (Lit.int .i64 z).wf = true) :
    Calls Try.prog 23 #[.agg #[a, b, c], .agg #[a', b', c']] w (AnsII w (mxA P S W P' S' W') (mxC P S W P' S' W')) := by
  obtain ⟨W0, HE⟩ : ∃ V, V = (w.alloc (.cells #[a, b, c] 36)).alloc (.cells #[a', b', c'] 36) := ⟨_, rfl⟩
  have hb0 : Below w.heap.size w W0 := by rw [HE]; exact (below_box2 _ _).alloc (by simp) _
  have hx : CBox W0 w.heap.size a b c := by rw [HE]; exact (CBox.new w a b c 36).alloc _
  have hy : CBox W0 (w.heap.size + 1) a' b' c' := by
    have := CBox.new (w.alloc (.cells #[a, b, c] 36)) a' b' c' 36
    rw [World.size_alloc] at this
    rw [HE]; exact this
  have HR := Lib.hid ((h.below hb0).more hb0.size)
  have HR' := Lib.hid ((h'.below hb0).more hb0.size)
  have HB := Lib.hid hb0
  have HEQ := Lib.hid HE
  have HX := Lib.hid hx
  have HY := Lib.hid hy
  have HWP := Lib.hid hwp; have HWS := Lib.hid hws; have HWW := Lib.hid hww; have HWP' := Lib.hid hwp'; have HWS' := Lib.hid hws'; have HWW' := Lib.hid hww'
  have x0 := hx.c0; have x1 := hx.c1; have x2 := hx.c2; have x6 := hx.lt
  have y0 := hy.c0; have y1 := hy.c1; have y2 := hy.c2; have y6 := hy.lt
  clear h h' hb0 hx hy HE hwp hws hwp' hws' hww hww'
  have HCC := Lib.hid (checkAlike_any a b c a' b' c' P S W P' S' W' W0 HR.out HR'.out hP hS hW hP' hS' hW' HWP.out HWS.out HWP'.out HWS'.out)
  by_cases h0 : alC P S W P' S' W' = 0
  · obtain ⟨e1, e2, e3, e4⟩ := al_zero h0
    have HPP : Hid (P' = P) := Lib.hid e3.symm
    have HN : Hid (1 ≤ P.length ∧ P.length ≤ 24) := Lib.hid (by obtain ⟨n, hC⟩ := clB_true e1; rw [hC.p]; exact ⟨hC.lo, hC.hi⟩)
    rcases ul_03 e1 with k1 | k1
    · rcases ul_03 e2 with k2 | k2
      · clear e1 e2 e3 e4
        have HK : Hid (mxC P S W P' S' W' = 0) := Lib.hid (by unfold mxC; rw [if_pos h0]; simp [k1, k2])
        have HA : Hid (mxA P S W P' S' W' = pdN (ulWA P S W) (ulWA P' S' W') P.length) := Lib.hid (by unfold mxA; rw [HK.out]; simp)
        rw [HK.out, HA.out]
        have HU1 := Lib.hid (fun (V : World) (hR : ReadC V V.heap.size a b c P S W) => implUnloadCluster_any a b c P S W V hR hP hS hW HWP.out HWS.out HWW.out)
        have HU2 := Lib.hid (fun (V : World) (hR : ReadC V V.heap.size a' b' c' P' S' W') => implUnloadCluster_any a' b' c' P' S' W' V hR hP' hS' hW' HWP'.out HWS'.out HWW'.out)
        rw [k1] at HU1
        rw [k2] at HU2
        rw [h0] at HCC
        have HL1 := Lib.hid (ul_list k1)
        have HL2 := Lib.hid (ul_list k2)
        clear h0 k1 k2
        go_enter Try.func23, Try.ntmps23
        go_wp2_with fail
        rw [← HEQ.out]
        go_wp2_with (first | (go_at_call 72; refine HCC.out.mono ?_; rintro e w1 ⟨rfl, hb1⟩; have C1 := Lib.hid (HB.out.trans (hb1.mono HB.out.size)); have hx1 := HX.out.below hb1; have hy1 := HY.out.below hb1; have x0 := hx1.c0; have x1 := hx1.c1; have x2 := hx1.c2; have y0 := hy1.c0; have y1 := hy1.c1; have y2 := hy1.c2; have y6 := hy1.lt; have HY1 := Lib.hid hy1; have HR1 := Lib.hid ((HR.out.below hb1).more hb1.size); have HR1' := Lib.hid ((HR'.out.below hb1).more hb1.size); clear hb1 hx1 hy1) | (go_at_call 73; (with_reducible refine (HU1.out w1 HR1.out).mono ?_); rintro e w2 ⟨a1, b1, c1, rfl, ⟨hh, l0, h0, l1, h1, l2, h2, ap, o0, o1, o2⟩, hb⟩; obtain ⟨A1, k1, rfl⟩ := own_form o0.1; obtain ⟨A2, k2, rfl⟩ := own_form o1.1; obtain ⟨A3, k3, rfl⟩ := own_form o2.1; have C2 := Lib.hid (C1.out.trans (hb.mono C1.out.size)); have hy2 := HY1.out.below hb; have y0 := hy2.c0; have y1 := hy2.c1; have y2 := hy2.c2; have y6 := hy2.lt; have HR2' := Lib.hid ((HR1'.out.below hb).more hb.size); have HO2 := Lib.hid o2; clear hb hy2 o0 o1 o2 ap hh) | (go_at_call 73; (with_reducible refine (HU2.out (w2.alloc (.cells #[.slice A1 (ulPA P S W).length k1, .slice A2 (ulSA P S W).length k2, .slice A3 (ulWA P S W).length k3] 36)) ((HR2'.out.below (below_box2 w2 (.cells #[.slice A1 (ulPA P S W).length k1, .slice A2 (ulSA P S W).length k2, .slice A3 (ulWA P S W).length k3] 36))).more (by simp))).mono ?_); rintro e w3 ⟨a4, b4, c4, rfl, ⟨hh, l0, h0, l1, h1, l2, h2, ap, o0, o1, o2⟩, hb⟩; obtain ⟨A4, k4, rfl⟩ := own_form o0.1; obtain ⟨A5, k5, rfl⟩ := own_form o1.1; obtain ⟨A6, k6, rfl⟩ := own_form o2.1; have C2a := C2.out.alloc (by have := C2.out.size; omega) (.cells #[.slice A1 (ulPA P S W).length k1, .slice A2 (ulSA P S W).length k2, .slice A3 (ulWA P S W).length k3] 36); have C3 := Lib.hid (C2a.trans (hb.mono C2a.size)); have q2 := (hb.cell (p := ⟨w2.heap.size, 2, none⟩) (by simp)).trans (CBox.new w2 (.slice A1 (ulPA P S W).length k1) (.slice A2 (ulSA P S W).length k2) (.slice A3 (ulWA P S W).length k3) 36).c2; have q6 : w2.heap.size < w3.heap.size := (by have h9 := hb.size; rw [World.size_alloc] at h9; omega); have HO3 := Lib.hid ((HO2.out.stay (below_box2 _ _)).stay hb); have HO6 := Lib.hid o2; clear hb C2a o0 o1 o2 ap hh))
        refine (implProduct_any _ _ (ulWA P S W) (ulWA P' S' W') P.length _ _ _ ((HO3.out.stay (below_box2 _ _)).reads) ((HO6.out.stay (below_box2 _ _)).reads) HL1.out.1 (HL2.out.1.trans (by rw [HPP.out])) HN.out.1 HN.out.2 HL1.out.2 HL2.out.2).mono ?_
        rintro e w4 ⟨rfl, d, rfl⟩
        go_wp2_with fail
        go_ret2
        exact ⟨rfl, (C3.out.alloc (by have := C3.out.size; omega) _).trans (drewN_below _ d)⟩
      · clear e1 e2 e3 e4
        have HK : Hid (mxC P S W P' S' W' = 3) := Lib.hid (by unfold mxC; rw [if_pos h0]; simp [k1, k2])
        have HA : Hid (mxA P S W P' S' W' = 0) := Lib.hid (by unfold mxA; rw [HK.out]; simp)
        rw [HK.out, HA.out]
        have HU1 := Lib.hid (fun (V : World) (hR : ReadC V V.heap.size a b c P S W) => implUnloadCluster_any a b c P S W V hR hP hS hW HWP.out HWS.out HWW.out)
        have HU2 := Lib.hid (fun (V : World) (hR : ReadC V V.heap.size a' b' c' P' S' W') => implUnloadCluster_any a' b' c' P' S' W' V hR hP' hS' hW' HWP'.out HWS'.out HWW'.out)
        rw [k1] at HU1
        rw [k2] at HU2
        rw [h0] at HCC
        clear h0 k1 k2
        go_enter Try.func23, Try.ntmps23
        go_wp2_with fail
        rw [← HEQ.out]
        go_wp2_with (first | (go_at_call 72; refine HCC.out.mono ?_; rintro e w1 ⟨rfl, hb1⟩; have C1 := Lib.hid (HB.out.trans (hb1.mono HB.out.size)); have hx1 := HX.out.below hb1; have hy1 := HY.out.below hb1; have x0 := hx1.c0; have x1 := hx1.c1; have x2 := hx1.c2; have y0 := hy1.c0; have y1 := hy1.c1; have y2 := hy1.c2; have y6 := hy1.lt; have HY1 := Lib.hid hy1; have HR1 := Lib.hid ((HR.out.below hb1).more hb1.size); have HR1' := Lib.hid ((HR'.out.below hb1).more hb1.size); clear hb1 hx1 hy1) | (go_at_call 73; (with_reducible refine (HU1.out w1 HR1.out).mono ?_); rintro e w2 ⟨a1, b1, c1, rfl, ⟨hh, l0, h0, l1, h1, l2, h2, ap, o0, o1, o2⟩, hb⟩; obtain ⟨A1, k1, rfl⟩ := own_form o0.1; obtain ⟨A2, k2, rfl⟩ := own_form o1.1; obtain ⟨A3, k3, rfl⟩ := own_form o2.1; have C2 := Lib.hid (C1.out.trans (hb.mono C1.out.size)); have hy2 := HY1.out.below hb; have y0 := hy2.c0; have y1 := hy2.c1; have y2 := hy2.c2; have y6 := hy2.lt; have HR2' := Lib.hid ((HR1'.out.below hb).more hb.size); have HO2 := Lib.hid o2; clear hb hy2 o0 o1 o2 ap hh) | (go_at_call 73; (with_reducible refine (HU2.out (w2.alloc (.cells #[.slice A1 (ulPA P S W).length k1, .slice A2 (ulSA P S W).length k2, .slice A3 (ulWA P S W).length k3] 36)) ((HR2'.out.below (below_box2 w2 (.cells #[.slice A1 (ulPA P S W).length k1, .slice A2 (ulSA P S W).length k2, .slice A3 (ulWA P S W).length k3] 36))).more (by simp))).mono ?_); rintro e w3 ⟨a4, b4, c4, rfl, ⟨hh, l0, h0, l1, h1, l2, h2, ap, o0, o1, o2⟩, hb⟩; obtain ⟨A4, k4, rfl⟩ := own_form o0.1; obtain ⟨A5, k5, rfl⟩ := own_form o1.1; obtain ⟨A6, k6, rfl⟩ := own_form o2.1; have C2a := C2.out.alloc (by have := C2.out.size; omega) (.cells #[.slice A1 (ulPA P S W).length k1, .slice A2 (ulSA P S W).length k2, .slice A3 (ulWA P S W).length k3] 36); have C3 := Lib.hid (C2a.trans (hb.mono C2a.size)); have q2 := (hb.cell (p := ⟨w2.heap.size, 2, none⟩) (by simp)).trans (CBox.new w2 (.slice A1 (ulPA P S W).length k1) (.slice A2 (ulSA P S W).length k2) (.slice A3 (ulWA P S W).length k3) 36).c2; have q6 : w2.heap.size < w3.heap.size := (by have h9 := hb.size; rw [World.size_alloc] at h9; omega); have HO3 := Lib.hid ((HO2.out.stay (below_box2 _ _)).stay hb); have HO6 := Lib.hid o2; clear hb C2a o0 o1 o2 ap hh))
        go_ret2
        exact ⟨rfl, C3.out.alloc (by have := C3.out.size; omega) _⟩
    · rcases ul_03 e2 with k2 | k2
      · clear e1 e2 e3 e4
        have HK : Hid (mxC P S W P' S' W' = 3) := Lib.hid (by unfold mxC; rw [if_pos h0]; simp [k1, k2])
        have HA : Hid (mxA P S W P' S' W' = 0) := Lib.hid (by unfold mxA; rw [HK.out]; simp)
        rw [HK.out, HA.out]
        have HU1 := Lib.hid (fun (V : World) (hR : ReadC V V.heap.size a b c P S W) => implUnloadCluster_any a b c P S W V hR hP hS hW HWP.out HWS.out HWW.out)
        have HU2 := Lib.hid (fun (V : World) (hR : ReadC V V.heap.size a' b' c' P' S' W') => implUnloadCluster_any a' b' c' P' S' W' V hR hP' hS' hW' HWP'.out HWS'.out HWW'.out)
        rw [k1] at HU1
        rw [k2] at HU2
        rw [h0] at HCC
        clear h0 k1 k2
        go_enter Try.func23, Try.ntmps23
        go_wp2_with fail
        rw [← HEQ.out]
        go_wp2_with (first | (go_at_call 72; refine HCC.out.mono ?_; rintro e w1 ⟨rfl, hb1⟩; have C1 := Lib.hid (HB.out.trans (hb1.mono HB.out.size)); have hx1 := HX.out.below hb1; have hy1 := HY.out.below hb1; have x0 := hx1.c0; have x1 := hx1.c1; have x2 := hx1.c2; have y0 := hy1.c0; have y1 := hy1.c1; have y2 := hy1.c2; have y6 := hy1.lt; have HY1 := Lib.hid hy1; have HR1 := Lib.hid ((HR.out.below hb1).more hb1.size); have HR1' := Lib.hid ((HR'.out.below hb1).more hb1.size); clear hb1 hx1 hy1) | (go_at_call 73; (with_reducible refine (HU1.out w1 HR1.out).mono ?_); rintro e w2 ⟨a1, b1, c1, rfl, ⟨hh, l0, h0, l1, h1, l2, h2, ap, o0, o1, o2⟩, hb⟩; obtain ⟨A1, k1, rfl⟩ := own_form o0.1; obtain ⟨A2, k2, rfl⟩ := own_form o1.1; obtain ⟨A3, k3, rfl⟩ := own_form o2.1; have C2 := Lib.hid (C1.out.trans (hb.mono C1.out.size)); have hy2 := HY1.out.below hb; have y0 := hy2.c0; have y1 := hy2.c1; have y2 := hy2.c2; have y6 := hy2.lt; have HR2' := Lib.hid ((HR1'.out.below hb).more hb.size); have HO2 := Lib.hid o2; clear hb hy2 o0 o1 o2 ap hh))
        go_ret2
        exact ⟨rfl, C2.out.alloc (by have := C2.out.size; omega) _⟩
      · clear e1 e2 e3 e4
        have HK : Hid (mxC P S W P' S' W' = 3) := Lib.hid (by unfold mxC; rw [if_pos h0]; simp [k1, k2])
        have HA : Hid (mxA P S W P' S' W' = 0) := Lib.hid (by unfold mxA; rw [HK.out]; simp)
        rw [HK.out, HA.out]
        have HU1 := Lib.hid (fun (V : World) (hR : ReadC V V.heap.size a b c P S W) => implUnloadCluster_any a b c P S W V hR hP hS hW HWP.out HWS.out HWW.out)
        have HU2 := Lib.hid (fun (V : World) (hR : ReadC V V.heap.size a' b' c' P' S' W') => implUnloadCluster_any a' b' c' P' S' W' V hR hP' hS' hW' HWP'.out HWS'.out HWW'.out)
        rw [k1] at HU1
        rw [k2] at HU2
        rw [h0] at HCC
        clear h0 k1 k2
        go_enter Try.func23, Try.ntmps23
        go_wp2_with fail
        rw [← HEQ.out]
        go_wp2_with (first | (go_at_call 72; refine HCC.out.mono ?_; rintro e w1 ⟨rfl, hb1⟩; have C1 := Lib.hid (HB.out.trans (hb1.mono HB.out.size)); have hx1 := HX.out.below hb1; have hy1 := HY.out.below hb1; have x0 := hx1.c0; have x1 := hx1.c1; have x2 := hx1.c2; have y0 := hy1.c0; have y1 := hy1.c1; have y2 := hy1.c2; have y6 := hy1.lt; have HY1 := Lib.hid hy1; have HR1 := Lib.hid ((HR.out.below hb1).more hb1.size); have HR1' := Lib.hid ((HR'.out.below hb1).more hb1.size); clear hb1 hx1 hy1) | (go_at_call 73; (with_reducible refine (HU1.out w1 HR1.out).mono ?_); rintro e w2 ⟨a1, b1, c1, rfl, ⟨hh, l0, h0, l1, h1, l2, h2, ap, o0, o1, o2⟩, hb⟩; obtain ⟨A1, k1, rfl⟩ := own_form o0.1; obtain ⟨A2, k2, rfl⟩ := own_form o1.1; obtain ⟨A3, k3, rfl⟩ := own_form o2.1; have C2 := Lib.hid (C1.out.trans (hb.mono C1.out.size)); have hy2 := HY1.out.below hb; have y0 := hy2.c0; have y1 := hy2.c1; have y2 := hy2.c2; have y6 := hy2.lt; have HR2' := Lib.hid ((HR1'.out.below hb).more hb.size); have HO2 := Lib.hid o2; clear hb hy2 o0 o1 o2 ap hh))
        go_ret2
        exact ⟨rfl, C2.out.alloc (by have := C2.out.size; omega) _⟩
  · obtain ⟨C, hC⟩ : ∃ C, alC P S W P' S' W' = C := ⟨_, rfl⟩
    have HK : Hid (mxC P S W P' S' W' = C) := Lib.hid (by unfold mxC; rw [if_neg h0, hC])
    rw [hC] at h0 HCC
    have HA : Hid (mxA P S W P' S' W' = 0) := Lib.hid (by unfold mxA; rw [HK.out, if_neg h0])
    rw [HK.out, HA.out]
    have hne : (C == 0) = false := by simpa using h0
    clear hC
    go_enter Try.func23, Try.ntmps23
    go_wp2_with fail
    rw [← HEQ.out]
    go_wp2_with (go_at_call 72; refine HCC.out.mono ?_; rintro e w1 ⟨rfl, hb1⟩; have C1 := Lib.hid (HB.out.trans (hb1.mono HB.out.size)); have hx1 := HX.out.below hb1; have hy1 := HY.out.below hb1; have x0 := hx1.c0; have x1 := hx1.c1; have x2 := hx1.c2; have y0 := hy1.c0; have y1 := hy1.c1; have y2 := hy1.c2; have y6 := hy1.lt; have HY1 := Lib.hid hy1; have HR1 := Lib.hid ((HR.out.below hb1).more hb1.size); have HR1' := Lib.hid ((HR'.out.below hb1).more hb1.size); clear hb1 hx1 hy1)
    go_ret2
    exact ⟨rfl, C1.out⟩

end Go.Proofs.Ytohbgfmjnanlkaa
