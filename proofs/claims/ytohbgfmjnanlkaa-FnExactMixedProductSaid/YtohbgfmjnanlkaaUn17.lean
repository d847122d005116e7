/- The unloaded cluster, the model's. Conditions: stated at each theorem. -/
import Derived.Test.YtohbgfmjnanlkaaUn16
import Derived.Deep.DeepCutAuto
namespace Go.Proofs.Ytohbgfmjnanlkaa
open Go.ChangeShapes Go.WideShapes Go.ChangeAt Go.RowKit Go.Deep
set_option linter.unusedVariables false
set_option linter.unusedSimpArgs false

theorem l01Own_las (v : Value) (V : List Int) (w : World) (h : ReadI w w.heap.size v V) (hl : V.length ≤ 1048576) : Calls Try.prog 123 #[v] w (LAns w V) := by
  refine (l01Own_any v V w w.heap.size h (by omega) (Nat.le_refl _)).mono ?_
  rintro e w' ⟨v', rfl, ho, hb⟩
  obtain ⟨A, c, rfl⟩ := own_form ho.1
  exact ⟨A, c, rfl, ho, hb⟩
theorem l08Unload_w (a b c v : Value) (P S W : List Int) (n : Nat) (w : World) (h : ReadC w w.heap.size a b c P S W) (hv : ReadI w w.heap.size v W) (hC : ClOK P S W n) :
    Calls Try.prog 124 #[.agg #[a, b, c], v] w fun e w' => ∃ A c1, e = .returned (.slice A n c1) ∧ ReadI w' w'.heap.size (.slice A n c1) (ulL P S W n) ∧ Below w.heap.size w w' := by
  obtain ⟨A, cc, rfl, _⟩ := id hv
  have hw : wvL P S n (ofF P S W n) = W := by
    have h9 := wo_back (P := P) (S := S) hC.ok hC.w
    rw [woL_fn hC.ok] at h9; exact h9
  have hs := of_start hC
  rw [hC.w] at hv ⊢
  refine (l08Unload_any a b c P S W n (ofF P S W n) A cc w h (by rw [hw]; exact hv) hC.toClP hs.1 hs.2.2).mono ?_
  rintro e w' ⟨Q, A1, c1, rfl, hl, hr, hb⟩
  refine ⟨A1, c1, rfl, ?_, hb⟩
  rw [← ulL_eq hC.ok hl]; exact hr

set_option maxRecDepth 100000 in
set_option maxHeartbeats 4000000 in
theorem specUnloadCluster_any (a b c : Value) (P S W : List Int)  (w : World) (h : ReadC w w.heap.size a b c P S W) (hP : P.length ≤ 1048576) (hS : S.length ≤ 1048576) (hW : W.length ≤ 1048576) (hwp : ∀ z ∈ P, (Lit.int .i64 z).wf = true) (hws : ∀ z ∈ S, (Lit.int .i64 z).wf = true) (hww : ∀ z ∈ W, (Lit.int .i64 z).wf = true) :
    Calls Try.prog 70 #[.agg #[a, b, c]] w (AnsCC w (ulPA P S W) (ulSA P S W) (ulWA P S W) (ulC P S W)) := by
  obtain ⟨W0, HE⟩ : ∃ V, V = (w.alloc (.cells #[a, b, c] 36)).alloc (.cells #[.slice none 0 0, .slice none 0 0, .slice none 0 0] 36) := ⟨_, rfl⟩
  have hb0 : Below w.heap.size w W0 := by rw [HE]; exact (below_box2 _ _).alloc (by simp) _
  have hx : CBox W0 w.heap.size a b c := by rw [HE]; exact (CBox.new w a b c 36).alloc _
  have hy : CBox W0 (w.heap.size + 1) (.slice none 0 0) (.slice none 0 0) (.slice none 0 0) := by
    have := CBox.new (w.alloc (.cells #[a, b, c] 36)) (.slice none 0 0) (.slice none 0 0) (.slice none 0 0) 36
    rw [World.size_alloc] at this
    rw [HE]; exact this
  have HZ0 : Hid (W0.heap.size = w.heap.size + 2) := Lib.hid (by rw [HE]; simp)
  obtain ⟨A0, k0, rfl⟩ : ∃ A k, a = .slice A P.length k := by obtain ⟨A, k, e, _⟩ := h.1; exact ⟨A, k, e⟩
  obtain ⟨A1, k1, rfl⟩ : ∃ A k, b = .slice A S.length k := by obtain ⟨A, k, e, _⟩ := h.2.1; exact ⟨A, k, e⟩
  obtain ⟨A2, k2, rfl⟩ : ∃ A k, c = .slice A W.length k := by obtain ⟨A, k, e, _⟩ := h.2.2; exact ⟨A, k, e⟩
  have HR := Lib.hid ((h.below hb0).more hb0.size)
  have HB := Lib.hid hb0
  have HEQ := Lib.hid HE
  have HX := Lib.hid hx
  have HY := Lib.hid hy
  have x0 := hx.c0; have x1 := hx.c1; have x2 := hx.c2
  clear h hb0 hx hy HE hwp hws hww
  rcases bool_fs (clB P S W) with hp | hp
  · have HP := Lib.hid hp
    have hk : ulC P S W = 1 := by simp [ulC, hp]
    have HK := Lib.hid hk; have HN := Lib.hid (ul_no hk (by decide)); clear hk
    clear hp
    go_enter Try.func70, Try.ntmps70
    go_wp2_with fail
    rw [← HEQ.out]
    refine (l07Is_if _ _ _ P S W W0 HR.out hP hS hW false HP.out).mono ?_
    rintro e w1 ⟨rfl, hb1⟩
    have hY1 := HY.out.below hb1
    have p0 := hY1.c0; have p1 := hY1.c1; have p2 := hY1.c2; have p3 := hY1.f0; have p4 := hY1.f1; have p5 := hY1.f2; have p6 := hY1.lt
    have HY1 := Lib.hid hY1
    have HB1 := Lib.hid (HB.out.trans (hb1.mono HB.out.size))
    clear hb1 hY1
    go_wp2_with fail
    have cr := CBox.set3 (HY1.out) (.slice none 0 0) (.slice none 0 0) (.slice none 0 0)
    have cr0 := cr.c0; have cr1 := cr.c1; have cr2 := cr.c2
    refine bodyPost_ret (v := .tuple #[.agg #[.slice none 0 0, .slice none 0 0, .slice none 0 0], .int .i64 1]) (by simp [results, Try.results70, go_sem, cr0, cr1, cr2]) rfl ?_
    exact AnsCC.noneC (HN.out.1) (HN.out.2.1) (HN.out.2.2) (HK.out.symm) (Below.set3 (HB1.out) (by omega) _ _ _)
  · obtain ⟨n, hC⟩ := clB_true hp
    have HC := Lib.hid hC
    have HP := Lib.hid hp
    have HPN := Lib.hid hC.p
    have hn : P.length ≤ 24 := by rw [hC.p]; exact hC.hi
    have hn1 : 1 ≤ P.length := by rw [hC.p]; exact hC.lo
    clear hp hC
    go_enter Try.func70, Try.ntmps70
    go_wp2_with fail
    rw [← HEQ.out]
    refine (l07Is_if _ _ _ P S W W0 HR.out hP hS hW true HP.out).mono ?_
    rintro e w1 ⟨rfl, hb1⟩
    have hX1 := HX.out.below hb1; have hY1 := HY.out.below hb1
    have y0 := hX1.c0; have y1 := hX1.c1; have y2 := hX1.c2; have y6 := hX1.lt
    have p0 := hY1.c0; have p1 := hY1.c1; have p2 := hY1.c2; have p3 := hY1.f0; have p4 := hY1.f1; have p5 := hY1.f2; have p6 := hY1.lt
    have HX1 := Lib.hid hX1
    have HY1 := Lib.hid hY1
    have HB1 := Lib.hid (HB.out.trans (hb1.mono HB.out.size))
    have HR1 := Lib.hid ((HR.out.below hb1).more hb1.size)
    have HSW : Hid (w.heap.size + 2 ≤ w1.heap.size) := Lib.hid (by rw [← HZ0.out]; exact hb1.size)
    clear hb1 hX1 hY1 x0 x1 x2
    have HCL : Hid (ClOK P S W P.length) := Lib.hid (by rw [HPN.out]; exact HC.out)
    clear p0 p1 p2 p3 p4 p5 p6
    rcases bool_fs (wtOK (ulL P S W P.length)) with hbb | hbb
    · have HBB := Lib.hid hbb
      have hk : ulC P S W = 3 := by rw [ul_mid HCL.out, hbb]; rfl
      have HK := Lib.hid hk; have HN := Lib.hid (ul_no hk (by decide)); clear hk hbb
      go_wp2_with fail
      go_cut [4, 5] (fun s0 s1 wx => ∃ (g : Nat), s0 = .pointer (some ⟨g, 0, none⟩) ∧ s1 = .int .i64 3 ∧ Hid (CBox wx g (.slice none 0 0) (.slice none 0 0) (.slice none 0 0)) ∧ Hid (Below w1.heap.size w1 wx) ∧ Hid (w1.heap.size ≤ g))
      case first =>
        have C : Hid (Below w1.heap.size w1 w1.drew) := Lib.hid (Below.refl _ _).drew
        have SD : Hid (w1.drew.heap.size = w1.heap.size) := Lib.hid rfl
        refine wp_region_held_drew (S := fun w' => w'.cell? ⟨w.heap.size, 0, none⟩ = some (.slice A0 P.length k0) ∧ w'.cell? ⟨w.heap.size, 1, none⟩ = some (.slice A1 S.length k1) ∧ w'.cell? ⟨w.heap.size, 2, none⟩ = some (.slice A2 W.length k2)) (by kernel_rfl) ⟨y0, y1, y2⟩ (fun hHeld => ?_)
        refine takeY 0 _ (v := ?_) rfl rfl (by kernel_rfl) (by kernel_rfl) (by kernel_rfl) (fun _ _ _ h => h) (by kernel_rfl) ?_ (by assumption) ?_
        rotate_left 1
        · intro w hSw; (try dsimp only at hSw); go_simp; (try with_reducible rfl)
        try simp only [Act.put, List.setIfInBounds_toArray, List.set_cons_zero, List.set_cons_succ]
        refine takeY 1 _ (v := ?_) rfl rfl (by kernel_rfl) (by kernel_rfl) (by kernel_rfl) (fun _ _ _ h => h) (by kernel_rfl) ?_ (by assumption) ?_
        rotate_left 1
        · intro w hSw; (try dsimp only at hSw); go_simp; (try with_reducible rfl)
        try simp only [Act.put, List.setIfInBounds_toArray, List.set_cons_zero, List.set_cons_succ]
        refine takeY 2 _ (v := ?_) rfl rfl (by kernel_rfl) (by kernel_rfl) (by kernel_rfl) (fun _ _ _ h => h) (by kernel_rfl) ?_ (by assumption) ?_
        rotate_left 1
        · intro w hSw; (try dsimp only at hSw); go_simp; (try with_reducible rfl)
        try simp only [Act.put, List.setIfInBounds_toArray, List.set_cons_zero, List.set_cons_succ]
        refine takeY 3 _ (v := ?_) rfl rfl (by kernel_rfl) (by kernel_rfl) (by kernel_rfl) (fun _ _ _ h => h) (by kernel_rfl) ?_ (by assumption) ?_
        rotate_left 1
        · intro w hSw; (try dsimp only at hSw); go_simp; (try with_reducible rfl)
        try simp only [Act.put, List.setIfInBounds_toArray, List.set_cons_zero, List.set_cons_succ]
        refine wpAnyH_ready (rs := [4, 11]) (by kernel_rfl) (by simp) ?_
        refine AllReadyH.cons rfl (fun K hK => ?_) (AllReadyH.cons rfl (fun K hK => ?_) AllReadyH.nil)
        · go_simp
          refine (l08Unload_w (.slice A0 P.length k0) (.slice A1 S.length k1) (.slice A2 W.length k2) (.slice A2 W.length k2) P S W P.length w1.drew ((HR1.out.below C.out).more C.out.size) ((HR1.out.below C.out).more C.out.size).2.2 HCL.out).mono ?_
          rintro e x1 ⟨rA, rC, rfl, hr, hb⟩
          replace C := Lib.hid (C.out.trans (hb.mono C.out.size))
          have S1 : Hid (w1.drew.heap.size ≤ x1.heap.size) := Lib.hid hb.size
          have RV := Lib.hid hr; clear hr hb
          refine hK.out _ _ ⟨(HX1.out.below C.out).c0, (HX1.out.below C.out).c1, (HX1.out.below C.out).c2⟩ (fun hHeld => ?_)
          clear hK K
          try simp only [Act.put, List.setIfInBounds_toArray, List.set_cons_zero, List.set_cons_succ]
          refine wpAnyH_ready (rs := [5, 11]) (by kernel_rfl) (by simp) ?_
          refine AllReadyH.cons rfl (fun K hK => ?_) (AllReadyH.cons rfl (fun K hK => ?_) AllReadyH.nil)
          · go_simp
            refine (l01Own_las (.slice rA P.length rC) (ulL P S W P.length) x1 RV.out (by rw [ulL_len]; omega)).mono ?_
            rintro e x2 kk
            obtain ⟨ra0, rc0, rfl, ho, hb⟩ := kk.len (ulL_len _ _ _ _)
            replace RV := Lib.hid ((RV.out.below hb).more hb.size)
            replace C := Lib.hid (C.out.trans (hb.mono C.out.size))
            have S2 : Hid (x1.heap.size ≤ x2.heap.size) := Lib.hid hb.size
            have O0 := Lib.hid ho; clear ho hb
            refine hK.out _ _ ⟨(HX1.out.below C.out).c0, (HX1.out.below C.out).c1, (HX1.out.below C.out).c2⟩ (fun hHeld => ?_)
            clear hK K
            try simp only [Act.put, List.setIfInBounds_toArray, List.set_cons_zero, List.set_cons_succ]
            refine wpAnyH_ready (rs := [6, 11]) (by kernel_rfl) (by simp) ?_
            refine AllReadyH.cons rfl (fun K hK => ?_) (AllReadyH.cons rfl (fun K hK => ?_) AllReadyH.nil)
            · go_simp
              refine (l07With_any (.slice A0 P.length k0) (.slice A1 S.length k1) (.slice A2 W.length k2)  ra0 P.length rc0 P S W x2 ((HR1.out.below C.out).more C.out.size) hP hS).mono ?_
              rintro e x3 ⟨a', b', rfl, ⟨m, hm1, hm2, oa, ob⟩, hb⟩
              obtain ⟨A5, c5, rfl⟩ := own_form oa.1
              obtain ⟨A6, c6, rfl⟩ := own_form ob.1
              replace RV := Lib.hid ((RV.out.below hb).more hb.size)
              replace O0 := Lib.hid (O0.out.stay hb)
              replace C := Lib.hid (C.out.trans (hb.mono C.out.size))
              have S3 : Hid (x2.heap.size ≤ x3.heap.size) := Lib.hid hb.size
              have OA := Lib.hid oa; have OB := Lib.hid ob; have HM : Hid (x2.heap.size ≤ m ∧ m ≤ x3.heap.size) := Lib.hid ⟨hm1, hm2⟩; clear oa ob hb hm1 hm2
              refine hK.out _ _ ⟨(HX1.out.below C.out).c0, (HX1.out.below C.out).c1, (HX1.out.below C.out).c2⟩ (fun hHeld => ?_)
              clear hK K
              try simp only [Act.put, List.setIfInBounds_toArray, List.set_cons_zero, List.set_cons_succ]
              refine wpAnyH_ready (rs := [7, 11]) (by kernel_rfl) (by simp) ?_
              refine AllReadyH.cons rfl (fun K hK => ?_) (AllReadyH.cons rfl (fun K hK => ?_) AllReadyH.nil)
              · go_simp
                refine (l07Fit_any (.slice A5 P.length c5) (.slice A6 S.length c6) (.slice ra0 P.length rc0) P S (ulL P S W P.length) x3 ⟨OA.out.reads, OB.out.reads, O0.out.reads⟩ hP hS (by rw [ulL_len]; omega) false ((clB_with (W := W) HCL.out.toClP (ulL_len P S W P.length)).trans HBB.out)).mono ?_
                rintro e x4 ⟨rfl, hb⟩
                replace RV := Lib.hid ((RV.out.below hb).more hb.size)
                replace O0 := Lib.hid (O0.out.stay hb)
                replace OA := Lib.hid (OA.out.stay hb)
                replace OB := Lib.hid (OB.out.stay hb)
                replace C := Lib.hid (C.out.trans (hb.mono C.out.size))
                have S5 : Hid (x3.heap.size ≤ x4.heap.size) := Lib.hid hb.size
                clear hb
                refine hK.out _ _ ⟨(HX1.out.below C.out).c0, (HX1.out.below C.out).c1, (HX1.out.below C.out).c2⟩ (fun hHeld => ?_)
                clear hK K
                try simp only [Act.put, List.setIfInBounds_toArray, List.set_cons_zero, List.set_cons_succ]
                refine takeY 8 _ (v := ?_) rfl rfl (by kernel_rfl) (by kernel_rfl) (by kernel_rfl) (fun _ _ _ h => h) (by kernel_rfl) ?_ (by assumption) ?_
                rotate_left 1
                · intro w hSw; (try dsimp only at hSw); go_simp; (try with_reducible rfl)
                try simp only [Act.put, List.setIfInBounds_toArray, List.set_cons_zero, List.set_cons_succ]
                refine takeY 9 _ (v := ?_) rfl rfl (by kernel_rfl) (by kernel_rfl) (by kernel_rfl) (fun _ _ _ h => h) (by kernel_rfl) ?_ (by assumption) ?_
                rotate_left 1
                · intro w hSw; (try dsimp only at hSw); go_simp; (try with_reducible rfl)
                try simp only [Act.put, List.setIfInBounds_toArray, List.set_cons_zero, List.set_cons_succ]
                refine takeY 10 _ (v := ?_) rfl rfl (by kernel_rfl) (by kernel_rfl) (by kernel_rfl) (fun _ _ _ h => h) (by kernel_rfl) ?_ (by assumption) ?_
                rotate_left 1
                · intro w hSw; (try dsimp only at hSw); go_simp; (try with_reducible rfl)
                try simp only [Act.put, List.setIfInBounds_toArray, List.set_cons_zero, List.set_cons_succ]
                refine wpAnyH_ready (rs := [11]) (by kernel_rfl) (by simp) ?_
                refine AllReadyH.cons rfl (fun K hK => ?_) AllReadyH.nil
                go_simp
                obtain ⟨x5, HEx5⟩ : ∃ V, V = ((x4).alloc (.cells #[.slice none 0 0, .slice none 0 0, .slice none 0 0] 36)) := ⟨_, rfl⟩
                rw [← HEx5]
                have hb : Below x4.heap.size x4 x5 := by rw [HEx5]; exact below_box2 _ _
                have hq : CBox x5 x4.heap.size (.slice none 0 0) (.slice none 0 0) (.slice none 0 0) := by rw [HEx5]; exact CBox.new _ _ _ _ _
                have hz : x4.heap.size + 1 ≤ x5.heap.size := by rw [HEx5]; simp
                replace RV := Lib.hid ((RV.out.below hb).more hb.size)
                replace O0 := Lib.hid (O0.out.stay hb)
                replace OA := Lib.hid (OA.out.stay hb)
                replace OB := Lib.hid (OB.out.stay hb)
                replace C := Lib.hid (C.out.trans (hb.mono C.out.size))
                have S6 : Hid (x4.heap.size ≤ x5.heap.size) := Lib.hid hb.size
                have Zx5 : Hid (x4.heap.size + 1 ≤ x5.heap.size) := Lib.hid hz
                have KB := Lib.hid hq; clear hq hb hz HEx5
                refine hK.out _ _ ⟨(HX1.out.below C.out).c0, (HX1.out.below C.out).c1, (HX1.out.below C.out).c2⟩ (fun hHeld => ?_)
                clear hK K
                try simp only [Act.put, List.setIfInBounds_toArray, List.set_cons_zero, List.set_cons_succ]
                have k0' := KB.out.c0; have k1' := KB.out.c1; have k2' := KB.out.c2; have k3' := KB.out.f0; have k4' := KB.out.f1; have k5' := KB.out.f2; have k6' := KB.out.lt
                refine wpAnyH_ready (rs := [12]) (by kernel_rfl) (by simp) ?_
                refine AllReadyH.cons rfl (fun K hK => ?_) AllReadyH.nil
                go_simp
                obtain ⟨x6, HEx6⟩ : ∃ V, V = (((x5.setCell ⟨x4.heap.size, 0, none⟩ (.slice none 0 0)).setCell ⟨x4.heap.size, 1, none⟩ (.slice none 0 0)).setCell ⟨x4.heap.size, 2, none⟩ (.slice none 0 0)) := ⟨_, rfl⟩
                rw [← HEx6]
                have KB2 : Hid (CBox x6 (x4.heap.size) (.slice none 0 0) (.slice none 0 0) (.slice none 0 0)) := Lib.hid (by rw [HEx6]; exact CBox.set3 KB.out _ _ _)
                replace C := Lib.hid (Below.set3 (g := x4.heap.size) C.out (by have sdo := SD.out; have s1o := S1.out; have s2o := S2.out; have s3o := S3.out; have hmo := HM.out; have s5o := S5.out; have s6o := S6.out; have zx5o := Zx5.out; show _ ≤ (x4.heap.size); omega) (.slice none 0 0) (.slice none 0 0) (.slice none 0 0)); rw [← HEx6] at C
                have hzz : x6.heap.size = x5.heap.size := by rw [HEx6, size_set3]
                have ZZ := Lib.hid hzz; clear hzz k0' k1' k2' k3' k4' k5' k6'
                refine hK.out _ _ ⟨(HX1.out.below C.out).c0, (HX1.out.below C.out).c1, (HX1.out.below C.out).c2⟩ (fun hHeld => ?_)
                clear hK K
                try simp only [Act.put, List.setIfInBounds_toArray, List.set_cons_zero, List.set_cons_succ]
                refine takeY 13 _ (v := ?_) rfl rfl (by kernel_rfl) (by kernel_rfl) (by kernel_rfl) (fun _ _ _ h => h) (by kernel_rfl) ?_ (by assumption) ?_
                rotate_left 1
                · intro w hSw; (try dsimp only at hSw); go_simp; (try with_reducible rfl)
                try simp only [Act.put, List.setIfInBounds_toArray, List.set_cons_zero, List.set_cons_succ]
                refine wpAnyH_done (by kernel_rfl) ?_ _
                go_wp2_with fail
                go_meet
                exact ⟨x4.heap.size, rfl, rfl, KB2, C, Lib.hid (by have sdo := SD.out; have s1o := S1.out; have s2o := S2.out; have s3o := S3.out; have hmo := HM.out; have s5o := S5.out; have s6o := S6.out; have zx5o := Zx5.out; have zzo := ZZ.out; omega)⟩
              · go_simp
                obtain ⟨x4, HEx4⟩ : ∃ V, V = ((x3).alloc (.cells #[.slice none 0 0, .slice none 0 0, .slice none 0 0] 36)) := ⟨_, rfl⟩
                rw [← HEx4]
                have hb : Below x3.heap.size x3 x4 := by rw [HEx4]; exact below_box2 _ _
                have hq : CBox x4 x3.heap.size (.slice none 0 0) (.slice none 0 0) (.slice none 0 0) := by rw [HEx4]; exact CBox.new _ _ _ _ _
                have hz : x3.heap.size + 1 ≤ x4.heap.size := by rw [HEx4]; simp
                replace RV := Lib.hid ((RV.out.below hb).more hb.size)
                replace O0 := Lib.hid (O0.out.stay hb)
                replace OA := Lib.hid (OA.out.stay hb)
                replace OB := Lib.hid (OB.out.stay hb)
                replace C := Lib.hid (C.out.trans (hb.mono C.out.size))
                have S5 : Hid (x3.heap.size ≤ x4.heap.size) := Lib.hid hb.size
                have Zx4 : Hid (x3.heap.size + 1 ≤ x4.heap.size) := Lib.hid hz
                have KB := Lib.hid hq; clear hq hb hz HEx4
                refine hK.out _ _ ⟨(HX1.out.below C.out).c0, (HX1.out.below C.out).c1, (HX1.out.below C.out).c2⟩ (fun hHeld => ?_)
                clear hK K
                try simp only [Act.put, List.setIfInBounds_toArray, List.set_cons_zero, List.set_cons_succ]
                refine wpAnyH_ready (rs := [7]) (by kernel_rfl) (by simp) ?_
                refine AllReadyH.cons rfl (fun K hK => ?_) AllReadyH.nil
                go_simp
                refine (l07Fit_any (.slice A5 P.length c5) (.slice A6 S.length c6) (.slice ra0 P.length rc0) P S (ulL P S W P.length) x4 ⟨OA.out.reads, OB.out.reads, O0.out.reads⟩ hP hS (by rw [ulL_len]; omega) false ((clB_with (W := W) HCL.out.toClP (ulL_len P S W P.length)).trans HBB.out)).mono ?_
                rintro e x5 ⟨rfl, hb⟩
                replace RV := Lib.hid ((RV.out.below hb).more hb.size)
                replace O0 := Lib.hid (O0.out.stay hb)
                replace OA := Lib.hid (OA.out.stay hb)
                replace OB := Lib.hid (OB.out.stay hb)
                replace KB := Lib.hid (KB.out.below hb)
                replace C := Lib.hid (C.out.trans (hb.mono C.out.size))
                have S7 : Hid (x4.heap.size ≤ x5.heap.size) := Lib.hid hb.size
                clear hb
                refine hK.out _ _ ⟨(HX1.out.below C.out).c0, (HX1.out.below C.out).c1, (HX1.out.below C.out).c2⟩ (fun hHeld => ?_)
                clear hK K
                try simp only [Act.put, List.setIfInBounds_toArray, List.set_cons_zero, List.set_cons_succ]
                refine takeY 8 _ (v := ?_) rfl rfl (by kernel_rfl) (by kernel_rfl) (by kernel_rfl) (fun _ _ _ h => h) (by kernel_rfl) ?_ (by assumption) ?_
                rotate_left 1
                · intro w hSw; (try dsimp only at hSw); go_simp; (try with_reducible rfl)
                try simp only [Act.put, List.setIfInBounds_toArray, List.set_cons_zero, List.set_cons_succ]
                refine takeY 9 _ (v := ?_) rfl rfl (by kernel_rfl) (by kernel_rfl) (by kernel_rfl) (fun _ _ _ h => h) (by kernel_rfl) ?_ (by assumption) ?_
                rotate_left 1
                · intro w hSw; (try dsimp only at hSw); go_simp; (try with_reducible rfl)
                try simp only [Act.put, List.setIfInBounds_toArray, List.set_cons_zero, List.set_cons_succ]
                refine takeY 10 _ (v := ?_) rfl rfl (by kernel_rfl) (by kernel_rfl) (by kernel_rfl) (fun _ _ _ h => h) (by kernel_rfl) ?_ (by assumption) ?_
                rotate_left 1
                · intro w hSw; (try dsimp only at hSw); go_simp; (try with_reducible rfl)
                try simp only [Act.put, List.setIfInBounds_toArray, List.set_cons_zero, List.set_cons_succ]
                have k0' := KB.out.c0; have k1' := KB.out.c1; have k2' := KB.out.c2; have k3' := KB.out.f0; have k4' := KB.out.f1; have k5' := KB.out.f2; have k6' := KB.out.lt
                refine wpAnyH_ready (rs := [12]) (by kernel_rfl) (by simp) ?_
                refine AllReadyH.cons rfl (fun K hK => ?_) AllReadyH.nil
                go_simp
                obtain ⟨x6, HEx6⟩ : ∃ V, V = (((x5.setCell ⟨x3.heap.size, 0, none⟩ (.slice none 0 0)).setCell ⟨x3.heap.size, 1, none⟩ (.slice none 0 0)).setCell ⟨x3.heap.size, 2, none⟩ (.slice none 0 0)) := ⟨_, rfl⟩
                rw [← HEx6]
                have KB2 : Hid (CBox x6 (x3.heap.size) (.slice none 0 0) (.slice none 0 0) (.slice none 0 0)) := Lib.hid (by rw [HEx6]; exact CBox.set3 KB.out _ _ _)
                replace C := Lib.hid (Below.set3 (g := x3.heap.size) C.out (by have sdo := SD.out; have s1o := S1.out; have s2o := S2.out; have s3o := S3.out; have hmo := HM.out; have s5o := S5.out; have zx4o := Zx4.out; have s7o := S7.out; show _ ≤ (x3.heap.size); omega) (.slice none 0 0) (.slice none 0 0) (.slice none 0 0)); rw [← HEx6] at C
                have hzz : x6.heap.size = x5.heap.size := by rw [HEx6, size_set3]
                have ZZ := Lib.hid hzz; clear hzz k0' k1' k2' k3' k4' k5' k6'
                refine hK.out _ _ ⟨(HX1.out.below C.out).c0, (HX1.out.below C.out).c1, (HX1.out.below C.out).c2⟩ (fun hHeld => ?_)
                clear hK K
                try simp only [Act.put, List.setIfInBounds_toArray, List.set_cons_zero, List.set_cons_succ]
                refine takeY 13 _ (v := ?_) rfl rfl (by kernel_rfl) (by kernel_rfl) (by kernel_rfl) (fun _ _ _ h => h) (by kernel_rfl) ?_ (by assumption) ?_
                rotate_left 1
                · intro w hSw; (try dsimp only at hSw); go_simp; (try with_reducible rfl)
                try simp only [Act.put, List.setIfInBounds_toArray, List.set_cons_zero, List.set_cons_succ]
                refine wpAnyH_done (by kernel_rfl) ?_ _
                go_wp2_with fail
                go_meet
                exact ⟨x3.heap.size, rfl, rfl, KB2, C, Lib.hid (by have sdo := SD.out; have s1o := S1.out; have s2o := S2.out; have s3o := S3.out; have hmo := HM.out; have s5o := S5.out; have zx4o := Zx4.out; have s7o := S7.out; have zzo := ZZ.out; omega)⟩
            · go_simp
              obtain ⟨x3, HEx3⟩ : ∃ V, V = ((x2).alloc (.cells #[.slice none 0 0, .slice none 0 0, .slice none 0 0] 36)) := ⟨_, rfl⟩
              rw [← HEx3]
              have hb : Below x2.heap.size x2 x3 := by rw [HEx3]; exact below_box2 _ _
              have hq : CBox x3 x2.heap.size (.slice none 0 0) (.slice none 0 0) (.slice none 0 0) := by rw [HEx3]; exact CBox.new _ _ _ _ _
              have hz : x2.heap.size + 1 ≤ x3.heap.size := by rw [HEx3]; simp
              replace RV := Lib.hid ((RV.out.below hb).more hb.size)
              replace O0 := Lib.hid (O0.out.stay hb)
              replace C := Lib.hid (C.out.trans (hb.mono C.out.size))
              have S3 : Hid (x2.heap.size ≤ x3.heap.size) := Lib.hid hb.size
              have Zx3 : Hid (x2.heap.size + 1 ≤ x3.heap.size) := Lib.hid hz
              have KB := Lib.hid hq; clear hq hb hz HEx3
              refine hK.out _ _ ⟨(HX1.out.below C.out).c0, (HX1.out.below C.out).c1, (HX1.out.below C.out).c2⟩ (fun hHeld => ?_)
              clear hK K
              try simp only [Act.put, List.setIfInBounds_toArray, List.set_cons_zero, List.set_cons_succ]
              refine wpAnyH_ready (rs := [6]) (by kernel_rfl) (by simp) ?_
              refine AllReadyH.cons rfl (fun K hK => ?_) AllReadyH.nil
              go_simp
              refine (l07With_any (.slice A0 P.length k0) (.slice A1 S.length k1) (.slice A2 W.length k2)  ra0 P.length rc0 P S W x3 ((HR1.out.below C.out).more C.out.size) hP hS).mono ?_
              rintro e x4 ⟨a', b', rfl, ⟨m, hm1, hm2, oa, ob⟩, hb⟩
              obtain ⟨A5, c5, rfl⟩ := own_form oa.1
              obtain ⟨A6, c6, rfl⟩ := own_form ob.1
              replace RV := Lib.hid ((RV.out.below hb).more hb.size)
              replace O0 := Lib.hid (O0.out.stay hb)
              replace KB := Lib.hid (KB.out.below hb)
              replace C := Lib.hid (C.out.trans (hb.mono C.out.size))
              have S5 : Hid (x3.heap.size ≤ x4.heap.size) := Lib.hid hb.size
              have OA := Lib.hid oa; have OB := Lib.hid ob; have HM : Hid (x3.heap.size ≤ m ∧ m ≤ x4.heap.size) := Lib.hid ⟨hm1, hm2⟩; clear oa ob hb hm1 hm2
              refine hK.out _ _ ⟨(HX1.out.below C.out).c0, (HX1.out.below C.out).c1, (HX1.out.below C.out).c2⟩ (fun hHeld => ?_)
              clear hK K
              try simp only [Act.put, List.setIfInBounds_toArray, List.set_cons_zero, List.set_cons_succ]
              refine wpAnyH_ready (rs := [7]) (by kernel_rfl) (by simp) ?_
              refine AllReadyH.cons rfl (fun K hK => ?_) AllReadyH.nil
              go_simp
              refine (l07Fit_any (.slice A5 P.length c5) (.slice A6 S.length c6) (.slice ra0 P.length rc0) P S (ulL P S W P.length) x4 ⟨OA.out.reads, OB.out.reads, O0.out.reads⟩ hP hS (by rw [ulL_len]; omega) false ((clB_with (W := W) HCL.out.toClP (ulL_len P S W P.length)).trans HBB.out)).mono ?_
              rintro e x5 ⟨rfl, hb⟩
              replace RV := Lib.hid ((RV.out.below hb).more hb.size)
              replace O0 := Lib.hid (O0.out.stay hb)
              replace KB := Lib.hid (KB.out.below hb)
              replace OA := Lib.hid (OA.out.stay hb)
              replace OB := Lib.hid (OB.out.stay hb)
              replace C := Lib.hid (C.out.trans (hb.mono C.out.size))
              have S7 : Hid (x4.heap.size ≤ x5.heap.size) := Lib.hid hb.size
              clear hb
              refine hK.out _ _ ⟨(HX1.out.below C.out).c0, (HX1.out.below C.out).c1, (HX1.out.below C.out).c2⟩ (fun hHeld => ?_)
              clear hK K
              try simp only [Act.put, List.setIfInBounds_toArray, List.set_cons_zero, List.set_cons_succ]
              refine takeY 8 _ (v := ?_) rfl rfl (by kernel_rfl) (by kernel_rfl) (by kernel_rfl) (fun _ _ _ h => h) (by kernel_rfl) ?_ (by assumption) ?_
              rotate_left 1
              · intro w hSw; (try dsimp only at hSw); go_simp; (try with_reducible rfl)
              try simp only [Act.put, List.setIfInBounds_toArray, List.set_cons_zero, List.set_cons_succ]
              refine takeY 9 _ (v := ?_) rfl rfl (by kernel_rfl) (by kernel_rfl) (by kernel_rfl) (fun _ _ _ h => h) (by kernel_rfl) ?_ (by assumption) ?_
              rotate_left 1
              · intro w hSw; (try dsimp only at hSw); go_simp; (try with_reducible rfl)
              try simp only [Act.put, List.setIfInBounds_toArray, List.set_cons_zero, List.set_cons_succ]
              refine takeY 10 _ (v := ?_) rfl rfl (by kernel_rfl) (by kernel_rfl) (by kernel_rfl) (fun _ _ _ h => h) (by kernel_rfl) ?_ (by assumption) ?_
              rotate_left 1
              · intro w hSw; (try dsimp only at hSw); go_simp; (try with_reducible rfl)
              try simp only [Act.put, List.setIfInBounds_toArray, List.set_cons_zero, List.set_cons_succ]
              have k0' := KB.out.c0; have k1' := KB.out.c1; have k2' := KB.out.c2; have k3' := KB.out.f0; have k4' := KB.out.f1; have k5' := KB.out.f2; have k6' := KB.out.lt
              refine wpAnyH_ready (rs := [12]) (by kernel_rfl) (by simp) ?_
              refine AllReadyH.cons rfl (fun K hK => ?_) AllReadyH.nil
              go_simp
              obtain ⟨x6, HEx6⟩ : ∃ V, V = (((x5.setCell ⟨x2.heap.size, 0, none⟩ (.slice none 0 0)).setCell ⟨x2.heap.size, 1, none⟩ (.slice none 0 0)).setCell ⟨x2.heap.size, 2, none⟩ (.slice none 0 0)) := ⟨_, rfl⟩
              rw [← HEx6]
              have KB2 : Hid (CBox x6 (x2.heap.size) (.slice none 0 0) (.slice none 0 0) (.slice none 0 0)) := Lib.hid (by rw [HEx6]; exact CBox.set3 KB.out _ _ _)
              replace C := Lib.hid (Below.set3 (g := x2.heap.size) C.out (by have sdo := SD.out; have s1o := S1.out; have s2o := S2.out; have s3o := S3.out; have zx3o := Zx3.out; have s5o := S5.out; have hmo := HM.out; have s7o := S7.out; show _ ≤ (x2.heap.size); omega) (.slice none 0 0) (.slice none 0 0) (.slice none 0 0)); rw [← HEx6] at C
              have hzz : x6.heap.size = x5.heap.size := by rw [HEx6, size_set3]
              have ZZ := Lib.hid hzz; clear hzz k0' k1' k2' k3' k4' k5' k6'
              refine hK.out _ _ ⟨(HX1.out.below C.out).c0, (HX1.out.below C.out).c1, (HX1.out.below C.out).c2⟩ (fun hHeld => ?_)
              clear hK K
              try simp only [Act.put, List.setIfInBounds_toArray, List.set_cons_zero, List.set_cons_succ]
              refine takeY 13 _ (v := ?_) rfl rfl (by kernel_rfl) (by kernel_rfl) (by kernel_rfl) (fun _ _ _ h => h) (by kernel_rfl) ?_ (by assumption) ?_
              rotate_left 1
              · intro w hSw; (try dsimp only at hSw); go_simp; (try with_reducible rfl)
              try simp only [Act.put, List.setIfInBounds_toArray, List.set_cons_zero, List.set_cons_succ]
              refine wpAnyH_done (by kernel_rfl) ?_ _
              go_wp2_with fail
              go_meet
              exact ⟨x2.heap.size, rfl, rfl, KB2, C, Lib.hid (by have sdo := SD.out; have s1o := S1.out; have s2o := S2.out; have s3o := S3.out; have zx3o := Zx3.out; have s5o := S5.out; have hmo := HM.out; have s7o := S7.out; have zzo := ZZ.out; omega)⟩
          · go_simp
            obtain ⟨x2, HEx2⟩ : ∃ V, V = ((x1).alloc (.cells #[.slice none 0 0, .slice none 0 0, .slice none 0 0] 36)) := ⟨_, rfl⟩
            rw [← HEx2]
            have hb : Below x1.heap.size x1 x2 := by rw [HEx2]; exact below_box2 _ _
            have hq : CBox x2 x1.heap.size (.slice none 0 0) (.slice none 0 0) (.slice none 0 0) := by rw [HEx2]; exact CBox.new _ _ _ _ _
            have hz : x1.heap.size + 1 ≤ x2.heap.size := by rw [HEx2]; simp
            replace RV := Lib.hid ((RV.out.below hb).more hb.size)
            replace C := Lib.hid (C.out.trans (hb.mono C.out.size))
            have S2 : Hid (x1.heap.size ≤ x2.heap.size) := Lib.hid hb.size
            have Zx2 : Hid (x1.heap.size + 1 ≤ x2.heap.size) := Lib.hid hz
            have KB := Lib.hid hq; clear hq hb hz HEx2
            refine hK.out _ _ ⟨(HX1.out.below C.out).c0, (HX1.out.below C.out).c1, (HX1.out.below C.out).c2⟩ (fun hHeld => ?_)
            clear hK K
            try simp only [Act.put, List.setIfInBounds_toArray, List.set_cons_zero, List.set_cons_succ]
            refine wpAnyH_ready (rs := [5]) (by kernel_rfl) (by simp) ?_
            refine AllReadyH.cons rfl (fun K hK => ?_) AllReadyH.nil
            go_simp
            refine (l01Own_las (.slice rA P.length rC) (ulL P S W P.length) x2 RV.out (by rw [ulL_len]; omega)).mono ?_
            rintro e x3 kk
            obtain ⟨ra0, rc0, rfl, ho, hb⟩ := kk.len (ulL_len _ _ _ _)
            replace RV := Lib.hid ((RV.out.below hb).more hb.size)
            replace KB := Lib.hid (KB.out.below hb)
            replace C := Lib.hid (C.out.trans (hb.mono C.out.size))
            have S4 : Hid (x2.heap.size ≤ x3.heap.size) := Lib.hid hb.size
            have O0 := Lib.hid ho; clear ho hb
            refine hK.out _ _ ⟨(HX1.out.below C.out).c0, (HX1.out.below C.out).c1, (HX1.out.below C.out).c2⟩ (fun hHeld => ?_)
            clear hK K
            try simp only [Act.put, List.setIfInBounds_toArray, List.set_cons_zero, List.set_cons_succ]
            refine wpAnyH_ready (rs := [6]) (by kernel_rfl) (by simp) ?_
            refine AllReadyH.cons rfl (fun K hK => ?_) AllReadyH.nil
            go_simp
            refine (l07With_any (.slice A0 P.length k0) (.slice A1 S.length k1) (.slice A2 W.length k2)  ra0 P.length rc0 P S W x3 ((HR1.out.below C.out).more C.out.size) hP hS).mono ?_
            rintro e x4 ⟨a', b', rfl, ⟨m, hm1, hm2, oa, ob⟩, hb⟩
            obtain ⟨A5, c5, rfl⟩ := own_form oa.1
            obtain ⟨A6, c6, rfl⟩ := own_form ob.1
            replace RV := Lib.hid ((RV.out.below hb).more hb.size)
            replace KB := Lib.hid (KB.out.below hb)
            replace O0 := Lib.hid (O0.out.stay hb)
            replace C := Lib.hid (C.out.trans (hb.mono C.out.size))
            have S5 : Hid (x3.heap.size ≤ x4.heap.size) := Lib.hid hb.size
            have OA := Lib.hid oa; have OB := Lib.hid ob; have HM : Hid (x3.heap.size ≤ m ∧ m ≤ x4.heap.size) := Lib.hid ⟨hm1, hm2⟩; clear oa ob hb hm1 hm2
            refine hK.out _ _ ⟨(HX1.out.below C.out).c0, (HX1.out.below C.out).c1, (HX1.out.below C.out).c2⟩ (fun hHeld => ?_)
            clear hK K
            try simp only [Act.put, List.setIfInBounds_toArray, List.set_cons_zero, List.set_cons_succ]
            refine wpAnyH_ready (rs := [7]) (by kernel_rfl) (by simp) ?_
            refine AllReadyH.cons rfl (fun K hK => ?_) AllReadyH.nil
            go_simp
            refine (l07Fit_any (.slice A5 P.length c5) (.slice A6 S.length c6) (.slice ra0 P.length rc0) P S (ulL P S W P.length) x4 ⟨OA.out.reads, OB.out.reads, O0.out.reads⟩ hP hS (by rw [ulL_len]; omega) false ((clB_with (W := W) HCL.out.toClP (ulL_len P S W P.length)).trans HBB.out)).mono ?_
            rintro e x5 ⟨rfl, hb⟩
            replace RV := Lib.hid ((RV.out.below hb).more hb.size)
            replace KB := Lib.hid (KB.out.below hb)
            replace O0 := Lib.hid (O0.out.stay hb)
            replace OA := Lib.hid (OA.out.stay hb)
            replace OB := Lib.hid (OB.out.stay hb)
            replace C := Lib.hid (C.out.trans (hb.mono C.out.size))
            have S7 : Hid (x4.heap.size ≤ x5.heap.size) := Lib.hid hb.size
            clear hb
            refine hK.out _ _ ⟨(HX1.out.below C.out).c0, (HX1.out.below C.out).c1, (HX1.out.below C.out).c2⟩ (fun hHeld => ?_)
            clear hK K
            try simp only [Act.put, List.setIfInBounds_toArray, List.set_cons_zero, List.set_cons_succ]
            refine takeY 8 _ (v := ?_) rfl rfl (by kernel_rfl) (by kernel_rfl) (by kernel_rfl) (fun _ _ _ h => h) (by kernel_rfl) ?_ (by assumption) ?_
            rotate_left 1
            · intro w hSw; (try dsimp only at hSw); go_simp; (try with_reducible rfl)
            try simp only [Act.put, List.setIfInBounds_toArray, List.set_cons_zero, List.set_cons_succ]
            refine takeY 9 _ (v := ?_) rfl rfl (by kernel_rfl) (by kernel_rfl) (by kernel_rfl) (fun _ _ _ h => h) (by kernel_rfl) ?_ (by assumption) ?_
            rotate_left 1
            · intro w hSw; (try dsimp only at hSw); go_simp; (try with_reducible rfl)
            try simp only [Act.put, List.setIfInBounds_toArray, List.set_cons_zero, List.set_cons_succ]
            refine takeY 10 _ (v := ?_) rfl rfl (by kernel_rfl) (by kernel_rfl) (by kernel_rfl) (fun _ _ _ h => h) (by kernel_rfl) ?_ (by assumption) ?_
            rotate_left 1
            · intro w hSw; (try dsimp only at hSw); go_simp; (try with_reducible rfl)
            try simp only [Act.put, List.setIfInBounds_toArray, List.set_cons_zero, List.set_cons_succ]
            have k0' := KB.out.c0; have k1' := KB.out.c1; have k2' := KB.out.c2; have k3' := KB.out.f0; have k4' := KB.out.f1; have k5' := KB.out.f2; have k6' := KB.out.lt
            refine wpAnyH_ready (rs := [12]) (by kernel_rfl) (by simp) ?_
            refine AllReadyH.cons rfl (fun K hK => ?_) AllReadyH.nil
            go_simp
            obtain ⟨x6, HEx6⟩ : ∃ V, V = (((x5.setCell ⟨x1.heap.size, 0, none⟩ (.slice none 0 0)).setCell ⟨x1.heap.size, 1, none⟩ (.slice none 0 0)).setCell ⟨x1.heap.size, 2, none⟩ (.slice none 0 0)) := ⟨_, rfl⟩
            rw [← HEx6]
            have KB2 : Hid (CBox x6 (x1.heap.size) (.slice none 0 0) (.slice none 0 0) (.slice none 0 0)) := Lib.hid (by rw [HEx6]; exact CBox.set3 KB.out _ _ _)
            replace C := Lib.hid (Below.set3 (g := x1.heap.size) C.out (by have sdo := SD.out; have s1o := S1.out; have s2o := S2.out; have zx2o := Zx2.out; have s4o := S4.out; have s5o := S5.out; have hmo := HM.out; have s7o := S7.out; show _ ≤ (x1.heap.size); omega) (.slice none 0 0) (.slice none 0 0) (.slice none 0 0)); rw [← HEx6] at C
            have hzz : x6.heap.size = x5.heap.size := by rw [HEx6, size_set3]
            have ZZ := Lib.hid hzz; clear hzz k0' k1' k2' k3' k4' k5' k6'
            refine hK.out _ _ ⟨(HX1.out.below C.out).c0, (HX1.out.below C.out).c1, (HX1.out.below C.out).c2⟩ (fun hHeld => ?_)
            clear hK K
            try simp only [Act.put, List.setIfInBounds_toArray, List.set_cons_zero, List.set_cons_succ]
            refine takeY 13 _ (v := ?_) rfl rfl (by kernel_rfl) (by kernel_rfl) (by kernel_rfl) (fun _ _ _ h => h) (by kernel_rfl) ?_ (by assumption) ?_
            rotate_left 1
            · intro w hSw; (try dsimp only at hSw); go_simp; (try with_reducible rfl)
            try simp only [Act.put, List.setIfInBounds_toArray, List.set_cons_zero, List.set_cons_succ]
            refine wpAnyH_done (by kernel_rfl) ?_ _
            go_wp2_with fail
            go_meet
            exact ⟨x1.heap.size, rfl, rfl, KB2, C, Lib.hid (by have sdo := SD.out; have s1o := S1.out; have s2o := S2.out; have zx2o := Zx2.out; have s4o := S4.out; have s5o := S5.out; have hmo := HM.out; have s7o := S7.out; have zzo := ZZ.out; omega)⟩
        · go_simp
          obtain ⟨x1, HEx1⟩ : ∃ V, V = ((w1).alloc (.cells #[.slice none 0 0, .slice none 0 0, .slice none 0 0] 36)).drew := ⟨_, rfl⟩
          rw [← HEx1]
          have hb : Below w1.drew.heap.size w1.drew x1 := by rw [HEx1]; have h9 := (below_box2 w1 (.cells #[.slice none 0 0, .slice none 0 0, .slice none 0 0] 36)).drew; exact ⟨h9.os, h9.tape, h9.output, h9.size, h9.block⟩
          have hq0 : CBox ((w1).alloc (.cells #[.slice none 0 0, .slice none 0 0, .slice none 0 0] 36)) w1.heap.size (.slice none 0 0) (.slice none 0 0) (.slice none 0 0) := CBox.new _ _ _ _ _
          have hq : CBox x1 w1.heap.size (.slice none 0 0) (.slice none 0 0) (.slice none 0 0) := by rw [HEx1]; exact hq0.below (Below.refl _ _).drew
          have hz : w1.heap.size + 1 ≤ x1.heap.size := by rw [HEx1]; show w1.heap.size + 1 ≤ ((w1).alloc (.cells #[.slice none 0 0, .slice none 0 0, .slice none 0 0] 36)).heap.size; simp
          replace C := Lib.hid (C.out.trans (hb.mono C.out.size))
          have S1 : Hid (w1.drew.heap.size ≤ x1.heap.size) := Lib.hid hb.size
          have Zx1 : Hid (w1.heap.size + 1 ≤ x1.heap.size) := Lib.hid hz
          have KB := Lib.hid hq; clear hq hb hz HEx1
          refine hK.out _ _ ⟨(HX1.out.below C.out).c0, (HX1.out.below C.out).c1, (HX1.out.below C.out).c2⟩ (fun hHeld => ?_)
          clear hK K
          try simp only [Act.put, List.setIfInBounds_toArray, List.set_cons_zero, List.set_cons_succ]
          refine wpAnyH_ready (rs := [4]) (by kernel_rfl) (by simp) ?_
          refine AllReadyH.cons rfl (fun K hK => ?_) AllReadyH.nil
          go_simp
          refine (l08Unload_w (.slice A0 P.length k0) (.slice A1 S.length k1) (.slice A2 W.length k2) (.slice A2 W.length k2) P S W P.length x1 ((HR1.out.below C.out).more C.out.size) ((HR1.out.below C.out).more C.out.size).2.2 HCL.out).mono ?_
          rintro e x2 ⟨rA, rC, rfl, hr, hb⟩
          replace KB := Lib.hid (KB.out.below hb)
          replace C := Lib.hid (C.out.trans (hb.mono C.out.size))
          have S3 : Hid (x1.heap.size ≤ x2.heap.size) := Lib.hid hb.size
          have RV := Lib.hid hr; clear hr hb
          refine hK.out _ _ ⟨(HX1.out.below C.out).c0, (HX1.out.below C.out).c1, (HX1.out.below C.out).c2⟩ (fun hHeld => ?_)
          clear hK K
          try simp only [Act.put, List.setIfInBounds_toArray, List.set_cons_zero, List.set_cons_succ]
          refine wpAnyH_ready (rs := [5]) (by kernel_rfl) (by simp) ?_
          refine AllReadyH.cons rfl (fun K hK => ?_) AllReadyH.nil
          go_simp
          refine (l01Own_las (.slice rA P.length rC) (ulL P S W P.length) x2 RV.out (by rw [ulL_len]; omega)).mono ?_
          rintro e x3 kk
          obtain ⟨ra0, rc0, rfl, ho, hb⟩ := kk.len (ulL_len _ _ _ _)
          replace RV := Lib.hid ((RV.out.below hb).more hb.size)
          replace KB := Lib.hid (KB.out.below hb)
          replace C := Lib.hid (C.out.trans (hb.mono C.out.size))
          have S4 : Hid (x2.heap.size ≤ x3.heap.size) := Lib.hid hb.size
          have O0 := Lib.hid ho; clear ho hb
          refine hK.out _ _ ⟨(HX1.out.below C.out).c0, (HX1.out.below C.out).c1, (HX1.out.below C.out).c2⟩ (fun hHeld => ?_)
          clear hK K
          try simp only [Act.put, List.setIfInBounds_toArray, List.set_cons_zero, List.set_cons_succ]
          refine wpAnyH_ready (rs := [6]) (by kernel_rfl) (by simp) ?_
          refine AllReadyH.cons rfl (fun K hK => ?_) AllReadyH.nil
          go_simp
          refine (l07With_any (.slice A0 P.length k0) (.slice A1 S.length k1) (.slice A2 W.length k2)  ra0 P.length rc0 P S W x3 ((HR1.out.below C.out).more C.out.size) hP hS).mono ?_
          rintro e x4 ⟨a', b', rfl, ⟨m, hm1, hm2, oa, ob⟩, hb⟩
          obtain ⟨A5, c5, rfl⟩ := own_form oa.1
          obtain ⟨A6, c6, rfl⟩ := own_form ob.1
          replace RV := Lib.hid ((RV.out.below hb).more hb.size)
          replace KB := Lib.hid (KB.out.below hb)
          replace O0 := Lib.hid (O0.out.stay hb)
          replace C := Lib.hid (C.out.trans (hb.mono C.out.size))
          have S5 : Hid (x3.heap.size ≤ x4.heap.size) := Lib.hid hb.size
          have OA := Lib.hid oa; have OB := Lib.hid ob; have HM : Hid (x3.heap.size ≤ m ∧ m ≤ x4.heap.size) := Lib.hid ⟨hm1, hm2⟩; clear oa ob hb hm1 hm2
          refine hK.out _ _ ⟨(HX1.out.below C.out).c0, (HX1.out.below C.out).c1, (HX1.out.below C.out).c2⟩ (fun hHeld => ?_)
          clear hK K
          try simp only [Act.put, List.setIfInBounds_toArray, List.set_cons_zero, List.set_cons_succ]
          refine wpAnyH_ready (rs := [7]) (by kernel_rfl) (by simp) ?_
          refine AllReadyH.cons rfl (fun K hK => ?_) AllReadyH.nil
          go_simp
          refine (l07Fit_any (.slice A5 P.length c5) (.slice A6 S.length c6) (.slice ra0 P.length rc0) P S (ulL P S W P.length) x4 ⟨OA.out.reads, OB.out.reads, O0.out.reads⟩ hP hS (by rw [ulL_len]; omega) false ((clB_with (W := W) HCL.out.toClP (ulL_len P S W P.length)).trans HBB.out)).mono ?_
          rintro e x5 ⟨rfl, hb⟩
          replace RV := Lib.hid ((RV.out.below hb).more hb.size)
          replace KB := Lib.hid (KB.out.below hb)
          replace O0 := Lib.hid (O0.out.stay hb)
          replace OA := Lib.hid (OA.out.stay hb)
          replace OB := Lib.hid (OB.out.stay hb)
          replace C := Lib.hid (C.out.trans (hb.mono C.out.size))
          have S7 : Hid (x4.heap.size ≤ x5.heap.size) := Lib.hid hb.size
          clear hb
          refine hK.out _ _ ⟨(HX1.out.below C.out).c0, (HX1.out.below C.out).c1, (HX1.out.below C.out).c2⟩ (fun hHeld => ?_)
          clear hK K
          try simp only [Act.put, List.setIfInBounds_toArray, List.set_cons_zero, List.set_cons_succ]
          refine takeY 8 _ (v := ?_) rfl rfl (by kernel_rfl) (by kernel_rfl) (by kernel_rfl) (fun _ _ _ h => h) (by kernel_rfl) ?_ (by assumption) ?_
          rotate_left 1
          · intro w hSw; (try dsimp only at hSw); go_simp; (try with_reducible rfl)
          try simp only [Act.put, List.setIfInBounds_toArray, List.set_cons_zero, List.set_cons_succ]
          refine takeY 9 _ (v := ?_) rfl rfl (by kernel_rfl) (by kernel_rfl) (by kernel_rfl) (fun _ _ _ h => h) (by kernel_rfl) ?_ (by assumption) ?_
          rotate_left 1
          · intro w hSw; (try dsimp only at hSw); go_simp; (try with_reducible rfl)
          try simp only [Act.put, List.setIfInBounds_toArray, List.set_cons_zero, List.set_cons_succ]
          refine takeY 10 _ (v := ?_) rfl rfl (by kernel_rfl) (by kernel_rfl) (by kernel_rfl) (fun _ _ _ h => h) (by kernel_rfl) ?_ (by assumption) ?_
          rotate_left 1
          · intro w hSw; (try dsimp only at hSw); go_simp; (try with_reducible rfl)
          try simp only [Act.put, List.setIfInBounds_toArray, List.set_cons_zero, List.set_cons_succ]
          have k0' := KB.out.c0; have k1' := KB.out.c1; have k2' := KB.out.c2; have k3' := KB.out.f0; have k4' := KB.out.f1; have k5' := KB.out.f2; have k6' := KB.out.lt
          refine wpAnyH_ready (rs := [12]) (by kernel_rfl) (by simp) ?_
          refine AllReadyH.cons rfl (fun K hK => ?_) AllReadyH.nil
          go_simp
          obtain ⟨x6, HEx6⟩ : ∃ V, V = (((x5.setCell ⟨w1.heap.size, 0, none⟩ (.slice none 0 0)).setCell ⟨w1.heap.size, 1, none⟩ (.slice none 0 0)).setCell ⟨w1.heap.size, 2, none⟩ (.slice none 0 0)) := ⟨_, rfl⟩
          rw [← HEx6]
          have KB2 : Hid (CBox x6 (w1.heap.size) (.slice none 0 0) (.slice none 0 0) (.slice none 0 0)) := Lib.hid (by rw [HEx6]; exact CBox.set3 KB.out _ _ _)
          replace C := Lib.hid (Below.set3 (g := w1.heap.size) C.out (by have sdo := SD.out; have s1o := S1.out; have zx1o := Zx1.out; have s3o := S3.out; have s4o := S4.out; have s5o := S5.out; have hmo := HM.out; have s7o := S7.out; show _ ≤ (w1.heap.size); omega) (.slice none 0 0) (.slice none 0 0) (.slice none 0 0)); rw [← HEx6] at C
          have hzz : x6.heap.size = x5.heap.size := by rw [HEx6, size_set3]
          have ZZ := Lib.hid hzz; clear hzz k0' k1' k2' k3' k4' k5' k6'
          refine hK.out _ _ ⟨(HX1.out.below C.out).c0, (HX1.out.below C.out).c1, (HX1.out.below C.out).c2⟩ (fun hHeld => ?_)
          clear hK K
          try simp only [Act.put, List.setIfInBounds_toArray, List.set_cons_zero, List.set_cons_succ]
          refine takeY 13 _ (v := ?_) rfl rfl (by kernel_rfl) (by kernel_rfl) (by kernel_rfl) (fun _ _ _ h => h) (by kernel_rfl) ?_ (by assumption) ?_
          rotate_left 1
          · intro w hSw; (try dsimp only at hSw); go_simp; (try with_reducible rfl)
          try simp only [Act.put, List.setIfInBounds_toArray, List.set_cons_zero, List.set_cons_succ]
          refine wpAnyH_done (by kernel_rfl) ?_ _
          go_wp2_with fail
          go_meet
          exact ⟨w1.heap.size, rfl, rfl, KB2, C, Lib.hid (by have sdo := SD.out; have s1o := S1.out; have zx1o := Zx1.out; have s3o := S3.out; have s4o := S4.out; have s5o := S5.out; have hmo := HM.out; have s7o := S7.out; have zzo := ZZ.out; omega)⟩
      case rest =>
        obtain ⟨g, rfl, rfl, KB, C, HL⟩ := hcut
        have hYc := HY1.out.below C.out; have hgl := HL.out; have hsw := HSW.out; have hs1 := HB1.out.size; have hcs := C.out.size
        clear y0 y1 y2
        have q0 := KB.out.c0; have q1 := KB.out.c1; have q2 := KB.out.c2; have q6 := KB.out.lt
        have p0 := hYc.c0; have p1 := hYc.c1; have p2 := hYc.c2; have p3 := hYc.f0; have p4 := hYc.f1; have p5 := hYc.f2; have p6 := hYc.lt
        have cr := CBox.set3 hYc (.slice none 0 0) (.slice none 0 0) (.slice none 0 0)
        have cr0 := cr.c0; have cr1 := cr.c1; have cr2 := cr.c2
        clear hYc hcs hs1
        go_wp2_with fail
        have hs1 := HB1.out.size; have hcs := C.out.size
        refine bodyPost_ret (v := .tuple #[.agg #[.slice none 0 0, .slice none 0 0, .slice none 0 0], .int .i64 3]) (by simp [results, Try.results70, go_sem, cr0, cr1, cr2]) rfl ?_
        exact AnsCC.noneC (HN.out.1) (HN.out.2.1) (HN.out.2.2) (HK.out.symm) (Below.set3 (HB1.out.trans (C.out.mono (by omega))) (by omega) _ _ _)
    · have HBB := Lib.hid hbb
      have HY4 := Lib.hid (ul_yes HCL.out hbb)
      clear hbb
      go_wp2_with fail
      go_cut [4, 5] (fun s0 s1 wx => ∃ (g l k m : Nat) (A4 : Option Addr) (c4 : Nat) (A5 : Option Addr) (c5 : Nat) (A6 : Option Addr) (c6 : Nat), s0 = .pointer (some ⟨g, 0, none⟩) ∧ s1 = .int .i64 0 ∧ Hid (CBox wx g (.slice A5 P.length c5) (.slice A6 S.length c6) (.slice A4 P.length c4)) ∧ Hid (OwnI wx k m (.slice A5 P.length c5) P) ∧ Hid (OwnI wx m wx.heap.size (.slice A6 S.length c6) S) ∧ Hid (OwnI wx l k (.slice A4 P.length c4) (ulL P S W P.length)) ∧ Hid (Below w1.heap.size w1 wx) ∧ Hid (w1.heap.size ≤ l ∧ l ≤ k ∧ k ≤ m ∧ m ≤ wx.heap.size ∧ w1.heap.size ≤ g))
      case first =>
        have C : Hid (Below w1.heap.size w1 w1.drew) := Lib.hid (Below.refl _ _).drew
        have SD : Hid (w1.drew.heap.size = w1.heap.size) := Lib.hid rfl
        refine wp_region_held_drew (S := fun w' => w'.cell? ⟨w.heap.size, 0, none⟩ = some (.slice A0 P.length k0) ∧ w'.cell? ⟨w.heap.size, 1, none⟩ = some (.slice A1 S.length k1) ∧ w'.cell? ⟨w.heap.size, 2, none⟩ = some (.slice A2 W.length k2)) (by kernel_rfl) ⟨y0, y1, y2⟩ (fun hHeld => ?_)
        refine takeY 0 _ (v := ?_) rfl rfl (by kernel_rfl) (by kernel_rfl) (by kernel_rfl) (fun _ _ _ h => h) (by kernel_rfl) ?_ (by assumption) ?_
        rotate_left 1
        · intro w hSw; (try dsimp only at hSw); go_simp; (try with_reducible rfl)
        try simp only [Act.put, List.setIfInBounds_toArray, List.set_cons_zero, List.set_cons_succ]
        refine takeY 1 _ (v := ?_) rfl rfl (by kernel_rfl) (by kernel_rfl) (by kernel_rfl) (fun _ _ _ h => h) (by kernel_rfl) ?_ (by assumption) ?_
        rotate_left 1
        · intro w hSw; (try dsimp only at hSw); go_simp; (try with_reducible rfl)
        try simp only [Act.put, List.setIfInBounds_toArray, List.set_cons_zero, List.set_cons_succ]
        refine takeY 2 _ (v := ?_) rfl rfl (by kernel_rfl) (by kernel_rfl) (by kernel_rfl) (fun _ _ _ h => h) (by kernel_rfl) ?_ (by assumption) ?_
        rotate_left 1
        · intro w hSw; (try dsimp only at hSw); go_simp; (try with_reducible rfl)
        try simp only [Act.put, List.setIfInBounds_toArray, List.set_cons_zero, List.set_cons_succ]
        refine takeY 3 _ (v := ?_) rfl rfl (by kernel_rfl) (by kernel_rfl) (by kernel_rfl) (fun _ _ _ h => h) (by kernel_rfl) ?_ (by assumption) ?_
        rotate_left 1
        · intro w hSw; (try dsimp only at hSw); go_simp; (try with_reducible rfl)
        try simp only [Act.put, List.setIfInBounds_toArray, List.set_cons_zero, List.set_cons_succ]
        refine wpAnyH_ready (rs := [4, 11]) (by kernel_rfl) (by simp) ?_
        refine AllReadyH.cons rfl (fun K hK => ?_) (AllReadyH.cons rfl (fun K hK => ?_) AllReadyH.nil)
        · go_simp
          refine (l08Unload_w (.slice A0 P.length k0) (.slice A1 S.length k1) (.slice A2 W.length k2) (.slice A2 W.length k2) P S W P.length w1.drew ((HR1.out.below C.out).more C.out.size) ((HR1.out.below C.out).more C.out.size).2.2 HCL.out).mono ?_
          rintro e x1 ⟨rA, rC, rfl, hr, hb⟩
          replace C := Lib.hid (C.out.trans (hb.mono C.out.size))
          have S1 : Hid (w1.drew.heap.size ≤ x1.heap.size) := Lib.hid hb.size
          have RV := Lib.hid hr; clear hr hb
          refine hK.out _ _ ⟨(HX1.out.below C.out).c0, (HX1.out.below C.out).c1, (HX1.out.below C.out).c2⟩ (fun hHeld => ?_)
          clear hK K
          try simp only [Act.put, List.setIfInBounds_toArray, List.set_cons_zero, List.set_cons_succ]
          refine wpAnyH_ready (rs := [5, 11]) (by kernel_rfl) (by simp) ?_
          refine AllReadyH.cons rfl (fun K hK => ?_) (AllReadyH.cons rfl (fun K hK => ?_) AllReadyH.nil)
          · go_simp
            refine (l01Own_las (.slice rA P.length rC) (ulL P S W P.length) x1 RV.out (by rw [ulL_len]; omega)).mono ?_
            rintro e x2 kk
            obtain ⟨ra0, rc0, rfl, ho, hb⟩ := kk.len (ulL_len _ _ _ _)
            replace RV := Lib.hid ((RV.out.below hb).more hb.size)
            replace C := Lib.hid (C.out.trans (hb.mono C.out.size))
            have S2 : Hid (x1.heap.size ≤ x2.heap.size) := Lib.hid hb.size
            have O0 := Lib.hid ho; clear ho hb
            refine hK.out _ _ ⟨(HX1.out.below C.out).c0, (HX1.out.below C.out).c1, (HX1.out.below C.out).c2⟩ (fun hHeld => ?_)
            clear hK K
            try simp only [Act.put, List.setIfInBounds_toArray, List.set_cons_zero, List.set_cons_succ]
            refine wpAnyH_ready (rs := [6, 11]) (by kernel_rfl) (by simp) ?_
            refine AllReadyH.cons rfl (fun K hK => ?_) (AllReadyH.cons rfl (fun K hK => ?_) AllReadyH.nil)
            · go_simp
              refine (l07With_any (.slice A0 P.length k0) (.slice A1 S.length k1) (.slice A2 W.length k2)  ra0 P.length rc0 P S W x2 ((HR1.out.below C.out).more C.out.size) hP hS).mono ?_
              rintro e x3 ⟨a', b', rfl, ⟨m, hm1, hm2, oa, ob⟩, hb⟩
              obtain ⟨A5, c5, rfl⟩ := own_form oa.1
              obtain ⟨A6, c6, rfl⟩ := own_form ob.1
              replace RV := Lib.hid ((RV.out.below hb).more hb.size)
              replace O0 := Lib.hid (O0.out.stay hb)
              replace C := Lib.hid (C.out.trans (hb.mono C.out.size))
              have S3 : Hid (x2.heap.size ≤ x3.heap.size) := Lib.hid hb.size
              have OA := Lib.hid oa; have OB := Lib.hid ob; have HM : Hid (x2.heap.size ≤ m ∧ m ≤ x3.heap.size) := Lib.hid ⟨hm1, hm2⟩; clear oa ob hb hm1 hm2
              refine hK.out _ _ ⟨(HX1.out.below C.out).c0, (HX1.out.below C.out).c1, (HX1.out.below C.out).c2⟩ (fun hHeld => ?_)
              clear hK K
              try simp only [Act.put, List.setIfInBounds_toArray, List.set_cons_zero, List.set_cons_succ]
              refine wpAnyH_ready (rs := [7, 11]) (by kernel_rfl) (by simp) ?_
              refine AllReadyH.cons rfl (fun K hK => ?_) (AllReadyH.cons rfl (fun K hK => ?_) AllReadyH.nil)
              · go_simp
                refine (l07Fit_any (.slice A5 P.length c5) (.slice A6 S.length c6) (.slice ra0 P.length rc0) P S (ulL P S W P.length) x3 ⟨OA.out.reads, OB.out.reads, O0.out.reads⟩ hP hS (by rw [ulL_len]; omega) true ((clB_with (W := W) HCL.out.toClP (ulL_len P S W P.length)).trans HBB.out)).mono ?_
                rintro e x4 ⟨rfl, hb⟩
                replace RV := Lib.hid ((RV.out.below hb).more hb.size)
                replace O0 := Lib.hid (O0.out.stay hb)
                replace OA := Lib.hid (OA.out.stay hb)
                replace OB := Lib.hid (OB.out.stay hb)
                replace C := Lib.hid (C.out.trans (hb.mono C.out.size))
                have S5 : Hid (x3.heap.size ≤ x4.heap.size) := Lib.hid hb.size
                clear hb
                refine hK.out _ _ ⟨(HX1.out.below C.out).c0, (HX1.out.below C.out).c1, (HX1.out.below C.out).c2⟩ (fun hHeld => ?_)
                clear hK K
                try simp only [Act.put, List.setIfInBounds_toArray, List.set_cons_zero, List.set_cons_succ]
                refine takeY 8 _ (v := ?_) rfl rfl (by kernel_rfl) (by kernel_rfl) (by kernel_rfl) (fun _ _ _ h => h) (by kernel_rfl) ?_ (by assumption) ?_
                rotate_left 1
                · intro w hSw; (try dsimp only at hSw); go_simp; (try with_reducible rfl)
                try simp only [Act.put, List.setIfInBounds_toArray, List.set_cons_zero, List.set_cons_succ]
                refine takeY 9 _ (v := ?_) rfl rfl (by kernel_rfl) (by kernel_rfl) (by kernel_rfl) (fun _ _ _ h => h) (by kernel_rfl) ?_ (by assumption) ?_
                rotate_left 1
                · intro w hSw; (try dsimp only at hSw); go_simp; (try with_reducible rfl)
                try simp only [Act.put, List.setIfInBounds_toArray, List.set_cons_zero, List.set_cons_succ]
                refine takeY 10 _ (v := ?_) rfl rfl (by kernel_rfl) (by kernel_rfl) (by kernel_rfl) (fun _ _ _ h => h) (by kernel_rfl) ?_ (by assumption) ?_
                rotate_left 1
                · intro w hSw; (try dsimp only at hSw); go_simp; (try with_reducible rfl)
                try simp only [Act.put, List.setIfInBounds_toArray, List.set_cons_zero, List.set_cons_succ]
                refine wpAnyH_ready (rs := [11]) (by kernel_rfl) (by simp) ?_
                refine AllReadyH.cons rfl (fun K hK => ?_) AllReadyH.nil
                go_simp
                obtain ⟨x5, HEx5⟩ : ∃ V, V = ((x4).alloc (.cells #[.slice none 0 0, .slice none 0 0, .slice none 0 0] 36)) := ⟨_, rfl⟩
                rw [← HEx5]
                have hb : Below x4.heap.size x4 x5 := by rw [HEx5]; exact below_box2 _ _
                have hq : CBox x5 x4.heap.size (.slice none 0 0) (.slice none 0 0) (.slice none 0 0) := by rw [HEx5]; exact CBox.new _ _ _ _ _
                have hz : x4.heap.size + 1 ≤ x5.heap.size := by rw [HEx5]; simp
                replace RV := Lib.hid ((RV.out.below hb).more hb.size)
                replace O0 := Lib.hid (O0.out.stay hb)
                replace OA := Lib.hid (OA.out.stay hb)
                replace OB := Lib.hid (OB.out.stay hb)
                replace C := Lib.hid (C.out.trans (hb.mono C.out.size))
                have S6 : Hid (x4.heap.size ≤ x5.heap.size) := Lib.hid hb.size
                have Zx5 : Hid (x4.heap.size + 1 ≤ x5.heap.size) := Lib.hid hz
                have KB := Lib.hid hq; clear hq hb hz HEx5
                refine hK.out _ _ ⟨(HX1.out.below C.out).c0, (HX1.out.below C.out).c1, (HX1.out.below C.out).c2⟩ (fun hHeld => ?_)
                clear hK K
                try simp only [Act.put, List.setIfInBounds_toArray, List.set_cons_zero, List.set_cons_succ]
                have k0' := KB.out.c0; have k1' := KB.out.c1; have k2' := KB.out.c2; have k3' := KB.out.f0; have k4' := KB.out.f1; have k5' := KB.out.f2; have k6' := KB.out.lt
                refine wpAnyH_ready (rs := [12]) (by kernel_rfl) (by simp) ?_
                refine AllReadyH.cons rfl (fun K hK => ?_) AllReadyH.nil
                go_simp
                obtain ⟨x6, HEx6⟩ : ∃ V, V = (((x5.setCell ⟨x4.heap.size, 0, none⟩ (.slice A5 P.length c5)).setCell ⟨x4.heap.size, 1, none⟩ (.slice A6 S.length c6)).setCell ⟨x4.heap.size, 2, none⟩ (.slice ra0 P.length rc0)) := ⟨_, rfl⟩
                rw [← HEx6]
                have KB2 : Hid (CBox x6 (x4.heap.size) (.slice A5 P.length c5) (.slice A6 S.length c6) (.slice ra0 P.length rc0)) := Lib.hid (by rw [HEx6]; exact CBox.set3 KB.out _ _ _)
                replace OA := Lib.hid (OA.out.kept (Kept.set3 (g := x4.heap.size) (by have sdo := SD.out; have s1o := S1.out; have s2o := S2.out; have s3o := S3.out; have hmo := HM.out; have s5o := S5.out; have s6o := S6.out; have zx5o := Zx5.out; omega) (.slice A5 P.length c5) (.slice A6 S.length c6) (.slice ra0 P.length rc0))); rw [← HEx6] at OA
                replace OB := Lib.hid (OB.out.kept (Kept.set3 (g := x4.heap.size) (by have sdo := SD.out; have s1o := S1.out; have s2o := S2.out; have s3o := S3.out; have hmo := HM.out; have s5o := S5.out; have s6o := S6.out; have zx5o := Zx5.out; omega) (.slice A5 P.length c5) (.slice A6 S.length c6) (.slice ra0 P.length rc0))); rw [← HEx6] at OB
                replace O0 := Lib.hid (O0.out.kept (Kept.set3 (g := x4.heap.size) (by have sdo := SD.out; have s1o := S1.out; have s2o := S2.out; have s3o := S3.out; have hmo := HM.out; have s5o := S5.out; have s6o := S6.out; have zx5o := Zx5.out; omega) (.slice A5 P.length c5) (.slice A6 S.length c6) (.slice ra0 P.length rc0))); rw [← HEx6] at O0
                replace C := Lib.hid (Below.set3 (g := x4.heap.size) C.out (by have sdo := SD.out; have s1o := S1.out; have s2o := S2.out; have s3o := S3.out; have hmo := HM.out; have s5o := S5.out; have s6o := S6.out; have zx5o := Zx5.out; show _ ≤ (x4.heap.size); omega) (.slice A5 P.length c5) (.slice A6 S.length c6) (.slice ra0 P.length rc0)); rw [← HEx6] at C
                have hzz : x6.heap.size = x5.heap.size := by rw [HEx6, size_set3]
                have ZZ := Lib.hid hzz; clear hzz k0' k1' k2' k3' k4' k5' k6'
                refine hK.out _ _ ⟨(HX1.out.below C.out).c0, (HX1.out.below C.out).c1, (HX1.out.below C.out).c2⟩ (fun hHeld => ?_)
                clear hK K
                try simp only [Act.put, List.setIfInBounds_toArray, List.set_cons_zero, List.set_cons_succ]
                refine takeY 13 _ (v := ?_) rfl rfl (by kernel_rfl) (by kernel_rfl) (by kernel_rfl) (fun _ _ _ h => h) (by kernel_rfl) ?_ (by assumption) ?_
                rotate_left 1
                · intro w hSw; (try dsimp only at hSw); go_simp; (try with_reducible rfl)
                try simp only [Act.put, List.setIfInBounds_toArray, List.set_cons_zero, List.set_cons_succ]
                refine wpAnyH_done (by kernel_rfl) ?_ _
                go_wp2_with fail
                go_meet
                exact ⟨x4.heap.size, x1.heap.size, x2.heap.size, m, ra0, rc0, A5, c5, A6, c6, rfl, rfl, KB2, OA.out.widen_lo (by have sdo := SD.out; have s1o := S1.out; have s2o := S2.out; have s3o := S3.out; have hmo := HM.out; have s5o := S5.out; have s6o := S6.out; have zx5o := Zx5.out; have zzo := ZZ.out; omega) |> Lib.hid, OB.out.raise (by have sdo := SD.out; have s1o := S1.out; have s2o := S2.out; have s3o := S3.out; have hmo := HM.out; have s5o := S5.out; have s6o := S6.out; have zx5o := Zx5.out; have zzo := ZZ.out; omega) (Nat.le_refl _) |> Lib.hid, O0, C, Lib.hid (by have sdo := SD.out; have s1o := S1.out; have s2o := S2.out; have s3o := S3.out; have hmo := HM.out; have s5o := S5.out; have s6o := S6.out; have zx5o := Zx5.out; have zzo := ZZ.out; omega)⟩
              · go_simp
                obtain ⟨x4, HEx4⟩ : ∃ V, V = ((x3).alloc (.cells #[.slice none 0 0, .slice none 0 0, .slice none 0 0] 36)) := ⟨_, rfl⟩
                rw [← HEx4]
                have hb : Below x3.heap.size x3 x4 := by rw [HEx4]; exact below_box2 _ _
                have hq : CBox x4 x3.heap.size (.slice none 0 0) (.slice none 0 0) (.slice none 0 0) := by rw [HEx4]; exact CBox.new _ _ _ _ _
                have hz : x3.heap.size + 1 ≤ x4.heap.size := by rw [HEx4]; simp
                replace RV := Lib.hid ((RV.out.below hb).more hb.size)
                replace O0 := Lib.hid (O0.out.stay hb)
                replace OA := Lib.hid (OA.out.stay hb)
                replace OB := Lib.hid (OB.out.stay hb)
                replace C := Lib.hid (C.out.trans (hb.mono C.out.size))
                have S5 : Hid (x3.heap.size ≤ x4.heap.size) := Lib.hid hb.size
                have Zx4 : Hid (x3.heap.size + 1 ≤ x4.heap.size) := Lib.hid hz
                have KB := Lib.hid hq; clear hq hb hz HEx4
                refine hK.out _ _ ⟨(HX1.out.below C.out).c0, (HX1.out.below C.out).c1, (HX1.out.below C.out).c2⟩ (fun hHeld => ?_)
                clear hK K
                try simp only [Act.put, List.setIfInBounds_toArray, List.set_cons_zero, List.set_cons_succ]
                refine wpAnyH_ready (rs := [7]) (by kernel_rfl) (by simp) ?_
                refine AllReadyH.cons rfl (fun K hK => ?_) AllReadyH.nil
                go_simp
                refine (l07Fit_any (.slice A5 P.length c5) (.slice A6 S.length c6) (.slice ra0 P.length rc0) P S (ulL P S W P.length) x4 ⟨OA.out.reads, OB.out.reads, O0.out.reads⟩ hP hS (by rw [ulL_len]; omega) true ((clB_with (W := W) HCL.out.toClP (ulL_len P S W P.length)).trans HBB.out)).mono ?_
                rintro e x5 ⟨rfl, hb⟩
                replace RV := Lib.hid ((RV.out.below hb).more hb.size)
                replace O0 := Lib.hid (O0.out.stay hb)
                replace OA := Lib.hid (OA.out.stay hb)
                replace OB := Lib.hid (OB.out.stay hb)
                replace KB := Lib.hid (KB.out.below hb)
                replace C := Lib.hid (C.out.trans (hb.mono C.out.size))
                have S7 : Hid (x4.heap.size ≤ x5.heap.size) := Lib.hid hb.size
                clear hb
                refine hK.out _ _ ⟨(HX1.out.below C.out).c0, (HX1.out.below C.out).c1, (HX1.out.below C.out).c2⟩ (fun hHeld => ?_)
                clear hK K
                try simp only [Act.put, List.setIfInBounds_toArray, List.set_cons_zero, List.set_cons_succ]
                refine takeY 8 _ (v := ?_) rfl rfl (by kernel_rfl) (by kernel_rfl) (by kernel_rfl) (fun _ _ _ h => h) (by kernel_rfl) ?_ (by assumption) ?_
                rotate_left 1
                · intro w hSw; (try dsimp only at hSw); go_simp; (try with_reducible rfl)
                try simp only [Act.put, List.setIfInBounds_toArray, List.set_cons_zero, List.set_cons_succ]
                refine takeY 9 _ (v := ?_) rfl rfl (by kernel_rfl) (by kernel_rfl) (by kernel_rfl) (fun _ _ _ h => h) (by kernel_rfl) ?_ (by assumption) ?_
                rotate_left 1
                · intro w hSw; (try dsimp only at hSw); go_simp; (try with_reducible rfl)
                try simp only [Act.put, List.setIfInBounds_toArray, List.set_cons_zero, List.set_cons_succ]
                refine takeY 10 _ (v := ?_) rfl rfl (by kernel_rfl) (by kernel_rfl) (by kernel_rfl) (fun _ _ _ h => h) (by kernel_rfl) ?_ (by assumption) ?_
                rotate_left 1
                · intro w hSw; (try dsimp only at hSw); go_simp; (try with_reducible rfl)
                try simp only [Act.put, List.setIfInBounds_toArray, List.set_cons_zero, List.set_cons_succ]
                have k0' := KB.out.c0; have k1' := KB.out.c1; have k2' := KB.out.c2; have k3' := KB.out.f0; have k4' := KB.out.f1; have k5' := KB.out.f2; have k6' := KB.out.lt
                refine wpAnyH_ready (rs := [12]) (by kernel_rfl) (by simp) ?_
                refine AllReadyH.cons rfl (fun K hK => ?_) AllReadyH.nil
                go_simp
                obtain ⟨x6, HEx6⟩ : ∃ V, V = (((x5.setCell ⟨x3.heap.size, 0, none⟩ (.slice A5 P.length c5)).setCell ⟨x3.heap.size, 1, none⟩ (.slice A6 S.length c6)).setCell ⟨x3.heap.size, 2, none⟩ (.slice ra0 P.length rc0)) := ⟨_, rfl⟩
                rw [← HEx6]
                have KB2 : Hid (CBox x6 (x3.heap.size) (.slice A5 P.length c5) (.slice A6 S.length c6) (.slice ra0 P.length rc0)) := Lib.hid (by rw [HEx6]; exact CBox.set3 KB.out _ _ _)
                replace OA := Lib.hid (OA.out.kept (Kept.set3 (g := x3.heap.size) (by have sdo := SD.out; have s1o := S1.out; have s2o := S2.out; have s3o := S3.out; have hmo := HM.out; have s5o := S5.out; have zx4o := Zx4.out; have s7o := S7.out; omega) (.slice A5 P.length c5) (.slice A6 S.length c6) (.slice ra0 P.length rc0))); rw [← HEx6] at OA
                replace OB := Lib.hid (OB.out.kept (Kept.set3 (g := x3.heap.size) (by have sdo := SD.out; have s1o := S1.out; have s2o := S2.out; have s3o := S3.out; have hmo := HM.out; have s5o := S5.out; have zx4o := Zx4.out; have s7o := S7.out; omega) (.slice A5 P.length c5) (.slice A6 S.length c6) (.slice ra0 P.length rc0))); rw [← HEx6] at OB
                replace O0 := Lib.hid (O0.out.kept (Kept.set3 (g := x3.heap.size) (by have sdo := SD.out; have s1o := S1.out; have s2o := S2.out; have s3o := S3.out; have hmo := HM.out; have s5o := S5.out; have zx4o := Zx4.out; have s7o := S7.out; omega) (.slice A5 P.length c5) (.slice A6 S.length c6) (.slice ra0 P.length rc0))); rw [← HEx6] at O0
                replace C := Lib.hid (Below.set3 (g := x3.heap.size) C.out (by have sdo := SD.out; have s1o := S1.out; have s2o := S2.out; have s3o := S3.out; have hmo := HM.out; have s5o := S5.out; have zx4o := Zx4.out; have s7o := S7.out; show _ ≤ (x3.heap.size); omega) (.slice A5 P.length c5) (.slice A6 S.length c6) (.slice ra0 P.length rc0)); rw [← HEx6] at C
                have hzz : x6.heap.size = x5.heap.size := by rw [HEx6, size_set3]
                have ZZ := Lib.hid hzz; clear hzz k0' k1' k2' k3' k4' k5' k6'
                refine hK.out _ _ ⟨(HX1.out.below C.out).c0, (HX1.out.below C.out).c1, (HX1.out.below C.out).c2⟩ (fun hHeld => ?_)
                clear hK K
                try simp only [Act.put, List.setIfInBounds_toArray, List.set_cons_zero, List.set_cons_succ]
                refine takeY 13 _ (v := ?_) rfl rfl (by kernel_rfl) (by kernel_rfl) (by kernel_rfl) (fun _ _ _ h => h) (by kernel_rfl) ?_ (by assumption) ?_
                rotate_left 1
                · intro w hSw; (try dsimp only at hSw); go_simp; (try with_reducible rfl)
                try simp only [Act.put, List.setIfInBounds_toArray, List.set_cons_zero, List.set_cons_succ]
                refine wpAnyH_done (by kernel_rfl) ?_ _
                go_wp2_with fail
                go_meet
                exact ⟨x3.heap.size, x1.heap.size, x2.heap.size, m, ra0, rc0, A5, c5, A6, c6, rfl, rfl, KB2, OA.out.widen_lo (by have sdo := SD.out; have s1o := S1.out; have s2o := S2.out; have s3o := S3.out; have hmo := HM.out; have s5o := S5.out; have zx4o := Zx4.out; have s7o := S7.out; have zzo := ZZ.out; omega) |> Lib.hid, OB.out.raise (by have sdo := SD.out; have s1o := S1.out; have s2o := S2.out; have s3o := S3.out; have hmo := HM.out; have s5o := S5.out; have zx4o := Zx4.out; have s7o := S7.out; have zzo := ZZ.out; omega) (Nat.le_refl _) |> Lib.hid, O0, C, Lib.hid (by have sdo := SD.out; have s1o := S1.out; have s2o := S2.out; have s3o := S3.out; have hmo := HM.out; have s5o := S5.out; have zx4o := Zx4.out; have s7o := S7.out; have zzo := ZZ.out; omega)⟩
            · go_simp
              obtain ⟨x3, HEx3⟩ : ∃ V, V = ((x2).alloc (.cells #[.slice none 0 0, .slice none 0 0, .slice none 0 0] 36)) := ⟨_, rfl⟩
              rw [← HEx3]
              have hb : Below x2.heap.size x2 x3 := by rw [HEx3]; exact below_box2 _ _
              have hq : CBox x3 x2.heap.size (.slice none 0 0) (.slice none 0 0) (.slice none 0 0) := by rw [HEx3]; exact CBox.new _ _ _ _ _
              have hz : x2.heap.size + 1 ≤ x3.heap.size := by rw [HEx3]; simp
              replace RV := Lib.hid ((RV.out.below hb).more hb.size)
              replace O0 := Lib.hid (O0.out.stay hb)
              replace C := Lib.hid (C.out.trans (hb.mono C.out.size))
              have S3 : Hid (x2.heap.size ≤ x3.heap.size) := Lib.hid hb.size
              have Zx3 : Hid (x2.heap.size + 1 ≤ x3.heap.size) := Lib.hid hz
              have KB := Lib.hid hq; clear hq hb hz HEx3
              refine hK.out _ _ ⟨(HX1.out.below C.out).c0, (HX1.out.below C.out).c1, (HX1.out.below C.out).c2⟩ (fun hHeld => ?_)
              clear hK K
              try simp only [Act.put, List.setIfInBounds_toArray, List.set_cons_zero, List.set_cons_succ]
              refine wpAnyH_ready (rs := [6]) (by kernel_rfl) (by simp) ?_
              refine AllReadyH.cons rfl (fun K hK => ?_) AllReadyH.nil
              go_simp
              refine (l07With_any (.slice A0 P.length k0) (.slice A1 S.length k1) (.slice A2 W.length k2)  ra0 P.length rc0 P S W x3 ((HR1.out.below C.out).more C.out.size) hP hS).mono ?_
              rintro e x4 ⟨a', b', rfl, ⟨m, hm1, hm2, oa, ob⟩, hb⟩
              obtain ⟨A5, c5, rfl⟩ := own_form oa.1
              obtain ⟨A6, c6, rfl⟩ := own_form ob.1
              replace RV := Lib.hid ((RV.out.below hb).more hb.size)
              replace O0 := Lib.hid (O0.out.stay hb)
              replace KB := Lib.hid (KB.out.below hb)
              replace C := Lib.hid (C.out.trans (hb.mono C.out.size))
              have S5 : Hid (x3.heap.size ≤ x4.heap.size) := Lib.hid hb.size
              have OA := Lib.hid oa; have OB := Lib.hid ob; have HM : Hid (x3.heap.size ≤ m ∧ m ≤ x4.heap.size) := Lib.hid ⟨hm1, hm2⟩; clear oa ob hb hm1 hm2
              refine hK.out _ _ ⟨(HX1.out.below C.out).c0, (HX1.out.below C.out).c1, (HX1.out.below C.out).c2⟩ (fun hHeld => ?_)
              clear hK K
              try simp only [Act.put, List.setIfInBounds_toArray, List.set_cons_zero, List.set_cons_succ]
              refine wpAnyH_ready (rs := [7]) (by kernel_rfl) (by simp) ?_
              refine AllReadyH.cons rfl (fun K hK => ?_) AllReadyH.nil
              go_simp
              refine (l07Fit_any (.slice A5 P.length c5) (.slice A6 S.length c6) (.slice ra0 P.length rc0) P S (ulL P S W P.length) x4 ⟨OA.out.reads, OB.out.reads, O0.out.reads⟩ hP hS (by rw [ulL_len]; omega) true ((clB_with (W := W) HCL.out.toClP (ulL_len P S W P.length)).trans HBB.out)).mono ?_
              rintro e x5 ⟨rfl, hb⟩
              replace RV := Lib.hid ((RV.out.below hb).more hb.size)
              replace O0 := Lib.hid (O0.out.stay hb)
              replace KB := Lib.hid (KB.out.below hb)
              replace OA := Lib.hid (OA.out.stay hb)
              replace OB := Lib.hid (OB.out.stay hb)
              replace C := Lib.hid (C.out.trans (hb.mono C.out.size))
              have S7 : Hid (x4.heap.size ≤ x5.heap.size) := Lib.hid hb.size
              clear hb
              refine hK.out _ _ ⟨(HX1.out.below C.out).c0, (HX1.out.below C.out).c1, (HX1.out.below C.out).c2⟩ (fun hHeld => ?_)
              clear hK K
              try simp only [Act.put, List.setIfInBounds_toArray, List.set_cons_zero, List.set_cons_succ]
              refine takeY 8 _ (v := ?_) rfl rfl (by kernel_rfl) (by kernel_rfl) (by kernel_rfl) (fun _ _ _ h => h) (by kernel_rfl) ?_ (by assumption) ?_
              rotate_left 1
              · intro w hSw; (try dsimp only at hSw); go_simp; (try with_reducible rfl)
              try simp only [Act.put, List.setIfInBounds_toArray, List.set_cons_zero, List.set_cons_succ]
              refine takeY 9 _ (v := ?_) rfl rfl (by kernel_rfl) (by kernel_rfl) (by kernel_rfl) (fun _ _ _ h => h) (by kernel_rfl) ?_ (by assumption) ?_
              rotate_left 1
              · intro w hSw; (try dsimp only at hSw); go_simp; (try with_reducible rfl)
              try simp only [Act.put, List.setIfInBounds_toArray, List.set_cons_zero, List.set_cons_succ]
              refine takeY 10 _ (v := ?_) rfl rfl (by kernel_rfl) (by kernel_rfl) (by kernel_rfl) (fun _ _ _ h => h) (by kernel_rfl) ?_ (by assumption) ?_
              rotate_left 1
              · intro w hSw; (try dsimp only at hSw); go_simp; (try with_reducible rfl)
              try simp only [Act.put, List.setIfInBounds_toArray, List.set_cons_zero, List.set_cons_succ]
              have k0' := KB.out.c0; have k1' := KB.out.c1; have k2' := KB.out.c2; have k3' := KB.out.f0; have k4' := KB.out.f1; have k5' := KB.out.f2; have k6' := KB.out.lt
              refine wpAnyH_ready (rs := [12]) (by kernel_rfl) (by simp) ?_
              refine AllReadyH.cons rfl (fun K hK => ?_) AllReadyH.nil
              go_simp
              obtain ⟨x6, HEx6⟩ : ∃ V, V = (((x5.setCell ⟨x2.heap.size, 0, none⟩ (.slice A5 P.length c5)).setCell ⟨x2.heap.size, 1, none⟩ (.slice A6 S.length c6)).setCell ⟨x2.heap.size, 2, none⟩ (.slice ra0 P.length rc0)) := ⟨_, rfl⟩
              rw [← HEx6]
              have KB2 : Hid (CBox x6 (x2.heap.size) (.slice A5 P.length c5) (.slice A6 S.length c6) (.slice ra0 P.length rc0)) := Lib.hid (by rw [HEx6]; exact CBox.set3 KB.out _ _ _)
              replace OA := Lib.hid (OA.out.kept (Kept.set3 (g := x2.heap.size) (by have sdo := SD.out; have s1o := S1.out; have s2o := S2.out; have s3o := S3.out; have zx3o := Zx3.out; have s5o := S5.out; have hmo := HM.out; have s7o := S7.out; omega) (.slice A5 P.length c5) (.slice A6 S.length c6) (.slice ra0 P.length rc0))); rw [← HEx6] at OA
              replace OB := Lib.hid (OB.out.kept (Kept.set3 (g := x2.heap.size) (by have sdo := SD.out; have s1o := S1.out; have s2o := S2.out; have s3o := S3.out; have zx3o := Zx3.out; have s5o := S5.out; have hmo := HM.out; have s7o := S7.out; omega) (.slice A5 P.length c5) (.slice A6 S.length c6) (.slice ra0 P.length rc0))); rw [← HEx6] at OB
              replace O0 := Lib.hid (O0.out.kept (Kept.set3 (g := x2.heap.size) (by have sdo := SD.out; have s1o := S1.out; have s2o := S2.out; have s3o := S3.out; have zx3o := Zx3.out; have s5o := S5.out; have hmo := HM.out; have s7o := S7.out; omega) (.slice A5 P.length c5) (.slice A6 S.length c6) (.slice ra0 P.length rc0))); rw [← HEx6] at O0
              replace C := Lib.hid (Below.set3 (g := x2.heap.size) C.out (by have sdo := SD.out; have s1o := S1.out; have s2o := S2.out; have s3o := S3.out; have zx3o := Zx3.out; have s5o := S5.out; have hmo := HM.out; have s7o := S7.out; show _ ≤ (x2.heap.size); omega) (.slice A5 P.length c5) (.slice A6 S.length c6) (.slice ra0 P.length rc0)); rw [← HEx6] at C
              have hzz : x6.heap.size = x5.heap.size := by rw [HEx6, size_set3]
              have ZZ := Lib.hid hzz; clear hzz k0' k1' k2' k3' k4' k5' k6'
              refine hK.out _ _ ⟨(HX1.out.below C.out).c0, (HX1.out.below C.out).c1, (HX1.out.below C.out).c2⟩ (fun hHeld => ?_)
              clear hK K
              try simp only [Act.put, List.setIfInBounds_toArray, List.set_cons_zero, List.set_cons_succ]
              refine takeY 13 _ (v := ?_) rfl rfl (by kernel_rfl) (by kernel_rfl) (by kernel_rfl) (fun _ _ _ h => h) (by kernel_rfl) ?_ (by assumption) ?_
              rotate_left 1
              · intro w hSw; (try dsimp only at hSw); go_simp; (try with_reducible rfl)
              try simp only [Act.put, List.setIfInBounds_toArray, List.set_cons_zero, List.set_cons_succ]
              refine wpAnyH_done (by kernel_rfl) ?_ _
              go_wp2_with fail
              go_meet
              exact ⟨x2.heap.size, x1.heap.size, x2.heap.size, m, ra0, rc0, A5, c5, A6, c6, rfl, rfl, KB2, OA.out.widen_lo (by have sdo := SD.out; have s1o := S1.out; have s2o := S2.out; have s3o := S3.out; have zx3o := Zx3.out; have s5o := S5.out; have hmo := HM.out; have s7o := S7.out; have zzo := ZZ.out; omega) |> Lib.hid, OB.out.raise (by have sdo := SD.out; have s1o := S1.out; have s2o := S2.out; have s3o := S3.out; have zx3o := Zx3.out; have s5o := S5.out; have hmo := HM.out; have s7o := S7.out; have zzo := ZZ.out; omega) (Nat.le_refl _) |> Lib.hid, O0, C, Lib.hid (by have sdo := SD.out; have s1o := S1.out; have s2o := S2.out; have s3o := S3.out; have zx3o := Zx3.out; have s5o := S5.out; have hmo := HM.out; have s7o := S7.out; have zzo := ZZ.out; omega)⟩
          · go_simp
            obtain ⟨x2, HEx2⟩ : ∃ V, V = ((x1).alloc (.cells #[.slice none 0 0, .slice none 0 0, .slice none 0 0] 36)) := ⟨_, rfl⟩
            rw [← HEx2]
            have hb : Below x1.heap.size x1 x2 := by rw [HEx2]; exact below_box2 _ _
            have hq : CBox x2 x1.heap.size (.slice none 0 0) (.slice none 0 0) (.slice none 0 0) := by rw [HEx2]; exact CBox.new _ _ _ _ _
            have hz : x1.heap.size + 1 ≤ x2.heap.size := by rw [HEx2]; simp
            replace RV := Lib.hid ((RV.out.below hb).more hb.size)
            replace C := Lib.hid (C.out.trans (hb.mono C.out.size))
            have S2 : Hid (x1.heap.size ≤ x2.heap.size) := Lib.hid hb.size
            have Zx2 : Hid (x1.heap.size + 1 ≤ x2.heap.size) := Lib.hid hz
            have KB := Lib.hid hq; clear hq hb hz HEx2
            refine hK.out _ _ ⟨(HX1.out.below C.out).c0, (HX1.out.below C.out).c1, (HX1.out.below C.out).c2⟩ (fun hHeld => ?_)
            clear hK K
            try simp only [Act.put, List.setIfInBounds_toArray, List.set_cons_zero, List.set_cons_succ]
            refine wpAnyH_ready (rs := [5]) (by kernel_rfl) (by simp) ?_
            refine AllReadyH.cons rfl (fun K hK => ?_) AllReadyH.nil
            go_simp
            refine (l01Own_las (.slice rA P.length rC) (ulL P S W P.length) x2 RV.out (by rw [ulL_len]; omega)).mono ?_
            rintro e x3 kk
            obtain ⟨ra0, rc0, rfl, ho, hb⟩ := kk.len (ulL_len _ _ _ _)
            replace RV := Lib.hid ((RV.out.below hb).more hb.size)
            replace KB := Lib.hid (KB.out.below hb)
            replace C := Lib.hid (C.out.trans (hb.mono C.out.size))
            have S4 : Hid (x2.heap.size ≤ x3.heap.size) := Lib.hid hb.size
            have O0 := Lib.hid ho; clear ho hb
            refine hK.out _ _ ⟨(HX1.out.below C.out).c0, (HX1.out.below C.out).c1, (HX1.out.below C.out).c2⟩ (fun hHeld => ?_)
            clear hK K
            try simp only [Act.put, List.setIfInBounds_toArray, List.set_cons_zero, List.set_cons_succ]
            refine wpAnyH_ready (rs := [6]) (by kernel_rfl) (by simp) ?_
            refine AllReadyH.cons rfl (fun K hK => ?_) AllReadyH.nil
            go_simp
            refine (l07With_any (.slice A0 P.length k0) (.slice A1 S.length k1) (.slice A2 W.length k2)  ra0 P.length rc0 P S W x3 ((HR1.out.below C.out).more C.out.size) hP hS).mono ?_
            rintro e x4 ⟨a', b', rfl, ⟨m, hm1, hm2, oa, ob⟩, hb⟩
            obtain ⟨A5, c5, rfl⟩ := own_form oa.1
            obtain ⟨A6, c6, rfl⟩ := own_form ob.1
            replace RV := Lib.hid ((RV.out.below hb).more hb.size)
            replace KB := Lib.hid (KB.out.below hb)
            replace O0 := Lib.hid (O0.out.stay hb)
            replace C := Lib.hid (C.out.trans (hb.mono C.out.size))
            have S5 : Hid (x3.heap.size ≤ x4.heap.size) := Lib.hid hb.size
            have OA := Lib.hid oa; have OB := Lib.hid ob; have HM : Hid (x3.heap.size ≤ m ∧ m ≤ x4.heap.size) := Lib.hid ⟨hm1, hm2⟩; clear oa ob hb hm1 hm2
            refine hK.out _ _ ⟨(HX1.out.below C.out).c0, (HX1.out.below C.out).c1, (HX1.out.below C.out).c2⟩ (fun hHeld => ?_)
            clear hK K
            try simp only [Act.put, List.setIfInBounds_toArray, List.set_cons_zero, List.set_cons_succ]
            refine wpAnyH_ready (rs := [7]) (by kernel_rfl) (by simp) ?_
            refine AllReadyH.cons rfl (fun K hK => ?_) AllReadyH.nil
            go_simp
            refine (l07Fit_any (.slice A5 P.length c5) (.slice A6 S.length c6) (.slice ra0 P.length rc0) P S (ulL P S W P.length) x4 ⟨OA.out.reads, OB.out.reads, O0.out.reads⟩ hP hS (by rw [ulL_len]; omega) true ((clB_with (W := W) HCL.out.toClP (ulL_len P S W P.length)).trans HBB.out)).mono ?_
            rintro e x5 ⟨rfl, hb⟩
            replace RV := Lib.hid ((RV.out.below hb).more hb.size)
            replace KB := Lib.hid (KB.out.below hb)
            replace O0 := Lib.hid (O0.out.stay hb)
            replace OA := Lib.hid (OA.out.stay hb)
            replace OB := Lib.hid (OB.out.stay hb)
            replace C := Lib.hid (C.out.trans (hb.mono C.out.size))
            have S7 : Hid (x4.heap.size ≤ x5.heap.size) := Lib.hid hb.size
            clear hb
            refine hK.out _ _ ⟨(HX1.out.below C.out).c0, (HX1.out.below C.out).c1, (HX1.out.below C.out).c2⟩ (fun hHeld => ?_)
            clear hK K
            try simp only [Act.put, List.setIfInBounds_toArray, List.set_cons_zero, List.set_cons_succ]
            refine takeY 8 _ (v := ?_) rfl rfl (by kernel_rfl) (by kernel_rfl) (by kernel_rfl) (fun _ _ _ h => h) (by kernel_rfl) ?_ (by assumption) ?_
            rotate_left 1
            · intro w hSw; (try dsimp only at hSw); go_simp; (try with_reducible rfl)
            try simp only [Act.put, List.setIfInBounds_toArray, List.set_cons_zero, List.set_cons_succ]
            refine takeY 9 _ (v := ?_) rfl rfl (by kernel_rfl) (by kernel_rfl) (by kernel_rfl) (fun _ _ _ h => h) (by kernel_rfl) ?_ (by assumption) ?_
            rotate_left 1
            · intro w hSw; (try dsimp only at hSw); go_simp; (try with_reducible rfl)
            try simp only [Act.put, List.setIfInBounds_toArray, List.set_cons_zero, List.set_cons_succ]
            refine takeY 10 _ (v := ?_) rfl rfl (by kernel_rfl) (by kernel_rfl) (by kernel_rfl) (fun _ _ _ h => h) (by kernel_rfl) ?_ (by assumption) ?_
            rotate_left 1
            · intro w hSw; (try dsimp only at hSw); go_simp; (try with_reducible rfl)
            try simp only [Act.put, List.setIfInBounds_toArray, List.set_cons_zero, List.set_cons_succ]
            have k0' := KB.out.c0; have k1' := KB.out.c1; have k2' := KB.out.c2; have k3' := KB.out.f0; have k4' := KB.out.f1; have k5' := KB.out.f2; have k6' := KB.out.lt
            refine wpAnyH_ready (rs := [12]) (by kernel_rfl) (by simp) ?_
            refine AllReadyH.cons rfl (fun K hK => ?_) AllReadyH.nil
            go_simp
            obtain ⟨x6, HEx6⟩ : ∃ V, V = (((x5.setCell ⟨x1.heap.size, 0, none⟩ (.slice A5 P.length c5)).setCell ⟨x1.heap.size, 1, none⟩ (.slice A6 S.length c6)).setCell ⟨x1.heap.size, 2, none⟩ (.slice ra0 P.length rc0)) := ⟨_, rfl⟩
            rw [← HEx6]
            have KB2 : Hid (CBox x6 (x1.heap.size) (.slice A5 P.length c5) (.slice A6 S.length c6) (.slice ra0 P.length rc0)) := Lib.hid (by rw [HEx6]; exact CBox.set3 KB.out _ _ _)
            replace OA := Lib.hid (OA.out.kept (Kept.set3 (g := x1.heap.size) (by have sdo := SD.out; have s1o := S1.out; have s2o := S2.out; have zx2o := Zx2.out; have s4o := S4.out; have s5o := S5.out; have hmo := HM.out; have s7o := S7.out; omega) (.slice A5 P.length c5) (.slice A6 S.length c6) (.slice ra0 P.length rc0))); rw [← HEx6] at OA
            replace OB := Lib.hid (OB.out.kept (Kept.set3 (g := x1.heap.size) (by have sdo := SD.out; have s1o := S1.out; have s2o := S2.out; have zx2o := Zx2.out; have s4o := S4.out; have s5o := S5.out; have hmo := HM.out; have s7o := S7.out; omega) (.slice A5 P.length c5) (.slice A6 S.length c6) (.slice ra0 P.length rc0))); rw [← HEx6] at OB
            replace O0 := Lib.hid (O0.out.kept (Kept.set3 (g := x1.heap.size) (by have sdo := SD.out; have s1o := S1.out; have s2o := S2.out; have zx2o := Zx2.out; have s4o := S4.out; have s5o := S5.out; have hmo := HM.out; have s7o := S7.out; omega) (.slice A5 P.length c5) (.slice A6 S.length c6) (.slice ra0 P.length rc0))); rw [← HEx6] at O0
            replace C := Lib.hid (Below.set3 (g := x1.heap.size) C.out (by have sdo := SD.out; have s1o := S1.out; have s2o := S2.out; have zx2o := Zx2.out; have s4o := S4.out; have s5o := S5.out; have hmo := HM.out; have s7o := S7.out; show _ ≤ (x1.heap.size); omega) (.slice A5 P.length c5) (.slice A6 S.length c6) (.slice ra0 P.length rc0)); rw [← HEx6] at C
            have hzz : x6.heap.size = x5.heap.size := by rw [HEx6, size_set3]
            have ZZ := Lib.hid hzz; clear hzz k0' k1' k2' k3' k4' k5' k6'
            refine hK.out _ _ ⟨(HX1.out.below C.out).c0, (HX1.out.below C.out).c1, (HX1.out.below C.out).c2⟩ (fun hHeld => ?_)
            clear hK K
            try simp only [Act.put, List.setIfInBounds_toArray, List.set_cons_zero, List.set_cons_succ]
            refine takeY 13 _ (v := ?_) rfl rfl (by kernel_rfl) (by kernel_rfl) (by kernel_rfl) (fun _ _ _ h => h) (by kernel_rfl) ?_ (by assumption) ?_
            rotate_left 1
            · intro w hSw; (try dsimp only at hSw); go_simp; (try with_reducible rfl)
            try simp only [Act.put, List.setIfInBounds_toArray, List.set_cons_zero, List.set_cons_succ]
            refine wpAnyH_done (by kernel_rfl) ?_ _
            go_wp2_with fail
            go_meet
            exact ⟨x1.heap.size, x2.heap.size, x3.heap.size, m, ra0, rc0, A5, c5, A6, c6, rfl, rfl, KB2, OA.out.widen_lo (by have sdo := SD.out; have s1o := S1.out; have s2o := S2.out; have zx2o := Zx2.out; have s4o := S4.out; have s5o := S5.out; have hmo := HM.out; have s7o := S7.out; have zzo := ZZ.out; omega) |> Lib.hid, OB.out.raise (by have sdo := SD.out; have s1o := S1.out; have s2o := S2.out; have zx2o := Zx2.out; have s4o := S4.out; have s5o := S5.out; have hmo := HM.out; have s7o := S7.out; have zzo := ZZ.out; omega) (Nat.le_refl _) |> Lib.hid, O0, C, Lib.hid (by have sdo := SD.out; have s1o := S1.out; have s2o := S2.out; have zx2o := Zx2.out; have s4o := S4.out; have s5o := S5.out; have hmo := HM.out; have s7o := S7.out; have zzo := ZZ.out; omega)⟩
        · go_simp
          obtain ⟨x1, HEx1⟩ : ∃ V, V = ((w1).alloc (.cells #[.slice none 0 0, .slice none 0 0, .slice none 0 0] 36)).drew := ⟨_, rfl⟩
          rw [← HEx1]
          have hb : Below w1.drew.heap.size w1.drew x1 := by rw [HEx1]; have h9 := (below_box2 w1 (.cells #[.slice none 0 0, .slice none 0 0, .slice none 0 0] 36)).drew; exact ⟨h9.os, h9.tape, h9.output, h9.size, h9.block⟩
          have hq0 : CBox ((w1).alloc (.cells #[.slice none 0 0, .slice none 0 0, .slice none 0 0] 36)) w1.heap.size (.slice none 0 0) (.slice none 0 0) (.slice none 0 0) := CBox.new _ _ _ _ _
          have hq : CBox x1 w1.heap.size (.slice none 0 0) (.slice none 0 0) (.slice none 0 0) := by rw [HEx1]; exact hq0.below (Below.refl _ _).drew
          have hz : w1.heap.size + 1 ≤ x1.heap.size := by rw [HEx1]; show w1.heap.size + 1 ≤ ((w1).alloc (.cells #[.slice none 0 0, .slice none 0 0, .slice none 0 0] 36)).heap.size; simp
          replace C := Lib.hid (C.out.trans (hb.mono C.out.size))
          have S1 : Hid (w1.drew.heap.size ≤ x1.heap.size) := Lib.hid hb.size
          have Zx1 : Hid (w1.heap.size + 1 ≤ x1.heap.size) := Lib.hid hz
          have KB := Lib.hid hq; clear hq hb hz HEx1
          refine hK.out _ _ ⟨(HX1.out.below C.out).c0, (HX1.out.below C.out).c1, (HX1.out.below C.out).c2⟩ (fun hHeld => ?_)
          clear hK K
          try simp only [Act.put, List.setIfInBounds_toArray, List.set_cons_zero, List.set_cons_succ]
          refine wpAnyH_ready (rs := [4]) (by kernel_rfl) (by simp) ?_
          refine AllReadyH.cons rfl (fun K hK => ?_) AllReadyH.nil
          go_simp
          refine (l08Unload_w (.slice A0 P.length k0) (.slice A1 S.length k1) (.slice A2 W.length k2) (.slice A2 W.length k2) P S W P.length x1 ((HR1.out.below C.out).more C.out.size) ((HR1.out.below C.out).more C.out.size).2.2 HCL.out).mono ?_
          rintro e x2 ⟨rA, rC, rfl, hr, hb⟩
          replace KB := Lib.hid (KB.out.below hb)
          replace C := Lib.hid (C.out.trans (hb.mono C.out.size))
          have S3 : Hid (x1.heap.size ≤ x2.heap.size) := Lib.hid hb.size
          have RV := Lib.hid hr; clear hr hb
          refine hK.out _ _ ⟨(HX1.out.below C.out).c0, (HX1.out.below C.out).c1, (HX1.out.below C.out).c2⟩ (fun hHeld => ?_)
          clear hK K
          try simp only [Act.put, List.setIfInBounds_toArray, List.set_cons_zero, List.set_cons_succ]
          refine wpAnyH_ready (rs := [5]) (by kernel_rfl) (by simp) ?_
          refine AllReadyH.cons rfl (fun K hK => ?_) AllReadyH.nil
          go_simp
          refine (l01Own_las (.slice rA P.length rC) (ulL P S W P.length) x2 RV.out (by rw [ulL_len]; omega)).mono ?_
          rintro e x3 kk
          obtain ⟨ra0, rc0, rfl, ho, hb⟩ := kk.len (ulL_len _ _ _ _)
          replace RV := Lib.hid ((RV.out.below hb).more hb.size)
          replace KB := Lib.hid (KB.out.below hb)
          replace C := Lib.hid (C.out.trans (hb.mono C.out.size))
          have S4 : Hid (x2.heap.size ≤ x3.heap.size) := Lib.hid hb.size
          have O0 := Lib.hid ho; clear ho hb
          refine hK.out _ _ ⟨(HX1.out.below C.out).c0, (HX1.out.below C.out).c1, (HX1.out.below C.out).c2⟩ (fun hHeld => ?_)
          clear hK K
          try simp only [Act.put, List.setIfInBounds_toArray, List.set_cons_zero, List.set_cons_succ]
          refine wpAnyH_ready (rs := [6]) (by kernel_rfl) (by simp) ?_
          refine AllReadyH.cons rfl (fun K hK => ?_) AllReadyH.nil
          go_simp
          refine (l07With_any (.slice A0 P.length k0) (.slice A1 S.length k1) (.slice A2 W.length k2)  ra0 P.length rc0 P S W x3 ((HR1.out.below C.out).more C.out.size) hP hS).mono ?_
          rintro e x4 ⟨a', b', rfl, ⟨m, hm1, hm2, oa, ob⟩, hb⟩
          obtain ⟨A5, c5, rfl⟩ := own_form oa.1
          obtain ⟨A6, c6, rfl⟩ := own_form ob.1
          replace RV := Lib.hid ((RV.out.below hb).more hb.size)
          replace KB := Lib.hid (KB.out.below hb)
          replace O0 := Lib.hid (O0.out.stay hb)
          replace C := Lib.hid (C.out.trans (hb.mono C.out.size))
          have S5 : Hid (x3.heap.size ≤ x4.heap.size) := Lib.hid hb.size
          have OA := Lib.hid oa; have OB := Lib.hid ob; have HM : Hid (x3.heap.size ≤ m ∧ m ≤ x4.heap.size) := Lib.hid ⟨hm1, hm2⟩; clear oa ob hb hm1 hm2
          refine hK.out _ _ ⟨(HX1.out.below C.out).c0, (HX1.out.below C.out).c1, (HX1.out.below C.out).c2⟩ (fun hHeld => ?_)
          clear hK K
          try simp only [Act.put, List.setIfInBounds_toArray, List.set_cons_zero, List.set_cons_succ]
          refine wpAnyH_ready (rs := [7]) (by kernel_rfl) (by simp) ?_
          refine AllReadyH.cons rfl (fun K hK => ?_) AllReadyH.nil
          go_simp
          refine (l07Fit_any (.slice A5 P.length c5) (.slice A6 S.length c6) (.slice ra0 P.length rc0) P S (ulL P S W P.length) x4 ⟨OA.out.reads, OB.out.reads, O0.out.reads⟩ hP hS (by rw [ulL_len]; omega) true ((clB_with (W := W) HCL.out.toClP (ulL_len P S W P.length)).trans HBB.out)).mono ?_
          rintro e x5 ⟨rfl, hb⟩
          replace RV := Lib.hid ((RV.out.below hb).more hb.size)
          replace KB := Lib.hid (KB.out.below hb)
          replace O0 := Lib.hid (O0.out.stay hb)
          replace OA := Lib.hid (OA.out.stay hb)
          replace OB := Lib.hid (OB.out.stay hb)
          replace C := Lib.hid (C.out.trans (hb.mono C.out.size))
          have S7 : Hid (x4.heap.size ≤ x5.heap.size) := Lib.hid hb.size
          clear hb
          refine hK.out _ _ ⟨(HX1.out.below C.out).c0, (HX1.out.below C.out).c1, (HX1.out.below C.out).c2⟩ (fun hHeld => ?_)
          clear hK K
          try simp only [Act.put, List.setIfInBounds_toArray, List.set_cons_zero, List.set_cons_succ]
          refine takeY 8 _ (v := ?_) rfl rfl (by kernel_rfl) (by kernel_rfl) (by kernel_rfl) (fun _ _ _ h => h) (by kernel_rfl) ?_ (by assumption) ?_
          rotate_left 1
          · intro w hSw; (try dsimp only at hSw); go_simp; (try with_reducible rfl)
          try simp only [Act.put, List.setIfInBounds_toArray, List.set_cons_zero, List.set_cons_succ]
          refine takeY 9 _ (v := ?_) rfl rfl (by kernel_rfl) (by kernel_rfl) (by kernel_rfl) (fun _ _ _ h => h) (by kernel_rfl) ?_ (by assumption) ?_
          rotate_left 1
          · intro w hSw; (try dsimp only at hSw); go_simp; (try with_reducible rfl)
          try simp only [Act.put, List.setIfInBounds_toArray, List.set_cons_zero, List.set_cons_succ]
          refine takeY 10 _ (v := ?_) rfl rfl (by kernel_rfl) (by kernel_rfl) (by kernel_rfl) (fun _ _ _ h => h) (by kernel_rfl) ?_ (by assumption) ?_
          rotate_left 1
          · intro w hSw; (try dsimp only at hSw); go_simp; (try with_reducible rfl)
          try simp only [Act.put, List.setIfInBounds_toArray, List.set_cons_zero, List.set_cons_succ]
          have k0' := KB.out.c0; have k1' := KB.out.c1; have k2' := KB.out.c2; have k3' := KB.out.f0; have k4' := KB.out.f1; have k5' := KB.out.f2; have k6' := KB.out.lt
          refine wpAnyH_ready (rs := [12]) (by kernel_rfl) (by simp) ?_
          refine AllReadyH.cons rfl (fun K hK => ?_) AllReadyH.nil
          go_simp
          obtain ⟨x6, HEx6⟩ : ∃ V, V = (((x5.setCell ⟨w1.heap.size, 0, none⟩ (.slice A5 P.length c5)).setCell ⟨w1.heap.size, 1, none⟩ (.slice A6 S.length c6)).setCell ⟨w1.heap.size, 2, none⟩ (.slice ra0 P.length rc0)) := ⟨_, rfl⟩
          rw [← HEx6]
          have KB2 : Hid (CBox x6 (w1.heap.size) (.slice A5 P.length c5) (.slice A6 S.length c6) (.slice ra0 P.length rc0)) := Lib.hid (by rw [HEx6]; exact CBox.set3 KB.out _ _ _)
          replace OA := Lib.hid (OA.out.kept (Kept.set3 (g := w1.heap.size) (by have sdo := SD.out; have s1o := S1.out; have zx1o := Zx1.out; have s3o := S3.out; have s4o := S4.out; have s5o := S5.out; have hmo := HM.out; have s7o := S7.out; omega) (.slice A5 P.length c5) (.slice A6 S.length c6) (.slice ra0 P.length rc0))); rw [← HEx6] at OA
          replace OB := Lib.hid (OB.out.kept (Kept.set3 (g := w1.heap.size) (by have sdo := SD.out; have s1o := S1.out; have zx1o := Zx1.out; have s3o := S3.out; have s4o := S4.out; have s5o := S5.out; have hmo := HM.out; have s7o := S7.out; omega) (.slice A5 P.length c5) (.slice A6 S.length c6) (.slice ra0 P.length rc0))); rw [← HEx6] at OB
          replace O0 := Lib.hid (O0.out.kept (Kept.set3 (g := w1.heap.size) (by have sdo := SD.out; have s1o := S1.out; have zx1o := Zx1.out; have s3o := S3.out; have s4o := S4.out; have s5o := S5.out; have hmo := HM.out; have s7o := S7.out; omega) (.slice A5 P.length c5) (.slice A6 S.length c6) (.slice ra0 P.length rc0))); rw [← HEx6] at O0
          replace C := Lib.hid (Below.set3 (g := w1.heap.size) C.out (by have sdo := SD.out; have s1o := S1.out; have zx1o := Zx1.out; have s3o := S3.out; have s4o := S4.out; have s5o := S5.out; have hmo := HM.out; have s7o := S7.out; show _ ≤ (w1.heap.size); omega) (.slice A5 P.length c5) (.slice A6 S.length c6) (.slice ra0 P.length rc0)); rw [← HEx6] at C
          have hzz : x6.heap.size = x5.heap.size := by rw [HEx6, size_set3]
          have ZZ := Lib.hid hzz; clear hzz k0' k1' k2' k3' k4' k5' k6'
          refine hK.out _ _ ⟨(HX1.out.below C.out).c0, (HX1.out.below C.out).c1, (HX1.out.below C.out).c2⟩ (fun hHeld => ?_)
          clear hK K
          try simp only [Act.put, List.setIfInBounds_toArray, List.set_cons_zero, List.set_cons_succ]
          refine takeY 13 _ (v := ?_) rfl rfl (by kernel_rfl) (by kernel_rfl) (by kernel_rfl) (fun _ _ _ h => h) (by kernel_rfl) ?_ (by assumption) ?_
          rotate_left 1
          · intro w hSw; (try dsimp only at hSw); go_simp; (try with_reducible rfl)
          try simp only [Act.put, List.setIfInBounds_toArray, List.set_cons_zero, List.set_cons_succ]
          refine wpAnyH_done (by kernel_rfl) ?_ _
          go_wp2_with fail
          go_meet
          exact ⟨w1.heap.size, x2.heap.size, x3.heap.size, m, ra0, rc0, A5, c5, A6, c6, rfl, rfl, KB2, OA.out.widen_lo (by have sdo := SD.out; have s1o := S1.out; have zx1o := Zx1.out; have s3o := S3.out; have s4o := S4.out; have s5o := S5.out; have hmo := HM.out; have s7o := S7.out; have zzo := ZZ.out; omega) |> Lib.hid, OB.out.raise (by have sdo := SD.out; have s1o := S1.out; have zx1o := Zx1.out; have s3o := S3.out; have s4o := S4.out; have s5o := S5.out; have hmo := HM.out; have s7o := S7.out; have zzo := ZZ.out; omega) (Nat.le_refl _) |> Lib.hid, O0, C, Lib.hid (by have sdo := SD.out; have s1o := S1.out; have zx1o := Zx1.out; have s3o := S3.out; have s4o := S4.out; have s5o := S5.out; have hmo := HM.out; have s7o := S7.out; have zzo := ZZ.out; omega)⟩
      case rest =>
        obtain ⟨g, l, k, m, A4, c4, A5, c5, A6, c6, rfl, rfl, KB, OA, OB, OV, C, HL⟩ := hcut
        have hYc := HY1.out.below C.out; have hgl := HL.out; have hsw := HSW.out; have hs1 := HB1.out.size; have hcs := C.out.size
        clear y0 y1 y2
        have q0 := KB.out.c0; have q1 := KB.out.c1; have q2 := KB.out.c2; have q6 := KB.out.lt
        have p0 := hYc.c0; have p1 := hYc.c1; have p2 := hYc.c2; have p3 := hYc.f0; have p4 := hYc.f1; have p5 := hYc.f2; have p6 := hYc.lt
        have cr := CBox.set3 hYc (.slice A5 P.length c5) (.slice A6 S.length c6) (.slice A4 P.length c4)
        have cr0 := cr.c0; have cr1 := cr.c1; have cr2 := cr.c2
        clear hYc hcs hs1
        go_wp2_with fail
        have hs1 := HB1.out.size; have hcs := C.out.size
        refine bodyPost_ret (v := .tuple #[.agg #[.slice A5 P.length c5, .slice A6 S.length c6, .slice A4 P.length c4], .int .i64 0]) (by simp [results, Try.results70, go_sem, cr0, cr1, cr2]) rfl ?_
        exact AnsCC.someC (l := l) (k := k) (m := m) HY4.out.2.1.symm HY4.out.2.2.1.symm HY4.out.2.2.2.symm HY4.out.1.symm (by omega) (by omega) (by omega) (by rw [size_set3]; omega) (OwnI.newC3 OA.out (by omega) _ _ _) (by rw [size_set3]; exact OwnI.newC3 OB.out (by omega) _ _ _) (OwnI.newC3 OV.out (by omega) _ _ _) (Below.set3 (HB1.out.trans (C.out.mono (by omega))) (by omega) _ _ _)

end Go.Proofs.Ytohbgfmjnanlkaa
