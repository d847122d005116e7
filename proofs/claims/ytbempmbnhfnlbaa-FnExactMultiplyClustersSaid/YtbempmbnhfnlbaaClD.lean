/- Clusters, the model's: weights of simple clusters, the inverse of the proximity matrix: contracts. Conditions: stated at each theorem. -/
import Derived.Test.YtbempmbnhfnlbaaClC
namespace Go.Proofs.Ytbempmbnhfnlbaa
open Go.ChangeShapes Go.WideShapes Go.ChangeAt Go.RowKit Go.Deep
set_option linter.unusedVariables false
set_option linter.unusedSimpArgs false

theorem tri_23 : tri 23 = 94143178827 := by decide +kernel
theorem tri_le23 {k : Nat} (h : k ≤ 23) : 1 ≤ tri k ∧ tri k ≤ 94143178827 := by
  have := tri_mono h; rw [tri_23] at this; exact ⟨tri_pos k, this⟩

set_option maxRecDepth 100000 in
set_option maxHeartbeats 4000000 in
theorem l07Simple_any (a b c : Value) (P S U : List Int) (n i : Nat) (w : World) (h : ReadC w w.heap.size a b c P S U) (hC : ClP P S n) (hi : i < n) :
    Calls Try.prog 80 #[.agg #[a, b, c], .int .i64 i] w (LAns w (smL P S n i)) := by
  have hn1 := hC.lo
  have hn := hC.hi
  have HO := Lib.hid hC.ok
  obtain ⟨h0, h1, h2⟩ := h
  obtain ⟨A0, c0, rfl, _, _, hc0, _, hm0⟩ := id h0
  obtain ⟨A1, c1, rfl, _, _, hc1, _, hm1⟩ := id h1
  obtain ⟨A2, c2, rfl, _⟩ := id h2
  rw [hC.p] at h0 hc0 ⊢
  rw [hC.s] at h1 hc1 ⊢
  obtain ⟨n2, hn2⟩ : ∃ x, U.length = x := ⟨_, rfl⟩
  rw [hn2]
  obtain ⟨g0, o0, rfl, H0, hg0⟩ := cells_ofC h0 hC.p hn1
  obtain ⟨g1, o1, rfl, H1, hg1⟩ := cells_ofC h1 hC.s hn1
  have HX : Hid (CBox (w.alloc (.cells #[.slice (some ⟨g0, o0, none⟩) n c0, .slice (some ⟨g1, o1, none⟩) n c1, .slice A2 n2 c2] 26)) w.heap.size (.slice (some ⟨g0, o0, none⟩) n c0) (.slice (some ⟨g1, o1, none⟩) n c1) (.slice A2 n2 c2)) := Lib.hid (CBox.new _ _ _ _ _)
  have HB0 : Hid (Below w.heap.size w (w.alloc (.cells #[.slice (some ⟨g0, o0, none⟩) n c0, .slice (some ⟨g1, o1, none⟩) n c1, .slice A2 n2 c2] 26))) := Lib.hid (below_box2 _ _)
  have hi2 : (i : Int) < (n : Int) := by omega
  have hr1 := World.rowIs_made (w.alloc (.cells #[.slice (some ⟨g0, o0, none⟩) n c0, .slice (some ⟨g1, o1, none⟩) n c1, .slice A2 n2 c2] 26)) (.int .i64 0) n 2
  have hl1 : (w.alloc (.cells #[.slice (some ⟨g0, o0, none⟩) n c0, .slice (some ⟨g1, o1, none⟩) n c1, .slice A2 n2 c2] 26)).heap.size < ((w.alloc (.cells #[.slice (some ⟨g0, o0, none⟩) n c0, .slice (some ⟨g1, o1, none⟩) n c1, .slice A2 n2 c2] 26)).alloc (.cells (madeCells #[.int .i64 0] n) 2)).heap.size := by simp
  have hEE : ((w.alloc (.cells #[.slice (some ⟨g0, o0, none⟩) n c0, .slice (some ⟨g1, o1, none⟩) n c1, .slice A2 n2 c2] 26)).alloc (.cells ((madeCells #[.int .i64 0] n).setIfInBounds i (.int .i64 1)) 2)) = ((w.alloc (.cells #[.slice (some ⟨g0, o0, none⟩) n c0, .slice (some ⟨g1, o1, none⟩) n c1, .slice A2 n2 c2] 26)).alloc (.cells (madeCells #[.int .i64 0] n) 2)).setCell ⟨(w.alloc (.cells #[.slice (some ⟨g0, o0, none⟩) n c0, .slice (some ⟨g1, o1, none⟩) n c1, .slice A2 n2 c2] 26)).heap.size, i, none⟩ (.int .i64 1) := by symm; go_simp
  have HB1 : Hid (Below (w.alloc (.cells #[.slice (some ⟨g0, o0, none⟩) n c0, .slice (some ⟨g1, o1, none⟩) n c1, .slice A2 n2 c2] 26)).heap.size (w.alloc (.cells #[.slice (some ⟨g0, o0, none⟩) n c0, .slice (some ⟨g1, o1, none⟩) n c1, .slice A2 n2 c2] 26)) ((w.alloc (.cells #[.slice (some ⟨g0, o0, none⟩) n c0, .slice (some ⟨g1, o1, none⟩) n c1, .slice A2 n2 c2] 26)).alloc (.cells ((madeCells #[.int .i64 0] n).setIfInBounds i (.int .i64 1)) 2))) := Lib.hid (by rw [hEE]; exact (below_box2 _ _).setCell (p := ⟨(w.alloc (.cells #[.slice (some ⟨g0, o0, none⟩) n c0, .slice (some ⟨g1, o1, none⟩) n c1, .slice A2 n2 c2] 26)).heap.size, i, none⟩) (Nat.le_refl _) _)
  have HW1 : Hid (OwnI ((w.alloc (.cells #[.slice (some ⟨g0, o0, none⟩) n c0, .slice (some ⟨g1, o1, none⟩) n c1, .slice A2 n2 c2] 26)).alloc (.cells ((madeCells #[.int .i64 0] n).setIfInBounds i (.int .i64 1)) 2)) (w.alloc (.cells #[.slice (some ⟨g0, o0, none⟩) n c0, .slice (some ⟨g1, o1, none⟩) n c1, .slice A2 n2 c2] 26)).heap.size ((w.alloc (.cells #[.slice (some ⟨g0, o0, none⟩) n c0, .slice (some ⟨g1, o1, none⟩) n c1, .slice A2 n2 c2] 26)).heap.size + 1) (.slice (some ⟨(w.alloc (.cells #[.slice (some ⟨g0, o0, none⟩) n c0, .slice (some ⟨g1, o1, none⟩) n c1, .slice A2 n2 c2] 26)).heap.size, 0, none⟩) n n) (fnL (unF i) n)) := Lib.hid (by rw [hEE]; exact un_made hr1 hl1 hi (by omega))
  have HZ0 : Hid ((w.alloc (.cells #[.slice (some ⟨g0, o0, none⟩) n c0, .slice (some ⟨g1, o1, none⟩) n c1, .slice A2 n2 c2] 26)).heap.size = w.heap.size + 1) := Lib.hid (by simp)
  have c1' := hr1.cell hi
  have f1' := hr1.frozen i
  have hmk2 := fun (W : World) => run_make_row' (P := Try.prog) 24 2 (.int .i64 0) 8 Try.underlying24 int_info rfl .i64 .i64 n (by omega) (by omega) W
  clear h0 h1 h2 hC hn2 hr1 hEE
  simp only [World.size_alloc] at c1' f1' hl1
  go_enter Try.func80, Try.ntmps80
  go_wp2_with fail
  generalize hWW : ((w.alloc (.cells #[.slice (some ⟨g0, o0, none⟩) n c0, .slice (some ⟨g1, o1, none⟩) n c1, .slice A2 n2 c2] 26)).alloc (.cells ((madeCells #[.int .i64 0] n).setIfInBounds i (.int .i64 1)) 2)) = W1 at *
  clear hWW
  generalize hWW : (w.alloc (.cells #[.slice (some ⟨g0, o0, none⟩) n c0, .slice (some ⟨g1, o1, none⟩) n c1, .slice A2 n2 c2] 26)) = W0 at *
  clear hWW hmk2 c1' f1' hl1
  obtain ⟨d, hd⟩ : ∃ d, d = W0.heap.size := ⟨_, rfl⟩
  have hz0 := HZ0.out
  rw [← hd] at hz0 HW1
  rw [← hz0]
  have HDW : Hid (d = w.heap.size + 1) := Lib.hid hz0
  have HD := Lib.hid hd
  clear hz0 HZ0 hd
  go_loopw [6] (fun vi wr => ∃ (k : Nat) (G : Nat → Int), k ≤ i ∧ vi = .int .i64 k ∧ Hid (OwnI wr d (d + 1) (.slice (some ⟨d, 0, none⟩) n n) (fnL G n)) ∧ Hid (dwn P S (k + 1) G = smF1 P S n i) ∧ Hid (∀ x, -(1 * tri (i - k)) ≤ G x ∧ G x ≤ 1 * tri (i - k)) ∧ Hid (Below W0.heap.size W0 wr)) (fun vi _ => (intOf vi).toNat)
  case atStart => exact ⟨i, unF i, Nat.le_refl _, rfl, HW1, Lib.hid (by unfold smF1; exact (dwn_cut (by omega) (by omega)).symm), Lib.hid (fun x => by rw [Nat.sub_self]; have := un_rng i x; show -(1 * 1) ≤ _ ∧ _ ≤ 1 * 1; omega), HB1⟩
  case round =>
    obtain ⟨k, G, hk, rfl, how, hdn, hgb, hb⟩ := hrel
    by_cases hk0 : 0 < k
    · have hkn : k < n := by omega
      have hk02 : (0 : Int) < (k : Int) := by omega
      have hkn2 : (k : Int) < (n : Int) := by omega
      have HBW : Hid (Below w.heap.size w wr) := Lib.hid (HB0.out.trans (hb.out.mono HB0.out.size))
      have hX := HX.out.below hb.out
      have x0 := hX.c0; have x1 := hX.c1; have hxl := hX.lt
      have d0 := (HBW.out.cell (p := ⟨g0, o0 + k, none⟩) hg0).trans (H0.out k hkn)
      have d1 := (HBW.out.cell (p := ⟨g1, o1 + k, none⟩) hg1).trans (H1.out k hkn)
      obtain ⟨p, hp, hpk, hs⟩ := nr_lt HO.out k hkn hk0
      have hsc := sec_lt HO.out hkn
      rw [hp] at d0
      have hT := tri_le23 (show i - k ≤ 23 by omega)
      have HSD : Hid (dwn P S k (stQ G (nrC P S k) (G k)) = smF1 P S n i) := Lib.hid hdn.out
      have HSB : Hid (∀ x, -(1 * tri (i - (k - 1))) ≤ stQ G (nrC P S k) (G k) x ∧ stQ G (nrC P S k) (G k) x ≤ 1 * tri (i - (k - 1))) := Lib.hid fun x => by
        have h9 := stQ_tri (P := P) (S := S) (k := k) (M := 1) (by omega) hgb.out (hgb.out k) 2 x
        rw [List.take_of_length_le (nrC_len P S k), show i - k + 1 = i - (k - 1) by omega] at h9
        exact h9
      obtain ⟨T, hTe⟩ : ∃ T, tri (i - k) = T := ⟨_, rfl⟩
      rw [hTe] at hT hgb
      have HXR : Hid (∀ x, -T ≤ G x ∧ G x ≤ T) := Lib.hid fun x => by have := hgb.out x; omega
      obtain ⟨z, hz⟩ : ∃ z, G k = z := ⟨_, rfl⟩
      have HZ := Lib.hid hz
      obtain ⟨d', e', hd1, hd2, hcd, hfd⟩ := own_at how.out (fnL_len _ _) (show p < n by omega)
      simp only [Option.some.injEq, Addr.mk.injEq, and_true] at e'
      subst e'
      obtain ⟨d2, e2, _, _, hck, _⟩ := own_at how.out (fnL_len _ _) hkn
      simp only [Option.some.injEq, Addr.mk.injEq, and_true] at e2
      subst e2
      rw [fnL_at (show p < n by omega)] at hcd
      rw [fnL_at hkn, hz] at hck
      have hxp := HXR.out p
      have hxz := HXR.out k
      rw [hz] at hxz
      obtain ⟨y, hy⟩ : ∃ y, G p = y := ⟨_, rfl⟩
      rw [hy] at hcd hxp
      have hpn2 : (p : Int) < (n : Int) := by omega
      have p1 : IntKind.i64.wrap (y + z) = y + z := IntWalk.i64_in _ (by omega)
      have HNW : Hid (OwnI ((wr.setCell ⟨d, p, none⟩ (.int .i64 (y + z))).drew) d (d + 1) (.slice (some ⟨d, 0, none⟩) n n) (fnL (updF G p z) n)) := Lib.hid (by
        have h6 := own_store (w := wr) (j := p) how.out (fnL_len G n) (y + z)
        rw [show y + z = G p + z by rw [hy]] at h6 ⊢
        rw [fnL_set z (by omega)] at h6
        exact h6)
      have HBN : Hid (Below W0.heap.size W0 ((wr.setCell ⟨d, p, none⟩ (.int .i64 (y + z))).drew)) := Lib.hid ((hb.out.setCell (p := ⟨d, p, none⟩) (by show W0.heap.size ≤ d; rw [HD.out]; exact Nat.le_refl _) _).drew)
      have HXU := Lib.hid (fun x => upd_rng (M := T) (D := T) (d := z) HXR.out (by omega) p x)
      have hdw := HDW.out
      have hgd0 : d ≠ g0 := by omega
      have hgd1 : d ≠ g1 := by omega
      have hxd : w.heap.size ≠ d := by omega
      clear hdw
      have hkp : k ≠ p := by omega
      obtain ⟨wo, rfl⟩ : ∃ wo : World, wo = wr := ⟨_, rfl⟩
      clear hy hX how hdn hgb hTe
      rcases hsc with hs1 | ⟨_, p', s, hp', _, hs1, hsp, hnr⟩
      · have HNR : Hid (stQ G (nrC P S k) (G k) = updF G p z) := Lib.hid (by
          rcases hs with ⟨_, h7⟩ | ⟨s, h7, _⟩
          · rw [h7, HZ.out]; rfl
          · omega)
        rw [hs1] at d1
        clear hs hs1 hp
        go_wp2_with fail
        go_still_tail 20, (by kernel_rfl)
        go_wp2_with fail
        go_roundw
        case rel => exact ⟨k - 1, updF G p z, by omega, by rw [show ((k - 1 : Nat) : Int) = (k : Int) - 1 by omega], HNW, Lib.hid (by rw [← HNR.out, show k - 1 + 1 = k by omega]; exact HSD.out), Lib.hid (by rw [← HNR.out]; exact HSB.out), HBN⟩
        case measure => simp [intOf]; omega
      · have HNR : Hid (stQ G (nrC P S k) (G k) = updF (updF G p z) s z) := Lib.hid (by
          rw [hnr, HZ.out]
          have e : p' = p := by omega
          subst e
          rw [← stQ_swap, Int.toNat_natCast, Int.toNat_natCast])
        have HS1 := Lib.hid hs1
        rw [hs1] at d1
        have hsk : s < k := by omega
        have hsn2 : (s : Int) < (n : Int) := by omega
        have hs0 : (0 : Int) ≤ (s : Int) := by omega
        have HSP : Hid (s < n ∧ s ≠ p) := Lib.hid (by omega)
        clear hs hs1 hp hp'
        go_wp2_with fail
        go_still_tail 20, (by kernel_rfl)
        · go_wp2_with fail
          generalize (wo.setCell ⟨d, p, none⟩ (.int .i64 (y + z))).drew = W3 at *
          have HBW3 : Hid (Below w.heap.size w W3) := Lib.hid (HB0.out.trans (HBN.out.mono HB0.out.size))
          have hX3 := HX.out.below HBN.out
          have x13 := hX3.c1; have hxl3 := hX3.lt
          have d13 := (HBW3.out.cell (p := ⟨g1, o1 + k, none⟩) hg1).trans (H1.out k hkn)
          rw [HS1.out] at d13
          obtain ⟨d3, e3, _, _, hcd3, hfd3⟩ := own_at HNW.out (fnL_len _ _) HSP.out.1
          simp only [Option.some.injEq, Addr.mk.injEq, and_true] at e3
          subst e3
          obtain ⟨d4, e4, _, _, hck3, _⟩ := own_at HNW.out (fnL_len _ _) hkn
          simp only [Option.some.injEq, Addr.mk.injEq, and_true] at e4
          subst e4
          rw [fnL_at HSP.out.1] at hcd3
          rw [fnL_at hkn, show updF G p z k = z by unfold updF; rw [if_neg hkp]; exact HZ.out] at hck3
          have hxs := HXU.out s
          obtain ⟨y2, hy2⟩ : ∃ y, updF G p z s = y := ⟨_, rfl⟩
          rw [hy2] at hcd3 hxs
          have p2 : IntKind.i64.wrap (y2 + z) = y2 + z := IntWalk.i64_in _ (by omega)
          have HNW2 : Hid (OwnI ((W3.setCell ⟨d, s, none⟩ (.int .i64 (y2 + z))).drew) d (d + 1) (.slice (some ⟨d, 0, none⟩) n n) (fnL (updF (updF G p z) s z) n)) := Lib.hid (by
            have h6 := own_store (w := W3) (j := s) HNW.out (fnL_len _ n) (y2 + z)
            rw [show y2 + z = updF G p z s + z by rw [hy2]] at h6 ⊢
            rw [fnL_set z HSP.out.1] at h6
            exact h6)
          have HBN2 : Hid (Below W0.heap.size W0 ((W3.setCell ⟨d, s, none⟩ (.int .i64 (y2 + z))).drew)) := Lib.hid ((HBN.out.setCell (p := ⟨d, s, none⟩) (by show W0.heap.size ≤ d; rw [HD.out]; exact Nat.le_refl _) _).drew)
          clear hX3 hy2 x0 x1 d0 d1 hcd hfd hck
          go_still_tail 20, (by kernel_rfl)
          · go_wp2_with fail
            go_roundw
            case rel => exact ⟨k - 1, updF (updF G p z) s z, by omega, by rw [show ((k - 1 : Nat) : Int) = (k : Int) - 1 by omega], HNW2, Lib.hid (by rw [← HNR.out, show k - 1 + 1 = k by omega]; exact HSD.out), Lib.hid (by rw [← HNR.out]; exact HSB.out), HBN2⟩
            case measure => simp [intOf]; omega
    · obtain rfl : k = 0 := by omega
      have hk00 : ¬ (0 : Int) < ((0 : Nat) : Int) := by omega
      have HGE : Hid (G = smF1 P S n i) := Lib.hid (by
        have h9 := hdn.out
        have h8 : stQ G (nrC P S 0) (G 0) = smF1 P S n i := h9
        rw [(nr_zero HO.out (by omega)).1, stQ_nil] at h8
        exact h8)
      have hb9 := hb.out
      go_wp2_with fail
      go_ret
      exact LAns.of (smL_len _ _ _ _) (by
        have h9 := how.out
        rw [HGE.out] at h9
        have h10 : OwnI wr d wr.heap.size (.slice (some ⟨d, 0, none⟩) n n) (smL P S n i) := h9.raise (own_size h9) (Nat.le_refl _)
        exact own_less h10 (by rw [HDW.out]; omega)) (HB0.out.trans (hb9.mono HB0.out.size))

set_option maxRecDepth 100000 in
set_option maxHeartbeats 4000000 in
theorem specInverseProximity_any (a b c : Value) (P S W : List Int) (w : World) (h : ReadC w w.heap.size a b c P S W) (hP : P.length ≤ 1048576) (hS : S.length ≤ 1048576) (hW : W.length ≤ 1048576) (hwp : ∀ z ∈ P, (Lit.int .i64 z).wf = true) (hws : ∀ z ∈ S, (Lit.int .i64 z).wf = true) (hww : ∀ z ∈ W, (Lit.int .i64 z).wf = true) :
    Calls Try.prog 23 #[.agg #[a, b, c]] w (AnsQC w (ivA P S W) (clC P S W)) := by
  obtain ⟨W0, HE⟩ : ∃ V, V = w.alloc (.cells #[a, b, c] 26) := ⟨_, rfl⟩
  have hb0 : Below w.heap.size w W0 := by rw [HE]; exact below_box2 _ _
  have hx : CBox W0 w.heap.size a b c := by rw [HE]; exact CBox.new _ _ _ _ _
  have HR := Lib.hid ((h.below hb0).more hb0.size)
  have HB := Lib.hid hb0
  have HEQ := Lib.hid HE
  have HX := Lib.hid hx
  have x0 := hx.c0; have x1 := hx.c1; have x2 := hx.c2; have hxl := hx.lt
  clear h hb0 hx HE hwp hws hww
  rcases bool_fs (clB P S W) with hp | hp
  · have HA := Lib.hid (ivA_no (P := P) (S := S) (W := W) hp); have HK := Lib.hid (clC_no hp)
    have HP := Lib.hid hp
    clear hp
    go_enter Try.func23, Try.ntmps23
    go_wp2_with fail
    rw [← HEQ.out]
    refine (l07Is_if a b c P S W W0 HR.out hP hS hW false HP.out).mono ?_
    rintro e w1 ⟨rfl, hb1⟩
    have HB1 := Lib.hid (HB.out.trans (hb1.mono HB.out.size))
    clear hb1
    go_wp2_with fail
    go_ret2
    exact AnsQC.noneC HA.out.symm HK.out.symm HB1.out
  · obtain ⟨n, hC⟩ := clB_true hp
    have HC := Lib.hid hC
    have HP := Lib.hid hp
    clear hp hC
    go_enter Try.func23, Try.ntmps23
    go_wp2_with fail
    rw [← HEQ.out]
    refine (l07Is_if a b c P S W W0 HR.out hP hS hW true HP.out).mono ?_
    rintro e w1 ⟨rfl, hb1⟩
    have HB1 := Lib.hid (HB.out.trans (hb1.mono HB.out.size))
    have HR1 := Lib.hid ((HR.out.below hb1).more hb1.size)
    have hX1 := HX.out.below hb1
    have y0 := hX1.c0; have y1 := hX1.c1; have y2 := hX1.c2; have hyl := hX1.lt
    have HX1 := Lib.hid hX1
    clear hb1 hX1
    have HA : Hid (ivA P S W = ivQ P S n) := Lib.hid (ivA_yes HC.out)
    have HK : Hid (clC P S W = 0) := Lib.hid (clC_yes HP.out)
    have hpn := HC.out.p
    have hn := HC.out.hi
    have hn1 := HC.out.lo
    obtain ⟨A0, k0, rfl⟩ : ∃ A k, a = .slice A n k := by
      obtain ⟨A, k, e, _⟩ := HR1.out.1; exact ⟨A, k, by rw [e, hpn]⟩
    have HQ0 : Hid (OwnQ (w1.alloc (.cells #[] 24)) w1.heap.size (w1.alloc (.cells #[] 24)).heap.size (.slice (some ⟨w1.heap.size, 0, none⟩) 0 0) ((List.range 0).map (smL P S n))) := Lib.hid (by
      have := ownQ_newR w1 w1.heap.size (Nat.le_refl _)
      simpa using this)
    have HB2 : Hid (Below w1.heap.size w1 (w1.alloc (.cells #[] 24))) := Lib.hid ((Below.refl _ _).alloc (Nat.le_refl _) _)
    obtain ⟨j0, hj0, hj1, hj2, hj3⟩ := info_parts ints_infoR
    clear HEQ x0 x1 x2
    go_wp2_with fail
    go_loopw [4, 5] (fun vo vi wr => ∃ (k : Nat) (A : Option Addr) (c' : Nat), k ≤ n ∧ vo = .slice A k c' ∧ vi = .int .i64 k ∧ Hid (OwnQ wr w1.heap.size wr.heap.size (.slice A k c') ((List.range k).map (smL P S n))) ∧ Hid (Below w1.heap.size w1 wr)) (fun _ vi _ => n - (intOf vi).toNat)
    case atStart => exact ⟨0, _, _, by omega, rfl, rfl, HQ0, HB2⟩
    case round =>
      obtain ⟨k, A', c', hk, rfl, rfl, hq, hb⟩ := hrel
      have hX := HX1.out.below hb.out
      have u0 := hX.c0; have u1 := hX.c1; have u2 := hX.c2; have hul := hX.lt
      by_cases hkn : k < n
      · have hkn2 : (k : Int) < (n : Int) := by omega
        have HRK := Lib.hid ((HR1.out.below hb.out).more hb.out.size)
        have HOQ := Lib.hid hq.out
        have HBR := Lib.hid hb.out
        have HWS : Hid (w1.heap.size ≤ wr.heap.size) := Lib.hid hb.out.size
        obtain ⟨wo, rfl⟩ : ∃ wo : World, wo = wr := ⟨_, rfl⟩
        clear hq hb hX
        go_wp2_with fail
        refine (l07Simple_any _ b c P S W n k wo HRK.out HC.out.toClP hkn).mono ?_
        rintro e w3 ⟨A3, c3, rfl, ho3, hb3⟩
        rw [smL_len]
        obtain ⟨A3', c3', e3⟩ := ho3.form (smL_len P S n k)
        rw [smL_len] at ho3
        have HO3 := Lib.hid ho3
        have HWO3 := Lib.hid hb3
        have HB3 : Hid (Below w1.heap.size w1 w3) := Lib.hid (HBR.out.trans (hb3.mono HWS.out))
        obtain ⟨us, ls, hs, hrows⟩ := HOQ.out
        rw [show (((List.range k).map (smL P S n))).length = k by simp] at hrows
        have HROW := Lib.hid hrows
        have HROW3 : Hid (w3.ownsRow w1.heap.size 24 1 (.slice A' k c') k us) := Lib.hid (hrows.1.kept (grown_of_below hb3 none) (by cases (Value.slice A' k c').ownBlock <;> simp))
        have HNX : Hid ((List.range (k + 1)).map (smL P S n) = ((List.range k).map (smL P S n)) ++ [smL P S n k]) := Lib.hid (by simp [List.range_succ])
        have hws3 := HWO3.out.size
        have hwso := HWS.out
        clear hrows ho3 hb3 e3 u0 u1 u2
        go_wp2_with (at_builtin; (refine wpList_append_liesR rfl _ _ 28 rfl w1.heap.size 24 j0 (.slice none 0 0) 1 24 Try.underlying28 hj0 hj1 hj2 hj3 rfl (by decide) (.slice A' k c') k us rfl (World.ownsRow.alloc HROW3.out _) ⟨w3.heap.size, 0, none⟩ 1 1 [.slice A3 n c3] rfl rfl (World.news_of_block (cs := #[.slice A3 n c3]) (t := 24) (fr := (0, 0)) (heap_alloc_new w3 _)) (by simp [Value.oneCell']) (by decide) (by simp only [maxLen]; omega) (by omega) (by simp; omega) ?_; intro g2 cap2 w4 hown4 hgrow4 hg4 hlt4; have HQ4 := Lib.hid (rows_snocR HROW.out (by simp) HWS.out (HWO3.out.trans ((below_box2 w3 _).mono HWO3.out.size)) (HO3.out.stay (below_box2 w3 _)) (Nat.le_refl _) (by simp) hown4 hgrow4 hg4 hlt4); have HB4 := Lib.hid (((HB3.out).alloc (by omega) _).grown hgrow4 (by simp; omega) (fun kk hkk => (World.ownsRow.lt HROW3.out kk hkk).1)); clear hown4 hgrow4 hg4 hlt4))
        go_roundw
        case rel => exact ⟨k + 1, _, _, by omega, rfl, by go_num, Lib.hid (by rw [HNX.out]; exact HQ4.out), HB4⟩
        case measure => simp [intOf]; omega
      · obtain rfl : k = n := by omega
        have HQX := Lib.hid (ownQ_lessC hq.out HB1.out.size)
        have HBX := Lib.hid (HB1.out.trans (hb.out.mono HB1.out.size))
        go_wp2_with fail
        go_ret2
        exact AnsQC.someC HA.out.symm HK.out.symm HQX.out HBX.out
end Go.Proofs.Ytbempmbnhfnlbaa
