/- Clusters, the model's: weights of simple clusters, the inverse of the proximity matrix: contracts. Conditions: stated at each theorem. -/
import Derived.Test.YtjobfjgphcaoeaaClC
namespace Go.Proofs.Ytjobfjgphcaoeaa
open Go.ChangeShapes Go.WideShapes Go.ChangeAt Go.RowKit Go.Deep
set_option linter.unusedVariables false
set_option linter.unusedSimpArgs false

theorem tri_23 : tri 23 = 94143178827 := by decide +kernel
theorem tri_le23 {k : Nat} (h : k ≤ 23) : 1 ≤ tri k ∧ tri k ≤ 94143178827 := by
  have := tri_mono h; rw [tri_23] at this; exact ⟨tri_pos k, this⟩

set_option maxRecDepth 100000 in
set_option maxHeartbeats 4000000 in
theorem l07Simple_any (a b c : Value) (P S U : List Int) (n i : Nat) (w : World) (h : ReadC w w.heap.size a b c P S U) (hC : ClP P S n) (hi : i < n) :
    Calls Try.prog 69 #[.agg #[a, b, c], .int .i64 i] w (LAns w (smL P S n i)) := by
  have hn1 := hC.lo
  have hn := hC.hi
  have HO := Lib.hid hC.ok
  obtain ⟨h0, h1, h2⟩ := h
  obtain ⟨A0, c0, rfl, _, _, hc0, _, hm0⟩ := id h0
  obtain ⟨A1, c1, rfl, _, _, hc1, _, hm1⟩ := id h1
  obtain ⟨A2, c2, rfl, _⟩ := id h2
  rw [hC.p] at h0 hc0 ⊢
  rw [hC.s] at h1 hc1 ⊢
  obtain ⟨n2, hn2⟩ : ∃ x, U.length = x := ⟨_, rfl⟩
  rw [hn2]
  obtain ⟨g0, o0, rfl, H0, hg0⟩ := cells_ofC h0 hC.p hn1
  obtain ⟨g1, o1, rfl, H1, hg1⟩ := cells_ofC h1 hC.s hn1
  have HX : Hid (CBox (w.alloc (.cells #[.slice (some ⟨g0, o0, none⟩) n c0, .slice (some ⟨g1, o1, none⟩) n c1, .slice A2 n2 c2] 28)) w.heap.size (.slice (some ⟨g0, o0, none⟩) n c0) (.slice (some ⟨g1, o1, none⟩) n c1) (.slice A2 n2 c2)) := Lib.hid (CBox.new _ _ _ _ _)
  have HB0 : Hid (Below w.heap.size w (w.alloc (.cells #[.slice (some ⟨g0, o0, none⟩) n c0, .slice (some ⟨g1, o1, none⟩) n c1, .slice A2 n2 c2] 28))) := Lib.hid (below_box2 _ _)
  have hi2 : (i : Int) < (n : Int) := by omega
  have hr1 := World.rowIs_made (w.alloc (.cells #[.slice (some ⟨g0, o0, none⟩) n c0, .slice (some ⟨g1, o1, none⟩) n c1, .slice A2 n2 c2] 28)) (.int .i64 0) n 2
  have hl1 : (w.alloc (.cells #[.slice (some ⟨g0, o0, none⟩) n c0, .slice (some ⟨g1, o1, none⟩) n c1, .slice A2 n2 c2] 28)).heap.size < ((w.alloc (.cells #[.slice (some ⟨g0, o0, none⟩) n c0, .slice (some ⟨g1, o1, none⟩) n c1, .slice A2 n2 c2] 28)).alloc (.cells (madeCells #[.int .i64 0] n) 2)).heap.size := by simp
  have hEE : ((w.alloc (.cells #[.slice (some ⟨g0, o0, none⟩) n c0, .slice (some ⟨g1, o1, none⟩) n c1, .slice A2 n2 c2] 28)).alloc (.cells ((madeCells #[.int .i64 0] n).setIfInBounds i (.int .i64 1)) 2)) = ((w.alloc (.cells #[.slice (some ⟨g0, o0, none⟩) n c0, .slice (some ⟨g1, o1, none⟩) n c1, .slice A2 n2 c2] 28)).alloc (.cells (madeCells #[.int .i64 0] n) 2)).setCell ⟨(w.alloc (.cells #[.slice (some ⟨g0, o0, none⟩) n c0, .slice (some ⟨g1, o1, none⟩) n c1, .slice A2 n2 c2] 28)).heap.size, i, none⟩ (.int .i64 1) := by symm; go_simp
  have HB1 : Hid (Below (w.alloc (.cells #[.slice (some ⟨g0, o0, none⟩) n c0, .slice (some ⟨g1, o1, none⟩) n c1, .slice A2 n2 c2] 28)).heap.size (w.alloc (.cells #[.slice (some ⟨g0, o0, none⟩) n c0, .slice (some ⟨g1, o1, none⟩) n c1, .slice A2 n2 c2] 28)) ((w.alloc (.cells #[.slice (some ⟨g0, o0, none⟩) n c0, .slice (some ⟨g1, o1, none⟩) n c1, .slice A2 n2 c2] 28)).alloc (.cells ((madeCells #[.int .i64 0] n).setIfInBounds i (.int .i64 1)) 2))) := Lib.hid (by rw [hEE]; exact (below_box2 _ _).setCell (p := ⟨(w.alloc (.cells #[.slice (some ⟨g0, o0, none⟩) n c0, .slice (some ⟨g1, o1, none⟩) n c1, .slice A2 n2 c2] 28)).heap.size, i, none⟩) (Nat.le_refl _) _)
  have HW1 : Hid (OwnI ((w.alloc (.cells #[.slice (some ⟨g0, o0, none⟩) n c0, .slice (some ⟨g1, o1, none⟩) n c1, .slice A2 n2 c2] 28)).alloc (.cells ((madeCells #[.int .i64 0] n).setIfInBounds i (.int .i64 1)) 2)) (w.alloc (.cells #[.slice (some ⟨g0, o0, none⟩) n c0, .slice (some ⟨g1, o1, none⟩) n c1, .slice A2 n2 c2] 28)).heap.size ((w.alloc (.cells #[.slice (some ⟨g0, o0, none⟩) n c0, .slice (some ⟨g1, o1, none⟩) n c1, .slice A2 n2 c2] 28)).heap.size + 1) (.slice (some ⟨(w.alloc (.cells #[.slice (some ⟨g0, o0, none⟩) n c0, .slice (some ⟨g1, o1, none⟩) n c1, .slice A2 n2 c2] 28)).heap.size, 0, none⟩) n n) (fnL (unF i) n)) := Lib.hid (by rw [hEE]; exact un_made hr1 hl1 hi (by omega))
  have HZ0 : Hid ((w.alloc (.cells #[.slice (some ⟨g0, o0, none⟩) n c0, .slice (some ⟨g1, o1, none⟩) n c1, .slice A2 n2 c2] 28)).heap.size = w.heap.size + 1) := Lib.hid (by simp)
  have c1' := hr1.cell hi
  have f1' := hr1.frozen i
  have hmk2 := fun (W : World) => run_make_row' (P := Try.prog) 22 2 (.int .i64 0) 8 Try.underlying22 int_info rfl .i64 .i64 n (by omega) (by omega) W
  clear h0 h1 h2 hC hn2 hr1 hEE
  simp only [World.size_alloc] at c1' f1' hl1
  go_enter Try.func69, Try.ntmps69
  go_wp2_with fail
  generalize hWW : ((w.alloc (.cells #[.slice (some ⟨g0, o0, none⟩) n c0, .slice (some ⟨g1, o1, none⟩) n c1, .slice A2 n2 c2] 28)).alloc (.cells ((madeCells #[.int .i64 0] n).setIfInBounds i (.int .i64 1)) 2)) = W1 at *
  clear hWW
  generalize hWW : (w.alloc (.cells #[.slice (some ⟨g0, o0, none⟩) n c0, .slice (some ⟨g1, o1, none⟩) n c1, .slice A2 n2 c2] 28)) = W0 at *
  clear hWW hmk2 c1' f1' hl1
  obtain ⟨d, hd⟩ : ∃ d, d = W0.heap.size := ⟨_, rfl⟩
  have hz0 := HZ0.out
  rw [← hd] at hz0 HW1
  rw [← hz0]
  have HDW : Hid (d = w.heap.size + 1) := Lib.hid hz0
  have HD := Lib.hid hd
  clear hz0 HZ0 hd
  go_loopw [6] (fun vi wr => ∃ (k : Nat) (G : Nat → Int), k ≤ i ∧ vi = .int .i64 k ∧ Hid (OwnI wr d (d + 1) (.slice (some ⟨d, 0, none⟩) n n) (fnL G n)) ∧ Hid (dwn P S (k + 1) G = smF1 P S n i) ∧ Hid (∀ x, -(1 * tri (i - k)) ≤ G x ∧ G x ≤ 1 * tri (i - k)) ∧ Hid (Below W0.heap.size W0 wr)) (fun vi _ => (intOf vi).toNat)
  case atStart => exact ⟨i, unF i, Nat.le_refl _, rfl, HW1, Lib.hid (by unfold smF1; exact (dwn_cut (by omega) (by omega)).symm), Lib.hid (fun x => by rw [Nat.sub_self]; have := un_rng i x; show -(1 * 1) ≤ _ ∧ _ ≤ 1 * 1; omega), HB1⟩
  case round =>
    obtain ⟨k, G, hk, rfl, how, hdn, hgb, hb⟩ := hrel
    by_cases hk0 : 0 < k
    · have hkn : k < n := by omega
      have hk02 : (0 : Int) < (k : Int) := by omega
      have hkn2 : (k : Int) < (n : Int) := by omega
      have HBW : Hid (Below w.heap.size w wr) := Lib.hid (HB0.out.trans (hb.out.mono HB0.out.size))
      have hX := HX.out.below hb.out
      have x0 := hX.c0; have x1 := hX.c1; have hxl := hX.lt
      have d0 := (HBW.out.cell (p := ⟨g0, o0 + k, none⟩) hg0).trans (H0.out k hkn)
      have d1 := (HBW.out.cell (p := ⟨g1, o1 + k, none⟩) hg1).trans (H1.out k hkn)
      obtain ⟨p, hp, hpk, hs⟩ := nr_lt HO.out k hkn hk0
      have hsc := sec_lt HO.out hkn
      rw [hp] at d0
      have hT := tri_le23 (show i - k ≤ 23 by omega)
      have HSD : Hid (dwn P S k (stQ G (nrC P S k) (G k)) = smF1 P S n i) := Lib.hid hdn.out
      have HSB : Hid (∀ x, -(1 * tri (i - (k - 1))) ≤ stQ G (nrC P S k) (G k) x ∧ stQ G (nrC P S k) (G k) x ≤ 1 * tri (i - (k - 1))) := Lib.hid fun x => by
        have h9 := stQ_tri (P := P) (S := S) (k := k) (M := 1) (by omega) hgb.out (hgb.out k) 2 x
        rw [List.take_of_length_le (nrC_len P S k), show i - k + 1 = i - (k - 1) by omega] at h9
        exact h9
      obtain ⟨T, hTe⟩ : ∃ T, tri (i - k) = T := ⟨_, rfl⟩
      rw [hTe] at hT hgb
      have HXR : Hid (∀ x, -T ≤ G x ∧ G x ≤ T) := Lib.hid fun x => by have := hgb.out x; omega
      obtain ⟨z, hz⟩ : ∃ z, G k = z := ⟨_, rfl⟩
      have HZ := Lib.hid hz
      obtain ⟨d', e', hd1, hd2, hcd, hfd⟩ := own_at how.out (fnL_len _ _) (show p < n by omega)
      simp only [Option.some.injEq, Addr.mk.injEq, and_true] at e'
      subst e'
      obtain ⟨d2, e2, _, _, hck, _⟩ := own_at how.out (fnL_len _ _) hkn
      simp only [Option.some.injEq, Addr.mk.injEq, and_true] at e2
      subst e2
      rw [fnL_at (show p < n by omega)] at hcd
      rw [fnL_at hkn, hz] at hck
      have hxp := HXR.out p
      have hxz := HXR.out k
      rw [hz] at hxz
      obtain ⟨y, hy⟩ : ∃ y, G p = y := ⟨_, rfl⟩
      rw [hy] at hcd hxp
      have hpn2 : (p : Int) < (n : Int) := by omega
      have p1 : IntKind.i64.wrap (y + z) = y + z := IntWalk.i64_in _ (by omega)
      have HNW : Hid (OwnI ((wr.setCell ⟨d, p, none⟩ (.int .i64 (y + z))).drew) d (d + 1) (.slice (some ⟨d, 0, none⟩) n n) (fnL (updF G p z) n)) := Lib.hid (by
        have h6 := own_store (w := wr) (j := p) how.out (fnL_len G n) (y + z)
        rw [show y + z = G p + z by rw [hy]] at h6 ⊢
        rw [fnL_set z (by omega)] at h6
        exact h6)
      have HBN : Hid (Below W0.heap.size W0 ((wr.setCell ⟨d, p, none⟩ (.int .i64 (y + z))).drew)) := Lib.hid ((hb.out.setCell (p := ⟨d, p, none⟩) (by show W0.heap.size ≤ d; rw [HD.out]; exact Nat.le_refl _) _).drew)
      have HXU := Lib.hid (fun x => upd_rng (M := T) (D := T) (d := z) HXR.out (by omega) p x)
      have hdw := HDW.out
      have hgd0 : d ≠ g0 := by omega
      have hgd1 : d ≠ g1 := by omega
      have hxd : w.heap.size ≠ d := by omega
      clear hdw
      have hkp : k ≠ p := by omega
      obtain ⟨wo, rfl⟩ : ∃ wo : World, wo = wr := ⟨_, rfl⟩
      clear hy hX how hdn hgb hTe
      rcases hsc with hs1 | ⟨_, p', s, hp', _, hs1, hsp, hnr⟩
      · have HNR : Hid (stQ G (nrC P S k) (G k) = updF G p z) := Lib.hid (by
          rcases hs with ⟨_, h7⟩ | ⟨s, h7, _⟩
          · rw [h7, HZ.out]; rfl
          · omega)
        rw [hs1] at d1
        clear hs hs1 hp
        go_wp2_with fail
        go_still_tail 20, (by kernel_rfl)
        go_wp2_with fail
        go_roundw
        case rel => exact ⟨k - 1, updF G p z, by omega, by rw [show ((k - 1 : Nat) : Int) = (k : Int) - 1 by omega], HNW, Lib.hid (by rw [← HNR.out, show k - 1 + 1 = k by omega]; exact HSD.out), Lib.hid (by rw [← HNR.out]; exact HSB.out), HBN⟩
        case measure => simp [intOf]; omega
      · have HNR : Hid (stQ G (nrC P S k) (G k) = updF (updF G p z) s z) := Lib.hid (by
          rw [hnr, HZ.out]
          have e : p' = p := by omega
          subst e
          rw [← stQ_swap, Int.toNat_natCast, Int.toNat_natCast])
        have HS1 := Lib.hid hs1
        rw [hs1] at d1
        have hsk : s < k := by omega
        have hsn2 : (s : Int) < (n : Int) := by omega
        have hs0 : (0 : Int) ≤ (s : Int) := by omega
        have HSP : Hid (s < n ∧ s ≠ p) := Lib.hid (by omega)
        clear hs hs1 hp hp'
        go_wp2_with fail
        go_still_tail 20, (by kernel_rfl)
        · go_wp2_with fail
          generalize (wo.setCell ⟨d, p, none⟩ (.int .i64 (y + z))).drew = W3 at *
          have HBW3 : Hid (Below w.heap.size w W3) := Lib.hid (HB0.out.trans (HBN.out.mono HB0.out.size))
          have hX3 := HX.out.below HBN.out
          have x13 := hX3.c1; have hxl3 := hX3.lt
          have d13 := (HBW3.out.cell (p := ⟨g1, o1 + k, none⟩) hg1).trans (H1.out k hkn)
          rw [HS1.out] at d13
          obtain ⟨d3, e3, _, _, hcd3, hfd3⟩ := own_at HNW.out (fnL_len _ _) HSP.out.1
          simp only [Option.some.injEq, Addr.mk.injEq, and_true] at e3
          subst e3
          obtain ⟨d4, e4, _, _, hck3, _⟩ := own_at HNW.out (fnL_len _ _) hkn
          simp only [Option.some.injEq, Addr.mk.injEq, and_true] at e4
          subst e4
          rw [fnL_at HSP.out.1] at hcd3
          rw [fnL_at hkn, show updF G p z k = z by unfold updF; rw [if_neg hkp]; exact HZ.out] at hck3
          have hxs := HXU.out s
          obtain ⟨y2, hy2⟩ : ∃ y, updF G p z s = y := ⟨_, rfl⟩
          rw [hy2] at hcd3 hxs
          have p2 : IntKind.i64.wrap (y2 + z) = y2 + z := IntWalk.i64_in _ (by omega)
          have HNW2 : Hid (OwnI ((W3.setCell ⟨d, s, none⟩ (.int .i64 (y2 + z))).drew) d (d + 1) (.slice (some ⟨d, 0, none⟩) n n) (fnL (updF (updF G p z) s z) n)) := Lib.hid (by
            have h6 := own_store (w := W3) (j := s) HNW.out (fnL_len _ n) (y2 + z)
            rw [show y2 + z = updF G p z s + z by rw [hy2]] at h6 ⊢
            rw [fnL_set z HSP.out.1] at h6
            exact h6)
          have HBN2 : Hid (Below W0.heap.size W0 ((W3.setCell ⟨d, s, none⟩ (.int .i64 (y2 + z))).drew)) := Lib.hid ((HBN.out.setCell (p := ⟨d, s, none⟩) (by show W0.heap.size ≤ d; rw [HD.out]; exact Nat.le_refl _) _).drew)
          clear hX3 hy2 x0 x1 d0 d1 hcd hfd hck
          go_still_tail 20, (by kernel_rfl)
          · go_wp2_with fail
            go_roundw
            case rel => exact ⟨k - 1, updF (updF G p z) s z, by omega, by rw [show ((k - 1 : Nat) : Int) = (k : Int) - 1 by omega], HNW2, Lib.hid (by rw [← HNR.out, show k - 1 + 1 = k by omega]; exact HSD.out), Lib.hid (by rw [← HNR.out]; exact HSB.out), HBN2⟩
            case measure => simp [intOf]; omega
    · obtain rfl : k = 0 := by omega
      have hk00 : ¬ (0 : Int) < ((0 : Nat) : Int) := by omega
      have HGE : Hid (G = smF1 P S n i) := Lib.hid (by
        have h9 := hdn.out
        have h8 : stQ G (nrC P S 0) (G 0) = smF1 P S n i := h9
        rw [(nr_zero HO.out (by omega)).1, stQ_nil] at h8
        exact h8)
      have hb9 := hb.out
      go_wp2_with fail
      go_ret
      exact LAns.of (smL_len _ _ _ _) (by
        have h9 := how.out
        rw [HGE.out] at h9
        have h10 : OwnI wr d wr.heap.size (.slice (some ⟨d, 0, none⟩) n n) (smL P S n i) := h9.raise (own_size h9) (Nat.le_refl _)
        exact own_less h10 (by rw [HDW.out]; omega)) (HB0.out.trans (hb9.mono HB0.out.size))

end Go.Proofs.Ytjobfjgphcaoeaa
