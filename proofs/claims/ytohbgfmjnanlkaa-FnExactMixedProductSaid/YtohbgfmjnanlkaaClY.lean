/- Clusters, the model's: excesses, consistency, orders: contracts. Conditions: stated at each theorem. -/
import Derived.Test.YtohbgfmjnanlkaaClF
import Derived.StillTailTactics
namespace Go.Proofs.Ytohbgfmjnanlkaa
open Go.ChangeShapes Go.WideShapes Go.ChangeAt Go.RowKit Go.Deep
set_option linter.unusedVariables false
set_option linter.unusedSimpArgs false

theorem exN_one {P S : List Int} {W : Nat → Int} {n : Nat} (h : okAll P S n = true) (hn : 0 < n) : exN P S W 1 = W := by
  show stQ W (nrC P S 0) _ = W
  rw [(nr_zero h hn).1]; rfl
theorem upd_rng {F : Nat → Int} {d M D : Int} (hF : ∀ x, -M ≤ F x ∧ F x ≤ M) (hd : -D ≤ d ∧ d ≤ D) (j : Nat) (x : Nat) : -(M + D) ≤ updF F j d x ∧ updF F j d x ≤ M + D := by
  have := hF x
  unfold updF
  split <;> omega

set_option maxRecDepth 100000 in
set_option maxHeartbeats 4000000 in
theorem l07Excess_any (a b c v : Value) (P S U V : List Int) (n : Nat) (w : World) (h : ReadC w w.heap.size a b c P S U) (hv : ReadI w w.heap.size v V) (hC : ClP P S n) (hV : V.length = n) (hW : wtOK V = true) :
    Calls Try.prog 130 #[.agg #[a, b, c], v] w (LAns w (ecL P S V n)) := by
  have hn1 := hC.lo
  have hn := hC.hi
  have HO := Lib.hid hC.ok
  have HWT := Lib.hid hW
  obtain ⟨h0, h1, h2⟩ := h
  obtain ⟨A0, c0, rfl, _, _, hc0, _, hm0⟩ := id h0
  obtain ⟨A1, c1, rfl, _, _, hc1, _, hm1⟩ := id h1
  obtain ⟨A2, c2, rfl, _⟩ := id h2
  obtain ⟨A3, c3, rfl, _, _, hc3, _, hm3⟩ := id hv
  have HV := Lib.hid hv
  have hVl := hV
  rw [hC.p] at h0 hc0 ⊢
  rw [hC.s] at h1 hc1 ⊢
  rw [hV] at hc3 ⊢
  obtain ⟨n2, hn2⟩ : ∃ x, U.length = x := ⟨_, rfl⟩
  rw [hn2]
  obtain ⟨g0, o0, rfl, H0, hg0⟩ := cells_ofC h0 hC.p hn1
  obtain ⟨g1, o1, rfl, H1, hg1⟩ := cells_ofC h1 hC.s hn1
  obtain ⟨g3, o3, rfl, H3, hg3⟩ := cells_ofC (by rw [hV] at hv; exact hv) hV hn1
  have HX : Hid (CBox (w.alloc (.cells #[.slice (some ⟨g0, o0, none⟩) n c0, .slice (some ⟨g1, o1, none⟩) n c1, .slice A2 n2 c2] 36)) w.heap.size (.slice (some ⟨g0, o0, none⟩) n c0) (.slice (some ⟨g1, o1, none⟩) n c1) (.slice A2 n2 c2)) := Lib.hid (CBox.new _ _ _ _ _)
  have HB0 : Hid (Below w.heap.size w (w.alloc (.cells #[.slice (some ⟨g0, o0, none⟩) n c0, .slice (some ⟨g1, o1, none⟩) n c1, .slice A2 n2 c2] 36))) := Lib.hid (below_box2 _ _)
  have HZ0 : Hid ((w.alloc (.cells #[.slice (some ⟨g0, o0, none⟩) n c0, .slice (some ⟨g1, o1, none⟩) n c1, .slice A2 n2 c2] 36)).heap.size = w.heap.size + 1) := Lib.hid (by simp)
  rw [hV] at HV
  clear h0 h1 h2 hv hC hW hn2 hV
  go_enter Try.func130, Try.ntmps130
  go_wp2_with fail
  generalize (w.alloc (.cells #[.slice (some ⟨g0, o0, none⟩) n c0, .slice (some ⟨g1, o1, none⟩) n c1, .slice A2 n2 c2] 36)) = W0 at *
  have hz0 := HZ0.out
  have hg0' : g0 < W0.heap.size := by omega
  refine (l01Own_any _ V W0 w.heap.size (HV.out.below HB0.out) (by omega) (by omega)).mono ?_
  rintro e w1 ⟨v1, rfl, ho1, hb1⟩
  obtain ⟨A4, c4, rfl⟩ := ho1.form hVl
  have HW1 : Hid (OwnI w1 W0.heap.size w1.heap.size (.slice A4 n c4) (fnL (exN P S (fun x => V[x]?.getD 0) 1) n)) := Lib.hid (by
    rw [exN_one HO.out (by omega), fnL_self hVl]; exact ho1)
  have HB1 := Lib.hid hb1
  have hsz0 : w.heap.size + 1 ≤ W0.heap.size := by omega
  clear ho1 hb1 HZ0 hz0
  go_wp2_with fail
  go_loopw [6] (fun vi wr => ∃ (k : Nat), (1 ≤ k ∧ k ≤ n) ∧ vi = .int .i64 k ∧ Hid (OwnI wr W0.heap.size w1.heap.size (.slice A4 n c4) (fnL (exN P S (fun x => V[x]?.getD 0) k) n)) ∧ Hid (Below W0.heap.size W0 wr)) (fun vi _ => n - (intOf vi).toNat)
  case atStart => exact ⟨1, by omega, rfl, HW1, HB1⟩
  case round =>
    obtain ⟨k, hk, rfl, how, hb⟩ := hrel
    by_cases hkn : k < n
    · have hkn2 : (k : Int) < (n : Int) := by omega
      have HBW : Hid (Below w.heap.size w wr) := Lib.hid (HB0.out.trans (hb.out.mono HB0.out.size))
      have hX := HX.out.below hb.out
      have x0 := hX.c0; have x1 := hX.c1; have hxl := hX.lt
      have d0 := (HBW.out.cell (p := ⟨g0, o0 + k, none⟩) hg0).trans (H0.out k hkn)
      have d1 := (HBW.out.cell (p := ⟨g1, o1 + k, none⟩) hg1).trans (H1.out k hkn)
      have d3 := (HBW.out.cell (p := ⟨g3, o3 + k, none⟩) hg3).trans (H3.out k hkn)
      obtain ⟨p, hp, hpk, hs⟩ := nr_lt HO.out k hkn (by omega)
      have hsc := sec_lt HO.out hkn
      rw [hp] at d0
      have hwk := wt_rng HWT.out k
      have HXR := Lib.hid (fun x => ex_rng (P := P) (S := S) HWT.out (show k ≤ 24 by omega) x)
      obtain ⟨X, hXe⟩ : ∃ X, exN P S (fun x => V[x]?.getD 0) k = X := ⟨_, rfl⟩
      have HXE := Lib.hid hXe
      rw [hXe] at how HXR
      obtain ⟨z, hz⟩ : ∃ z, V[k]?.getD 0 = z := ⟨_, rfl⟩
      have HZ := Lib.hid hz
      rw [hz] at d3 hwk
      obtain ⟨d, rfl, hd1, hd2, hcd, hfd⟩ := own_at how.out (fnL_len _ _) (show p < n by omega)
      rw [fnL_at (show p < n by omega)] at hcd
      have hxp := HXR.out p
      obtain ⟨y, hy⟩ : ∃ y, X p = y := ⟨_, rfl⟩
      rw [hy] at hcd hxp
      have hpn2 : (p : Int) < (n : Int) := by omega
      have p1 : IntKind.i64.wrap (y - z) = y - z := IntWalk.i64_in _ (by omega)
      have HNW : Hid (OwnI ((wr.setCell ⟨d, p, none⟩ (.int .i64 (y - z))).drew) W0.heap.size w1.heap.size (.slice (some ⟨d, 0, none⟩) n c4) (fnL (updF X p (-z)) n)) := Lib.hid (by
        have h6 := own_store (w := wr) (j := p) how.out (fnL_len X n) (y - z)
        rw [show y - z = X p + -z by rw [hy]; omega] at h6 ⊢
        rw [fnL_set (-z) (by omega)] at h6
        exact h6)
      have HBN : Hid (Below W0.heap.size W0 ((wr.setCell ⟨d, p, none⟩ (.int .i64 (y - z))).drew)) := Lib.hid ((hb.out.setCell (p := ⟨d, p, none⟩) hd1 _).drew)
      have HXU := Lib.hid (fun x => upd_rng (M := 4900000) (D := 100000) (d := -z) HXR.out (by omega) p x)
      have hgd0 : d ≠ g0 := by omega
      have hgd1 : d ≠ g1 := by omega
      have hgd3 : d ≠ g3 := by omega
      have hxd : w.heap.size ≠ d := by omega
      obtain ⟨wo, rfl⟩ : ∃ wo : World, wo = wr := ⟨_, rfl⟩
      clear hXe hy hz hX how
      rcases hsc with hs1 | ⟨_, p', s, hp', _, hs1, hsp, hnr⟩
      · have HNR : Hid (exN P S (fun x => V[x]?.getD 0) (k + 1) = updF X p (-z)) := Lib.hid (by
          rcases hs with ⟨_, h7⟩ | ⟨s, h7, _⟩
          · show stQ (exN P S (fun x => V[x]?.getD 0) k) (nrC P S k) (-(V[k]?.getD 0)) = _
            rw [h7, HXE.out, HZ.out]; rfl
          · omega)
        rw [hs1] at d1
        clear hs hs1 hp
        go_wp2_with fail
        go_still_tail 20, (by kernel_rfl)
        go_wp2_with fail
        go_roundw
        case rel => exact ⟨k + 1, by omega, by go_num, Lib.hid (by rw [HNR.out]; exact HNW.out), HBN⟩
        case measure => simp [intOf]; omega
      · have HNR : Hid (exN P S (fun x => V[x]?.getD 0) (k + 1) = updF (updF X p (-z)) s (-z)) := Lib.hid (by
          show stQ (exN P S (fun x => V[x]?.getD 0) k) (nrC P S k) (-(V[k]?.getD 0)) = _
          rw [hnr, HXE.out, HZ.out]
          have e : p' = p := by omega
          subst e
          rw [← stQ_swap, Int.toNat_natCast, Int.toNat_natCast])
        have HS1 := Lib.hid hs1
        rw [hs1] at d1
        have hsk : s < k := by omega
        have hsn2 : (s : Int) < (n : Int) := by omega
        have hs0 : (0 : Int) ≤ (s : Int) := by omega
        have HSP : Hid (s < n ∧ s ≠ p) := Lib.hid (by omega)
        clear hs hs1 hp hp'
        go_wp2_with fail
        go_still_tail 20, (by kernel_rfl)
        · go_wp2_with fail
          generalize (wo.setCell ⟨d, p, none⟩ (.int .i64 (y - z))).drew = W3 at *
          have HBW3 : Hid (Below w.heap.size w W3) := Lib.hid (HB0.out.trans (HBN.out.mono HB0.out.size))
          have hX3 := HX.out.below HBN.out
          have x13 := hX3.c1; have hxl3 := hX3.lt
          have d13 := (HBW3.out.cell (p := ⟨g1, o1 + k, none⟩) hg1).trans (H1.out k hkn)
          have d33 := (HBW3.out.cell (p := ⟨g3, o3 + k, none⟩) hg3).trans (H3.out k hkn)
          rw [HS1.out] at d13
          rw [HZ.out] at d33
          obtain ⟨d', e', _, _, hcd3, hfd3⟩ := own_at HNW.out (fnL_len _ _) HSP.out.1
          simp only [Option.some.injEq, Addr.mk.injEq, and_true] at e'
          subst e'
          rw [fnL_at HSP.out.1] at hcd3
          have hxs := HXU.out s
          have HSX : Hid (updF X p (-z) s = updF X p (-z) s) := Lib.hid rfl
          obtain ⟨y2, hy2⟩ : ∃ y, updF X p (-z) s = y := ⟨_, rfl⟩
          rw [hy2] at hcd3 hxs
          have p2 : IntKind.i64.wrap (y2 - z) = y2 - z := IntWalk.i64_in _ (by omega)
          have HNW2 : Hid (OwnI ((W3.setCell ⟨d, s, none⟩ (.int .i64 (y2 - z))).drew) W0.heap.size w1.heap.size (.slice (some ⟨d, 0, none⟩) n c4) (fnL (updF (updF X p (-z)) s (-z)) n)) := Lib.hid (by
            have h6 := own_store (w := W3) (j := s) HNW.out (fnL_len _ n) (y2 - z)
            rw [show y2 - z = updF X p (-z) s + -z by rw [hy2]; omega] at h6 ⊢
            rw [fnL_set (-z) HSP.out.1] at h6
            exact h6)
          have HBN2 : Hid (Below W0.heap.size W0 ((W3.setCell ⟨d, s, none⟩ (.int .i64 (y2 - z))).drew)) := Lib.hid ((HBN.out.setCell (p := ⟨d, s, none⟩) hd1 _).drew)
          clear hX3 hy2 x0 x1 d0 d1 d3 hcd hfd
          go_still_tail 20, (by kernel_rfl)
          · go_wp2_with fail
            go_roundw
            case rel => exact ⟨k + 1, by omega, by go_num, Lib.hid (by rw [HNR.out]; exact HNW2.out), HBN2⟩
            case measure => simp [intOf]; omega
    · obtain rfl : k = n := by omega
      go_wp2_with fail
      go_ret
      exact LAns.of (ecL_len _ _ _ _) (own_less (how.out.raise (by have := hb.out.size; have := own_size how.out; omega) (Nat.le_refl _)) HB0.out.size) (HB0.out.trans (hb.out.mono HB0.out.size))

set_option maxRecDepth 100000 in
set_option maxHeartbeats 4000000 in
theorem l07Orders_any (a b c v : Value) (P S U V : List Int) (n : Nat) (w : World) (h : ReadC w w.heap.size a b c P S U) (hv : ReadI w w.heap.size v V) (hC : ClP P S n) (hV : V.length = n) (hW : wtOK V = true) :
    Calls Try.prog 131 #[.agg #[a, b, c], v] w (LAns w (orL P S V n)) := by
  have hn1 := hC.lo
  have hn := hC.hi
  have HO := Lib.hid hC.ok
  have HWT := Lib.hid hW
  obtain ⟨h0, h1, h2⟩ := h
  obtain ⟨A0, c0, rfl, _, _, hc0, _, hm0⟩ := id h0
  obtain ⟨A1, c1, rfl, _, _, hc1, _, hm1⟩ := id h1
  obtain ⟨A2, c2, rfl, _⟩ := id h2
  obtain ⟨A3, c3, rfl, _, _, hc3, _, hm3⟩ := id hv
  have HV := Lib.hid hv
  have hVl := hV
  rw [hC.p] at h0 hc0 ⊢
  rw [hC.s] at h1 hc1 ⊢
  rw [hV] at hc3 ⊢
  obtain ⟨n2, hn2⟩ : ∃ x, U.length = x := ⟨_, rfl⟩
  rw [hn2]
  obtain ⟨g0, o0, rfl, H0, hg0⟩ := cells_ofC h0 hC.p hn1
  obtain ⟨g1, o1, rfl, H1, hg1⟩ := cells_ofC h1 hC.s hn1
  obtain ⟨g3, o3, rfl, H3, hg3⟩ := cells_ofC (by rw [hV] at hv; exact hv) hV hn1
  have HX : Hid (CBox (w.alloc (.cells #[.slice (some ⟨g0, o0, none⟩) n c0, .slice (some ⟨g1, o1, none⟩) n c1, .slice A2 n2 c2] 36)) w.heap.size (.slice (some ⟨g0, o0, none⟩) n c0) (.slice (some ⟨g1, o1, none⟩) n c1) (.slice A2 n2 c2)) := Lib.hid (CBox.new _ _ _ _ _)
  have HB0 : Hid (Below w.heap.size w (w.alloc (.cells #[.slice (some ⟨g0, o0, none⟩) n c0, .slice (some ⟨g1, o1, none⟩) n c1, .slice A2 n2 c2] 36))) := Lib.hid (below_box2 _ _)
  have HZ0 : Hid ((w.alloc (.cells #[.slice (some ⟨g0, o0, none⟩) n c0, .slice (some ⟨g1, o1, none⟩) n c1, .slice A2 n2 c2] 36)).heap.size = w.heap.size + 1) := Lib.hid (by simp)
  rw [hV] at HV
  clear h0 h1 h2 hv hC hW hn2 hV
  obtain ⟨i0, hi0, hy0, hy1, hy2⟩ := info_parts int_info
  have HWI : Hid (∀ i, i < n → -100000 ≤ V[i]?.getD 0 ∧ V[i]?.getD 0 ≤ 100000) := Lib.hid fun i _ => wt_rng HWT.out i
  have HS0 : Hid (OwnI ((w.alloc (.cells #[.slice (some ⟨g0, o0, none⟩) n c0, .slice (some ⟨g1, o1, none⟩) n c1, .slice A2 n2 c2] 36)).alloc (.cells #[] 2)) (w.heap.size + 1) ((w.alloc (.cells #[.slice (some ⟨g0, o0, none⟩) n c0, .slice (some ⟨g1, o1, none⟩) n c1, .slice A2 n2 c2] 36)).alloc (.cells #[] 2)).heap.size (.slice (some ⟨w.heap.size + 1, 0, none⟩) 0 0) (oC P S (fun x => V[x]?.getD 0) 0)) := Lib.hid (OwnI.mk' (n := 0) (by
    have := World.ownsRow_lit (e := 2) (size := 1) (w.alloc (.cells #[.slice (some ⟨g0, o0, none⟩) n c0, .slice (some ⟨g1, o1, none⟩) n c1, .slice A2 n2 c2] 36)) #[] 0 (Nat.le_refl _) (by simp [maxLen]) rfl
    simpa [Own, oC] using this))
  have HB1 : Hid (Below (w.heap.size + 1) (w.alloc (.cells #[.slice (some ⟨g0, o0, none⟩) n c0, .slice (some ⟨g1, o1, none⟩) n c1, .slice A2 n2 c2] 36)) ((w.alloc (.cells #[.slice (some ⟨g0, o0, none⟩) n c0, .slice (some ⟨g1, o1, none⟩) n c1, .slice A2 n2 c2] 36)).alloc (.cells #[] 2))) := Lib.hid ((Below.refl _ _).alloc (by simp) _)
  go_enter Try.func131, Try.ntmps131
  go_wp2_with fail
  generalize hWW : (w.alloc (.cells #[.slice (some ⟨g0, o0, none⟩) n c0, .slice (some ⟨g1, o1, none⟩) n c1, .slice A2 n2 c2] 36)) = W0 at *
  clear hWW
  go_loopw [5, 6] (fun vo vi wr => ∃ (k : Nat) (A : Option Addr) (c' : Nat), k ≤ n ∧ vo = .slice A k c' ∧ vi = .int .i64 k ∧ Hid (OwnI wr (w.heap.size + 1) wr.heap.size (.slice A k c') (oC P S (fun x => V[x]?.getD 0) k)) ∧ Hid (Below (w.heap.size + 1) W0 wr)) (fun _ vi _ => n - (intOf vi).toNat)
  case atStart => exact ⟨0, _, _, by omega, rfl, rfl, HS0, HB1⟩
  case round =>
    obtain ⟨k, A, c', hk, rfl, rfl, how, hb⟩ := hrel
    by_cases hkn : k < n
    · have hkn2 : (k : Int) < (n : Int) := by omega
      have HBW : Hid (Below w.heap.size w wr) := Lib.hid (HB0.out.trans (hb.out.mono (by omega)))
      have hX := HX.out.of_block (hb.out.block w.heap.size (by omega)) hb.out.size
      have x0 := hX.c0; have x1 := hX.c1; have hxl := hX.lt
      have d0 := (HBW.out.cell (p := ⟨g0, o0 + k, none⟩) hg0).trans (H0.out k hkn)
      have d1 := (HBW.out.cell (p := ⟨g1, o1 + k, none⟩) hg1).trans (H1.out k hkn)
      have d3 := (HBW.out.cell (p := ⟨g3, o3 + k, none⟩) hg3).trans (H3.out k hkn)
      have hwk := wt_rng HWT.out k
      have HNX : Hid (oC P S (fun x => V[x]?.getD 0) (k + 1) = oC P S (fun x => V[x]?.getD 0) k ++ [oF P S (fun x => V[x]?.getD 0) k]) := Lib.hid (oC_next _ _ _ _)
      have hof := oF_rng HO.out hn HWI.out hkn
      have HOL : Hid ((oC P S (fun x => V[x]?.getD 0) k).length = k) := Lib.hid (oC_len _ _ _ _)
      have HBS := HBW.out.size
      have hbs1 := hb.out.size
      have HFIN : Hid (∀ y, oF P S (fun x => V[x]?.getD 0) k = y → Hid (oC P S (fun x => V[x]?.getD 0) (k + 1) = oC P S (fun x => V[x]?.getD 0) k ++ [y])) := Lib.hid fun y e => Lib.hid (by rw [← e]; exact HNX.out)
      obtain ⟨X, HXe⟩ : ∃ X, X = (oC P S (fun x => V[x]?.getD 0) k).map (Value.int .i64) := ⟨_, rfl⟩
      have hown := how.out.1
      rw [oC_len, ← HXe] at hown
      have HOW : Hid (Own wr (w.heap.size + 1) (.slice A k c') k X) := Lib.hid hown
      have HXE := Lib.hid HXe
      clear hown HXe hX
      by_cases hk0 : k = 0
      · have HE : Hid (oF P S (fun x => V[x]?.getD 0) k = V[k]?.getD 0) := Lib.hid (by subst hk0; exact oF_zero HO.out (by omega))
        have hs1 := (nr_zero HO.out (show 0 < n by omega)).2.2
        rw [show (0 : Nat) = k by omega] at hs1
        rw [hs1] at d1
        have hkb : ¬ 0 < k := by omega
        have hkb2 : ¬ (0 : Int) < (k : Int) := by omega
        obtain ⟨y, hy⟩ : ∃ y, V[k]?.getD 0 = y := ⟨_, rfl⟩
        have HN2 := HFIN.out y (by rw [HE.out, hy])
        rw [hy] at d3 hwk
        clear hs1 hk0 hy
        go_wp2_with (at_builtin; (refine wpList_append_own _ rfl _ _ 22 rfl (w.heap.size + 1) 2 i0 (.int .i64 0) 1 8 Try.underlying22 hi0 hy0 hy1 hy2 rfl (by decide) _ k X rfl (World.ownsRow.alloc HOW.out _) ⟨wr.heap.size, 0, none⟩ 1 1 [.int .i64 (y)] rfl rfl (World.news_of_block (cs := #[.int .i64 (y)]) (t := 2) (fr := (0, 0)) (heap_alloc_new wr _)) (by simp [Value.oneCell']) (by simp only [maxLen]; omega) (by omega) (by simp <;> omega) ?_; intro v1 w4 hown1 hgrow _; obtain ⟨A4, c4, rfl⟩ := own_form hown1; have HO4 := Lib.hid hown1; have HB4 := Lib.hid ((hb.out.alloc (by omega) _).grown hgrow (by simp <;> omega) (fun kk hkk => (World.ownsRow.lt HOW.out kk hkk).1)); clear hown1 hgrow))
        go_roundw
        case rel => exact ⟨k + 1, A4, c4, by omega, rfl, by go_num, Lib.hid (by rw [HN2.out]; exact OwnI.mk' (n := k + 1) (by rw [List.map_append, ← HXE.out]; exact HO4.out)), HB4⟩
        case measure => simp [intOf]; omega
      · obtain ⟨p, hp, hpk, hs⟩ := nr_lt HO.out k hkn (by omega)
        rw [hp] at d0
        have hkb : 0 < k := by omega
        have hkb2 : (0 : Int) < (k : Int) := by omega
        obtain ⟨go, rfl, hgo1, hgo2, hcp, _⟩ := own_at how.out (oC_len _ _ _ _) hpk
        rw [oC_at hpk] at hcp
        have hop := oF_rng HO.out hn HWI.out (show p < n by omega)
        have hpk2 : (p : Int) < (k : Int) := by omega
        rcases hs with ⟨hs1, hnr⟩ | ⟨s, hs1, hsp, hnr⟩
        · have HE : Hid (oF P S (fun x => V[x]?.getD 0) k = V[k]?.getD 0 + oF P S (fun x => V[x]?.getD 0) p) := Lib.hid (oF_one HO.out hkn hnr)
          rw [hs1] at d1
          obtain ⟨op, hoe⟩ : ∃ x, oF P S (fun x => V[x]?.getD 0) p = x := ⟨_, rfl⟩
          obtain ⟨y, hy⟩ : ∃ y, V[k]?.getD 0 = y := ⟨_, rfl⟩
          rw [hoe] at hcp hop
          rw [hy] at d3 hwk
          have HN2 := HFIN.out (y + op) (by rw [HE.out, hoe, hy])
          clear hs1 hnr hoe hy hp hk0
          go_wp2_with (at_builtin; (refine wpList_append_own _ rfl _ _ 22 rfl (w.heap.size + 1) 2 i0 (.int .i64 0) 1 8 Try.underlying22 hi0 hy0 hy1 hy2 rfl (by decide) _ k X rfl (World.ownsRow.alloc HOW.out _) ⟨wr.heap.size, 0, none⟩ 1 1 [.int .i64 (y + op)] rfl rfl (World.news_of_block (cs := #[.int .i64 (y + op)]) (t := 2) (fr := (0, 0)) (heap_alloc_new wr _)) (by simp [Value.oneCell']) (by simp only [maxLen]; omega) (by omega) (by simp <;> omega) ?_; intro v1 w4 hown1 hgrow _; obtain ⟨A4, c4, rfl⟩ := own_form hown1; have HO4 := Lib.hid hown1; have HB4 := Lib.hid ((hb.out.alloc (by omega) _).grown hgrow (by simp <;> omega) (fun kk hkk => (World.ownsRow.lt HOW.out kk hkk).1)); clear hown1 hgrow))
          go_roundw
          case rel => exact ⟨k + 1, A4, c4, by omega, rfl, by go_num, Lib.hid (by rw [HN2.out]; exact OwnI.mk' (n := k + 1) (by rw [List.map_append, ← HXE.out]; exact HO4.out)), HB4⟩
          case measure => simp [intOf]; omega
        · have HE : Hid (oF P S (fun x => V[x]?.getD 0) k = V[k]?.getD 0 + oF P S (fun x => V[x]?.getD 0) s + oF P S (fun x => V[x]?.getD 0) p) := Lib.hid (oF_two HO.out hkn hnr)
          rw [hs1] at d1
          obtain ⟨go', e', _, _, hcs, _⟩ := own_at how.out (oC_len _ _ _ _) (show s < k by omega)
          simp only [Option.some.injEq, Addr.mk.injEq, and_true] at e'
          subst e'
          rw [oC_at (show s < k by omega)] at hcs
          have hos := oF_rng HO.out hn HWI.out (show s < n by omega)
          have hsk2 : (s : Int) < (k : Int) := by omega
          obtain ⟨op, hoe⟩ : ∃ x, oF P S (fun x => V[x]?.getD 0) p = x := ⟨_, rfl⟩
          obtain ⟨os, hse⟩ : ∃ x, oF P S (fun x => V[x]?.getD 0) s = x := ⟨_, rfl⟩
          obtain ⟨y, hy⟩ : ∃ y, V[k]?.getD 0 = y := ⟨_, rfl⟩
          rw [hoe] at hcp hop
          rw [hse] at hcs hos
          rw [hy] at d3 hwk
          have HN2 := HFIN.out (y + op + os) (by rw [HE.out, hoe, hy, hse]; omega)
          clear hs1 hnr hoe hse hy hp hk0
          go_wp2_with (at_builtin; (refine wpList_append_own _ rfl _ _ 22 rfl (w.heap.size + 1) 2 i0 (.int .i64 0) 1 8 Try.underlying22 hi0 hy0 hy1 hy2 rfl (by decide) _ k X rfl (World.ownsRow.alloc HOW.out _) ⟨wr.heap.size, 0, none⟩ 1 1 [.int .i64 (y + op + os)] rfl rfl (World.news_of_block (cs := #[.int .i64 (y + op + os)]) (t := 2) (fr := (0, 0)) (heap_alloc_new wr _)) (by simp [Value.oneCell']) (by simp only [maxLen]; omega) (by omega) (by simp <;> omega) ?_; intro v1 w4 hown1 hgrow _; obtain ⟨A4, c4, rfl⟩ := own_form hown1; have HO4 := Lib.hid hown1; have HB4 := Lib.hid ((hb.out.alloc (by omega) _).grown hgrow (by simp <;> omega) (fun kk hkk => (World.ownsRow.lt HOW.out kk hkk).1)); clear hown1 hgrow))
          go_roundw
          case rel => exact ⟨k + 1, A4, c4, by omega, rfl, by go_num, Lib.hid (by rw [HN2.out]; exact OwnI.mk' (n := k + 1) (by rw [List.map_append, ← HXE.out]; exact HO4.out)), HB4⟩
          case measure => simp [intOf]; omega
    · obtain rfl : k = n := by omega
      go_wp2_with fail
      go_ret
      exact LAns.of (orL_len _ _ _ _) (own_less how.out (by omega)) (HB0.out.trans (hb.out.mono (by omega)))

set_option maxRecDepth 100000 in
set_option maxHeartbeats 4000000 in
theorem l07Consistent_any (a b c : Value) (P S W : List Int) (n : Nat) (w : World) (h : ReadC w w.heap.size a b c P S W) (hC : ClOK P S W n) (bb : Bool) (hbb : (ecL P S W n).all (fun z => decide (0 ≤ z)) = bb) :
    Calls Try.prog 76 #[.agg #[a, b, c]] w fun e w' => e = .returned (.bool bb) ∧ Below w.heap.size w w' := by
  obtain ⟨W0, HE⟩ : ∃ V, V = w.alloc (.cells #[a, b, c] 36) := ⟨_, rfl⟩
  have hb0 : Below w.heap.size w W0 := by rw [HE]; exact below_box2 _ _
  have hx : CBox W0 w.heap.size a b c := by rw [HE]; exact CBox.new _ _ _ _ _
  have hn := hC.hi
  have HR := Lib.hid ((h.below hb0).more hb0.size)
  have HB := Lib.hid hb0
  have HEQ := Lib.hid HE
  have HC := Lib.hid hC
  have HBB := Lib.hid hbb
  have x0 := hx.c0; have x1 := hx.c1; have x2 := hx.c2
  clear h hb0 hx HE hC hbb
  go_enter Try.func76, Try.ntmps76
  go_wp2_with fail
  rw [← HEQ.out]
  refine (l07Excess_any a b c c P S W W n W0 HR.out HR.out.2.2 HC.out.toClP HC.out.w HC.out.wt).mono ?_
  rintro e w1 ⟨A1, c1, rfl, ho1, hb1⟩
  have HB1 := Lib.hid (HB.out.trans (hb1.mono HB.out.size))
  have HO1 := Lib.hid ho1
  rw [ecL_len]
  rw [ecL_len] at HO1
  have HL : Hid ((ecL P S W n).length = n) := Lib.hid (ecL_len _ _ _ _)
  obtain ⟨E, hE⟩ : ∃ E, ecL P S W n = E := ⟨_, rfl⟩
  rw [hE] at HO1 HBB HL
  have HA0 : Hid (∀ i, i < 0 → 0 ≤ E[i]?.getD 0) := Lib.hid fun i hi => by omega
  clear ho1 hb1 x0 x1 x2 HEQ hE
  go_wp2_with fail
  go_loop [4] (fun vi => ∃ (k : Nat), k ≤ n ∧ vi = .int .i64 k ∧ Hid (∀ i, i < k → 0 ≤ E[i]?.getD 0)) (fun vi => n - (intOf vi).toNat)
  case atStart => exact ⟨0, by omega, rfl, HA0⟩
  case round =>
    obtain ⟨k, hk, rfl, HA⟩ := hrel
    by_cases hkn : k < n
    · have hkn2 : (k : Int) < (n : Int) := by omega
      obtain ⟨d, rfl, _, _, hcd, _⟩ := own_at HO1.out HL.out hkn
      obtain ⟨z, hz⟩ : ∃ z, E[k]?.getD 0 = z := ⟨_, rfl⟩
      have HZ := Lib.hid hz
      rw [hz] at hcd
      clear hz
      by_cases hzn : z < 0
      · have HBT : Hid (bb = false) := Lib.hid (by
          rw [← HBB.out, List.all_eq_false]
          refine ⟨z, ?_, by simp; omega⟩
          rw [← HZ.out]
          have hkl : k < E.length := by rw [HL.out]; exact hkn
          simp [hkl])
        go_wp2_with fail
        go_ret
        have hbt := HBT.out
        subst hbt
        exact ⟨rfl, HB1.out⟩
      · have HA1 : Hid (∀ i, i < k + 1 → 0 ≤ E[i]?.getD 0) := Lib.hid fun i hi => by
          by_cases e : i = k
          · subst e; rw [HZ.out]; omega
          · exact HA.out i (by omega)
        go_wp2_with fail
        go_round
        case rel => exact ⟨k + 1, by omega, by go_num, HA1⟩
        case measure => simp [intOf]; omega
    · obtain rfl : k = n := by omega
      have HBT : Hid (bb = true) := Lib.hid (by
        rw [← HBB.out, List.all_eq_true]
        intro z hz
        obtain ⟨i, hi, rfl⟩ := List.getElem_of_mem hz
        have := HA.out i (by rw [← HL.out]; exact hi)
        simpa [hi] using this)
      go_wp2_with fail
      go_ret
      have hbt := HBT.out
      subst hbt
      exact ⟨rfl, HB1.out⟩

end Go.Proofs.Ytohbgfmjnanlkaa
