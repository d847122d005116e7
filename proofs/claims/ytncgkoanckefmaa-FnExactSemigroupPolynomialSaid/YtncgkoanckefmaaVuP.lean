/- SemigroupPolynomial, the models' and the programs': contracts. Conditions: stated at each theorem. -/
import Derived.Test.YtncgkoanckefmaaVuS
namespace Go.Proofs.Ytncgkoanckefmaa
open Go.ChangeShapes Go.WideShapes Go.ChangeAt Go.RowKit Go.Deep
set_option linter.unusedVariables false
set_option linter.unusedSimpArgs false

theorem spB_zero {zs : List Int} {k : Nat} (h : k = 0) : spB zs k = if reB zs (k : Int) then 1 else 0 := by subst h; rfl
theorem spB_pos {zs : List Int} {k : Nat} (h : 1 ≤ k) : spB zs k = (if reB zs (k : Int) then 1 else 0) - (if reB zs ((k - 1 : Nat) : Int) then 1 else 0) := by
  obtain ⟨i, rfl⟩ : ∃ i, k = i + 1 := ⟨k - 1, by omega⟩
  rfl
set_option maxRecDepth 100000 in
set_option maxHeartbeats 2000000 in
theorem specSemigroupPolynomial_any (v : Value) (zs : List Int) (w : World) (h : ReadI w w.heap.size v zs) (hn : zs.length ≤ 1048576) (hw : ∀ z ∈ zs, (Lit.int .i64 z).wf = true) :
    Calls Try.prog 30 #[.agg #[v]] w (AnsIC w (spA zs) (spC zs)) := by
  have HWW := Lib.hid hw
  have HN0 := Lib.hid hn
  rcases bool_fs (brB zs) with hp | hp
  · have E := Lib.hid (sp_no hp)
    have HP := Lib.hid hp
    obtain ⟨n, A, c, rfl, hr, HL, _, hnc, HF, hcm⟩ := h.split2
    obtain ⟨W0, HE⟩ : ∃ W, W = w.alloc (.cells #[.slice A n c] 28) := ⟨_, rfl⟩
    have hb0 : Below w.heap.size w W0 := by rw [HE]; exact below_box _ _
    have hq0 : BoxI W0 w.heap.size (.slice A n c) := by rw [HE]; exact BoxI.new _ _ _
    have H0 := Lib.hid ((h.below hb0).more hb0.size)
    have HEQ := Lib.hid HE
    clear h hr HE HF hn hw hp
    go_enter Try.func30, Try.ntmps30
    go_wp2_with fail
    rw [← HEQ.out]
    refine (l03Is_if _ zs _ false H0.out HN0.out HWW.out HP.out).mono ?_
    rintro e w1 ⟨rfl, hb1⟩
    go_wp2_with fail
    go_ret2
    exact AnsIC.empty (by rw [E.out.1]) (by rw [E.out.2]) (hb0.trans (hb1.mono hb0.size))
  have HP := Lib.hid hp
  have hc0 := cdB_nonneg hp
  by_cases hlim : cdB zs ≤ 2000
  · obtain ⟨m, hm⟩ : ∃ m : Nat, cdB zs = (m : Int) := ⟨(cdB zs).toNat, by omega⟩
    have E := Lib.hid (sp_yes hp hlim hm)
    have HMC := Lib.hid hm
    rw [hm] at hlim hc0
    clear hm
    obtain ⟨n, A, c, rfl, hr, HL, _, hnc, HF, hcm⟩ := h.split2
    obtain ⟨W0, HE⟩ : ∃ W, W = w.alloc (.cells #[.slice A n c] 28) := ⟨_, rfl⟩
    have hb0 : Below w.heap.size w W0 := by rw [HE]; exact below_box _ _
    have hq0 : BoxI W0 w.heap.size (.slice A n c) := by rw [HE]; exact BoxI.new _ _ _
    have H0 := Lib.hid ((h.below hb0).more hb0.size)
    have HEQ := Lib.hid HE
    clear h hr HE HF hn hw hp
    go_enter Try.func30, Try.ntmps30
    go_wp2_with fail
    rw [← HEQ.out]
    refine (l03Is_if _ zs _ true H0.out HN0.out HWW.out HP.out).mono ?_
    rintro e w1 ⟨rfl, hb1⟩
    have cb1 : w1.cell? ⟨w.heap.size, 0, none⟩ = some (.slice A n c) := by rw [hb1.cell (p := ⟨w.heap.size, 0, none⟩) hq0.2]; exact hq0.1
    have H1 := Lib.hid ((H0.out.below hb1).more hb1.size)
    have B1 := Lib.hid (hb0.trans (hb1.mono hb0.size))
    have hw1 : w.heap.size < w1.heap.size := by have := hq0.2; have := hb1.size; omega
    clear hb1 hb0 HEQ hq0
    go_wp2_with fail
    refine (l05Conductor_any _ zs w1 H1.out HN0.out HP.out).mono ?_
    rintro e w1' ⟨rfl, hb1'⟩
    rw [HMC.out]
    have cb2 := (hb1'.cell (p := ⟨w.heap.size, 0, none⟩) hw1).trans cb1
    have H2 := Lib.hid ((H1.out.below hb1').more hb1'.size)
    have B2 := Lib.hid (B1.out.trans (hb1'.mono B1.out.size))
    have hw11 : w1.heap.size ≤ w1'.heap.size := hb1'.size
    clear hb1' cb1
    go_wp2_with fail
    refine (l05Values_any _ zs m w1' H2.out HN0.out HP.out (by omega)).mono ?_
    rintro e w2 ⟨g2, rfl, hg1, hg2, hrow, hb2⟩
    obtain ⟨i0, hi0, hz0, hz1, hz2⟩ := info_parts int_info
    have hs2 := hb2.size
    have HO0 : Hid (Own (w2.alloc (.cells #[] 2)) w2.heap.size (.slice (some ⟨w2.heap.size, 0, none⟩) 0 0) 0 (([] : List Int).map (.int .i64))) := Lib.hid (World.ownsRow_lit w2 #[] 0 (Nat.le_refl _) (by simp [maxLen]) rfl)
    have hB0 : Below w2.heap.size w2 (w2.alloc (.cells #[] 2)) := below_box2 _ _
    have HROW := Lib.hid (hrow.alloc (.cells #[] 2))
    have BW := Lib.hid (B2.out.trans ((hb2.trans (hB0.mono hs2)).mono B2.out.size))
    obtain ⟨B, hB⟩ : ∃ B, w2.heap.size = B := ⟨_, rfl⟩
    have hgB : g2 < B := by omega
    have hwB : w.heap.size ≤ B := by have := B2.out.size; omega
    have HO : Hid (Own (w2.alloc (.cells #[] 2)) B (.slice (some ⟨B, 0, none⟩) 0 0) 0 (([] : List Int).map (.int .i64))) := Lib.hid (by have := HO0.out; rwa [hB] at this)
    have hsW : (w2.alloc (.cells #[] 2)).heap.size = B + 1 := by rw [← hB]; simp
    clear hrow hb2 hB0 HO0
    go_wp2_with fail
    generalize w2.alloc (.cells #[] 2) = WS at *
    have HB : Hid (Below B WS WS) := Lib.hid (Below.refl _ _)
    go_loopw [6, 7] (fun vo vk wr => ∃ (k : Nat) (A : Option Addr) (c : Nat), k ≤ m + 1 ∧ vk = .int .i64 (k : Int) ∧ vo = .slice A k c ∧ Hid (Own wr B (.slice A k c) k ((spL zs k).map (.int .i64))) ∧ Hid (Below B WS wr)) (fun _ vk _ => m + 1 - (intOf vk).toNat)
    case atStart => exact ⟨0, _, _, Nat.zero_le _, rfl, rfl, HO, HB⟩
    case round =>
      clear HO HB
      obtain ⟨j, A', c', hk, rfl, rfl, ho, hb⟩ := hrel
      have hsz := hb.out.size
      by_cases hlt : j < m + 1
      · have hki : (j : Int) ≤ (m : Int) := by omega
        have HSL := Lib.hid (spL_succ zs j)
        have hck := (hb.out.cell (p := ⟨g2, j, none⟩) hgB).trans (HROW.out.cell hlt)
        by_cases hj0 : j = 0
        · have hj0i : ¬ (0 : Int) < (j : Int) := by omega
          have HSZ := Lib.hid (spB_zero (zs := zs) hj0)
          clear hj0
          rcases bool_fs (reB zs (j : Int)) with hre | hre
          · have HSB : Hid (spB zs j = 0) := Lib.hid (by rw [HSZ.out, hre]; rfl)
            rw [hre] at hck
            clear hre
            go_wp2_with (at_builtin; refine wpList_append_own _ rfl _ _ 22 rfl B 2 i0 (.int .i64 0) 1 8 Try.underlying22 hi0 hz0 hz1 hz2 rfl ?_ _ (j) ((spL zs (j)).map (.int .i64)) rfl (World.ownsRow.alloc ho.out _) ⟨wr.heap.size, 0, none⟩ 1 1 [.int .i64 (0)] rfl rfl ?_ ?_ ?_ ?_ ?_ ?_; (decide); (exact World.news_of_block (cs := #[.int .i64 (0)]) (t := 2) (fr := (0, 0)) (heap_alloc_new wr _)); (simp [Value.oneCell']); (simp [maxLen]; omega); (omega); (simp; omega); intro v1 w5 hown1 hgrow _; obtain ⟨A1, c1, rfl⟩ := own_form (n := j + 1) hown1; have HO1 : Hid (Own w5 B (.slice A1 (j + 1) c1) (j + 1) ((spL zs (j + 1)).map (.int .i64))) := Lib.hid (by rw [HSL.out, HSB.out, List.map_append]; exact hown1); have hbn : Hid (Below B WS w5) := Lib.hid ((hb.out.alloc (by omega) _).grown hgrow (by simp; omega) (fun k hk => (Own.lt ho.out k hk).1)); clear hown1 hgrow)
            go_roundw
            case rel => exact ⟨j + 1, A1, c1, by omega, by go_num, rfl, HO1, hbn⟩
            case measure => first | (simp [intOf]; done) | (simp [intOf]; omega)
          · have HSB : Hid (spB zs j = 1) := Lib.hid (by rw [HSZ.out, hre]; rfl)
            rw [hre] at hck
            clear hre
            go_wp2_with (at_builtin; refine wpList_append_own _ rfl _ _ 22 rfl B 2 i0 (.int .i64 0) 1 8 Try.underlying22 hi0 hz0 hz1 hz2 rfl ?_ _ (j) ((spL zs (j)).map (.int .i64)) rfl (World.ownsRow.alloc ho.out _) ⟨wr.heap.size, 0, none⟩ 1 1 [.int .i64 (1)] rfl rfl ?_ ?_ ?_ ?_ ?_ ?_; (decide); (exact World.news_of_block (cs := #[.int .i64 (1)]) (t := 2) (fr := (0, 0)) (heap_alloc_new wr _)); (simp [Value.oneCell']); (simp [maxLen]; omega); (omega); (simp; omega); intro v1 w5 hown1 hgrow _; obtain ⟨A1, c1, rfl⟩ := own_form (n := j + 1) hown1; have HO1 : Hid (Own w5 B (.slice A1 (j + 1) c1) (j + 1) ((spL zs (j + 1)).map (.int .i64))) := Lib.hid (by rw [HSL.out, HSB.out, List.map_append]; exact hown1); have hbn : Hid (Below B WS w5) := Lib.hid ((hb.out.alloc (by omega) _).grown hgrow (by simp; omega) (fun k hk => (Own.lt ho.out k hk).1)); clear hown1 hgrow)
            go_roundw
            case rel => exact ⟨j + 1, A1, c1, by omega, by go_num, rfl, HO1, hbn⟩
            case measure => first | (simp [intOf]; done) | (simp [intOf]; omega)
        · have HSZ := Lib.hid (spB_pos (zs := zs) (show 1 ≤ j by omega))
          have hcp := (hb.out.cell (p := ⟨g2, j - 1, none⟩) hgB).trans (HROW.out.cell (show j - 1 < m + 1 by omega))
          have h0i : (0 : Int) < (j : Int) := by omega
          have pj : IntKind.i64.wrap ((j : Int) - 1) = (j : Int) - 1 := IntWalk.i64_in _ (by omega)
          have pjn : ((j : Int) - 1).toNat = j - 1 := by omega
          have hjm : j - 1 < m + 1 := by omega
          have hjm0 : (0 : Int) ≤ (j : Int) - 1 := by omega
          have hjm1 : (1 : Int) ≤ (j : Int) := by omega
          have hjmi : (j : Int) - 1 < (m : Int) + 1 := by omega
          clear hj0
          rcases bool_fs (reB zs (j : Int)) with hre | hre
          · rcases bool_fs (reB zs ((j - 1 : Nat) : Int)) with hrp | hrp
            · have HSB : Hid (spB zs j = 0) := Lib.hid (by rw [HSZ.out, hre, hrp]; rfl)
              rw [hrp] at hcp
              rw [hre] at hck
              clear hre hrp
              go_wp2_with (at_builtin; refine wpList_append_own _ rfl _ _ 22 rfl B 2 i0 (.int .i64 0) 1 8 Try.underlying22 hi0 hz0 hz1 hz2 rfl ?_ _ (j) ((spL zs (j)).map (.int .i64)) rfl (World.ownsRow.alloc ho.out _) ⟨wr.heap.size, 0, none⟩ 1 1 [.int .i64 (0)] rfl rfl ?_ ?_ ?_ ?_ ?_ ?_; (decide); (exact World.news_of_block (cs := #[.int .i64 (0)]) (t := 2) (fr := (0, 0)) (heap_alloc_new wr _)); (simp [Value.oneCell']); (simp [maxLen]; omega); (omega); (simp; omega); intro v1 w5 hown1 hgrow _; obtain ⟨A1, c1, rfl⟩ := own_form (n := j + 1) hown1; have HO1 : Hid (Own w5 B (.slice A1 (j + 1) c1) (j + 1) ((spL zs (j + 1)).map (.int .i64))) := Lib.hid (by rw [HSL.out, HSB.out, List.map_append]; exact hown1); have hbn : Hid (Below B WS w5) := Lib.hid ((hb.out.alloc (by omega) _).grown hgrow (by simp; omega) (fun k hk => (Own.lt ho.out k hk).1)); clear hown1 hgrow)
              go_roundw
              case rel => exact ⟨j + 1, A1, c1, by omega, by go_num, rfl, HO1, hbn⟩
              case measure => first | (simp [intOf]; done) | (simp [intOf]; omega)
            · have HSB : Hid (spB zs j = -1) := Lib.hid (by rw [HSZ.out, hre, hrp]; rfl)
              rw [hrp] at hcp
              rw [hre] at hck
              clear hre hrp
              go_wp2_with (at_builtin; refine wpList_append_own _ rfl _ _ 22 rfl B 2 i0 (.int .i64 0) 1 8 Try.underlying22 hi0 hz0 hz1 hz2 rfl ?_ _ (j) ((spL zs (j)).map (.int .i64)) rfl (World.ownsRow.alloc ho.out _) ⟨wr.heap.size, 0, none⟩ 1 1 [.int .i64 (-1)] rfl rfl ?_ ?_ ?_ ?_ ?_ ?_; (decide); (exact World.news_of_block (cs := #[.int .i64 (-1)]) (t := 2) (fr := (0, 0)) (heap_alloc_new wr _)); (simp [Value.oneCell']); (simp [maxLen]; omega); (omega); (simp; omega); intro v1 w5 hown1 hgrow _; obtain ⟨A1, c1, rfl⟩ := own_form (n := j + 1) hown1; have HO1 : Hid (Own w5 B (.slice A1 (j + 1) c1) (j + 1) ((spL zs (j + 1)).map (.int .i64))) := Lib.hid (by rw [HSL.out, HSB.out, List.map_append]; exact hown1); have hbn : Hid (Below B WS w5) := Lib.hid ((hb.out.alloc (by omega) _).grown hgrow (by simp; omega) (fun k hk => (Own.lt ho.out k hk).1)); clear hown1 hgrow)
              go_roundw
              case rel => exact ⟨j + 1, A1, c1, by omega, by go_num, rfl, HO1, hbn⟩
              case measure => first | (simp [intOf]; done) | (simp [intOf]; omega)
          · rcases bool_fs (reB zs ((j - 1 : Nat) : Int)) with hrp | hrp
            · have HSB : Hid (spB zs j = 1) := Lib.hid (by rw [HSZ.out, hre, hrp]; rfl)
              rw [hrp] at hcp
              rw [hre] at hck
              clear hre hrp
              go_wp2_with (at_builtin; refine wpList_append_own _ rfl _ _ 22 rfl B 2 i0 (.int .i64 0) 1 8 Try.underlying22 hi0 hz0 hz1 hz2 rfl ?_ _ (j) ((spL zs (j)).map (.int .i64)) rfl (World.ownsRow.alloc ho.out _) ⟨wr.heap.size, 0, none⟩ 1 1 [.int .i64 (1)] rfl rfl ?_ ?_ ?_ ?_ ?_ ?_; (decide); (exact World.news_of_block (cs := #[.int .i64 (1)]) (t := 2) (fr := (0, 0)) (heap_alloc_new wr _)); (simp [Value.oneCell']); (simp [maxLen]; omega); (omega); (simp; omega); intro v1 w5 hown1 hgrow _; obtain ⟨A1, c1, rfl⟩ := own_form (n := j + 1) hown1; have HO1 : Hid (Own w5 B (.slice A1 (j + 1) c1) (j + 1) ((spL zs (j + 1)).map (.int .i64))) := Lib.hid (by rw [HSL.out, HSB.out, List.map_append]; exact hown1); have hbn : Hid (Below B WS w5) := Lib.hid ((hb.out.alloc (by omega) _).grown hgrow (by simp; omega) (fun k hk => (Own.lt ho.out k hk).1)); clear hown1 hgrow)
              go_roundw
              case rel => exact ⟨j + 1, A1, c1, by omega, by go_num, rfl, HO1, hbn⟩
              case measure => first | (simp [intOf]; done) | (simp [intOf]; omega)
            · have HSB : Hid (spB zs j = 0) := Lib.hid (by rw [HSZ.out, hre, hrp]; rfl)
              rw [hrp] at hcp
              rw [hre] at hck
              clear hre hrp
              go_wp2_with (at_builtin; refine wpList_append_own _ rfl _ _ 22 rfl B 2 i0 (.int .i64 0) 1 8 Try.underlying22 hi0 hz0 hz1 hz2 rfl ?_ _ (j) ((spL zs (j)).map (.int .i64)) rfl (World.ownsRow.alloc ho.out _) ⟨wr.heap.size, 0, none⟩ 1 1 [.int .i64 (0)] rfl rfl ?_ ?_ ?_ ?_ ?_ ?_; (decide); (exact World.news_of_block (cs := #[.int .i64 (0)]) (t := 2) (fr := (0, 0)) (heap_alloc_new wr _)); (simp [Value.oneCell']); (simp [maxLen]; omega); (omega); (simp; omega); intro v1 w5 hown1 hgrow _; obtain ⟨A1, c1, rfl⟩ := own_form (n := j + 1) hown1; have HO1 : Hid (Own w5 B (.slice A1 (j + 1) c1) (j + 1) ((spL zs (j + 1)).map (.int .i64))) := Lib.hid (by rw [HSL.out, HSB.out, List.map_append]; exact hown1); have hbn : Hid (Below B WS w5) := Lib.hid ((hb.out.alloc (by omega) _).grown hgrow (by simp; omega) (fun k hk => (Own.lt ho.out k hk).1)); clear hown1 hgrow)
              go_roundw
              case rel => exact ⟨j + 1, A1, c1, by omega, by go_num, rfl, HO1, hbn⟩
              case measure => first | (simp [intOf]; done) | (simp [intOf]; omega)
      · obtain rfl : j = m + 1 := by omega
        have hki : ¬ (((m + 1 : Nat) : Nat) : Int) ≤ (m : Int) := by omega
        have HOO := Lib.hid (own_lessB (OwnI.mk' (lo := B) ho.out) (show w.heap.size ≤ B by omega))
        go_wp2_with fail
        go_ret2
        exact AnsIC.mk' (by rw [E.out.1]) (by rw [E.out.2]) HOO.out (BW.out.trans (hb.out.mono (by omega)))

  · have E := Lib.hid (sp_out hp hlim)
    have hgt : (2000 : Int) < cdB zs := by omega
    clear hc0
    obtain ⟨n, A, c, rfl, hr, HL, _, hnc, HF, hcm⟩ := h.split2
    obtain ⟨W0, HE⟩ : ∃ W, W = w.alloc (.cells #[.slice A n c] 28) := ⟨_, rfl⟩
    have hb0 : Below w.heap.size w W0 := by rw [HE]; exact below_box _ _
    have hq0 : BoxI W0 w.heap.size (.slice A n c) := by rw [HE]; exact BoxI.new _ _ _
    have H0 := Lib.hid ((h.below hb0).more hb0.size)
    have HEQ := Lib.hid HE
    clear h hr HE HF hn hw hp
    go_enter Try.func30, Try.ntmps30
    go_wp2_with fail
    rw [← HEQ.out]
    refine (l03Is_if _ zs _ true H0.out HN0.out HWW.out HP.out).mono ?_
    rintro e w1 ⟨rfl, hb1⟩
    have cb1 : w1.cell? ⟨w.heap.size, 0, none⟩ = some (.slice A n c) := by rw [hb1.cell (p := ⟨w.heap.size, 0, none⟩) hq0.2]; exact hq0.1
    have H1 := Lib.hid ((H0.out.below hb1).more hb1.size)
    have B1 := Lib.hid (hb0.trans (hb1.mono hb0.size))
    have hw1 : w.heap.size < w1.heap.size := by have := hq0.2; have := hb1.size; omega
    clear hb1 hb0 HEQ hq0
    go_wp2_with fail
    refine (l05Conductor_any _ zs w1 H1.out HN0.out HP.out).mono ?_
    rintro e w1' ⟨rfl, hb1'⟩
    have B2 := Lib.hid (B1.out.trans (hb1'.mono B1.out.size))
    clear hb1' cb1 hlim
    generalize cdB zs = cc at *
    go_wp2_with fail
    go_ret2
    exact AnsIC.empty (by rw [E.out.1]) (by rw [E.out.2]) B2.out

set_option maxRecDepth 100000 in
set_option maxHeartbeats 2000000 in
theorem implSemigroupPolynomial_any (v : Value) (zs : List Int) (w : World) (h : ReadI w w.heap.size v zs) (hn : zs.length ≤ 1048576) (hw : ∀ z ∈ zs, (Lit.int .i64 z).wf = true) :
    Calls Try.prog 31 #[.agg #[v]] w (AnsIC w (spA zs) (spC zs)) := by
  have HWW := Lib.hid hw
  have HN0 := Lib.hid hn
  rcases bool_fs (brB zs) with hp | hp
  · have E := Lib.hid (sp_no hp)
    have HP := Lib.hid hp
    obtain ⟨n, A, c, rfl, hr, HL, _, hnc, HF, hcm⟩ := h.split2
    obtain ⟨W0, HE⟩ : ∃ W, W = w.alloc (.cells #[.slice A n c] 28) := ⟨_, rfl⟩
    have hb0 : Below w.heap.size w W0 := by rw [HE]; exact below_box _ _
    have hq0 : BoxI W0 w.heap.size (.slice A n c) := by rw [HE]; exact BoxI.new _ _ _
    have H0 := Lib.hid ((h.below hb0).more hb0.size)
    have HEQ := Lib.hid HE
    clear h hr HE HF hn hw hp
    go_enter Try.func31, Try.ntmps31
    go_wp2_with fail
    rw [← HEQ.out]
    refine (implIsBranch_if _ zs _ false H0.out HN0.out HWW.out HP.out).mono ?_
    rintro e w1 ⟨rfl, hb1⟩
    go_wp2_with fail
    go_ret2
    exact AnsIC.empty (by rw [E.out.1]) (by rw [E.out.2]) (hb0.trans (hb1.mono hb0.size))
  have HP := Lib.hid hp
  have hc0 := cdB_nonneg hp
  by_cases hlim : cdB zs ≤ 2000
  · obtain ⟨m, hm⟩ : ∃ m : Nat, cdB zs = (m : Int) := ⟨(cdB zs).toNat, by omega⟩
    have E := Lib.hid (sp_yes hp hlim hm)
    have HMC := Lib.hid hm
    rw [hm] at hlim hc0
    clear hm
    obtain ⟨n, A, c, rfl, hr, HL, _, hnc, HF, hcm⟩ := h.split2
    obtain ⟨W0, HE⟩ : ∃ W, W = w.alloc (.cells #[.slice A n c] 28) := ⟨_, rfl⟩
    have hb0 : Below w.heap.size w W0 := by rw [HE]; exact below_box _ _
    have hq0 : BoxI W0 w.heap.size (.slice A n c) := by rw [HE]; exact BoxI.new _ _ _
    have H0 := Lib.hid ((h.below hb0).more hb0.size)
    have HEQ := Lib.hid HE
    clear h hr HE HF hn hw hp
    go_enter Try.func31, Try.ntmps31
    go_wp2_with fail
    rw [← HEQ.out]
    refine (implIsBranch_if _ zs _ true H0.out HN0.out HWW.out HP.out).mono ?_
    rintro e w1 ⟨rfl, hb1⟩
    have cb1 : w1.cell? ⟨w.heap.size, 0, none⟩ = some (.slice A n c) := by rw [hb1.cell (p := ⟨w.heap.size, 0, none⟩) hq0.2]; exact hq0.1
    have H1 := Lib.hid ((H0.out.below hb1).more hb1.size)
    have B1 := Lib.hid (hb0.trans (hb1.mono hb0.size))
    have hw1 : w.heap.size < w1.heap.size := by have := hq0.2; have := hb1.size; omega
    clear hb1 hb0 HEQ hq0
    go_wp2_with fail
    refine (conductor_any _ zs w1 H1.out HN0.out HP.out).mono ?_
    rintro e w1' ⟨rfl, hb1'⟩
    rw [HMC.out]
    have cb2 := (hb1'.cell (p := ⟨w.heap.size, 0, none⟩) hw1).trans cb1
    have H2 := Lib.hid ((H1.out.below hb1').more hb1'.size)
    have B2 := Lib.hid (B1.out.trans (hb1'.mono B1.out.size))
    have hw11 : w1.heap.size ≤ w1'.heap.size := hb1'.size
    clear hb1' cb1
    have pm : IntKind.i64.wrap ((m : Int) + 1) = (m : Int) + 1 := IntWalk.i64_in _ (by omega)
    have hmk := fun (W : World) => run_make_row' (P := Try.prog) 22 2 (.int .i64 0) 8 Try.underlying22 int_info rfl .i64 .i64 (m + 1) (by omega) (by omega) W
    simp only [Int.natCast_add, Int.cast_ofNat_Int] at hmk
    obtain ⟨W2, HW2⟩ : ∃ W, W = w1'.alloc (.cells (madeCells #[.int .i64 0] (m + 1)) 2) := ⟨_, rfl⟩
    have hb2 : Below w1'.heap.size w1' W2 := by rw [HW2]; exact below_box2 _ _
    have hs2 : W2.heap.size = w1'.heap.size + 1 := by rw [HW2]; simp
    have hrow2 : W2.rowIs w1'.heap.size 2 (m + 1) (fun _ => .int .i64 0) := by rw [HW2]; exact World.rowIs_made _ _ _ _
    have H3 := Lib.hid ((H2.out.below hb2).more hb2.size)
    have hw2 : w.heap.size < w1'.heap.size := by omega
    have cb3 := (hb2.cell (p := ⟨w.heap.size, 0, none⟩) hw2).trans cb2
    have HE2 := Lib.hid HW2
    have B3 := Lib.hid (B2.out.trans (hb2.mono B2.out.size))
    clear hb2 HW2
    go_wp2_with fail
    clear hmk
    rw [← HE2.out]
    refine (valueTest_any _ zs W2 H3.out HN0.out HP.out).mono ?_
    rintro e w3 ⟨p3, p4, rfl, hvt, hb3⟩
    obtain ⟨gp, hgp⟩ : ∃ gp, w1'.heap.size = gp := ⟨_, rfl⟩
    rw [hgp] at hrow2 hs2 ⊢
    have HROW0 : Hid (w3.rowIs gp 2 (m + 1) (fun y => if y < 0 then .int .i64 (spB zs y) else .int .i64 0)) := Lib.hid ((hrow2.of_block (hb3.block _ (by omega))).congr (fun y hy => by rw [if_neg (by omega)]))
    have HVT := Lib.hid hvt
    have B4 := Lib.hid (B3.out.trans (hb3.mono B3.out.size))
    have hs3 := hb3.size
    obtain ⟨lo, hlo⟩ : ∃ lo, W2.heap.size = lo := ⟨_, rfl⟩
    obtain ⟨hi, hhi⟩ : ∃ hi, w3.heap.size = hi := ⟨_, rfl⟩
    rw [hlo, hhi] at HVT
    clear hb3 hvt hrow2 HE2
    have HK0 : Hid (Kept lo hi w3 w3) := Lib.hid (Kept.refl _ _ _)
    go_wp2_with fail
    go_loopw [7, 24] (fun vb vk wr => ∃ (k : Nat) (bf : Bool), k ≤ m + 1 ∧ vk = .int .i64 (k : Int) ∧ vb = .bool bf ∧ ((k = 0 ∧ bf = false) ∨ (1 ≤ k ∧ Hid (reB zs ((k : Int) - 1) = bf))) ∧ Hid (wr.rowIs gp 2 (m + 1) (fun y => if y < k then .int .i64 (spB zs y) else .int .i64 0)) ∧ Hid (Below w.heap.size w wr) ∧ Hid (Kept lo hi w3 wr) ∧ hi ≤ wr.heap.size) (fun _ vk _ => m + 1 - (intOf vk).toNat)
    case atStart => exact ⟨0, false, Nat.zero_le _, rfl, rfl, .inl ⟨rfl, rfl⟩, HROW0, B4, HK0, by omega⟩
    case round =>
      clear HROW0 HK0
      obtain ⟨k, bf, hk, rfl, rfl, hbk, hrow, hb, hkp, hszr⟩ := hrel
      by_cases hlt : k < m + 1
      · have hki : (k : Int) < (m : Int) + 1 := by omega
        have HV1 := Lib.hid (HVT.out.kept hkp.out)
        have HSP : Hid (spB zs k = (if reB zs (k : Int) then 1 else 0) - (if bf then 1 else 0)) := Lib.hid (by
          rcases hbk with ⟨rfl, rfl⟩ | ⟨h1, h2⟩
          · show (if reB zs 0 then (1 : Int) else 0) = (if reB zs 0 then 1 else 0) - 0
            omega
          · obtain ⟨i, rfl⟩ : ∃ i, k = i + 1 := ⟨k - 1, by omega⟩
            rw [← h2.out, show (((i + 1 : Nat) : Int) - 1) = (i : Int) by omega]; rfl)
        clear hbk
        go_wp2_with fail
        refine (test1_any zs (k : Int) lo hi p3 p4 wr HP.out HV1.out (by omega)).mono ?_
        rintro e w' ⟨rfl, nd, rfl⟩
        replace hrow : Hid ((wr.drewN nd).rowIs gp 2 (m + 1) (fun y => if y < k then .int .i64 (spB zs y) else .int .i64 0)) := Lib.hid hrow.out
        replace hb : Hid (Below w.heap.size w (wr.drewN nd)) := Lib.hid (below_drewN hb.out nd)
        replace hkp : Hid (Kept lo hi w3 (wr.drewN nd)) := Lib.hid (hkp.out.trans (Kept.drewN _ _ _ _))
        have hszr2 : hi ≤ (wr.drewN nd).heap.size := hszr
        clear hszr
        rename hi ≤ (wr.drewN nd).heap.size => hszr
        generalize wr.drewN nd = wr at *
        have hdst := hrow.out.cell hlt
        rw [if_neg (Nat.lt_irrefl _)] at hdst
        have hfz := hrow.out.frozen k
        have hgl1 := hrow.out.lt
        rcases bool_fs (reB zs (k : Int)) with hre | hre
        · cases hbf : bf
          · have HSB : Hid (spB zs k = 0) := Lib.hid (by rw [HSP.out, hre, hbf]; rfl)
            have HR2 := Lib.hid (hrow.out.congr (g := fun y => if y < k + 1 then .int .i64 (spB zs y) else .int .i64 0) (fun y hy => by
              by_cases h9 : y = k
              · subst h9; rw [if_neg (by omega), if_pos (by omega), HSB.out]
              · by_cases h8 : y < k
                · rw [if_pos h8, if_pos (by omega)]
                · rw [if_neg h8, if_neg (by omega)]))
            rw [hre]
            have HNX : Hid (reB zs ((k + 1 : Nat) - 1 : Int) = false) := Lib.hid (by rw [show ((k + 1 : Nat) - 1 : Int) = (k : Int) by omega]; exact hre)
            clear hre hbf
            go_wp2_with fail
            go_roundw
            case rel => exact ⟨k + 1, _, by omega, by go_num, rfl, .inr ⟨by omega, HNX⟩, HR2, hb, hkp, hszr⟩
            case measure => first | (simp [intOf]; done) | (simp [intOf]; omega)
          · have HSB : Hid (spB zs k = -1) := Lib.hid (by rw [HSP.out, hre, hbf]; rfl)
            have HR2 := Lib.hid ((hrow.out.set k (.int .i64 (-1))).congr (g := fun y => if y < k + 1 then .int .i64 (spB zs y) else .int .i64 0) (fun y hy => by
              by_cases h9 : y = k
              · subst h9; rw [if_pos rfl, if_pos (by omega), HSB.out]
              · rw [if_neg h9]
                by_cases h8 : y < k
                · rw [if_pos h8, if_pos (by omega)]
                · rw [if_neg h8, if_neg (by omega)]))
            rw [hre]
            have HNX : Hid (reB zs ((k + 1 : Nat) - 1 : Int) = false) := Lib.hid (by rw [show ((k + 1 : Nat) - 1 : Int) = (k : Int) by omega]; exact hre)
            clear hre hbf
            go_wp2_with fail
            go_roundw
            case rel => exact ⟨k + 1, _, by omega, by go_num, rfl, .inr ⟨by omega, HNX⟩, HR2, (Lib.hid (hb.out.setCell (p := ⟨gp, k, none⟩) (by show w.heap.size ≤ gp; omega) (.int .i64 (-1)))), (Lib.hid (hkp.out.trans (keptS2 _ (p := ⟨gp, k, none⟩) (show ¬ (lo ≤ gp ∧ gp < hi) by omega) (.int .i64 (-1))))), (by simpa [World.setCell] using hszr)⟩
            case measure => first | (simp [intOf]; done) | (simp [intOf]; omega)
        · cases hbf : bf
          · have HSB : Hid (spB zs k = 1) := Lib.hid (by rw [HSP.out, hre, hbf]; rfl)
            have HR2 := Lib.hid ((hrow.out.set k (.int .i64 (1))).congr (g := fun y => if y < k + 1 then .int .i64 (spB zs y) else .int .i64 0) (fun y hy => by
              by_cases h9 : y = k
              · subst h9; rw [if_pos rfl, if_pos (by omega), HSB.out]
              · rw [if_neg h9]
                by_cases h8 : y < k
                · rw [if_pos h8, if_pos (by omega)]
                · rw [if_neg h8, if_neg (by omega)]))
            rw [hre]
            have HNX : Hid (reB zs ((k + 1 : Nat) - 1 : Int) = true) := Lib.hid (by rw [show ((k + 1 : Nat) - 1 : Int) = (k : Int) by omega]; exact hre)
            clear hre hbf
            go_wp2_with fail
            go_roundw
            case rel => exact ⟨k + 1, _, by omega, by go_num, rfl, .inr ⟨by omega, HNX⟩, HR2, (Lib.hid (hb.out.setCell (p := ⟨gp, k, none⟩) (by show w.heap.size ≤ gp; omega) (.int .i64 (1)))), (Lib.hid (hkp.out.trans (keptS2 _ (p := ⟨gp, k, none⟩) (show ¬ (lo ≤ gp ∧ gp < hi) by omega) (.int .i64 (1))))), (by simpa [World.setCell] using hszr)⟩
            case measure => first | (simp [intOf]; done) | (simp [intOf]; omega)
          · have HSB : Hid (spB zs k = 0) := Lib.hid (by rw [HSP.out, hre, hbf]; rfl)
            have HR2 := Lib.hid (hrow.out.congr (g := fun y => if y < k + 1 then .int .i64 (spB zs y) else .int .i64 0) (fun y hy => by
              by_cases h9 : y = k
              · subst h9; rw [if_neg (by omega), if_pos (by omega), HSB.out]
              · by_cases h8 : y < k
                · rw [if_pos h8, if_pos (by omega)]
                · rw [if_neg h8, if_neg (by omega)]))
            rw [hre]
            have HNX : Hid (reB zs ((k + 1 : Nat) - 1 : Int) = true) := Lib.hid (by rw [show ((k + 1 : Nat) - 1 : Int) = (k : Int) by omega]; exact hre)
            clear hre hbf
            go_wp2_with fail
            go_roundw
            case rel => exact ⟨k + 1, _, by omega, by go_num, rfl, .inr ⟨by omega, HNX⟩, HR2, hb, hkp, hszr⟩
            case measure => first | (simp [intOf]; done) | (simp [intOf]; omega)
      · obtain rfl : k = m + 1 := by omega
        have hki : ¬ (((m + 1 : Nat) : Nat) : Int) < (m : Int) + 1 := by omega
        have HRO := Lib.hid (row_ownB (zs := spL zs (m + 1)) (hrow.out.congr (fun y hy => by rw [if_pos hy, if_pos hy, spL_at hy])) (by rw [spL_len]) (show w.heap.size ≤ gp by omega) (by omega))
        clear hbk
        go_wp2_with fail
        go_ret2
        exact AnsIC.mk' (by rw [E.out.1]) (by rw [E.out.2]) HRO.out hb.out

  · have E := Lib.hid (sp_out hp hlim)
    have hgt : (2000 : Int) < cdB zs := by omega
    clear hc0
    obtain ⟨n, A, c, rfl, hr, HL, _, hnc, HF, hcm⟩ := h.split2
    obtain ⟨W0, HE⟩ : ∃ W, W = w.alloc (.cells #[.slice A n c] 28) := ⟨_, rfl⟩
    have hb0 : Below w.heap.size w W0 := by rw [HE]; exact below_box _ _
    have hq0 : BoxI W0 w.heap.size (.slice A n c) := by rw [HE]; exact BoxI.new _ _ _
    have H0 := Lib.hid ((h.below hb0).more hb0.size)
    have HEQ := Lib.hid HE
    clear h hr HE HF hn hw hp
    go_enter Try.func31, Try.ntmps31
    go_wp2_with fail
    rw [← HEQ.out]
    refine (implIsBranch_if _ zs _ true H0.out HN0.out HWW.out HP.out).mono ?_
    rintro e w1 ⟨rfl, hb1⟩
    have cb1 : w1.cell? ⟨w.heap.size, 0, none⟩ = some (.slice A n c) := by rw [hb1.cell (p := ⟨w.heap.size, 0, none⟩) hq0.2]; exact hq0.1
    have H1 := Lib.hid ((H0.out.below hb1).more hb1.size)
    have B1 := Lib.hid (hb0.trans (hb1.mono hb0.size))
    have hw1 : w.heap.size < w1.heap.size := by have := hq0.2; have := hb1.size; omega
    clear hb1 hb0 HEQ hq0
    go_wp2_with fail
    refine (conductor_any _ zs w1 H1.out HN0.out HP.out).mono ?_
    rintro e w1' ⟨rfl, hb1'⟩
    have B2 := Lib.hid (B1.out.trans (hb1'.mono B1.out.size))
    clear hb1' cb1 hlim
    generalize cdB zs = cc at *
    go_wp2_with fail
    go_ret2
    exact AnsIC.empty (by rw [E.out.1]) (by rw [E.out.2]) B2.out
end Go.Proofs.Ytncgkoanckefmaa
