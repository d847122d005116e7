/- The model's reading of a branch from a longer list: contract of spec.l04Branch. Conditions: stated at the theorem. -/
import Derived.Test.YtoebbhicffgdgaaZI
namespace Go.Proofs.Ytoebbhicffgdgaa
open Go.ChangeShapes Go.WideShapes Go.ChangeAt Go.RowKit Go.Deep
set_option linter.unusedVariables false
set_option linter.unusedSimpArgs false

theorem bs_dscW {L : List Int} (h1 : 1 ≤ L.length) (h3 : ∀ x ∈ L, 1 ≤ x ∧ x ≤ 64) (hb : bsB L = true) : dsc (L[0]?.getD 0) L := by
  unfold bsB at hb
  split at hb
  · cases hb
  · rename_i p hp
    simp only [Bool.and_eq_true, decide_eq_true_eq] at hb
    have h0 : (1 : Int) ≤ L[0]?.getD 0 := by
      have := (h3 L[0] (List.getElem_mem (by omega))).1
      simpa [show 0 < L.length by omega] using this
    exact rd_dsc 65 _ 0 L h0 (fun x hx => (h3 x hx).1) p.1 p.2 hp hb.2

set_option maxRecDepth 100000 in
set_option maxHeartbeats 3000000 in
theorem l04BranchW_any (v : Value) (zs : List Int) (w : World) (h : ReadI w w.heap.size v zs) (hs : (1 ≤ zs.length ∧ zs.length ≤ 1000) ∧ ∀ x ∈ zs, 1 ≤ x ∧ x ≤ 64) :
    Calls Try.prog 82 #[v] w (BrAns w (bsL zs) (bsB zs)) := by
  have HS := Lib.hid hs
  obtain ⟨⟨hn1, hn2⟩, hz⟩ := HS.out
  obtain ⟨n, A, c, rfl, hr, HL, _, hnc, HF, hcm⟩ := h.split2
  rw [HL.out] at hn1 hn2
  obtain ⟨a, rfl, hlt, hc0⟩ := hr.2 0 hn1
  obtain ⟨g, o, rfl⟩ := HF.out a rfl
  have hgw : g < w.heap.size := hlt
  obtain ⟨W0, HE⟩ : ∃ W, W = w.alloc (.cells #[.slice none 0 0] 26) := ⟨_, rfl⟩
  have hS0 : Start1 w W0 := by rw [HE]; exact Start1.new _
  have hb0 := hS0.below
  have HC : Hid (∀ k, k < n → W0.cell? ⟨g, o + k, none⟩ = some (.int .i64 (zs[k]?.getD 0))) := Lib.hid fun k hk => by
    obtain ⟨a', e1, _, h3⟩ := hr.2 k hk
    cases e1
    rw [add_lit] at h3
    rw [hb0.cell (p := ⟨g, o + k, none⟩) hgw, h3]; rfl
  have HRD := Lib.hid ((h.below hb0).more hb0.size)
  have S0 := Lib.hid hS0
  have HEQ := Lib.hid HE
  have HZ := Lib.hid hz
  have hsS := hS0.size
  have hgW0 : g < W0.heap.size := by omega
  have hz0 : (1 : Int) ≤ zs[0]?.getD 0 ∧ zs[0]?.getD 0 ≤ 64 := by
    have h9 : 0 < zs.length := by rw [HL.out]; omega
    have := hz zs[0] (List.getElem_mem h9); simpa [h9] using this
  clear h hr hlt hz hs hc0 hS0 hb0 HE
  go_enter Try.func82, Try.ntmps82
  go_wp2_with fail
  rw [← HEQ.out]
  go_loopw [4] (fun vi wr => ∃ i : Nat, (1 ≤ i ∧ i ≤ n) ∧ vi = .int .i64 i ∧ Hid (∀ j : Nat, j + 1 < i → zs[j + 1]?.getD (0 : Int) ≤ zs[j]?.getD (0 : Int)) ∧ Hid (Below W0.heap.size W0 wr)) (fun vi _ => n - (intOf vi).toNat)
  case atStart => exact ⟨1, by omega, rfl, Lib.hid (fun j hj => by omega), Lib.hid (Below.refl _ _)⟩
  case round =>
    obtain ⟨i, hi, rfl, hdsc, hb⟩ := hrel
    have hsz := hb.out.size
    by_cases hin : i < n
    · have hini : (i : Int) < (n : Int) := by omega
      have ca := (hb.out.cell (p := ⟨g, o + i, none⟩) hgW0).trans (HC.out i hin)
      have cb := (hb.out.cell (p := ⟨g, o + (i - 1), none⟩) hgW0).trans (HC.out (i - 1) (by omega))
      obtain ⟨a, ha⟩ : ∃ a, zs[i]?.getD 0 = a := ⟨_, rfl⟩
      obtain ⟨b, hb'⟩ : ∃ a, zs[i - 1]?.getD 0 = a := ⟨_, rfl⟩
      rw [ha] at ca
      rw [hb'] at cb
      have HA := Lib.hid ha
      have HBv := Lib.hid hb'
      have q0 : (0 : Int) ≤ (i : Int) - 1 := by omega
      have q1 : ((i : Int) - 1).toNat = i - 1 := by omega
      have q2 : (i : Int) - 1 < (n : Int) := by omega
      have q3 : (1 : Int) ≤ (i : Int) := by omega
      have q4 : i - 1 < n := by omega
      have p1 : IntKind.i64.wrap ((i : Int) - 1) = (i : Int) - 1 := IntWalk.i64_in _ (by omega)
      clear ha hb'
      by_cases hab : b < a
      · go_wp2_with fail
        refine wp_region_held_drew (S := fun w' => w'.cell? ⟨g, o + i, none⟩ = some (.int .i64 a) ∧ w'.cell? ⟨g, o + (i - 1), none⟩ = some (.int .i64 b)) (by kernel_rfl) ⟨ca, cb⟩ (fun hHeld => ?_)
        refine takeY 0 _ (v := ?_) rfl rfl (by kernel_rfl) (by kernel_rfl) (by kernel_rfl) (fun _ _ _ h => h) (by kernel_rfl) ?_ (by assumption) ?_
        rotate_left 1
        · intro w hSw; (try dsimp only at hSw); go_simp; (try with_reducible rfl)
        try simp only [Act.put, List.setIfInBounds_toArray, List.set_cons_zero, List.set_cons_succ]
        refine takeY 1 _ (v := ?_) rfl rfl (by kernel_rfl) (by kernel_rfl) (by kernel_rfl) (fun _ _ _ h => h) (by kernel_rfl) ?_ (by assumption) ?_
        rotate_left 1
        · intro w hSw; (try dsimp only at hSw); go_simp; (try with_reducible rfl)
        try simp only [Act.put, List.setIfInBounds_toArray, List.set_cons_zero, List.set_cons_succ]
        refine takeY 2 _ (v := ?_) rfl rfl (by kernel_rfl) (by kernel_rfl) (by kernel_rfl) (fun _ _ _ h => h) (by kernel_rfl) ?_ (by assumption) ?_
        rotate_left 1
        · intro w hSw; (try dsimp only at hSw); go_simp; (try with_reducible rfl)
        try simp only [Act.put, List.setIfInBounds_toArray, List.set_cons_zero, List.set_cons_succ]
        refine takeY 3 _ (v := ?_) rfl rfl (by kernel_rfl) (by kernel_rfl) (by kernel_rfl) (fun _ _ _ h => h) (by kernel_rfl) ?_ (by assumption) ?_
        rotate_left 1
        · intro w hSw; (try dsimp only at hSw); go_simp; (try with_reducible rfl)
        try simp only [Act.put, List.setIfInBounds_toArray, List.set_cons_zero, List.set_cons_succ]
        refine takeY 4 _ (v := ?_) rfl rfl (by kernel_rfl) (by kernel_rfl) (by kernel_rfl) (fun _ _ _ h => h) (by kernel_rfl) ?_ (by assumption) ?_
        rotate_left 1
        · intro w hSw; (try dsimp only at hSw); go_simp; (try with_reducible rfl)
        try simp only [Act.put, List.setIfInBounds_toArray, List.set_cons_zero, List.set_cons_succ]
        refine takeY 5 _ (v := ?_) rfl rfl (by kernel_rfl) (by kernel_rfl) (by kernel_rfl) (fun _ _ _ h => h) (by kernel_rfl) ?_ (by assumption) ?_
        rotate_left 1
        · intro w hSw; (try dsimp only at hSw); go_simp; (try with_reducible rfl)
        try simp only [Act.put, List.setIfInBounds_toArray, List.set_cons_zero, List.set_cons_succ]
        refine takeY 6 _ (v := ?_) rfl rfl (by kernel_rfl) (by kernel_rfl) (by kernel_rfl) (fun _ _ _ h => h) (by kernel_rfl) ?_ (by assumption) ?_
        rotate_left 1
        · intro w hSw; (try dsimp only at hSw); go_simp; (try with_reducible rfl)
        try simp only [Act.put, List.setIfInBounds_toArray, List.set_cons_zero, List.set_cons_succ]
        refine takeY 7 _ (v := ?_) rfl rfl (by kernel_rfl) (by kernel_rfl) (by kernel_rfl) (fun _ _ _ h => h) (by kernel_rfl) ?_ (by assumption) ?_
        rotate_left 1
        · intro w hSw; (try dsimp only at hSw); go_simp; (try with_reducible rfl)
        try simp only [Act.put, List.setIfInBounds_toArray, List.set_cons_zero, List.set_cons_succ]
        refine takeY 8 _ (v := ?_) rfl rfl (by kernel_rfl) (by kernel_rfl) (by kernel_rfl) (fun _ _ _ h => h) (by kernel_rfl) ?_ (by assumption) ?_
        rotate_left 1
        · intro w hSw; (try dsimp only at hSw); go_simp; (try with_reducible rfl)
        try simp only [Act.put, List.setIfInBounds_toArray, List.set_cons_zero, List.set_cons_succ]
        refine takeY 9 _ (v := ?_) rfl rfl (by kernel_rfl) (by kernel_rfl) (by kernel_rfl) (fun _ _ _ h => h) (by kernel_rfl) ?_ (by assumption) ?_
        rotate_left 1
        · intro w hSw; (try dsimp only at hSw); go_simp; (try with_reducible rfl)
        try simp only [Act.put, List.setIfInBounds_toArray, List.set_cons_zero, List.set_cons_succ]
        refine wpAnyH_done (by kernel_rfl) ?_ _
        obtain ⟨l2, l3, l4⟩ := S0.out.later (hb.out)
        have HBF : Hid (bsB zs = false) := Lib.hid (by
          cases hbb : bsB zs
          · rfl
          · have h5 := dsc_at (i := i - 1) (bs_dscW HS.out.1.1 HS.out.2 hbb) (by rw [HL.out]; omega)
            rw [show i - 1 + 1 = i by omega, HA.out, HBv.out] at h5
            omega)
        have HBW := Lib.hid (S0.out.below.trans ((Below.drew hb.out).mono (by omega)))
        go_wp2_with fail
        have cr : (World.setCell wr ⟨w.heap.size, 0, none⟩ (.slice none 0 0)).cell? ⟨w.heap.size, 0, none⟩ = some (.slice none 0 0) := by go_simp
        refine bodyPost_ret (v := .tuple #[.agg #[.slice none 0 0], .bool false]) (by simp [results, Try.results82, go_sem, cr]) rfl ?_
        exact ansB_end _ (Nat.le_refl _) (bsL_no HBF.out) HBF.out.symm (OwnI.nil _ _) (by intro h; cases h) HBW.out _
      · have HD2 : Hid (∀ j : Nat, j + 1 < i + 1 → zs[j + 1]?.getD (0 : Int) ≤ zs[j]?.getD (0 : Int)) := Lib.hid (fun j hj => by
          by_cases h5 : j + 1 < i
          · exact hdsc.out j h5
          · obtain rfl : i = j + 1 := by omega
            have h6 := HA.out
            have h7 := HBv.out
            rw [Nat.add_sub_cancel] at h7
            rw [h6, h7]; omega)
        go_wp2_with fail
        refine wp_region_held_drew (S := fun w' => w'.cell? ⟨g, o + i, none⟩ = some (.int .i64 a) ∧ w'.cell? ⟨g, o + (i - 1), none⟩ = some (.int .i64 b)) (by kernel_rfl) ⟨ca, cb⟩ (fun hHeld => ?_)
        refine takeY 0 _ (v := ?_) rfl rfl (by kernel_rfl) (by kernel_rfl) (by kernel_rfl) (fun _ _ _ h => h) (by kernel_rfl) ?_ (by assumption) ?_
        rotate_left 1
        · intro w hSw; (try dsimp only at hSw); go_simp; (try with_reducible rfl)
        try simp only [Act.put, List.setIfInBounds_toArray, List.set_cons_zero, List.set_cons_succ]
        refine takeY 1 _ (v := ?_) rfl rfl (by kernel_rfl) (by kernel_rfl) (by kernel_rfl) (fun _ _ _ h => h) (by kernel_rfl) ?_ (by assumption) ?_
        rotate_left 1
        · intro w hSw; (try dsimp only at hSw); go_simp; (try with_reducible rfl)
        try simp only [Act.put, List.setIfInBounds_toArray, List.set_cons_zero, List.set_cons_succ]
        refine takeY 2 _ (v := ?_) rfl rfl (by kernel_rfl) (by kernel_rfl) (by kernel_rfl) (fun _ _ _ h => h) (by kernel_rfl) ?_ (by assumption) ?_
        rotate_left 1
        · intro w hSw; (try dsimp only at hSw); go_simp; (try with_reducible rfl)
        try simp only [Act.put, List.setIfInBounds_toArray, List.set_cons_zero, List.set_cons_succ]
        refine takeY 3 _ (v := ?_) rfl rfl (by kernel_rfl) (by kernel_rfl) (by kernel_rfl) (fun _ _ _ h => h) (by kernel_rfl) ?_ (by assumption) ?_
        rotate_left 1
        · intro w hSw; (try dsimp only at hSw); go_simp; (try with_reducible rfl)
        try simp only [Act.put, List.setIfInBounds_toArray, List.set_cons_zero, List.set_cons_succ]
        refine takeY 4 _ (v := ?_) rfl rfl (by kernel_rfl) (by kernel_rfl) (by kernel_rfl) (fun _ _ _ h => h) (by kernel_rfl) ?_ (by assumption) ?_
        rotate_left 1
        · intro w hSw; (try dsimp only at hSw); go_simp; (try with_reducible rfl)
        try simp only [Act.put, List.setIfInBounds_toArray, List.set_cons_zero, List.set_cons_succ]
        refine takeY 5 _ (v := ?_) rfl rfl (by kernel_rfl) (by kernel_rfl) (by kernel_rfl) (fun _ _ _ h => h) (by kernel_rfl) ?_ (by assumption) ?_
        rotate_left 1
        · intro w hSw; (try dsimp only at hSw); go_simp; (try with_reducible rfl)
        try simp only [Act.put, List.setIfInBounds_toArray, List.set_cons_zero, List.set_cons_succ]
        refine takeY 6 _ (v := ?_) rfl rfl (by kernel_rfl) (by kernel_rfl) (by kernel_rfl) (fun _ _ _ h => h) (by kernel_rfl) ?_ (by assumption) ?_
        rotate_left 1
        · intro w hSw; (try dsimp only at hSw); go_simp; (try with_reducible rfl)
        try simp only [Act.put, List.setIfInBounds_toArray, List.set_cons_zero, List.set_cons_succ]
        refine takeY 7 _ (v := ?_) rfl rfl (by kernel_rfl) (by kernel_rfl) (by kernel_rfl) (fun _ _ _ h => h) (by kernel_rfl) ?_ (by assumption) ?_
        rotate_left 1
        · intro w hSw; (try dsimp only at hSw); go_simp; (try with_reducible rfl)
        try simp only [Act.put, List.setIfInBounds_toArray, List.set_cons_zero, List.set_cons_succ]
        refine takeY 8 _ (v := ?_) rfl rfl (by kernel_rfl) (by kernel_rfl) (by kernel_rfl) (fun _ _ _ h => h) (by kernel_rfl) ?_ (by assumption) ?_
        rotate_left 1
        · intro w hSw; (try dsimp only at hSw); go_simp; (try with_reducible rfl)
        try simp only [Act.put, List.setIfInBounds_toArray, List.set_cons_zero, List.set_cons_succ]
        refine takeY 9 _ (v := ?_) rfl rfl (by kernel_rfl) (by kernel_rfl) (by kernel_rfl) (fun _ _ _ h => h) (by kernel_rfl) ?_ (by assumption) ?_
        rotate_left 1
        · intro w hSw; (try dsimp only at hSw); go_simp; (try with_reducible rfl)
        try simp only [Act.put, List.setIfInBounds_toArray, List.set_cons_zero, List.set_cons_succ]
        refine wpAnyH_done (by kernel_rfl) ?_ _
        go_wp2_with fail
        go_roundw
        case rel => exact ⟨i + 1, by omega, by go_num, HD2, Lib.hid (Below.drew hb.out)⟩
        case measure => first | (simp [intOf]; done) | (simp [intOf]; omega)
    · obtain rfl : n = i := by omega
      have hini : ¬ (n : Int) < (n : Int) := by omega
      have hdd : dsc (zs[0]?.getD 0) zs := dsc_of (fun _ => Int.le_refl _) (fun j hj => hdsc.out j (by rw [HL.out] at hj; exact hj))
      have hwf := wfB_bk hdd (fun x hx => (HZ.out x hx).1)
      have HRW := Lib.hid ((HRD.out.below hb.out).more hb.out.size)
      have cz := (hb.out.cell (p := ⟨g, o + 0, none⟩) hgW0).trans (HC.out 0 hn1)
      rw [Nat.add_zero] at cz
      obtain ⟨z0, hz00⟩ : ∃ z, zs[0]?.getD 0 = z := ⟨_, rfl⟩
      have HZ0 := Lib.hid hz00
      rw [hz00] at cz hz0
      have HBD := Lib.hid (bk_bound zs)
      have HBM : Hid (∀ p ∈ bkL zs, (0 ≤ p.2 ∧ p.2 ≤ 1000) ∧ 1 ≤ p.1 ∧ p.1 ≤ 64) := Lib.hid (fun p hp => by
        have h5 := HBD.out.2 p hp
        rw [HL.out] at h5
        have h6 : p.1 ∈ zs := by
          rw [← flB_bk zs]
          exact List.mem_flatMap.2 ⟨p, hp, List.mem_replicate.2 ⟨by omega, rfl⟩⟩
        exact ⟨by omega, HZ.out _ h6⟩)
      obtain ⟨k0, D0, hbk, hk0⟩ : ∃ k q, bkL zs = (z0, k) :: q ∧ 1 ≤ k := by
        obtain ⟨x, r, hxr⟩ : ∃ x r, zs = x :: r := by
          cases zs with
          | nil => have := HL.out; simp at this; omega
          | cons x r => exact ⟨x, r, rfl⟩
        have h5 : x = z0 := by have := HZ0.out; rw [hxr] at this; simpa using this
        rw [hxr, ← h5]; exact bk_first
      have HBS0 : Hid (bsR zs = rdC [] (rd 65 z0 0 (flB ((z0, k0) :: D0)))) := Lib.hid (by rw [rdC_nil, ← hbk, flB_bk]; show rd 65 (zs[0]?.getD 0) 0 zs = _; rw [HZ0.out])
      have HWF0 : Hid (wfB ((z0, k0) :: D0)) := Lib.hid (by rw [← hbk]; exact hwf)
      have HDR0 : Hid ((bkL zs).drop 0 = (z0, k0) :: D0) := Lib.hid hbk
      have hNB0 : 0 < (bkL zs).length := by rw [hbk]; simp
      have hNB4 : (bkL zs).length ≤ 1000 := by have := HBD.out.1; rw [HL.out] at this; omega
      have hbl : (bkQ zs).length = (bkL zs).length := by rw [bkQ_map, List.length_map]
      clear hdd hwf hz00 hbk hdsc
      go_wp2_with fail
      refine (l04Blocks_any _ zs wr HRW.out (by rw [HL.out]; omega)).mono ?_
      rintro e9 w1 ⟨AQ, cQ, rfl, hoq, hb1⟩
      rw [hbl] at hoq ⊢
      rw [bkQ_map] at hoq
      have cz1 := (hb1.cell (p := ⟨g, o, none⟩) (by show g < _; omega)).trans cz
      have hs1 := hb1.size
      have HB1 := Lib.hid (hb.out.trans (hb1.mono hsz))
      generalize hBs : bkL zs = Bs0 at *
      obtain ⟨NB, hNB⟩ : ∃ NB, Bs0.length = NB := ⟨_, rfl⟩
      have HNB := Lib.hid hNB
      rw [hNB] at hoq hNB0 hNB4 ⊢
      obtain ⟨loQ, hlo⟩ : ∃ lo, wr.heap.size = lo := ⟨_, rfl⟩
      obtain ⟨hiQ, hhi⟩ : ∃ hi, w1.heap.size = hi := ⟨_, rfl⟩
      rw [hlo, hhi] at hoq
      have hloQ : W0.heap.size ≤ loQ := by omega
      have HQ0 := Lib.hid hoq
      have HHI := Lib.hid hhi
      clear hoq hb1 hb cz hNB hbl hlo
      obtain ⟨WA, HWA⟩ : ∃ W, W = w1.alloc (.cells #[.int .i64 z0] 2) := ⟨_, rfl⟩
      have hsA : WA.heap.size = hiQ + 1 := by rw [HWA]; simp [hhi]
      have hBA : Boxed WA hiQ 2 (.int .i64 z0) := by rw [HWA]; exact Boxed.newR _ hhi
      have hbA : Below w1.heap.size w1 WA := by rw [HWA]; exact below_box2 _ _
      have HWA' := Lib.hid HWA
      obtain ⟨WB, HWB⟩ : ∃ W, W = WA.alloc (.cells #[.slice (some ⟨hiQ, 0, none⟩) 1 1] 26) := ⟨_, rfl⟩
      have hsB : WB.heap.size = hiQ + 2 := by rw [HWB]; simp [hsA]
      have hBB : Boxed WB (hiQ + 1) 26 (.slice (some ⟨hiQ, 0, none⟩) 1 1) := by rw [HWB]; exact Boxed.newR _ hsA
      have hbB : Below WA.heap.size WA WB := by rw [HWB]; exact below_box2 _ _
      have HWB' := Lib.hid HWB
      have hbAB : Below w1.heap.size w1 WB := hbA.trans (hbB.mono hbA.size)
      have HOT := Lib.hid ((own_boxedR hBA).kept (Kept.of_below hbB (by omega)))
      have HBX := Lib.hid hBB
      have HQB := Lib.hid (HQ0.out.kept (Kept.of_below hbAB (by omega)))
      have HBL := Lib.hid (HB1.out.trans (hbAB.mono (by omega)))
      have czB := (hbAB.cell (p := ⟨g, o, none⟩) (by show g < _; omega)).trans cz1
      have czC : World.cell? ((w1.alloc (.cells #[.int .i64 z0] 2)).alloc (.cells #[.slice (some ⟨hiQ, 0, none⟩) 1 1] 26)) ⟨g, o, none⟩ = some (.int .i64 z0) := by rw [← HWA, ← HWB]; exact czB
      clear hbA hbB hbAB hBA hBB HWA HWB
      go_wp2_with fail
      rw [← HWA'.out, ← HWB'.out]
      obtain ⟨b0, hb0e⟩ : ∃ b, hiQ + 1 = b := ⟨_, rfl⟩
      rw [hb0e] at HBX ⊢
      have hhiW : hiQ ≤ WB.heap.size := by omega
      have hloW : W0.heap.size ≤ hiQ := by omega
      clear czC czB cz1 hhi HWA' HWB' HRW HBD hhiW
      go_loopw [7, 8, 9] (fun v7 v8 v9 wr => ∃ (Bs D : List (Int × Int)) (T : List Int) (at' j f gt ct : Nat) (t e c : Int), v7 = .int .i64 t ∧ v8 = .int .i64 at' ∧ v9 = .int .i64 e ∧ at' < NB ∧ Hid (Bs.length = NB) ∧ Hid (Bs.drop at' = (e, c) :: D) ∧ Hid (wfB ((e, c) :: D)) ∧ (1 ≤ e ∧ e ≤ 64) ∧ e.toNat < f ∧ (0 ≤ t ∧ t ≤ (64 - e) * 64064) ∧ Hid (∀ p ∈ Bs, (0 ≤ p.2 ∧ p.2 ≤ 1000) ∧ 1 ≤ p.1 ∧ p.1 ≤ 64) ∧ Hid (T.length = j) ∧ Hid (∀ z ∈ T, 0 ≤ z ∧ z ≤ 4100096) ∧ e.toNat * 2 ^ j ≤ 64 ∧ Hid (bsR zs = rdC T (rd f e t (flB ((e, c) :: D)))) ∧ Hid (OwnQ wr loQ hiQ (.slice AQ NB cQ) (Bs.map fun p => [p.1, p.2])) ∧ Hid (OwnI wr gt (gt + 1) (.slice (some ⟨gt, 0, none⟩) (j + 1) ct) (z0 :: T)) ∧ Hid (Boxed wr b0 26 (.slice (some ⟨gt, 0, none⟩) (j + 1) ct)) ∧ (hiQ ≤ gt ∧ gt ≠ b0 ∧ b0 < wr.heap.size ∧ gt < wr.heap.size) ∧ Hid (Below W0.heap.size W0 wr)) (fun _ _ v9 _ => (intOf v9).toNat)
      case atStart => exact ⟨Bs0, D0, [], 0, 0, 65, hiQ, 1, 0, z0, k0, rfl, rfl, rfl, hNB0, HNB, HDR0, HWF0, hz0, by omega, by omega, HBM, Lib.hid rfl, Lib.hid (fun z h => by cases h), by simp; omega, HBS0, HQB, HOT, HBX, by omega, HBL⟩
      case round =>
        clear HDR0 HWF0 HBM HBS0 HQB HOT HBX HBL HQ0 HB1
        obtain ⟨Bs, D, T, at', j, f, gt, ct, t, e, c, rfl, rfl, rfl, hat, hNBs, hdr, hwf, he, hf, ht, hBM, hT, hTB, hpw, hbs, hq, hot, hbx, hgg, hb⟩ := hrel
        have hsz := hb.out.size
        obtain ⟨f, rfl⟩ : ∃ f', f = f' + 1 := ⟨f - 1, by omega⟩
        have hcx := hbx.out.cell
        have hfx := hbx.out.frozen
        by_cases he1 : e ≤ 1
        · have hei : ¬ (1 : Int) < e := by omega
          obtain rfl : e = 1 := by omega
          have hDn : D = [] := by
            cases D with
            | nil => rfl
            | cons p D =>
              have h5 := hwf.out
              have h6 := h5.1
              have h7 := wfB_pos (wfB_tail h5)
              dsimp only at h6
              omega
          subst hDn
          have HSR : Hid (bsR zs = some (T, flB [(1, c)])) := Lib.hid (by rw [hbs.out, rd_end (by omega)]; simp [rdC])
          have HON : Hid (lead 1 (flB [(1, c)]) = (flB [((1 : Int), c)]).length) := Lib.hid (by rw [show (1 : Int) = ((1 : Int), c).1 from rfl, lead_flB hwf.out]; simp [flB])
          have HBB : Hid (bsB zs = brB (z0 :: T)) := Lib.hid (by simp only [bsB, HSR.out, HZ0.out]; rw [decide_eq_true HON.out, Bool.and_true])
          have HBT : Hid (bsT zs = z0 :: T) := Lib.hid (by simp only [bsT, HSR.out, HZ0.out])
          have hlen : (z0 :: T).length = j + 1 := by simp [hT.out]
          have HRT : Hid (ReadI wr wr.heap.size (.slice (some ⟨gt, 0, none⟩) (j + 1) ct) (z0 :: T)) := Lib.hid (hot.out.raise (hi' := wr.heap.size) (by omega) (Nat.le_refl _)).reads
          have HWT : Hid (∀ z ∈ z0 :: T, (Lit.int .i64 z).wf = true) := Lib.hid (fun z hz => by
            rcases List.mem_cons.1 hz with h5 | h5
            · exact WalkArith.wf_i64 (by omega)
            · have := hTB.out z h5; exact WalkArith.wf_i64 (by omega))
          have hj1 : j ≤ 1000 := by
            have h5 := @Nat.lt_two_pow_self j
            have h6 : (1 : Int).toNat = 1 := rfl
            rw [h6] at hpw
            omega
          clear he1 hbs
          go_wp2_with fail
          cases hp : brB (z0 :: T)
          · refine (l03Is_if _ (z0 :: T) wr false HRT.out (by omega) HWT.out hp).mono ?_
            rintro e9 w6 ⟨rfl, hb6⟩
            have HP := Lib.hid hp
            have HB6 := Lib.hid (hb.out.trans (hb6.mono hsz))
            have hs6 := HB6.out.size
            clear hb6 hp
            obtain ⟨l2, l3, l4⟩ := S0.out.later (HB6.out)
            have HBF : Hid (bsB zs = false) := Lib.hid (HBB.out.trans HP.out)
            have HBW := Lib.hid (S0.out.below.trans ((HB6.out).mono (by omega)))
            go_wp2_with fail
            have cr : (World.setCell w6 ⟨w.heap.size, 0, none⟩ (.slice none 0 0)).cell? ⟨w.heap.size, 0, none⟩ = some (.slice none 0 0) := by go_simp
            refine bodyPost_ret (v := .tuple #[.agg #[.slice none 0 0], .bool false]) (by simp [results, Try.results82, go_sem, cr]) rfl ?_
            exact ansB_end _ (Nat.le_refl _) (bsL_no HBF.out) HBF.out.symm (OwnI.nil _ _) (by intro h; cases h) HBW.out _
          · refine (l03Is_if _ (z0 :: T) wr true HRT.out (by omega) HWT.out hp).mono ?_
            rintro e9 w6 ⟨rfl, hb6⟩
            have HP := Lib.hid hp
            have HB6 := Lib.hid (hb.out.trans (hb6.mono hsz))
            have hs6 := HB6.out.size
            have hc6 := (hb6.cell (p := ⟨b0, 0, none⟩) (by show b0 < _; omega)).trans hcx
            have O6 := Lib.hid (hot.out.kept (Kept.of_below hb6 (by omega)))
            obtain ⟨l2, l3, l4⟩ := S0.out.later HB6.out
            have B6 := Lib.hid (S0.out.below.trans (HB6.out.mono (by omega)))
            have hs7 := hb6.size
            clear hb6 hp
            go_wp2_with fail
            have cr : (w6.setCell ⟨w.heap.size, 0, none⟩ (.slice (some ⟨gt, 0, none⟩) (j + 1) ct)).cell? ⟨w.heap.size, 0, none⟩ = some (.slice (some ⟨gt, 0, none⟩) (j + 1) ct) := by go_simp
            refine bodyPost_ret (v := .tuple #[.agg #[.slice (some ⟨gt, 0, none⟩) (j + 1) ct], .bool true]) (by simp [results, Try.results82, go_sem, cr]) rfl ?_
            have hne : (Value.slice (some ⟨gt, 0, none⟩) (j + 1) ct).ownBlock ≠ some w.heap.size := by simp [Value.ownBlock]; omega
            exact ansB_end _ (Nat.le_refl _) (by rw [← bsL_yes (HBB.out.trans HP.out), HBT.out]) (HBB.out.trans HP.out).symm ((own_lessB O6.out (by omega)).raise (by omega) (Nat.le_refl _)) hne B6.out _
        · have hei : (1 : Int) < e := by omega
          cases D with
          | nil =>
            have hl1 : NB = at' + 1 := by
              have h5 := congrArg List.length hdr.out
              rw [List.length_drop, hNBs.out] at h5
              simp at h5; omega
            have HN : Hid (bsR zs = none) := Lib.hid (by
              rw [hbs.out, rd_short he1 (by rw [show lead e (flB [(e, c)]) = c.toNat from lead_flB hwf.out]; simp [flB])]; rfl)
            have hge : (NB : Int) ≤ (at' : Int) + 1 := by omega
            clear he1 hbs
            obtain ⟨l2, l3, l4⟩ := S0.out.later (hb.out)
            have HBF : Hid (bsB zs = false) := Lib.hid (bsB_none HN.out)
            have HBW := Lib.hid (S0.out.below.trans ((hb.out).mono (by omega)))
            go_wp2_with fail
            have cr : (World.setCell wr ⟨w.heap.size, 0, none⟩ (.slice none 0 0)).cell? ⟨w.heap.size, 0, none⟩ = some (.slice none 0 0) := by go_simp
            refine bodyPost_ret (v := .tuple #[.agg #[.slice none 0 0], .bool false]) (by simp [results, Try.results82, go_sem, cr]) rfl ?_
            exact ansB_end _ (Nat.le_refl _) (bsL_no HBF.out) HBF.out.symm (OwnI.nil _ _) (by intro h; cases h) HBW.out _
          | cons p D2 =>
            obtain ⟨x, c1⟩ := p
            obtain ⟨hxe, hcc0, hcc1, hwf2⟩ := hwf.out
            dsimp only at hxe hcc0 hcc1
            have hx1 := (wfB_pos hwf2).1
            dsimp only at hx1
            have hm0 := map_getD hdr.out
            have hdr2 := hm0.2.2.2
            have hm1 := map_getD hdr2
            have hat1 : at' + 1 < NB := by rw [← hNBs.out]; exact hm1.2.1
            have hcB := hBM.out _ hm0.2.2.1
            have hxB := hBM.out _ hm1.2.2.1
            dsimp only at hcB hxB
            have hlenQ : (Bs.map fun p => [p.1, p.2]).length = NB := by rw [List.length_map, hNBs.out]
            have HLQ := Lib.hid hlenQ
            obtain ⟨go, gi, ci, rfl, s1, s2, r1, r2, r3, _⟩ := rows_two hq.out hlenQ hat hm0.1
            obtain ⟨go', gi2, ci2, e1, s3, s4, r4, r5, r6, _⟩ := rows_two hq.out hlenQ hat1 hm1.1
            cases e1
            have hce := mul_range2 (A := 1000) (B := 64) (a := c) (b := e) (by omega) (by omega)
            have HEF := Lib.hid (eat_first hwf.out)
            have HRB : Hid (∀ y ∈ flB ((e, c) :: (x, c1) :: D2), (1 : Int) ≤ y) := Lib.hid (flB_pos hwf.out)
            have HLT : Hid (lead e (flB ((e, c) :: (x, c1) :: D2)) < (flB ((e, c) :: (x, c1) :: D2)).length) := Lib.hid (lead_lt hwf.out)
            obtain ⟨K, hK⟩ : ∃ K, t + c * e + x = K := ⟨_, rfl⟩
            have HKT : Hid (t + (c * e + x) = K) := Lib.hid (by omega)
            have p1 : IntKind.i64.wrap (c * e) = c * e := IntWalk.i64_in _ (by omega)
            have p2 : IntKind.i64.wrap (t + c * e) = t + c * e := IntWalk.i64_in _ (by omega)
            have p3 : IntKind.i64.wrap (t + c * e + x) = K := by rw [hK]; exact IntWalk.i64_in _ (by omega)
            have hKb : 0 ≤ K ∧ K ≤ t + 64064 := by omega
            have hj5 : j ≤ 5 := pow_six (by
              have h5 : 2 * 2 ^ j ≤ e.toNat * 2 ^ j := Nat.mul_le_mul_right _ (by omega)
              omega)
            have p4 : IntKind.i64.wrap ((at' : Int) + 1) = (at' : Int) + 1 := IntWalk.i64_in _ (by omega)
            have q1 : ((at' : Int) + 1).toNat = at' + 1 := by omega
            have q2 : (0 : Int) ≤ (at' : Int) + 1 := by omega
            have q3 : (at' : Int) + 1 < (NB : Int) := by omega
            have q4 : (at' : Int) < (NB : Int) := by omega
            have q5 : ¬ (NB : Int) ≤ (at' : Int) + 1 := by omega
            have q6 : ¬ (8 : Int) < (j : Int) + 1 + 1 := by omega
            have q7 : (0 : Int) ≤ (at' : Int) := by omega
            have HE1 := Lib.hid he1
            have HLZ : Hid ((z0 :: T).length = j + 1) := Lib.hid (by simp [hT.out])
            have HDR2 := Lib.hid hdr2
            have HWF2 := Lib.hid hwf2
            obtain ⟨i0, hi0, hy0, hy1, hy2⟩ := info_parts int_info
            clear he1 hK hm0 hm1 hdr2 hwf2 hlenQ
            go_wp2_with (at_builtin; (refine Go.wpList_append_lies _ rfl _ _ 24 rfl gt 2 i0 (.int .i64 0) 1 8 Try.underlying24 hi0 hy0 hy1 hy2 rfl (by decide) (.slice (some ⟨gt, 0, none⟩) (j + 1) ct) (j + 1) ((z0 :: T).map (.int .i64)) rfl (by (have h3 := hot.out.1; rw [HLZ.out] at h3; exact World.ownsRow.alloc h3 _)) ⟨wr.heap.size, 0, none⟩ 1 1 [.int .i64 K] rfl rfl (World.news_of_block (cs := #[.int .i64 K]) (t := 2) (fr := (0, 0)) (heap_alloc_new wr _)) (by simp [Value.oneCell']) (by decide) (by simp only [maxLen]; omega) (by omega) (by (show gt ≤ (wr.alloc _).heap.size; simp; omega)) _ rfl ?_; intro g3 cap3 w3 hown3 hgrow4 hg3 hlt3; (have hgrow3 : (wr.alloc (.cells #[.int .i64 K] 2)).grownBy w3 (Value.slice (some ⟨gt, 0, none⟩) (j + 1) ct).ownBlock := ⟨hgrow4.os, hgrow4.tape, hgrow4.output, hgrow4.size, hgrow4.block⟩); (have hz2 : (wr.alloc (.cells #[.int .i64 K] 2)).heap.size = wr.heap.size + 1 := by simp); (have hgb3 : Below W0.heap.size (wr.alloc (.cells #[.int .i64 K] 2)) w3 := Below.grown (Below.refl _ _) hgrow3 (by (rw [hz2]; omega)) (fun k hk => by (simp [Value.ownBlock] at hk; omega))); (have HB3 := Lib.hid ((hb.out.alloc (by omega) _).trans hgb3)); (have HT3 : Hid (OwnI w3 g3 (g3 + 1) (.slice (some ⟨g3, 0, none⟩) (j + 1 + 1) cap3) ((z0 :: T) ++ [K])) := Lib.hid (own_tightR (OwnI.mk' (lo := gt) (n := j + 1 + 1) (by (rw [List.map_append]; exact hown3))) hlt3)); (have HQ3 := Lib.hid (hq.out.kept (kept_grownR (kept_boxR wr (.cells #[.int .i64 K] 2) loQ hiQ (by omega)) hgrow3 (by (rw [hz2]; omega)) (fun b hb1 hb2 => (show some b ≠ (Value.slice (some ⟨gt, 0, none⟩) (j + 1) ct).ownBlock by (simp [Value.ownBlock]; omega)))))); (have HX3 := Lib.hid ((hbx.out.alloc (.cells #[.int .i64 K] 2)).kept hgrow3 (show some b0 ≠ (Value.slice (some ⟨gt, 0, none⟩) (j + 1) ct).ownBlock by (simp [Value.ownBlock]; omega)))); (have hg3n : g3 ≠ b0 ∧ hiQ ≤ g3 := by (rcases hg3 with h | h; (simp [Value.ownBlock] at h; omega); (have h9 : g3 = wr.heap.size + 1 := h.trans hz2); omega)); (have x3 := HX3.out.cell); (have f3 := HX3.out.frozen); (have hsz3 : wr.heap.size ≤ w3.heap.size := by (have := hgrow3.size; omega)); clear hown3 hgrow3 hgrow4 hg3 hgb3 hz2))
            have HX4 := Lib.hid (HX3.out.set (.slice (some ⟨g3, 0, none⟩) (j + 1 + 1) cap3))
            have HT4 := Lib.hid (HT3.out.kept (keptR' w3 (p := ⟨b0, 0, none⟩) (show ¬ (g3 ≤ b0 ∧ b0 < g3 + 1) by omega) (.slice (some ⟨g3, 0, none⟩) (j + 1 + 1) cap3)))
            have HQ4 := Lib.hid (HQ3.out.kept (keptR' w3 (p := ⟨b0, 0, none⟩) (show ¬ (loQ ≤ b0 ∧ b0 < hiQ) by omega) (.slice (some ⟨g3, 0, none⟩) (j + 1 + 1) cap3)))
            have HB4 := Lib.hid (HB3.out.setCell (p := ⟨b0, 0, none⟩) (show W0.heap.size ≤ b0 by omega) (.slice (some ⟨g3, 0, none⟩) (j + 1 + 1) cap3))
            have hs4 : (w3.setCell ⟨b0, 0, none⟩ (.slice (some ⟨g3, 0, none⟩) (j + 1 + 1) cap3)).heap.size = w3.heap.size := by simp [World.setCell]
            have hg3s := HT3.out.2.2
            clear HX3 HT3 HQ3 HB3 r1 r2 r3 r4 r5 r6 hcx hfx x3 f3
            generalize w3.setCell ⟨b0, 0, none⟩ (.slice (some ⟨g3, 0, none⟩) (j + 1 + 1) cap3) = wX at *
            have HEA0 : Hid (eat (steps (kk e (flB ((e, c) :: (x, c1) :: D2))) e) e (flB ((e, c) :: (x, c1) :: D2)) = eat (stL e.toNat e x) e (flB ((x, c1) :: D2))) := Lib.hid (by rw [HEF.out.1]; exact HEF.out.2)
            have hxX : hiQ ≤ wX.heap.size := by omega
            go_loopw [8, 9, 10] (fun v8 v9 v10 wi => ∃ (at2 : Nat) (e2 x2 c2 : Int) (D3 : List (Int × Int)) (f2 : Nat), v8 = .int .i64 at2 ∧ v9 = .int .i64 e2 ∧ v10 = .int .i64 x2 ∧ at2 < NB ∧ Hid (Bs.drop at2 = (x2, c2) :: D3) ∧ Hid (wfB ((x2, c2) :: D3)) ∧ (1 ≤ x2 ∧ x2 < e2 ∧ e2 ≤ 64) ∧ x2.toNat < f2 ∧ Hid (eat (steps (kk e (flB ((e, c) :: (x, c1) :: D2))) e) e (flB ((e, c) :: (x, c1) :: D2)) = eat (stL f2 e2 x2) e2 (flB ((x2, c2) :: D3))) ∧ Hid (Below wX.heap.size wX wi)) (fun _ _ v10 _ => (intOf v10).toNat)
            case atStart => exact ⟨at' + 1, e, x, c1, D2, e.toNat, by go_num, rfl, rfl, hat1, HDR2, HWF2, by omega, by omega, HEA0, Lib.hid (Below.refl _ _)⟩
            case round =>
              clear HEA0 HDR2 HWF2
              obtain ⟨at2, e2, x2, c2, D3, f2, rfl, rfl, rfl, hat2, hdr3, hwf3, hx2, hf2, hea, hbi⟩ := hrel
              have hszi := hbi.out.size
              have HQi := Lib.hid (HQ4.out.kept (Kept.of_below hbi.out hxX))
              have hm2 := map_getD hdr3.out
              obtain ⟨go', gi3, ci3, e1, s5, s6, r1, r2, r3, r4⟩ := rows_two HQi.out HLQ.out hat2 hm2.1
              cases e1
              have hc2B := hBM.out _ hm2.2.2.1
              dsimp only at hc2B
              obtain ⟨f2, rfl⟩ : ∃ f', f2 = f' + 1 := ⟨f2 - 1, by omega⟩
              have htm : e2.tmod x2 = e2 % x2 := Int.tmod_eq_emod_of_nonneg (by omega)
              have htd : e2.tdiv x2 = e2 / x2 := Int.tdiv_eq_ediv_of_nonneg (by omega)
              have hmb : 0 ≤ e2 % x2 ∧ e2 % x2 < x2 := ⟨Int.emod_nonneg _ (by omega), Int.emod_lt_of_pos _ (by omega)⟩
              have hdb : 0 ≤ e2 / x2 ∧ e2 / x2 ≤ e2 := ⟨Int.ediv_nonneg (by omega) (by omega), Int.ediv_le_self _ (by omega)⟩
              have xz : (x2 == 0) = false := by simp; omega
              have xz2 : ¬ x2 = 0 := by omega
              have p5 : IntKind.i64.wrap ((at2 : Int) + 1) = (at2 : Int) + 1 := IntWalk.i64_in _ (by omega)
              have u1 : ((at2 : Int) + 1).toNat = at2 + 1 := by omega
              have u2 : (0 : Int) ≤ (at2 : Int) + 1 := by omega
              have u4 : (at2 : Int) < (NB : Int) := by omega
              have u7 : (0 : Int) ≤ (at2 : Int) := by omega
              by_cases hm : e2 % x2 = 0
              · have HEL := Lib.hid (hea.out.trans (eat_last (f := f2) hwf3.out hx2.2.1 hm))
                rw [hm] at htm
                obtain ⟨Q, hQ⟩ : ∃ Q, e2 / x2 = Q := ⟨_, rfl⟩
                rw [hQ] at htd hdb HEL
                have p6 : IntKind.i64.wrap (0 : Int) = 0 := IntWalk.i64_in _ (by omega)
                have p7 : IntKind.i64.wrap Q = Q := IntWalk.i64_in _ (by omega)
                have p8 : IntKind.i64.wrap (c2 - Q) = c2 - Q := IntWalk.i64_in _ (by omega)
                have hgiw : ¬ gi3 = w.heap.size := by omega
                clear hQ hm hea
                by_cases hlt : c2 < Q
                · have hltn : c2 - Q < 0 := by omega
                  have HN : Hid (bsR zs = none) := Lib.hid (by rw [hbs.out, rd_none (by have := HE1.out; omega) (by have := HLT.out; omega) (by rw [HEL.out, if_pos hlt])]; rfl)
                  have HBi := Lib.hid (HB4.out.trans (hbi.out.mono (by omega)))
                  obtain ⟨l2, l3, l4⟩ := S0.out.later HBi.out
                  go_wp2_with fail
                  go_region
                  all_goals
                    go_wp2_with fail
                    have cr : World.cell? (World.setCell (World.setCell wr ⟨gi3, 1, none⟩ (.int .i64 (c2 - Q))) ⟨w.heap.size, 0, none⟩ (.slice none 0 0)) ⟨w.heap.size, 0, none⟩ = some (.slice none 0 0) := by go_simp
                    have HBF : Hid (bsB zs = false) := Lib.hid (bsB_none HN.out)
                    have HBW := Lib.hid (S0.out.below.trans (((Below.drew HBi.out).setCell (p := ⟨gi3, 1, none⟩) (show W0.heap.size ≤ gi3 by omega) (.int .i64 (c2 - Q))).mono (by omega)))
                    refine bodyPost_ret (v := .tuple #[.agg #[.slice none 0 0], .bool false]) (by simp [results, Try.results82, go_sem, cr]) rfl ?_
                    exact ansB_end _ (Nat.le_refl _) (bsL_no HBF.out) HBF.out.symm (OwnI.nil _ _) (by intro h; cases h) HBW.out _
                · have hltn : ¬ c2 - Q < 0 := by omega
                  have HES : Hid (eat (steps (kk e (flB ((e, c) :: (x, c1) :: D2))) e) e (flB ((e, c) :: (x, c1) :: D2)) = some (x2, flB ((x2, c2 - Q) :: D3))) := Lib.hid (HEL.out.trans (if_neg hlt))
                  have hless := eat_less he.1 HRB.out HLT.out HES.out
                  have hhalf : x2 * 2 ≤ e := dvd_half (by rw [hless.2.2]; exact Int.gcd_dvd_left _ _) hx2.1 hless.1.2
                  have HBS2 : Hid (bsR zs = rdC (T ++ [K]) (rd f x2 K (flB ((x2, c2 - Q) :: D3)))) := Lib.hid (by
                    rw [hbs.out, rd_more (by have := HE1.out; omega) (by have := HLT.out; omega) HES.out, HEF.out.1, HKT.out])
                  have HWFn := Lib.hid (wfB_set (c := c2 - Q) hwf3.out (by omega))
                  have HDRn := Lib.hid (drop_set0 (p' := (x2, c2 - Q)) hdr3.out)
                  have HNBn : Hid ((Bs.set at2 (x2, c2 - Q)).length = NB) := Lib.hid (by rw [List.length_set, hNBs.out])
                  have HBMn : Hid (∀ p ∈ Bs.set at2 (x2, c2 - Q), (0 ≤ p.2 ∧ p.2 ≤ 1000) ∧ 1 ≤ p.1 ∧ p.1 ≤ 64) := Lib.hid (fun p hp => by
                    rcases List.mem_or_eq_of_mem_set hp with h5 | h5
                    · exact hBM.out p h5
                    · subst h5; exact ⟨by dsimp only; omega, by dsimp only; omega⟩)
                  have HTn : Hid ((T ++ [K]).length = j + 1) := Lib.hid (by rw [List.length_append, hT.out]; rfl)
                  have HTBn : Hid (∀ z ∈ T ++ [K], 0 ≤ z ∧ z ≤ 4100096) := Lib.hid (fun z hz => by
                    rcases List.mem_append.1 hz with h5 | h5
                    · exact hTB.out z h5
                    · have h6 : z = K := by simpa using h5
                      omega)
                  have hpwn := pow_step hpw hx2.1 hhalf
                  have hxe2 := hless.1.2
                  have hfn : x2.toNat < f := by omega
                  have hmee : x2.toNat < e.toNat := by omega
                  have hKn : 0 ≤ K ∧ K ≤ (64 - x2) * 64064 := by omega
                  have hx264 : 1 ≤ x2 ∧ x2 ≤ 64 := by omega
                  have HBi := Lib.hid (HB4.out.trans (hbi.out.mono (by omega)))
                  have HQn : Hid (OwnQ (World.setCell wr ⟨gi3, 1, none⟩ (.int .i64 (c2 - Q))) loQ hiQ (.slice (some ⟨go, 0, none⟩) NB cQ) ((Bs.set at2 (x2, c2 - Q)).map fun p => [p.1, p.2])) := Lib.hid (by
                    have h5 := rows_set (j := 1) (gi := gi3) (ci := ci3) HQi.out HLQ.out hat2 (fun go' h6 => by cases h6; rw [hm2.1]; exact r1) (c2 - Q)
                    rwa [map_set hdr3.out] at h5)
                  have HOn : Hid (OwnI (World.setCell wr ⟨gi3, 1, none⟩ (.int .i64 (c2 - Q))) g3 (g3 + 1) (.slice (some ⟨g3, 0, none⟩) (j + 1 + 1) cap3) (z0 :: (T ++ [K]))) := Lib.hid (HT4.out.kept ((Kept.of_below hbi.out (by omega)).trans (keptR' wr (p := ⟨gi3, 1, none⟩) (show ¬ (g3 ≤ gi3 ∧ gi3 < g3 + 1) by omega) (.int .i64 (c2 - Q)))))
                  have HXi : Boxed wr b0 26 (.slice (some ⟨g3, 0, none⟩) (j + 1 + 1) cap3) := (hbi.out.block b0 (by omega)).trans HX4.out
                  have HXn : Hid (Boxed (World.setCell wr ⟨gi3, 1, none⟩ (.int .i64 (c2 - Q))) b0 26 (.slice (some ⟨g3, 0, none⟩) (j + 1 + 1) cap3)) := Lib.hid (HXi.kept (grown_cell wr ⟨gi3, 1, none⟩ (.int .i64 (c2 - Q))) (fun h5 => by have h6 : b0 = gi3 := Option.some.inj h5; omega))
                  have HBn := Lib.hid (HBi.out.setCell (p := ⟨gi3, 1, none⟩) (show W0.heap.size ≤ gi3 by omega) (.int .i64 (c2 - Q)))
                  have hszn : (World.setCell wr ⟨gi3, 1, none⟩ (.int .i64 (c2 - Q))).heap.size = wr.heap.size := by simp [World.setCell]
                  clear hless hhalf HES HXi
                  go_wp2_with fail
                  go_region
                  all_goals
                    go_wp2_with fail
                    go_roundw
                    case rel => exact ⟨Bs.set at2 (x2, c2 - Q), D3, T ++ [K], at2, j + 1, f, g3, cap3, K, x2, c2 - Q, rfl, rfl, rfl, hat2, HNBn, HDRn, HWFn, hx264, hfn, hKn, HBMn, HTn, HTBn, hpwn, HBS2, HQn, HOn, HXn, ⟨by omega, by omega, by (show b0 < (World.setCell wr ⟨gi3, 1, none⟩ (.int .i64 (c2 - Q))).heap.size); omega, by (show g3 < (World.setCell wr ⟨gi3, 1, none⟩ (.int .i64 (c2 - Q))).heap.size); omega⟩, Lib.hid (Below.drew HBn.out)⟩
                    case measure => simp only [intOf]; exact hmee
              · obtain ⟨Q, hQ⟩ : ∃ Q, e2 / x2 = Q := ⟨_, rfl⟩
                obtain ⟨M, hM⟩ : ∃ M, e2 % x2 = M := ⟨_, rfl⟩
                have HMQ : Hid (e2 / x2 = Q ∧ e2 % x2 = M) := Lib.hid ⟨hQ, hM⟩
                have HNO := Lib.hid (fun hbad => eat_mid_no (f := f2) (D := D3) hf2 hwf3.out hx2.2.1 hm hbad)
                have HM0 := Lib.hid hm
                rw [hM] at htm hmb hm
                rw [hQ] at htd hdb
                have p6 : IntKind.i64.wrap M = M := IntWalk.i64_in _ (by omega)
                have p7 : IntKind.i64.wrap Q = Q := IntWalk.i64_in _ (by omega)
                have hm0 : (M != 0) = true := by simp; omega
                have HBi := Lib.hid (HB4.out.trans (hbi.out.mono (by omega)))
                clear hQ hM
                by_cases hcq : c2 = Q
                · have g1 : (c2 != Q) = false := by simp [hcq]
                  cases D3 with
                  | nil =>
                    have hl1 : NB = at2 + 1 := by
                      have h5 := congrArg List.length hdr3.out
                      rw [List.length_drop, hNBs.out] at h5
                      simp at h5; omega
                    have hge : (NB : Int) ≤ (at2 : Int) + 1 := by omega
                    have HN : Hid (bsR zs = none) := Lib.hid (by rw [hbs.out, rd_none (by have := HE1.out; omega) (by have := HLT.out; omega) (hea.out.trans (HNO.out (.inr (.inl rfl))))]; rfl)
                    subst hcq
                    clear g1 hl1
                    obtain ⟨l2, l3, l4⟩ := S0.out.later HBi.out
                    have g1 : (c2 != c2) = false := by simp
                    go_wp2_with fail
                    go_quiet (fail)
                    go_wp2_with fail
                    have cr : World.cell? (World.setCell (World.drewN wr nq) ⟨w.heap.size, 0, none⟩ (.slice none 0 0)) ⟨w.heap.size, 0, none⟩ = some (.slice none 0 0) := by go_simp
                    have HBF : Hid (bsB zs = false) := Lib.hid (bsB_none HN.out)
                    have HBW := Lib.hid (S0.out.below.trans ((below_drewN HBi.out nq).mono (by omega)))
                    refine bodyPost_ret (v := .tuple #[.agg #[.slice none 0 0], .bool false]) (by simp [results, Try.results82, go_sem, cr]) rfl ?_
                    exact ansB_end _ (Nat.le_refl _) (bsL_no HBF.out) HBF.out.symm (OwnI.nil _ _) (by intro h; cases h) HBW.out _
                  | cons p D4 =>
                    obtain ⟨y, c3⟩ := p
                    have hdr4 := hm2.2.2.2
                    have hm4 := map_getD hdr4
                    have hat3 : at2 + 1 < NB := by rw [← hNBs.out]; exact hm4.2.1
                    obtain ⟨go', gi4, ci4, e1, _, _, r5, r6, _, _⟩ := rows_two HQi.out HLQ.out hat3 hm4.1
                    cases e1
                    have v1 : ¬ (NB : Int) ≤ (at2 : Int) + 1 := by omega
                    have v2 : (at2 : Int) + 1 < (NB : Int) := by omega
                    by_cases hym : y = M
                    · have HEM : Hid (eat (stL (f2 + 1) e2 x2) e2 (flB ((x2, c2) :: (y, c3) :: D4)) = eat (stL f2 x2 y) x2 (flB ((y, c3) :: D4))) := Lib.hid (by
                        have h5 : y = e2 % x2 := by rw [HMQ.out.2]; exact hym
                        subst h5
                        exact eat_mid hwf3.out hx2.2.1 HM0.out (by rw [HMQ.out.1]; exact hcq))
                      have HEAn := Lib.hid (hea.out.trans HEM.out)
                      have HDRn := Lib.hid hdr4
                      have HWFn := Lib.hid (wfB_tail hwf3.out)
                      subst hcq
                      subst hym
                      have hyp : 1 ≤ y ∧ y < x2 := by have := (wfB_pos HWFn.out).1; dsimp only at this; omega
                      have hff : y.toNat < f2 := by omega
                      have hmee : y.toNat < x2.toNat := by omega
                      have hx264 : x2 ≤ 64 := by omega
                      have g1 : (c2 != c2) = false := by simp
                      have g2 : (y != y) = false := by simp
                      clear hea HEM hdr4 hm4
                      go_wp2_with fail
                      go_quiet (fail)
                      go_wp2_with fail
                      go_roundw
                      case rel => exact ⟨at2 + 1, x2, y, c3, D4, f2, by go_num, rfl, rfl, hat3, HDRn, HWFn, ⟨hyp.1, hyp.2, hx264⟩, hff, HEAn, Lib.hid (below_drewN hbi.out _)⟩
                      case measure => simp only [intOf]; exact hmee
                    · have HN : Hid (bsR zs = none) := Lib.hid (by rw [hbs.out, rd_none (by have := HE1.out; omega) (by have := HLT.out; omega) (hea.out.trans (HNO.out (.inr (.inr ⟨y, c3, D4, rfl, by rw [HMQ.out.2]; exact hym⟩))))]; rfl)
                      have g2 : (y != M) = true := by simp [hym]
                      subst hcq
                      have g1 : (c2 != c2) = false := by simp
                      obtain ⟨l2, l3, l4⟩ := S0.out.later HBi.out
                      clear hdr4 hm4
                      go_wp2_with fail
                      go_quiet (fail)
                      go_wp2_with fail
                      have cr : World.cell? (World.setCell (World.drewN wr nq) ⟨w.heap.size, 0, none⟩ (.slice none 0 0)) ⟨w.heap.size, 0, none⟩ = some (.slice none 0 0) := by go_simp
                      have HBF : Hid (bsB zs = false) := Lib.hid (bsB_none HN.out)
                      have HBW := Lib.hid (S0.out.below.trans ((below_drewN HBi.out nq).mono (by omega)))
                      refine bodyPost_ret (v := .tuple #[.agg #[.slice none 0 0], .bool false]) (by simp [results, Try.results82, go_sem, cr]) rfl ?_
                      exact ansB_end _ (Nat.le_refl _) (bsL_no HBF.out) HBF.out.symm (OwnI.nil _ _) (by intro h; cases h) HBW.out _
                · have HN : Hid (bsR zs = none) := Lib.hid (by rw [hbs.out, rd_none (by have := HE1.out; omega) (by have := HLT.out; omega) (hea.out.trans (HNO.out (.inl (by rw [HMQ.out.1]; exact hcq))))]; rfl)
                  have g1 : (c2 != Q) = true := by simp [hcq]
                  obtain ⟨l2, l3, l4⟩ := S0.out.later HBi.out
                  go_wp2_with fail
                  go_quiet (fail)
                  go_wp2_with fail
                  have cr : World.cell? (World.setCell (World.drewN wr nq) ⟨w.heap.size, 0, none⟩ (.slice none 0 0)) ⟨w.heap.size, 0, none⟩ = some (.slice none 0 0) := by go_simp
                  have HBF : Hid (bsB zs = false) := Lib.hid (bsB_none HN.out)
                  have HBW := Lib.hid (S0.out.below.trans ((below_drewN HBi.out nq).mono (by omega)))
                  refine bodyPost_ret (v := .tuple #[.agg #[.slice none 0 0], .bool false]) (by simp [results, Try.results82, go_sem, cr]) rfl ?_
                  exact ansB_end _ (Nat.le_refl _) (bsL_no HBF.out) HBF.out.symm (OwnI.nil _ _) (by intro h; cases h) HBW.out _
end Go.Proofs.Ytoebbhicffgdgaa
