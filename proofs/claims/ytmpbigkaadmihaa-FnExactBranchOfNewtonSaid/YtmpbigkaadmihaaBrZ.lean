/- BranchOfExponents, the model's: contract. Conditions: stated at each theorem. -/
import Derived.Test.YtmpbigkaadmihaaBrY
namespace Go.Proofs.Ytmpbigkaadmihaa
open Go.ChangeShapes Go.WideShapes Go.ChangeAt Go.RowKit
set_option linter.unusedVariables false
set_option linter.unusedSimpArgs false

theorem own_set {w : World} {lo hi : Nat} {v : Value} {zs : List Int} (h : OwnI w lo hi v zs) {p : Addr} {u : Value} (hne : v.ownBlock ≠ some p.block) : OwnI (w.setCell p u) lo hi v zs := by
  obtain ⟨⟨g0, g1⟩, g2, g3⟩ := h
  refine ⟨⟨g0, ?_⟩, g2, by simpa [World.setCell] using g3⟩
  rcases g1 with hn | ⟨g, cap, cur, e, hgb, hgg, rest⟩
  · exact .inl hn
  · refine .inr ⟨g, cap, cur, e, hgb, ?_, rest⟩
    rw [Below.heap_setCell w p u g (by
      rintro rfl
      apply hne; rw [e]; rfl)]
    exact hgg

set_option maxHeartbeats 4000000 in
theorem specBranchOfExponents_any (m : Int) (v : Value) (zs : List Int) (w : World) (hwm : (Lit.int .i64 m).wf = true) (h : ReadI w w.heap.size v zs) (hn : zs.length ≤ 1048576) (hw : ∀ z ∈ zs, (Lit.int .i64 z).wf = true) :
    Calls Try.prog 43 #[.int .i64 m, v] w (AnsRC w (boA m zs) (boC m zs)) := by
  obtain ⟨n, A, c, rfl, hr, HL, HN, hnc, HF, hcm⟩ := h.split2
  rw [HL.out] at hn
  obtain ⟨W0, HE⟩ : ∃ W, W = w.alloc (.cells #[.slice none 0 0] 26) := ⟨_, rfl⟩
  have hS0 : Start1 w W0 := by rw [HE]; exact Start1.new _
  have hb0 := hS0.below
  have H0 := Lib.hid (hr.below hb0)
  have S0 := Lib.hid hS0
  have HW := Lib.hid hw
  have HEQ := Lib.hid HE
  clear h hr hb0 hS0 hw HE hwm
  cases hm : mulB m
  · have E := Lib.hid (bo_no (boOK_no1 (zs := zs) hm))
    have hm' := mulB_false.1 hm
    clear hm
    go_enter Try.func43, Try.ntmps43
    go_wp2_with fail
    rw [← HEQ.out]
    obtain ⟨l2, l3, l4⟩ := S0.out.later (Below.refl _ _)
    refine (in_no _ _ _ _ (by omega)).mono ?_
    rintro e w1 ⟨rfl, rfl⟩
    go_wp2_with fail
    have cr : (W0.setCell ⟨w.heap.size, 0, none⟩ (.slice none 0 0)).cell? ⟨w.heap.size, 0, none⟩ = some (.slice none 0 0) := by go_simp
    refine bodyPost_ret (v := .tuple #[.agg #[.slice none 0 0], .int .i64 2]) (by simp [results, Try.results43, go_sem, cr]) rfl ?_
    exact ansR_endG _ (Nat.le_refl _) E.out.1.symm E.out.2.symm (OwnI.nil _ _) (by intro h; cases h) S0.out.below _
  have hm64 := mulB_true.1 hm
  by_cases hlen : n ≤ 64
  rotate_left
  · have E := Lib.hid (bo_no (boOK_no2 (n := m) (zs := zs) (by rw [HL.out]; exact hlen)))
    have h64 : (64 : Int) < (n : Int) := by omega
    clear hm
    go_enter Try.func43, Try.ntmps43
    go_wp2_with fail
    rw [← HEQ.out]
    obtain ⟨l2, l3, l4⟩ := S0.out.later (Below.refl _ _)
    refine (in_yes _ _ _ _ (by omega) (by omega)).mono ?_
    rintro e w1 ⟨rfl, rfl⟩
    go_wp2_with fail
    have cr : (W0.setCell ⟨w.heap.size, 0, none⟩ (.slice none 0 0)).cell? ⟨w.heap.size, 0, none⟩ = some (.slice none 0 0) := by go_simp
    refine bodyPost_ret (v := .tuple #[.agg #[.slice none 0 0], .int .i64 2]) (by simp [results, Try.results43, go_sem, cr]) rfl ?_
    exact ansR_endG _ (Nat.le_refl _) E.out.1.symm E.out.2.symm (OwnI.nil _ _) (by intro h; cases h) S0.out.below _
  have h64 : ¬ (64 : Int) < (n : Int) := by omega
  have HM := Lib.hid hm
  have hsw : w.heap.size < W0.heap.size := S0.out.res.2
  have hsw1 : W0.heap.size = w.heap.size + 1 := S0.out.size
  have E0 : Hid (ascB 0 zs = ascB 0 (zs.drop 0)) := Lib.hid (by simp)
  clear hm
  go_enter Try.func43, Try.ntmps43
  go_wp2_with fail
  rw [← HEQ.out]
  obtain ⟨l2, l3, l4⟩ := S0.out.later (Below.refl _ _)
  refine (in_yes _ _ _ _ (by omega) (by omega)).mono ?_
  rintro e w1 ⟨rfl, rfl⟩
  go_wp2_with fail
  clear l2 l3 l4
  go_loopw [6] (fun vi wr => ∃ (k : Nat) (y : Int), k ≤ n ∧ (0 ≤ y ∧ y ≤ 2000) ∧ vi = .int .i64 k ∧ Hid (∃ q, wr = W0.drewN q) ∧ Hid (ascB 0 zs = ascB y (zs.drop k)) ∧ Hid (k = 0 → y = 0) ∧ Hid (0 < k → zs[k - 1]?.getD 0 = y)) (fun vi _ => n - (intOf vi).toNat)
  case atStart => exact ⟨0, 0, by omega, by omega, rfl, Lib.hid ⟨0, rfl⟩, E0, Lib.hid (fun _ => rfl), Lib.hid (fun h => by omega)⟩
  case round =>
    obtain ⟨k, y, hk, hy, rfl, hwr, hg, hk0, hk1⟩ := hrel
    have hsame : ∀ p, wr.cell? p = W0.cell? p := by obtain ⟨q, rfl⟩ := hwr.out; intro p; rfl
    have BR : Hid (Below W0.heap.size W0 wr) := Lib.hid (by obtain ⟨q, rfl⟩ := hwr.out; exact below_drewN (Below.refl _ _) q)
    have BW : Hid (Below w.heap.size w wr) := Lib.hid (S0.out.below.trans (BR.out.mono (by omega)))
    by_cases hlt : k < n
    · obtain ⟨a, rfl, hal, hcell0⟩ := H0.out.2 k hlt
      obtain ⟨g, o, rfl⟩ := HF.out a rfl
      have HSA := Lib.hid hsame
      have HD := Lib.hid (drop_at HL.out hlt)
      have hc2 : wr.cell? ⟨g, o + k, none⟩ = some (.int .i64 (zs[k]?.getD 0)) := by rw [← add_lit, hsame]; simpa using hcell0
      have hz := range_i64 HW.out k
      have HZ2 : Hid (0 < k + 1 → zs[k + 1 - 1]?.getD 0 = zs[k]?.getD 0) := Lib.hid (fun _ => rfl)
      obtain ⟨l2, l3, l4⟩ := S0.out.later BR.out
      have h8 : (k : Int) < (n : Int) := by omega
      have h9 : (0 : Int) ≤ (k : Int) := by omega
      by_cases hin : 1 ≤ zs[k]?.getD 0 ∧ zs[k]?.getD 0 ≤ 2000
      · rcases Nat.eq_zero_or_pos k with hkz | hkp
        · have hy0 := hk0.out hkz
          subst hy0
          subst hkz
          have hcz : wr.cell? ⟨g, o, none⟩ = some (.int .i64 (zs[0]?.getD 0)) := hc2
          have HG : Hid (ascB 0 zs = ascB (zs[0]?.getD 0) (zs.drop (0 + 1))) := Lib.hid (by rw [hg.out, HD.out, asc_yes (by omega)])
          clear HZ2
          generalize hz0 : zs[0]?.getD 0 = z at *
          have HZ2 : Hid (0 < 0 + 1 → zs[0 + 1 - 1]?.getD 0 = z) := Lib.hid (fun _ => hz0)
          clear hcell0 hsame hz0
          go_wp2_with fail
          go_quiet ((go_at_call 72; exact quietY (by omega) (by omega)))
          go_wp2_with fail
          go_roundw
          case rel => exact ⟨0 + 1, z, by omega, by omega, by go_num, Lib.hid (by obtain ⟨q, rfl⟩ := hwr.out; exact ⟨q + nq, World.drewN_drewN _ _ _⟩), HG, Lib.hid (fun h => by omega), HZ2⟩
          case measure => simp [intOf]; omega
        · obtain ⟨a, e1, _, hcell1⟩ := H0.out.2 (k - 1) (by omega)
          cases e1
          have hc3 : wr.cell? ⟨g, o + (k - 1), none⟩ = some (.int .i64 y) := by rw [← hk1.out hkp, ← add_lit, hsame]; simpa using hcell1
          have h5 : (0 : Int) ≤ (k : Int) - 1 := by omega
          have h6 : (k : Int) - 1 < (n : Int) := by omega
          have h7 : ((k : Int) - 1).toNat = k - 1 := by omega
          have h10 : (0 : Int) < (k : Int) := by omega
          have p1 : IntKind.i64.wrap ((k : Int) - 1) = (k : Int) - 1 := IntWalk.i64_in _ (by omega)
          by_cases hyz : y < zs[k]?.getD 0
          · have HG : Hid (ascB 0 zs = ascB (zs[k]?.getD 0) (zs.drop (k + 1))) := Lib.hid (by rw [hg.out, HD.out, asc_yes (by omega)])
            generalize zs[k]?.getD 0 = z at *
            have hzy : ¬ z ≤ y := by omega
            clear hcell0 hcell1 hsame
            go_wp2_with fail
            go_quiet ((go_at_call 72; exact quietY (by omega) (by omega)))
            go_wp2_with fail
            go_roundw
            case rel => exact ⟨k + 1, z, by omega, by omega, by go_num, Lib.hid (by obtain ⟨q, rfl⟩ := hwr.out; exact ⟨q + nq, World.drewN_drewN _ _ _⟩), HG, Lib.hid (fun h => by omega), HZ2⟩
            case measure => simp [intOf]; omega
          · have E := Lib.hid (bo_no (boOK_no3 (n := m) (zs := zs) (by rw [hg.out, HD.out, asc_no (by omega)])))
            generalize zs[k]?.getD 0 = z at *
            have hzy : z ≤ y := by omega
            clear hcell0 hcell1 hsame
            go_wp2_with fail
            go_quiet ((go_at_call 72; exact quietY (by omega) (by omega)))
            go_wp2_with fail
            have cr : ((wr.drewN nq).setCell ⟨w.heap.size, 0, none⟩ (.slice none 0 0)).cell? ⟨w.heap.size, 0, none⟩ = some (.slice none 0 0) := by go_simp
            refine bodyPost_ret (v := .tuple #[.agg #[.slice none 0 0], .int .i64 2]) (by simp [results, Try.results43, go_sem, cr]) rfl ?_
            exact ansR_endG _ (Nat.le_refl _) E.out.1.symm E.out.2.symm (OwnI.nil _ _) (by intro h; cases h) (below_drewN BW.out nq) _
      · have E := Lib.hid (bo_no (boOK_no3 (n := m) (zs := zs) (by rw [hg.out, HD.out, asc_no (by omega)])))
        generalize zs[k]?.getD 0 = z at *
        clear hcell0 hsame
        go_wp2_with fail
        go_quiet ((go_at_call 72; exact quietN (by omega)))
        go_wp2_with fail
        have cr : ((wr.drewN nq).setCell ⟨w.heap.size, 0, none⟩ (.slice none 0 0)).cell? ⟨w.heap.size, 0, none⟩ = some (.slice none 0 0) := by go_simp
        refine bodyPost_ret (v := .tuple #[.agg #[.slice none 0 0], .int .i64 2]) (by simp [results, Try.results43, go_sem, cr]) rfl ?_
        exact ansR_endG _ (Nat.le_refl _) E.out.1.symm E.out.2.symm (OwnI.nil _ _) (by intro h; cases h) (below_drewN BW.out nq) _
    · obtain rfl : k = n := by omega
      have ha : ascB 0 zs = true := by rw [hg.out, drop_end HL.out (Nat.le_refl _)]; rfl
      have OK : Hid (boOK m zs = true) := Lib.hid (by simp [boOK, HM.out, ha, HL.out, hlen])
      have HZ : Hid (∀ z ∈ zs, 0 < z ∧ z ≤ 2000) := Lib.hid (ascB_all ha)
      have H1 := Lib.hid (H0.out.below (BR.out.mono (by omega)))
      have hszr := BR.out.size
      obtain ⟨W1, hW1⟩ : ∃ W, W = wr := ⟨_, rfl⟩
      subst hW1
      have HO1 : Hid (OwnI ((W1.alloc (.cells #[.int .i64 m] 2)).alloc (.cells #[.slice (some ⟨W1.heap.size, 0, none⟩) 1 1] 26)) W1.heap.size ((W1.alloc (.cells #[.int .i64 m] 2)).alloc (.cells #[.slice (some ⟨W1.heap.size, 0, none⟩) 1 1] 26)).heap.size (.slice (some ⟨W1.heap.size, 0, none⟩) 1 1) [m]) := Lib.hid (OwnI.mk' (n := 1) (World.ownsRow.alloc (World.ownsRow_lit (base := W1.heap.size) W1 #[.int .i64 m] 1 (e := 2) (size := 1) (Nat.le_refl _) (by simp [maxLen]) rfl) _))
      have HC1 : Hid (((W1.alloc (.cells #[.int .i64 m] 2)).alloc (.cells #[.slice (some ⟨W1.heap.size, 0, none⟩) 1 1] 26)).cell? ⟨W1.heap.size + 1, 0, none⟩ = some (.slice (some ⟨W1.heap.size, 0, none⟩) 1 1)) := Lib.hid (by go_simp)
      have HF1 : Hid (((W1.alloc (.cells #[.int .i64 m] 2)).alloc (.cells #[.slice (some ⟨W1.heap.size, 0, none⟩) 1 1] 26)).frozen? ⟨W1.heap.size + 1, 0, none⟩ = false) := Lib.hid (by go_simp)
      have HBL : Hid (Below W1.heap.size W1 ((W1.alloc (.cells #[.int .i64 m] 2)).alloc (.cells #[.slice (some ⟨W1.heap.size, 0, none⟩) 1 1] 26))) := Lib.hid (((Below.refl _ _).alloc (Nat.le_refl _) _).alloc (by simp) _)
      have EX0 : Hid (m :: exL m zs = [m] ++ exL m (zs.drop 0)) := Lib.hid (by simp)
      obtain ⟨i0, hi0, hy0, hy1, hy2⟩ := info_parts int_info
      clear hsame hg hk0 hk1 hwr hy ha
      go_wp2_with fail
      go_loopw [8, 9] (fun ve vi wr => ∃ (j l : Nat) (x : Int) (L : List Int) (g1 : Nat) (c' : Nat), j ≤ k ∧ l ≤ j + 1 ∧ (1 ≤ x ∧ x ≤ 64) ∧ ve = .int .i64 x ∧ vi = .int .i64 j ∧ Hid (L.length = l) ∧ (W1.heap.size ≤ g1 ∧ g1 ≠ W1.heap.size + 1) ∧ Hid (m :: exL m zs = L ++ exL x (zs.drop j)) ∧ Hid (wr.cell? ⟨W1.heap.size + 1, 0, none⟩ = some (.slice (some ⟨g1, 0, none⟩) l c')) ∧ Hid (wr.frozen? ⟨W1.heap.size + 1, 0, none⟩ = false) ∧ Hid (OwnI wr W1.heap.size wr.heap.size (.slice (some ⟨g1, 0, none⟩) l c') L) ∧ Hid (Below W1.heap.size W1 wr)) (fun _ vi _ => k - (intOf vi).toNat)
      case atStart => exact ⟨0, 1, m, [m], W1.heap.size, 1, by omega, by omega, hm64, rfl, rfl, Lib.hid rfl, ⟨Nat.le_refl _, by omega⟩, EX0, HC1, HF1, HO1, HBL⟩
      case round =>
        clear HO1 HC1 HF1 HBL EX0
        obtain ⟨j, l, x, L, g1, c', hj, hlj, hx, rfl, rfl, HLl, ⟨hlo, hg1p⟩, hex, hco0, hcf0, ho, hb⟩ := hrel
        have hco := hco0.out
        have hcf := hcf0.out
        have hpb : W1.heap.size + 1 < wr.heap.size := World.block_lt_of_cell? wr ⟨W1.heap.size + 1, 0, none⟩ hco
        by_cases hlt : j < k
        · obtain ⟨a, rfl, hal, hcell0⟩ := H1.out.2 j hlt
          obtain ⟨g, o, rfl⟩ := HF.out a rfl
          have hgl0 : g < w.heap.size := hal
          have hgl : g < wr.heap.size := by omega
          have hz := HZ.out (zs[j]?.getD 0) (by have := HL.out; simp [show j < zs.length by omega])
          have HD := Lib.hid (drop_at HL.out hlt)
          have hce : wr.cell? ⟨g, o + j, none⟩ = some (.int .i64 (zs[j]?.getD 0)) := by rw [← add_lit, hb.out.cell (by rw [add_block]; show g < _; omega)]; simpa using hcell0
          generalize zs[j]?.getD 0 = z at *
          have hxz : (x == 0) = false := by simp; omega
          have hx0 : ¬ x = 0 := by omega
          have hjn : (j : Int) < (k : Int) := by omega
          have hj9 : (0 : Int) ≤ (j : Int) := by omega
          have hwp : IntKind.i64.wrap (z.tmod x) = z.tmod x := IntWalk.i64_in _ (by have h1 := Int.natAbs_tmod z x; have h2 : z.natAbs % x.natAbs ≤ z.natAbs := Nat.mod_le _ _; omega)
          have hem : z.tmod x = z % x := Int.tmod_eq_emod_of_nonneg (by omega)
          rw [hem] at hwp
          have hge := gcd_le_left (e := x) (z := z) hx.1
          clear hcell0
          by_cases h0 : z.tmod x = 0
          · have HG : Hid (m :: exL m zs = L ++ exL x (zs.drop (j + 1))) := Lib.hid (by rw [hex.out, HD.out, ex_yes h0])
            have hb0 : (z % x != 0) = false := by rw [← hem]; simp [h0]
            clear h0 hem
            go_wp2
            go_roundw
            case rel => exact ⟨j + 1, l, x, L, g1, c', by omega, by omega, hx, rfl, by go_num, HLl, ⟨hlo, hg1p⟩, HG, hco0, hcf0, ho, hb⟩
            case measure => simp [intOf]; omega
          · have HG : Hid (m :: exL m zs = (L ++ [z]) ++ exL (Int.gcd x z : Int) (zs.drop (j + 1))) := Lib.hid (by rw [hex.out, HD.out, ex_no h0]; simp)
            have hb0 : (z % x != 0) = true := by rw [← hem]; simp [h0]
            clear h0 hem
            go_wp2_with (go_at_call 73; refine (l01Gcd_any _ _ _ (by omega) (by omega) (by omega) (by omega)).mono ?_; rintro e w' ⟨rfl, rfl⟩)
            refine wp_region_held_drew (S := fun w' => w'.cell? ⟨g, o + j, none⟩ = some (.int .i64 z)) (by kernel_rfl) hce (fun hHeld => ?_)
            refine takeY 0 _ (v := ?_) rfl rfl (by kernel_rfl) (by kernel_rfl) (by kernel_rfl) (fun _ _ _ h => h) (by kernel_rfl) ?_ (by assumption) ?_
            rotate_left 1
            · intro w hSw; (try dsimp only at hSw); go_simp; (try with_reducible rfl)
            try simp only [Act.put, List.setIfInBounds_toArray, List.set_cons_zero, List.set_cons_succ]
            refine takeY 2 _ (v := ?_) rfl rfl (by kernel_rfl) (by kernel_rfl) (by kernel_rfl) (fun _ _ _ h => h) (by kernel_rfl) ?_ (by assumption) ?_
            rotate_left 1
            · intro w hSw; (try dsimp only at hSw); go_simp; (try with_reducible rfl)
            try simp only [Act.put, List.setIfInBounds_toArray, List.set_cons_zero, List.set_cons_succ]
            refine takeY 3 _ (v := ?_) rfl rfl (by kernel_rfl) (by kernel_rfl) (by kernel_rfl) (fun _ _ _ h => h) (by kernel_rfl) ?_ (by assumption) ?_
            rotate_left 1
            · intro w hSw; (try dsimp only at hSw); go_simp; (try with_reducible rfl)
            try simp only [Act.put, List.setIfInBounds_toArray, List.set_cons_zero, List.set_cons_succ]
            refine takeY 4 _ (v := ?_) rfl rfl (by kernel_rfl) (by kernel_rfl) (by kernel_rfl) (fun _ _ _ h => h) (by kernel_rfl) ?_ (by assumption) ?_
            rotate_left 1
            · intro w hSw; (try dsimp only at hSw); go_simp; (try with_reducible rfl)
            try simp only [Act.put, List.setIfInBounds_toArray, List.set_cons_zero, List.set_cons_succ]
            refine takeY 5 _ (v := ?_) rfl rfl (by kernel_rfl) (by kernel_rfl) (by kernel_rfl) (fun _ _ _ h => h) (by kernel_rfl) ?_ (by assumption) ?_
            rotate_left 1
            · intro w hSw; (try dsimp only at hSw); go_simp; (try with_reducible rfl)
            try simp only [Act.put, List.setIfInBounds_toArray, List.set_cons_zero, List.set_cons_succ]
            refine wpAnyH_ready (rs := [1, 6]) (by kernel_rfl) (by simp) ?_
            refine AllReadyH.cons rfl (fun K hK => ?_) (AllReadyH.cons rfl (fun K hK => ?_) AllReadyH.nil)
            · go_simp
              refine hK.out _ (wr.drew) hce (fun hHeld => ?_)
              clear hK K
              try simp only [Act.put, List.setIfInBounds_toArray, List.set_cons_zero, List.set_cons_succ]
              refine wpAnyH_ready (rs := [6]) (by kernel_rfl) (by simp) ?_
              refine AllReadyH.cons rfl (fun K hK => ?_) AllReadyH.nil
              go_simp
              refine hK.out _ _ (((below_box wr _).cell (p := ⟨g, o + j, none⟩) hgl).trans hce) (fun hHeld => ?_)
              clear hK K
              try simp only [Act.put, List.setIfInBounds_toArray, List.set_cons_zero, List.set_cons_succ]
              refine wpAnyH_ready (rs := [7]) (by kernel_rfl) (by simp) ?_
              refine AllReadyH.cons rfl (fun K hK => ?_) AllReadyH.nil
              try simp only [List.getElem_toArray, List.getElem_cons_succ, List.getElem_cons_zero]
              rw [if_pos (by kernel_rfl)]
              refine wp_append_lies _ (.tmp 72) (.tmp 77) 24 ?a2 (W1.heap.size) 2 i0 (.int .i64 0) 1 8 Try.underlying24 hi0 hy0 hy1 hy2 rfl (by decide) (.slice (some ⟨g1, 0, none⟩) l c') l (L.map (.int .i64)) ?a3 ?a4 ⟨wr.heap.size, 0, none⟩ 1 1 [.int .i64 z] ?a5 rfl ?a6 ?a7 (by decide) ?a8 ?a9 ?a10 _ rfl ?a11
              case a2 => rfl
              case a3 => rfl
              case a5 => rfl
              case a4 => have h3 := ho.out.1; rw [HLl.out] at h3; exact World.ownsRow.alloc h3 _
              case a6 => exact World.news_of_block (cs := #[.int .i64 z]) (t := 2) (fr := (0, 0)) (heap_alloc_new wr _)
              case a7 => simp [Value.oneCell']
              case a8 => simp only [maxLen]; omega
              case a9 => omega
              case a10 => show W1.heap.size ≤ (wr.alloc _).heap.size; simp; omega
              intro g2 cap2 w2 hown2 hgrow hg2 _
              have hbx : Below (W1.heap.size) wr w2 := Below.grown (w := (wr.alloc (.cells #[.int .i64 z] 2)).drew) (below_drewN ((Below.refl _ _).alloc (by omega) _) 1) hgrow (by show W1.heap.size ≤ (wr.alloc _).heap.size; simp; omega) (fun k hk => (Own.lt ho.out.1 k hk).1)
              have HBX := Lib.hid hbx
              have hpa : W1.heap.size + 1 < (wr.alloc (.cells #[.int .i64 z] 2)).heap.size := by simp; omega
              have hpn : some (W1.heap.size + 1) ≠ (Value.slice (some ⟨g1, 0, none⟩) l c').ownBlock := by simp [Value.ownBlock]; omega
              have c3 : w2.cell? ⟨W1.heap.size + 1, 0, none⟩ = some (.slice (some ⟨g1, 0, none⟩) l c') := (hgrow.cell_far ⟨W1.heap.size + 1, 0, none⟩ hpa hpn).trans (((below_box wr _).cell (p := ⟨W1.heap.size + 1, 0, none⟩) hpb).trans hco)
              have f3 : w2.frozen? ⟨W1.heap.size + 1, 0, none⟩ = false := (hgrow.frozen_far ⟨W1.heap.size + 1, 0, none⟩ hpa hpn).trans (((below_box wr _).frozen (p := ⟨W1.heap.size + 1, 0, none⟩) hpb).trans hcf)
              have hg2p : g2 ≠ W1.heap.size + 1 := by rcases hg2 with h | h; (simp [Value.ownBlock] at h; omega); (have h9 : g2 = wr.heap.size + 1 := (by simpa using h)); omega
              have HO2 : Hid (OwnI w2 (W1.heap.size) w2.heap.size (.slice (some ⟨g2, 0, none⟩) (l + 1) cap2) (L ++ [z])) := Lib.hid (OwnI.mk' (n := l + 1) (by rw [List.map_append]; exact hown2))
              have s0 : w2.cell? ⟨g, o + j, none⟩ = some (.int .i64 z) := by rw [HBX.out.cell (p := ⟨g, o + j, none⟩) (by show g < _; omega)]; exact hce
              have hsz2 := HBX.out.size
              have hp2 : W1.heap.size + 1 < w2.heap.size := by omega
              refine hK.out _ _ s0 (fun hHeld => ?_)
              clear hK K hbx hown2 hgrow hg2 hpa hpn
              try simp only [Act.put, List.setIfInBounds_toArray, List.set_cons_zero, List.set_cons_succ]
              refine takeY 8 _ (v := ?_) rfl rfl (by kernel_rfl) (by kernel_rfl) (by kernel_rfl) (fun _ _ _ h => h) (by kernel_rfl) ?_ (by assumption) ?_
              rotate_left 1
              · intro w hSw; (try dsimp only at hSw); go_simp; (try with_reducible rfl)
              try simp only [Act.put, List.setIfInBounds_toArray, List.set_cons_zero, List.set_cons_succ]
              refine wpAnyH_ready (rs := [9]) (by kernel_rfl) (by simp) ?_
              refine AllReadyH.cons rfl (fun K hK => ?_) AllReadyH.nil
              go_simp
              have HC3 : Hid ((w2.setCell ⟨W1.heap.size + 1, 0, none⟩ (.slice (some ⟨g2, 0, none⟩) (l + 1) cap2)).cell? ⟨W1.heap.size + 1, 0, none⟩ = some (.slice (some ⟨g2, 0, none⟩) (l + 1) cap2)) := Lib.hid (by go_simp)
              have HF3 : Hid ((w2.setCell ⟨W1.heap.size + 1, 0, none⟩ (.slice (some ⟨g2, 0, none⟩) (l + 1) cap2)).frozen? ⟨W1.heap.size + 1, 0, none⟩ = false) := Lib.hid (by go_simp)
              have HO3 : Hid (OwnI (w2.setCell ⟨W1.heap.size + 1, 0, none⟩ (.slice (some ⟨g2, 0, none⟩) (l + 1) cap2)) (W1.heap.size) (w2.setCell ⟨W1.heap.size + 1, 0, none⟩ (.slice (some ⟨g2, 0, none⟩) (l + 1) cap2)).heap.size (.slice (some ⟨g2, 0, none⟩) (l + 1) cap2) (L ++ [z])) := Lib.hid (by have h := own_set HO2.out (p := ⟨W1.heap.size + 1, 0, none⟩) (u := .slice (some ⟨g2, 0, none⟩) (l + 1) cap2) (by simp [Value.ownBlock]; omega); simpa [World.setCell] using h)
              have HB3 : Hid (Below (W1.heap.size) W1 (w2.setCell ⟨W1.heap.size + 1, 0, none⟩ (.slice (some ⟨g2, 0, none⟩) (l + 1) cap2))) := Lib.hid ((hb.out.trans (HBX.out.mono (Nat.le_refl _))).setCell (by show W1.heap.size ≤ W1.heap.size + 1; omega) _)
              have S0 : (w2.setCell ⟨W1.heap.size + 1, 0, none⟩ (.slice (some ⟨g2, 0, none⟩) (l + 1) cap2)).cell? ⟨g, o + j, none⟩ = some (.int .i64 z) := by go_simp
              refine hK.out _ _ S0 (fun hHeld => ?_)
              clear hK K
              try simp only [Act.put, List.setIfInBounds_toArray, List.set_cons_zero, List.set_cons_succ]
              refine wpAnyH_done (by kernel_rfl) ?_ _
              go_wp2_with fail
              go_roundw
              case rel => exact ⟨j + 1, l + 1, _, L ++ [z], g2, cap2, by omega, by omega, ⟨hge.1, by omega⟩, rfl, by go_num, Lib.hid (by simp [HLl.out]), ⟨(HO2.out.1.lt g2 rfl).1, hg2p⟩, HG, HC3, HF3, HO3, HB3⟩
              case measure => simp [intOf]; omega
            · go_simp
              refine hK.out _ _ (((below_box wr _).cell (p := ⟨g, o + j, none⟩) hgl).trans hce) (fun hHeld => ?_)
              clear hK K
              try simp only [Act.put, List.setIfInBounds_toArray, List.set_cons_zero, List.set_cons_succ]
              refine wpAnyH_ready (rs := [1]) (by kernel_rfl) (by simp) ?_
              refine AllReadyH.cons rfl (fun K hK => ?_) AllReadyH.nil
              go_simp
              refine hK.out _ ((wr.alloc (.cells #[.int .i64 z] 2)).drew) (((below_box wr _).cell (p := ⟨g, o + j, none⟩) hgl).trans hce) (fun hHeld => ?_)
              clear hK K
              try simp only [Act.put, List.setIfInBounds_toArray, List.set_cons_zero, List.set_cons_succ]
              refine wpAnyH_ready (rs := [7]) (by kernel_rfl) (by simp) ?_
              refine AllReadyH.cons rfl (fun K hK => ?_) AllReadyH.nil
              try simp only [List.getElem_toArray, List.getElem_cons_succ, List.getElem_cons_zero]
              rw [if_pos (by kernel_rfl)]
              refine wp_append_lies _ (.tmp 72) (.tmp 77) 24 ?b2 (W1.heap.size) 2 i0 (.int .i64 0) 1 8 Try.underlying24 hi0 hy0 hy1 hy2 rfl (by decide) (.slice (some ⟨g1, 0, none⟩) l c') l (L.map (.int .i64)) ?b3 ?b4 ⟨wr.heap.size, 0, none⟩ 1 1 [.int .i64 z] ?b5 rfl ?b6 ?b7 (by decide) ?b8 ?b9 ?b10 _ rfl ?b11
              case b2 => rfl
              case b3 => rfl
              case b5 => rfl
              case b4 => have h3 := ho.out.1; rw [HLl.out] at h3; exact World.ownsRow.alloc h3 _
              case b6 => exact World.news_of_block (cs := #[.int .i64 z]) (t := 2) (fr := (0, 0)) (heap_alloc_new wr _)
              case b7 => simp [Value.oneCell']
              case b8 => simp only [maxLen]; omega
              case b9 => omega
              case b10 => show W1.heap.size ≤ (wr.alloc _).heap.size; simp; omega
              intro g2 cap2 w2 hown2 hgrow hg2 _
              have hbx : Below (W1.heap.size) wr w2 := Below.grown (w := (wr.alloc (.cells #[.int .i64 z] 2)).drew) (below_drewN ((Below.refl _ _).alloc (by omega) _) 1) hgrow (by show W1.heap.size ≤ (wr.alloc _).heap.size; simp; omega) (fun k hk => (Own.lt ho.out.1 k hk).1)
              have HBX := Lib.hid hbx
              have hpa : W1.heap.size + 1 < (wr.alloc (.cells #[.int .i64 z] 2)).heap.size := by simp; omega
              have hpn : some (W1.heap.size + 1) ≠ (Value.slice (some ⟨g1, 0, none⟩) l c').ownBlock := by simp [Value.ownBlock]; omega
              have c3 : w2.cell? ⟨W1.heap.size + 1, 0, none⟩ = some (.slice (some ⟨g1, 0, none⟩) l c') := (hgrow.cell_far ⟨W1.heap.size + 1, 0, none⟩ hpa hpn).trans (((below_box wr _).cell (p := ⟨W1.heap.size + 1, 0, none⟩) hpb).trans hco)
              have f3 : w2.frozen? ⟨W1.heap.size + 1, 0, none⟩ = false := (hgrow.frozen_far ⟨W1.heap.size + 1, 0, none⟩ hpa hpn).trans (((below_box wr _).frozen (p := ⟨W1.heap.size + 1, 0, none⟩) hpb).trans hcf)
              have hg2p : g2 ≠ W1.heap.size + 1 := by rcases hg2 with h | h; (simp [Value.ownBlock] at h; omega); (have h9 : g2 = wr.heap.size + 1 := (by simpa using h)); omega
              have HO2 : Hid (OwnI w2 (W1.heap.size) w2.heap.size (.slice (some ⟨g2, 0, none⟩) (l + 1) cap2) (L ++ [z])) := Lib.hid (OwnI.mk' (n := l + 1) (by rw [List.map_append]; exact hown2))
              have s0 : w2.cell? ⟨g, o + j, none⟩ = some (.int .i64 z) := by rw [HBX.out.cell (p := ⟨g, o + j, none⟩) (by show g < _; omega)]; exact hce
              have hsz2 := HBX.out.size
              have hp2 : W1.heap.size + 1 < w2.heap.size := by omega
              refine hK.out _ _ s0 (fun hHeld => ?_)
              clear hK K hbx hown2 hgrow hg2 hpa hpn
              try simp only [Act.put, List.setIfInBounds_toArray, List.set_cons_zero, List.set_cons_succ]
              refine takeY 8 _ (v := ?_) rfl rfl (by kernel_rfl) (by kernel_rfl) (by kernel_rfl) (fun _ _ _ h => h) (by kernel_rfl) ?_ (by assumption) ?_
              rotate_left 1
              · intro w hSw; (try dsimp only at hSw); go_simp; (try with_reducible rfl)
              try simp only [Act.put, List.setIfInBounds_toArray, List.set_cons_zero, List.set_cons_succ]
              refine wpAnyH_ready (rs := [9]) (by kernel_rfl) (by simp) ?_
              refine AllReadyH.cons rfl (fun K hK => ?_) AllReadyH.nil
              go_simp
              have HC3 : Hid ((w2.setCell ⟨W1.heap.size + 1, 0, none⟩ (.slice (some ⟨g2, 0, none⟩) (l + 1) cap2)).cell? ⟨W1.heap.size + 1, 0, none⟩ = some (.slice (some ⟨g2, 0, none⟩) (l + 1) cap2)) := Lib.hid (by go_simp)
              have HF3 : Hid ((w2.setCell ⟨W1.heap.size + 1, 0, none⟩ (.slice (some ⟨g2, 0, none⟩) (l + 1) cap2)).frozen? ⟨W1.heap.size + 1, 0, none⟩ = false) := Lib.hid (by go_simp)
              have HO3 : Hid (OwnI (w2.setCell ⟨W1.heap.size + 1, 0, none⟩ (.slice (some ⟨g2, 0, none⟩) (l + 1) cap2)) (W1.heap.size) (w2.setCell ⟨W1.heap.size + 1, 0, none⟩ (.slice (some ⟨g2, 0, none⟩) (l + 1) cap2)).heap.size (.slice (some ⟨g2, 0, none⟩) (l + 1) cap2) (L ++ [z])) := Lib.hid (by have h := own_set HO2.out (p := ⟨W1.heap.size + 1, 0, none⟩) (u := .slice (some ⟨g2, 0, none⟩) (l + 1) cap2) (by simp [Value.ownBlock]; omega); simpa [World.setCell] using h)
              have HB3 : Hid (Below (W1.heap.size) W1 (w2.setCell ⟨W1.heap.size + 1, 0, none⟩ (.slice (some ⟨g2, 0, none⟩) (l + 1) cap2))) := Lib.hid ((hb.out.trans (HBX.out.mono (Nat.le_refl _))).setCell (by show W1.heap.size ≤ W1.heap.size + 1; omega) _)
              have S0 : (w2.setCell ⟨W1.heap.size + 1, 0, none⟩ (.slice (some ⟨g2, 0, none⟩) (l + 1) cap2)).cell? ⟨g, o + j, none⟩ = some (.int .i64 z) := by go_simp
              refine hK.out _ _ S0 (fun hHeld => ?_)
              clear hK K
              try simp only [Act.put, List.setIfInBounds_toArray, List.set_cons_zero, List.set_cons_succ]
              refine wpAnyH_done (by kernel_rfl) ?_ _
              go_wp2_with fail
              go_roundw
              case rel => exact ⟨j + 1, l + 1, _, L ++ [z], g2, cap2, by omega, by omega, ⟨hge.1, by omega⟩, rfl, by go_num, Lib.hid (by simp [HLl.out]), ⟨(HO2.out.1.lt g2 rfl).1, hg2p⟩, HG, HC3, HF3, HO3, HB3⟩
              case measure => simp [intOf]; omega
        · obtain rfl : j = k := by omega
          have HX : Hid (m :: exL m zs = L) := Lib.hid (by rw [hex.out, drop_end HL.out (Nat.le_refl _)]; simp [exL])
          have HWL : Hid (∀ z ∈ L, (Lit.int .i64 z).wf = true) := Lib.hid (by
            rw [← HX.out]
            refine wfs_of ?_
            intro z hz
            rcases List.mem_cons.1 hz with rfl | hz
            · omega
            · exact ex_range (boOK_yes OK.out).2.2 z hz)
          have HB2 := Lib.hid (BR.out.trans (hb.out.mono (by omega)))
          cases hp : brB L
          · have E := Lib.hid (bo_none OK.out (by rw [HX.out]; exact hp))
            have HP := Lib.hid hp
            clear hp
            go_wp2_with fail
            refine (l03Is_if _ L wr false ho.out.reads (by rw [HLl.out]; omega) HWL.out HP.out).mono ?_
            rintro e w6 ⟨rfl, hb6⟩
            obtain ⟨l2, l3, l4⟩ := S0.out.later (HB2.out.trans (hb6.mono (by omega)))
            have B6 := Lib.hid (S0.out.below.trans ((HB2.out.trans (hb6.mono (by omega))).mono (by omega)))
            clear hb6
            go_wp2_with fail
            have cr : (w6.setCell ⟨w.heap.size, 0, none⟩ (.slice none 0 0)).cell? ⟨w.heap.size, 0, none⟩ = some (.slice none 0 0) := by go_simp
            refine bodyPost_ret (v := .tuple #[.agg #[.slice none 0 0], .int .i64 5]) (by simp [results, Try.results43, go_sem, cr]) rfl ?_
            exact ansR_endG _ (Nat.le_refl _) E.out.1.symm E.out.2.symm (OwnI.nil _ _) (by intro h; cases h) B6.out _
          · have E := Lib.hid (bo_yes OK.out (by rw [HX.out]; exact hp))
            have HP := Lib.hid hp
            clear hp
            go_wp2_with fail
            refine (l03Is_if _ L wr true ho.out.reads (by rw [HLl.out]; omega) HWL.out HP.out).mono ?_
            rintro e w6 ⟨rfl, hb6⟩
            obtain ⟨l2, l3, l4⟩ := S0.out.later (HB2.out.trans (hb6.mono (by omega)))
            have B6 := Lib.hid (S0.out.below.trans ((HB2.out.trans (hb6.mono (by omega))).mono (by omega)))
            have hc6 : w6.cell? ⟨W1.heap.size + 1, 0, none⟩ = some (.slice (some ⟨g1, 0, none⟩) l c') := by rw [hb6.cell (p := ⟨W1.heap.size + 1, 0, none⟩) hpb]; exact hco
            have O6 : Hid (OwnI w6 W1.heap.size wr.heap.size (.slice (some ⟨g1, 0, none⟩) l c') L) := Lib.hid (ho.out.kept (Kept.of_below hb6 (Nat.le_refl _)))
            have hs6 := hb6.size
            clear hb6
            go_wp2_with fail
            have cr : (w6.setCell ⟨w.heap.size, 0, none⟩ (.slice (some ⟨g1, 0, none⟩) l c')).cell? ⟨w.heap.size, 0, none⟩ = some (.slice (some ⟨g1, 0, none⟩) l c') := by go_simp
            refine bodyPost_ret (v := .tuple #[.agg #[.slice (some ⟨g1, 0, none⟩) l c'], .int .i64 0]) (by simp [results, Try.results43, go_sem, cr]) rfl ?_
            exact ansR_endG _ (Nat.le_refl _) (by rw [E.out.1, HX.out]) E.out.2.symm ((own_lessB O6.out (by omega)).raise (by omega) (Nat.le_refl _)) (by simp [Value.ownBlock]; omega) B6.out _
end Go.Proofs.Ytmpbigkaadmihaa
