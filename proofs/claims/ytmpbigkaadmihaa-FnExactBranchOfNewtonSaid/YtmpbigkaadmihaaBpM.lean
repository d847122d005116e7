/- BranchOfPuiseux, the model's: contract. Conditions: stated at the theorem. -/
import Derived.Test.YtmpbigkaadmihaaBpS
import Derived.Test.YtmpbigkaadmihaaBrZ
import Derived.Test.YtmpbigkaadmihaaPrS
import Derived.Test.YtmpbigkaadmihaaSame2
import Derived.Test.YtmpbigkaadmihaaBrA
namespace Go.Proofs.Ytmpbigkaadmihaa
open Go.ChangeShapes Go.WideShapes Go.ChangeAt Go.RowKit
set_option linter.unusedVariables false
set_option linter.unusedSimpArgs false

theorem prL_wf {zs : List Int} (hp : brB zs = true) : ∀ x ∈ prL (ppF zs) (zs.length - 1), x.length ≤ 1048576 ∧ ∀ z ∈ x, (Lit.int .i64 z).wf = true := by
  have HZ := dcB_range (brB_dcB hp)
  have HD := dvL_pos HZ (e := 0)
  intro x hx
  simp only [prL, List.mem_map, List.mem_range] at hx
  obtain ⟨i, hi, rfl⟩ := hx
  have hl := dvL_len 0 zs
  have h1 := HZ (zs[i + 1]?.getD 0) (by simp [show i + 1 < zs.length by omega])
  have h2 := HD ((dvL 0 zs)[i + 1]?.getD 0) (by simp [show i + 1 < (dvL 0 zs).length by omega])
  have h3 := HD ((dvL 0 zs)[i]?.getD 0) (by simp [show i < (dvL 0 zs).length by omega])
  have h4 := tdiv_range h1 h2.1
  have h5 := tdiv_range h3 h2.1
  refine ⟨by simp, fun z hz => ?_⟩
  simp only [ppF, List.mem_cons, List.not_mem_nil, or_false] at hz
  rcases hz with rfl | rfl
  · exact i64_wf (by omega) (by omega)
  · exact i64_wf (by omega) (by omega)

set_option maxHeartbeats 4000000 in
theorem specBranchOfPuiseux_any (v : Value) (zs : List (List Int)) (w : World) (h : ReadQ w w.heap.size v zs) (hsz : szTot zs ≤ 1048576) (hw' : ∀ x ∈ zs, x.length ≤ 9223372036854775807 ∧ ∀ z ∈ x, (Lit.int .i64 z).wf = true) :
    Calls Try.prog 31 #[v] w (AnsRC w (bpA zs) (bpC zs)) := by
  have hw : ∀ x ∈ zs, ∀ z ∈ x, (Lit.int .i64 z).wf = true := fun x hx => (hw' x hx).2
  clear hw'
  obtain ⟨W0, HE⟩ : ∃ W, W = w.alloc (.cells #[.slice none 0 0] 26) := ⟨_, rfl⟩
  have hS0 : Start1 w W0 := by rw [HE]; exact Start1.new _
  have hb0 := hS0.below
  have HR := Lib.hid ((h.below hb0).more hb0.size)
  have S0 := Lib.hid hS0
  have HEQ := Lib.hid HE
  have HW := Lib.hid hw
  have hsw : w.heap.size < W0.heap.size := hS0.res.2
  have hsw1 : W0.heap.size = w.heap.size + 1 := hS0.size
  have HRW := Lib.hid (h.below hb0)
  clear h hw hb0 hS0 HE hsz
  cases hp : bpB zs
  · have E := Lib.hid (bp_no hp)
    have HP := Lib.hid (pdV_no hp)
    clear hp
    go_enter Try.func31, Try.ntmps31
    go_wp2_with fail
    rw [← HEQ.out]
    refine (l03Pairs_any v zs W0 HR.out HW.out).mono ?_
    rintro e w1 ⟨rfl, hbl⟩
    rw [HP.out]
    obtain ⟨l2, l3, l4⟩ := S0.out.later hbl
    have B1 := Lib.hid (S0.out.below.trans (hbl.mono (by omega)))
    clear hbl
    go_wp2_with fail
    have cr : (w1.setCell ⟨w.heap.size, 0, none⟩ (.slice none 0 0)).cell? ⟨w.heap.size, 0, none⟩ = some (.slice none 0 0) := by go_simp
    refine bodyPost_ret (v := .tuple #[.agg #[.slice none 0 0], .int .i64 2]) (by simp [results, Try.results31, go_sem, cr]) rfl ?_
    exact ansR_endG _ (Nat.le_refl _) E.out.1.symm E.out.2.symm (OwnI.nil _ _) (by intro h; cases h) B1.out _
  have OKB := Lib.hid (bpB_ok hp)
  have HPB : Hid (∀ z ∈ zs, pairB z = true) := Lib.hid (by simp only [bpB, Bool.and_eq_true] at hp; exact pd_pairs hp.2)
  have E := Lib.hid (bp_yes hp)
  have HP := Lib.hid (pdV_yes hp)
  have hrq := HRW.out
  obtain ⟨A, c, rfl, h0, hN, hnc, hF, hcm⟩ := hrq
  have H0 := Lib.hid h0
  have HF := Lib.hid hF
  generalize hL : zs.length = n at *
  have HL := Lib.hid hL
  have HLP : Hid ((psOf zs).length = n) := Lib.hid (by rw [psOf_len]; exact hL)
  have h6 : n ≤ 6 := OKB.out.2
  have hpr := OKB.out.1.e 0
  simp only [List.drop_zero] at hpr
  have E0 : Hid (prdL ((psOf zs).drop 0) = prdL (psOf zs)) := Lib.hid (by simp)
  obtain ⟨m, hm⟩ : ∃ m, m = prdL (psOf zs) := ⟨_, rfl⟩
  rw [← hm] at hpr HP E0
  have HM := Lib.hid hm
  clear hp hL hm h0 hN hF HRW
  go_enter Try.func31, Try.ntmps31
  go_wp2_with fail
  rw [← HEQ.out]
  refine (l03Pairs_any _ zs W0 HR.out HW.out).mono ?_
  rintro e W1 ⟨rfl, hbl⟩
  rw [HP.out]
  have BR := Lib.hid hbl
  have H1 : Hid (∀ k, k < n → ∃ a u, A = some a ∧ a.block < w.heap.size ∧ W1.cell? (a.add k) = some u ∧ ReadI W1 w.heap.size u (zs.getD k [])) := Lib.hid (fun k hk => by
    obtain ⟨a, u, e1, h1, h2, h3⟩ := H0.out k hk
    exact ⟨a, u, e1, h1, (hbl.cell (by rw [add_block]; omega)).trans h2, h3.below (hbl.mono (by omega))⟩)
  have hszr := hbl.size
  have hm0 : (m == 0) = false := by simp; omega
  have hm1 : ¬ m = 0 := by omega
  have HO1 : Hid (OwnI ((W1.alloc (.cells #[.int .i64 m] 2)).alloc (.cells #[.slice (some ⟨W1.heap.size, 0, none⟩) 1 1] 26)) W1.heap.size ((W1.alloc (.cells #[.int .i64 m] 2)).alloc (.cells #[.slice (some ⟨W1.heap.size, 0, none⟩) 1 1] 26)).heap.size (.slice (some ⟨W1.heap.size, 0, none⟩) 1 1) [m]) := Lib.hid (OwnI.mk' (n := 1) (World.ownsRow.alloc (World.ownsRow_lit (base := W1.heap.size) W1 #[.int .i64 m] 1 (Nat.le_refl _) (by simp [maxLen]) rfl) _))
  have HC1 : Hid (((W1.alloc (.cells #[.int .i64 m] 2)).alloc (.cells #[.slice (some ⟨W1.heap.size, 0, none⟩) 1 1] 26)).cell? ⟨W1.heap.size + 1, 0, none⟩ = some (.slice (some ⟨W1.heap.size, 0, none⟩) 1 1)) := Lib.hid (by go_simp)
  have HF1 : Hid (((W1.alloc (.cells #[.int .i64 m] 2)).alloc (.cells #[.slice (some ⟨W1.heap.size, 0, none⟩) 1 1] 26)).frozen? ⟨W1.heap.size + 1, 0, none⟩ = false) := Lib.hid (by go_simp)
  have HBL : Hid (Below W1.heap.size W1 ((W1.alloc (.cells #[.int .i64 m] 2)).alloc (.cells #[.slice (some ⟨W1.heap.size, 0, none⟩) 1 1] 26))) := Lib.hid (((Below.refl _ _).alloc (Nat.le_refl _) _).alloc (by simp) _)
  have EX0 : Hid ([m] = m :: (tmL (psOf zs)).take 0) := Lib.hid (by simp)
  obtain ⟨i0, hi0, hy0, hy1, hy2⟩ := info_parts int_info
  clear hbl H0
  go_wp2_with fail
  go_loopw [6, 7] (fun ve vi wr => ∃ (j l : Nat) (x : Int) (L : List Int) (g1 : Nat) (c' : Nat), j ≤ n ∧ l = j + 1 ∧ (1 ≤ x ∧ x ≤ 64) ∧ ve = .int .i64 x ∧ vi = .int .i64 j ∧ Hid (L.length = l) ∧ (W1.heap.size ≤ g1 ∧ g1 ≠ W1.heap.size + 1) ∧ Hid (prdL ((psOf zs).drop j) = x) ∧ Hid (L = m :: (tmL (psOf zs)).take j) ∧ Hid (wr.cell? ⟨W1.heap.size + 1, 0, none⟩ = some (.slice (some ⟨g1, 0, none⟩) l c')) ∧ Hid (wr.frozen? ⟨W1.heap.size + 1, 0, none⟩ = false) ∧ Hid (OwnI wr W1.heap.size wr.heap.size (.slice (some ⟨g1, 0, none⟩) l c') L) ∧ Hid (Below W1.heap.size W1 wr)) (fun _ vi _ => n - (intOf vi).toNat)
  case atStart => exact ⟨0, 1, m, [m], W1.heap.size, 1, by omega, by omega, hpr, rfl, rfl, Lib.hid rfl, ⟨Nat.le_refl _, by omega⟩, E0, EX0, HC1, HF1, HO1, HBL⟩
  case round =>
    clear HO1 HC1 HF1 HBL EX0 E0
    obtain ⟨j, l, x, L, g1, c', hj, hlj, hx, rfl, rfl, HLl, ⟨hlo, hg1p⟩, hex, hLe, hco0, hcf0, ho, hb⟩ := hrel
    have hco := hco0.out
    have hcf := hcf0.out
    have HLJ := Lib.hid hlj
    have hl7 : l ≤ 64 := by omega
    clear hlj
    have hpb : W1.heap.size + 1 < wr.heap.size := World.block_lt_of_cell? wr ⟨W1.heap.size + 1, 0, none⟩ hco
    by_cases hlt : j < n
    · obtain ⟨a0, u, rfl, hal, hcell0, hri⟩ := H1.out j hlt
      obtain ⟨g, o, rfl⟩ := HF.out a0 rfl
      have hgl0 : g < w.heap.size := hal
      have hgl : g < wr.heap.size := by omega
      have HJP : Hid (j < (psOf zs).length) := Lib.hid (by have := HLP.out; omega)
      have HJZ : Hid (j < zs.length) := Lib.hid (by have := HL.out; omega)
      have hzb : pairB (zs.getD j []) = true := HPB.out _ (by have := HJZ.out; simp [List.getD, this])
      obtain ⟨a, b, hz, ha, hb9, hpo⟩ := pairB_form hzb
      have HPF : Hid (pF (psOf zs) j = (a, b)) := Lib.hid (by rw [psOf_at HJZ.out, hz]; rw [hz] at hpo; exact hpo)
      have hri2 := (hri.below (hb.out.mono (by omega)))
      rw [hz] at hri2
      obtain ⟨q, A', c2, rfl, hr', HL', HN', hnc', HF', hcm'⟩ := hri2.split2
      obtain rfl : q = 2 := by have := HL'.out; simp at this; omega
      obtain ⟨a1, rfl, hal1, hc1⟩ := hr'.2 0 (by omega)
      obtain ⟨g', o', rfl⟩ := HF'.out a1 rfl
      obtain ⟨a2, e2, _, hc2⟩ := hr'.2 1 (by omega)
      cases e2
      have hal1' : g' < w.heap.size := hal1
      have hgl' : g' < wr.heap.size := by omega
      have hca : wr.cell? ⟨g', o', none⟩ = some (.int .i64 a) := by simpa [Addr.add] using hc1
      have hcb : wr.cell? ⟨g', o' + 1, none⟩ = some (.int .i64 b) := by simpa [Addr.add] using hc2
      have hce : wr.cell? ⟨g, o + j, none⟩ = some (.slice (some ⟨g', o', none⟩) 2 c2) := by rw [← add_lit, hb.out.cell (by rw [add_block]; show g < _; omega)]; exact hcell0
      obtain ⟨y, hy⟩ : ∃ y, y = prdL ((psOf zs).drop (j + 1)) := ⟨_, rfl⟩
      have hyr := OKB.out.1.e (j + 1)
      rw [← hy] at hyr
      have HX : Hid (x = b * y) := Lib.hid (by rw [← hex.out, prdL_drop HJP.out, HPF.out, ← hy])
      have HT : Hid (tmF (psOf zs) j = a * y) := Lib.hid (by rw [tmF, HPF.out, ← hy])
      have HY : Hid (prdL ((psOf zs).drop (j + 1)) = y) := Lib.hid hy.symm
      have hay := mul_range ha hyr
      have p1 : IntKind.i64.wrap (a * y) = a * y := IntWalk.i64_in _ (by omega)
      have hb0 : (b == 0) = false := by simp; omega
      have hb1 : ¬ b = 0 := by omega
      have hdv : x.tdiv b = y := by rw [HX.out]; exact Int.mul_tdiv_cancel_left y hb1
      have p2 : IntKind.i64.wrap (x.tdiv b) = y := by rw [hdv]; exact IntWalk.i64_in _ (by omega)
      have hjn : (j : Int) < (n : Int) := by omega
      have hj9 : (0 : Int) ≤ (j : Int) := by omega
      have HG : Hid (L ++ [a * y] = m :: (tmL (psOf zs)).take (j + 1)) := Lib.hid (by
        have e1 : j < (tmL (psOf zs)).length := by rw [tmL_len]; exact HJP.out
        have e2 := tmL_at HJP.out
        rw [List.take_succ_eq_append_getElem e1, hLe.out, ← HT.out, ← e2]
        simp [List.getD, e1])
      have hg1p' : g1 ≠ W1.heap.size + 1 := hg1p
      generalize hzz : a * y = zz at *
      clear hy hz hpo hzb hri hri2 hr' HF' hc1 hc2 hcell0 HT HX hex
      go_wp2_with fail
      clear hdv p2
      refine wp_region_held_drew (S := fun w' => w'.cell? ⟨g, o + j, none⟩ = some (.slice (some ⟨g', o', none⟩) 2 c2) ∧ w'.cell? ⟨g', o', none⟩ = some (.int .i64 a)) (by kernel_rfl) ⟨hce, hca⟩ (fun hHeld => ?_)
      refine takeY 0 _ (v := ?_) rfl rfl (by kernel_rfl) (by kernel_rfl) (by kernel_rfl) (fun _ _ _ h => h) (by kernel_rfl) ?_ (by assumption) ?_
      rotate_left 1
      · intro w hSw; (try dsimp only at hSw); go_simp; (try with_reducible rfl)
      try simp only [Act.put, List.setIfInBounds_toArray, List.set_cons_zero, List.set_cons_succ]
      refine takeY 2 _ (v := ?_) rfl rfl (by kernel_rfl) (by kernel_rfl) (by kernel_rfl) (fun _ _ _ h => h) (by kernel_rfl) ?_ (by assumption) ?_
      rotate_left 1
      · intro w hSw; (try dsimp only at hSw); go_simp; (try with_reducible rfl)
      try simp only [Act.put, List.setIfInBounds_toArray, List.set_cons_zero, List.set_cons_succ]
      refine takeY 3 _ (v := ?_) rfl rfl (by kernel_rfl) (by kernel_rfl) (by kernel_rfl) (fun _ _ _ h => h) (by kernel_rfl) ?_ (by assumption) ?_
      rotate_left 1
      · intro w hSw; (try dsimp only at hSw); go_simp; (try with_reducible rfl)
      try simp only [Act.put, List.setIfInBounds_toArray, List.set_cons_zero, List.set_cons_succ]
      refine takeY 4 _ (v := ?_) rfl rfl (by kernel_rfl) (by kernel_rfl) (by kernel_rfl) (fun _ _ _ h => h) (by kernel_rfl) ?_ (by assumption) ?_
      rotate_left 1
      · intro w hSw; (try dsimp only at hSw); go_simp; (try with_reducible rfl)
      try simp only [Act.put, List.setIfInBounds_toArray, List.set_cons_zero, List.set_cons_succ]
      refine takeY 5 _ (v := ?_) rfl rfl (by kernel_rfl) (by kernel_rfl) (by kernel_rfl) (fun _ _ _ h => h) (by kernel_rfl) ?_ (by assumption) ?_
      rotate_left 1
      · intro w hSw; (try dsimp only at hSw); go_simp; (try with_reducible rfl)
      try simp only [Act.put, List.setIfInBounds_toArray, List.set_cons_zero, List.set_cons_succ]
      refine takeY 6 _ (v := ?_) rfl rfl (by kernel_rfl) (by kernel_rfl) (by kernel_rfl) (fun _ _ _ h => h) (by kernel_rfl) ?_ (by assumption) ?_
      rotate_left 1
      · intro w hSw; (try dsimp only at hSw); go_simp; (try with_reducible rfl)
      try simp only [Act.put, List.setIfInBounds_toArray, List.set_cons_zero, List.set_cons_succ]
      refine takeY 7 _ (v := ?_) rfl rfl (by kernel_rfl) (by kernel_rfl) (by kernel_rfl) (fun _ _ _ h => h) (by kernel_rfl) ?_ (by assumption) ?_
      rotate_left 1
      · intro w hSw; (try dsimp only at hSw); go_simp; (try with_reducible rfl)
      try simp only [Act.put, List.setIfInBounds_toArray, List.set_cons_zero, List.set_cons_succ]
      refine takeY 8 _ (v := ?_) rfl rfl (by kernel_rfl) (by kernel_rfl) (by kernel_rfl) (fun _ _ _ h => h) (by kernel_rfl) ?_ (by assumption) ?_
      rotate_left 1
      · intro w hSw; (try dsimp only at hSw); go_simp; (try with_reducible rfl)
      try simp only [Act.put, List.setIfInBounds_toArray, List.set_cons_zero, List.set_cons_succ]
      refine takeY 9 _ (v := ?_) rfl rfl (by kernel_rfl) (by kernel_rfl) (by kernel_rfl) (fun _ _ _ h => h) (by kernel_rfl) ?_ (by assumption) ?_
      rotate_left 1
      · intro w hSw; (try dsimp only at hSw); go_simp; (try with_reducible rfl)
      try simp only [Act.put, List.setIfInBounds_toArray, List.set_cons_zero, List.set_cons_succ]
      refine wpAnyH_ready (rs := [1, 10]) (by kernel_rfl) (by simp) ?_
      refine AllReadyH.cons rfl (fun K hK => ?_) (AllReadyH.cons rfl (fun K hK => ?_) AllReadyH.nil)
      · go_simp
        refine hK.out _ (wr.drew) ⟨hce, hca⟩ (fun hHeld => ?_)
        clear hK K
        try simp only [Act.put, List.setIfInBounds_toArray, List.set_cons_zero, List.set_cons_succ]
        refine wpAnyH_ready (rs := [10]) (by kernel_rfl) (by simp) ?_
        refine AllReadyH.cons rfl (fun K hK => ?_) AllReadyH.nil
        go_simp
        refine hK.out _ _ ⟨((below_box wr _).cell (p := ⟨g, o + j, none⟩) hgl).trans hce, ((below_box wr _).cell (p := ⟨g', o', none⟩) hgl').trans hca⟩ (fun hHeld => ?_)
        clear hK K
        try simp only [Act.put, List.setIfInBounds_toArray, List.set_cons_zero, List.set_cons_succ]
        refine wpAnyH_ready (rs := [11]) (by kernel_rfl) (by simp) ?_
        refine AllReadyH.cons rfl (fun K hK => ?_) AllReadyH.nil
        try simp only [List.getElem_toArray, List.getElem_cons_succ, List.getElem_cons_zero]
        rw [if_pos (by kernel_rfl)]
        refine wp_append_lies _ (.tmp 32) (.tmp 41) 24 ?hb2 (W1.heap.size) 2 i0 (.int .i64 0) 1 8 Try.underlying24 hi0 hy0 hy1 hy2 rfl (by decide) (.slice (some ⟨g1, 0, none⟩) l c') l (L.map (.int .i64)) ?hb3 ?hb4 ⟨wr.heap.size, 0, none⟩ 1 1 [.int .i64 zz] ?hb5 rfl ?hb6 ?hb7 (by decide) ?hb8 ?hb9 ?hb10 _ rfl ?hb11
        case hb2 => rfl
        case hb3 => rfl
        case hb5 => rfl
        case hb4 => have h3 := ho.out.1; rw [HLl.out] at h3; exact World.ownsRow.alloc h3 _
        case hb6 => exact World.news_of_block (cs := #[.int .i64 zz]) (t := 2) (fr := (0, 0)) (heap_alloc_new wr _)
        case hb7 => simp [Value.oneCell']
        case hb8 => simp only [maxLen]; omega
        case hb9 => omega
        case hb10 => show W1.heap.size ≤ (wr.alloc _).heap.size; simp; omega
        intro g2 cap2 w2 hown2 hgrow hg2 _
        have hbx : Below (W1.heap.size) wr w2 := Below.grown (w := (wr.alloc (.cells #[.int .i64 zz] 2)).drew) (below_drewN ((Below.refl _ _).alloc (by omega) _) 1) hgrow (by show W1.heap.size ≤ (wr.alloc _).heap.size; simp; omega) (fun k hk => (Own.lt ho.out.1 k hk).1)
        have HBX := Lib.hid hbx
        have hpa : W1.heap.size + 1 < (wr.alloc (.cells #[.int .i64 zz] 2)).heap.size := by simp; omega
        have hpn : some (W1.heap.size + 1) ≠ (Value.slice (some ⟨g1, 0, none⟩) l c').ownBlock := by simp [Value.ownBlock]; omega
        have c3 : w2.cell? ⟨W1.heap.size + 1, 0, none⟩ = some (.slice (some ⟨g1, 0, none⟩) l c') := (hgrow.cell_far ⟨W1.heap.size + 1, 0, none⟩ hpa hpn).trans (((below_box wr _).cell (p := ⟨W1.heap.size + 1, 0, none⟩) hpb).trans hco)
        have f3 : w2.frozen? ⟨W1.heap.size + 1, 0, none⟩ = false := (hgrow.frozen_far ⟨W1.heap.size + 1, 0, none⟩ hpa hpn).trans (((below_box wr _).frozen (p := ⟨W1.heap.size + 1, 0, none⟩) hpb).trans hcf)
        have hg2p : g2 ≠ W1.heap.size + 1 := by rcases hg2 with h | h; (simp [Value.ownBlock] at h; omega); (have h9 : g2 = wr.heap.size + 1 := (by simpa using h)); omega
        have HO2 : Hid (OwnI w2 (W1.heap.size) w2.heap.size (.slice (some ⟨g2, 0, none⟩) (l + 1) cap2) (L ++ [zz])) := Lib.hid (OwnI.mk' (n := l + 1) (by rw [List.map_append]; exact hown2))
        have sa0 : w2.cell? ⟨g, o + j, none⟩ = some (.slice (some ⟨g', o', none⟩) 2 c2) := by rw [HBX.out.cell (p := ⟨g, o + j, none⟩) (by show g < _; omega)]; exact hce
        have sa1 : w2.cell? ⟨g', o', none⟩ = some (.int .i64 a) := by rw [HBX.out.cell (p := ⟨g', o', none⟩) (by show g' < _; omega)]; exact hca
        have hsz2 := HBX.out.size
        have hp2 : W1.heap.size + 1 < w2.heap.size := by omega
        refine hK.out _ _ ⟨sa0, sa1⟩ (fun hHeld => ?_)
        clear hK K hbx hown2 hgrow hg2 hpa hpn
        try simp only [Act.put, List.setIfInBounds_toArray, List.set_cons_zero, List.set_cons_succ]
        refine takeY 12 _ (v := ?_) rfl rfl (by kernel_rfl) (by kernel_rfl) (by kernel_rfl) (fun _ _ _ h => h) (by kernel_rfl) ?_ (by assumption) ?_
        rotate_left 1
        · intro w hSw; (try dsimp only at hSw); go_simp; (try with_reducible rfl)
        try simp only [Act.put, List.setIfInBounds_toArray, List.set_cons_zero, List.set_cons_succ]
        refine wpAnyH_ready (rs := [13]) (by kernel_rfl) (by simp) ?_
        refine AllReadyH.cons rfl (fun K hK => ?_) AllReadyH.nil
        go_simp
        have HC3 : Hid ((w2.setCell ⟨W1.heap.size + 1, 0, none⟩ (.slice (some ⟨g2, 0, none⟩) (l + 1) cap2)).cell? ⟨W1.heap.size + 1, 0, none⟩ = some (.slice (some ⟨g2, 0, none⟩) (l + 1) cap2)) := Lib.hid (by go_simp)
        have HF3 : Hid ((w2.setCell ⟨W1.heap.size + 1, 0, none⟩ (.slice (some ⟨g2, 0, none⟩) (l + 1) cap2)).frozen? ⟨W1.heap.size + 1, 0, none⟩ = false) := Lib.hid (by go_simp)
        have HO3 : Hid (OwnI (w2.setCell ⟨W1.heap.size + 1, 0, none⟩ (.slice (some ⟨g2, 0, none⟩) (l + 1) cap2)) (W1.heap.size) (w2.setCell ⟨W1.heap.size + 1, 0, none⟩ (.slice (some ⟨g2, 0, none⟩) (l + 1) cap2)).heap.size (.slice (some ⟨g2, 0, none⟩) (l + 1) cap2) (L ++ [zz])) := Lib.hid (by have h := own_set HO2.out (p := ⟨W1.heap.size + 1, 0, none⟩) (u := .slice (some ⟨g2, 0, none⟩) (l + 1) cap2) (by simp [Value.ownBlock]; omega); simpa [World.setCell] using h)
        have HB3 : Hid (Below (W1.heap.size) W1 (w2.setCell ⟨W1.heap.size + 1, 0, none⟩ (.slice (some ⟨g2, 0, none⟩) (l + 1) cap2))) := Lib.hid ((hb.out.trans (HBX.out.mono (Nat.le_refl _))).setCell (by show W1.heap.size ≤ W1.heap.size + 1; omega) _)
        have sb0 : (w2.setCell ⟨W1.heap.size + 1, 0, none⟩ (.slice (some ⟨g2, 0, none⟩) (l + 1) cap2)).cell? ⟨g, o + j, none⟩ = some (.slice (some ⟨g', o', none⟩) 2 c2) := by go_simp
        have sb1 : (w2.setCell ⟨W1.heap.size + 1, 0, none⟩ (.slice (some ⟨g2, 0, none⟩) (l + 1) cap2)).cell? ⟨g', o', none⟩ = some (.int .i64 a) := by go_simp
        refine hK.out _ _ ⟨sb0, sb1⟩ (fun hHeld => ?_)
        clear hK K
        try simp only [Act.put, List.setIfInBounds_toArray, List.set_cons_zero, List.set_cons_succ]
        refine wpAnyH_done (by kernel_rfl) ?_ _
        go_wp2_with fail
        go_roundw
        case rel => exact ⟨j + 1, l + 1, y, L ++ [zz], g2, cap2, by omega, by have := HLJ.out; omega, hyr, rfl, by go_num, Lib.hid (by simp [HLl.out]), ⟨(HO2.out.1.lt g2 rfl).1, hg2p⟩, HY, HG, HC3, HF3, HO3, HB3⟩
        case measure => simp [intOf]; omega
      · go_simp
        refine hK.out _ _ ⟨((below_box wr _).cell (p := ⟨g, o + j, none⟩) hgl).trans hce, ((below_box wr _).cell (p := ⟨g', o', none⟩) hgl').trans hca⟩ (fun hHeld => ?_)
        clear hK K
        try simp only [Act.put, List.setIfInBounds_toArray, List.set_cons_zero, List.set_cons_succ]
        refine wpAnyH_ready (rs := [1]) (by kernel_rfl) (by simp) ?_
        refine AllReadyH.cons rfl (fun K hK => ?_) AllReadyH.nil
        go_simp
        refine hK.out _ ((wr.alloc (.cells #[.int .i64 zz] 2)).drew) ⟨((below_box wr _).cell (p := ⟨g, o + j, none⟩) hgl).trans hce, ((below_box wr _).cell (p := ⟨g', o', none⟩) hgl').trans hca⟩ (fun hHeld => ?_)
        clear hK K
        try simp only [Act.put, List.setIfInBounds_toArray, List.set_cons_zero, List.set_cons_succ]
        refine wpAnyH_ready (rs := [11]) (by kernel_rfl) (by simp) ?_
        refine AllReadyH.cons rfl (fun K hK => ?_) AllReadyH.nil
        try simp only [List.getElem_toArray, List.getElem_cons_succ, List.getElem_cons_zero]
        rw [if_pos (by kernel_rfl)]
        refine wp_append_lies _ (.tmp 32) (.tmp 41) 24 ?hc2 (W1.heap.size) 2 i0 (.int .i64 0) 1 8 Try.underlying24 hi0 hy0 hy1 hy2 rfl (by decide) (.slice (some ⟨g1, 0, none⟩) l c') l (L.map (.int .i64)) ?hc3 ?hc4 ⟨wr.heap.size, 0, none⟩ 1 1 [.int .i64 zz] ?hc5 rfl ?hc6 ?hc7 (by decide) ?hc8 ?hc9 ?hc10 _ rfl ?hc11
        case hc2 => rfl
        case hc3 => rfl
        case hc5 => rfl
        case hc4 => have h3 := ho.out.1; rw [HLl.out] at h3; exact World.ownsRow.alloc h3 _
        case hc6 => exact World.news_of_block (cs := #[.int .i64 zz]) (t := 2) (fr := (0, 0)) (heap_alloc_new wr _)
        case hc7 => simp [Value.oneCell']
        case hc8 => simp only [maxLen]; omega
        case hc9 => omega
        case hc10 => show W1.heap.size ≤ (wr.alloc _).heap.size; simp; omega
        intro g2 cap2 w2 hown2 hgrow hg2 _
        have hbx : Below (W1.heap.size) wr w2 := Below.grown (w := (wr.alloc (.cells #[.int .i64 zz] 2)).drew) (below_drewN ((Below.refl _ _).alloc (by omega) _) 1) hgrow (by show W1.heap.size ≤ (wr.alloc _).heap.size; simp; omega) (fun k hk => (Own.lt ho.out.1 k hk).1)
        have HBX := Lib.hid hbx
        have hpa : W1.heap.size + 1 < (wr.alloc (.cells #[.int .i64 zz] 2)).heap.size := by simp; omega
        have hpn : some (W1.heap.size + 1) ≠ (Value.slice (some ⟨g1, 0, none⟩) l c').ownBlock := by simp [Value.ownBlock]; omega
        have c3 : w2.cell? ⟨W1.heap.size + 1, 0, none⟩ = some (.slice (some ⟨g1, 0, none⟩) l c') := (hgrow.cell_far ⟨W1.heap.size + 1, 0, none⟩ hpa hpn).trans (((below_box wr _).cell (p := ⟨W1.heap.size + 1, 0, none⟩) hpb).trans hco)
        have f3 : w2.frozen? ⟨W1.heap.size + 1, 0, none⟩ = false := (hgrow.frozen_far ⟨W1.heap.size + 1, 0, none⟩ hpa hpn).trans (((below_box wr _).frozen (p := ⟨W1.heap.size + 1, 0, none⟩) hpb).trans hcf)
        have hg2p : g2 ≠ W1.heap.size + 1 := by rcases hg2 with h | h; (simp [Value.ownBlock] at h; omega); (have h9 : g2 = wr.heap.size + 1 := (by simpa using h)); omega
        have HO2 : Hid (OwnI w2 (W1.heap.size) w2.heap.size (.slice (some ⟨g2, 0, none⟩) (l + 1) cap2) (L ++ [zz])) := Lib.hid (OwnI.mk' (n := l + 1) (by rw [List.map_append]; exact hown2))
        have sa0 : w2.cell? ⟨g, o + j, none⟩ = some (.slice (some ⟨g', o', none⟩) 2 c2) := by rw [HBX.out.cell (p := ⟨g, o + j, none⟩) (by show g < _; omega)]; exact hce
        have sa1 : w2.cell? ⟨g', o', none⟩ = some (.int .i64 a) := by rw [HBX.out.cell (p := ⟨g', o', none⟩) (by show g' < _; omega)]; exact hca
        have hsz2 := HBX.out.size
        have hp2 : W1.heap.size + 1 < w2.heap.size := by omega
        refine hK.out _ _ ⟨sa0, sa1⟩ (fun hHeld => ?_)
        clear hK K hbx hown2 hgrow hg2 hpa hpn
        try simp only [Act.put, List.setIfInBounds_toArray, List.set_cons_zero, List.set_cons_succ]
        refine takeY 12 _ (v := ?_) rfl rfl (by kernel_rfl) (by kernel_rfl) (by kernel_rfl) (fun _ _ _ h => h) (by kernel_rfl) ?_ (by assumption) ?_
        rotate_left 1
        · intro w hSw; (try dsimp only at hSw); go_simp; (try with_reducible rfl)
        try simp only [Act.put, List.setIfInBounds_toArray, List.set_cons_zero, List.set_cons_succ]
        refine wpAnyH_ready (rs := [13]) (by kernel_rfl) (by simp) ?_
        refine AllReadyH.cons rfl (fun K hK => ?_) AllReadyH.nil
        go_simp
        have HC3 : Hid ((w2.setCell ⟨W1.heap.size + 1, 0, none⟩ (.slice (some ⟨g2, 0, none⟩) (l + 1) cap2)).cell? ⟨W1.heap.size + 1, 0, none⟩ = some (.slice (some ⟨g2, 0, none⟩) (l + 1) cap2)) := Lib.hid (by go_simp)
        have HF3 : Hid ((w2.setCell ⟨W1.heap.size + 1, 0, none⟩ (.slice (some ⟨g2, 0, none⟩) (l + 1) cap2)).frozen? ⟨W1.heap.size + 1, 0, none⟩ = false) := Lib.hid (by go_simp)
        have HO3 : Hid (OwnI (w2.setCell ⟨W1.heap.size + 1, 0, none⟩ (.slice (some ⟨g2, 0, none⟩) (l + 1) cap2)) (W1.heap.size) (w2.setCell ⟨W1.heap.size + 1, 0, none⟩ (.slice (some ⟨g2, 0, none⟩) (l + 1) cap2)).heap.size (.slice (some ⟨g2, 0, none⟩) (l + 1) cap2) (L ++ [zz])) := Lib.hid (by have h := own_set HO2.out (p := ⟨W1.heap.size + 1, 0, none⟩) (u := .slice (some ⟨g2, 0, none⟩) (l + 1) cap2) (by simp [Value.ownBlock]; omega); simpa [World.setCell] using h)
        have HB3 : Hid (Below (W1.heap.size) W1 (w2.setCell ⟨W1.heap.size + 1, 0, none⟩ (.slice (some ⟨g2, 0, none⟩) (l + 1) cap2))) := Lib.hid ((hb.out.trans (HBX.out.mono (Nat.le_refl _))).setCell (by show W1.heap.size ≤ W1.heap.size + 1; omega) _)
        have sb0 : (w2.setCell ⟨W1.heap.size + 1, 0, none⟩ (.slice (some ⟨g2, 0, none⟩) (l + 1) cap2)).cell? ⟨g, o + j, none⟩ = some (.slice (some ⟨g', o', none⟩) 2 c2) := by go_simp
        have sb1 : (w2.setCell ⟨W1.heap.size + 1, 0, none⟩ (.slice (some ⟨g2, 0, none⟩) (l + 1) cap2)).cell? ⟨g', o', none⟩ = some (.int .i64 a) := by go_simp
        refine hK.out _ _ ⟨sb0, sb1⟩ (fun hHeld => ?_)
        clear hK K
        try simp only [Act.put, List.setIfInBounds_toArray, List.set_cons_zero, List.set_cons_succ]
        refine wpAnyH_done (by kernel_rfl) ?_ _
        go_wp2_with fail
        go_roundw
        case rel => exact ⟨j + 1, l + 1, y, L ++ [zz], g2, cap2, by omega, by have := HLJ.out; omega, hyr, rfl, by go_num, Lib.hid (by simp [HLl.out]), ⟨(HO2.out.1.lt g2 rfl).1, hg2p⟩, HY, HG, HC3, HF3, HO3, HB3⟩
        case measure => simp [intOf]; omega
    · obtain rfl : j = n := by omega
      have HX : Hid (bpL (psOf zs) = L) := Lib.hid (by rw [hLe.out, bpL, ← HM.out, List.take_of_length_le (by rw [tmL_len, HLP.out]; exact Nat.le_refl _)])
      have HWL : Hid (∀ z ∈ L, (Lit.int .i64 z).wf = true) := Lib.hid (by
        rw [← HX.out]
        intro z hz
        have := OKB.out.1.range (by omega) z hz
        exact i64_wf (by omega) (by omega))
      have HB2 := Lib.hid (BR.out.trans (hb.out.mono (by omega)))
      cases hp : brB L
      · have E2 := Lib.hid (bq_no (ps := psOf zs) (by simp [bqB, HX.out, hp]))
        have HP2 := Lib.hid hp
        clear hp
        go_wp2_with fail
        refine (l03Is_if _ L wr false ho.out.reads (by rw [HLl.out]; omega) HWL.out HP2.out).mono ?_
        rintro e w6 ⟨rfl, hb6⟩
        obtain ⟨l2, l3, l4⟩ := S0.out.later (HB2.out.trans (hb6.mono (by omega)))
        have B6 := Lib.hid (S0.out.below.trans ((HB2.out.trans (hb6.mono (by omega))).mono (by omega)))
        clear hb6
        go_wp2_with fail
        have cr : (w6.setCell ⟨w.heap.size, 0, none⟩ (.slice none 0 0)).cell? ⟨w.heap.size, 0, none⟩ = some (.slice none 0 0) := by go_simp
        refine bodyPost_ret (v := .tuple #[.agg #[.slice none 0 0], .int .i64 5]) (by simp [results, Try.results31, go_sem, cr]) rfl ?_
        exact ansR_endG _ (Nat.le_refl _) (by rw [E.out.1, E2.out.1]) (by rw [E.out.2, E2.out.2]) (OwnI.nil _ _) (by intro h; cases h) B6.out _
      · have HP2 := Lib.hid hp
        clear hp
        go_wp2_with fail
        refine (l03Is_if _ L wr true ho.out.reads (by rw [HLl.out]; omega) HWL.out HP2.out).mono ?_
        rintro e w6 ⟨rfl, hb6⟩
        have hc6 : w6.cell? ⟨W1.heap.size + 1, 0, none⟩ = some (.slice (some ⟨g1, 0, none⟩) l c') := by rw [hb6.cell (p := ⟨W1.heap.size + 1, 0, none⟩) hpb]; exact hco
        have K6 := Lib.hid hb6
        have R6 := Lib.hid ((ho.out.reads.below hb6).more hb6.size)
        have hs6 := hb6.size
        clear hb6
        go_wp2_with fail
        refine (l03Puiseux_any _ L w6 R6.out (by rw [HLl.out]; omega) HP2.out).mono ?_
        rintro e w7 ⟨v7, rfl, ho7, hb7⟩
        have hLn : L.length - 1 = j := by have := HLl.out; have := HLJ.out; omega
        rw [hLn] at ho7
        have K7 := Lib.hid (K6.out.trans (hb7.mono (by omega)))
        have O7 := Lib.hid ho7
        have hs7 := hb7.size
        have RZ : Hid (ReadQ w7 W0.heap.size (.slice A j c) zs) := Lib.hid (HR.out.below (HB2.out.trans (K7.out.mono (by omega))))
        clear hb7 ho7
        go_wp2_with fail
        refine (l01Same2_any _ _ (prL (ppF L) j) zs w7 _ _ O7.out.reads RZ.out (by rw [prL_len]; omega) (by have := HL.out; omega) ?_ ?_).mono ?_
        · rw [← hLn]; exact prL_wf HP2.out
        · exact fun x hx => ⟨by obtain ⟨a, b, rfl, _⟩ := pairB_form (HPB.out x hx); simp, HW.out x hx⟩
        rintro e w8 ⟨rfl, q8, rfl⟩
        have hb8 : Below w7.heap.size w7 (w7.drewN q8) := below_drewN (Below.refl _ _) q8
        have K8 := Lib.hid (K7.out.trans (hb8.mono (by omega)))
        obtain ⟨l2, l3, l4⟩ := S0.out.later (HB2.out.trans (K8.out.mono (by omega)))
        have B8 := Lib.hid (S0.out.below.trans ((HB2.out.trans (K8.out.mono (by omega))).mono (by omega)))
        have HBB : Hid (bqB (psOf zs) = decide (prL (ppF L) j = zs)) := Lib.hid (by rw [bqB, HX.out, HP2.out, HLP.out, listsOf_psOf HPB.out, Bool.true_and])
        have hs8 := hb8.size
        have hc8 : (w7.drewN q8).cell? ⟨W1.heap.size + 1, 0, none⟩ = some (.slice (some ⟨g1, 0, none⟩) l c') := by rw [K8.out.cell (p := ⟨W1.heap.size + 1, 0, none⟩) hpb]; exact hco
        have O8 : Hid (OwnI (w7.drewN q8) W1.heap.size wr.heap.size (.slice (some ⟨g1, 0, none⟩) l c') L) := Lib.hid (ho.out.kept (Kept.of_below K8.out (Nat.le_refl _)))
        generalize hW8 : w7.drewN q8 = w8 at *
        generalize decide (prL (ppF L) j = zs) = bb at *
        clear hb8
        cases bb
        · have E2 := Lib.hid (bq_no HBB.out)
          go_wp2_with fail
          have cr : (w8.setCell ⟨w.heap.size, 0, none⟩ (.slice none 0 0)).cell? ⟨w.heap.size, 0, none⟩ = some (.slice none 0 0) := by go_simp
          refine bodyPost_ret (v := .tuple #[.agg #[.slice none 0 0], .int .i64 5]) (by simp [results, Try.results31, go_sem, cr]) rfl ?_
          exact ansR_endG _ (Nat.le_refl _) (by rw [E.out.1, E2.out.1]) (by rw [E.out.2, E2.out.2]) (OwnI.nil _ _) (by intro h; cases h) B8.out _
        · have E2 := Lib.hid (bq_yes HBB.out)
          go_wp2_with fail
          have cr : (w8.setCell ⟨w.heap.size, 0, none⟩ (.slice (some ⟨g1, 0, none⟩) l c')).cell? ⟨w.heap.size, 0, none⟩ = some (.slice (some ⟨g1, 0, none⟩) l c') := by go_simp
          refine bodyPost_ret (v := .tuple #[.agg #[.slice (some ⟨g1, 0, none⟩) l c'], .int .i64 0]) (by simp [results, Try.results31, go_sem, cr]) rfl ?_
          exact ansR_endG _ (Nat.le_refl _) (by rw [E.out.1, E2.out.1, HX.out]) (by rw [E.out.2, E2.out.2]) ((own_lessB O8.out (by omega)).raise (by omega) (Nat.le_refl _)) (by simp [Value.ownBlock]; omega) B8.out _
end Go.Proofs.Ytmpbigkaadmihaa
