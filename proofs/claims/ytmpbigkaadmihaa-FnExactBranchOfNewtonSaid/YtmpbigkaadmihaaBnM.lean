/- BranchOfNewton, the model's: contract. Conditions: stated at the theorem. -/
import Derived.Test.YtmpbigkaadmihaaBnA
namespace Go.Proofs.Ytmpbigkaadmihaa
open Go.ChangeShapes Go.WideShapes Go.ChangeAt Go.RowKit
set_option linter.unusedVariables false
set_option linter.unusedSimpArgs false

theorem prL_wfN {zs : List Int} (hp : brB zs = true) : ∀ x ∈ prL (npF zs) (zs.length - 1), x.length ≤ 1048576 ∧ ∀ z ∈ x, (Lit.int .i64 z).wf = true := by
  have HZ := dcB_range (brB_dcB hp)
  have HD := dvL_pos HZ (e := 0)
  intro x hx
  simp only [prL, List.mem_map, List.mem_range] at hx
  obtain ⟨i, hi, rfl⟩ := hx
  have hl := dvL_len 0 zs
  have h1 := HZ (zs[i + 1]?.getD 0) (by simp [show i + 1 < zs.length by omega])
  have h0 := HZ (zs[i]?.getD 0) (by simp [show i < zs.length by omega])
  have h2 := HD ((dvL 0 zs)[i + 1]?.getD 0) (by simp [show i + 1 < (dvL 0 zs).length by omega])
  have h3 := HD ((dvL 0 zs)[i]?.getD 0) (by simp [show i < (dvL 0 zs).length by omega])
  have h5 := tdiv_range h3 h2.1
  refine ⟨by simp, fun z hz => ?_⟩
  simp only [npF, List.mem_cons, List.not_mem_nil, or_false] at hz
  rcases hz with rfl | rfl
  · have h6 := natAbs_le9 (zs[i + 1]?.getD 0 - if i = 0 then 0 else zs[i]?.getD 0) ((dvL 0 zs)[i + 1]?.getD 0)
    have h7 : (zs[i + 1]?.getD 0 - if i = 0 then 0 else zs[i]?.getD 0).natAbs ≤ 2000 := by split <;> omega
    exact i64_wf (by omega) (by omega)
  · exact i64_wf (by omega) (by omega)

set_option maxHeartbeats 4000000 in
theorem specBranchOfNewton_any (v : Value) (zs : List (List Int)) (w : World) (h : ReadQ w w.heap.size v zs) (hsz : szTot zs ≤ 1048576) (hw' : ∀ x ∈ zs, x.length ≤ 9223372036854775807 ∧ ∀ z ∈ x, (Lit.int .i64 z).wf = true) :
    Calls Try.prog 29 #[v] w (AnsRC w (bnA zs) (bnC zs)) := by
  have hw : ∀ x ∈ zs, ∀ z ∈ x, (Lit.int .i64 z).wf = true := fun x hx => (hw' x hx).2
  clear hw'
  obtain ⟨W0, HE⟩ : ∃ W, W = w.alloc (.cells #[.slice none 0 0] 26) := ⟨_, rfl⟩
  have hS0 : Start1 w W0 := by rw [HE]; exact Start1.new _
  have hb0 := hS0.below
  have HR := Lib.hid ((h.below hb0).more hb0.size)
  have S0 := Lib.hid hS0
  have HEQ := Lib.hid HE
  have HW := Lib.hid hw
  have hsw : w.heap.size < W0.heap.size := hS0.res.2
  have hsw1 : W0.heap.size = w.heap.size + 1 := hS0.size
  have HRW := Lib.hid (h.below hb0)
  clear h hw hb0 hS0 HE hsz
  cases hp : bpB zs
  · have E := Lib.hid (bn_no hp)
    have HP := Lib.hid (pdV_no hp)
    clear hp
    go_enter Try.func29, Try.ntmps29
    go_wp2_with fail
    rw [← HEQ.out]
    refine (l03Pairs_any v zs W0 HR.out HW.out).mono ?_
    rintro e w1 ⟨rfl, hbl⟩
    rw [HP.out]
    obtain ⟨l2, l3, l4⟩ := S0.out.later hbl
    have B1 := Lib.hid (S0.out.below.trans (hbl.mono (by omega)))
    clear hbl
    go_wp2_with fail
    have cr : (w1.setCell ⟨w.heap.size, 0, none⟩ (.slice none 0 0)).cell? ⟨w.heap.size, 0, none⟩ = some (.slice none 0 0) := by go_simp
    refine bodyPost_ret (v := .tuple #[.agg #[.slice none 0 0], .int .i64 2]) (by simp [results, Try.results29, go_sem, cr]) rfl ?_
    exact ansR_endG _ (Nat.le_refl _) E.out.1.symm E.out.2.symm (OwnI.nil _ _) (by intro h; cases h) B1.out _
  have OKB := Lib.hid (bpB_ok hp)
  have hpbb := hp
  have HPB : Hid (∀ z ∈ zs, pairB z = true) := Lib.hid (by simp only [bpB, Bool.and_eq_true] at hp; exact pd_pairs hp.2)
  have E := Lib.hid (bn_yes hp)
  have HP := Lib.hid (pdV_yes hp)
  have hrq := HRW.out
  obtain ⟨A, c, rfl, h0, hN, hnc, hF, hcm⟩ := hrq
  have H0 := Lib.hid h0
  have HF := Lib.hid hF
  generalize hL : zs.length = n at *
  have HL := Lib.hid hL
  have HLP : Hid ((psOf zs).length = n) := Lib.hid (by rw [psOf_len]; exact hL)
  have h6 : n ≤ 6 := OKB.out.2
  have hpr := OKB.out.1.e 0
  simp only [List.drop_zero] at hpr
  have E0 : Hid (prdL ((psOf zs).drop 0) = prdL (psOf zs)) := Lib.hid (by simp)
  obtain ⟨m, hm⟩ : ∃ m, m = prdL (psOf zs) := ⟨_, rfl⟩
  rw [← hm] at hpr HP E0
  have HM := Lib.hid hm
  clear hp hL hm h0 hN hF HRW
  go_enter Try.func29, Try.ntmps29
  go_wp2_with fail
  rw [← HEQ.out]
  refine (l03Pairs_any _ zs W0 HR.out HW.out).mono ?_
  rintro e W1 ⟨rfl, hbl⟩
  rw [HP.out]
  have BR := Lib.hid hbl
  have H1 : Hid (∀ k, k < n → ∃ a u, A = some a ∧ a.block < w.heap.size ∧ W1.cell? (a.add k) = some u ∧ ReadI W1 w.heap.size u (zs.getD k [])) := Lib.hid (fun k hk => by
    obtain ⟨a, u, e1, h1, h2, h3⟩ := H0.out k hk
    exact ⟨a, u, e1, h1, (hbl.cell (by rw [add_block]; omega)).trans h2, h3.below (hbl.mono (by omega))⟩)
  have hszr := hbl.size
  have hm0 : (m == 0) = false := by simp; omega
  have hm1 : ¬ m = 0 := by omega
  have HO1 : Hid (OwnI ((W1.alloc (.cells #[.int .i64 m] 2)).alloc (.cells #[.slice (some ⟨W1.heap.size, 0, none⟩) 1 1] 26)) W1.heap.size ((W1.alloc (.cells #[.int .i64 m] 2)).alloc (.cells #[.slice (some ⟨W1.heap.size, 0, none⟩) 1 1] 26)).heap.size (.slice (some ⟨W1.heap.size, 0, none⟩) 1 1) [m]) := Lib.hid (OwnI.mk' (n := 1) (World.ownsRow.alloc (World.ownsRow_lit (base := W1.heap.size) W1 #[.int .i64 m] 1 (Nat.le_refl _) (by simp [maxLen]) rfl) _))
  have HC1 : Hid (((W1.alloc (.cells #[.int .i64 m] 2)).alloc (.cells #[.slice (some ⟨W1.heap.size, 0, none⟩) 1 1] 26)).cell? ⟨W1.heap.size + 1, 0, none⟩ = some (.slice (some ⟨W1.heap.size, 0, none⟩) 1 1)) := Lib.hid (by go_simp)
  have HF1 : Hid (((W1.alloc (.cells #[.int .i64 m] 2)).alloc (.cells #[.slice (some ⟨W1.heap.size, 0, none⟩) 1 1] 26)).frozen? ⟨W1.heap.size + 1, 0, none⟩ = false) := Lib.hid (by go_simp)
  have HBL : Hid (Below W1.heap.size W1 ((W1.alloc (.cells #[.int .i64 m] 2)).alloc (.cells #[.slice (some ⟨W1.heap.size, 0, none⟩) 1 1] 26))) := Lib.hid (((Below.refl _ _).alloc (Nat.le_refl _) _).alloc (by simp) _)
  have EX0 : Hid ([m] = m :: (tmL (qnL 0 (psOf zs))).take 0) := Lib.hid (by simp)
  obtain ⟨i0, hi0, hy0, hy1, hy2⟩ := info_parts int_info
  have OQ := Lib.hid (qn_ok OKB.out.1 (by rw [HLP.out]; exact h6))
  have HPB2 := Lib.hid hpbb
  clear hpbb
  clear hbl H0
  go_wp2_with fail
  go_loopw [6, 7, 8] (fun ve vl vi wr => ∃ (j l : Nat) (x s : Int) (L : List Int) (g1 : Nat) (c' : Nat), j ≤ n ∧ l = j + 1 ∧ (1 ≤ x ∧ x ≤ 64) ∧ (0 ≤ s ∧ s ≤ 64000000) ∧ ve = .int .i64 x ∧ vl = .int .i64 s ∧ vi = .int .i64 j ∧ Hid (L.length = l) ∧ (W1.heap.size ≤ g1 ∧ g1 ≠ W1.heap.size + 1) ∧ Hid (prdL ((psOf zs).drop j) = x) ∧ Hid (pvF 0 (psOf zs) j * prdL ((psOf zs).drop j) = s) ∧ Hid (L = m :: (tmL (qnL 0 (psOf zs))).take j) ∧ Hid (wr.cell? ⟨W1.heap.size + 1, 0, none⟩ = some (.slice (some ⟨g1, 0, none⟩) l c')) ∧ Hid (wr.frozen? ⟨W1.heap.size + 1, 0, none⟩ = false) ∧ Hid (OwnI wr W1.heap.size wr.heap.size (.slice (some ⟨g1, 0, none⟩) l c') L) ∧ Hid (Below W1.heap.size W1 wr)) (fun _ _ vi _ => n - (intOf vi).toNat)
  case atStart => exact ⟨0, 1, m, 0, [m], W1.heap.size, 1, by omega, by omega, hpr, by omega, rfl, rfl, rfl, Lib.hid rfl, ⟨Nat.le_refl _, by omega⟩, E0, Lib.hid (by simp [pvF]), EX0, HC1, HF1, HO1, HBL⟩
  case round =>
    clear HO1 HC1 HF1 HBL EX0 E0
    obtain ⟨j, l, x, s, L, g1, c', hj, hlj, hx, hsr, rfl, rfl, rfl, HLl, ⟨hlo, hg1p⟩, hex, hpv, hLe, hco0, hcf0, ho, hb⟩ := hrel
    have hco := hco0.out
    have hcf := hcf0.out
    have HLJ := Lib.hid hlj
    have hl7 : l ≤ 64 := by omega
    clear hlj
    have hpb : W1.heap.size + 1 < wr.heap.size := World.block_lt_of_cell? wr ⟨W1.heap.size + 1, 0, none⟩ hco
    by_cases hlt : j < n
    · obtain ⟨a0, u, rfl, hal, hcell0, hri⟩ := H1.out j hlt
      obtain ⟨g, o, rfl⟩ := HF.out a0 rfl
      have hgl0 : g < w.heap.size := hal
      have hgl : g < wr.heap.size := by omega
      have HJP : Hid (j < (psOf zs).length) := Lib.hid (by have := HLP.out; omega)
      have HJZ : Hid (j < zs.length) := Lib.hid (by have := HL.out; omega)
      have hzb : pairB (zs.getD j []) = true := HPB.out _ (by have := HJZ.out; simp [List.getD, this])
      obtain ⟨a, b, hz, ha, hb9, hpo⟩ := pairB_form hzb
      have HPF : Hid (pF (psOf zs) j = (a, b)) := Lib.hid (by rw [psOf_at HJZ.out, hz]; rw [hz] at hpo; exact hpo)
      have hri2 := (hri.below (hb.out.mono (by omega)))
      rw [hz] at hri2
      obtain ⟨q, A', c2, rfl, hr', HL', HN', hnc', HF', hcm'⟩ := hri2.split2
      obtain rfl : q = 2 := by have := HL'.out; simp at this; omega
      obtain ⟨a1, rfl, hal1, hc1⟩ := hr'.2 0 (by omega)
      obtain ⟨g', o', rfl⟩ := HF'.out a1 rfl
      obtain ⟨a2, e2, _, hc2⟩ := hr'.2 1 (by omega)
      cases e2
      have hal1' : g' < w.heap.size := hal1
      have hgl' : g' < wr.heap.size := by omega
      have hca : wr.cell? ⟨g', o', none⟩ = some (.int .i64 a) := by simpa [Addr.add] using hc1
      have hcb : wr.cell? ⟨g', o' + 1, none⟩ = some (.int .i64 b) := by simpa [Addr.add] using hc2
      have hce : wr.cell? ⟨g, o + j, none⟩ = some (.slice (some ⟨g', o', none⟩) 2 c2) := by rw [← add_lit, hb.out.cell (by rw [add_block]; show g < _; omega)]; exact hcell0
      obtain ⟨y, hy⟩ : ∃ y, y = prdL ((psOf zs).drop (j + 1)) := ⟨_, rfl⟩
      have hyr := OKB.out.1.e (j + 1)
      rw [← hy] at hyr
      have HX : Hid (x = b * y) := Lib.hid (by rw [← hex.out, prdL_drop HJP.out, HPF.out, ← hy])
      have HT : Hid (tmF (qnL 0 (psOf zs)) j = s + a * y) := Lib.hid (by rw [qn_term HJP.out, hpv.out, HPF.out, ← hy])
      have HY : Hid (prdL ((psOf zs).drop (j + 1)) = y) := Lib.hid hy.symm
      have HJQ : Hid (j < (qnL 0 (psOf zs)).length) := Lib.hid (by rw [qnL_len]; exact HJP.out)
      have htr := OQ.out.term HJQ.out
      rw [HT.out] at htr
      have hay := mul_range ha hyr
      have p1 : IntKind.i64.wrap (a * y) = a * y := IntWalk.i64_in _ (by omega)
      have p3 : IntKind.i64.wrap (s + a * y) = s + a * y := IntWalk.i64_in _ (by omega)
      have hb0 : (b == 0) = false := by simp; omega
      have hb1 : ¬ b = 0 := by omega
      have hdv : x.tdiv b = y := by rw [HX.out]; exact Int.mul_tdiv_cancel_left y hb1
      have p2 : IntKind.i64.wrap (x.tdiv b) = y := by rw [hdv]; exact IntWalk.i64_in _ (by omega)
      have hjn : (j : Int) < (n : Int) := by omega
      have hj9 : (0 : Int) ≤ (j : Int) := by omega
      have HZZ : Hid (pvF 0 (psOf zs) (j + 1) * prdL ((psOf zs).drop (j + 1)) = s + a * y) := Lib.hid (by rw [qn_prev HJP.out, HT.out])
      have HG : Hid (L ++ [s + a * y] = m :: (tmL (qnL 0 (psOf zs))).take (j + 1)) := Lib.hid (by
        have e1 : j < (tmL (qnL 0 (psOf zs))).length := by rw [tmL_len]; exact HJQ.out
        have e2 := tmL_at HJQ.out
        rw [List.take_succ_eq_append_getElem e1, hLe.out, ← HT.out, ← e2]
        simp [List.getD, e1])
      have hg1p' : g1 ≠ W1.heap.size + 1 := hg1p
      have hzzr : 0 ≤ s + a * y ∧ s + a * y ≤ 64000000 := by omega
      generalize hay2 : a * y = ay at *
      generalize hzz : s + ay = zz at *
      clear hy hz hpo hzb hri hri2 hr' HF' hc1 hc2 hcell0 HT HX hex hpv
      have HOw : Hid (Own wr W1.heap.size (.slice (some ⟨g1, 0, none⟩) l c') l (L.map (.int .i64))) := Lib.hid (by have := ho.out.1; rw [HLl.out] at this; exact this)
      go_wp2_with (at_builtin; go_loud (refine wpList_append_own _ rfl _ _ 24 rfl W1.heap.size 2 i0 (.int .i64 0) 1 8 Try.underlying24 hi0 hy0 hy1 hy2 rfl ?_ _ l (L.map (.int .i64)) rfl (World.ownsRow.alloc HOw.out _) ⟨wr.heap.size, 0, none⟩ 1 1 [.int .i64 zz] rfl rfl ?_ ?_ ?_ ?_ ?_ ?_; (decide); (exact World.news_of_block (cs := #[.int .i64 zz]) (t := 2) (fr := (0, 0)) (heap_alloc_new wr _)); (simp [Value.oneCell']); (simp only [maxLen]; omega); (omega); (simp; omega); intro v1 w2 hown1 hgrow _; obtain ⟨A2, cap2, rfl⟩ := own_form hown1; have HO1 : Hid (OwnI w2 W1.heap.size w2.heap.size (.slice A2 (l + 1) cap2) (L ++ [zz])) := Lib.hid (OwnI.mk' (n := l + 1) (by rw [List.map_append]; exact hown1)); have hbx : Below W1.heap.size wr w2 := ((Below.refl W1.heap.size wr).alloc (by omega) _).grown hgrow (by simp; omega) (fun k hk => (Own.lt ho.out.1 k hk).1); have HBX := Lib.hid hbx; have hpa : W1.heap.size + 1 < (wr.alloc (.cells #[.int .i64 zz] 2)).heap.size := (by simp; omega); have hpn : some (W1.heap.size + 1) ≠ (Value.slice (some ⟨g1, 0, none⟩) l c').ownBlock := (by simp [Value.ownBlock]; omega); have c3 : w2.cell? ⟨W1.heap.size + 1, 0, none⟩ = some (.slice (some ⟨g1, 0, none⟩) l c') := (hgrow.cell_far ⟨W1.heap.size + 1, 0, none⟩ hpa hpn).trans (((below_box wr _).cell (p := ⟨W1.heap.size + 1, 0, none⟩) hpb).trans hco); have f3 : w2.frozen? ⟨W1.heap.size + 1, 0, none⟩ = false := (hgrow.frozen_far ⟨W1.heap.size + 1, 0, none⟩ hpa hpn).trans (((below_box wr _).frozen (p := ⟨W1.heap.size + 1, 0, none⟩) hpb).trans hcf); have hl1 : (L ++ [zz]).length = l + 1 := (by simp [HLl.out]); obtain ⟨g2, e2, hg2lo, hg2lt, hg2c, _⟩ := own_at HO1.out hl1 (show 0 < l + 1 by omega); subst e2; have hg2p : g2 ≠ W1.heap.size + 1 := (by rintro rfl; rw [c3] at hg2c; simp at hg2c); clear hown1 hgrow hbx hg2c hl1 hpa hpn))
      have HC3 : Hid ((w2.setCell ⟨W1.heap.size + 1, 0, none⟩ (.slice (some ⟨g2, 0, none⟩) (l + 1) cap2)).cell? ⟨W1.heap.size + 1, 0, none⟩ = some (.slice (some ⟨g2, 0, none⟩) (l + 1) cap2)) := Lib.hid (by go_simp)
      have HF3 : Hid ((w2.setCell ⟨W1.heap.size + 1, 0, none⟩ (.slice (some ⟨g2, 0, none⟩) (l + 1) cap2)).frozen? ⟨W1.heap.size + 1, 0, none⟩ = false) := Lib.hid (by go_simp)
      have HO3 : Hid (OwnI (w2.setCell ⟨W1.heap.size + 1, 0, none⟩ (.slice (some ⟨g2, 0, none⟩) (l + 1) cap2)) W1.heap.size (w2.setCell ⟨W1.heap.size + 1, 0, none⟩ (.slice (some ⟨g2, 0, none⟩) (l + 1) cap2)).heap.size (.slice (some ⟨g2, 0, none⟩) (l + 1) cap2) (L ++ [zz])) := Lib.hid (by have h := own_set HO1.out (p := ⟨W1.heap.size + 1, 0, none⟩) (u := .slice (some ⟨g2, 0, none⟩) (l + 1) cap2) (by simp [Value.ownBlock]; omega); simpa [World.setCell] using h)
      have HB3 : Hid (Below W1.heap.size W1 (w2.setCell ⟨W1.heap.size + 1, 0, none⟩ (.slice (some ⟨g2, 0, none⟩) (l + 1) cap2))) := Lib.hid ((hb.out.trans (HBX.out.mono (Nat.le_refl _))).setCell (by show W1.heap.size ≤ W1.heap.size + 1; omega) _)
      go_roundw
      case rel => exact ⟨j + 1, l + 1, y, zz, L ++ [zz], g2, cap2, by omega, by have := HLJ.out; omega, hyr, hzzr, rfl, rfl, by go_num, Lib.hid (by simp [HLl.out]), ⟨hg2lo, hg2p⟩, HY, HZZ, HG, HC3, HF3, HO3, HB3⟩
      case measure => simp [intOf]; omega
    · obtain rfl : j = n := by omega
      have HX : Hid (bpL (qnL 0 (psOf zs)) = L) := Lib.hid (by rw [hLe.out, bpL, List.take_of_length_le (by rw [tmL_len, qnL_len, HLP.out]; exact Nat.le_refl _), HM.out]; congr 1; simpa using qn_prd 0 (psOf zs) 0 0)
      have HWL : Hid (∀ z ∈ L, (Lit.int .i64 z).wf = true) := Lib.hid (by
        rw [← HX.out]
        intro z hz
        have := OQ.out.range (by omega) z hz
        exact i64_wf (by omega) (by omega))
      have HB2 := Lib.hid (BR.out.trans (hb.out.mono (by omega)))
      cases hp : brB L
      · have E2 := Lib.hid (bq_no (ps := qnL 0 (psOf zs)) (by simp [bqB, HX.out, hp]))
        have HP2 := Lib.hid hp
        clear hp
        go_wp2_with fail
        refine (l03Is_if _ L wr false ho.out.reads (by rw [HLl.out]; omega) HWL.out HP2.out).mono ?_
        rintro e w6 ⟨rfl, hb6⟩
        obtain ⟨l2, l3, l4⟩ := S0.out.later (HB2.out.trans (hb6.mono (by omega)))
        have B6 := Lib.hid (S0.out.below.trans ((HB2.out.trans (hb6.mono (by omega))).mono (by omega)))
        clear hb6
        go_wp2_with fail
        have cr : (w6.setCell ⟨w.heap.size, 0, none⟩ (.slice none 0 0)).cell? ⟨w.heap.size, 0, none⟩ = some (.slice none 0 0) := by go_simp
        refine bodyPost_ret (v := .tuple #[.agg #[.slice none 0 0], .int .i64 5]) (by simp [results, Try.results29, go_sem, cr]) rfl ?_
        exact ansR_endG _ (Nat.le_refl _) (by rw [E.out.1, E2.out.1]) (by rw [E.out.2, E2.out.2]) (OwnI.nil _ _) (by intro h; cases h) B6.out _
      · have HP2 := Lib.hid hp
        clear hp
        go_wp2_with fail
        refine (l03Is_if _ L wr true ho.out.reads (by rw [HLl.out]; omega) HWL.out HP2.out).mono ?_
        rintro e w6 ⟨rfl, hb6⟩
        have hc6 : w6.cell? ⟨W1.heap.size + 1, 0, none⟩ = some (.slice (some ⟨g1, 0, none⟩) l c') := by rw [hb6.cell (p := ⟨W1.heap.size + 1, 0, none⟩) hpb]; exact hco
        have K6 := Lib.hid hb6
        have R6 := Lib.hid ((ho.out.reads.below hb6).more hb6.size)
        have hs6 := hb6.size
        clear hb6
        go_wp2_with fail
        refine (l03Newton_any _ L w6 R6.out (by rw [HLl.out]; omega) HP2.out).mono ?_
        rintro e w7 ⟨v7, rfl, ho7, hb7⟩
        have hLn : L.length - 1 = j := by have := HLl.out; have := HLJ.out; omega
        rw [hLn] at ho7
        have K7 := Lib.hid (K6.out.trans (hb7.mono (by omega)))
        have O7 := Lib.hid ho7
        have hs7 := hb7.size
        have RZ : Hid (ReadQ w7 W0.heap.size (.slice A j c) zs) := Lib.hid (HR.out.below (HB2.out.trans (K7.out.mono (by omega))))
        clear hb7 ho7
        go_wp2_with fail
        refine (l01Same2_any _ _ (prL (npF L) j) zs w7 _ _ O7.out.reads RZ.out (by rw [prL_len]; omega) (by have := HL.out; omega) ?_ ?_).mono ?_
        · rw [← hLn]; exact prL_wfN HP2.out
        · exact fun x hx => ⟨by obtain ⟨a, b, rfl, _⟩ := pairB_form (HPB.out x hx); simp, HW.out x hx⟩
        rintro e w8 ⟨rfl, q8, rfl⟩
        have hb8 : Below w7.heap.size w7 (w7.drewN q8) := below_drewN (Below.refl _ _) q8
        have K8 := Lib.hid (K7.out.trans (hb8.mono (by omega)))
        obtain ⟨l2, l3, l4⟩ := S0.out.later (HB2.out.trans (K8.out.mono (by omega)))
        have B8 := Lib.hid (S0.out.below.trans ((HB2.out.trans (K8.out.mono (by omega))).mono (by omega)))
        have HBB : Hid (bqB (qnL 0 (psOf zs)) = decide (prL (npF L) j = zs)) := Lib.hid (by rw [bn_bq HPB2.out (by rw [HX.out]; exact HP2.out), HX.out, HL.out])
        have hs8 := hb8.size
        have hc8 : (w7.drewN q8).cell? ⟨W1.heap.size + 1, 0, none⟩ = some (.slice (some ⟨g1, 0, none⟩) l c') := by rw [K8.out.cell (p := ⟨W1.heap.size + 1, 0, none⟩) hpb]; exact hco
        have O8 : Hid (OwnI (w7.drewN q8) W1.heap.size wr.heap.size (.slice (some ⟨g1, 0, none⟩) l c') L) := Lib.hid (ho.out.kept (Kept.of_below K8.out (Nat.le_refl _)))
        generalize hW8 : w7.drewN q8 = w8 at *
        generalize decide (prL (npF L) j = zs) = bb at *
        clear hb8
        cases bb
        · have E2 := Lib.hid (bq_no HBB.out)
          go_wp2_with fail
          have cr : (w8.setCell ⟨w.heap.size, 0, none⟩ (.slice none 0 0)).cell? ⟨w.heap.size, 0, none⟩ = some (.slice none 0 0) := by go_simp
          refine bodyPost_ret (v := .tuple #[.agg #[.slice none 0 0], .int .i64 5]) (by simp [results, Try.results29, go_sem, cr]) rfl ?_
          exact ansR_endG _ (Nat.le_refl _) (by rw [E.out.1, E2.out.1]) (by rw [E.out.2, E2.out.2]) (OwnI.nil _ _) (by intro h; cases h) B8.out _
        · have E2 := Lib.hid (bq_yes HBB.out)
          go_wp2_with fail
          have cr : (w8.setCell ⟨w.heap.size, 0, none⟩ (.slice (some ⟨g1, 0, none⟩) l c')).cell? ⟨w.heap.size, 0, none⟩ = some (.slice (some ⟨g1, 0, none⟩) l c') := by go_simp
          refine bodyPost_ret (v := .tuple #[.agg #[.slice (some ⟨g1, 0, none⟩) l c'], .int .i64 0]) (by simp [results, Try.results29, go_sem, cr]) rfl ?_
          exact ansR_endG _ (Nat.le_refl _) (by rw [E.out.1, E2.out.1, HX.out]) (by rw [E.out.2, E2.out.2]) ((own_lessB O8.out (by omega)).raise (by omega) (Nat.le_refl _)) (by simp [Value.ownBlock]; omega) B8.out _
end Go.Proofs.Ytmpbigkaadmihaa
