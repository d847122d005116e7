/- RepresentationOf, the model's and the program's: contracts. Conditions: stated at each theorem. -/
import Derived.Test.YtncgkoanckefmaaRpI
namespace Go.Proofs.Ytncgkoanckefmaa
open Go.ChangeShapes Go.WideShapes Go.ChangeAt Go.RowKit Go.Deep
set_option linter.unusedVariables false
set_option linter.unusedSimpArgs false

theorem gnB_first0 {zs : List Int} (hp : brB zs = true) : (gnB zs)[0]?.getD 0 = zs[0]?.getD 0 := by
  cases zs with
  | nil => cases hp
  | cons n r => simp [gnB, gnL]
set_option maxRecDepth 100000 in
set_option maxHeartbeats 4000000 in
theorem specRepresentationOf_any (v : Value) (zs : List Int) (x : Int) (w : World) (h : ReadI w w.heap.size v zs) (hn : zs.length ≤ 1048576) (hw : ∀ z ∈ zs, (Lit.int .i64 z).wf = true) (hwx : (Lit.int .i64 x).wf = true) :
    Calls Try.prog 69 #[.agg #[v], .int .i64 x] w (AnsIC w (reA zs x) (reC zs x)) := by
  have HWW := Lib.hid hw
  have HN0 := Lib.hid hn
  rcases bool_fs (brB zs) with hp | hp
  · have E := Lib.hid (re_no (v := x) hp)
    have HP := Lib.hid hp
    obtain ⟨n, A, c, rfl, hr, HL, _, hnc, HF, hcm⟩ := h.split2
    obtain ⟨W0, HE⟩ : ∃ W, W = w.alloc (.cells #[.slice A n c] 28) := ⟨_, rfl⟩
    have hb0 : Below w.heap.size w W0 := by rw [HE]; exact below_box _ _
    have H0 := Lib.hid ((h.below hb0).more hb0.size)
    have HEQ := Lib.hid HE
    clear h hr HE HF hn hw hp hwx
    go_enter Try.func69, Try.ntmps69
    go_wp2_with fail
    rw [← HEQ.out]
    refine (l03Is_if _ zs _ false H0.out HN0.out HWW.out HP.out).mono ?_
    rintro e w1 ⟨rfl, hb1⟩
    go_wp2_with fail
    go_ret2
    exact AnsIC.empty (by rw [E.out.1]) (by rw [E.out.2]) (hb0.trans (hb1.mono hb0.size))
  have HP := Lib.hid hp
  rcases bool_fs (semiB x) with hsb | hsb
  · have E := Lib.hid (re_out hp hsb)
    have HSB := Lib.hid hsb
    obtain ⟨n, A, c, rfl, hr, HL, _, hnc, HF, hcm⟩ := h.split2
    obtain ⟨W0, HE⟩ : ∃ W, W = w.alloc (.cells #[.slice A n c] 28) := ⟨_, rfl⟩
    have hb0 : Below w.heap.size w W0 := by rw [HE]; exact below_box _ _
    have H0 := Lib.hid ((h.below hb0).more hb0.size)
    have HEQ := Lib.hid HE
    clear h hr HE HF hn hw hp hwx hsb
    go_enter Try.func69, Try.ntmps69
    go_wp2_with fail
    rw [← HEQ.out]
    refine (l03Is_if _ zs _ true H0.out HN0.out HWW.out HP.out).mono ?_
    rintro e w1 ⟨rfl, hb1⟩
    have B1 := Lib.hid (hb0.trans (hb1.mono hb0.size))
    clear hb1 hb0
    go_wp2_with (go_at_call 75; refine (in_no _ _ _ _ (semiB_no HSB.out)).mono ?_; rintro e w' ⟨rfl, rfl⟩)
    go_ret2
    exact AnsIC.empty (by rw [E.out.1]) (by rw [E.out.2]) B1.out
  have hx := semiB_yes hsb
  have HSB := Lib.hid hsb
  obtain ⟨n, A, c, rfl, hr, HL, _, hnc, HF, hcm⟩ := h.split2
  have hn0 : 0 < n := by have := brB_pos hp; rw [HL.out] at this; exact this
  have HN1 := Lib.hid hn
  rw [HL.out] at hn
  obtain ⟨a, rfl, hlt, hc0⟩ := hr.2 0 hn0
  obtain ⟨g, o, rfl⟩ := HF.out a rfl
  have hgw : g < w.heap.size := hlt
  obtain ⟨W0, HE⟩ : ∃ W, W = w.alloc (.cells #[.slice (some ⟨g, o, none⟩) n c] 28) := ⟨_, rfl⟩
  have hb0 : Below w.heap.size w W0 := by rw [HE]; exact below_box2 _ _
  have hq0 : BoxI W0 w.heap.size (.slice (some ⟨g, o, none⟩) n c) := by rw [HE]; exact BoxI.new _ _ _
  have hs0 : w.heap.size < W0.heap.size := hq0.2
  have HR := Lib.hid ((h.below hb0).more hb0.size)
  have B0 := Lib.hid hb0
  have HEQ := Lib.hid HE
  have q0 := hq0.1
  have Q0 := Lib.hid q0
  have CZ : Hid (w.cell? ⟨g, o, none⟩ = some (.int .i64 (zs[0]?.getD 0))) := Lib.hid (by
    have h2 : (⟨g, o, none⟩ : Addr).add 0 = ⟨g, o, none⟩ := by rw [add_lit]; rfl
    rw [h2] at hc0; simpa using hc0)
  have HLG : Hid ((gnB zs).length = n) := Lib.hid (by rw [gnB_len, HL.out])
  have HLD : Hid ((dvL 0 zs).length = n) := Lib.hid (by rw [dvL_len, HL.out])
  have HZ := Lib.hid (dcB_range (brB_dcB hp))
  obtain ⟨m, rfl⟩ : ∃ m, n = m + 1 := ⟨n - 1, by omega⟩
  have HZF := Lib.hid (br_first hp)
  have HG0 := Lib.hid (gnB_first0 hp)
  have HLM : Hid (zs.length - 1 = m) := Lib.hid (by have := HL.out; omega)
  have HD0 : Hid (dvA zs m ∣ x) := Lib.hid (by have := dvA_last hp; rw [HLM.out] at this; rw [this]; exact Int.one_dvd _)
  clear h hr hp hb0 hq0 HE hc0 hlt hw hwx
  go_enter Try.func69, Try.ntmps69
  go_wp2_with fail
  rw [← HEQ.out]
  refine (l03Is_if _ zs _ true HR.out HN1.out HWW.out HP.out).mono ?_
  rintro e W1 ⟨rfl, hb1⟩
  have hs1 := hb1.size
  have q1 := (hb1.cell (p := ⟨w.heap.size, 0, none⟩) hs0).trans Q0.out
  have Q1 := Lib.hid q1
  have HR1 := Lib.hid ((HR.out.below hb1).more hs1)
  have B1 := Lib.hid (B0.out.trans (hb1.mono (by omega)))
  have hw1 : w.heap.size < W1.heap.size := by omega
  clear hb1 q0
  go_upto_region 5 with (go_at_call 75; refine (in_yes _ _ _ _ hx.1 hx.2).mono ?_; rintro e w' ⟨rfl, rfl⟩)
  go_cut [6, 7] (fun s3 s4 wx => Hid (TwoCut W1 (dvL 0 zs) (gnB zs) (m + 1) wx s3 s4))
  case first =>
    refine wp_region_held_drew (S := fun w' => w'.cell? ⟨w.heap.size, 0, none⟩ = some (.slice (some ⟨g, o, none⟩) (m + 1) c)) (by kernel_rfl) (q1) (fun hHeld => ?_)
    refine takeY 0 _ (v := ?_) rfl rfl (by kernel_rfl) (by kernel_rfl) (by kernel_rfl) (fun _ _ _ h => h) (by kernel_rfl) ?_ (by assumption) ?_
    rotate_left 1
    · intro w hSw; (try dsimp only at hSw); go_simp; (try with_reducible rfl)
    try simp only [Act.put, List.setIfInBounds_toArray, List.set_cons_zero, List.set_cons_succ]
    refine takeY 2 _ (v := ?_) rfl rfl (by kernel_rfl) (by kernel_rfl) (by kernel_rfl) (fun _ _ _ h => h) (by kernel_rfl) ?_ (by assumption) ?_
    rotate_left 1
    · intro w hSw; (try dsimp only at hSw); go_simp; (try with_reducible rfl)
    try simp only [Act.put, List.setIfInBounds_toArray, List.set_cons_zero, List.set_cons_succ]
    refine wpAnyH_ready (rs := [1]) (by kernel_rfl) (by simp) ?_
    refine AllReadyH.cons rfl (fun K hK => ?_) AllReadyH.nil
    go_simp
    refine (l03Divisors_any _ zs W1.drew HR1.out HN1.out HP.out).mono ?_
    rintro e W2 ⟨v1, rfl, ho1, hb2⟩
    replace hb2 : Below W1.heap.size W1 W2 := ⟨hb2.os, hb2.tape, hb2.output, hb2.size, hb2.block⟩
    obtain ⟨A1, c1, rfl⟩ := ho1.form HLD.out
    obtain ⟨d, e1, hd1, hd2, _, _⟩ := own_at ho1 HLD.out hn0
    cases e1
    have hs2 := hb2.size
    change W1.heap.size ≤ d at hd1
    have q2 := (hb2.cell (p := ⟨w.heap.size, 0, none⟩) hw1).trans q1
    refine hK.out _ (W2) q2 (fun hHeld => ?_)
    clear hK K
    try simp only [Act.put, List.setIfInBounds_toArray, List.set_cons_zero, List.set_cons_succ]
    refine wpAnyH_ready (rs := [3]) (by kernel_rfl) (by simp) ?_
    refine AllReadyH.cons rfl (fun K hK => ?_) AllReadyH.nil
    go_simp
    refine (l05Generators_any _ zs W2 ((HR1.out.below hb2).more hs2) HN1.out HP.out).mono ?_
    rintro e W3 ⟨v2, rfl, ho2, hb3⟩
    obtain ⟨A2, c2, rfl⟩ := ho2.form HLG.out
    obtain ⟨gg, e2, hd3, hd4, _, _⟩ := own_at ho2 HLG.out hn0
    cases e2
    have q3 := (hb3.cell (p := ⟨w.heap.size, 0, none⟩) (by show w.heap.size < _; omega)).trans q2
    refine hK.out _ (W3) q3 (fun hHeld => ?_)
    clear hK K
    try simp only [Act.put, List.setIfInBounds_toArray, List.set_cons_zero, List.set_cons_succ]
    refine takeY 4 _ (v := ?_) rfl rfl (by kernel_rfl) (by kernel_rfl) (by kernel_rfl) (fun _ _ _ h => h) (by kernel_rfl) ?_ (by assumption) ?_
    rotate_left 1
    · intro w hSw; (try dsimp only at hSw); go_simp; (try with_reducible rfl)
    try simp only [Act.put, List.setIfInBounds_toArray, List.set_cons_zero, List.set_cons_succ]
    refine takeY 5 _ (v := ?_) rfl rfl (by kernel_rfl) (by kernel_rfl) (by kernel_rfl) (fun _ _ _ h => h) (by kernel_rfl) ?_ (by assumption) ?_
    rotate_left 1
    · intro w hSw; (try dsimp only at hSw); go_simp; (try with_reducible rfl)
    try simp only [Act.put, List.setIfInBounds_toArray, List.set_cons_zero, List.set_cons_succ]
    refine wpAnyH_done (by kernel_rfl) ?_ _
    go_wp2_with fail
    go_meet
    exact Lib.hid (two_cut (n := m + 1) (own_tight ho1 hd2) (own_tight ho2 hd4) (by omega) (hb2.trans (hb3.mono hs2)) hb3 hd2)
  case rest =>
    obtain ⟨d, gg, c1, c2, rfl, rfl, hod, hog, hdg, hbw⟩ := hcut.out
    have hdw : d < wc.heap.size := hod.2.2
    have hggw : gg < wc.heap.size := hog.2.2
    have hsw := hbw.size
    have hmk := fun (W : World) => run_make_row' (P := Try.prog) 22 2 (.int .i64 0) 8 Try.underlying22 int_info rfl .i64 .i64 (m + 1) (by omega) (by omega) W
    simp only [Int.natCast_add, Int.cast_ofNat_Int] at hmk
    have p0 : IntKind.i64.wrap ((m : Int) + 1 - 1) = (m : Int) := by rw [IntWalk.i64_in _ (by omega)]; omega
    have hbC : Below wc.heap.size wc (wc.alloc (.cells (madeCells #[.int .i64 0] (m + 1)) 2)) := below_box2 _ _
    have hsC : (wc.alloc (.cells (madeCells #[.int .i64 0] (m + 1)) 2)).heap.size = wc.heap.size + 1 := by simp
    have ROW0 : Hid ((wc.alloc (.cells (madeCells #[.int .i64 0] (m + 1)) 2)).rowIs wc.heap.size 2 (m + 1) (fun y => if m < y then .int .i64 ((rpC zs m x).getD y 0) else .int .i64 0)) := Lib.hid ((World.rowIs_made wc _ (m + 1) _).congr (fun i hi => by rw [if_neg (by omega)]))
    go_wp2_with fail
    clear hmk
    generalize wc.alloc (.cells (madeCells #[.int .i64 0] (m + 1)) 2) = WC at *
    have OD := Lib.hid (hod.kept (Kept.of_below hbC (by omega)))
    have OG := Lib.hid (hog.kept (Kept.of_below hbC (by omega)))
    have BC := Lib.hid (B1.out.trans ((hbw.trans (hbC.mono hsw)).mono (by omega)))
    have HB0 : Hid (Below wc.heap.size WC WC) := Lib.hid (Below.refl _ _)
    have hsw2 : w.heap.size < wc.heap.size := by omega
    clear hod hog hbw hbC hcut q1
    go_loopw [1, 9] (fun vv vi wr => ∃ (i : Nat) (u : Int) (T : List Int), i ≤ m ∧ vv = .int .i64 u ∧ vi = .int .i64 i ∧ (-(8192000 * ((m : Int) - (i : Int))) ≤ u ∧ u ≤ 20000) ∧ Hid (dvA zs i ∣ u) ∧ Hid (rpV zs m x = rpV zs i u) ∧ Hid (T.length + i = m) ∧ Hid (rpC zs m x = rpC zs i u ++ T) ∧ Hid (wr.rowIs wc.heap.size 2 (m + 1) (fun y => if i < y then .int .i64 ((rpC zs m x).getD y 0) else .int .i64 0)) ∧ Hid (Below wc.heap.size WC wr)) (fun _ vi _ => (intOf vi).toNat)
    case atStart => exact ⟨m, x, [], Nat.le_refl _, rfl, rfl, by omega, HD0, Lib.hid rfl, Lib.hid (by simp), Lib.hid (by simp), ROW0, HB0⟩
    case round =>
      clear ROW0 HB0
      obtain ⟨i, u, T, hi, rfl, rfl, hub, hdv, hv, hT, hC, hrow, hb⟩ := hrel
      have hsz := hb.out.size
      cases i with
      | zero =>
        have hdst := hrow.out.cell (show 0 < m + 1 by omega)
        simp only [Nat.lt_irrefl, if_false] at hdst
        have hfz := hrow.out.frozen 0
        obtain ⟨g', e1, _, _, hcg, _⟩ := own_at OG.out HLG.out (show 0 < m + 1 by omega)
        cases e1
        rw [HG0.out] at hcg
        have cz : wr.cell? ⟨gg, 0, none⟩ = some (.int .i64 (zs[0]?.getD 0)) := (hb.out.cell (p := ⟨gg, 0, none⟩) hggw).trans hcg
        have hzf := HZF.out
        have HC0 : Hid ((rpC zs m x).getD 0 0 = u.tdiv (zs[0]?.getD 0)) := Lib.hid (by rw [hC.out]; simp [rpC])
        obtain ⟨z0, hz00⟩ : ∃ z, zs[0]?.getD 0 = z := ⟨_, rfl⟩
        rw [hz00] at cz hzf HC0
        have hdz : (z0 == 0) = false := by simp; omega
        have hdz2 : ¬ z0 = 0 := by omega
        have hqb : -(8192000 * (m : Int)) ≤ u.tdiv z0 ∧ u.tdiv z0 ≤ 8192000 * (m : Int) + 20000 := tdiv_abs (B := 8192000 * (m : Int)) (C := 20000) (by omega) (by omega) (by omega) (by omega)
        have p4 : IntKind.i64.wrap (u.tdiv z0) = u.tdiv z0 := IntWalk.i64_in _ (by omega)
        have HR3 := Lib.hid ((hrow.out.set 0 (.int .i64 (u.tdiv z0))).congr (g := fun y => if y < m + 1 then .int .i64 ((rpC zs m x).getD y 0) else .int .i64 0) (fun y hy => by
          by_cases h1 : y = 0
          · subst h1; simp only [if_true, if_pos hy, HC0.out]
          · simp only [if_neg h1, if_pos (show 0 < y by omega), if_pos hy]))
        have HB3 := Lib.hid (hb.out.setCell (p := ⟨wc.heap.size, 0, none⟩) (Nat.le_refl _) (.int .i64 (u.tdiv z0)))
        have HLC : Hid ((rpC zs m x).length = m + 1) := Lib.hid (rpC_len _ _ _)
        have HV0 : Hid (rpV zs m x = u) := Lib.hid hv.out
        by_cases hu : u < 0
        · have E := Lib.hid (re_none HP.out HSB.out (by unfold reB; rw [HLM.out, HV0.out]; exact decide_eq_false (by omega)))
          have HBB := hb
          clear hz00
          go_wp2_with fail
          go_ret2
          exact AnsIC.empty (by rw [E.out.1]) (by rw [E.out.2]) (BC.out.trans (HBB.out.mono (by omega)))
        · have E := Lib.hid (re_yes HP.out HSB.out (by unfold reB; rw [HLM.out, HV0.out]; exact decide_eq_true (by omega)))
          clear hz00
          go_wp2_with fail
          go_ret2
          have hro := row_ownB HR3.out HLC.out (show w.heap.size ≤ wc.heap.size by omega) (by omega)
          exact AnsIC.mk' (by rw [E.out.1, HLM.out]) (by rw [E.out.2]) hro (BC.out.trans (HB3.out.mono (by omega)))
      | succ i =>
        have hi1 : i + 1 < zs.length := by rw [HL.out]; omega
        have HLV := Lib.hid (rc_level HP.out hi1 hdv.out)
        have hlv := HLV.out.1
        have HRA : Hid (rcL (dvA zs i) (gnA zs (i + 1)) u 64 = rcA zs i u) := Lib.hid rfl
        have HCS := Lib.hid (rpC_step zs i u)
        have HVS := Lib.hid (rpV_step zs i u)
        have HRR := Lib.hid (fun (j : Nat) (hj : j ≤ 64) => rc_range HP.out hi1 hj)
        have hdp := dvA_pos HP.out (i := i) (by omega)
        have hgp := gnA_pos HP.out (i := i + 1) hi1
        obtain ⟨d', e1, _, _, hcd, _⟩ := own_at OD.out HLD.out (show i < m + 1 by omega)
        cases e1
        obtain ⟨g', e1, _, _, hcg, _⟩ := own_at OG.out HLG.out (show i + 1 < m + 1 by omega)
        cases e1
        obtain ⟨cc, hcc⟩ : ∃ c, rcA zs i u = c := ⟨_, rfl⟩
        obtain ⟨dd, hdd⟩ : ∃ c, dvA zs i = c := ⟨_, rfl⟩
        obtain ⟨qq, hqq⟩ : ∃ c, gnA zs (i + 1) = c := ⟨_, rfl⟩
        rw [show (dvL 0 zs)[i]?.getD 0 = dd from hdd] at hcd
        rw [show (gnB zs)[i + 1]?.getD 0 = qq from hqq] at hcg
        rw [hdd, hqq, hcc] at HRA
        rw [hcc, hqq] at HCS HVS HLV
        rw [hcc] at hlv
        rw [hqq] at HRR hgp
        rw [hdd] at hdp
        have HDD := Lib.hid hdd
        have hdz : (dd == 0) = false := by simp; omega
        have hdz2 : ¬ dd = 0 := by omega
        have hin : (0 : Int) < (i : Int) + 1 := by omega
        have hin1 : (1 : Int) ≤ (i : Int) + 1 := by omega
        have h1n : i + 1 < m + 1 := by omega
        have h1ni : (i : Int) + 1 < (m : Int) + 1 := by omega
        have h0ni : (i : Int) < (m : Int) + 1 := by omega
        have h0n : i < m + 1 := by omega
        have h00 : (0 : Int) ≤ (i : Int) := by omega
        have h01 : (0 : Int) ≤ (i : Int) + 1 := by omega
        have h7 : ((i : Int) + 1).toNat = i + 1 := by omega
        have p1 : IntKind.i64.wrap ((i : Int) + 1 - 1) = (i : Int) := by rw [IntWalk.i64_in _ (by omega)]; omega
        have HROW := Lib.hid (hrow.out.congr (g := fun y => if y = i + 1 then .int .i64 ((0 : Nat) : Int) else if i + 1 < y then .int .i64 ((rpC zs m x).getD y 0) else .int .i64 0) (fun y hy => by
          by_cases h1 : y = i + 1
          · subst h1; simp
          · simp only [if_neg h1]))
        have HJ0 : Hid (0 + rcL dd qq u 64 = cc) := Lib.hid (by rw [Nat.zero_add]; exact HRA.out)
        have HY0 : Hid (u = u - ((0 : Nat) : Int) * qq) := Lib.hid (by simp)
        have HBR := hb
        have hPos := HRR.out cc (by omega)
        have HCQ : Hid (∀ j : Nat, j + 1 ≤ cc → ((j + 1 : Nat) : Int) * qq = (j : Int) * qq + qq ∧ ((j + 1 : Nat) : Int) * qq ≤ (cc : Int) * qq) := Lib.hid (fun j hj => ⟨by push_cast; rw [Int.add_mul]; omega, Int.mul_le_mul_of_nonneg_right (by omega) (by omega)⟩)
        clear hcc hdd hqq hrow hb
        go_wp2_with fail
        go_loopw [1] (fun vv wi => ∃ (j f : Nat) (y : Int), j + f = 64 ∧ j ≤ cc ∧ Hid (y = u - (j : Int) * qq) ∧ vv = .int .i64 y ∧ Hid (j + rcL dd qq y f = cc) ∧ Hid (wi.rowIs wc.heap.size 2 (m + 1) (fun y => if y = i + 1 then .int .i64 (j : Int) else if i + 1 < y then .int .i64 ((rpC zs m x).getD y 0) else .int .i64 0)) ∧ Hid (Below wc.heap.size WC wi)) (fun vv _ => (intOf vv - (u - (cc : Int) * qq)).toNat)
        case atStart => exact ⟨0, 64, u, rfl, by omega, HY0, rfl, HJ0, HROW, HBR⟩
        case round =>
          obtain ⟨j, f, y, hjf, hjc, hy, rfl, hcn, hri, hbi⟩ := hrel
          have hszi := hbi.out.size
          have hcdi : wr.cell? ⟨d, i, none⟩ = some (.int .i64 dd) := (hbi.out.cell (p := ⟨d, i, none⟩) hdw).trans hcd
          have hcgi : wr.cell? ⟨gg, i + 1, none⟩ = some (.int .i64 qq) := (hbi.out.cell (p := ⟨gg, i + 1, none⟩) hggw).trans hcg
          have hjr := HRR.out j (by omega)
          have hyr : -(8192000 * ((m : Int) - (i : Int))) ≤ y ∧ y ≤ 20000 := by have := hy.out; omega
          have hwp : IntKind.i64.wrap (y.tmod dd) = y.tmod dd := IntWalk.i64_in _ (by have h1 := Int.natAbs_tmod y dd; have h2 : y.natAbs % dd.natAbs ≤ y.natAbs := Nat.mod_le _ _; omega)
          have hdst := hri.out.cell h1n
          simp only [if_true] at hdst
          have hfz := hri.out.frozen (i + 1)
          by_cases h0 : y.tmod dd = 0
          · have hjcc : j = cc := by have := hcn.out; rw [rcL_zero h0] at this; omega
            subst hjcc
            have hb0 : (y.tmod dd != 0) = false := by simp [h0]
            have HU : Hid (u - (j : Int) * qq = y) := Lib.hid hy.out.symm
            have HT2 : Hid ((((j : Int) :: T) : List Int).length + i = m) := Lib.hid (by have := hT.out; simp; omega)
            have HC2 : Hid (rpC zs m x = rpC zs i y ++ ((j : Int) :: T)) := Lib.hid (by rw [hC.out, HCS.out, HU.out]; simp)
            have HD2 : Hid (dvA zs i ∣ y) := Lib.hid (by rw [← HU.out]; exact HLV.out.2.2)
            have HV2 : Hid (rpV zs m x = rpV zs i y) := Lib.hid (by rw [hv.out, HVS.out, HU.out])
            have HR2 := Lib.hid (hri.out.congr (g := fun y' => if i < y' then .int .i64 ((rpC zs m x).getD y' 0) else .int .i64 0) (fun y' hy' => by
              by_cases h1 : y' = i + 1
              · subst h1
                have h3 : (rpC zs m x).getD (i + 1) 0 = (j : Int) := by
                  rw [HC2.out, List.getD, List.getElem?_append_right (by rw [rpC_len]; omega), rpC_len]; simp
                simp only [if_true, show i < i + 1 by omega, h3]
              · by_cases h2 : i + 1 < y'
                · simp only [if_neg h1, if_pos h2, if_pos (show i < y' by omega)]
                · simp only [if_neg h1, if_neg h2, if_neg (show ¬ i < y' by omega)]))
            clear h0 hjr
            go_wp2_with fail
            go_roundw
            case rel => exact ⟨i, y, (j : Int) :: T, by omega, rfl, by go_num, by omega, HD2, HV2, HT2, HC2, HR2, hbi⟩
            case measure => first | (simp [intOf]; done) | (simp [intOf]; omega)
          · obtain ⟨f', rfl, hnx⟩ := rc_inner (v := u) HRA.out (by have := hcn.out; rw [hy.out] at this; exact this) hjf (by omega) (by rw [← hy.out]; exact h0)
            have hb0 : (y.tmod dd != 0) = true := by simp [h0]
            have hj1 : j + 1 ≤ cc := by omega
            have hq := HCQ.out j hj1
            have HY1 : Hid (y - qq = u - ((j + 1 : Nat) : Int) * qq) := Lib.hid (by have := hy.out; omega)
            have HN1 : Hid ((j + 1) + rcL dd qq (y - qq) f' = cc) := Lib.hid (by rw [HY1.out]; exact hnx)
            have hyy := hy.out
            have p2 : IntKind.i64.wrap (y - qq) = y - qq := IntWalk.i64_in _ (by omega)
            have p3 : IntKind.i64.wrap ((j : Int) + 1) = (j : Int) + 1 := IntWalk.i64_in _ (by omega)
            have hms : (y - qq - (u - (cc : Int) * qq)).toNat < (y - (u - (cc : Int) * qq)).toNat := by omega
            clear h0 hjr hyy hq hnx
            go_wp2_with fail
            go_roundw
            case rel =>
              refine ⟨j + 1, f', y - qq, by omega, hj1, HY1, rfl, HN1, Lib.hid ((hri.out.set (i + 1) (.int .i64 ((j : Int) + 1))).congr fun y' hy' => ?_), Lib.hid (hbi.out.setCell (p := ⟨wc.heap.size, i + 1, none⟩) (Nat.le_refl _) _)⟩
              by_cases h1 : y' = i + 1
              · subst h1; simp
              · simp only [if_neg h1]
            case measure => simp only [intOf]; exact hms

theorem semi_if (x : Int) (b : Bool) (w : World) (hb : semiB x = b) :
    Calls Try.prog 78 #[.int .i64 x] w fun e w' => e = .returned (.bool b) ∧ w = w' := by
  subst hb
  unfold semiB
  by_cases h0 : 0 ≤ x
  · by_cases h1 : x ≤ 20000
    · have e : decide (0 ≤ x ∧ x ≤ 20000) = true := decide_eq_true ⟨h0, h1⟩
      rw [e]
      go_enter Try.func78, Try.ntmps78
      go_wp2
      go_ret
      exact ⟨rfl, rfl⟩
    · have e : decide (0 ≤ x ∧ x ≤ 20000) = false := decide_eq_false (by omega)
      rw [e]
      go_enter Try.func78, Try.ntmps78
      go_wp2
      go_ret
      exact ⟨rfl, rfl⟩
  · have e : decide (0 ≤ x ∧ x ≤ 20000) = false := decide_eq_false (by omega)
    rw [e]
    go_enter Try.func78, Try.ntmps78
    go_wp2
    go_ret
    exact ⟨rfl, rfl⟩

set_option maxRecDepth 100000 in
set_option maxHeartbeats 2000000 in
theorem implRepresentationOf_any (v : Value) (zs : List Int) (x : Int) (w : World) (h : ReadI w w.heap.size v zs) (hn : zs.length ≤ 1048576) (hw : ∀ z ∈ zs, (Lit.int .i64 z).wf = true) (hwx : (Lit.int .i64 x).wf = true) :
    Calls Try.prog 68 #[.agg #[v], .int .i64 x] w (AnsIC w (reA zs x) (reC zs x)) := by
  have HWW := Lib.hid hw
  have HN0 := Lib.hid hn
  rcases bool_fs (brB zs) with hp | hp
  · have E := Lib.hid (re_no (v := x) hp)
    have HP := Lib.hid hp
    obtain ⟨n, A, c, rfl, hr, HL, _, hnc, HF, hcm⟩ := h.split2
    obtain ⟨W0, HE⟩ : ∃ W, W = w.alloc (.cells #[.slice A n c] 28) := ⟨_, rfl⟩
    have hb0 : Below w.heap.size w W0 := by rw [HE]; exact below_box _ _
    have H0 := Lib.hid ((h.below hb0).more hb0.size)
    have HEQ := Lib.hid HE
    clear h hr HE HF hn hw hp hwx
    go_enter Try.func68, Try.ntmps68
    go_wp2_with fail
    rw [← HEQ.out]
    refine (implIsBranch_if _ zs _ false H0.out HN0.out HWW.out HP.out).mono ?_
    rintro e w1 ⟨rfl, hb1⟩
    go_wp2_with fail
    go_ret2
    exact AnsIC.empty (by rw [E.out.1]) (by rw [E.out.2]) (hb0.trans (hb1.mono hb0.size))
  have HP := Lib.hid hp
  rcases bool_fs (semiB x) with hsb | hsb
  · have E := Lib.hid (re_out hp hsb)
    have HSB := Lib.hid hsb
    obtain ⟨n, A, c, rfl, hr, HL, _, hnc, HF, hcm⟩ := h.split2
    obtain ⟨W0, HE⟩ : ∃ W, W = w.alloc (.cells #[.slice A n c] 28) := ⟨_, rfl⟩
    have hb0 : Below w.heap.size w W0 := by rw [HE]; exact below_box _ _
    have H0 := Lib.hid ((h.below hb0).more hb0.size)
    have HEQ := Lib.hid HE
    clear h hr HE HF hn hw hp hwx hsb
    go_enter Try.func68, Try.ntmps68
    go_wp2_with fail
    rw [← HEQ.out]
    refine (implIsBranch_if _ zs _ true H0.out HN0.out HWW.out HP.out).mono ?_
    rintro e w1 ⟨rfl, hb1⟩
    have B1 := Lib.hid (hb0.trans (hb1.mono hb0.size))
    clear hb1 hb0
    go_wp2_with fail
    refine (semi_if x false w1 HSB.out).mono ?_
    rintro e w' ⟨rfl, rfl⟩
    go_wp2_with fail
    go_ret2
    exact AnsIC.empty (by rw [E.out.1]) (by rw [E.out.2]) B1.out
  have HSB := Lib.hid hsb
  have hx := semiB_yes hsb
  have HPP := Lib.hid hp
  obtain ⟨n, A, c, rfl, hr, HL, _, hnc, HF, hcm⟩ := h.split2
  obtain ⟨W0, HE⟩ : ∃ W, W = w.alloc (.cells #[.slice A n c] 28) := ⟨_, rfl⟩
  have hb0 : Below w.heap.size w W0 := by rw [HE]; exact below_box _ _
  have hq0 : BoxI W0 w.heap.size (.slice A n c) := by rw [HE]; exact BoxI.new _ _ _
  have H0 := Lib.hid ((h.below hb0).more hb0.size)
  have HNN := Lib.hid hn
  have HWW2 := Lib.hid hw
  have HEQ := Lib.hid HE
  clear h hr HE HF hn hw hp hwx
  go_enter Try.func68, Try.ntmps68
  go_wp2_with fail
  rw [← HEQ.out]
  refine (implIsBranch_if _ zs _ true H0.out HNN.out HWW2.out HPP.out).mono ?_
  rintro e w1 ⟨rfl, hb1⟩
  have cb1 : w1.cell? ⟨w.heap.size, 0, none⟩ = some (.slice A n c) := by rw [hb1.cell (p := ⟨w.heap.size, 0, none⟩) hq0.2]; exact hq0.1
  have H1 := Lib.hid ((H0.out.below hb1).more hb1.size)
  have B1 := Lib.hid (hb0.trans (hb1.mono hb0.size))
  clear hb1 hb0 HEQ
  go_wp2_with fail
  refine (semi_if x true w1 HSB.out).mono ?_
  rintro e w' ⟨rfl, rfl⟩
  go_wp2_with fail
  refine (representation_any _ zs x w1 H1.out HNN.out HPP.out hx).mono ?_
  rintro e w2 ⟨v2, rfl, ho2, hb2⟩
  obtain ⟨A2, c2, rfl⟩ := own_form ho2.1
  have HO2 := Lib.hid (own_lessB ho2 (lo' := w.heap.size) B1.out.size)
  have B2 := Lib.hid (B1.out.trans (hb2.mono B1.out.size))
  clear ho2 hb2
  rcases bool_fs (reB zs x) with hre | hre
  · have E := Lib.hid (re_none HPP.out HSB.out hre)
    rw [hre]
    clear hre
    go_wp2_with fail
    go_ret2
    exact AnsIC.empty (by rw [E.out.1]) (by rw [E.out.2]) B2.out
  · have E := Lib.hid (re_yes HPP.out HSB.out hre)
    rw [hre]
    clear hre
    go_wp2_with fail
    go_ret2
    exact AnsIC.mk' (by rw [E.out.1]) (by rw [E.out.2]) HO2.out B2.out
end Go.Proofs.Ytncgkoanckefmaa
