/- Representations by generators, the program's: contracts. Conditions: stated at each theorem. -/
import Derived.Test.YtncgkoanckefmaaRpM
namespace Go.Proofs.Ytncgkoanckefmaa
open Go.ChangeShapes Go.WideShapes Go.ChangeAt Go.RowKit Go.Deep
set_option linter.unusedVariables false
set_option linter.unusedSimpArgs false

theorem tdiv_abs {u z B C : Int} (hu : -B ≤ u ∧ u ≤ C) (hz : 1 ≤ z) (hB : 0 ≤ B) (hC : 0 ≤ C) : -B ≤ u.tdiv z ∧ u.tdiv z ≤ B + C := by
  have h1 : (u.tdiv z).natAbs = u.natAbs / z.natAbs := Int.natAbs_tdiv u z
  have h2 : u.natAbs / z.natAbs ≤ u.natAbs := Nat.div_le_self _ _
  by_cases h0 : 0 ≤ u
  · have h3 : 0 ≤ u.tdiv z := Int.tdiv_nonneg h0 (by omega)
    omega
  · have h3 : u.tdiv z ≤ 0 := by
      have := Int.tdiv_nonneg (a := -u) (b := z) (by omega) (by omega)
      rw [Int.neg_tdiv] at this; omega
    omega
set_option maxRecDepth 100000 in
set_option maxHeartbeats 4000000 in
theorem representation_any (v : Value) (zs : List Int) (x : Int) (w : World) (h : ReadI w w.heap.size v zs) (hn : zs.length ≤ 1048576) (hp : brB zs = true) (hx : 0 ≤ x ∧ x ≤ 20000) :
    Calls Try.prog 79 #[.agg #[v], .int .i64 x] w fun e w' => ∃ v', e = .returned (.tuple #[v', .bool (reB zs x)]) ∧ OwnI w' w.heap.size w'.heap.size v' (rpC zs (zs.length - 1) x) ∧ Below w.heap.size w w' := by
  have HP := Lib.hid hp
  obtain ⟨n, A, c, rfl, hr, HL, _, hnc, HF, hcm⟩ := h.split2
  have hn0 : 0 < n := by have := brB_pos hp; rw [HL.out] at this; exact this
  have HN1 := Lib.hid hn
  rw [HL.out] at hn
  obtain ⟨a, rfl, hlt, hc0⟩ := hr.2 0 hn0
  obtain ⟨g, o, rfl⟩ := HF.out a rfl
  have hgw : g < w.heap.size := hlt
  obtain ⟨W0, HE⟩ : ∃ W, W = w.alloc (.cells #[.slice (some ⟨g, o, none⟩) n c] 28) := ⟨_, rfl⟩
  have hb0 : Below w.heap.size w W0 := by rw [HE]; exact below_box2 _ _
  have hq0 : BoxI W0 w.heap.size (.slice (some ⟨g, o, none⟩) n c) := by rw [HE]; exact BoxI.new _ _ _
  have hs0 : w.heap.size < W0.heap.size := hq0.2
  have HR := Lib.hid ((h.below hb0).more hb0.size)
  have B0 := Lib.hid hb0
  have HEQ := Lib.hid HE
  have q0 := hq0.1
  have Q0 := Lib.hid q0
  have CZ : Hid (w.cell? ⟨g, o, none⟩ = some (.int .i64 (zs[0]?.getD 0))) := Lib.hid (by
    have h2 : (⟨g, o, none⟩ : Addr).add 0 = ⟨g, o, none⟩ := by rw [add_lit]; rfl
    rw [h2] at hc0; simpa using hc0)
  have HLG : Hid ((gnB zs).length = n) := Lib.hid (by rw [gnB_len, HL.out])
  have HLD : Hid ((dvL 0 zs).length = n) := Lib.hid (by rw [dvL_len, HL.out])
  have HZ := Lib.hid (dcB_range (brB_dcB hp))
  obtain ⟨m, rfl⟩ : ∃ m, n = m + 1 := ⟨n - 1, by omega⟩
  have HZF := Lib.hid (br_first hp)
  have HLM : Hid (zs.length - 1 = m) := Lib.hid (by have := HL.out; omega)
  have HD0 : Hid (dvA zs m ∣ x) := Lib.hid (by have := dvA_last hp; rw [HLM.out] at this; rw [this]; exact Int.one_dvd _)
  rw [HLM.out]
  clear h hr hp hb0 hq0 HE hc0 hlt
  go_enter Try.func79, Try.ntmps79
  go_upto_region 1 with fail
  rw [← HEQ.out]
  go_cut [6, 7] (fun s3 s4 wx => Hid (TwoCut W0 (gnB zs) (dvL 0 zs) (m + 1) wx s3 s4))
  case first =>
    refine wp_region_held_drew (S := fun w' => w'.cell? ⟨w.heap.size, 0, none⟩ = some (.slice (some ⟨g, o, none⟩) (m + 1) c)) (by kernel_rfl) (q0) (fun hHeld => ?_)
    refine takeY 0 _ (v := ?_) rfl rfl (by kernel_rfl) (by kernel_rfl) (by kernel_rfl) (fun _ _ _ h => h) (by kernel_rfl) ?_ (by assumption) ?_
    rotate_left 1
    · intro w hSw; (try dsimp only at hSw); go_simp; (try with_reducible rfl)
    try simp only [Act.put, List.setIfInBounds_toArray, List.set_cons_zero, List.set_cons_succ]
    refine takeY 2 _ (v := ?_) rfl rfl (by kernel_rfl) (by kernel_rfl) (by kernel_rfl) (fun _ _ _ h => h) (by kernel_rfl) ?_ (by assumption) ?_
    rotate_left 1
    · intro w hSw; (try dsimp only at hSw); go_simp; (try with_reducible rfl)
    try simp only [Act.put, List.setIfInBounds_toArray, List.set_cons_zero, List.set_cons_succ]
    refine takeY 3 _ (v := ?_) rfl rfl (by kernel_rfl) (by kernel_rfl) (by kernel_rfl) (fun _ _ _ h => h) (by kernel_rfl) ?_ (by assumption) ?_
    rotate_left 1
    · intro w hSw; (try dsimp only at hSw); go_simp; (try with_reducible rfl)
    try simp only [Act.put, List.setIfInBounds_toArray, List.set_cons_zero, List.set_cons_succ]
    refine wpAnyH_ready (rs := [1]) (by kernel_rfl) (by simp) ?_
    refine AllReadyH.cons rfl (fun K hK => ?_) AllReadyH.nil
    go_simp
    refine (generators_any _ zs W0.drew HR.out HN1.out HP.out).mono ?_
    rintro e W1 ⟨v1, rfl, hv1, ho1, hb1⟩
    clear hv1
    replace hb1 : Below W0.heap.size W0 W1 := ⟨hb1.os, hb1.tape, hb1.output, hb1.size, hb1.block⟩
    obtain ⟨A1, c1, rfl⟩ := ho1.form HLG.out
    obtain ⟨gg, e1, hd1, hd2, _, _⟩ := own_at ho1 HLG.out hn0
    cases e1
    have hs1 := hb1.size
    change W0.heap.size ≤ gg at hd1
    have q1 := (hb1.cell (p := ⟨w.heap.size, 0, none⟩) hs0).trans q0
    refine hK.out _ (W1) q1 (fun hHeld => ?_)
    clear hK K
    try simp only [Act.put, List.setIfInBounds_toArray, List.set_cons_zero, List.set_cons_succ]
    refine wpAnyH_ready (rs := [4]) (by kernel_rfl) (by simp) ?_
    refine AllReadyH.cons rfl (fun K hK => ?_) AllReadyH.nil
    go_simp
    refine (divisors_any _ zs W1 W0.heap.size (HR.out.below hb1) HN1.out hs1 HZ.out).mono ?_
    rintro e W2 ⟨v2, rfl, hv2, ho2, hb2⟩
    clear hv2
    obtain ⟨A2, c2, rfl⟩ := ho2.form HLD.out
    obtain ⟨d, e2, hd3, hd4, _, _⟩ := own_at ho2 HLD.out hn0
    cases e2
    have q2 := (hb2.cell (p := ⟨w.heap.size, 0, none⟩) (by show w.heap.size < _; omega)).trans q1
    refine hK.out _ (W2) q2 (fun hHeld => ?_)
    clear hK K
    try simp only [Act.put, List.setIfInBounds_toArray, List.set_cons_zero, List.set_cons_succ]
    refine takeY 5 _ (v := ?_) rfl rfl (by kernel_rfl) (by kernel_rfl) (by kernel_rfl) (fun _ _ _ h => h) (by kernel_rfl) ?_ (by assumption) ?_
    rotate_left 1
    · intro w hSw; (try dsimp only at hSw); go_simp; (try with_reducible rfl)
    try simp only [Act.put, List.setIfInBounds_toArray, List.set_cons_zero, List.set_cons_succ]
    refine takeY 6 _ (v := ?_) rfl rfl (by kernel_rfl) (by kernel_rfl) (by kernel_rfl) (fun _ _ _ h => h) (by kernel_rfl) ?_ (by assumption) ?_
    rotate_left 1
    · intro w hSw; (try dsimp only at hSw); go_simp; (try with_reducible rfl)
    try simp only [Act.put, List.setIfInBounds_toArray, List.set_cons_zero, List.set_cons_succ]
    refine wpAnyH_done (by kernel_rfl) ?_ _
    go_wp2_with fail
    go_meet
    exact Lib.hid (two_cut (n := m + 1) (own_tight ho1 hd2) (own_tight ho2 hd4) (by omega) (hb1.trans (hb2.mono hs1)) hb2 hd2)
  case rest =>
    obtain ⟨gg, d, c1, c2, rfl, rfl, hog, hod, hdg, hbw⟩ := hcut.out
    have hdw : d < wc.heap.size := hod.2.2
    have hggw : gg < wc.heap.size := hog.2.2
    have hsw := hbw.size
    have hmk := fun (W : World) => run_make_row' (P := Try.prog) 22 2 (.int .i64 0) 8 Try.underlying22 int_info rfl .i64 .i64 (m + 1) (by omega) (by omega) W
    simp only [Int.natCast_add, Int.cast_ofNat_Int] at hmk
    have p0 : IntKind.i64.wrap ((m : Int) + 1 - 1) = (m : Int) := by rw [IntWalk.i64_in _ (by omega)]; omega
    have hbC : Below wc.heap.size wc (wc.alloc (.cells (madeCells #[.int .i64 0] (m + 1)) 2)) := below_box2 _ _
    have hsC : (wc.alloc (.cells (madeCells #[.int .i64 0] (m + 1)) 2)).heap.size = wc.heap.size + 1 := by simp
    have ROW0 : Hid ((wc.alloc (.cells (madeCells #[.int .i64 0] (m + 1)) 2)).rowIs wc.heap.size 2 (m + 1) (fun y => if m < y then .int .i64 ((rpC zs m x).getD y 0) else .int .i64 0)) := Lib.hid ((World.rowIs_made wc _ (m + 1) _).congr (fun i hi => by rw [if_neg (by omega)]))
    go_wp2_with fail
    clear hmk
    generalize wc.alloc (.cells (madeCells #[.int .i64 0] (m + 1)) 2) = WC at *
    have OD := Lib.hid (hod.kept (Kept.of_below hbC (by omega)))
    have OG := Lib.hid (hog.kept (Kept.of_below hbC (by omega)))
    have BC := Lib.hid (B0.out.trans ((hbw.trans (hbC.mono hsw)).mono (by omega)))
    have QC := Lib.hid (((hbw.trans (hbC.mono hsw)).cell (p := ⟨w.heap.size, 0, none⟩) hs0).trans Q0.out)
    have HB0 : Hid (Below wc.heap.size WC WC) := Lib.hid (Below.refl _ _)
    have hsw2 : w.heap.size < wc.heap.size := by omega
    clear hod hog hbw hbC hcut q0
    go_loopw [1, 9] (fun vv vi wr => ∃ (i : Nat) (u : Int) (T : List Int), i ≤ m ∧ vv = .int .i64 u ∧ vi = .int .i64 i ∧ (-(8192000 * ((m : Int) - (i : Int))) ≤ u ∧ u ≤ 20000) ∧ Hid (dvA zs i ∣ u) ∧ Hid (rpV zs m x = rpV zs i u) ∧ Hid (T.length + i = m) ∧ Hid (rpC zs m x = rpC zs i u ++ T) ∧ Hid (wr.rowIs wc.heap.size 2 (m + 1) (fun y => if i < y then .int .i64 ((rpC zs m x).getD y 0) else .int .i64 0)) ∧ Hid (Below wc.heap.size WC wr)) (fun _ vi _ => (intOf vi).toNat)
    case atStart => exact ⟨m, x, [], Nat.le_refl _, rfl, rfl, by omega, HD0, Lib.hid rfl, Lib.hid (by simp), Lib.hid (by simp), ROW0, HB0⟩
    case round =>
      clear ROW0 HB0
      obtain ⟨i, u, T, hi, rfl, rfl, hub, hdv, hv, hT, hC, hrow, hb⟩ := hrel
      have hsz := hb.out.size
      cases i with
      | zero =>
        have qr : wr.cell? ⟨w.heap.size, 0, none⟩ = some (.slice (some ⟨g, o, none⟩) (m + 1) c) := (hb.out.cell (p := ⟨w.heap.size, 0, none⟩) (by show w.heap.size < _; omega)).trans QC.out
        have cz : wr.cell? ⟨g, o, none⟩ = some (.int .i64 (zs[0]?.getD 0)) := (hb.out.cell (p := ⟨g, o, none⟩) (by show g < _; omega)).trans ((BC.out.cell (p := ⟨g, o, none⟩) hgw).trans CZ.out)
        have hdst := hrow.out.cell (show 0 < m + 1 by omega)
        simp only [Nat.lt_irrefl, if_false] at hdst
        have hfz := hrow.out.frozen 0
        have hzf := HZF.out
        have HC0 : Hid ((rpC zs m x).getD 0 0 = u.tdiv (zs[0]?.getD 0)) := Lib.hid (by rw [hC.out]; simp [rpC])
        obtain ⟨z0, hz00⟩ : ∃ z, zs[0]?.getD 0 = z := ⟨_, rfl⟩
        rw [hz00] at cz hzf HC0
        have hdz : (z0 == 0) = false := by simp; omega
        have hdz2 : ¬ z0 = 0 := by omega
        have hqb : -(8192000 * (m : Int)) ≤ u.tdiv z0 ∧ u.tdiv z0 ≤ 8192000 * (m : Int) + 20000 := tdiv_abs (B := 8192000 * (m : Int)) (C := 20000) (by omega) (by omega) (by omega) (by omega)
        have p4 : IntKind.i64.wrap (u.tdiv z0) = u.tdiv z0 := IntWalk.i64_in _ (by omega)
        have HR3 := Lib.hid ((hrow.out.set 0 (.int .i64 (u.tdiv z0))).congr (g := fun y => if y < m + 1 then .int .i64 ((rpC zs m x).getD y 0) else .int .i64 0) (fun y hy => by
          by_cases h1 : y = 0
          · subst h1; simp only [if_true, if_pos hy, HC0.out]
          · simp only [if_neg h1, if_pos (show 0 < y by omega), if_pos hy]))
        have HB3 := Lib.hid (hb.out.setCell (p := ⟨wc.heap.size, 0, none⟩) (Nat.le_refl _) (.int .i64 (u.tdiv z0)))
        have HLC : Hid ((rpC zs m x).length = m + 1) := Lib.hid (rpC_len _ _ _)
        have HV0 : Hid (rpV zs m x = u) := Lib.hid hv.out
        by_cases hu : 0 ≤ u
        · have HB : Hid (reB zs x = true) := Lib.hid (by unfold reB; rw [HLM.out, HV0.out]; exact decide_eq_true hu)
          clear hz00
          go_wp2_with fail
          go_ret2
          exact ⟨_, by rw [HB.out]; rfl, by have := row_ownB HR3.out HLC.out (show w.heap.size ≤ wc.heap.size by omega) (by omega); exact this, BC.out.trans (HB3.out.mono (by omega))⟩
        · have HB : Hid (reB zs x = false) := Lib.hid (by unfold reB; rw [HLM.out, HV0.out]; exact decide_eq_false hu)
          clear hz00
          go_wp2_with fail
          go_ret2
          exact ⟨_, by rw [HB.out]; rfl, by have := row_ownB HR3.out HLC.out (show w.heap.size ≤ wc.heap.size by omega) (by omega); exact this, BC.out.trans (HB3.out.mono (by omega))⟩
      | succ i =>
        have hi1 : i + 1 < zs.length := by rw [HL.out]; omega
        have HLV := Lib.hid (rc_level HP.out hi1 hdv.out)
        have hlv := HLV.out.1
        have HRA : Hid (rcL (dvA zs i) (gnA zs (i + 1)) u 64 = rcA zs i u) := Lib.hid rfl
        have HCS := Lib.hid (rpC_step zs i u)
        have HVS := Lib.hid (rpV_step zs i u)
        have HRR := Lib.hid (fun (j : Nat) (hj : j ≤ 64) => rc_range HP.out hi1 hj)
        have hdp := dvA_pos HP.out (i := i) (by omega)
        have hgp := gnA_pos HP.out (i := i + 1) hi1
        obtain ⟨d', e1, _, _, hcd, _⟩ := own_at OD.out HLD.out (show i < m + 1 by omega)
        cases e1
        obtain ⟨g', e1, _, _, hcg, _⟩ := own_at OG.out HLG.out (show i + 1 < m + 1 by omega)
        cases e1
        obtain ⟨cc, hcc⟩ : ∃ c, rcA zs i u = c := ⟨_, rfl⟩
        obtain ⟨dd, hdd⟩ : ∃ c, dvA zs i = c := ⟨_, rfl⟩
        obtain ⟨qq, hqq⟩ : ∃ c, gnA zs (i + 1) = c := ⟨_, rfl⟩
        rw [show (dvL 0 zs)[i]?.getD 0 = dd from hdd] at hcd
        rw [show (gnB zs)[i + 1]?.getD 0 = qq from hqq] at hcg
        rw [hdd, hqq, hcc] at HRA
        rw [hcc, hqq] at HCS HVS HLV
        rw [hcc] at hlv
        rw [hqq] at HRR hgp
        rw [hdd] at hdp
        have HDD := Lib.hid hdd
        have hdz : (dd == 0) = false := by simp; omega
        have hdz2 : ¬ dd = 0 := by omega
        have hin : (0 : Int) < (i : Int) + 1 := by omega
        have hin1 : (1 : Int) ≤ (i : Int) + 1 := by omega
        have h1n : i + 1 < m + 1 := by omega
        have h1ni : (i : Int) + 1 < (m : Int) + 1 := by omega
        have h0ni : (i : Int) < (m : Int) + 1 := by omega
        have h0n : i < m + 1 := by omega
        have h00 : (0 : Int) ≤ (i : Int) := by omega
        have h01 : (0 : Int) ≤ (i : Int) + 1 := by omega
        have h7 : ((i : Int) + 1).toNat = i + 1 := by omega
        have p1 : IntKind.i64.wrap ((i : Int) + 1 - 1) = (i : Int) := by rw [IntWalk.i64_in _ (by omega)]; omega
        have HROW := Lib.hid (hrow.out.congr (g := fun y => if y = i + 1 then .int .i64 ((0 : Nat) : Int) else if i + 1 < y then .int .i64 ((rpC zs m x).getD y 0) else .int .i64 0) (fun y hy => by
          by_cases h1 : y = i + 1
          · subst h1; simp
          · simp only [if_neg h1]))
        have HJ0 : Hid (0 + rcL dd qq u 64 = cc) := Lib.hid (by rw [Nat.zero_add]; exact HRA.out)
        have HY0 : Hid (u = u - ((0 : Nat) : Int) * qq) := Lib.hid (by simp)
        have HBR := hb
        have hPos := HRR.out cc (by omega)
        have HCQ : Hid (∀ j : Nat, j + 1 ≤ cc → ((j + 1 : Nat) : Int) * qq = (j : Int) * qq + qq ∧ ((j + 1 : Nat) : Int) * qq ≤ (cc : Int) * qq) := Lib.hid (fun j hj => ⟨by push_cast; rw [Int.add_mul]; omega, Int.mul_le_mul_of_nonneg_right (by omega) (by omega)⟩)
        clear hcc hdd hqq hrow hb
        go_wp2_with fail
        go_loopw [1] (fun vv wi => ∃ (j f : Nat) (y : Int), j + f = 64 ∧ j ≤ cc ∧ Hid (y = u - (j : Int) * qq) ∧ vv = .int .i64 y ∧ Hid (j + rcL dd qq y f = cc) ∧ Hid (wi.rowIs wc.heap.size 2 (m + 1) (fun y => if y = i + 1 then .int .i64 (j : Int) else if i + 1 < y then .int .i64 ((rpC zs m x).getD y 0) else .int .i64 0)) ∧ Hid (Below wc.heap.size WC wi)) (fun vv _ => (intOf vv - (u - (cc : Int) * qq)).toNat)
        case atStart => exact ⟨0, 64, u, rfl, by omega, HY0, rfl, HJ0, HROW, HBR⟩
        case round =>
          obtain ⟨j, f, y, hjf, hjc, hy, rfl, hcn, hri, hbi⟩ := hrel
          have hszi := hbi.out.size
          have hcdi : wr.cell? ⟨d, i, none⟩ = some (.int .i64 dd) := (hbi.out.cell (p := ⟨d, i, none⟩) hdw).trans hcd
          have hcgi : wr.cell? ⟨gg, i + 1, none⟩ = some (.int .i64 qq) := (hbi.out.cell (p := ⟨gg, i + 1, none⟩) hggw).trans hcg
          have hjr := HRR.out j (by omega)
          have hyr : -(8192000 * ((m : Int) - (i : Int))) ≤ y ∧ y ≤ 20000 := by have := hy.out; omega
          have hwp : IntKind.i64.wrap (y.tmod dd) = y.tmod dd := IntWalk.i64_in _ (by have h1 := Int.natAbs_tmod y dd; have h2 : y.natAbs % dd.natAbs ≤ y.natAbs := Nat.mod_le _ _; omega)
          have hdst := hri.out.cell h1n
          simp only [if_true] at hdst
          have hfz := hri.out.frozen (i + 1)
          by_cases h0 : y.tmod dd = 0
          · have hjcc : j = cc := by have := hcn.out; rw [rcL_zero h0] at this; omega
            subst hjcc
            have hb0 : (y.tmod dd != 0) = false := by simp [h0]
            have HU : Hid (u - (j : Int) * qq = y) := Lib.hid hy.out.symm
            have HT2 : Hid ((((j : Int) :: T) : List Int).length + i = m) := Lib.hid (by have := hT.out; simp; omega)
            have HC2 : Hid (rpC zs m x = rpC zs i y ++ ((j : Int) :: T)) := Lib.hid (by rw [hC.out, HCS.out, HU.out]; simp)
            have HD2 : Hid (dvA zs i ∣ y) := Lib.hid (by rw [← HU.out]; exact HLV.out.2.2)
            have HV2 : Hid (rpV zs m x = rpV zs i y) := Lib.hid (by rw [hv.out, HVS.out, HU.out])
            have HR2 := Lib.hid (hri.out.congr (g := fun y' => if i < y' then .int .i64 ((rpC zs m x).getD y' 0) else .int .i64 0) (fun y' hy' => by
              by_cases h1 : y' = i + 1
              · subst h1
                have h3 : (rpC zs m x).getD (i + 1) 0 = (j : Int) := by
                  rw [HC2.out, List.getD, List.getElem?_append_right (by rw [rpC_len]; omega), rpC_len]; simp
                simp only [if_true, show i < i + 1 by omega, h3]
              · by_cases h2 : i + 1 < y'
                · simp only [if_neg h1, if_pos h2, if_pos (show i < y' by omega)]
                · simp only [if_neg h1, if_neg h2, if_neg (show ¬ i < y' by omega)]))
            clear h0 hjr
            go_wp2_with fail
            go_roundw
            case rel => exact ⟨i, y, (j : Int) :: T, by omega, rfl, by go_num, by omega, HD2, HV2, HT2, HC2, HR2, hbi⟩
            case measure => first | (simp [intOf]; done) | (simp [intOf]; omega)
          · obtain ⟨f', rfl, hnx⟩ := rc_inner (v := u) HRA.out (by have := hcn.out; rw [hy.out] at this; exact this) hjf (by omega) (by rw [← hy.out]; exact h0)
            have hb0 : (y.tmod dd != 0) = true := by simp [h0]
            have hj1 : j + 1 ≤ cc := by omega
            have hq := HCQ.out j hj1
            have HY1 : Hid (y - qq = u - ((j + 1 : Nat) : Int) * qq) := Lib.hid (by have := hy.out; omega)
            have HN1 : Hid ((j + 1) + rcL dd qq (y - qq) f' = cc) := Lib.hid (by rw [HY1.out]; exact hnx)
            have hyy := hy.out
            have p2 : IntKind.i64.wrap (y - qq) = y - qq := IntWalk.i64_in _ (by omega)
            have p3 : IntKind.i64.wrap ((j : Int) + 1) = (j : Int) + 1 := IntWalk.i64_in _ (by omega)
            have hms : (y - qq - (u - (cc : Int) * qq)).toNat < (y - (u - (cc : Int) * qq)).toNat := by omega
            clear h0 hjr hyy hq hnx
            go_wp2_with fail
            go_roundw
            case rel =>
              refine ⟨j + 1, f', y - qq, by omega, hj1, HY1, rfl, HN1, Lib.hid ((hri.out.set (i + 1) (.int .i64 ((j : Int) + 1))).congr fun y' hy' => ?_), Lib.hid (hbi.out.setCell (p := ⟨wc.heap.size, i + 1, none⟩) (Nat.le_refl _) _)⟩
              by_cases h1 : y' = i + 1
              · subst h1; simp
              · simp only [if_neg h1]
            case measure => simp only [intOf]; exact hms
end Go.Proofs.Ytncgkoanckefmaa
