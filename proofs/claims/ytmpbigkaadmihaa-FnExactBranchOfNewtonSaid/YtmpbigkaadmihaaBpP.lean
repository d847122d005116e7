/- A branch of pairs: contract of impl.branchOfPairs. Conditions: stated at the theorem. -/
import Derived.Test.YtmpbigkaadmihaaBpA
import Derived.Test.YtmpbigkaadmihaaBrZ
namespace Go.Proofs.Ytmpbigkaadmihaa
open Go.ChangeShapes Go.WideShapes Go.ChangeAt Go.RowKit
set_option linter.unusedVariables false
set_option linter.unusedSimpArgs false

set_option maxHeartbeats 2000000 in
set_option maxRecDepth 100000 in
theorem branchOfPairs_any (g n : Nat) (ps : List (Int × Int)) (w : World) (hr : PRow w g n (pF ps)) (hn : ps.length = n) (hn2 : n ≤ 64) (hok : PsOK 1000000 ps) :
    Calls Try.prog 57 #[.slice (some ⟨g, 0, none⟩) n n] w (AnsRC w (bqA ps) (bqC ps)) := by
  have hg : g < w.heap.size := World.rowIs.lt hr
  obtain ⟨W0, HE⟩ : ∃ W, W = w.alloc (.cells #[.slice none 0 0] 26) := ⟨_, rfl⟩
  have hS0 : Start1 w W0 := by rw [HE]; exact Start1.new _
  have hb0 := hS0.below
  have HR := Lib.hid (hr.below hb0)
  have S0 := Lib.hid hS0
  have HEQ := Lib.hid HE
  have OK := Lib.hid hok
  have HL := Lib.hid hn
  have hsw : w.heap.size < W0.heap.size := hS0.res.2
  clear hr hok hn hb0 hS0 HE
  have hmk := fun (W : World) => run_make_row' (P := Try.prog) 24 2 (.int .i64 0) 8 Try.underlying24 int_info rfl .i64 .i64 n (by omega) (by omega) W
  have E0 : Hid (prdL (ps.drop n) = 1) := Lib.hid (by rw [← HL.out, List.drop_length]; rfl)
  have p9 : IntKind.i64.wrap ((n : Int) - 1) = (n : Int) - 1 := IntWalk.i64_in _ (by omega)
  go_enter Try.func57, Try.ntmps57
  go_wp2_with fail
  rw [← HEQ.out]
  clear hmk
  go_loopw [5, 6] (fun ve vi wr => ∃ (j e : Int) (k : Nat), (-1 ≤ j ∧ j < n) ∧ (1 ≤ e ∧ e ≤ 64) ∧ j = (k : Int) - 1 ∧ ve = .int .i64 e ∧ vi = .int .i64 j ∧ Hid (prdL (ps.drop k) = e) ∧ Hid (wr.rowIs (w.heap.size + 1) 2 n (fun x => if k ≤ x then .int .i64 (tmF ps x) else .int .i64 0)) ∧ Hid (Below W0.heap.size W0 wr)) (fun _ vi _ => ((intOf vi) + 1).toNat)
  case atStart =>
    have hs1 := S0.out.size
    refine ⟨(n : Int) - 1, 1, n, by omega, by omega, rfl, rfl, rfl, E0, Lib.hid ?_, Lib.hid ((Below.refl _ _).alloc (Nat.le_refl _) _)⟩
    rw [show w.heap.size + 1 = W0.heap.size from hs1.symm]
    exact (World.rowIs_made W0 _ n _).congr (fun i hi => by simp [show ¬ n ≤ i by omega])
  case round =>
    clear E0 p9
    obtain ⟨j, e, k, hj, he, hjk, rfl, rfl, hg2, hrow, hb⟩ := hrel
    by_cases hlt : 0 ≤ j
    · obtain ⟨i, rfl⟩ : ∃ i : Nat, j = (i : Int) := ⟨j.toNat, by omega⟩
      obtain rfl : k = i + 1 := by omega
      have hin : i < n := by omega
      have hil : Hid (i < ps.length) := Lib.hid (by have := HL.out; omega)
      obtain ⟨q1, q2, _, _⟩ := HR.out.cells hin
      have c1 : wr.cell? ⟨g, i * 2, none⟩ = some (.int .i64 (pF ps i).1) := (hb.out.cell (p := ⟨g, i * 2, none⟩) (by show g < _; omega)).trans q1
      have c2 : wr.cell? ⟨g, i * 2 + 1, none⟩ = some (.int .i64 (pF ps i).2) := (hb.out.cell (p := ⟨g, i * 2 + 1, none⟩) (by show g < _; omega)).trans q2
      obtain ⟨ha, hb1, hb2⟩ := OK.out.at hil.out
      have hee := OK.out.e i
      have HT : Hid (tmF ps i = (pF ps i).1 * e) := Lib.hid (by rw [tmF, hg2.out])
      have HD : Hid (prdL (ps.drop i) = (pF ps i).2 * e) := Lib.hid (by rw [prdL_drop hil.out, hg2.out])
      rw [HD.out] at hee
      generalize (pF ps i).1 = a at *
      generalize (pF ps i).2 = b at *
      have hae := mul_range ha he
      have p1 : IntKind.i64.wrap (a * e) = a * e := IntWalk.i64_in _ (by omega)
      have p2 : IntKind.i64.wrap (e * b) = e * b := IntWalk.i64_in _ (by rw [Int.mul_comm]; omega)
      have HD2 : Hid (prdL (ps.drop i) = e * b) := Lib.hid (by rw [HD.out, Int.mul_comm])
      rw [Int.mul_comm b e] at hee
      generalize hx1 : a * e = x1 at *
      generalize hx2 : e * b = x2 at *
      have p3 : IntKind.i64.wrap ((i : Int) - 1) = (i : Int) - 1 := IntWalk.i64_in _ (by omega)
      have hin2 : (i : Int) < (n : Int) := by omega
      have hdst := hrow.out.cell hin
      simp only [show ¬ i + 1 ≤ i by omega, if_false] at hdst
      have hfz := hrow.out.frozen i
      have hgn : g ≠ w.heap.size + 1 := by omega
      have HN2 : Hid ((wr.setCell ⟨w.heap.size + 1, i, none⟩ (.int .i64 x1)).rowIs (w.heap.size + 1) 2 n (fun x => if i ≤ x then .int .i64 (tmF ps x) else .int .i64 0)) := Lib.hid ((hrow.out.set i _).congr fun x hx => by
        by_cases h1 : x = i
        · subst h1; simp only [if_true, Nat.le_refl]; rw [HT.out]
        · by_cases h2 : i ≤ x
          · simp only [h1, h2, if_false, if_true, show i + 1 ≤ x by omega]
          · simp only [h1, h2, if_false, show ¬ i + 1 ≤ x by omega])
      have HB2 : Hid (Below W0.heap.size W0 (wr.setCell ⟨w.heap.size + 1, i, none⟩ (.int .i64 x1))) := Lib.hid (hb.out.setCell (by have := S0.out.size; show W0.heap.size ≤ w.heap.size + 1; omega) _)
      clear q1 q2 HD HT hjk
      go_wp2
      go_roundw
      case rel => exact ⟨(i : Int) - 1, x2, i, by omega, hee, rfl, rfl, rfl, HD2, HN2, HB2⟩
      case measure => simp [intOf]
    · obtain rfl : k = 0 := by omega
      have HE1 : Hid (bpL ps = e :: tmL ps) := Lib.hid (by have := hg2.out; simp only [List.drop_zero] at this; rw [bpL, this])
      have hs1 := S0.out.size
      have HO : Hid (OwnI wr W0.heap.size wr.heap.size (.slice (some ⟨w.heap.size + 1, 0, none⟩) n n) (tmL ps)) := Lib.hid (row_ownB (hrow.out.congr (fun x hx => by simp only [hx, if_true, Nat.zero_le]; rw [tmL_at (by rw [HL.out]; exact hx)])) (by rw [tmL_len, HL.out]) (by omega) (by omega))
      have RD := Lib.hid HO.out.reads
      have HLT : Hid ((tmL ps).length = n) := Lib.hid (by rw [tmL_len, HL.out])
      have hszw := hb.out.size
      go_wp2_with fail
      refine (branchWith_any e _ (tmL ps) wr RD.out (by rw [HLT.out]; omega)).mono ?_
      rintro e4 w4 ⟨v4, rfl, ho4, hb4⟩
      obtain ⟨A4, c4, rfl⟩ := ho4.form (n := n + 1) (by simp [HLT.out])
      obtain ⟨W4, HE4⟩ : ∃ W, W = w4.alloc (.cells #[.slice A4 (n + 1) c4] 26) := ⟨_, rfl⟩
      have hb5 : Below w4.heap.size w4 W4 := by rw [HE4]; exact below_box2 _ _
      have hq5 : BoxI W4 w4.heap.size (.slice A4 (n + 1) c4) := by rw [HE4]; exact BoxI.new _ _ _
      have hbw4 : Below W0.heap.size W0 W4 := (hb.out.trans (hb4.mono (by omega))).trans (hb5.mono (by have := hb4.size; omega))
      have O5 : Hid (OwnI W4 wr.heap.size w4.heap.size (.slice A4 (n + 1) c4) (bpL ps)) := Lib.hid (by rw [HE1.out]; exact ho4.kept (Kept.of_below hb5 (Nat.le_refl _)))
      have B5 := Lib.hid hbw4
      have R5 : Hid (ReadI W4 W4.heap.size (.slice A4 (n + 1) c4) (bpL ps)) := Lib.hid (by rw [HE1.out]; exact (ho4.kept (Kept.of_below hb5 (Nat.le_refl _))).reads)
      have HE4' := Lib.hid HE4
      have hq50 := hq5.1
      have hlt5 := hq5.2
      have HLB : Hid ((bpL ps).length = n + 1) := Lib.hid (by rw [bpL_len, HL.out])
      have HWL : Hid (∀ z ∈ bpL ps, (Lit.int .i64 z).wf = true) := Lib.hid (fun z hz => by
        have := OK.out.range (by omega) z hz
        exact i64_wf (by omega) (by omega))
      have hs4 := hb4.size
      have hs5 := hb5.size
      clear ho4 hb4 hb5 hq5 hbw4 HE4
      go_wp2_with fail
      rw [← HE4'.out]
      cases hp : brB (bpL ps)
      · have E := Lib.hid (bq_no (ps := ps) (by simp [bqB, hp]))
        refine (implIsBranch_if _ (bpL ps) W4 false R5.out (by rw [HLB.out]; omega) HWL.out hp).mono ?_
        rintro e5 w6 ⟨rfl, hb6⟩
        obtain ⟨l2, l3, l4⟩ := S0.out.later (B5.out.trans (hb6.mono (by omega)))
        have B6 := Lib.hid (S0.out.below.trans ((B5.out.trans (hb6.mono (by omega))).mono (by omega)))
        clear hb6 hp
        go_wp2_with fail
        have cr : (w6.setCell ⟨w.heap.size, 0, none⟩ (.slice none 0 0)).cell? ⟨w.heap.size, 0, none⟩ = some (.slice none 0 0) := by go_simp
        refine bodyPost_ret (v := .tuple #[.agg #[.slice none 0 0], .int .i64 5]) (by simp [results, Try.results57, go_sem, cr]) rfl ?_
        exact ansR_endG _ (Nat.le_refl _) E.out.1.symm E.out.2.symm (OwnI.nil _ _) (by intro h; cases h) B6.out _
      · refine (implIsBranch_if _ (bpL ps) W4 true R5.out (by rw [HLB.out]; omega) HWL.out hp).mono ?_
        rintro e5 w6 ⟨rfl, hb6⟩
        have hc6 : w6.cell? ⟨w4.heap.size, 0, none⟩ = some (.slice A4 (n + 1) c4) := by rw [hb6.cell (p := ⟨w4.heap.size, 0, none⟩) hlt5]; exact hq50
        have R6 := Lib.hid ((R5.out.below hb6).more hb6.size)
        have B6 := Lib.hid (B5.out.trans (hb6.mono (by omega)))
        have K6 := Lib.hid hb6
        have hs6 := hb6.size
        have hlen : (bpL ps).length - 1 = n := by have := HLB.out; omega
        have HPP := Lib.hid hp
        clear hb6 hp
        go_wp2_with fail
        refine (puiseux_any _ (bpL ps) w6 R6.out (by rw [HLB.out]; omega) HPP.out).mono ?_
        rintro e7 w7 ⟨g7, he7, hg7, hp7, hb7⟩
        rw [hlen] at he7 hp7
        subst he7
        have P7 := Lib.hid hp7
        have B7 := Lib.hid (B6.out.trans (hb7.mono (by omega)))
        have K7 := Lib.hid (K6.out.trans (hb7.mono (by omega)))
        have hs7 := hb7.size
        clear hp7 hb7 hg7
        go_wp2_with fail
        refine (eqPairs_any g7 g n (ppF (bpL ps)) (pF ps) w7 P7.out (HR.out.below B7.out) (by omega)).mono ?_
        rintro e8 w8 ⟨b, rfl, hbb, hb8⟩
        obtain ⟨l2, l3, l4⟩ := S0.out.later (B7.out.trans (hb8.mono (by omega)))
        have B8 := Lib.hid (S0.out.below.trans ((B7.out.trans (hb8.mono (by omega))).mono (by omega)))
        have K8 := Lib.hid (K7.out.trans (hb8.mono (by omega)))
        have HBB : Hid (b = true ↔ bqB ps = true) := Lib.hid (by rw [bqB_iff, hbb, HL.out]; simp [HPP.out])
        have hs8 := hb8.size
        clear hb8 hbb
        cases b
        · have E := Lib.hid (bq_no (ps := ps) (by rw [← Bool.not_eq_true]; intro h; exact absurd (HBB.out.2 h) (by simp)))
          go_wp2_with fail
          have cr : (w8.setCell ⟨w.heap.size, 0, none⟩ (.slice none 0 0)).cell? ⟨w.heap.size, 0, none⟩ = some (.slice none 0 0) := by go_simp
          refine bodyPost_ret (v := .tuple #[.agg #[.slice none 0 0], .int .i64 5]) (by simp [results, Try.results57, go_sem, cr]) rfl ?_
          exact ansR_endG _ (Nat.le_refl _) E.out.1.symm E.out.2.symm (OwnI.nil _ _) (by intro h; cases h) B8.out _
        · have E := Lib.hid (bq_yes (HBB.out.1 rfl))
          have hc8 : w8.cell? ⟨w4.heap.size, 0, none⟩ = some (.slice A4 (n + 1) c4) := by rw [K8.out.cell (p := ⟨w4.heap.size, 0, none⟩) hlt5]; exact hq50
          have O8 : Hid (OwnI w8 wr.heap.size w4.heap.size (.slice A4 (n + 1) c4) (bpL ps)) := Lib.hid (O5.out.kept (Kept.of_below K8.out (by omega)))
          go_wp2_with fail
          have cr : (w8.setCell ⟨w.heap.size, 0, none⟩ (.slice A4 (n + 1) c4)).cell? ⟨w.heap.size, 0, none⟩ = some (.slice A4 (n + 1) c4) := by go_simp
          refine bodyPost_ret (v := .tuple #[.agg #[.slice A4 (n + 1) c4], .int .i64 0]) (by simp [results, Try.results57, go_sem, cr]) rfl ?_
          have hne2 : (Value.slice A4 (n + 1) c4).ownBlock ≠ some w.heap.size := by
            intro h
            have h2 := (O8.out.1.lt w.heap.size h).1
            omega
          exact ansR_endG _ (Nat.le_refl _) E.out.1.symm E.out.2.symm ((own_lessB O8.out (by omega)).raise (by omega) (Nat.le_refl _)) hne2 B8.out _
end Go.Proofs.Ytmpbigkaadmihaa
