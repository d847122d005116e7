/- BranchOfNewton, the program's: contracts of impl.puiseuxOfNewton and impl.BranchOfNewton. Conditions: stated at each theorem. -/
import Derived.Test.YtmpbigkaadmihaaBnA
import Derived.Test.YtmpbigkaadmihaaBpI
namespace Go.Proofs.Ytmpbigkaadmihaa
open Go.ChangeShapes Go.WideShapes Go.ChangeAt Go.RowKit
set_option linter.unusedVariables false
set_option linter.unusedSimpArgs false

set_option maxHeartbeats 2000000 in
theorem puiseuxOfNewton_any (g n : Nat) (ps : List (Int × Int)) (w : World) (hr : PRow w g n (pF ps)) (hl : ps.length = n) (hn : n ≤ 6) (hok : PsOK 2000 ps) :
    Calls Try.prog 59 #[.slice (some ⟨g, 0, none⟩) n n] w fun e w' => ∃ g', e = .returned (.slice (some ⟨g', 0, none⟩) n n) ∧ w.heap.size ≤ g' ∧ PRow w' g' n (pF (qnL 0 ps)) ∧ Below w.heap.size w w' := by
  have HR := Lib.hid hr
  have HL := Lib.hid hl
  have OK := Lib.hid hok
  have OQ := Lib.hid (qn_ok hok (by omega))
  have hg : g < w.heap.size := World.rowIs.lt hr
  have hmk := fun (W : World) => make_pairs .i64 .i64 n (by omega) W
  have hE1 : Hid (PRow (w.alloc (.cells (madeCells #[.int .i64 0, .int .i64 0] (n * 2)) 86)) w.heap.size n (fun k => if k < 0 then pF (qnL 0 ps) k else (0, 0))) := Lib.hid ((PRow.made w n).congr (fun i hi => by simp))
  have hE2 : Hid (Below w.heap.size w (w.alloc (.cells (madeCells #[.int .i64 0, .int .i64 0] (n * 2)) 86))) := Lib.hid (below_box2 _ _)
  clear hr hok hl
  go_enter Try.func59, Try.ntmps59
  go_wp2_with fail
  clear hmk
  go_loopw [4, 12] (fun vb vi wr => ∃ (i : Nat) (y : Int), i ≤ n ∧ (0 ≤ y ∧ y ≤ 1000000) ∧ vb = .int .i64 y ∧ vi = .int .i64 i ∧ Hid (y = pvF 0 ps i) ∧ Hid (PRow wr w.heap.size n (fun k => if k < i then pF (qnL 0 ps) k else (0, 0))) ∧ w.heap.size < wr.heap.size ∧ Hid (Below w.heap.size w wr)) (fun _ vi _ => n - (intOf vi).toNat)
  case atStart => exact ⟨0, 0, by omega, by omega, rfl, rfl, Lib.hid rfl, hE1, by simp, hE2⟩
  case round =>
    clear hE1 hE2
    obtain ⟨i, y, hi, hy, rfl, rfl, hyv, hrow, hsw, hb⟩ := hrel
    by_cases hlt : i < n
    · obtain ⟨q1, q2, q3, q4⟩ := HR.out.cells hlt
      have c1 : wr.cell? ⟨g, i * 2, none⟩ = some (.int .i64 (pF ps i).1) := (hb.out.cell (p := ⟨g, i * 2, none⟩) hg).trans q1
      have c2 : wr.cell? ⟨g, i * 2 + 1, none⟩ = some (.int .i64 (pF ps i).2) := (hb.out.cell (p := ⟨g, i * 2 + 1, none⟩) hg).trans q2
      have hfi := OK.out.at (by rw [HL.out]; exact hlt)
      have hqi := OQ.out.at (i := i) (by rw [qnL_len, HL.out]; exact hlt)
      have HN : Hid (pF (qnL 0 ps) i = ((pF ps i).1 + y * (pF ps i).2, (pF ps i).2)) := Lib.hid (by rw [qn_at (by rw [HL.out]; exact hlt), hyv.out])
      have HY : Hid ((pF ps i).1 + y * (pF ps i).2 = pvF 0 ps (i + 1)) := Lib.hid (by rw [pvF, HN.out])
      have hrc := hrow.out.cells hlt
      rw [HN.out] at hqi
      have hqr : 1 ≤ (pF ps i).1 + y * (pF ps i).2 ∧ (pF ps i).1 + y * (pF ps i).2 ≤ 1000000 := hqi.1
      generalize (pF ps i).1 = a at *
      generalize (pF ps i).2 = b at *
      have p1 : IntKind.i64.wrap (y * b) = y * b := IntWalk.i64_in _ (by omega)
      have p2 : IntKind.i64.wrap (a + y * b) = a + y * b := IntWalk.i64_in _ (by omega)
      have hin : (i : Int) < (n : Int) := by omega
      have hgr : g < wr.heap.size := by omega
      obtain ⟨f1, f2, f3, f4⟩ := hrc
      clear q1 q2 q3 q4 hqi
      have hs2 : (((wr.setCell ⟨w.heap.size, i * 2, none⟩ (.int .i64 (a + y * b))).setCell ⟨w.heap.size, i * 2 + 1, none⟩ (.int .i64 b))).heap.size = wr.heap.size := by simp [World.setCell]
      have HP0 : Hid (PRow ((wr.setCell ⟨w.heap.size, i * 2, none⟩ (.int .i64 (a + y * b))).setCell ⟨w.heap.size, i * 2 + 1, none⟩ (.int .i64 b)) w.heap.size n (fun k => if k < i + 1 then pF (qnL 0 ps) k else (0, 0))) := Lib.hid ((hrow.out.set (a + y * b) b).congr (fun k hk => by
        by_cases h1 : k = i
        · subst h1; simp only [if_true, show k < k + 1 by omega]; exact HN.out.symm
        · by_cases h2 : k < i
          · simp only [h1, h2, if_false, if_true, show k < i + 1 by omega]
          · simp only [h1, h2, if_false, show ¬ k < i + 1 by omega]))
      have HB0 : Hid (Below w.heap.size w ((wr.setCell ⟨w.heap.size, i * 2, none⟩ (.int .i64 (a + y * b))).setCell ⟨w.heap.size, i * 2 + 1, none⟩ (.int .i64 b))) := Lib.hid ((hb.out.setCell (Nat.le_refl _) _).setCell (Nat.le_refl _) _)
      go_wp2_with fail
      go_roundw
      case rel => exact ⟨i + 1, _, by omega, by omega, rfl, by go_num, HY, Lib.hid (HP0.out.below (below_box2 _ _)), by simp only [World.size_alloc, hs2]; omega, Lib.hid (HB0.out.alloc (by rw [hs2]; omega) _)⟩
      case measure => simp [intOf]; omega
    · obtain rfl : i = n := by omega
      go_wp2_with fail
      go_ret
      exact ⟨w.heap.size, rfl, Nat.le_refl _, hrow.out.congr (fun k hk => by simp [hk]), hb.out⟩
set_option maxHeartbeats 2000000 in
theorem implBranchOfNewton_any (v : Value) (zs : List (List Int)) (w : World) (h : ReadQ w w.heap.size v zs) (hsz : szTot zs ≤ 1048576) (hw' : ∀ x ∈ zs, x.length ≤ 9223372036854775807 ∧ ∀ z ∈ x, (Lit.int .i64 z).wf = true) :
    Calls Try.prog 19 #[v] w (AnsRC w (bnA zs) (bnC zs)) := by
  have hw : ∀ x ∈ zs, ∀ z ∈ x, (Lit.int .i64 z).wf = true := fun x hx => (hw' x hx).2
  clear hw'
  obtain ⟨W0, HE⟩ : ∃ W, W = w.alloc (.cells #[.slice none 0 0] 26) := ⟨_, rfl⟩
  have hS0 : Start1 w W0 := by rw [HE]; exact Start1.new _
  have hb0 := hS0.below
  have HR := Lib.hid ((h.below hb0).more hb0.size)
  have S0 := Lib.hid hS0
  have HEQ := Lib.hid HE
  have HW := Lib.hid hw
  have hsw : w.heap.size < W0.heap.size := hS0.res.2
  clear h hw hb0 hS0 HE hsz
  cases hp : bpB zs
  · have E := Lib.hid (bn_no hp)
    have HP := Lib.hid hp
    clear hp
    go_enter Try.func19, Try.ntmps19
    go_wp2_with fail
    rw [← HEQ.out]
    refine (pairsOfLists_any v zs W0 HR.out HW.out).mono ?_
    rintro e w1 ⟨v1, b, rfl, hb, _, hno, hbl⟩
    rw [HP.out] at hb
    subst hb
    rw [hno rfl]
    obtain ⟨l2, l3, l4⟩ := S0.out.later hbl
    have B1 := Lib.hid (S0.out.below.trans (hbl.mono (by omega)))
    clear hbl hno
    go_wp2_with fail
    have cr : (w1.setCell ⟨w.heap.size, 0, none⟩ (.slice none 0 0)).cell? ⟨w.heap.size, 0, none⟩ = some (.slice none 0 0) := by go_simp
    refine bodyPost_ret (v := .tuple #[.agg #[.slice none 0 0], .int .i64 2]) (by simp [results, Try.results19, go_sem, cr]) rfl ?_
    exact ansR_endG _ (Nat.le_refl _) E.out.1.symm E.out.2.symm (OwnI.nil _ _) (by intro h; cases h) B1.out _
  · have E := Lib.hid (bn_yes hp)
    have HP := Lib.hid hp
    clear hp
    go_enter Try.func19, Try.ntmps19
    go_wp2_with fail
    rw [← HEQ.out]
    refine (pairsOfLists_any v zs W0 HR.out HW.out).mono ?_
    rintro e w1 ⟨v1, b, rfl, hb, hyes, _, hbl⟩
    rw [HP.out] at hb
    subst hb
    obtain ⟨rfl, hrow⟩ := hyes rfl
    have BL := Lib.hid hbl
    have OKB := Lib.hid (bpB_ok HP.out)
    have ROW := Lib.hid hrow
    have hs1 := hbl.size
    clear hbl hyes hrow
    go_wp2_with fail
    refine (puiseuxOfNewton_any W0.heap.size zs.length (psOf zs) w1 ROW.out (psOf_len zs) OKB.out.2 OKB.out.1).mono ?_
    rintro e w5 ⟨g5, rfl, hg5, hrow5, hb5⟩
    have BL := Lib.hid (BL.out.trans (hb5.mono hs1))
    have ROW := Lib.hid hrow5
    have hs1 := BL.out.size
    clear hrow5 hb5 hg5
    go_wp2_with fail
    refine (branchOfPairs_any g5 zs.length (qnL 0 (psOf zs)) w5 ROW.out (by rw [qnL_len, psOf_len]) (by have := OKB.out.2; omega) (qn_ok OKB.out.1 (by rw [psOf_len]; exact OKB.out.2))).mono ?_
    rintro e w2 ⟨v2, rfl, ho2, hb2⟩
    obtain ⟨A2, n2, c2, rfl⟩ : ∃ A n c, v2 = .slice A n c := by obtain ⟨A, c, e⟩ := ho2.form rfl; exact ⟨A, _, c, e⟩
    obtain ⟨l2, l3, l4⟩ := S0.out.later (BL.out.trans (hb2.mono (by omega)))
    have B2 := Lib.hid (S0.out.below.trans ((BL.out.trans (hb2.mono (by omega))).mono (by omega)))
    have O2 := Lib.hid ho2
    have hs2 := hb2.size
    obtain ⟨C, hC⟩ : ∃ C, C = bqC (qnL 0 (psOf zs)) := ⟨_, rfl⟩
    rw [← hC]
    have HC : Hid (bnC zs = C) := Lib.hid (by rw [E.out.2, hC])
    clear hb2 ho2 hC
    go_wp2_with fail
    have cr : (w2.setCell ⟨w.heap.size, 0, none⟩ (.slice A2 n2 c2)).cell? ⟨w.heap.size, 0, none⟩ = some (.slice A2 n2 c2) := by go_simp
    refine bodyPost_ret (v := .tuple #[.agg #[.slice A2 n2 c2], .int .i64 C]) (by simp [results, Try.results19, go_sem, cr]) rfl ?_
    have hne2 : (Value.slice A2 n2 c2).ownBlock ≠ some w.heap.size := by
      intro h
      have h2 := (O2.out.1.lt w.heap.size h).1
      omega
    exact ansR_endG _ (Nat.le_refl _) E.out.1.symm HC.out.symm (own_lessB O2.out (by omega)) hne2 B2.out _
end Go.Proofs.Ytmpbigkaadmihaa
