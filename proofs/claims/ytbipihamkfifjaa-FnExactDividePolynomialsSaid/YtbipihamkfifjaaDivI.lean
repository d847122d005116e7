/- The division as the program does it: a contract of impl.quotientWithin. Conditions: stated at each theorem. -/
import Derived.Test.YtbipihamkfifjaaDivM
import Derived.Test.YtbipihamkfifjaaClone
namespace Go.Proofs.Ytbipihamkfifjaa
open Go.ChangeShapes Go.WideShapes Go.ChangeAt Go.RowKit
set_option linter.unusedVariables false

theorem InM.at {M : Int} {l : List Int} (h : InM M l) (j : Nat) : -M ≤ l[j]?.getD 0 ∧ l[j]?.getD 0 ≤ M := by rw [← getD_opt]; exact h j
theorem lead_ne {q : List Int} {m : Nat} (hl : q.length = m) (h0 : 0 < m) (he : endB q = true) : ¬ q[m - 1]?.getD 0 = 0 := by
  rw [end_some hl h0] at he; simpa using he

theorem divEnd_ok (r o : List Int) : divEnd (.ok (r, o)) = if trimN r r.length = 0 then (o, 0) else ([], 5) := rfl
theorem divStep_mod {M : Int} {q r o : List Int} {m j : Nat} (hq : q.length = m) (h : ¬(r[j + (m - 1)]?.getD 0).tmod (q[m - 1]?.getD 0) = 0) : divStep M q j (r, o) = .error 5 := by
  subst hq; unfold divStep; rw [getD_opt, getD_opt, if_pos h]
theorem divStep_zero {M : Int} {q r o : List Int} {m j : Nat} (hq : q.length = m) (h : r[j + (m - 1)]?.getD 0 = 0) : divStep M q j (r, o) = .ok (r, o) := by
  subst hq; unfold divStep; rw [getD_opt, getD_opt, if_neg (by rw [h]; simp), if_pos h]
theorem divStep_lim {M : Int} {q r o : List Int} {m j : Nat} (hq : q.length = m) (h : (r[j + (m - 1)]?.getD 0).tmod (q[m - 1]?.getD 0) = 0) (h0 : ¬ r[j + (m - 1)]?.getD 0 = 0)
    (ha : addR M j (q.map (mulE (-((r[j + (m - 1)]?.getD 0).tdiv (q[m - 1]?.getD 0))) M)) r = none) : divStep M q j (r, o) = .error 3 := by
  subst hq; unfold divStep; rw [getD_opt, getD_opt, if_neg (by simpa using h), if_neg h0, ha]
theorem divStep_go {M : Int} {q r o r' : List Int} {m j : Nat} (hq : q.length = m) (h : (r[j + (m - 1)]?.getD 0).tmod (q[m - 1]?.getD 0) = 0) (h0 : ¬ r[j + (m - 1)]?.getD 0 = 0)
    (ha : addR M j (q.map (mulE (-((r[j + (m - 1)]?.getD 0).tdiv (q[m - 1]?.getD 0))) M)) r = some r') : divStep M q j (r, o) = .ok (r', o.set j ((r[j + (m - 1)]?.getD 0).tdiv (q[m - 1]?.getD 0))) := by
  subst hq; unfold divStep; rw [getD_opt, getD_opt, if_neg (by simpa using h), if_neg h0, ha]

theorem kept_setCell {lo hi : Nat} (w : World) {p : Addr} (h : p.block < lo ∨ hi ≤ p.block) (u : Value) : Kept lo hi w (w.setCell p u) :=
  ⟨by simp [World.setCell], fun b h1 h2 => Below.heap_setCell _ _ _ _ (by rintro rfl; omega)⟩
theorem Kept.part {lo hi lo' hi' : Nat} {w w' : World} (h : Kept lo hi w w') (h1 : lo ≤ lo') (h2 : hi' ≤ hi) : Kept lo' hi' w w' :=
  ⟨h.size, fun b h3 h4 => h.block b (by omega) (by omega)⟩
theorem wf_InM {M : Int} {l : List Int} (hM : M ≤ 9223372036854775807) (h : InM M l) : ∀ z ∈ l, (Lit.int .i64 z).wf = true := by
  intro z hz
  obtain ⟨i, hi, rfl⟩ := List.getElem_of_mem hz
  have := h i
  simp [List.getD, hi] at this
  exact WalkArith.wf_i64 (by omega)
theorem map_in (q : List Int) (s : Int) {M : Int} (hM : 0 ≤ M) (i : Nat) : -(2 * M + 1) ≤ (q.map (mulE s M)).getD i 0 ∧ (q.map (mulE s M)).getD i 0 ≤ 2 * M + 1 := by
  by_cases h : i < q.length
  · have : (q.map (mulE s M)).getD i 0 = mulE s M (q.getD i 0) := by simp [List.getD, h]
    rw [this]; exact mulE_bound hM
  · rw [getD_opt, List.getElem?_eq_none (by simp; omega)]; simp; omega

set_option maxRecDepth 100000 in
theorem quotientWithin_any (v u : Value) (p q : List Int) (M : Int) (w : World) (h0 : ReadI w w.heap.size v p) (hn0 : p.length ≤ 1048576) (hw0 : ∀ z ∈ p, (Lit.int .i64 z).wf = true) (h1 : ReadI w w.heap.size u q) (hn1 : q.length ≤ 1048576) (hw1 : ∀ z ∈ q, (Lit.int .i64 z).wf = true)
    (hM1 : 1 ≤ M) (hM2 : M ≤ 4503599627370496) (hin : InM M p) (he : endB q = true) :
    Calls Try.prog 78 #[v, u, .int .i64 M] w (AnsIC w (divL M p q).1 (divL M p q).2) := by
  obtain ⟨n, A, c, rfl, hr, HL⟩ := h0.split
  obtain ⟨m, A1, c1, rfl, hr1, HL1⟩ := h1.split
  have H0 := Lib.hid h0
  have H1 := Lib.hid h1
  have W0 := Lib.hid hw0
  have W1 := Lib.hid hw1
  have HI := Lib.hid hin
  have HE := Lib.hid he
  have HR1 := Lib.hid hr1
  rw [HL.out] at hn0
  rw [HL1.out] at hn1
  clear h0 h1 hw0 hw1 hin he hr hr1
  by_cases hm0 : m = 0
  · subst hm0
    have E : Hid (divL M p q = ([], 5)) := Lib.hid (divL_first (Or.inl HL1.out))
    go_enter Try.func78, Try.ntmps78
    go_wp2
    go_ret2
    exact AnsIC.empty (by rw [E.out]) (by rw [E.out]) (Below.refl _ _)
  have hm1 : (1 : Int) ≤ (m : Int) := by omega
  have hm2 : 0 < m := by omega
  have TM : ((m : Int) == 0) = false := by simp; omega
  clear hm0
  by_cases hlt : 0 < n ∧ n < m
  · have E : Hid (divL M p q = ([], 5)) := Lib.hid (divL_first (Or.inr (by rw [HL.out, HL1.out]; exact hlt)))
    obtain ⟨ha, hb⟩ := hlt
    go_enter Try.func78, Try.ntmps78
    go_wp2
    go_ret2
    exact AnsIC.empty (by rw [E.out]) (by rw [E.out]) (Below.refl _ _)
  by_cases hn : n = 0
  · subst hn
    have E : Hid (divL M p q = ([], 0)) := Lib.hid (divL_zero (by rw [HL1.out]; exact hm2) HL.out)
    clear hlt
    go_enter Try.func78, Try.ntmps78
    go_wp2
    go_ret2
    exact AnsIC.empty (by rw [E.out]) (by rw [E.out]) (Below.refl _ _)
  have hnm : m ≤ n := by omega
  have hn1' : 0 < n := by omega
  have TN : ((n : Int) == 0) = false := by simp; omega
  clear hlt hn
  obtain ⟨N, hN⟩ : ∃ N, N = n - (m - 1) := ⟨_, rfl⟩
  have E : Hid (divL M p q = divEnd (divIter M q N (p, List.replicate N 0) N)) := Lib.hid (divL_main (by rw [HL1.out]; exact hm2) (by rw [HL1.out, HL.out]; exact hnm) (by rw [HL1.out, HL.out]; exact hN))
  have HN := Lib.hid hN
  have hNi : (N : Int) = (n : Int) - ((m : Int) - 1) := by omega
  have hmk := fun (W : World) => run_make_row' (P := Try.prog) 29 2 (.int .i64 0) 8 Try.underlying29 int_info rfl .i64 .i64 N (by omega) (by omega) W
  simp only [hNi] at hmk
  have HNI := Lib.hid hNi
  have hN1 : 1 ≤ N ∧ N ≤ n := by omega
  clear hN hNi
  go_enter Try.func78, Try.ntmps78
  go_wp2_with fail
  refine (clone_any _ p _ _ H0.out (by rw [HL.out]; omega) (Nat.le_refl _)).mono ?_
  rintro e w1 ⟨v1, rfl, ho, hb⟩
  obtain ⟨A2, c2, rfl⟩ := ho.form HL.out
  have O1 := Lib.hid ho
  have B1 := Lib.hid hb
  clear ho hb
  go_wp2_with fail
  clear hmk
  have OQ : Hid (OwnI (w1.alloc (.cells (madeCells #[.int .i64 0] N) 2)) w1.heap.size (w1.heap.size + 1) (.slice (some ⟨w1.heap.size, 0, none⟩) N N) (List.replicate N 0)) := Lib.hid (by
    have := own_of_row (lo := w1.heap.size) (zs := List.replicate N 0) (World.rowIs_made w1 (.int .i64 0) N 2) (by simp) (fun i hi => by simp [List.getD, hi]) (Nat.le_refl _) (by omega)
    simpa using this)
  have OR : Hid (OwnI (w1.alloc (.cells (madeCells #[.int .i64 0] N) 2)) w.heap.size w1.heap.size (.slice A2 n c2) p) := Lib.hid (O1.out.kept (Kept.of_below ((Below.refl _ _).alloc (Nat.le_refl w1.heap.size) _) (Nat.le_refl _)))
  have BA : Hid (Below w.heap.size w (w1.alloc (.cells (madeCells #[.int .i64 0] N) 2))) := Lib.hid (B1.out.alloc B1.out.size _)
  have hcap : n ≤ c2 ∧ c2 ≤ 9223372036854775807 := by
    obtain ⟨A', c', e, _, _, h1, _, h2⟩ := O1.out.reads
    simp only [Value.slice.injEq] at e
    have := HL.out; omega
  have HC := Lib.hid hcap
  clear hcap
  have S1 : Hid (w.heap.size ≤ w1.heap.size) := Lib.hid B1.out.size
  go_loopw [11] (fun vi wr => ∃ (k : Nat) (y : Int) (r o : List Int), k ≤ N ∧ vi = .int .i64 y ∧ Hid (y = (k : Int) - 1) ∧ (-1 ≤ y ∧ y ≤ N) ∧ Hid (divIter M q N (p, List.replicate N 0) (N - k) = .ok (r, o)) ∧ Hid (OwnI wr w.heap.size w1.heap.size (.slice A2 n c2) r) ∧ Hid (OwnI wr w1.heap.size (w1.heap.size + 1) (.slice (some ⟨w1.heap.size, 0, none⟩) N N) o) ∧ Hid (Below w.heap.size w wr)) (fun vi _ => (intOf vi + 1).toNat)
  case atStart => exact ⟨N, (N : Int) - 1, p, List.replicate N 0, by omega, rfl, Lib.hid rfl, by omega, Lib.hid (by rw [Nat.sub_self]; rfl), OR, OQ, BA⟩
  case round =>
    obtain ⟨k, y, r, o, hk, rfl, hy, hyb, hit, hor, hoq, hb⟩ := hrel
    by_cases hk0 : 0 ≤ y
    rotate_left
    · obtain rfl : k = 0 := by have := hy.out; omega
      have hrl : r.length = n := by have := (divIter_ok hit.out).1; rw [HL.out] at this; exact this
      have hol : o.length = N := by have := (divIter_ok hit.out).2.1; simpa using this
      have hrin : InM M r := (divIter_ok hit.out).2.2 HI.out
      have HW2 := Lib.hid (wf_InM (by omega) hrin)
      have HEE : Hid (divL M p q = if trimN r n = 0 then (o, 0) else ([], 5)) := Lib.hid (by
        rw [E.out]; have h := hit.out; rw [Nat.sub_zero] at h; rw [h, divEnd_ok, hrl])
      have HRL := Lib.hid hrl
      clear hrl hol hrin
      go_wp2_with fail
      refine (without_any n c2 A2 r wr wr.heap.size (reads_as hor.out HRL.out) HRL.out (by omega) HC.out.1 HC.out.2 HW2.out).mono ?_
      rintro e w' ⟨rfl, rfl⟩
      by_cases htz : trimN r n = 0
      · rw [if_pos htz] at HEE
        rw [htz]
        clear htz
        go_wp2_with fail
        go_ret2
        exact AnsIC.mk' (by rw [HEE.out]) (by rw [HEE.out]) ((own_less hoq.out S1.out).raise hoq.out.2.2 (Nat.le_refl _)) hb.out
      · rw [if_neg htz] at HEE
        have htz1 : 0 < trimN r n := by omega
        have htz2 := trimN_le r n
        clear htz
        go_wp2_with fail
        go_ret2
        exact AnsIC.empty (by rw [HEE.out]) (by rw [HEE.out]) hb.out
    obtain ⟨j, rfl⟩ : ∃ j : Nat, y = (j : Int) := ⟨y.toNat, by omega⟩
    have hkj : k = j + 1 := by have := hy.out; omega
    have HKJ := Lib.hid hkj
    have hjN : j < N := by omega
    have hjn : j + (m - 1) < n := by have := HN.out; omega
    clear hkj hyb hk0
    have hrl : r.length = n := by have := (divIter_ok hit.out).1; rw [HL.out] at this; exact this
    have hol : o.length = N := by have := (divIter_ok hit.out).2.1; simpa using this
    have hrin : InM M r := (divIter_ok hit.out).2.2 HI.out
    have hst := divIter_step hit.out
    rw [show N - k + 1 = N - j by have := HKJ.out; omega, show N - 1 - (N - k) = j by have := HKJ.out; omega] at hst
    have HST := Lib.hid hst
    obtain ⟨g, rfl, hg1, hg2, hct, hft⟩ := own_at (j := j + (m - 1)) hor.out hrl hjn
    obtain ⟨g2, e2, hq1, hq2, hcq, hfq⟩ := own_at (j := j) hoq.out hol hjN
    simp only [Option.some.injEq, Addr.mk.injEq, and_true] at e2
    subst e2
    obtain ⟨a, rfl, hab, hcl⟩ := HR1.out.2 (m - 1) (by omega)
    have hcl' : wr.cell? (a.add (m - 1)) = some (.int .i64 (q[m - 1]?.getD 0)) := by rw [hb.out.cell (by rw [add_block]; omega)]; simpa using hcl
    have htop := hrin.at (j + (m - 1))
    have hld := lead_ne HL1.out hm2 HE.out
    have hldw := wf_at W1.out (m - 1)
    have htd := tdiv_in (y := q[m - 1]?.getD 0) htop
    have h5 : (0 : Int) ≤ (m : Int) - 1 := by omega
    have h6 : (0 : Int) ≤ (j : Int) + ((m : Int) - 1) := by omega
    have h7 : (j : Int) + ((m : Int) - 1) < n := by omega
    have HRL := Lib.hid hrl
    have HOL := Lib.hid hol
    have HRIN := Lib.hid hrin
    clear hst hrl hol hrin hcl
    by_cases hmod : (r[j + (m - 1)]?.getD 0).tmod (q[m - 1]?.getD 0) = 0
    rotate_left
    · have TT : (((r[j + (m - 1)]?.getD 0).tmod (q[m - 1]?.getD 0) : Int) != 0) = true := by simp [hmod]
      have HS := HST.out
      rw [divStep_mod HL1.out hmod] at HS
      have HE5 : Hid (divL M p q = ([], 5)) := Lib.hid (by rw [E.out, divIter_error HS (by omega)]; rfl)
      clear HS hmod
      go_wp2_with fail
      go_ret2
      exact AnsIC.empty (by rw [HE5.out]) (by rw [HE5.out]) hb.out
    have TT : (((r[j + (m - 1)]?.getD 0).tmod (q[m - 1]?.getD 0) : Int) != 0) = false := by simp [hmod]
    have HM := Lib.hid hmod
    clear hmod
    by_cases ht0 : r[j + (m - 1)]?.getD 0 = 0
    · have HS := HST.out
      rw [divStep_zero HL1.out ht0] at HS
      have HS' := Lib.hid HS
      have T0 : ((r[j + (m - 1)]?.getD 0 : Int) == 0) = true := by simp [ht0]
      clear HS ht0
      go_wp2_with fail
      go_roundw
      case rel => exact ⟨j, (j : Int) - 1, r, o, by omega, rfl, Lib.hid rfl, by omega, HS', hor, hoq, hb⟩
      case measure => simp [intOf] <;> omega
    have T0 : ((r[j + (m - 1)]?.getD 0 : Int) == 0) = false := by simp [ht0]
    have HT0 := Lib.hid ht0
    clear ht0
    have HB1 : Hid (Below w.heap.size w (wr.setCell ⟨w1.heap.size, j, none⟩ (.int .i64 ((r[j + (m - 1)]?.getD 0).tdiv (q[m - 1]?.getD 0))))) := Lib.hid (hb.out.setCell (p := ⟨w1.heap.size, j, none⟩) S1.out _)
    have HOR := Lib.hid (hor.out.kept (kept_setCell (lo := w.heap.size) (hi := w1.heap.size) wr (p := ⟨w1.heap.size, j, none⟩) (Or.inr (Nat.le_refl _)) (.int .i64 ((r[j + (m - 1)]?.getD 0).tdiv (q[m - 1]?.getD 0)))))
    have HOQ := Lib.hid (own_store (j := j) hoq.out HOL.out ((r[j + (m - 1)]?.getD 0).tdiv (q[m - 1]?.getD 0)))
    go_wp2_with fail
    refine (multipleOf_any _ q _ M _ w.heap.size (H1.out.below HB1.out) (by rw [HL1.out]; exact hn1) HB1.out.size W1.out (by omega) (by omega) hM1 hM2).mono ?_
    rintro e w3 ⟨v3, rfl, ho3, hb3⟩
    obtain ⟨A3, c3, rfl⟩ := ho3.form ((List.length_map _).trans HL1.out)
    have O3 := Lib.hid ho3
    have B3 := Lib.hid hb3
    have HK3 : Hid (Kept w.heap.size (w1.heap.size + 1) (wr.setCell ⟨w1.heap.size, j, none⟩ (.int .i64 ((r[j + (m - 1)]?.getD 0).tdiv (q[m - 1]?.getD 0)))) w3) := Lib.hid (Kept.of_below hb3 HOQ.out.2.2)
    clear ho3 hb3
    go_wp2_with fail
    refine (addRow_any _ n c2 r _ (q.map (mulE (-((r[j + (m - 1)]?.getD 0).tdiv (q[m - 1]?.getD 0))) M)) j M w.heap.size w1.heap.size 0 w3 (HOR.out.kept (HK3.out.part (Nat.le_refl _) (by omega))) HRL.out HC.out.1 HC.out.2 ?_ ?_ hn0 hM1 hM2 HRIN.out (fun i => map_in _ _ (by omega) i)).mono ?_
    · exact fun W hW => (O3.out.kept (hW.kept (Or.inr (by have := HOQ.out.2.2; omega)) (Nat.le_refl _))).reads
    · have := HL1.out; rw [List.length_map]; omega
    rintro e w4 ⟨rfl, ho4, hb4⟩
    have B4 := Lib.hid hb4
    cases hadd : addR M j (q.map (mulE (-((r[j + (m - 1)]?.getD 0).tdiv (q[m - 1]?.getD 0))) M)) r with
    | none =>
      have HS := HST.out
      rw [divStep_lim HL1.out HM.out HT0.out hadd] at HS
      have HE5 : Hid (divL M p q = ([], 3)) := Lib.hid (by rw [E.out, divIter_error HS (by omega)]; rfl)
      clear HS ho4 hb4 hadd
      go_wp2_with fail
      go_ret2
      exact AnsIC.empty (by rw [HE5.out]) (by rw [HE5.out]) ((HB1.out.trans (B3.out.mono HB1.out.size)).trans (B4.out.below (Nat.le_refl _) (Nat.le_trans HB1.out.size B3.out.size)))
    | some r' =>
      have HS := HST.out
      rw [divStep_go HL1.out HM.out HT0.out hadd] at HS
      have HS' := Lib.hid HS
      have O4 := Lib.hid (ho4 r' hadd)
      clear HS ho4 hb4 hadd
      go_wp2_with fail
      go_roundw
      case rel => exact ⟨j, (j : Int) - 1, r', _, by omega, rfl, Lib.hid rfl, by omega, HS', O4, Lib.hid (HOQ.out.kept (Kept.trans (HK3.out.part S1.out (Nat.le_refl _)) (B4.out.kept (Or.inr (Nat.le_refl _)) (Nat.le_trans HOQ.out.2.2 B3.out.size)))), Lib.hid ((HB1.out.trans (B3.out.mono HB1.out.size)).trans (B4.out.below (Nat.le_refl _) (Nat.le_trans HB1.out.size B3.out.size)))⟩
      case measure => simp [intOf] <;> omega
end Go.Proofs.Ytbipihamkfifjaa
