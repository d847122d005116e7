/- The program's Puiseux pairs of a branch: contract of (impl.Branch).puiseuxPairs. Conditions: stated at the theorem. -/
import Derived.Test.YtncgkoanckefmaaPr
import Derived.Test.YtncgkoanckefmaaMan
import Derived.Test.YtncgkoanckefmaaBrTi
namespace Go.Proofs.Ytncgkoanckefmaa
open Go.ChangeShapes Go.WideShapes Go.ChangeAt Go.RowKit
set_option linter.unusedVariables false
set_option linter.unusedSimpArgs false

set_option maxHeartbeats 2000000 in
theorem puiseux_any (v : Value) (zs : List Int) (w : World) (h : ReadI w w.heap.size v zs) (hn : zs.length ≤ 1048576) (hp : brB zs = true) :
    Calls Try.prog 117 #[.agg #[v]] w fun e w' => ∃ g, e = .returned (.slice (some ⟨g, 0, none⟩) (zs.length - 1) (zs.length - 1)) ∧ w.heap.size ≤ g ∧ PRow w' g (zs.length - 1) (ppF zs) ∧ Below w.heap.size w w' := by
  have hn0 := brB_pos hp
  have HZ := Lib.hid (dcB_range (brB_dcB hp))
  have hdp := dvL_pos HZ.out (e := 0)
  obtain ⟨n, A, c, rfl, hr, HL, HN, hnc, HF, hcm⟩ := h.split2
  rw [HL.out] at hn hn0
  obtain ⟨m, rfl⟩ : ∃ m, n = m + 1 := ⟨n - 1, by omega⟩
  obtain ⟨a, rfl, hlt, hc0⟩ := hr.2 0 hn0
  obtain ⟨g, o, rfl⟩ := HF.out a rfl
  have hgw : g < w.heap.size := hlt
  obtain ⟨W0, HE⟩ : ∃ W, W = w.alloc (.cells #[.slice (some ⟨g, o, none⟩) (m + 1) c] 28) := ⟨_, rfl⟩
  have hb0 : Below w.heap.size w W0 := by rw [HE]; exact below_box2 _ _
  have hq0 : BoxI W0 w.heap.size (.slice (some ⟨g, o, none⟩) (m + 1) c) := by rw [HE]; exact BoxI.new _ _ _
  have hs0 : W0.heap.size = w.heap.size + 1 := by rw [HE]; simp
  have H0 := Lib.hid (hr.below hb0)
  have HR := Lib.hid ((h.below hb0).more hb0.size)
  have B0 := Lib.hid hb0
  have HEQ := Lib.hid HE
  have q0 := hq0.1
  have HDP := Lib.hid (fun (_ : ∀ z ∈ zs, 1 ≤ z ∧ z ≤ 2000) => hdp)
  have HPF : Hid (∀ i, ppF zs i = ((zs[i + 1]?.getD 0).tdiv ((dvL 0 zs)[i + 1]?.getD 0), ((dvL 0 zs)[i]?.getD 0).tdiv ((dvL 0 zs)[i + 1]?.getD 0))) := Lib.hid (fun _ => rfl)
  have HLD : Hid ((dvL 0 zs).length = m + 1) := Lib.hid (by rw [dvL_len, HL.out])
  clear h hr hp hb0 hq0 HE hc0 hlt hdp
  have hLm : zs.length - 1 = m := by have := HL.out; omega
  rw [hLm]
  clear hLm
  go_enter Try.func117, Try.ntmps117
  go_wp2_with fail
  rw [← HEQ.out]
  refine (divisors_any _ zs W0 W0.heap.size HR.out (by rw [HL.out]; exact hn) (Nat.le_refl _) HZ.out).mono ?_
  rintro e W1 ⟨v1, rfl, hv1, ho1, hb1⟩
  rw [HL.out] at hv1
  subst hv1
  have q1 := (hb1.cell (p := ⟨w.heap.size, 0, none⟩) (by show w.heap.size < _; omega)).trans q0
  have hs1 := hb1.size
  have OD := Lib.hid ho1
  have B1 := Lib.hid (B0.out.trans (hb1.mono (by omega)))
  have BB1 := Lib.hid hb1
  have hmk := fun (W : World) => make_pairs .i64 .i64 m (by omega) W
  have p0 : IntKind.i64.wrap (m : Int) = (m : Int) := IntWalk.i64_in _ (by omega)
  have p9 : IntKind.i64.wrap ((m : Int) + 1 - 1) = (m : Int) := by rw [IntWalk.i64_in _ (by omega)]; omega
  have hE1 : Hid (PRow (W1.alloc (.cells (madeCells #[.int .i64 0, .int .i64 0] (m * 2)) 101)) W1.heap.size m (fun k => if k < 0 then ppF zs k else (0, 0))) := Lib.hid ((PRow.made W1 m).congr (fun i hi => by simp))
  have hE2 : Hid (Below W1.heap.size W1 (W1.alloc (.cells (madeCells #[.int .i64 0, .int .i64 0] (m * 2)) 101))) := Lib.hid (below_box2 _ _)
  have Q1 := Lib.hid q1
  clear hb1 ho1 q0 q1
  go_wp2_with fail
  clear hmk
  go_loopw [16] (fun vi wr => ∃ (i : Nat), i ≤ m ∧ vi = .int .i64 i ∧ Hid (PRow wr W1.heap.size m (fun k => if k < i then ppF zs k else (0, 0))) ∧ Hid (Below W1.heap.size W1 wr)) (fun vi _ => m - (intOf vi).toNat)
  case atStart => exact ⟨0, by omega, rfl, hE1, hE2⟩
  case round =>
    clear hE1 hE2
    obtain ⟨i, hi, rfl, hrow, hb⟩ := hrel
    by_cases hlt : i < m
    · have hcb : wr.cell? ⟨w.heap.size, 0, none⟩ = some (.slice (some ⟨g, o, none⟩) (m + 1) c) := (hb.out.cell (p := ⟨w.heap.size, 0, none⟩) (by show w.heap.size < _; omega)).trans Q1.out
      obtain ⟨a, e1, _, hcell0⟩ := H0.out.2 (i + 1) (by omega)
      cases e1
      have h3 : (⟨g, o, none⟩ : Addr).add (i + 1) = ⟨g, o + (i + 1), none⟩ := by unfold Addr.add; split <;> simp_all
      rw [h3] at hcell0
      have hce : wr.cell? ⟨g, o + (i + 1), none⟩ = some (.int .i64 (zs[i + 1]?.getD 0)) := by
        rw [hb.out.cell (p := ⟨g, o + (i + 1), none⟩) (by show g < _; omega), BB1.out.cell (p := ⟨g, o + (i + 1), none⟩) (by show g < _; omega)]; simpa using hcell0
      obtain ⟨g1, e1, _, hg12, hd1, _⟩ := own_at OD.out HLD.out (show i + 1 < m + 1 by omega)
      cases e1
      obtain ⟨g1, e1, _, _, hd0, _⟩ := own_at OD.out HLD.out (show i < m + 1 by omega)
      cases e1
      have hcd1 : wr.cell? ⟨W0.heap.size, i + 1, none⟩ = some (.int .i64 ((dvL 0 zs)[i + 1]?.getD 0)) := (hb.out.cell (p := ⟨W0.heap.size, i + 1, none⟩) hg12).trans hd1
      have hcd : wr.cell? ⟨W0.heap.size, i, none⟩ = some (.int .i64 ((dvL 0 zs)[i]?.getD 0)) := (hb.out.cell (p := ⟨W0.heap.size, i, none⟩) hg12).trans hd0
      have hzr := HZ.out (zs[i + 1]?.getD 0) (by have := HL.out; simp [show i + 1 < zs.length by omega])
      have hdr1 := HDP.out HZ.out ((dvL 0 zs)[i + 1]?.getD 0) (by have := HLD.out; simp [show i + 1 < (dvL 0 zs).length by omega])
      have hdr0 := HDP.out HZ.out ((dvL 0 zs)[i]?.getD 0) (by have := HLD.out; simp [show i < (dvL 0 zs).length by omega])
      have HPI := Lib.hid (HPF.out i)
      have hrc := hrow.out.cells hlt
      generalize zs[i + 1]?.getD 0 = z at *
      generalize (dvL 0 zs)[i + 1]?.getD 0 = d1 at *
      generalize (dvL 0 zs)[i]?.getD 0 = d0 at *
      have ht1 := tdiv_range hzr hdr1.1
      have ht2 := tdiv_range hdr0 hdr1.1
      have hdz : (d1 == 0) = false := by simp; omega
      have hdz2 : ¬ d1 = 0 := by omega
      have p1 : IntKind.i64.wrap ((i : Int) + 1) = (i : Int) + 1 := IntWalk.i64_in _ (by omega)
      have p2 : IntKind.i64.wrap (z.tdiv d1) = z.tdiv d1 := IntWalk.i64_in _ (by omega)
      have p3 : IntKind.i64.wrap (d0.tdiv d1) = d0.tdiv d1 := IntWalk.i64_in _ (by omega)
      have h5 : (i : Int) < (m : Int) := by omega
      have h6 : (0 : Int) ≤ (i : Int) := by omega
      have h7 : ((i : Int) + 1).toNat = i + 1 := by omega
      have h8 : (i : Int) + 1 < (m : Int) + 1 := by omega
      have h9 : (0 : Int) ≤ (i : Int) + 1 := by omega
      have h10 : (i : Int) < (m : Int) + 1 := by omega
      have h11 : i < m + 1 := by omega
      have h12 : i + 1 < m + 1 := by omega
      obtain ⟨f1, f2, f3, f4⟩ := hrc
      rw [hs0] at hcd1 hcd
      clear hcell0 hd1 hd0 h3
      go_wp2_with fail
      refine wp_region_held_drew (S := fun w' => w'.cell? ⟨w.heap.size, 0, none⟩ = some (.slice (some ⟨g, o, none⟩) (m + 1) c) ∧ w'.cell? ⟨g, o + (i + 1), none⟩ = some (.int .i64 z) ∧ w'.cell? ⟨w.heap.size + 1, i, none⟩ = some (.int .i64 d0)) (by kernel_rfl) ⟨hcb, hce, hcd⟩ (fun hHeld => ?_)
      refine takeY 0 24 (v := ?_) rfl rfl (by kernel_rfl) (by kernel_rfl) (by kernel_rfl) (fun _ _ _ h => h) (by kernel_rfl) ?_ (by assumption) ?_
      rotate_left 1
      · intro w hSw; (try dsimp only at hSw); go_simp; (try with_reducible rfl)
      try simp only [Act.put, List.setIfInBounds_toArray, List.set_cons_zero, List.set_cons_succ]
      refine takeY 1 25 (v := ?_) rfl rfl (by kernel_rfl) (by kernel_rfl) (by kernel_rfl) (fun _ _ _ h => h) (by kernel_rfl) ?_ (by assumption) ?_
      rotate_left 1
      · intro w hSw; (try dsimp only at hSw); go_simp; (try with_reducible rfl)
      try simp only [Act.put, List.setIfInBounds_toArray, List.set_cons_zero, List.set_cons_succ]
      refine takeY 2 26 (v := ?_) rfl rfl (by kernel_rfl) (by kernel_rfl) (by kernel_rfl) (fun _ _ _ h => h) (by kernel_rfl) ?_ (by assumption) ?_
      rotate_left 1
      · intro w hSw; (try dsimp only at hSw); go_simp; (try with_reducible rfl)
      try simp only [Act.put, List.setIfInBounds_toArray, List.set_cons_zero, List.set_cons_succ]
      refine takeY 3 27 (v := ?_) rfl rfl (by kernel_rfl) (by kernel_rfl) (by kernel_rfl) (fun _ _ _ h => h) (by kernel_rfl) ?_ (by assumption) ?_
      rotate_left 1
      · intro w hSw; (try dsimp only at hSw); go_simp; (try with_reducible rfl)
      try simp only [Act.put, List.setIfInBounds_toArray, List.set_cons_zero, List.set_cons_succ]
      refine takeY 4 28 (v := ?_) rfl rfl (by kernel_rfl) (by kernel_rfl) (by kernel_rfl) (fun _ _ _ h => h) (by kernel_rfl) ?_ (by assumption) ?_
      rotate_left 1
      · intro w hSw; (try dsimp only at hSw); go_simp; (try with_reducible rfl)
      try simp only [Act.put, List.setIfInBounds_toArray, List.set_cons_zero, List.set_cons_succ]
      refine takeY 5 29 (v := ?_) rfl rfl (by kernel_rfl) (by kernel_rfl) (by kernel_rfl) (fun _ _ _ h => h) (by kernel_rfl) ?_ (by assumption) ?_
      rotate_left 1
      · intro w hSw; (try dsimp only at hSw); go_simp; (try with_reducible rfl)
      try simp only [Act.put, List.setIfInBounds_toArray, List.set_cons_zero, List.set_cons_succ]
      refine takeY 6 30 (v := ?_) rfl rfl (by kernel_rfl) (by kernel_rfl) (by kernel_rfl) (fun _ _ _ h => h) (by kernel_rfl) ?_ (by assumption) ?_
      rotate_left 1
      · intro w hSw; (try dsimp only at hSw); go_simp; (try with_reducible rfl)
      try simp only [Act.put, List.setIfInBounds_toArray, List.set_cons_zero, List.set_cons_succ]
      refine takeY 7 31 (v := ?_) rfl rfl (by kernel_rfl) (by kernel_rfl) (by kernel_rfl) (fun _ _ _ h => h) (by kernel_rfl) ?_ (by assumption) ?_
      rotate_left 1
      · intro w hSw; (try dsimp only at hSw); go_simp; (try with_reducible rfl)
      try simp only [Act.put, List.setIfInBounds_toArray, List.set_cons_zero, List.set_cons_succ]
      refine takeY 8 32 (v := ?_) rfl rfl (by kernel_rfl) (by kernel_rfl) (by kernel_rfl) (fun _ _ _ h => h) (by kernel_rfl) ?_ (by assumption) ?_
      rotate_left 1
      · intro w hSw; (try dsimp only at hSw); go_simp; (try with_reducible rfl)
      try simp only [Act.put, List.setIfInBounds_toArray, List.set_cons_zero, List.set_cons_succ]
      refine takeY 9 33 (v := ?_) rfl rfl (by kernel_rfl) (by kernel_rfl) (by kernel_rfl) (fun _ _ _ h => h) (by kernel_rfl) ?_ (by assumption) ?_
      rotate_left 1
      · intro w hSw; (try dsimp only at hSw); go_simp; (try with_reducible rfl)
      try simp only [Act.put, List.setIfInBounds_toArray, List.set_cons_zero, List.set_cons_succ]
      refine takeY 10 34 (v := ?_) rfl rfl (by kernel_rfl) (by kernel_rfl) (by kernel_rfl) (fun _ _ _ h => h) (by kernel_rfl) ?_ (by assumption) ?_
      rotate_left 1
      · intro w hSw; (try dsimp only at hSw); go_simp; (try with_reducible rfl)
      try simp only [Act.put, List.setIfInBounds_toArray, List.set_cons_zero, List.set_cons_succ]
      refine takeY 11 35 (v := ?_) rfl rfl (by kernel_rfl) (by kernel_rfl) (by kernel_rfl) (fun _ _ _ h => h) (by kernel_rfl) ?_ (by assumption) ?_
      rotate_left 1
      · intro w hSw; (try dsimp only at hSw); go_simp; (try with_reducible rfl)
      try simp only [Act.put, List.setIfInBounds_toArray, List.set_cons_zero, List.set_cons_succ]
      refine takeY 12 36 (v := ?_) rfl rfl (by kernel_rfl) (by kernel_rfl) (by kernel_rfl) (fun _ _ _ h => h) (by kernel_rfl) ?_ (by assumption) ?_
      rotate_left 1
      · intro w hSw; (try dsimp only at hSw); go_simp; (try with_reducible rfl)
      try simp only [Act.put, List.setIfInBounds_toArray, List.set_cons_zero, List.set_cons_succ]
      refine takeY 13 37 (v := ?_) rfl rfl (by kernel_rfl) (by kernel_rfl) (by kernel_rfl) (fun _ _ _ h => h) (by kernel_rfl) ?_ (by assumption) ?_
      rotate_left 1
      · intro w hSw; (try dsimp only at hSw); go_simp; (try with_reducible rfl)
      try simp only [Act.put, List.setIfInBounds_toArray, List.set_cons_zero, List.set_cons_succ]
      refine takeY 14 38 (v := ?_) rfl rfl (by kernel_rfl) (by kernel_rfl) (by kernel_rfl) (fun _ _ _ h => h) (by kernel_rfl) ?_ (by assumption) ?_
      rotate_left 1
      · intro w hSw; (try dsimp only at hSw); go_simp; (try with_reducible rfl)
      try simp only [Act.put, List.setIfInBounds_toArray, List.set_cons_zero, List.set_cons_succ]
      refine takeY 15 39 (v := ?_) rfl rfl (by kernel_rfl) (by kernel_rfl) (by kernel_rfl) (fun _ _ _ h => h) (by kernel_rfl) ?_ (by assumption) ?_
      rotate_left 1
      · intro w hSw; (try dsimp only at hSw); go_simp; (try with_reducible rfl)
      try simp only [Act.put, List.setIfInBounds_toArray, List.set_cons_zero, List.set_cons_succ]
      refine takeY 16 40 (v := ?_) rfl rfl (by kernel_rfl) (by kernel_rfl) (by kernel_rfl) (fun _ _ _ h => h) (by kernel_rfl) ?_ (by assumption) ?_
      rotate_left 1
      · intro w hSw; (try dsimp only at hSw); go_simp; (try with_reducible rfl)
      try simp only [Act.put, List.setIfInBounds_toArray, List.set_cons_zero, List.set_cons_succ]
      refine takeY 17 41 (v := ?_) rfl rfl (by kernel_rfl) (by kernel_rfl) (by kernel_rfl) (fun _ _ _ h => h) (by kernel_rfl) ?_ (by assumption) ?_
      rotate_left 1
      · intro w hSw; (try dsimp only at hSw); go_simp; (try with_reducible rfl)
      try simp only [Act.put, List.setIfInBounds_toArray, List.set_cons_zero, List.set_cons_succ]
      refine wpAnyH_ready (rs := [18]) (by kernel_rfl) (by simp) ?_
      refine AllReadyH.cons rfl (fun K hK => ?_) AllReadyH.nil
      go_simp
      have HP2 : Hid (PRow ((wr.setCell ⟨W1.heap.size, i * 2, none⟩ (.int .i64 (z.tdiv d1))).setCell ⟨W1.heap.size, i * 2 + 1, none⟩ (.int .i64 (d0.tdiv d1))) W1.heap.size m (fun k => if k < i + 1 then ppF zs k else (0, 0))) := Lib.hid ((hrow.out.set (z.tdiv d1) (d0.tdiv d1)).congr (fun k hk => by
        by_cases h1 : k = i
        · subst h1; simp only [if_true, show k < k + 1 by omega]; exact HPI.out.symm
        · by_cases h2 : k < i
          · simp only [h1, h2, if_false, if_true, show k < i + 1 by omega]
          · simp only [h1, h2, if_false, show ¬ k < i + 1 by omega]))
      have HB2 : Hid (Below W1.heap.size W1 ((wr.setCell ⟨W1.heap.size, i * 2, none⟩ (.int .i64 (z.tdiv d1))).setCell ⟨W1.heap.size, i * 2 + 1, none⟩ (.int .i64 (d0.tdiv d1)))) := Lib.hid ((hb.out.setCell (Nat.le_refl _) _).setCell (Nat.le_refl _) _)
      have hn1 : w.heap.size ≠ W1.heap.size := by omega
      have hn2 : g ≠ W1.heap.size := by omega
      have hn3 : w.heap.size + 1 ≠ W1.heap.size := by omega
      have sb0 : ((wr.setCell ⟨W1.heap.size, i * 2, none⟩ (.int .i64 (z.tdiv d1))).setCell ⟨W1.heap.size, i * 2 + 1, none⟩ (.int .i64 (d0.tdiv d1))).cell? ⟨w.heap.size, 0, none⟩ = some (.slice (some ⟨g, o, none⟩) (m + 1) c) := by go_simp
      have sb1 : ((wr.setCell ⟨W1.heap.size, i * 2, none⟩ (.int .i64 (z.tdiv d1))).setCell ⟨W1.heap.size, i * 2 + 1, none⟩ (.int .i64 (d0.tdiv d1))).cell? ⟨g, o + (i + 1), none⟩ = some (.int .i64 z) := by go_simp
      have sb2 : ((wr.setCell ⟨W1.heap.size, i * 2, none⟩ (.int .i64 (z.tdiv d1))).setCell ⟨W1.heap.size, i * 2 + 1, none⟩ (.int .i64 (d0.tdiv d1))).cell? ⟨w.heap.size + 1, i, none⟩ = some (.int .i64 d0) := by go_simp
      refine hK.out _ _ ⟨sb0, sb1, sb2⟩ (fun hHeld => ?_)
      clear hK K
      try simp only [Act.put, List.setIfInBounds_toArray, List.set_cons_zero, List.set_cons_succ]
      refine wpAnyH_done (by kernel_rfl) ?_ _
      go_wp2_with fail
      go_roundw
      case rel => exact ⟨i + 1, by omega, by go_num, HP2, Lib.hid (Below.drew HB2.out)⟩
      case measure => simp [intOf]; omega
    · obtain rfl : i = m := by omega
      go_wp2_with fail
      go_ret
      exact ⟨W1.heap.size, rfl, by omega, hrow.out.congr (fun k hk => by simp [hk]), B1.out.trans (hb.out.mono (by omega))⟩
end Go.Proofs.Ytncgkoanckefmaa
