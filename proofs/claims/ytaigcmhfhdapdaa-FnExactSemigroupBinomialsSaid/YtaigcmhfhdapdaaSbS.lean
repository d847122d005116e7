/- Binomials of semigroups, the model's: contract. Conditions: stated at each theorem. -/
import Derived.Test.YtaigcmhfhdapdaaSbI
import Derived.Deep.DeepCutAuto
namespace Go.Proofs.Ytaigcmhfhdapdaa
open Go.ChangeShapes Go.WideShapes Go.ChangeAt Go.RowKit Go.Deep
set_option linter.unusedVariables false
set_option linter.unusedSimpArgs false


theorem below_box2' (w : World) {B : Nat} (o : Obj) (h : B ≤ w.heap.size) : Below B w (w.alloc o) := (Below.refl _ _).alloc h o
/-- What the statement leaves: divisors, generators and an empty list, in blocks of their own. -/
def SbCut (W1 : World) (X Y : List Int) (n : Nat) (wc : World) (s4 s5 s6 : Value) : Prop :=
  ∃ d g q c1 c2, s4 = .slice (some ⟨d, 0, none⟩) n c1 ∧ s5 = .slice (some ⟨g, 0, none⟩) n c2 ∧ s6 = .slice (some ⟨q, 0, none⟩) 0 0 ∧ OwnI wc d (d + 1) (.slice (some ⟨d, 0, none⟩) n c1) X ∧ OwnI wc g (g + 1) (.slice (some ⟨g, 0, none⟩) n c2) Y ∧ OwnQ wc W1.heap.size wc.heap.size (.slice (some ⟨q, 0, none⟩) 0 0) [] ∧ q ≠ d ∧ q ≠ g ∧ Below W1.heap.size W1 wc
theorem below_undrew {w w' : World} {B : Nat} (h : Below B w.drew w') : Below B w w' := ⟨h.os, h.tape, h.output, h.size, h.block⟩
theorem sbCut_1 (W1 Wd Wg : World) {X Y : List Int} {n d g c1 c2 lo1 hi1 lo2 hi2 : Nat} (ho : OwnI Wd lo1 hi1 (.slice (some ⟨d, 0, none⟩) n c1) X) (hl : W1.heap.size ≤ d) (hh : d < Wd.heap.size)
    (ho2 : OwnI Wg lo2 hi2 (.slice (some ⟨g, 0, none⟩) n c2) Y) (hl2 : Wd.heap.size ≤ g) (hh2 : g < Wg.heap.size) (hb : Below W1.heap.size W1 Wd) (hb2 : Below Wd.heap.size Wd Wg) :
    SbCut W1 X Y n (Wg.alloc (.cells #[] 22)) (.slice (some ⟨d, 0, none⟩) n c1) (.slice (some ⟨g, 0, none⟩) n c2) (.slice (some ⟨Wg.heap.size, 0, none⟩) 0 0) := by
  have h1 := hb.size
  have h2 := hb2.size
  exact ⟨d, g, Wg.heap.size, c1, c2, rfl, rfl, rfl, (((own_tight ho hh).kept (Kept.of_below hb2 (by omega))).kept (kept_box _ _ _ _ (by omega))), (own_tight ho2 hh2).kept (kept_box _ _ _ _ (by omega)), ownQ_new Wg _ (by omega), by omega, by omega, (hb.trans (hb2.mono h1)).alloc (by omega) _⟩
theorem sbCut_2 (W1 Wd Wg : World) {X Y : List Int} {n d g c1 c2 lo1 hi1 lo2 hi2 : Nat} (ho : OwnI Wd lo1 hi1 (.slice (some ⟨d, 0, none⟩) n c1) X) (hl : W1.heap.size ≤ d) (hh : d < Wd.heap.size)
    (ho2 : OwnI Wg lo2 hi2 (.slice (some ⟨g, 0, none⟩) n c2) Y) (hl2 : (Wd.alloc (.cells #[] 22)).heap.size ≤ g) (hh2 : g < Wg.heap.size) (hb : Below W1.heap.size W1 Wd) (hb2 : Below (Wd.alloc (.cells #[] 22)).heap.size (Wd.alloc (.cells #[] 22)) Wg) :
    SbCut W1 X Y n Wg (.slice (some ⟨d, 0, none⟩) n c1) (.slice (some ⟨g, 0, none⟩) n c2) (.slice (some ⟨Wd.heap.size, 0, none⟩) 0 0) := by
  have h1 := hb.size
  have h2 := hb2.size
  have h3 : (Wd.alloc (.cells #[] 22)).heap.size = Wd.heap.size + 1 := by simp
  rw [h3] at hl2 hb2 h2
  have hq := ownQ_new Wd W1.heap.size h1
  rw [h3] at hq
  have hq2 := hq.kept (Kept.of_below (lo := W1.heap.size) hb2 (Nat.le_refl _))
  exact ⟨d, g, Wd.heap.size, c1, c2, rfl, rfl, rfl, (((own_tight ho hh).kept (kept_box _ _ _ _ (by omega))).kept (Kept.of_below hb2 (by omega))), own_tight ho2 hh2, ownQ_wide hq2 (Nat.le_refl _) h2 (Nat.le_refl _), by omega, by omega, (hb.alloc h1 _).trans (hb2.mono (by omega))⟩
theorem sbCut_3 (W1 Wd Wg : World) {X Y : List Int} {n d g c1 c2 lo1 hi1 lo2 hi2 : Nat} (ho : OwnI Wd lo1 hi1 (.slice (some ⟨d, 0, none⟩) n c1) X) (hl : (W1.alloc (.cells #[] 22)).heap.size ≤ d) (hh : d < Wd.heap.size)
    (ho2 : OwnI Wg lo2 hi2 (.slice (some ⟨g, 0, none⟩) n c2) Y) (hl2 : Wd.heap.size ≤ g) (hh2 : g < Wg.heap.size) (hb : Below (W1.alloc (.cells #[] 22)).heap.size (W1.alloc (.cells #[] 22)) Wd) (hb2 : Below Wd.heap.size Wd Wg) :
    SbCut W1 X Y n Wg (.slice (some ⟨d, 0, none⟩) n c1) (.slice (some ⟨g, 0, none⟩) n c2) (.slice (some ⟨W1.heap.size, 0, none⟩) 0 0) := by
  have h3 : (W1.alloc (.cells #[] 22)).heap.size = W1.heap.size + 1 := by simp
  have h1 := hb.size
  have h2 := hb2.size
  rw [h3] at hl h1 hb
  have hbb : Below (W1.heap.size + 1) (W1.alloc (.cells #[] 22)) Wg := hb.trans (hb2.mono h1)
  have hq := ownQ_new W1 W1.heap.size (Nat.le_refl _)
  rw [h3] at hq
  have hq2 := hq.kept (Kept.of_below (lo := W1.heap.size) hbb (Nat.le_refl _))
  exact ⟨d, g, W1.heap.size, c1, c2, rfl, rfl, rfl, (own_tight ho hh).kept (Kept.of_below hb2 (by omega)), own_tight ho2 hh2, ownQ_wide hq2 (Nat.le_refl _) (by omega) (Nat.le_refl _), by omega, by omega, (below_box2 W1 _).trans (hbb.mono (by omega))⟩

set_option maxRecDepth 100000 in
set_option maxHeartbeats 4000000 in
theorem specSemigroupBinomials_any (v : Value) (zs : List Int) (w : World) (h : ReadI w w.heap.size v zs) (hn : zs.length ≤ 1048576) (hw : ∀ z ∈ zs, (Lit.int .i64 z).wf = true) :
    Calls Try.prog 43 #[.agg #[v]] w (AnsQC w (sbA zs) (goC zs)) := by
  obtain ⟨n, A, c, rfl, hr, HL, _, hnc, HF, hcm⟩ := h.split2
  rw [HL.out] at hn
  obtain ⟨W0, HE⟩ : ∃ W, W = w.alloc (.cells #[.slice A n c] 28) := ⟨_, rfl⟩
  have hb0 : Below w.heap.size w W0 := by rw [HE]; exact below_box2 _ _
  have hq0 : BoxI W0 w.heap.size (.slice A n c) := by rw [HE]; exact BoxI.new _ _ _
  have hs0 : w.heap.size < W0.heap.size := hq0.2
  have H0 := Lib.hid ((h.below hb0).more hb0.size)
  have HW := Lib.hid hw
  have HEQ := Lib.hid HE
  have B0 := Lib.hid hb0
  have Q0 := Lib.hid hq0.1
  have HN1 : Hid (zs.length ≤ 1048576) := Lib.hid (by rw [HL.out]; exact hn)
  rcases bool_fs (brB zs) with hp | hp
  · have E := Lib.hid (sb_no hp)
    have HP := Lib.hid hp
    clear h hr hp hb0 hq0 HE hw
    go_enter Try.func43, Try.ntmps43
    go_wp2_with fail
    rw [← HEQ.out]
    refine (l03Is_if _ zs _ false H0.out HN1.out HW.out HP.out).mono ?_
    rintro e w1 ⟨rfl, hb1⟩
    go_wp2
    go_ret2
    exact ansQ_end (zss := []) E.out.1.symm (by rw [E.out.2]) (OwnQ.nil _ _) (B0.out.trans (hb1.mono (by omega)))
  have HP := Lib.hid hp
  have HZF := Lib.hid (br_first hp)
  have hn0 : 0 < n := by have := brB_pos hp; rw [HL.out] at this; exact this
  obtain ⟨a, rfl, hlt, hc0⟩ := hr.2 0 hn0
  obtain ⟨g, o, rfl⟩ := HF.out a rfl
  have hgw : g < w.heap.size := hlt
  have HLG : Hid ((gnB zs).length = n) := Lib.hid (by rw [gnB_len, HL.out])
  have HLD : Hid ((dvL 0 zs).length = n) := Lib.hid (by rw [dvL_len, HL.out])
  have HG0 : Hid ((gnB zs)[0]?.getD 0 = zs[0]?.getD 0) := Lib.hid (gnB_first hp)
  obtain ⟨j0, hj0, hj1, hj2, hj3⟩ := info_parts slice_infoP
  clear h hr hp hb0 hq0 HE hw hc0 hlt
  go_enter Try.func43, Try.ntmps43
  go_wp2_with fail
  rw [← HEQ.out]
  refine (l03Is_if _ zs _ true H0.out HN1.out HW.out HP.out).mono ?_
  rintro e W1 ⟨rfl, hb1⟩
  have hs1 := hb1.size
  have q1 := (hb1.cell (p := ⟨w.heap.size, 0, none⟩) hs0).trans Q0.out
  have HR1 := Lib.hid ((H0.out.below hb1).more hs1)
  have B1 := Lib.hid (B0.out.trans (hb1.mono (by omega)))
  have hw1 : w.heap.size < W1.heap.size := by omega
  clear hb1
  go_upto_region 3 with fail
  go_cut [4, 5, 6] (fun s4 s5 s6 wx => Hid (SbCut W1 (dvL 0 zs) (gnB zs) n wx s4 s5 s6))
  case first =>
    refine wp_region_held_drew (S := fun w' => w'.cell? ⟨w.heap.size, 0, none⟩ = some (.slice (some ⟨g, o, none⟩) n c)) (by kernel_rfl) (q1) (fun hHeld => ?_)
    refine takeY 0 _ (v := ?_) rfl rfl (by kernel_rfl) (by kernel_rfl) (by kernel_rfl) (fun _ _ _ h => h) (by kernel_rfl) ?_ (by assumption) ?_
    rotate_left 1
    · intro w hSw; (try dsimp only at hSw); go_simp; (try with_reducible rfl)
    try simp only [Act.put, List.setIfInBounds_toArray, List.set_cons_zero, List.set_cons_succ]
    refine takeY 2 _ (v := ?_) rfl rfl (by kernel_rfl) (by kernel_rfl) (by kernel_rfl) (fun _ _ _ h => h) (by kernel_rfl) ?_ (by assumption) ?_
    rotate_left 1
    · intro w hSw; (try dsimp only at hSw); go_simp; (try with_reducible rfl)
    try simp only [Act.put, List.setIfInBounds_toArray, List.set_cons_zero, List.set_cons_succ]
    refine wpAnyH_ready (rs := [1, 4]) (by kernel_rfl) (by simp) ?_
    refine AllReadyH.cons rfl (fun K hK => ?_) (AllReadyH.cons rfl (fun K hK => ?_) AllReadyH.nil)
    · go_simp
      refine (l03Divisors_any _ zs W1.drew HR1.out HN1.out HP.out).mono ?_
      rintro e Wd ⟨vWd, rfl, hoD, hbd⟩
      replace hbd : Below W1.heap.size W1 Wd := below_undrew hbd
      have hzWd : W1.heap.size ≤ Wd.heap.size := hbd.size
      obtain ⟨AD, cD, rfl⟩ := hoD.form HLD.out
      obtain ⟨dD, eD, hlD, hhD, _, _⟩ := own_at hoD HLD.out hn0
      cases eD
      change W1.heap.size ≤ dD at hlD
      have qd := (hbd.cell (p := ⟨w.heap.size, 0, none⟩) (by show w.heap.size < _; omega)).trans q1
      refine hK.out _ (Wd) qd (fun hHeld => ?_)
      clear hK K
      try simp only [Act.put, List.setIfInBounds_toArray, List.set_cons_zero, List.set_cons_succ]
      refine wpAnyH_ready (rs := [3, 4]) (by kernel_rfl) (by simp) ?_
      refine AllReadyH.cons rfl (fun K hK => ?_) (AllReadyH.cons rfl (fun K hK => ?_) AllReadyH.nil)
      · go_simp
        refine (l05Generators_any _ zs Wd ((HR1.out.below hbd).more hbd.size) HN1.out HP.out).mono ?_
        rintro e Wg ⟨vWg, rfl, hoG, hbg⟩
        have hzWg : Wd.heap.size ≤ Wg.heap.size := hbg.size
        obtain ⟨AG, cG, rfl⟩ := hoG.form HLG.out
        obtain ⟨dG, eG, hlG, hhG, _, _⟩ := own_at hoG HLG.out hn0
        cases eG
        have qg := (hbg.cell (p := ⟨w.heap.size, 0, none⟩) (by show w.heap.size < _; omega)).trans qd
        refine hK.out _ (Wg) qg (fun hHeld => ?_)
        clear hK K
        try simp only [Act.put, List.setIfInBounds_toArray, List.set_cons_zero, List.set_cons_succ]
        refine takeY 5 _ (v := ?_) rfl rfl (by kernel_rfl) (by kernel_rfl) (by kernel_rfl) (fun _ _ _ h => h) (by kernel_rfl) ?_ (by assumption) ?_
        rotate_left 1
        · intro w hSw; (try dsimp only at hSw); go_simp; (try with_reducible rfl)
        try simp only [Act.put, List.setIfInBounds_toArray, List.set_cons_zero, List.set_cons_succ]
        refine takeY 6 _ (v := ?_) rfl rfl (by kernel_rfl) (by kernel_rfl) (by kernel_rfl) (fun _ _ _ h => h) (by kernel_rfl) ?_ (by assumption) ?_
        rotate_left 1
        · intro w hSw; (try dsimp only at hSw); go_simp; (try with_reducible rfl)
        try simp only [Act.put, List.setIfInBounds_toArray, List.set_cons_zero, List.set_cons_succ]
        refine wpAnyH_ready (rs := [4]) (by kernel_rfl) (by simp) ?_
        refine AllReadyH.cons rfl (fun K hK => ?_) AllReadyH.nil
        go_simp
        have hzqe : (World.alloc Wg (.cells #[] 22)).heap.size = Wg.heap.size + 1 := by simp
        have qe := ((below_box Wg (.cells #[] 22)).cell (p := ⟨w.heap.size, 0, none⟩) (by show w.heap.size < _; omega)).trans qg
        refine hK.out _ (_) qe (fun hHeld => ?_)
        clear hK K
        try simp only [Act.put, List.setIfInBounds_toArray, List.set_cons_zero, List.set_cons_succ]
        refine takeY 7 _ (v := ?_) rfl rfl (by kernel_rfl) (by kernel_rfl) (by kernel_rfl) (fun _ _ _ h => h) (by kernel_rfl) ?_ (by assumption) ?_
        rotate_left 1
        · intro w hSw; (try dsimp only at hSw); go_simp; (try with_reducible rfl)
        try simp only [Act.put, List.setIfInBounds_toArray, List.set_cons_zero, List.set_cons_succ]
        refine wpAnyH_done (by kernel_rfl) ?_ _
        go_wp2_with fail
        go_meet
        exact Lib.hid (sbCut_1 W1 Wd Wg hoD hlD hhD hoG hlG hhG hbd hbg)
      · go_simp
        have hzqe : (World.alloc Wd (.cells #[] 22)).heap.size = Wd.heap.size + 1 := by simp
        have qe := ((below_box Wd (.cells #[] 22)).cell (p := ⟨w.heap.size, 0, none⟩) (by show w.heap.size < _; omega)).trans qd
        refine hK.out _ (_) qe (fun hHeld => ?_)
        clear hK K
        try simp only [Act.put, List.setIfInBounds_toArray, List.set_cons_zero, List.set_cons_succ]
        refine wpAnyH_ready (rs := [3]) (by kernel_rfl) (by simp) ?_
        refine AllReadyH.cons rfl (fun K hK => ?_) AllReadyH.nil
        go_simp
        refine (l05Generators_any _ zs (World.alloc Wd (.cells #[] 22)) (((HR1.out.below hbd).below (below_box2' Wd (.cells #[] 22) hbd.size)).more (by show W1.heap.size ≤ _; omega)) HN1.out HP.out).mono ?_
        rintro e Wg ⟨vWg, rfl, hoG, hbg⟩
        have hzWg : (World.alloc Wd (.cells #[] 22)).heap.size ≤ Wg.heap.size := hbg.size
        obtain ⟨AG, cG, rfl⟩ := hoG.form HLG.out
        obtain ⟨dG, eG, hlG, hhG, _, _⟩ := own_at hoG HLG.out hn0
        cases eG
        have qg := (hbg.cell (p := ⟨w.heap.size, 0, none⟩) (by show w.heap.size < _; omega)).trans qe
        refine hK.out _ (Wg) qg (fun hHeld => ?_)
        clear hK K
        try simp only [Act.put, List.setIfInBounds_toArray, List.set_cons_zero, List.set_cons_succ]
        refine takeY 5 _ (v := ?_) rfl rfl (by kernel_rfl) (by kernel_rfl) (by kernel_rfl) (fun _ _ _ h => h) (by kernel_rfl) ?_ (by assumption) ?_
        rotate_left 1
        · intro w hSw; (try dsimp only at hSw); go_simp; (try with_reducible rfl)
        try simp only [Act.put, List.setIfInBounds_toArray, List.set_cons_zero, List.set_cons_succ]
        refine takeY 6 _ (v := ?_) rfl rfl (by kernel_rfl) (by kernel_rfl) (by kernel_rfl) (fun _ _ _ h => h) (by kernel_rfl) ?_ (by assumption) ?_
        rotate_left 1
        · intro w hSw; (try dsimp only at hSw); go_simp; (try with_reducible rfl)
        try simp only [Act.put, List.setIfInBounds_toArray, List.set_cons_zero, List.set_cons_succ]
        refine takeY 7 _ (v := ?_) rfl rfl (by kernel_rfl) (by kernel_rfl) (by kernel_rfl) (fun _ _ _ h => h) (by kernel_rfl) ?_ (by assumption) ?_
        rotate_left 1
        · intro w hSw; (try dsimp only at hSw); go_simp; (try with_reducible rfl)
        try simp only [Act.put, List.setIfInBounds_toArray, List.set_cons_zero, List.set_cons_succ]
        refine wpAnyH_done (by kernel_rfl) ?_ _
        go_wp2_with fail
        go_meet
        exact Lib.hid (sbCut_2 W1 Wd Wg hoD hlD hhD hoG hlG hhG hbd hbg)
    · go_simp
      have hzqe : (World.alloc W1 (.cells #[] 22)).heap.size = W1.heap.size + 1 := by simp
      have qe := ((below_box W1 (.cells #[] 22)).cell (p := ⟨w.heap.size, 0, none⟩) (by show w.heap.size < _; omega)).trans q1
      refine hK.out _ (_) qe (fun hHeld => ?_)
      clear hK K
      try simp only [Act.put, List.setIfInBounds_toArray, List.set_cons_zero, List.set_cons_succ]
      refine wpAnyH_ready (rs := [1]) (by kernel_rfl) (by simp) ?_
      refine AllReadyH.cons rfl (fun K hK => ?_) AllReadyH.nil
      go_simp
      refine (l03Divisors_any _ zs (World.alloc W1 (.cells #[] 22)).drew ((HR1.out.below (below_box2 W1 (.cells #[] 22))).more (by show W1.heap.size ≤ (World.alloc W1 _).heap.size; simp)) HN1.out HP.out).mono ?_
      rintro e Wd ⟨vWd, rfl, hoD, hbd⟩
      replace hbd : Below (World.alloc W1 (.cells #[] 22)).heap.size (World.alloc W1 (.cells #[] 22)) Wd := below_undrew hbd
      have hzWd : (World.alloc W1 (.cells #[] 22)).heap.size ≤ Wd.heap.size := hbd.size
      obtain ⟨AD, cD, rfl⟩ := hoD.form HLD.out
      obtain ⟨dD, eD, hlD, hhD, _, _⟩ := own_at hoD HLD.out hn0
      cases eD
      change (World.alloc W1 (.cells #[] 22)).heap.size ≤ dD at hlD
      have qd := (hbd.cell (p := ⟨w.heap.size, 0, none⟩) (by show w.heap.size < _; omega)).trans qe
      refine hK.out _ (Wd) qd (fun hHeld => ?_)
      clear hK K
      try simp only [Act.put, List.setIfInBounds_toArray, List.set_cons_zero, List.set_cons_succ]
      refine wpAnyH_ready (rs := [3]) (by kernel_rfl) (by simp) ?_
      refine AllReadyH.cons rfl (fun K hK => ?_) AllReadyH.nil
      go_simp
      refine (l05Generators_any _ zs Wd (((HR1.out.below (below_box2 W1 (.cells #[] 22))).below (hbd.mono (by simp))).more (by omega)) HN1.out HP.out).mono ?_
      rintro e Wg ⟨vWg, rfl, hoG, hbg⟩
      have hzWg : Wd.heap.size ≤ Wg.heap.size := hbg.size
      obtain ⟨AG, cG, rfl⟩ := hoG.form HLG.out
      obtain ⟨dG, eG, hlG, hhG, _, _⟩ := own_at hoG HLG.out hn0
      cases eG
      have qg := (hbg.cell (p := ⟨w.heap.size, 0, none⟩) (by show w.heap.size < _; omega)).trans qd
      refine hK.out _ (Wg) qg (fun hHeld => ?_)
      clear hK K
      try simp only [Act.put, List.setIfInBounds_toArray, List.set_cons_zero, List.set_cons_succ]
      refine takeY 5 _ (v := ?_) rfl rfl (by kernel_rfl) (by kernel_rfl) (by kernel_rfl) (fun _ _ _ h => h) (by kernel_rfl) ?_ (by assumption) ?_
      rotate_left 1
      · intro w hSw; (try dsimp only at hSw); go_simp; (try with_reducible rfl)
      try simp only [Act.put, List.setIfInBounds_toArray, List.set_cons_zero, List.set_cons_succ]
      refine takeY 6 _ (v := ?_) rfl rfl (by kernel_rfl) (by kernel_rfl) (by kernel_rfl) (fun _ _ _ h => h) (by kernel_rfl) ?_ (by assumption) ?_
      rotate_left 1
      · intro w hSw; (try dsimp only at hSw); go_simp; (try with_reducible rfl)
      try simp only [Act.put, List.setIfInBounds_toArray, List.set_cons_zero, List.set_cons_succ]
      refine takeY 7 _ (v := ?_) rfl rfl (by kernel_rfl) (by kernel_rfl) (by kernel_rfl) (fun _ _ _ h => h) (by kernel_rfl) ?_ (by assumption) ?_
      rotate_left 1
      · intro w hSw; (try dsimp only at hSw); go_simp; (try with_reducible rfl)
      try simp only [Act.put, List.setIfInBounds_toArray, List.set_cons_zero, List.set_cons_succ]
      refine wpAnyH_done (by kernel_rfl) ?_ _
      go_wp2_with fail
      go_meet
      exact Lib.hid (sbCut_3 W1 Wd Wg hoD hlD hhD hoG hlG hhG hbd hbg)
  case rest =>
    obtain ⟨d, gg, q, c1, c2, rfl, rfl, rfl, hod0, hog0, hoq0, hqd, hqg, hbw0⟩ := hcut.out
    have OD := Lib.hid hod0
    have OG := Lib.hid hog0
    have OQ := Lib.hid hoq0
    have hdw : d < wc.heap.size := hod0.2.2
    have hggw : gg < wc.heap.size := hog0.2.2
    have BW := Lib.hid hbw0
    have hsw := hbw0.size
    have HL0 : Hid (([] : List (List Int)) = sbL zs 0) := Lib.hid rfl
    clear hod0 hog0 hoq0 hbw0 hcut q1
    go_wp2_with fail
    go_loopw [6, 7] (fun vo vi wr => ∃ (i j k : Nat) (L : List (List Int)) (g1 : Nat) (A' : Option Addr) (c' : Nat), i ≤ n ∧ i = j + 1 ∧ k = 2 * j ∧ vo = .slice A' k c' ∧ vi = .int .i64 i ∧ A' = some ⟨g1, 0, none⟩ ∧ Hid (L.length = k) ∧ Hid (L = sbL zs j) ∧ Hid (OwnQ wr W1.heap.size wr.heap.size (.slice A' k c') L) ∧ W1.heap.size ≤ wr.heap.size ∧ (g1 ≠ d ∧ g1 ≠ gg) ∧ Hid (OwnI wr d (d + 1) (.slice (some ⟨d, 0, none⟩) n c1) (dvL 0 zs)) ∧ Hid (OwnI wr gg (gg + 1) (.slice (some ⟨gg, 0, none⟩) n c2) (gnB zs)) ∧ Hid (Below W1.heap.size W1 wr)) (fun _ vi _ => n - (intOf vi).toNat)
    case atStart => exact ⟨1, 0, 0, [], q, _, 0, by omega, rfl, rfl, rfl, rfl, rfl, Lib.hid rfl, HL0, OQ, by omega, ⟨hqd, hqg⟩, OD, OG, BW⟩
    case round =>
      clear OQ HL0
      obtain ⟨i, j, k, L, g1, A', c', hi, hij, hkj, rfl, rfl, rfl, hL, hLn, hq, hlow, ⟨hgd, hgg⟩, hod, hog, hb⟩ := hrel
      have hlgd : d < wr.heap.size := hod.out.2.2
      have hlgg : gg < wr.heap.size := hog.out.2.2
      obtain ⟨us, ls, hs, hrows⟩ := hq.out
      rw [hL.out] at hrows
      have HROW := Lib.hid hrows
      have hkn : k ≤ 2097152 := by omega
      have HIJ := Lib.hid hij
      have HKJ := Lib.hid hkj
      by_cases hlt : i < n
      · obtain ⟨d', e3, _, _, hd1, _⟩ := own_at hod.out HLD.out (show j < n by omega)
        cases e3
        obtain ⟨d', e3, _, _, hd0, _⟩ := own_at hod.out HLD.out (show j + 1 < n by omega)
        cases e3
        obtain ⟨gg', e3, _, _, hx, _⟩ := own_at hog.out HLG.out (show j + 1 < n by omega)
        cases e3
        have htm := cd_term HP.out (k := j) (by rw [HL.out]; omega)
        have HST := Lib.hid (sbL_step zs j)
        have cd1 : wr.cell? ⟨d, i - 1, none⟩ = some (.int .i64 ((dvL 0 zs)[j]?.getD 0)) := by rw [show i - 1 = j by omega]; exact hd1
        have cd0 : wr.cell? ⟨d, i, none⟩ = some (.int .i64 ((dvL 0 zs)[j + 1]?.getD 0)) := by rw [hij]; exact hd0
        have cx : wr.cell? ⟨gg, i, none⟩ = some (.int .i64 ((gnB zs)[j + 1]?.getD 0)) := by rw [hij]; exact hx
        obtain ⟨d1, hdd1⟩ : ∃ a, (dvL 0 zs)[j]?.getD 0 = a := ⟨_, rfl⟩
        obtain ⟨d0, hdd0⟩ : ∃ a, (dvL 0 zs)[j + 1]?.getD 0 = a := ⟨_, rfl⟩
        obtain ⟨x, hxx⟩ : ∃ a, (gnB zs)[j + 1]?.getD 0 = a := ⟨_, rfl⟩
        rw [hdd1] at cd1
        rw [hdd0] at cd0
        rw [hxx] at cx
        rw [hdd1, hdd0, hxx] at htm HST
        have hmu := mul_range (A := 2000) (B := 128000) (a := d1.tdiv d0) (b := x) htm.2.2.1 (by omega)
        have hdz : (d0 == 0) = false := by simp; omega
        have hdz2 : ¬ d0 = 0 := by omega
        have hin : (i : Int) < (n : Int) := by omega
        have h6 : (0 : Int) ≤ (i : Int) := by omega
        have h7 : ((i : Int) - 1).toNat = i - 1 := by omega
        have h8 : (i : Int) - 1 < (n : Int) := by omega
        have h9 : (0 : Int) ≤ (i : Int) - 1 := by omega
        have h10 : (1 : Int) ≤ (i : Int) := by omega
        have h12 : i - 1 < n := by omega
        have p1 : IntKind.i64.wrap ((i : Int) - 1) = (i : Int) - 1 := IntWalk.i64_in _ (by omega)
        have p5 : IntKind.i64.wrap (d1.tdiv d0) = d1.tdiv d0 := IntWalk.i64_in _ (by omega)
        have p3 : IntKind.i64.wrap (d1.tdiv d0 * x) = d1.tdiv d0 * x := IntWalk.i64_in _ (by omega)
        clear hd1 hd0 hx hdd1 hdd0 hxx htm hrows hij hkj
        go_wp2_with fail
        refine wp_region_held_drew (S := fun w' => w'.cell? ⟨d, i - 1, none⟩ = some (.int .i64 d1) ∧ w'.cell? ⟨d, i, none⟩ = some (.int .i64 d0) ∧ w'.cell? ⟨gg, i, none⟩ = some (.int .i64 x)) (by kernel_rfl) ⟨cd1, cd0, cx⟩ (fun hHeld => ?_)
        refine takeY 0 _ (v := ?_) rfl rfl (by kernel_rfl) (by kernel_rfl) (by kernel_rfl) (fun _ _ _ h => h) (by kernel_rfl) ?_ (by assumption) ?_
        rotate_left 1
        · intro w hSw; (try dsimp only at hSw); go_simp; (try with_reducible rfl)
        try simp only [Act.put, List.setIfInBounds_toArray, List.set_cons_zero, List.set_cons_succ]
        refine takeY 1 _ (v := ?_) rfl rfl (by kernel_rfl) (by kernel_rfl) (by kernel_rfl) (fun _ _ _ h => h) (by kernel_rfl) ?_ (by assumption) ?_
        rotate_left 1
        · intro w hSw; (try dsimp only at hSw); go_simp; (try with_reducible rfl)
        try simp only [Act.put, List.setIfInBounds_toArray, List.set_cons_zero, List.set_cons_succ]
        refine takeY 2 _ (v := ?_) rfl rfl (by kernel_rfl) (by kernel_rfl) (by kernel_rfl) (fun _ _ _ h => h) (by kernel_rfl) ?_ (by assumption) ?_
        rotate_left 1
        · intro w hSw; (try dsimp only at hSw); go_simp; (try with_reducible rfl)
        try simp only [Act.put, List.setIfInBounds_toArray, List.set_cons_zero, List.set_cons_succ]
        refine takeY 3 _ (v := ?_) rfl rfl (by kernel_rfl) (by kernel_rfl) (by kernel_rfl) (fun _ _ _ h => h) (by kernel_rfl) ?_ (by assumption) ?_
        rotate_left 1
        · intro w hSw; (try dsimp only at hSw); go_simp; (try with_reducible rfl)
        try simp only [Act.put, List.setIfInBounds_toArray, List.set_cons_zero, List.set_cons_succ]
        refine takeY 4 _ (v := ?_) rfl rfl (by kernel_rfl) (by kernel_rfl) (by kernel_rfl) (fun _ _ _ h => h) (by kernel_rfl) ?_ (by assumption) ?_
        rotate_left 1
        · intro w hSw; (try dsimp only at hSw); go_simp; (try with_reducible rfl)
        try simp only [Act.put, List.setIfInBounds_toArray, List.set_cons_zero, List.set_cons_succ]
        refine takeY 5 _ (v := ?_) rfl rfl (by kernel_rfl) (by kernel_rfl) (by kernel_rfl) (fun _ _ _ h => h) (by kernel_rfl) ?_ (by assumption) ?_
        rotate_left 1
        · intro w hSw; (try dsimp only at hSw); go_simp; (try with_reducible rfl)
        try simp only [Act.put, List.setIfInBounds_toArray, List.set_cons_zero, List.set_cons_succ]
        refine takeY 6 _ (v := ?_) rfl rfl (by kernel_rfl) (by kernel_rfl) (by kernel_rfl) (fun _ _ _ h => h) (by kernel_rfl) ?_ (by assumption) ?_
        rotate_left 1
        · intro w hSw; (try dsimp only at hSw); go_simp; (try with_reducible rfl)
        try simp only [Act.put, List.setIfInBounds_toArray, List.set_cons_zero, List.set_cons_succ]
        refine takeY 7 _ (v := ?_) rfl rfl (by kernel_rfl) (by kernel_rfl) (by kernel_rfl) (fun _ _ _ h => h) (by kernel_rfl) ?_ (by assumption) ?_
        rotate_left 1
        · intro w hSw; (try dsimp only at hSw); go_simp; (try with_reducible rfl)
        try simp only [Act.put, List.setIfInBounds_toArray, List.set_cons_zero, List.set_cons_succ]
        refine takeY 8 _ (v := ?_) rfl rfl (by kernel_rfl) (by kernel_rfl) (by kernel_rfl) (fun _ _ _ h => h) (by kernel_rfl) ?_ (by assumption) ?_
        rotate_left 1
        · intro w hSw; (try dsimp only at hSw); go_simp; (try with_reducible rfl)
        try simp only [Act.put, List.setIfInBounds_toArray, List.set_cons_zero, List.set_cons_succ]
        refine takeY 9 _ (v := ?_) rfl rfl (by kernel_rfl) (by kernel_rfl) (by kernel_rfl) (fun _ _ _ h => h) (by kernel_rfl) ?_ (by assumption) ?_
        rotate_left 1
        · intro w hSw; (try dsimp only at hSw); go_simp; (try with_reducible rfl)
        try simp only [Act.put, List.setIfInBounds_toArray, List.set_cons_zero, List.set_cons_succ]
        refine takeY 10 _ (v := ?_) rfl rfl (by kernel_rfl) (by kernel_rfl) (by kernel_rfl) (fun _ _ _ h => h) (by kernel_rfl) ?_ (by assumption) ?_
        rotate_left 1
        · intro w hSw; (try dsimp only at hSw); go_simp; (try with_reducible rfl)
        try simp only [Act.put, List.setIfInBounds_toArray, List.set_cons_zero, List.set_cons_succ]
        refine takeY 11 _ (v := ?_) rfl rfl (by kernel_rfl) (by kernel_rfl) (by kernel_rfl) (fun _ _ _ h => h) (by kernel_rfl) ?_ (by assumption) ?_
        rotate_left 1
        · intro w hSw; (try dsimp only at hSw); go_simp; (try with_reducible rfl)
        try simp only [Act.put, List.setIfInBounds_toArray, List.set_cons_zero, List.set_cons_succ]
        refine takeY 12 _ (v := ?_) rfl rfl (by kernel_rfl) (by kernel_rfl) (by kernel_rfl) (fun _ _ _ h => h) (by kernel_rfl) ?_ (by assumption) ?_
        rotate_left 1
        · intro w hSw; (try dsimp only at hSw); go_simp; (try with_reducible rfl)
        try simp only [Act.put, List.setIfInBounds_toArray, List.set_cons_zero, List.set_cons_succ]
        refine takeY 13 _ (v := ?_) rfl rfl (by kernel_rfl) (by kernel_rfl) (by kernel_rfl) (fun _ _ _ h => h) (by kernel_rfl) ?_ (by assumption) ?_
        rotate_left 1
        · intro w hSw; (try dsimp only at hSw); go_simp; (try with_reducible rfl)
        try simp only [Act.put, List.setIfInBounds_toArray, List.set_cons_zero, List.set_cons_succ]
        refine takeY 14 _ (v := ?_) rfl rfl (by kernel_rfl) (by kernel_rfl) (by kernel_rfl) (fun _ _ _ h => h) (by kernel_rfl) ?_ (by assumption) ?_
        rotate_left 1
        · intro w hSw; (try dsimp only at hSw); go_simp; (try with_reducible rfl)
        try simp only [Act.put, List.setIfInBounds_toArray, List.set_cons_zero, List.set_cons_succ]
        refine takeY 15 _ (v := ?_) rfl rfl (by kernel_rfl) (by kernel_rfl) (by kernel_rfl) (fun _ _ _ h => h) (by kernel_rfl) ?_ (by assumption) ?_
        rotate_left 1
        · intro w hSw; (try dsimp only at hSw); go_simp; (try with_reducible rfl)
        try simp only [Act.put, List.setIfInBounds_toArray, List.set_cons_zero, List.set_cons_succ]
        refine takeY 17 _ (v := ?_) rfl rfl (by kernel_rfl) (by kernel_rfl) (by kernel_rfl) (fun _ _ _ h => h) (by kernel_rfl) ?_ (by assumption) ?_
        rotate_left 1
        · intro w hSw; (try dsimp only at hSw); go_simp; (try with_reducible rfl)
        try simp only [Act.put, List.setIfInBounds_toArray, List.set_cons_zero, List.set_cons_succ]
        refine takeY 18 _ (v := ?_) rfl rfl (by kernel_rfl) (by kernel_rfl) (by kernel_rfl) (fun _ _ _ h => h) (by kernel_rfl) ?_ (by assumption) ?_
        rotate_left 1
        · intro w hSw; (try dsimp only at hSw); go_simp; (try with_reducible rfl)
        try simp only [Act.put, List.setIfInBounds_toArray, List.set_cons_zero, List.set_cons_succ]
        refine takeY 19 _ (v := ?_) rfl rfl (by kernel_rfl) (by kernel_rfl) (by kernel_rfl) (fun _ _ _ h => h) (by kernel_rfl) ?_ (by assumption) ?_
        rotate_left 1
        · intro w hSw; (try dsimp only at hSw); go_simp; (try with_reducible rfl)
        try simp only [Act.put, List.setIfInBounds_toArray, List.set_cons_zero, List.set_cons_succ]
        refine takeY 20 _ (v := ?_) rfl rfl (by kernel_rfl) (by kernel_rfl) (by kernel_rfl) (fun _ _ _ h => h) (by kernel_rfl) ?_ (by assumption) ?_
        rotate_left 1
        · intro w hSw; (try dsimp only at hSw); go_simp; (try with_reducible rfl)
        try simp only [Act.put, List.setIfInBounds_toArray, List.set_cons_zero, List.set_cons_succ]
        refine wpAnyH_ready (rs := [16, 21]) (by kernel_rfl) (by simp) ?_
        refine AllReadyH.cons rfl (fun K hK => ?_) (AllReadyH.cons rfl (fun K hK => ?_) AllReadyH.nil)
        · go_simp
          have s1 : (World.alloc wr (.cells #[.int .i64 (d1.tdiv d0 * x), .int .i64 1] 2)).cell? ⟨d, i - 1, none⟩ = some (.int .i64 d1) ∧ (World.alloc wr (.cells #[.int .i64 (d1.tdiv d0 * x), .int .i64 1] 2)).cell? ⟨d, i, none⟩ = some (.int .i64 d0) ∧ (World.alloc wr (.cells #[.int .i64 (d1.tdiv d0 * x), .int .i64 1] 2)).cell? ⟨gg, i, none⟩ = some (.int .i64 x) := ⟨((below_box wr _).cell (p := ⟨d, i - 1, none⟩) hlgd).trans cd1, ((below_box wr _).cell (p := ⟨d, i, none⟩) hlgd).trans cd0, ((below_box wr _).cell (p := ⟨gg, i, none⟩) hlgg).trans cx⟩
          have hz1 : (World.alloc wr (.cells #[.int .i64 (d1.tdiv d0 * x), .int .i64 1] 2)).heap.size = wr.heap.size + 1 := by simp
          refine hK.out _ (_) s1 (fun hHeld => ?_)
          clear hK K
          try simp only [Act.put, List.setIfInBounds_toArray, List.set_cons_zero, List.set_cons_succ]
          refine wpAnyH_ready (rs := [21]) (by kernel_rfl) (by simp) ?_
          refine AllReadyH.cons rfl (fun K hK => ?_) AllReadyH.nil
          go_simp
          have s2 : (World.alloc (World.alloc wr (.cells #[.int .i64 (d1.tdiv d0 * x), .int .i64 1] 2)) (.cells #[.int .i64 x, .int .i64 (-1)] 2)).cell? ⟨d, i - 1, none⟩ = some (.int .i64 d1) ∧ (World.alloc (World.alloc wr (.cells #[.int .i64 (d1.tdiv d0 * x), .int .i64 1] 2)) (.cells #[.int .i64 x, .int .i64 (-1)] 2)).cell? ⟨d, i, none⟩ = some (.int .i64 d0) ∧ (World.alloc (World.alloc wr (.cells #[.int .i64 (d1.tdiv d0 * x), .int .i64 1] 2)) (.cells #[.int .i64 x, .int .i64 (-1)] 2)).cell? ⟨gg, i, none⟩ = some (.int .i64 x) := ⟨((below_box (World.alloc wr (.cells #[.int .i64 (d1.tdiv d0 * x), .int .i64 1] 2)) _).cell (p := ⟨d, i - 1, none⟩) (by rw [hz1]; show d < _; omega)).trans s1.1, ((below_box (World.alloc wr (.cells #[.int .i64 (d1.tdiv d0 * x), .int .i64 1] 2)) _).cell (p := ⟨d, i, none⟩) (by rw [hz1]; show d < _; omega)).trans s1.2.1, ((below_box (World.alloc wr (.cells #[.int .i64 (d1.tdiv d0 * x), .int .i64 1] 2)) _).cell (p := ⟨gg, i, none⟩) (by rw [hz1]; show gg < _; omega)).trans s1.2.2⟩
          have hz2 : (World.alloc (World.alloc wr (.cells #[.int .i64 (d1.tdiv d0 * x), .int .i64 1] 2)) (.cells #[.int .i64 x, .int .i64 (-1)] 2)).heap.size = wr.heap.size + 2 := by simp
          refine hK.out _ (_) s2 (fun hHeld => ?_)
          clear hK K
          try simp only [Act.put, List.setIfInBounds_toArray, List.set_cons_zero, List.set_cons_succ]
          refine wpAnyH_ready (rs := [22]) (by kernel_rfl) (by simp) ?_
          refine AllReadyH.cons rfl (fun K hK => ?_) AllReadyH.nil
          go_simp
          have s3 : (World.alloc (World.alloc (World.alloc wr (.cells #[.int .i64 (d1.tdiv d0 * x), .int .i64 1] 2)) (.cells #[.int .i64 x, .int .i64 (-1)] 2)) (.cells #[.slice (some ⟨wr.heap.size, 0, none⟩) 2 2, .slice (some ⟨wr.heap.size + 1, 0, none⟩) 2 2] 22)).cell? ⟨d, i - 1, none⟩ = some (.int .i64 d1) ∧ (World.alloc (World.alloc (World.alloc wr (.cells #[.int .i64 (d1.tdiv d0 * x), .int .i64 1] 2)) (.cells #[.int .i64 x, .int .i64 (-1)] 2)) (.cells #[.slice (some ⟨wr.heap.size, 0, none⟩) 2 2, .slice (some ⟨wr.heap.size + 1, 0, none⟩) 2 2] 22)).cell? ⟨d, i, none⟩ = some (.int .i64 d0) ∧ (World.alloc (World.alloc (World.alloc wr (.cells #[.int .i64 (d1.tdiv d0 * x), .int .i64 1] 2)) (.cells #[.int .i64 x, .int .i64 (-1)] 2)) (.cells #[.slice (some ⟨wr.heap.size, 0, none⟩) 2 2, .slice (some ⟨wr.heap.size + 1, 0, none⟩) 2 2] 22)).cell? ⟨gg, i, none⟩ = some (.int .i64 x) := ⟨((below_box (World.alloc (World.alloc wr (.cells #[.int .i64 (d1.tdiv d0 * x), .int .i64 1] 2)) (.cells #[.int .i64 x, .int .i64 (-1)] 2)) _).cell (p := ⟨d, i - 1, none⟩) (by rw [hz2]; show d < _; omega)).trans s2.1, ((below_box (World.alloc (World.alloc wr (.cells #[.int .i64 (d1.tdiv d0 * x), .int .i64 1] 2)) (.cells #[.int .i64 x, .int .i64 (-1)] 2)) _).cell (p := ⟨d, i, none⟩) (by rw [hz2]; show d < _; omega)).trans s2.2.1, ((below_box (World.alloc (World.alloc wr (.cells #[.int .i64 (d1.tdiv d0 * x), .int .i64 1] 2)) (.cells #[.int .i64 x, .int .i64 (-1)] 2)) _).cell (p := ⟨gg, i, none⟩) (by rw [hz2]; show gg < _; omega)).trans s2.2.2⟩
          have hz3 : (World.alloc (World.alloc (World.alloc wr (.cells #[.int .i64 (d1.tdiv d0 * x), .int .i64 1] 2)) (.cells #[.int .i64 x, .int .i64 (-1)] 2)) (.cells #[.slice (some ⟨wr.heap.size, 0, none⟩) 2 2, .slice (some ⟨wr.heap.size + 1, 0, none⟩) 2 2] 22)).heap.size = wr.heap.size + 3 := by simp
          refine hK.out _ (_) s3 (fun hHeld => ?_)
          clear hK K
          try simp only [Act.put, List.setIfInBounds_toArray, List.set_cons_zero, List.set_cons_succ]
          refine wpAnyH_ready (rs := [23]) (by kernel_rfl) (by simp) ?_
          refine AllReadyH.cons rfl (fun K hK => ?_) AllReadyH.nil
          try simp only [List.getElem_toArray, List.getElem_cons_succ, List.getElem_cons_zero]
          rw [if_pos (by kernel_rfl)]
          refine wp_append_lies _ (.tmp 22) (.tmp 44) 45 ?qa2 W1.heap.size 22 j0 (.slice none 0 0) 1 24 Try.underlying45 hj0 hj1 hj2 hj3 rfl (by decide) (.slice (some ⟨g1, 0, none⟩) k c') k us ?qa3 ?qa4 ⟨wr.heap.size + 1 + 1, 0, none⟩ 2 2 [.slice (some ⟨wr.heap.size, 0, none⟩) 2 2, .slice (some ⟨wr.heap.size + 1, 0, none⟩) 2 2] ?qa5 rfl ?qa6 ?qa7 (by decide) ?qa8 ?qa9 ?qa10 _ rfl ?qa11
          case qa2 => rfl
          case qa3 => rfl
          case qa5 => rfl
          case qa4 => exact World.ownsRow.alloc (World.ownsRow.alloc (World.ownsRow.alloc HROW.out.1 _) _) _
          case qa6 => exact news3 wr _ _ [.slice (some ⟨wr.heap.size, 0, none⟩) 2 2, .slice (some ⟨wr.heap.size + 1, 0, none⟩) 2 2] rfl
          case qa7 => simp [Value.oneCell']
          case qa8 => simp only [maxLen]; omega
          case qa9 => omega
          case qa10 => show W1.heap.size ≤ (World.alloc (World.alloc (World.alloc wr (.cells #[.int .i64 (d1.tdiv d0 * x), .int .i64 1] 2)) (.cells #[.int .i64 x, .int .i64 (-1)] 2)) (.cells #[.slice (some ⟨wr.heap.size, 0, none⟩) 2 2, .slice (some ⟨wr.heap.size + 1, 0, none⟩) 2 2] 22)).heap.size; rw [hz3]; omega
          intro g2 cap2 w3 hown3 hgrow3 hg3 hlt3
          have hgr4 : (World.alloc (World.alloc (World.alloc wr (.cells #[.int .i64 (d1.tdiv d0 * x), .int .i64 1] 2)) (.cells #[.int .i64 x, .int .i64 (-1)] 2)) (.cells #[.slice (some ⟨wr.heap.size, 0, none⟩) 2 2, .slice (some ⟨wr.heap.size + 1, 0, none⟩) 2 2] 22)).grownBy w3 (Value.slice (some ⟨g1, 0, none⟩) k c').ownBlock := ⟨hgrow3.os, hgrow3.tape, hgrow3.output, hgrow3.size, hgrow3.block⟩
          have HQ3 := Lib.hid (rows_push22 HROW.out hL.out hlow rfl (d1.tdiv d0 * x) 1 x (-1) hown3 hgr4 hg3 hlt3)
          have HB3 := Lib.hid ((((hb.out.alloc hlow _).alloc (by rw [hz1]; omega) _).alloc (by rw [hz2]; omega) _).grown hgr4 (by rw [hz3]; omega) (fun k hk => (World.ownsRow.lt HROW.out.1 k hk).1))
          have hnd : some d ≠ (Value.slice (some ⟨g1, 0, none⟩) k c').ownBlock := by simp [Value.ownBlock]; omega
          have hng : some gg ≠ (Value.slice (some ⟨g1, 0, none⟩) k c').ownBlock := by simp [Value.ownBlock]; omega
          have hkb := fun (lo hi : Nat) (h : hi ≤ wr.heap.size) => ((kept_box wr (.cells #[.int .i64 (d1.tdiv d0 * x), .int .i64 1] 2) lo hi h).trans (kept_box (World.alloc wr (.cells #[.int .i64 (d1.tdiv d0 * x), .int .i64 1] 2)) (.cells #[.int .i64 x, .int .i64 (-1)] 2) lo hi (by rw [hz1]; omega))).trans (kept_box (World.alloc (World.alloc wr (.cells #[.int .i64 (d1.tdiv d0 * x), .int .i64 1] 2)) (.cells #[.int .i64 x, .int .i64 (-1)] 2)) (.cells #[.slice (some ⟨wr.heap.size, 0, none⟩) 2 2, .slice (some ⟨wr.heap.size + 1, 0, none⟩) 2 2] 22) lo hi (by rw [hz2]; omega))
          have HD3 := Lib.hid (hod.out.kept (kept_grown2 (hkb d (d + 1) (by omega)) hgr4 (by rw [hz3]; omega) (kept_one hnd)))
          have HG3 := Lib.hid (hog.out.kept (kept_grown2 (hkb gg (gg + 1) (by omega)) hgr4 (by rw [hz3]; omega) (kept_one hng)))
          have hg2n : g2 ≠ d ∧ g2 ≠ gg := by rcases hg3 with h | h; (simp [Value.ownBlock] at h; omega); (have h9 : g2 = wr.heap.size + 3 := h.trans hz3); omega
          have s4 : w3.cell? ⟨d, i - 1, none⟩ = some (.int .i64 d1) ∧ w3.cell? ⟨d, i, none⟩ = some (.int .i64 d0) ∧ w3.cell? ⟨gg, i, none⟩ = some (.int .i64 x) := ⟨(hgr4.cell_far ⟨d, i - 1, none⟩ (by rw [hz3]; show d < _; omega) hnd).trans s3.1, (hgr4.cell_far ⟨d, i, none⟩ (by rw [hz3]; show d < _; omega) hnd).trans s3.2.1, (hgr4.cell_far ⟨gg, i, none⟩ (by rw [hz3]; show gg < _; omega) hng).trans s3.2.2⟩
          refine hK.out _ _ s4 (fun hHeld => ?_)
          clear hK K hown3 hgrow3 hg3 hlt3 hgr4 hkb
          try simp only [Act.put, List.setIfInBounds_toArray, List.set_cons_zero, List.set_cons_succ]
          refine takeY 24 _ (v := ?_) rfl rfl (by kernel_rfl) (by kernel_rfl) (by kernel_rfl) (fun _ _ _ h => h) (by kernel_rfl) ?_ (by assumption) ?_
          rotate_left 1
          · intro w hSw; (try dsimp only at hSw); go_simp; (try with_reducible rfl)
          try simp only [Act.put, List.setIfInBounds_toArray, List.set_cons_zero, List.set_cons_succ]
          refine wpAnyH_done (by kernel_rfl) ?_ _
          go_wp2_with fail
          go_roundw
          case rel => exact ⟨i + 1, j + 1, k + 2, _, g2, some ⟨g2, 0, none⟩, cap2, by omega, by have := HIJ.out; omega, by have := HKJ.out; omega, rfl, by go_num, rfl, Lib.hid (by rw [List.length_append, hL.out]; rfl), Lib.hid (by rw [HST.out, hLn.out]), HQ3, by have := HB3.out.size; omega, hg2n, HD3, HG3, HB3⟩
          case measure => simp [intOf]; omega
        · go_simp
          have s1 : (World.alloc wr (.cells #[.int .i64 x, .int .i64 (-1)] 2)).cell? ⟨d, i - 1, none⟩ = some (.int .i64 d1) ∧ (World.alloc wr (.cells #[.int .i64 x, .int .i64 (-1)] 2)).cell? ⟨d, i, none⟩ = some (.int .i64 d0) ∧ (World.alloc wr (.cells #[.int .i64 x, .int .i64 (-1)] 2)).cell? ⟨gg, i, none⟩ = some (.int .i64 x) := ⟨((below_box wr _).cell (p := ⟨d, i - 1, none⟩) hlgd).trans cd1, ((below_box wr _).cell (p := ⟨d, i, none⟩) hlgd).trans cd0, ((below_box wr _).cell (p := ⟨gg, i, none⟩) hlgg).trans cx⟩
          have hz1 : (World.alloc wr (.cells #[.int .i64 x, .int .i64 (-1)] 2)).heap.size = wr.heap.size + 1 := by simp
          refine hK.out _ (_) s1 (fun hHeld => ?_)
          clear hK K
          try simp only [Act.put, List.setIfInBounds_toArray, List.set_cons_zero, List.set_cons_succ]
          refine wpAnyH_ready (rs := [16]) (by kernel_rfl) (by simp) ?_
          refine AllReadyH.cons rfl (fun K hK => ?_) AllReadyH.nil
          go_simp
          have s2 : (World.alloc (World.alloc wr (.cells #[.int .i64 x, .int .i64 (-1)] 2)) (.cells #[.int .i64 (d1.tdiv d0 * x), .int .i64 1] 2)).cell? ⟨d, i - 1, none⟩ = some (.int .i64 d1) ∧ (World.alloc (World.alloc wr (.cells #[.int .i64 x, .int .i64 (-1)] 2)) (.cells #[.int .i64 (d1.tdiv d0 * x), .int .i64 1] 2)).cell? ⟨d, i, none⟩ = some (.int .i64 d0) ∧ (World.alloc (World.alloc wr (.cells #[.int .i64 x, .int .i64 (-1)] 2)) (.cells #[.int .i64 (d1.tdiv d0 * x), .int .i64 1] 2)).cell? ⟨gg, i, none⟩ = some (.int .i64 x) := ⟨((below_box (World.alloc wr (.cells #[.int .i64 x, .int .i64 (-1)] 2)) _).cell (p := ⟨d, i - 1, none⟩) (by rw [hz1]; show d < _; omega)).trans s1.1, ((below_box (World.alloc wr (.cells #[.int .i64 x, .int .i64 (-1)] 2)) _).cell (p := ⟨d, i, none⟩) (by rw [hz1]; show d < _; omega)).trans s1.2.1, ((below_box (World.alloc wr (.cells #[.int .i64 x, .int .i64 (-1)] 2)) _).cell (p := ⟨gg, i, none⟩) (by rw [hz1]; show gg < _; omega)).trans s1.2.2⟩
          have hz2 : (World.alloc (World.alloc wr (.cells #[.int .i64 x, .int .i64 (-1)] 2)) (.cells #[.int .i64 (d1.tdiv d0 * x), .int .i64 1] 2)).heap.size = wr.heap.size + 2 := by simp
          refine hK.out _ (_) s2 (fun hHeld => ?_)
          clear hK K
          try simp only [Act.put, List.setIfInBounds_toArray, List.set_cons_zero, List.set_cons_succ]
          refine wpAnyH_ready (rs := [22]) (by kernel_rfl) (by simp) ?_
          refine AllReadyH.cons rfl (fun K hK => ?_) AllReadyH.nil
          go_simp
          have s3 : (World.alloc (World.alloc (World.alloc wr (.cells #[.int .i64 x, .int .i64 (-1)] 2)) (.cells #[.int .i64 (d1.tdiv d0 * x), .int .i64 1] 2)) (.cells #[.slice (some ⟨wr.heap.size + 1, 0, none⟩) 2 2, .slice (some ⟨wr.heap.size, 0, none⟩) 2 2] 22)).cell? ⟨d, i - 1, none⟩ = some (.int .i64 d1) ∧ (World.alloc (World.alloc (World.alloc wr (.cells #[.int .i64 x, .int .i64 (-1)] 2)) (.cells #[.int .i64 (d1.tdiv d0 * x), .int .i64 1] 2)) (.cells #[.slice (some ⟨wr.heap.size + 1, 0, none⟩) 2 2, .slice (some ⟨wr.heap.size, 0, none⟩) 2 2] 22)).cell? ⟨d, i, none⟩ = some (.int .i64 d0) ∧ (World.alloc (World.alloc (World.alloc wr (.cells #[.int .i64 x, .int .i64 (-1)] 2)) (.cells #[.int .i64 (d1.tdiv d0 * x), .int .i64 1] 2)) (.cells #[.slice (some ⟨wr.heap.size + 1, 0, none⟩) 2 2, .slice (some ⟨wr.heap.size, 0, none⟩) 2 2] 22)).cell? ⟨gg, i, none⟩ = some (.int .i64 x) := ⟨((below_box (World.alloc (World.alloc wr (.cells #[.int .i64 x, .int .i64 (-1)] 2)) (.cells #[.int .i64 (d1.tdiv d0 * x), .int .i64 1] 2)) _).cell (p := ⟨d, i - 1, none⟩) (by rw [hz2]; show d < _; omega)).trans s2.1, ((below_box (World.alloc (World.alloc wr (.cells #[.int .i64 x, .int .i64 (-1)] 2)) (.cells #[.int .i64 (d1.tdiv d0 * x), .int .i64 1] 2)) _).cell (p := ⟨d, i, none⟩) (by rw [hz2]; show d < _; omega)).trans s2.2.1, ((below_box (World.alloc (World.alloc wr (.cells #[.int .i64 x, .int .i64 (-1)] 2)) (.cells #[.int .i64 (d1.tdiv d0 * x), .int .i64 1] 2)) _).cell (p := ⟨gg, i, none⟩) (by rw [hz2]; show gg < _; omega)).trans s2.2.2⟩
          have hz3 : (World.alloc (World.alloc (World.alloc wr (.cells #[.int .i64 x, .int .i64 (-1)] 2)) (.cells #[.int .i64 (d1.tdiv d0 * x), .int .i64 1] 2)) (.cells #[.slice (some ⟨wr.heap.size + 1, 0, none⟩) 2 2, .slice (some ⟨wr.heap.size, 0, none⟩) 2 2] 22)).heap.size = wr.heap.size + 3 := by simp
          refine hK.out _ (_) s3 (fun hHeld => ?_)
          clear hK K
          try simp only [Act.put, List.setIfInBounds_toArray, List.set_cons_zero, List.set_cons_succ]
          refine wpAnyH_ready (rs := [23]) (by kernel_rfl) (by simp) ?_
          refine AllReadyH.cons rfl (fun K hK => ?_) AllReadyH.nil
          try simp only [List.getElem_toArray, List.getElem_cons_succ, List.getElem_cons_zero]
          rw [if_pos (by kernel_rfl)]
          refine wp_append_lies _ (.tmp 22) (.tmp 44) 45 ?qb2 W1.heap.size 22 j0 (.slice none 0 0) 1 24 Try.underlying45 hj0 hj1 hj2 hj3 rfl (by decide) (.slice (some ⟨g1, 0, none⟩) k c') k us ?qb3 ?qb4 ⟨wr.heap.size + 1 + 1, 0, none⟩ 2 2 [.slice (some ⟨wr.heap.size + 1, 0, none⟩) 2 2, .slice (some ⟨wr.heap.size, 0, none⟩) 2 2] ?qb5 rfl ?qb6 ?qb7 (by decide) ?qb8 ?qb9 ?qb10 _ rfl ?qb11
          case qb2 => rfl
          case qb3 => rfl
          case qb5 => rfl
          case qb4 => exact World.ownsRow.alloc (World.ownsRow.alloc (World.ownsRow.alloc HROW.out.1 _) _) _
          case qb6 => exact news3 wr _ _ [.slice (some ⟨wr.heap.size + 1, 0, none⟩) 2 2, .slice (some ⟨wr.heap.size, 0, none⟩) 2 2] rfl
          case qb7 => simp [Value.oneCell']
          case qb8 => simp only [maxLen]; omega
          case qb9 => omega
          case qb10 => show W1.heap.size ≤ (World.alloc (World.alloc (World.alloc wr (.cells #[.int .i64 x, .int .i64 (-1)] 2)) (.cells #[.int .i64 (d1.tdiv d0 * x), .int .i64 1] 2)) (.cells #[.slice (some ⟨wr.heap.size + 1, 0, none⟩) 2 2, .slice (some ⟨wr.heap.size, 0, none⟩) 2 2] 22)).heap.size; rw [hz3]; omega
          intro g2 cap2 w3 hown3 hgrow3 hg3 hlt3
          have hgr4 : (World.alloc (World.alloc (World.alloc wr (.cells #[.int .i64 x, .int .i64 (-1)] 2)) (.cells #[.int .i64 (d1.tdiv d0 * x), .int .i64 1] 2)) (.cells #[.slice (some ⟨wr.heap.size + 1, 0, none⟩) 2 2, .slice (some ⟨wr.heap.size, 0, none⟩) 2 2] 22)).grownBy w3 (Value.slice (some ⟨g1, 0, none⟩) k c').ownBlock := ⟨hgrow3.os, hgrow3.tape, hgrow3.output, hgrow3.size, hgrow3.block⟩
          have HQ3 := Lib.hid (rows_push22' HROW.out hL.out hlow rfl (d1.tdiv d0 * x) 1 x (-1) hown3 hgr4 hg3 hlt3)
          have HB3 := Lib.hid ((((hb.out.alloc hlow _).alloc (by rw [hz1]; omega) _).alloc (by rw [hz2]; omega) _).grown hgr4 (by rw [hz3]; omega) (fun k hk => (World.ownsRow.lt HROW.out.1 k hk).1))
          have hnd : some d ≠ (Value.slice (some ⟨g1, 0, none⟩) k c').ownBlock := by simp [Value.ownBlock]; omega
          have hng : some gg ≠ (Value.slice (some ⟨g1, 0, none⟩) k c').ownBlock := by simp [Value.ownBlock]; omega
          have hkb := fun (lo hi : Nat) (h : hi ≤ wr.heap.size) => ((kept_box wr (.cells #[.int .i64 x, .int .i64 (-1)] 2) lo hi h).trans (kept_box (World.alloc wr (.cells #[.int .i64 x, .int .i64 (-1)] 2)) (.cells #[.int .i64 (d1.tdiv d0 * x), .int .i64 1] 2) lo hi (by rw [hz1]; omega))).trans (kept_box (World.alloc (World.alloc wr (.cells #[.int .i64 x, .int .i64 (-1)] 2)) (.cells #[.int .i64 (d1.tdiv d0 * x), .int .i64 1] 2)) (.cells #[.slice (some ⟨wr.heap.size + 1, 0, none⟩) 2 2, .slice (some ⟨wr.heap.size, 0, none⟩) 2 2] 22) lo hi (by rw [hz2]; omega))
          have HD3 := Lib.hid (hod.out.kept (kept_grown2 (hkb d (d + 1) (by omega)) hgr4 (by rw [hz3]; omega) (kept_one hnd)))
          have HG3 := Lib.hid (hog.out.kept (kept_grown2 (hkb gg (gg + 1) (by omega)) hgr4 (by rw [hz3]; omega) (kept_one hng)))
          have hg2n : g2 ≠ d ∧ g2 ≠ gg := by rcases hg3 with h | h; (simp [Value.ownBlock] at h; omega); (have h9 : g2 = wr.heap.size + 3 := h.trans hz3); omega
          have s4 : w3.cell? ⟨d, i - 1, none⟩ = some (.int .i64 d1) ∧ w3.cell? ⟨d, i, none⟩ = some (.int .i64 d0) ∧ w3.cell? ⟨gg, i, none⟩ = some (.int .i64 x) := ⟨(hgr4.cell_far ⟨d, i - 1, none⟩ (by rw [hz3]; show d < _; omega) hnd).trans s3.1, (hgr4.cell_far ⟨d, i, none⟩ (by rw [hz3]; show d < _; omega) hnd).trans s3.2.1, (hgr4.cell_far ⟨gg, i, none⟩ (by rw [hz3]; show gg < _; omega) hng).trans s3.2.2⟩
          refine hK.out _ _ s4 (fun hHeld => ?_)
          clear hK K hown3 hgrow3 hg3 hlt3 hgr4 hkb
          try simp only [Act.put, List.setIfInBounds_toArray, List.set_cons_zero, List.set_cons_succ]
          refine takeY 24 _ (v := ?_) rfl rfl (by kernel_rfl) (by kernel_rfl) (by kernel_rfl) (fun _ _ _ h => h) (by kernel_rfl) ?_ (by assumption) ?_
          rotate_left 1
          · intro w hSw; (try dsimp only at hSw); go_simp; (try with_reducible rfl)
          try simp only [Act.put, List.setIfInBounds_toArray, List.set_cons_zero, List.set_cons_succ]
          refine wpAnyH_done (by kernel_rfl) ?_ _
          go_wp2_with fail
          go_roundw
          case rel => exact ⟨i + 1, j + 1, k + 2, _, g2, some ⟨g2, 0, none⟩, cap2, by omega, by have := HIJ.out; omega, by have := HKJ.out; omega, rfl, by go_num, rfl, Lib.hid (by rw [List.length_append, hL.out]; rfl), Lib.hid (by rw [HST.out, hLn.out]), HQ3, by have := HB3.out.size; omega, hg2n, HD3, HG3, HB3⟩
          case measure => simp [intOf]; omega
      · obtain rfl : i = n := by omega
        by_cases h1 : i = 1
        · have hj : j = 0 := by omega
          have E := Lib.hid (sb_one HP.out (by rw [HL.out]; exact h1))
          have E2 : Hid (L = sbA zs) := Lib.hid (by rw [E.out.1, hLn.out, hj]; rfl)
          have hi1 : (i : Int) = 1 := by omega
          have ht1 : ¬ (1 : Int) < (i : Int) := by omega
          have hq2 := hq
          clear hrows hij hkj h1 hj
          go_wp2_with fail
          go_ret2
          have hl9 : w.heap.size ≤ W1.heap.size := by omega
          exact ansQ_end E2.out (by rw [E.out.2]) (ownQ_less hq2.out hl9) (B1.out.trans (hb.out.mono (by omega)))
        · have E := Lib.hid (sb_more HP.out (by rw [HL.out]; exact h1))
          have hnj : zs.length - 1 = j := by have := HL.out; omega
          have E1 : Hid (L ++ [[zs[0]?.getD 0, -1], [1, 1]] = sbA zs) := Lib.hid (by rw [E.out.1, hLn.out, hnj])
          obtain ⟨gg', e3, _, _, hx, _⟩ := own_at hog.out HLG.out hn0
          cases e3
          rw [HG0.out] at hx
          have hzf := HZF.out
          obtain ⟨z0, hz00⟩ : ∃ z, zs[0]?.getD 0 = z := ⟨_, rfl⟩
          rw [hz00] at hx E1 hzf
          have hi1 : (1 : Int) < (i : Int) := by omega
          have hi0 : (0 : Int) < (i : Int) := by omega
          have hloX := hlow
          have HBX := hb
          obtain ⟨lo, hlo⟩ : ∃ lo, lo = W1.heap.size := ⟨_, rfl⟩
          have HLO := Lib.hid hlo
          rw [← hlo] at HROW HBX hloX
          clear hrows hij hkj h1 hnj hz00 hlo
          go_wp2_with (at_builtin; go_loud (refine Go.wpList_append_lies _ rfl _ _ 45 rfl lo 22 j0 (.slice none 0 0) 1 24 Try.underlying45 hj0 hj1 hj2 hj3 rfl (by decide) _ (k) us rfl (World.ownsRow.alloc (World.ownsRow.alloc (World.ownsRow.alloc HROW.out.1 _) _) _) ⟨wr.heap.size + 1 + 1, 0, none⟩ 2 2 [.slice (some ⟨wr.heap.size, 0, none⟩) 2 2, .slice (some ⟨wr.heap.size + 1, 0, none⟩) 2 2] rfl rfl (news3 wr _ _ _ rfl) (by simp [Value.oneCell']) (by decide) (by simp only [maxLen]; omega) (by omega) (by simp; omega) _ rfl ?_; intro g2 cap2 w3 hown3 hgrow3 hg3 hlt3; (have HQ3 := Lib.hid (rows_push22 HROW.out hL.out hloX rfl z0 (-1) 1 1 hown3 hgrow3 hg3 hlt3)); (have HB3 := Lib.hid ((((HBX.out.alloc hloX _).alloc (by (simp; omega)) _).alloc (by (simp; omega)) _).grown hgrow3 (by (simp; omega)) (fun k hk => (World.ownsRow.lt HROW.out.1 k hk).1))); clear hown3 hgrow3 hg3 hlt3))
          go_ret2
          have hq9 := HQ3.out
          have hb9 := HB3.out
          have hl9 : w.heap.size ≤ lo := by have := HLO.out; omega
          rw [HLO.out] at hq9 hb9 hl9
          exact ansQ_end E1.out (by rw [E.out.2]) (ownQ_less hq9 hl9) (B1.out.trans (hb9.mono hl9))
end Go.Proofs.Ytaigcmhfhdapdaa
