/- AperyOf, the model's and the program's: contracts. Conditions: stated at each theorem. -/
import Derived.Test.YtncgkoanckefmaaApD
import Derived.Test.YtncgkoanckefmaaApI
import Derived.Test.YtncgkoanckefmaaRpS
namespace Go.Proofs.Ytncgkoanckefmaa
open Go.ChangeShapes Go.WideShapes Go.ChangeAt Go.RowKit Go.Deep
set_option linter.unusedVariables false
set_option linter.unusedSimpArgs false

def apoA (zs : List Int) : List Int := if brB zs then apL zs else []
theorem apoA_len {zs : List Int} (h : zs.length ≤ 1048576) : (apoA zs).length ≤ 1099511627776 := by
  unfold apoA
  split
  · rename_i hp
    have := dvA_pos hp (i := 0) (brB_pos hp)
    rw [apL_len]; omega
  · simp
set_option maxRecDepth 100000 in
set_option maxHeartbeats 4000000 in
theorem specAperyOf_any (v : Value) (zs : List Int) (w : World) (h : ReadI w w.heap.size v zs) (hn : zs.length ≤ 1048576) (hw : ∀ z ∈ zs, (Lit.int .i64 z).wf = true) :
    Calls Try.prog 28 #[.agg #[v]] w (AnsIC w (apoA zs) (goC zs)) := by
  have HWW := Lib.hid hw
  have HN0 := Lib.hid hn
  rcases bool_fs (brB zs) with hp | hp
  · have HP := Lib.hid hp
    obtain ⟨n, A, c, rfl, hr, HL, _, hnc, HF, hcm⟩ := h.split2
    obtain ⟨W0, HE⟩ : ∃ W, W = w.alloc (.cells #[.slice A n c] 28) := ⟨_, rfl⟩
    have hb0 : Below w.heap.size w W0 := by rw [HE]; exact below_box _ _
    have H0 := Lib.hid ((h.below hb0).more hb0.size)
    have HEQ := Lib.hid HE
    clear h hr HE HF hn hw hp
    go_enter Try.func28, Try.ntmps28
    go_wp2_with fail
    rw [← HEQ.out]
    refine (l03Is_if _ zs _ false H0.out HN0.out HWW.out HP.out).mono ?_
    rintro e w1 ⟨rfl, hb1⟩
    go_wp2_with fail
    go_ret2
    exact AnsIC.empty (by rw [apoA, HP.out]; rfl) (by rw [goC, HP.out]; rfl) (hb0.trans (hb1.mono hb0.size))
  have HP := Lib.hid hp
  obtain ⟨n, A, c, rfl, hr, HL, _, hnc, HF, hcm⟩ := h.split2
  have hn0 : 0 < n := by have := brB_pos hp; rw [HL.out] at this; exact this
  have HN1 := Lib.hid hn
  rw [HL.out] at hn
  obtain ⟨a, rfl, hlt, hc0⟩ := hr.2 0 hn0
  obtain ⟨g, o, rfl⟩ := HF.out a rfl
  have hgw : g < w.heap.size := hlt
  obtain ⟨W0, HE⟩ : ∃ W, W = w.alloc (.cells #[.slice (some ⟨g, o, none⟩) n c] 28) := ⟨_, rfl⟩
  have hb0 : Below w.heap.size w W0 := by rw [HE]; exact below_box2 _ _
  have hq0 : BoxI W0 w.heap.size (.slice (some ⟨g, o, none⟩) n c) := by rw [HE]; exact BoxI.new _ _ _
  have hs0 : w.heap.size < W0.heap.size := hq0.2
  have HR := Lib.hid ((h.below hb0).more hb0.size)
  have B0 := Lib.hid hb0
  have HEQ := Lib.hid HE
  have q0 := hq0.1
  have Q0 := Lib.hid q0
  obtain ⟨N, hN⟩ : ∃ N : Nat, zs[0]?.getD 0 = (N : Int) := ⟨(zs[0]?.getD 0).toNat, by have := br_first hp; omega⟩
  have CZ : Hid (w.cell? ⟨g, o, none⟩ = some (.int .i64 (N : Int))) := Lib.hid (by
    have h2 : (⟨g, o, none⟩ : Addr).add 0 = ⟨g, o, none⟩ := by rw [add_lit]; rfl
    rw [h2] at hc0; rw [hc0, ← hN]; simp)
  have HLG : Hid ((gnB zs).length = n) := Lib.hid (by rw [gnB_len, HL.out])
  have HLD : Hid ((dvL 0 zs).length = n) := Lib.hid (by rw [dvL_len, HL.out])
  obtain ⟨m, rfl⟩ : ∃ m, n = m + 1 := ⟨n - 1, by omega⟩
  have hNb := br_first hp
  rw [hN] at hNb
  have HNN : Hid ((N : Int) = dvA zs 0) := Lib.hid (by rw [dvA_first hp, hN])
  have HLM : Hid (zs.length - 1 = m) := Lib.hid (by have := HL.out; omega)
  clear h hr hp hb0 hq0 HE hc0 hlt hw hN
  go_enter Try.func28, Try.ntmps28
  go_wp2_with fail
  rw [← HEQ.out]
  refine (l03Is_if _ zs _ true HR.out HN1.out HWW.out HP.out).mono ?_
  rintro e W1 ⟨rfl, hb1⟩
  have hs1 := hb1.size
  have q1 := (hb1.cell (p := ⟨w.heap.size, 0, none⟩) hs0).trans Q0.out
  have cz := ((hb1.cell (p := ⟨g, o, none⟩) (by show g < _; omega)).trans (B0.out.cell (p := ⟨g, o, none⟩) hgw)).trans CZ.out
  have HR1 := Lib.hid ((HR.out.below hb1).more hs1)
  have B1 := Lib.hid (B0.out.trans (hb1.mono (by omega)))
  have hw1 : w.heap.size < W1.heap.size := by omega
  have hgW1 : g < W1.heap.size := by omega
  clear hb1 q0
  go_upto_region 3 with fail
  go_cut [4, 5, 6] (fun s4 s5 s6 wx => Hid (TwoCut W1 (dvL 0 zs) (gnB zs) (m + 1) wx s4 s5 ∧ s6 = .int .i64 (N : Int)))
  case first =>
    refine wp_region_held_drew (S := fun w' => w'.cell? ⟨w.heap.size, 0, none⟩ = some (.slice (some ⟨g, o, none⟩) (m + 1) c) ∧ w'.cell? ⟨g, o, none⟩ = some (.int .i64 (N : Int))) (by kernel_rfl) ⟨q1, cz⟩ (fun hHeld => ?_)
    refine takeY 0 _ (v := ?_) rfl rfl (by kernel_rfl) (by kernel_rfl) (by kernel_rfl) (fun _ _ _ h => h) (by kernel_rfl) ?_ (by assumption) ?_
    rotate_left 1
    · intro w hSw; (try dsimp only at hSw); go_simp; (try with_reducible rfl)
    try simp only [Act.put, List.setIfInBounds_toArray, List.set_cons_zero, List.set_cons_succ]
    refine takeY 2 _ (v := ?_) rfl rfl (by kernel_rfl) (by kernel_rfl) (by kernel_rfl) (fun _ _ _ h => h) (by kernel_rfl) ?_ (by assumption) ?_
    rotate_left 1
    · intro w hSw; (try dsimp only at hSw); go_simp; (try with_reducible rfl)
    try simp only [Act.put, List.setIfInBounds_toArray, List.set_cons_zero, List.set_cons_succ]
    refine takeY 4 _ (v := ?_) rfl rfl (by kernel_rfl) (by kernel_rfl) (by kernel_rfl) (fun _ _ _ h => h) (by kernel_rfl) ?_ (by assumption) ?_
    rotate_left 1
    · intro w hSw; (try dsimp only at hSw); go_simp; (try with_reducible rfl)
    try simp only [Act.put, List.setIfInBounds_toArray, List.set_cons_zero, List.set_cons_succ]
    refine takeY 5 _ (v := ?_) rfl rfl (by kernel_rfl) (by kernel_rfl) (by kernel_rfl) (fun _ _ _ h => h) (by kernel_rfl) ?_ (by assumption) ?_
    rotate_left 1
    · intro w hSw; (try dsimp only at hSw); go_simp; (try with_reducible rfl)
    try simp only [Act.put, List.setIfInBounds_toArray, List.set_cons_zero, List.set_cons_succ]
    refine takeY 6 _ (v := ?_) rfl rfl (by kernel_rfl) (by kernel_rfl) (by kernel_rfl) (fun _ _ _ h => h) (by kernel_rfl) ?_ (by assumption) ?_
    rotate_left 1
    · intro w hSw; (try dsimp only at hSw); go_simp; (try with_reducible rfl)
    try simp only [Act.put, List.setIfInBounds_toArray, List.set_cons_zero, List.set_cons_succ]
    refine takeY 7 _ (v := ?_) rfl rfl (by kernel_rfl) (by kernel_rfl) (by kernel_rfl) (fun _ _ _ h => h) (by kernel_rfl) ?_ (by assumption) ?_
    rotate_left 1
    · intro w hSw; (try dsimp only at hSw); go_simp; (try with_reducible rfl)
    try simp only [Act.put, List.setIfInBounds_toArray, List.set_cons_zero, List.set_cons_succ]
    refine wpAnyH_ready (rs := [1]) (by kernel_rfl) (by simp) ?_
    refine AllReadyH.cons rfl (fun K hK => ?_) AllReadyH.nil
    go_simp
    refine (l03Divisors_any _ zs W1.drew HR1.out HN1.out HP.out).mono ?_
    rintro e W2 ⟨v1, rfl, ho1, hb2⟩
    replace hb2 : Below W1.heap.size W1 W2 := ⟨hb2.os, hb2.tape, hb2.output, hb2.size, hb2.block⟩
    obtain ⟨A1, c1, rfl⟩ := ho1.form HLD.out
    obtain ⟨d, e1, hd1, hd2, _, _⟩ := own_at ho1 HLD.out hn0
    cases e1
    have hs2 := hb2.size
    change W1.heap.size ≤ d at hd1
    have q2 := (hb2.cell (p := ⟨w.heap.size, 0, none⟩) hw1).trans q1
    have cz2 := (hb2.cell (p := ⟨g, o, none⟩) hgW1).trans cz
    refine hK.out _ (W2) ⟨q2, cz2⟩ (fun hHeld => ?_)
    clear hK K
    try simp only [Act.put, List.setIfInBounds_toArray, List.set_cons_zero, List.set_cons_succ]
    refine wpAnyH_ready (rs := [3]) (by kernel_rfl) (by simp) ?_
    refine AllReadyH.cons rfl (fun K hK => ?_) AllReadyH.nil
    go_simp
    refine (l05Generators_any _ zs W2 ((HR1.out.below hb2).more hs2) HN1.out HP.out).mono ?_
    rintro e W3 ⟨v2, rfl, ho2, hb3⟩
    obtain ⟨A2, c2, rfl⟩ := ho2.form HLG.out
    obtain ⟨gg, e2, hd3, hd4, _, _⟩ := own_at ho2 HLG.out hn0
    cases e2
    have q3 := (hb3.cell (p := ⟨w.heap.size, 0, none⟩) (by show w.heap.size < _; omega)).trans q2
    have cz3 := (hb3.cell (p := ⟨g, o, none⟩) (by show g < _; omega)).trans cz2
    refine hK.out _ (W3) ⟨q3, cz3⟩ (fun hHeld => ?_)
    clear hK K
    try simp only [Act.put, List.setIfInBounds_toArray, List.set_cons_zero, List.set_cons_succ]
    refine takeY 8 _ (v := ?_) rfl rfl (by kernel_rfl) (by kernel_rfl) (by kernel_rfl) (fun _ _ _ h => h) (by kernel_rfl) ?_ (by assumption) ?_
    rotate_left 1
    · intro w hSw; (try dsimp only at hSw); go_simp; (try with_reducible rfl)
    try simp only [Act.put, List.setIfInBounds_toArray, List.set_cons_zero, List.set_cons_succ]
    refine takeY 9 _ (v := ?_) rfl rfl (by kernel_rfl) (by kernel_rfl) (by kernel_rfl) (fun _ _ _ h => h) (by kernel_rfl) ?_ (by assumption) ?_
    rotate_left 1
    · intro w hSw; (try dsimp only at hSw); go_simp; (try with_reducible rfl)
    try simp only [Act.put, List.setIfInBounds_toArray, List.set_cons_zero, List.set_cons_succ]
    refine takeY 10 _ (v := ?_) rfl rfl (by kernel_rfl) (by kernel_rfl) (by kernel_rfl) (fun _ _ _ h => h) (by kernel_rfl) ?_ (by assumption) ?_
    rotate_left 1
    · intro w hSw; (try dsimp only at hSw); go_simp; (try with_reducible rfl)
    try simp only [Act.put, List.setIfInBounds_toArray, List.set_cons_zero, List.set_cons_succ]
    refine wpAnyH_done (by kernel_rfl) ?_ _
    go_wp2_with fail
    go_meet
    exact Lib.hid ⟨two_cut (n := m + 1) (own_tight ho1 hd2) (own_tight ho2 hd4) (by omega) (hb2.trans (hb3.mono hs2)) hb3 hd2, rfl⟩
  case rest =>
    obtain ⟨⟨d, gg, c1, c2, rfl, rfl, hod, hog, hdg, hbw⟩, rfl⟩ := hcut.out
    have hdw : d < wc.heap.size := hod.2.2
    have hggw : gg < wc.heap.size := hog.2.2
    have hsw := hbw.size
    have hmk := fun (W : World) => run_make_row' (P := Try.prog) 22 2 (.int .i64 0) 8 Try.underlying22 int_info rfl .i64 .i64 N (by omega) (by omega) W
    have hbC : Below wc.heap.size wc (wc.alloc (.cells (madeCells #[.int .i64 0] N) 2)) := below_box2 _ _
    have ROW0 : Hid ((wc.alloc (.cells (madeCells #[.int .i64 0] N) 2)).rowIs wc.heap.size 2 N (fun y => .int .i64 (outF zs 0 y))) := Lib.hid ((World.rowIs_made wc _ N _).congr (fun i hi => rfl))
    have hsC : (wc.alloc (.cells (madeCells #[.int .i64 0] N) 2)).heap.size = wc.heap.size + 1 := by simp
    clear q1 cz
    go_wp2_with fail
    clear hmk
    generalize wc.alloc (.cells (madeCells #[.int .i64 0] N) 2) = WC at *
    have OD := Lib.hid (hod.kept (Kept.of_below hbC (by omega)))
    have OG := Lib.hid (hog.kept (Kept.of_below hbC (by omega)))
    have BC := Lib.hid (B1.out.trans ((hbw.trans (hbC.mono hsw)).mono (by omega)))
    have HB0 : Hid (Below wc.heap.size WC WC) := Lib.hid (Below.refl _ _)
    have hsw2 : w.heap.size < wc.heap.size := by omega
    clear hod hog hbw hbC hcut
    have hNz : ((N : Int) == 0) = false := by simp; omega
    have hNz2 : ¬ (N : Int) = 0 := by omega
    go_loopw [8] (fun vk wr => ∃ k : Nat, k ≤ N ∧ vk = .int .i64 k ∧ Hid (wr.rowIs wc.heap.size 2 N (fun y => .int .i64 (outF zs k y))) ∧ Hid (Below wc.heap.size WC wr)) (fun vk _ => N - (intOf vk).toNat)
    case atStart => exact ⟨0, Nat.zero_le _, rfl, ROW0, HB0⟩
    case round =>
      clear ROW0 HB0
      obtain ⟨k, hk, rfl, hrow, hb⟩ := hrel
      by_cases hkN : k < N
      · have hki : (k : Int) < (N : Int) := by omega
        have HROW := hrow
        have HB := hb
        have HRG := Lib.hid (fun (i : Nat) (hi : i < zs.length) => dS_range HP.out (v := (k : Int)) (by omega) hi)
        have HRS := Lib.hid (fun (i : Nat) (hi : i < zs.length) => dS_rest HP.out (v := (k : Int)) (by omega) hi)
        have HDG := Lib.hid (fun (i : Nat) (hi : i + 1 < zs.length) => dS_digit HP.out (v := (k : Int)) (by omega) hi)
        clear hrow hb
        go_wp2_with fail
        go_loopw [9, 10, 11] (fun vs vr vi wj => ∃ (i : Nat), i ≤ m ∧ vs = .int .i64 (dS zs (k : Int) i).1 ∧ vr = .int .i64 (dS zs (k : Int) i).2 ∧ vi = .int .i64 ((i : Int) + 1) ∧ Hid (wj.rowIs wc.heap.size 2 N (fun y => .int .i64 (outF zs k y))) ∧ Hid (Below wc.heap.size WC wj)) (fun _ _ vi _ => m + 1 - (intOf vi).toNat)
        case atStart => exact ⟨0, Nat.zero_le _, rfl, rfl, rfl, HROW, HB⟩
        case round =>
          clear HROW HB
          obtain ⟨i, hi, rfl, rfl, rfl, hrow, hb⟩ := hrel
          have hszw := hb.out.size
          by_cases him : i < m
          · have himi : (i : Int) + 1 < (m : Int) + 1 := by omega
            obtain ⟨d', e3, _, _, hd1, _⟩ := own_at OD.out HLD.out (show i < m + 1 by omega)
            cases e3
            obtain ⟨d', e3, _, _, hd0, _⟩ := own_at OD.out HLD.out (show i + 1 < m + 1 by omega)
            cases e3
            obtain ⟨gg', e3, _, _, hx, _⟩ := own_at OG.out HLG.out (show i + 1 < m + 1 by omega)
            cases e3
            have ce1 := (hb.out.cell (p := ⟨d, i, none⟩) hdw).trans hd1
            have ce2 := (hb.out.cell (p := ⟨d, i + 1, none⟩) hdw).trans hd0
            have cx := (hb.out.cell (p := ⟨gg, i + 1, none⟩) hggw).trans hx
            have hi1 : i + 1 < zs.length := by rw [HL.out]; omega
            have h1 := HRG.out i (by omega)
            have h2 := HRS.out i (by omega)
            have h3 := HDG.out i hi1
            have h4 := nnA_pos HP.out hi1
            have h5 := gnA_pos HP.out hi1
            have h6 := dvA_pos HP.out hi1
            have h7 := dvA_pos HP.out (i := i) (by omega)
            have h8 := HRG.out (i + 1) hi1
            have h9 := HRS.out (i + 1) hi1
            have HST := Lib.hid (dS_step zs (k : Int) i)
            rw [HST.out] at h8 h9
            have HNA : Hid (nnA zs i = (dvA zs i).tdiv (dvA zs (i + 1))) := Lib.hid rfl
            change wr.cell? ⟨d, i, none⟩ = some (.int .i64 (dvA zs i)) at ce1
            change wr.cell? ⟨d, i + 1, none⟩ = some (.int .i64 (dvA zs (i + 1))) at ce2
            change wr.cell? ⟨gg, i + 1, none⟩ = some (.int .i64 (gnA zs (i + 1))) at cx
            generalize (dS zs (k : Int) i).1 = S at *
            generalize (dS zs (k : Int) i).2 = R at *
            generalize nnA zs i = bb at *
            generalize dvA zs i = e1 at *
            generalize dvA zs (i + 1) = e2 at *
            generalize gnA zs (i + 1) = x at *
            dsimp only at h8 h9
            have hez : (e2 == 0) = false := by simp; omega
            have hez2 : ¬ e2 = 0 := by omega
            have hbz : (bb == 0) = false := by simp; omega
            have hbz2 : ¬ bb = 0 := by omega
            have hmul : 0 ≤ R.tmod bb * x ∧ R.tmod bb * x ≤ 8192000 := by
              have := mul_range (A := 64) (B := 128000) (a := R.tmod bb) (b := x) (by omega) (by omega)
              omega
            have hbb : e1.tdiv e2 = bb := HNA.out.symm
            have g1 : (i : Int) + 1 - 1 = (i : Int) := by omega
            have g6 : (0 : Int) ≤ (i : Int) := by omega
            have g7 : (0 : Int) ≤ (i : Int) + 1 := by omega
            have g8 : ((i : Int) + 1).toNat = i + 1 := by omega
            have g9 : (i : Int) < (m : Int) + 1 := by omega
            have g10 : i < m + 1 := by omega
            have g11 : i + 1 < m + 1 := by omega
            have p0 : IntKind.i64.wrap (i : Int) = (i : Int) := IntWalk.i64_in _ (by omega)
            have p1 : IntKind.i64.wrap ((i : Int) + 1 - 1) = (i : Int) := by rw [IntWalk.i64_in _ (by omega)]; omega
            have p2 : IntKind.i64.wrap bb = bb := IntWalk.i64_in _ (by omega)
            have p3 : IntKind.i64.wrap (R.tmod bb) = R.tmod bb := IntWalk.i64_in _ (by omega)
            have p4 : IntKind.i64.wrap (R.tmod bb * x) = R.tmod bb * x := IntWalk.i64_in _ (by omega)
            have p5 : IntKind.i64.wrap (S + R.tmod bb * x) = S + R.tmod bb * x := IntWalk.i64_in _ (by omega)
            have p6 : IntKind.i64.wrap (R.tdiv bb) = R.tdiv bb := IntWalk.i64_in _ (by omega)
            clear hd1 hd0 hx
            go_wp2_with fail
            refine wp_region_held_drew (S := fun w' => w'.cell? ⟨d, i, none⟩ = some (.int .i64 e1) ∧ w'.cell? ⟨d, i + 1, none⟩ = some (.int .i64 e2)) (by kernel_rfl) ⟨ce1, ce2⟩ (fun hHeld => ?_)
            refine takeY 0 _ (v := ?_) rfl rfl (by kernel_rfl) (by kernel_rfl) (by kernel_rfl) (fun _ _ _ h => h) (by kernel_rfl) ?_ (by assumption) ?_
            rotate_left 1
            · intro w hSw; (try dsimp only at hSw); go_simp; (try with_reducible rfl)
            try simp only [Act.put, List.setIfInBounds_toArray, List.set_cons_zero, List.set_cons_succ]
            refine takeY 1 _ (v := ?_) rfl rfl (by kernel_rfl) (by kernel_rfl) (by kernel_rfl) (fun _ _ _ h => h) (by kernel_rfl) ?_ (by assumption) ?_
            rotate_left 1
            · intro w hSw; (try dsimp only at hSw); go_simp; (try with_reducible rfl)
            try simp only [Act.put, List.setIfInBounds_toArray, List.set_cons_zero, List.set_cons_succ]
            refine takeY 2 _ (v := ?_) rfl rfl (by kernel_rfl) (by kernel_rfl) (by kernel_rfl) (fun _ _ _ h => h) (by kernel_rfl) ?_ (by assumption) ?_
            rotate_left 1
            · intro w hSw; (try dsimp only at hSw); go_simp; (try with_reducible rfl)
            try simp only [Act.put, List.setIfInBounds_toArray, List.set_cons_zero, List.set_cons_succ]
            refine takeY 3 _ (v := ?_) rfl rfl (by kernel_rfl) (by kernel_rfl) (by kernel_rfl) (fun _ _ _ h => h) (by kernel_rfl) ?_ (by assumption) ?_
            rotate_left 1
            · intro w hSw; (try dsimp only at hSw); go_simp; (try with_reducible rfl)
            try simp only [Act.put, List.setIfInBounds_toArray, List.set_cons_zero, List.set_cons_succ]
            refine takeY 4 _ (v := ?_) rfl rfl (by kernel_rfl) (by kernel_rfl) (by kernel_rfl) (fun _ _ _ h => h) (by kernel_rfl) ?_ (by assumption) ?_
            rotate_left 1
            · intro w hSw; (try dsimp only at hSw); go_simp; (try with_reducible rfl)
            try simp only [Act.put, List.setIfInBounds_toArray, List.set_cons_zero, List.set_cons_succ]
            refine takeY 5 _ (v := ?_) rfl rfl (by kernel_rfl) (by kernel_rfl) (by kernel_rfl) (fun _ _ _ h => h) (by kernel_rfl) ?_ (by assumption) ?_
            rotate_left 1
            · intro w hSw; (try dsimp only at hSw); go_simp; (try with_reducible rfl)
            try simp only [Act.put, List.setIfInBounds_toArray, List.set_cons_zero, List.set_cons_succ]
            refine takeY 6 _ (v := ?_) rfl rfl (by kernel_rfl) (by kernel_rfl) (by kernel_rfl) (fun _ _ _ h => h) (by kernel_rfl) ?_ (by assumption) ?_
            rotate_left 1
            · intro w hSw; (try dsimp only at hSw); go_simp; (try with_reducible rfl)
            try simp only [Act.put, List.setIfInBounds_toArray, List.set_cons_zero, List.set_cons_succ]
            refine takeY 7 _ (v := ?_) rfl rfl (by kernel_rfl) (by kernel_rfl) (by kernel_rfl) (fun _ _ _ h => h) (by kernel_rfl) ?_ (by assumption) ?_
            rotate_left 1
            · intro w hSw; (try dsimp only at hSw); go_simp; (try with_reducible rfl)
            try simp only [Act.put, List.setIfInBounds_toArray, List.set_cons_zero, List.set_cons_succ]
            refine takeY 8 _ (v := ?_) rfl rfl (by kernel_rfl) (by kernel_rfl) (by kernel_rfl) (fun _ _ _ h => h) (by kernel_rfl) ?_ (by assumption) ?_
            rotate_left 1
            · intro w hSw; (try dsimp only at hSw); go_simp; (try with_reducible rfl)
            try simp only [Act.put, List.setIfInBounds_toArray, List.set_cons_zero, List.set_cons_succ]
            refine takeY 9 _ (v := ?_) rfl rfl (by kernel_rfl) (by kernel_rfl) (by kernel_rfl) (fun _ _ _ h => h) (by kernel_rfl) ?_ (by assumption) ?_
            rotate_left 1
            · intro w hSw; (try dsimp only at hSw); go_simp; (try with_reducible rfl)
            try simp only [Act.put, List.setIfInBounds_toArray, List.set_cons_zero, List.set_cons_succ]
            refine takeY 10 _ (v := ?_) rfl rfl (by kernel_rfl) (by kernel_rfl) (by kernel_rfl) (fun _ _ _ h => h) (by kernel_rfl) ?_ (by assumption) ?_
            rotate_left 1
            · intro w hSw; (try dsimp only at hSw); go_simp; (try with_reducible rfl)
            try simp only [Act.put, List.setIfInBounds_toArray, List.set_cons_zero, List.set_cons_succ]
            refine wpAnyH_done (by kernel_rfl) ?_ _
            go_wp2_with fail
            refine wp_region_held_drew (S := fun w' => w'.cell? ⟨gg, i + 1, none⟩ = some (.int .i64 x)) (by kernel_rfl) (cx) (fun hHeld => ?_)
            refine takeY 0 _ (v := ?_) rfl rfl (by kernel_rfl) (by kernel_rfl) (by kernel_rfl) (fun _ _ _ h => h) (by kernel_rfl) ?_ (by assumption) ?_
            rotate_left 1
            · intro w hSw; (try dsimp only at hSw); go_simp; (try with_reducible rfl)
            try simp only [Act.put, List.setIfInBounds_toArray, List.set_cons_zero, List.set_cons_succ]
            refine takeY 1 _ (v := ?_) rfl rfl (by kernel_rfl) (by kernel_rfl) (by kernel_rfl) (fun _ _ _ h => h) (by kernel_rfl) ?_ (by assumption) ?_
            rotate_left 1
            · intro w hSw; (try dsimp only at hSw); go_simp; (try with_reducible rfl)
            try simp only [Act.put, List.setIfInBounds_toArray, List.set_cons_zero, List.set_cons_succ]
            refine takeY 2 _ (v := ?_) rfl rfl (by kernel_rfl) (by kernel_rfl) (by kernel_rfl) (fun _ _ _ h => h) (by kernel_rfl) ?_ (by assumption) ?_
            rotate_left 1
            · intro w hSw; (try dsimp only at hSw); go_simp; (try with_reducible rfl)
            try simp only [Act.put, List.setIfInBounds_toArray, List.set_cons_zero, List.set_cons_succ]
            refine takeY 3 _ (v := ?_) rfl rfl (by kernel_rfl) (by kernel_rfl) (by kernel_rfl) (fun _ _ _ h => h) (by kernel_rfl) ?_ (by assumption) ?_
            rotate_left 1
            · intro w hSw; (try dsimp only at hSw); go_simp; (try with_reducible rfl)
            try simp only [Act.put, List.setIfInBounds_toArray, List.set_cons_zero, List.set_cons_succ]
            refine takeY 4 _ (v := ?_) rfl rfl (by kernel_rfl) (by kernel_rfl) (by kernel_rfl) (fun _ _ _ h => h) (by kernel_rfl) ?_ (by assumption) ?_
            rotate_left 1
            · intro w hSw; (try dsimp only at hSw); go_simp; (try with_reducible rfl)
            try simp only [Act.put, List.setIfInBounds_toArray, List.set_cons_zero, List.set_cons_succ]
            refine takeY 5 _ (v := ?_) rfl rfl (by kernel_rfl) (by kernel_rfl) (by kernel_rfl) (fun _ _ _ h => h) (by kernel_rfl) ?_ (by assumption) ?_
            rotate_left 1
            · intro w hSw; (try dsimp only at hSw); go_simp; (try with_reducible rfl)
            try simp only [Act.put, List.setIfInBounds_toArray, List.set_cons_zero, List.set_cons_succ]
            refine takeY 6 _ (v := ?_) rfl rfl (by kernel_rfl) (by kernel_rfl) (by kernel_rfl) (fun _ _ _ h => h) (by kernel_rfl) ?_ (by assumption) ?_
            rotate_left 1
            · intro w hSw; (try dsimp only at hSw); go_simp; (try with_reducible rfl)
            try simp only [Act.put, List.setIfInBounds_toArray, List.set_cons_zero, List.set_cons_succ]
            refine takeY 7 _ (v := ?_) rfl rfl (by kernel_rfl) (by kernel_rfl) (by kernel_rfl) (fun _ _ _ h => h) (by kernel_rfl) ?_ (by assumption) ?_
            rotate_left 1
            · intro w hSw; (try dsimp only at hSw); go_simp; (try with_reducible rfl)
            try simp only [Act.put, List.setIfInBounds_toArray, List.set_cons_zero, List.set_cons_succ]
            refine takeY 8 _ (v := ?_) rfl rfl (by kernel_rfl) (by kernel_rfl) (by kernel_rfl) (fun _ _ _ h => h) (by kernel_rfl) ?_ (by assumption) ?_
            rotate_left 1
            · intro w hSw; (try dsimp only at hSw); go_simp; (try with_reducible rfl)
            try simp only [Act.put, List.setIfInBounds_toArray, List.set_cons_zero, List.set_cons_succ]
            refine takeY 9 _ (v := ?_) rfl rfl (by kernel_rfl) (by kernel_rfl) (by kernel_rfl) (fun _ _ _ h => h) (by kernel_rfl) ?_ (by assumption) ?_
            rotate_left 1
            · intro w hSw; (try dsimp only at hSw); go_simp; (try with_reducible rfl)
            try simp only [Act.put, List.setIfInBounds_toArray, List.set_cons_zero, List.set_cons_succ]
            refine takeY 10 _ (v := ?_) rfl rfl (by kernel_rfl) (by kernel_rfl) (by kernel_rfl) (fun _ _ _ h => h) (by kernel_rfl) ?_ (by assumption) ?_
            rotate_left 1
            · intro w hSw; (try dsimp only at hSw); go_simp; (try with_reducible rfl)
            try simp only [Act.put, List.setIfInBounds_toArray, List.set_cons_zero, List.set_cons_succ]
            refine wpAnyH_done (by kernel_rfl) ?_ _
            go_wp2_with fail
            go_roundw
            case rel => exact ⟨i + 1, by omega, by rw [HST.out], by rw [HST.out], by go_num, Lib.hid (hrow.out.drew.drew), Lib.hid (Below.drew (Below.drew hb.out))⟩
            case measure => first | (simp [intOf]; done) | (simp [intOf]; omega)
          · obtain rfl : m = i := by omega
            have h1 := HRG.out m (by have := HL.out; omega)
            have HSM : Hid ((dS zs (k : Int) (zs.length - 1)).1 = (dS zs (k : Int) m).1) := Lib.hid (by rw [HLM.out])
            have himi : ¬ (m : Int) + 1 < (m : Int) + 1 := by omega
            generalize (dS zs (k : Int) m).1 = S at *
            generalize (dS zs (k : Int) m).2 = R at *
            obtain ⟨q, hqN, hqt, hqe, hqn⟩ := mod_nat (x := S) (N := N) h1.1 (by omega)
            have p2 : IntKind.i64.wrap (q : Int) = (q : Int) := IntWalk.i64_in _ (by omega)
            have hqi : (q : Int) < (N : Int) := by omega
            have hdst := hrow.out.cell hqN
            have hfz := hrow.out.frozen q
            have HR2 := Lib.hid ((hrow.out.set q (.int .i64 S)).congr (g := fun y => .int .i64 (outF zs (k + 1) y)) (fun y hy => by
              show _ = Value.int .i64 (if y = ((dS zs (k : Int) (zs.length - 1)).1 % dvA zs 0).toNat then (dS zs (k : Int) (zs.length - 1)).1 else outF zs k y)
              rw [HSM.out, ← HNN.out, hqn]
              by_cases h9 : y = q
              · rw [if_pos h9, if_pos h9]
              · rw [if_neg h9, if_neg h9]))
            have HB2 := Lib.hid (hb.out.setCell (p := ⟨wc.heap.size, q, none⟩) (Nat.le_refl _) (.int .i64 S))
            clear hqn hqe
            go_wp2_with fail
            go_roundw
            case rel => exact ⟨k + 1, by omega, by go_num, HR2, HB2⟩
            case measure => first | (simp [intOf]; done) | (simp [intOf]; omega)
      · obtain rfl : k = N := by omega
        have hro := row_ownB (zs := apL zs) (hrow.out.congr (fun y hy => by
          rw [if_pos hy, List.getD, apL_at (by rw [← HNN.out]; omega), outF_end HP.out HNN.out hy])) (by rw [apL_len, ← HNN.out]; simp) (show w.heap.size ≤ wc.heap.size by omega) (by omega)
        have HRO := Lib.hid hro
        clear hro
        go_wp2_with fail
        go_ret2
        exact AnsIC.mk' (by rw [apoA, HP.out]; rfl) (by rw [goC, HP.out]; rfl) HRO.out (BC.out.trans (hb.out.mono (by omega)))
theorem apery_v (v : Value) (zs : List Int) (w : World) (h : ReadI w w.heap.size v zs) (hn : zs.length ≤ 1048576) (hp : brB zs = true) :
    Calls Try.prog 87 #[.agg #[v]] w fun e w' => ∃ v', e = .returned v' ∧ OwnI w' w.heap.size w'.heap.size v' (apL zs) ∧ Below w.heap.size w w' :=
  (apery_any v zs (dvA zs 0).toNat w h hn hp (by have := dvA_pos hp (i := 0) (brB_pos hp); omega)).mono (by
    rintro e w' ⟨gl, h1, h2, h3⟩
    exact ⟨_, h1, h2, h3⟩)
set_option maxHeartbeats 1000000 in
theorem implAperyOf_any (v : Value) (zs : List Int) (w : World) (h : ReadI w w.heap.size v zs) (hn : zs.length ≤ 1048576) (hw : ∀ z ∈ zs, (Lit.int .i64 z).wf = true) :
    Calls Try.prog 29 #[.agg #[v]] w (AnsIC w (apoA zs) (goC zs)) := by
  obtain ⟨n, A, c, rfl, hr, HL, _, hnc, HF, hcm⟩ := h.split2
  obtain ⟨W0, HE⟩ : ∃ W, W = w.alloc (.cells #[.slice A n c] 28) := ⟨_, rfl⟩
  have hb0 : Below w.heap.size w W0 := by rw [HE]; exact below_box _ _
  have hq0 : BoxI W0 w.heap.size (.slice A n c) := by rw [HE]; exact BoxI.new _ _ _
  have H0 := Lib.hid ((h.below hb0).more hb0.size)
  have HNN := Lib.hid hn
  have HWW := Lib.hid hw
  have HEQ := Lib.hid HE
  clear h hr HE HF hn hw
  rcases bool_fs (brB zs) with hp | hp
  · have HP := Lib.hid hp
    clear hp
    go_enter Try.func29, Try.ntmps29
    go_wp2_with fail
    rw [← HEQ.out]
    refine (implIsBranch_if _ zs _ false H0.out HNN.out HWW.out HP.out).mono ?_
    rintro e w1 ⟨rfl, hb1⟩
    go_wp2
    go_ret2
    exact AnsIC.empty (by rw [apoA, HP.out]; rfl) (by rw [goC, HP.out]; rfl) (hb0.trans (hb1.mono hb0.size))
  · have HP := Lib.hid hp
    clear hp
    go_enter Try.func29, Try.ntmps29
    go_wp2_with fail
    rw [← HEQ.out]
    refine (implIsBranch_if _ zs _ true H0.out HNN.out HWW.out HP.out).mono ?_
    rintro e w1 ⟨rfl, hb1⟩
    have cb1 : w1.cell? ⟨w.heap.size, 0, none⟩ = some (.slice A n c) := by rw [hb1.cell (p := ⟨w.heap.size, 0, none⟩) hq0.2]; exact hq0.1
    have H1 := Lib.hid ((H0.out.below hb1).more hb1.size)
    have B1 := Lib.hid (hb0.trans (hb1.mono hb0.size))
    clear hb1 hb0 HEQ
    go_wp2_with fail
    refine (apery_v _ zs w1 H1.out HNN.out HP.out).mono ?_
    rintro e w2 ⟨v1, rfl, ho1, hb2⟩
    obtain ⟨A1, c1, rfl⟩ := own_form ho1.1
    have HO1 := Lib.hid (own_lessB ho1 (lo' := w.heap.size) B1.out.size)
    have B2 := Lib.hid (B1.out.trans (hb2.mono B1.out.size))
    clear ho1 hb2
    go_wp2_with fail
    go_ret2
    exact AnsIC.mk' (by rw [apoA, HP.out]; rfl) (by rw [goC, HP.out]; rfl) HO1.out B2.out
end Go.Proofs.Ytncgkoanckefmaa
