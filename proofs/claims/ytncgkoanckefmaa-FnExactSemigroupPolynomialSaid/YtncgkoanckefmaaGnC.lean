/- Conductors, the model's and the program's: contracts. Conditions: stated at each theorem. -/
import Derived.Test.YtncgkoanckefmaaGnO
import Derived.Test.YtncgkoanckefmaaPrI
namespace Go.Proofs.Ytncgkoanckefmaa
open Go.ChangeShapes Go.WideShapes Go.ChangeAt Go.RowKit Go.Deep
set_option linter.unusedVariables false
set_option linter.unusedSimpArgs false

/-- The conductor, summed over the first k pairs. -/
def cdS (zs : List Int) : Nat → Int
  | 0 => 1 - zs[0]?.getD 0
  | k + 1 => cdS zs k + (((dvL 0 zs)[k]?.getD 0).tdiv ((dvL 0 zs)[k + 1]?.getD 0) - 1) * ((gnB zs)[k + 1]?.getD 0)
def cdB (zs : List Int) : Int := cdS zs (zs.length - 1)
theorem cd_term {zs : List Int} (hp : brB zs = true) {k : Nat} (hk : k + 1 < zs.length) :
    (1 ≤ (dvL 0 zs)[k + 1]?.getD 0 ∧ (dvL 0 zs)[k + 1]?.getD 0 ≤ 2000) ∧ (0 ≤ (dvL 0 zs)[k]?.getD 0 ∧ (dvL 0 zs)[k]?.getD 0 ≤ 2000) ∧ (0 ≤ ((dvL 0 zs)[k]?.getD 0).tdiv ((dvL 0 zs)[k + 1]?.getD 0) ∧ ((dvL 0 zs)[k]?.getD 0).tdiv ((dvL 0 zs)[k + 1]?.getD 0) ≤ 2000) ∧ (1 ≤ (gnB zs)[k + 1]?.getD 0 ∧ (gnB zs)[k + 1]?.getD 0 ≤ 128000) ∧
      (-128000 ≤ (((dvL 0 zs)[k]?.getD 0).tdiv ((dvL 0 zs)[k + 1]?.getD 0) - 1) * ((gnB zs)[k + 1]?.getD 0) ∧ (((dvL 0 zs)[k]?.getD 0).tdiv ((dvL 0 zs)[k + 1]?.getD 0) - 1) * ((gnB zs)[k + 1]?.getD 0) ≤ 256000000) := by
  have h1 := all_at (dvL_pos (dcB_range (brB_dcB hp)) (e := 0)) (i := k + 1) (by rw [dvL_len]; exact hk)
  have h2 := range_of (dvL_range (dcB_range (brB_dcB hp))) k
  have h3 := tdiv_le h2 h1.1
  have h4 := all_at (gnB_all hp) (i := k + 1) (by rw [gnB_len]; exact hk)
  have h5 := mul_range (A := 2000) (B := 128000) h3 (show 0 ≤ (gnB zs)[k + 1]?.getD 0 ∧ (gnB zs)[k + 1]?.getD 0 ≤ 128000 by omega)
  refine ⟨h1, h2, h3, h4, ?_⟩
  rw [Int.sub_mul]
  omega
theorem cdS_bound {zs : List Int} (hp : brB zs = true) {k : Nat} (hk : k < zs.length) : -(64 + 128000 * (k : Int)) ≤ cdS zs k ∧ cdS zs k ≤ 1 + 256000000 * (k : Int) := by
  induction k with
  | zero => have := br_first hp; simp only [cdS]; omega
  | succ k ih =>
    have h1 := ih (by omega)
    have h2 := (cd_term hp hk).2.2.2.2
    simp only [cdS]
    omega
theorem cdS_step (zs : List Int) (k : Nat) : cdS zs (k + 1) = cdS zs k + (((dvL 0 zs)[k]?.getD 0).tdiv ((dvL 0 zs)[k + 1]?.getD 0) - 1) * ((gnB zs)[k + 1]?.getD 0) := rfl

set_option maxRecDepth 100000 in
set_option maxHeartbeats 2000000 in
theorem conductor_any (v : Value) (zs : List Int) (w : World) (h : ReadI w w.heap.size v zs) (hn : zs.length ≤ 1048576) (hp : brB zs = true) :
    Calls Try.prog 83 #[.agg #[v]] w fun e w' => e = .returned (.int .i64 (cdB zs)) ∧ Below w.heap.size w w' := by
  have hn0 := brB_pos hp
  have HP := Lib.hid hp
  have HZF := Lib.hid (br_first hp)
  obtain ⟨n, A, c, rfl, hr, HL, HN, hnc, HF, hcm⟩ := h.split2
  rw [HL.out] at hn hn0
  obtain ⟨m, rfl⟩ : ∃ m, n = m + 1 := ⟨n - 1, by omega⟩
  obtain ⟨a, rfl, hlt, hc0⟩ := hr.2 0 hn0
  obtain ⟨g, o, rfl⟩ := HF.out a rfl
  have hgw : g < w.heap.size := hlt
  obtain ⟨W0, HE⟩ : ∃ W, W = w.alloc (.cells #[.slice (some ⟨g, o, none⟩) (m + 1) c] 28) := ⟨_, rfl⟩
  have hb0 : Below w.heap.size w W0 := by rw [HE]; exact below_box2 _ _
  have hq0 : BoxI W0 w.heap.size (.slice (some ⟨g, o, none⟩) (m + 1) c) := by rw [HE]; exact BoxI.new _ _ _
  have hs0 : w.heap.size < W0.heap.size := hq0.2
  have HR := Lib.hid ((h.below hb0).more hb0.size)
  have B0 := Lib.hid hb0
  have HEQ := Lib.hid HE
  have Q0 := Lib.hid hq0.1
  have CZ : Hid (w.cell? ⟨g, o, none⟩ = some (.int .i64 (zs[0]?.getD 0))) := Lib.hid (by
    have h2 : (⟨g, o, none⟩ : Addr).add 0 = ⟨g, o, none⟩ := by rw [add_lit]; rfl
    rw [h2] at hc0; simpa using hc0)
  have HLG : Hid ((gnB zs).length = m + 1) := Lib.hid (by rw [gnB_len, HL.out])
  have hLm : zs.length - 1 = m := by have := HL.out; omega
  have HCB : Hid (cdB zs = cdS zs m) := Lib.hid (by rw [cdB, hLm])
  clear h hr hp hb0 hq0 HE hc0 hlt
  go_enter Try.func83, Try.ntmps83
  go_wp2_with fail
  rw [← HEQ.out]
  refine (generators_any _ zs W0 HR.out (by rw [HL.out]; exact hn) HP.out).mono ?_
  rintro e W1 ⟨v1, rfl, hv1, ho1, hb1⟩
  clear hv1
  obtain ⟨A1, c1, rfl⟩ := ho1.form HLG.out
  obtain ⟨gg, e1, hg1, hg2, _, _⟩ := own_at ho1 HLG.out hn0
  subst e1
  have hs1 := hb1.size
  have q1 := (hb1.cell (p := ⟨w.heap.size, 0, none⟩) hs0).trans Q0.out
  have cz1 : W1.cell? ⟨g, o, none⟩ = some (.int .i64 (zs[0]?.getD 0)) := (hb1.cell (p := ⟨g, o, none⟩) (by show g < _; omega)).trans ((B0.out.cell (p := ⟨g, o, none⟩) hgw).trans CZ.out)
  have HR1 := Lib.hid ((HR.out.below hb1).more hs1)
  have OG1 := Lib.hid (own_tight ho1 hg2)
  have B1 := Lib.hid (B0.out.trans (hb1.mono (by omega)))
  have hzf := HZF.out
  have HS0 : Hid (1 - zs[0]?.getD 0 = cdS zs 0) := Lib.hid rfl
  obtain ⟨z0, hz00⟩ : ∃ z, zs[0]?.getD 0 = z := ⟨_, rfl⟩
  rw [hz00] at cz1 hzf HS0
  have p0 : IntKind.i64.wrap (1 - z0) = 1 - z0 := IntWalk.i64_in _ (by omega)
  clear ho1 hb1 hz00
  go_wp2_with fail
  refine (puiseux_any _ zs W1 HR1.out (by rw [HL.out]; exact hn) HP.out).mono ?_
  rw [hLm]
  rintro e W2 ⟨gp, rfl, hgp, hpr, hb2⟩
  have hs2 := hb2.size
  have hgpl : gp < W2.heap.size := World.rowIs.lt hpr
  have PR := Lib.hid hpr
  have OG2 := Lib.hid (OG1.out.kept (Kept.of_below hb2 (by omega)))
  have B2 := Lib.hid (B1.out.trans (hb2.mono (by omega)))
  clear hpr hb2
  go_wp2_with fail
  go_loopw [4, 17] (fun vc vi wr => ∃ (i : Nat) (s : Int), i ≤ m ∧ vi = .int .i64 i ∧ vc = .int .i64 s ∧ Hid (s = cdS zs i) ∧ Hid (Below W2.heap.size W2 wr)) (fun _ vi _ => m - (intOf vi).toNat)
  case atStart => exact ⟨0, 1 - z0, by omega, rfl, rfl, HS0, Lib.hid (Below.refl _ _)⟩
  case round =>
    obtain ⟨i, s, hi, rfl, rfl, hs, hb⟩ := hrel
    have hszw := hb.out.size
    by_cases hlt : i < m
    · obtain ⟨q1, q2, q3, q4⟩ := PR.out.cells hlt
      have e1 : wr.cell? ⟨gp, i * 2, none⟩ = some (.int .i64 (ppF zs i).1) := (hb.out.cell (p := ⟨gp, i * 2, none⟩) hgpl).trans q1
      have e2 : wr.cell? ⟨gp, i * 2 + 1, none⟩ = some (.int .i64 (ppF zs i).2) := (hb.out.cell (p := ⟨gp, i * 2 + 1, none⟩) hgpl).trans q2
      obtain ⟨gg', e3, _, hg3, hx, _⟩ := own_at OG2.out HLG.out (show i + 1 < m + 1 by omega)
      cases e3
      have hxr : wr.cell? ⟨gg, i + 1, none⟩ = some (.int .i64 ((gnB zs)[i + 1]?.getD 0)) := (hb.out.cell (p := ⟨gg, i + 1, none⟩) (by show gg < _; omega)).trans hx
      have htm := cd_term HP.out (k := i) (by rw [HL.out]; omega)
      have hsb := cdS_bound HP.out (k := i) (by rw [HL.out]; omega)
      have HST := Lib.hid (cdS_step zs i)
      have hP2 : (ppF zs i).2 = ((dvL 0 zs)[i]?.getD 0).tdiv ((dvL 0 zs)[i + 1]?.getD 0) := rfl
      rw [← hP2] at htm HST
      rw [← hs.out] at hsb HST
      obtain ⟨a, ha⟩ : ∃ a, (ppF zs i).1 = a := ⟨_, rfl⟩
      obtain ⟨b, hbb⟩ : ∃ a, (ppF zs i).2 = a := ⟨_, rfl⟩
      obtain ⟨x, hxx⟩ : ∃ a, (gnB zs)[i + 1]?.getD 0 = a := ⟨_, rfl⟩
      rw [ha] at e1
      rw [hbb] at e2 htm HST
      rw [hxx] at hxr htm HST
      have hin : (i : Int) < (m : Int) := by omega
      have h6 : (0 : Int) ≤ (i : Int) := by omega
      have h7 : ((i : Int) + 1).toNat = i + 1 := by omega
      have h8 : (i : Int) + 1 < (m : Int) + 1 := by omega
      have h9 : (0 : Int) ≤ (i : Int) + 1 := by omega
      have h12 : i + 1 < m + 1 := by omega
      have p1 : IntKind.i64.wrap ((i : Int) + 1) = (i : Int) + 1 := IntWalk.i64_in _ (by omega)
      have p2 : IntKind.i64.wrap (b - 1) = b - 1 := IntWalk.i64_in _ (by omega)
      have p3 : IntKind.i64.wrap ((b - 1) * x) = (b - 1) * x := IntWalk.i64_in _ (by omega)
      have p4 : IntKind.i64.wrap (s + (b - 1) * x) = s + (b - 1) * x := IntWalk.i64_in _ (by omega)
      have cb : (wr.alloc (.cells #[.int .i64 a, .int .i64 b] 101)).cell? ⟨wr.heap.size, 1, none⟩ = some (.int .i64 b) := by go_simp
      have cx : (wr.alloc (.cells #[.int .i64 a, .int .i64 b] 101)).cell? ⟨gg, i + 1, none⟩ = some (.int .i64 x) := ((below_box wr _).cell (p := ⟨gg, i + 1, none⟩) (by show gg < _; omega)).trans hxr
      clear q1 q2 q3 q4 hx ha hbb hxx htm hsb hP2
      go_wp2_with fail
      refine wp_region_held_drew (S := fun w' => w'.cell? ⟨wr.heap.size, 1, none⟩ = some (.int .i64 b) ∧ w'.cell? ⟨gg, i + 1, none⟩ = some (.int .i64 x)) (by kernel_rfl) ⟨cb, cx⟩ (fun hHeld => ?_)
      refine takeY 0 _ (v := ?_) rfl rfl (by kernel_rfl) (by kernel_rfl) (by kernel_rfl) (fun _ _ _ h => h) (by kernel_rfl) ?_ (by assumption) ?_
      rotate_left 1
      · intro w hSw; (try dsimp only at hSw); go_simp; (try with_reducible rfl)
      try simp only [Act.put, List.setIfInBounds_toArray, List.set_cons_zero, List.set_cons_succ]
      refine takeY 1 _ (v := ?_) rfl rfl (by kernel_rfl) (by kernel_rfl) (by kernel_rfl) (fun _ _ _ h => h) (by kernel_rfl) ?_ (by assumption) ?_
      rotate_left 1
      · intro w hSw; (try dsimp only at hSw); go_simp; (try with_reducible rfl)
      try simp only [Act.put, List.setIfInBounds_toArray, List.set_cons_zero, List.set_cons_succ]
      refine takeY 2 _ (v := ?_) rfl rfl (by kernel_rfl) (by kernel_rfl) (by kernel_rfl) (fun _ _ _ h => h) (by kernel_rfl) ?_ (by assumption) ?_
      rotate_left 1
      · intro w hSw; (try dsimp only at hSw); go_simp; (try with_reducible rfl)
      try simp only [Act.put, List.setIfInBounds_toArray, List.set_cons_zero, List.set_cons_succ]
      refine takeY 3 _ (v := ?_) rfl rfl (by kernel_rfl) (by kernel_rfl) (by kernel_rfl) (fun _ _ _ h => h) (by kernel_rfl) ?_ (by assumption) ?_
      rotate_left 1
      · intro w hSw; (try dsimp only at hSw); go_simp; (try with_reducible rfl)
      try simp only [Act.put, List.setIfInBounds_toArray, List.set_cons_zero, List.set_cons_succ]
      refine takeY 4 _ (v := ?_) rfl rfl (by kernel_rfl) (by kernel_rfl) (by kernel_rfl) (fun _ _ _ h => h) (by kernel_rfl) ?_ (by assumption) ?_
      rotate_left 1
      · intro w hSw; (try dsimp only at hSw); go_simp; (try with_reducible rfl)
      try simp only [Act.put, List.setIfInBounds_toArray, List.set_cons_zero, List.set_cons_succ]
      refine takeY 5 _ (v := ?_) rfl rfl (by kernel_rfl) (by kernel_rfl) (by kernel_rfl) (fun _ _ _ h => h) (by kernel_rfl) ?_ (by assumption) ?_
      rotate_left 1
      · intro w hSw; (try dsimp only at hSw); go_simp; (try with_reducible rfl)
      try simp only [Act.put, List.setIfInBounds_toArray, List.set_cons_zero, List.set_cons_succ]
      refine takeY 6 _ (v := ?_) rfl rfl (by kernel_rfl) (by kernel_rfl) (by kernel_rfl) (fun _ _ _ h => h) (by kernel_rfl) ?_ (by assumption) ?_
      rotate_left 1
      · intro w hSw; (try dsimp only at hSw); go_simp; (try with_reducible rfl)
      try simp only [Act.put, List.setIfInBounds_toArray, List.set_cons_zero, List.set_cons_succ]
      refine takeY 7 _ (v := ?_) rfl rfl (by kernel_rfl) (by kernel_rfl) (by kernel_rfl) (fun _ _ _ h => h) (by kernel_rfl) ?_ (by assumption) ?_
      rotate_left 1
      · intro w hSw; (try dsimp only at hSw); go_simp; (try with_reducible rfl)
      try simp only [Act.put, List.setIfInBounds_toArray, List.set_cons_zero, List.set_cons_succ]
      refine takeY 8 _ (v := ?_) rfl rfl (by kernel_rfl) (by kernel_rfl) (by kernel_rfl) (fun _ _ _ h => h) (by kernel_rfl) ?_ (by assumption) ?_
      rotate_left 1
      · intro w hSw; (try dsimp only at hSw); go_simp; (try with_reducible rfl)
      try simp only [Act.put, List.setIfInBounds_toArray, List.set_cons_zero, List.set_cons_succ]
      refine takeY 9 _ (v := ?_) rfl rfl (by kernel_rfl) (by kernel_rfl) (by kernel_rfl) (fun _ _ _ h => h) (by kernel_rfl) ?_ (by assumption) ?_
      rotate_left 1
      · intro w hSw; (try dsimp only at hSw); go_simp; (try with_reducible rfl)
      try simp only [Act.put, List.setIfInBounds_toArray, List.set_cons_zero, List.set_cons_succ]
      refine takeY 10 _ (v := ?_) rfl rfl (by kernel_rfl) (by kernel_rfl) (by kernel_rfl) (fun _ _ _ h => h) (by kernel_rfl) ?_ (by assumption) ?_
      rotate_left 1
      · intro w hSw; (try dsimp only at hSw); go_simp; (try with_reducible rfl)
      try simp only [Act.put, List.setIfInBounds_toArray, List.set_cons_zero, List.set_cons_succ]
      refine takeY 11 _ (v := ?_) rfl rfl (by kernel_rfl) (by kernel_rfl) (by kernel_rfl) (fun _ _ _ h => h) (by kernel_rfl) ?_ (by assumption) ?_
      rotate_left 1
      · intro w hSw; (try dsimp only at hSw); go_simp; (try with_reducible rfl)
      try simp only [Act.put, List.setIfInBounds_toArray, List.set_cons_zero, List.set_cons_succ]
      refine wpAnyH_done (by kernel_rfl) ?_ _
      go_wp2_with fail
      go_roundw
      case rel => exact ⟨i + 1, s + (b - 1) * x, by omega, by go_num, rfl, Lib.hid HST.out.symm, Lib.hid (Below.drew (hb.out.alloc hszw _))⟩
      case measure => simp [intOf]; omega
    · obtain rfl : i = m := by omega
      have E : Hid (s = cdB zs) := Lib.hid (by rw [HCB.out, hs.out])
      go_wp2_with fail
      go_ret
      exact ⟨by rw [E.out]; rfl, B2.out.trans (hb.out.mono (by omega))⟩

/-- Two calls in whatever order leave two lists in blocks of their own. -/
def TwoCut (W0 : World) (X Y : List Int) (n : Nat) (wc : World) (s3 s4 : Value) : Prop :=
  ∃ d g c1 c2, s3 = .slice (some ⟨d, 0, none⟩) n c1 ∧ s4 = .slice (some ⟨g, 0, none⟩) n c2 ∧ OwnI wc d (d + 1) (.slice (some ⟨d, 0, none⟩) n c1) X ∧ OwnI wc g (g + 1) (.slice (some ⟨g, 0, none⟩) n c2) Y ∧ d ≠ g ∧ Below W0.heap.size W0 wc
theorem two_cut {W0 W1 W2 : World} {X Y : List Int} {n d g c1 c2 : Nat} (h1 : OwnI W1 d (d + 1) (.slice (some ⟨d, 0, none⟩) n c1) X) (h2 : OwnI W2 g (g + 1) (.slice (some ⟨g, 0, none⟩) n c2) Y) (hne : d ≠ g)
    (hb : Below W0.heap.size W0 W2) (h12 : Below W1.heap.size W1 W2) (hs : d < W1.heap.size) : TwoCut W0 X Y n W2 (.slice (some ⟨d, 0, none⟩) n c1) (.slice (some ⟨g, 0, none⟩) n c2) :=
  ⟨d, g, c1, c2, rfl, rfl, h1.kept (Kept.of_below h12 (by omega)), h2, hne, hb⟩

set_option maxRecDepth 100000 in
set_option maxHeartbeats 2000000 in
theorem l05Conductor_any (v : Value) (zs : List Int) (w : World) (h : ReadI w w.heap.size v zs) (hn : zs.length ≤ 1048576) (hp : brB zs = true) :
    Calls Try.prog 82 #[.agg #[v]] w fun e w' => e = .returned (.int .i64 (cdB zs)) ∧ Below w.heap.size w w' := by
  have hn0 := brB_pos hp
  have HP := Lib.hid hp
  have HZF := Lib.hid (br_first hp)
  obtain ⟨n, A, c, rfl, hr, HL, HN, hnc, HF, hcm⟩ := h.split2
  rw [HL.out] at hn hn0
  obtain ⟨a, rfl, hlt, hc0⟩ := hr.2 0 hn0
  obtain ⟨g, o, rfl⟩ := HF.out a rfl
  have hgw : g < w.heap.size := hlt
  obtain ⟨W0, HE⟩ : ∃ W, W = w.alloc (.cells #[.slice (some ⟨g, o, none⟩) n c] 28) := ⟨_, rfl⟩
  have hb0 : Below w.heap.size w W0 := by rw [HE]; exact below_box2 _ _
  have hq0 : BoxI W0 w.heap.size (.slice (some ⟨g, o, none⟩) n c) := by rw [HE]; exact BoxI.new _ _ _
  have hs0 : w.heap.size < W0.heap.size := hq0.2
  have HR := Lib.hid ((h.below hb0).more hb0.size)
  have B0 := Lib.hid hb0
  have HEQ := Lib.hid HE
  have q0 := hq0.1
  have Q0 := Lib.hid q0
  have CZ : Hid (w.cell? ⟨g, o, none⟩ = some (.int .i64 (zs[0]?.getD 0))) := Lib.hid (by
    have h2 : (⟨g, o, none⟩ : Addr).add 0 = ⟨g, o, none⟩ := by rw [add_lit]; rfl
    rw [h2] at hc0; simpa using hc0)
  have HLG : Hid ((gnB zs).length = n) := Lib.hid (by rw [gnB_len, HL.out])
  have HLD : Hid ((dvL 0 zs).length = n) := Lib.hid (by rw [dvL_len, HL.out])
  have HCB : Hid (cdB zs = cdS zs (n - 1)) := Lib.hid (by rw [cdB, HL.out])
  clear h hr hp hb0 hq0 HE hc0 hlt
  go_enter Try.func82, Try.ntmps82
  go_upto_region 1 with fail
  rw [← HEQ.out]
  go_cut [3, 4] (fun s3 s4 wx => Hid (TwoCut W0 (dvL 0 zs) (gnB zs) n wx s3 s4))
  case first =>
    refine wp_region_held_drew (S := fun w' => w'.cell? ⟨w.heap.size, 0, none⟩ = some (.slice (some ⟨g, o, none⟩) n c)) (by kernel_rfl) (q0) (fun hHeld => ?_)
    refine takeY 0 _ (v := ?_) rfl rfl (by kernel_rfl) (by kernel_rfl) (by kernel_rfl) (fun _ _ _ h => h) (by kernel_rfl) ?_ (by assumption) ?_
    rotate_left 1
    · intro w hSw; (try dsimp only at hSw); go_simp; (try with_reducible rfl)
    try simp only [Act.put, List.setIfInBounds_toArray, List.set_cons_zero, List.set_cons_succ]
    refine takeY 2 _ (v := ?_) rfl rfl (by kernel_rfl) (by kernel_rfl) (by kernel_rfl) (fun _ _ _ h => h) (by kernel_rfl) ?_ (by assumption) ?_
    rotate_left 1
    · intro w hSw; (try dsimp only at hSw); go_simp; (try with_reducible rfl)
    try simp only [Act.put, List.setIfInBounds_toArray, List.set_cons_zero, List.set_cons_succ]
    refine wpAnyH_ready (rs := [1]) (by kernel_rfl) (by simp) ?_
    refine AllReadyH.cons rfl (fun K hK => ?_) AllReadyH.nil
    go_simp
    refine (l03Divisors_any _ zs W0.drew HR.out (by rw [HL.out]; exact hn) HP.out).mono ?_
    rintro e W1 ⟨v1, rfl, ho1, hb1⟩
    obtain ⟨A1, c1, rfl⟩ := ho1.form HLD.out
    obtain ⟨d1, e1, hd1, hd2, _, _⟩ := own_at ho1 HLD.out hn0
    cases e1
    have hb1' : Below W0.heap.size W0 W1 := ⟨hb1.os, hb1.tape, hb1.output, hb1.size, hb1.block⟩
    have hs1 := hb1'.size
    have q1 := (hb1'.cell (p := ⟨w.heap.size, 0, none⟩) hs0).trans q0
    refine hK.out _ (W1) q1 (fun hHeld => ?_)
    clear hK K
    try simp only [Act.put, List.setIfInBounds_toArray, List.set_cons_zero, List.set_cons_succ]
    refine wpAnyH_ready (rs := [3]) (by kernel_rfl) (by simp) ?_
    refine AllReadyH.cons rfl (fun K hK => ?_) AllReadyH.nil
    go_simp
    refine (l05Generators_any _ zs W1 ((HR.out.below hb1').more hs1) (by rw [HL.out]; exact hn) HP.out).mono ?_
    rintro e W2 ⟨v2, rfl, ho2, hb2⟩
    obtain ⟨A2, c2, rfl⟩ := ho2.form HLG.out
    obtain ⟨d2, e2, hd3, hd4, _, _⟩ := own_at ho2 HLG.out hn0
    cases e2
    have q2 := (hb2.cell (p := ⟨w.heap.size, 0, none⟩) (by show w.heap.size < _; omega)).trans q1
    refine hK.out _ (W2) q2 (fun hHeld => ?_)
    clear hK K
    try simp only [Act.put, List.setIfInBounds_toArray, List.set_cons_zero, List.set_cons_succ]
    refine takeY 4 _ (v := ?_) rfl rfl (by kernel_rfl) (by kernel_rfl) (by kernel_rfl) (fun _ _ _ h => h) (by kernel_rfl) ?_ (by assumption) ?_
    rotate_left 1
    · intro w hSw; (try dsimp only at hSw); go_simp; (try with_reducible rfl)
    try simp only [Act.put, List.setIfInBounds_toArray, List.set_cons_zero, List.set_cons_succ]
    refine takeY 5 _ (v := ?_) rfl rfl (by kernel_rfl) (by kernel_rfl) (by kernel_rfl) (fun _ _ _ h => h) (by kernel_rfl) ?_ (by assumption) ?_
    rotate_left 1
    · intro w hSw; (try dsimp only at hSw); go_simp; (try with_reducible rfl)
    try simp only [Act.put, List.setIfInBounds_toArray, List.set_cons_zero, List.set_cons_succ]
    refine wpAnyH_done (by kernel_rfl) ?_ _
    go_wp2_with fail
    go_meet
    exact Lib.hid (two_cut (own_tight ho1 hd2) (own_tight ho2 hd4) (by omega) (hb1'.trans (hb2.mono hs1)) hb2 hd2)
  case rest =>
    obtain ⟨d, gg, c1, c2, rfl, rfl, hod, hog, hdg, hbw⟩ := hcut.out
    have OD := Lib.hid hod
    have OG := Lib.hid hog
    have hdw : d < wc.heap.size := hod.2.2
    have hggw : gg < wc.heap.size := hog.2.2
    have hsw := hbw.size
    have qc : wc.cell? ⟨w.heap.size, 0, none⟩ = some (.slice (some ⟨g, o, none⟩) n c) := (hbw.cell (p := ⟨w.heap.size, 0, none⟩) hs0).trans Q0.out
    have czc : wc.cell? ⟨g, o, none⟩ = some (.int .i64 (zs[0]?.getD 0)) := (hbw.cell (p := ⟨g, o, none⟩) (by show g < _; omega)).trans ((B0.out.cell (p := ⟨g, o, none⟩) hgw).trans CZ.out)
    have BW := Lib.hid (B0.out.trans (hbw.mono (by omega)))
    have hzf := HZF.out
    have HS0 : Hid (1 - zs[0]?.getD 0 = cdS zs 0) := Lib.hid rfl
    obtain ⟨z0, hz00⟩ : ∃ z, zs[0]?.getD 0 = z := ⟨_, rfl⟩
    rw [hz00] at czc hzf HS0
    have p0 : IntKind.i64.wrap (1 - z0) = 1 - z0 := IntWalk.i64_in _ (by omega)
    clear hod hog hbw hcut q0 hz00
    go_wp2_with fail
    go_loopw [5, 6] (fun vc vi wr => ∃ (i k : Nat) (s : Int), i = k + 1 ∧ i ≤ n ∧ vi = .int .i64 i ∧ vc = .int .i64 s ∧ Hid (s = cdS zs k) ∧ Hid (Below wc.heap.size wc wr)) (fun _ vi _ => n - (intOf vi).toNat)
    case atStart => exact ⟨1, 0, 1 - z0, rfl, by omega, rfl, rfl, HS0, Lib.hid (Below.refl _ _)⟩
    case round =>
      obtain ⟨i, k, s, hik, hi, rfl, rfl, hs, hb⟩ := hrel
      have hszw := hb.out.size
      by_cases hlt : i < n
      · obtain ⟨d', e3, _, _, hd1, _⟩ := own_at OD.out HLD.out (show k < n by omega)
        cases e3
        obtain ⟨d', e3, _, _, hd0, _⟩ := own_at OD.out HLD.out (show k + 1 < n by omega)
        cases e3
        obtain ⟨gg', e3, _, _, hx, _⟩ := own_at OG.out HLG.out (show k + 1 < n by omega)
        cases e3
        have htm := cd_term HP.out (k := k) (by rw [HL.out]; omega)
        have hsb := cdS_bound HP.out (k := k) (by rw [HL.out]; omega)
        have HST := Lib.hid (cdS_step zs k)
        rw [← hs.out] at hsb HST
        have cd1 : wr.cell? ⟨d, i - 1, none⟩ = some (.int .i64 ((dvL 0 zs)[k]?.getD 0)) := by rw [show i - 1 = k by omega]; exact (hb.out.cell (p := ⟨d, k, none⟩) hdw).trans hd1
        have cd0 : wr.cell? ⟨d, i, none⟩ = some (.int .i64 ((dvL 0 zs)[k + 1]?.getD 0)) := by rw [hik]; exact (hb.out.cell (p := ⟨d, k + 1, none⟩) hdw).trans hd0
        have cx : wr.cell? ⟨gg, i, none⟩ = some (.int .i64 ((gnB zs)[k + 1]?.getD 0)) := by rw [hik]; exact (hb.out.cell (p := ⟨gg, k + 1, none⟩) hggw).trans hx
        generalize (dvL 0 zs)[k]?.getD 0 = d1 at *
        generalize (dvL 0 zs)[k + 1]?.getD 0 = d0 at *
        generalize (gnB zs)[k + 1]?.getD 0 = x at *
        have HIK := Lib.hid hik
        have hdz : (d0 == 0) = false := by simp; omega
        have hdz2 : ¬ d0 = 0 := by omega
        have hin : (i : Int) < (n : Int) := by omega
        have h6 : (0 : Int) ≤ (i : Int) := by omega
        have h7 : ((i : Int) - 1).toNat = i - 1 := by omega
        have h8 : (i : Int) - 1 < (n : Int) := by omega
        have h9 : (0 : Int) ≤ (i : Int) - 1 := by omega
        have h10 : (1 : Int) ≤ (i : Int) := by omega
        have h12 : i - 1 < n := by omega
        have p1 : IntKind.i64.wrap ((i : Int) - 1) = (i : Int) - 1 := IntWalk.i64_in _ (by omega)
        have p5 : IntKind.i64.wrap (d1.tdiv d0) = d1.tdiv d0 := IntWalk.i64_in _ (by omega)
        have p2 : IntKind.i64.wrap (d1.tdiv d0 - 1) = d1.tdiv d0 - 1 := IntWalk.i64_in _ (by omega)
        have p3 : IntKind.i64.wrap ((d1.tdiv d0 - 1) * x) = (d1.tdiv d0 - 1) * x := IntWalk.i64_in _ (by omega)
        have p4 : IntKind.i64.wrap (s + (d1.tdiv d0 - 1) * x) = s + (d1.tdiv d0 - 1) * x := IntWalk.i64_in _ (by omega)
        clear hd1 hd0 hx htm hsb hik
        go_wp2_with fail
        refine wp_region_held_drew (S := fun w' => w'.cell? ⟨d, i - 1, none⟩ = some (.int .i64 d1) ∧ w'.cell? ⟨d, i, none⟩ = some (.int .i64 d0) ∧ w'.cell? ⟨gg, i, none⟩ = some (.int .i64 x)) (by kernel_rfl) ⟨cd1, cd0, cx⟩ (fun hHeld => ?_)
        refine takeY 0 _ (v := ?_) rfl rfl (by kernel_rfl) (by kernel_rfl) (by kernel_rfl) (fun _ _ _ h => h) (by kernel_rfl) ?_ (by assumption) ?_
        rotate_left 1
        · intro w hSw; (try dsimp only at hSw); go_simp; (try with_reducible rfl)
        try simp only [Act.put, List.setIfInBounds_toArray, List.set_cons_zero, List.set_cons_succ]
        refine takeY 1 _ (v := ?_) rfl rfl (by kernel_rfl) (by kernel_rfl) (by kernel_rfl) (fun _ _ _ h => h) (by kernel_rfl) ?_ (by assumption) ?_
        rotate_left 1
        · intro w hSw; (try dsimp only at hSw); go_simp; (try with_reducible rfl)
        try simp only [Act.put, List.setIfInBounds_toArray, List.set_cons_zero, List.set_cons_succ]
        refine takeY 2 _ (v := ?_) rfl rfl (by kernel_rfl) (by kernel_rfl) (by kernel_rfl) (fun _ _ _ h => h) (by kernel_rfl) ?_ (by assumption) ?_
        rotate_left 1
        · intro w hSw; (try dsimp only at hSw); go_simp; (try with_reducible rfl)
        try simp only [Act.put, List.setIfInBounds_toArray, List.set_cons_zero, List.set_cons_succ]
        refine takeY 3 _ (v := ?_) rfl rfl (by kernel_rfl) (by kernel_rfl) (by kernel_rfl) (fun _ _ _ h => h) (by kernel_rfl) ?_ (by assumption) ?_
        rotate_left 1
        · intro w hSw; (try dsimp only at hSw); go_simp; (try with_reducible rfl)
        try simp only [Act.put, List.setIfInBounds_toArray, List.set_cons_zero, List.set_cons_succ]
        refine takeY 4 _ (v := ?_) rfl rfl (by kernel_rfl) (by kernel_rfl) (by kernel_rfl) (fun _ _ _ h => h) (by kernel_rfl) ?_ (by assumption) ?_
        rotate_left 1
        · intro w hSw; (try dsimp only at hSw); go_simp; (try with_reducible rfl)
        try simp only [Act.put, List.setIfInBounds_toArray, List.set_cons_zero, List.set_cons_succ]
        refine takeY 5 _ (v := ?_) rfl rfl (by kernel_rfl) (by kernel_rfl) (by kernel_rfl) (fun _ _ _ h => h) (by kernel_rfl) ?_ (by assumption) ?_
        rotate_left 1
        · intro w hSw; (try dsimp only at hSw); go_simp; (try with_reducible rfl)
        try simp only [Act.put, List.setIfInBounds_toArray, List.set_cons_zero, List.set_cons_succ]
        refine takeY 6 _ (v := ?_) rfl rfl (by kernel_rfl) (by kernel_rfl) (by kernel_rfl) (fun _ _ _ h => h) (by kernel_rfl) ?_ (by assumption) ?_
        rotate_left 1
        · intro w hSw; (try dsimp only at hSw); go_simp; (try with_reducible rfl)
        try simp only [Act.put, List.setIfInBounds_toArray, List.set_cons_zero, List.set_cons_succ]
        refine takeY 7 _ (v := ?_) rfl rfl (by kernel_rfl) (by kernel_rfl) (by kernel_rfl) (fun _ _ _ h => h) (by kernel_rfl) ?_ (by assumption) ?_
        rotate_left 1
        · intro w hSw; (try dsimp only at hSw); go_simp; (try with_reducible rfl)
        try simp only [Act.put, List.setIfInBounds_toArray, List.set_cons_zero, List.set_cons_succ]
        refine takeY 8 _ (v := ?_) rfl rfl (by kernel_rfl) (by kernel_rfl) (by kernel_rfl) (fun _ _ _ h => h) (by kernel_rfl) ?_ (by assumption) ?_
        rotate_left 1
        · intro w hSw; (try dsimp only at hSw); go_simp; (try with_reducible rfl)
        try simp only [Act.put, List.setIfInBounds_toArray, List.set_cons_zero, List.set_cons_succ]
        refine takeY 9 _ (v := ?_) rfl rfl (by kernel_rfl) (by kernel_rfl) (by kernel_rfl) (fun _ _ _ h => h) (by kernel_rfl) ?_ (by assumption) ?_
        rotate_left 1
        · intro w hSw; (try dsimp only at hSw); go_simp; (try with_reducible rfl)
        try simp only [Act.put, List.setIfInBounds_toArray, List.set_cons_zero, List.set_cons_succ]
        refine takeY 10 _ (v := ?_) rfl rfl (by kernel_rfl) (by kernel_rfl) (by kernel_rfl) (fun _ _ _ h => h) (by kernel_rfl) ?_ (by assumption) ?_
        rotate_left 1
        · intro w hSw; (try dsimp only at hSw); go_simp; (try with_reducible rfl)
        try simp only [Act.put, List.setIfInBounds_toArray, List.set_cons_zero, List.set_cons_succ]
        refine takeY 11 _ (v := ?_) rfl rfl (by kernel_rfl) (by kernel_rfl) (by kernel_rfl) (fun _ _ _ h => h) (by kernel_rfl) ?_ (by assumption) ?_
        rotate_left 1
        · intro w hSw; (try dsimp only at hSw); go_simp; (try with_reducible rfl)
        try simp only [Act.put, List.setIfInBounds_toArray, List.set_cons_zero, List.set_cons_succ]
        refine takeY 12 _ (v := ?_) rfl rfl (by kernel_rfl) (by kernel_rfl) (by kernel_rfl) (fun _ _ _ h => h) (by kernel_rfl) ?_ (by assumption) ?_
        rotate_left 1
        · intro w hSw; (try dsimp only at hSw); go_simp; (try with_reducible rfl)
        try simp only [Act.put, List.setIfInBounds_toArray, List.set_cons_zero, List.set_cons_succ]
        refine takeY 13 _ (v := ?_) rfl rfl (by kernel_rfl) (by kernel_rfl) (by kernel_rfl) (fun _ _ _ h => h) (by kernel_rfl) ?_ (by assumption) ?_
        rotate_left 1
        · intro w hSw; (try dsimp only at hSw); go_simp; (try with_reducible rfl)
        try simp only [Act.put, List.setIfInBounds_toArray, List.set_cons_zero, List.set_cons_succ]
        refine takeY 14 _ (v := ?_) rfl rfl (by kernel_rfl) (by kernel_rfl) (by kernel_rfl) (fun _ _ _ h => h) (by kernel_rfl) ?_ (by assumption) ?_
        rotate_left 1
        · intro w hSw; (try dsimp only at hSw); go_simp; (try with_reducible rfl)
        try simp only [Act.put, List.setIfInBounds_toArray, List.set_cons_zero, List.set_cons_succ]
        refine takeY 15 _ (v := ?_) rfl rfl (by kernel_rfl) (by kernel_rfl) (by kernel_rfl) (fun _ _ _ h => h) (by kernel_rfl) ?_ (by assumption) ?_
        rotate_left 1
        · intro w hSw; (try dsimp only at hSw); go_simp; (try with_reducible rfl)
        try simp only [Act.put, List.setIfInBounds_toArray, List.set_cons_zero, List.set_cons_succ]
        refine takeY 16 _ (v := ?_) rfl rfl (by kernel_rfl) (by kernel_rfl) (by kernel_rfl) (fun _ _ _ h => h) (by kernel_rfl) ?_ (by assumption) ?_
        rotate_left 1
        · intro w hSw; (try dsimp only at hSw); go_simp; (try with_reducible rfl)
        try simp only [Act.put, List.setIfInBounds_toArray, List.set_cons_zero, List.set_cons_succ]
        refine takeY 17 _ (v := ?_) rfl rfl (by kernel_rfl) (by kernel_rfl) (by kernel_rfl) (fun _ _ _ h => h) (by kernel_rfl) ?_ (by assumption) ?_
        rotate_left 1
        · intro w hSw; (try dsimp only at hSw); go_simp; (try with_reducible rfl)
        try simp only [Act.put, List.setIfInBounds_toArray, List.set_cons_zero, List.set_cons_succ]
        refine takeY 18 _ (v := ?_) rfl rfl (by kernel_rfl) (by kernel_rfl) (by kernel_rfl) (fun _ _ _ h => h) (by kernel_rfl) ?_ (by assumption) ?_
        rotate_left 1
        · intro w hSw; (try dsimp only at hSw); go_simp; (try with_reducible rfl)
        try simp only [Act.put, List.setIfInBounds_toArray, List.set_cons_zero, List.set_cons_succ]
        refine wpAnyH_done (by kernel_rfl) ?_ _
        go_wp2_with fail
        go_roundw
        case rel => exact ⟨i + 1, k + 1, s + (d1.tdiv d0 - 1) * x, by have := HIK.out; omega, by omega, by go_num, rfl, Lib.hid HST.out.symm, Lib.hid (Below.drew hb.out)⟩
        case measure => simp [intOf]; omega
      · obtain rfl : i = n := by omega
        have E : Hid (s = cdB zs) := Lib.hid (by rw [HCB.out, hs.out, show i - 1 = k by omega])
        go_wp2_with fail
        go_ret
        exact ⟨by rw [E.out]; rfl, BW.out.trans (hb.out.mono (by omega))⟩
def coA (zs : List Int) : Int := if brB zs then cdB zs else 0
set_option maxHeartbeats 1000000 in
theorem implConductorOf_any (v : Value) (zs : List Int) (w : World) (h : ReadI w w.heap.size v zs) (hn : zs.length ≤ 1048576) (hw : ∀ z ∈ zs, (Lit.int .i64 z).wf = true) :
    Calls Try.prog 61 #[.agg #[v]] w (AnsII w (coA zs) (goC zs)) := by
  obtain ⟨n, A, c, rfl, hr, HL, _, hnc, HF, hcm⟩ := h.split2
  obtain ⟨W0, HE⟩ : ∃ W, W = w.alloc (.cells #[.slice A n c] 28) := ⟨_, rfl⟩
  have hb0 : Below w.heap.size w W0 := by rw [HE]; exact below_box _ _
  have hq0 : BoxI W0 w.heap.size (.slice A n c) := by rw [HE]; exact BoxI.new _ _ _
  have H0 := Lib.hid ((h.below hb0).more hb0.size)
  have HNN := Lib.hid hn
  have HWW := Lib.hid hw
  have HEQ := Lib.hid HE
  clear h hr HE HF hn hw
  rcases bool_fs (brB zs) with hp | hp
  · have HP := Lib.hid hp
    clear hp
    go_enter Try.func61, Try.ntmps61
    go_wp2_with fail
    rw [← HEQ.out]
    refine (implIsBranch_if _ zs _ false H0.out HNN.out HWW.out HP.out).mono ?_
    rintro e w1 ⟨rfl, hb1⟩
    go_wp2
    go_ret2
    exact ⟨by rw [coA, goC, HP.out]; rfl, hb0.trans (hb1.mono hb0.size)⟩
  · have HP := Lib.hid hp
    clear hp
    go_enter Try.func61, Try.ntmps61
    go_wp2_with fail
    rw [← HEQ.out]
    refine (implIsBranch_if _ zs _ true H0.out HNN.out HWW.out HP.out).mono ?_
    rintro e w1 ⟨rfl, hb1⟩
    have cb1 : w1.cell? ⟨w.heap.size, 0, none⟩ = some (.slice A n c) := by rw [hb1.cell (p := ⟨w.heap.size, 0, none⟩) hq0.2]; exact hq0.1
    have H1 := Lib.hid ((H0.out.below hb1).more hb1.size)
    have B1 := Lib.hid (hb0.trans (hb1.mono hb0.size))
    clear hb1 hb0 HEQ
    go_wp2_with fail
    refine (conductor_any _ zs w1 H1.out HNN.out HP.out).mono ?_
    rintro e w2 ⟨rfl, hb2⟩
    have B2 := Lib.hid (B1.out.trans (hb2.mono B1.out.size))
    clear hb2
    go_wp2_with fail
    go_ret2
    exact ⟨by rw [coA, goC, HP.out]; rfl, B2.out⟩
end Go.Proofs.Ytncgkoanckefmaa
