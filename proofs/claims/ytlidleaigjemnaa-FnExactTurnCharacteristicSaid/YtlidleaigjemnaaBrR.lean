/- TurnCharacteristic, the model's: contract. Conditions: stated at each theorem. -/
import Derived.Test.YtlidleaigjemnaaBrQ
namespace Go.Proofs.Ytlidleaigjemnaa
open Go.ChangeShapes Go.WideShapes Go.ChangeAt Go.RowKit
set_option linter.unusedVariables false
set_option linter.unusedSimpArgs false

/-- The least number is its own opposite: no division is made. -/
theorem l01Gcd_min (a b : Int) (w : World) (h : 0 ≤ a) (hb : b = -9223372036854775808) :
    Calls Try.prog 73 #[.int .i64 a, .int .i64 b] w fun e w' => e = .returned (.int .i64 a) ∧ w = w' := by
  have h0 : ¬ a < 0 := by omega
  subst hb
  have hwr : wrap64 9223372036854775808 = -9223372036854775808 := by first | rfl | (unfold wrap64; rfl) | (unfold wrap64; decide) | simp [wrap64]
  go_enter Try.func73, Try.ntmps73
  go_wp2
  go_loop [0, 1] (fun va vb => va = .int .i64 a ∧ vb = .int .i64 (-9223372036854775808)) (fun _ _ => 0)
  case atStart => exact ⟨rfl, rfl⟩
  case round =>
    obtain ⟨rfl, rfl⟩ := hrel
    go_wp2
    go_ret
    exact ⟨rfl, rfl⟩
theorem isB_no1 {p e z : Int} {r : List Int} (h : (Int.gcd e z : Int) = e) : isB p e (z :: r) = false := by rw [isB_step]; simp [h]
theorem isB_no2 {p e z : Int} {r : List Int} (h : ¬ (p < z ∧ z ≤ 2000)) : isB p e (z :: r) = false := by rw [isB_step]; simp [h]
theorem isB_yes {p e z : Int} {r : List Int} (h : p < z ∧ z ≤ 2000) (h2 : ¬ (Int.gcd e z : Int) = e) : isB p e (z :: r) = isB z (Int.gcd e z : Int) r := by rw [isB_step]; simp [h, h2]
theorem tu_no0 {z0 b0 : Int} {r : List Int} (h : ¬(2 ≤ z0 ∧ z0 ≤ 64)) : tuB (z0 :: b0 :: r) = false := tuB_no (fun k => h k.1)
theorem tu_no1 {z0 b0 : Int} {r : List Int} (h : ¬(1 ≤ b0 ∧ b0 ≤ z0 - 1)) : tuB (z0 :: b0 :: r) = false := tuB_no (fun k => h k.2)

set_option maxHeartbeats 4000000 in
theorem specTurnCharacteristic_any (v : Value) (zs : List Int) (w : World) (h : ReadI w w.heap.size v zs) (hn : zs.length ≤ 1048576) (hw : ∀ z ∈ zs, (Lit.int .i64 z).wf = true) :
    Calls Try.prog 47 #[v] w (AnsRC w (tuA zs) (tuC zs)) := by
  obtain ⟨n, A, c, rfl, hr, HL, HN, hnc, HF, hcm⟩ := h.split2
  rw [HL.out] at hn
  obtain ⟨W0, HE⟩ : ∃ W, W = w.alloc (.cells #[.slice none 0 0] 26) := ⟨_, rfl⟩
  have hS0 : Start1 w W0 := by rw [HE]; exact Start1.new _
  have hb0 := hS0.below
  have H0 := Lib.hid (hr.below hb0)
  have S0 := Lib.hid hS0
  have HW := Lib.hid hw
  have HEQ := Lib.hid HE
  have hsw : w.heap.size < W0.heap.size := hS0.res.2
  have hsw1 : W0.heap.size = w.heap.size + 1 := hS0.size
  clear h hr hb0 hS0 hw HE
  by_cases hn2 : n < 2
  · have E := Lib.hid (tu_no (tuB_short (zs := zs) (by rw [HL.out]; exact hn2)))
    have hn1 : (n : Int) < 2 := by omega
    go_enter Try.func47, Try.ntmps47
    go_wp2_with fail
    rw [← HEQ.out]
    obtain ⟨l2, l3, l4⟩ := S0.out.later (Below.refl _ _)
    refine wp_region_held_drew (S := fun w' => w'.cell? ⟨w.heap.size, 0, none⟩ = some (.slice none 0 0)) (by kernel_rfl) l2 (fun hHeld => ?_)
    refine takeY 0 9 (v := ?_) rfl rfl (by kernel_rfl) (by kernel_rfl) (by kernel_rfl) (fun _ _ _ h => h) (by kernel_rfl) ?_ (by assumption) ?_
    rotate_left 1
    · intro w hSw; (try dsimp only at hSw); go_simp; (try with_reducible rfl)
    try simp only [Act.put, List.setIfInBounds_toArray, List.set_cons_zero, List.set_cons_succ]
    refine takeY 1 10 (v := ?_) rfl rfl (by kernel_rfl) (by kernel_rfl) (by kernel_rfl) (fun _ _ _ h => h) (by kernel_rfl) ?_ (by assumption) ?_
    rotate_left 1
    · intro w hSw; (try dsimp only at hSw); go_simp; (try with_reducible rfl)
    try simp only [Act.put, List.setIfInBounds_toArray, List.set_cons_zero, List.set_cons_succ]
    refine takeY 2 11 (v := .bool true) rfl rfl (by kernel_rfl) (by kernel_rfl) (by kernel_rfl) (fun _ _ _ h => h) (by kernel_rfl) ?_ (by assumption) ?_
    · intro w hSw; (try dsimp only at hSw); go_simp; first | done | (with_reducible rfl) | (simp; omega)
    try simp only [Act.put, List.setIfInBounds_toArray, List.set_cons_zero, List.set_cons_succ]
    refine takeY 3 12 (v := ?_) rfl rfl (by kernel_rfl) (by kernel_rfl) (by kernel_rfl) (fun _ _ _ h => h) (by kernel_rfl) ?_ (by assumption) ?_
    rotate_left 1
    · intro w hSw; (try dsimp only at hSw); go_simp; (try with_reducible rfl)
    try simp only [Act.put, List.setIfInBounds_toArray, List.set_cons_zero, List.set_cons_succ]
    refine takeN 4 13 rfl rfl (by kernel_rfl) (by kernel_rfl) (by kernel_rfl) (fun _ _ _ h => h) (by kernel_rfl) (by assumption) ?_
    try simp only [Act.put, List.setIfInBounds_toArray, List.set_cons_zero, List.set_cons_succ]
    refine takeN 5 14 rfl rfl (by kernel_rfl) (by kernel_rfl) (by kernel_rfl) (fun _ _ _ h => h) (by kernel_rfl) (by assumption) ?_
    try simp only [Act.put, List.setIfInBounds_toArray, List.set_cons_zero, List.set_cons_succ]
    refine takeN 6 15 rfl rfl (by kernel_rfl) (by kernel_rfl) (by kernel_rfl) (fun _ _ _ h => h) (by kernel_rfl) (by assumption) ?_
    try simp only [Act.put, List.setIfInBounds_toArray, List.set_cons_zero, List.set_cons_succ]
    refine takeN 7 16 rfl rfl (by kernel_rfl) (by kernel_rfl) (by kernel_rfl) (fun _ _ _ h => h) (by kernel_rfl) (by assumption) ?_
    try simp only [Act.put, List.setIfInBounds_toArray, List.set_cons_zero, List.set_cons_succ]
    refine takeN 8 17 rfl rfl (by kernel_rfl) (by kernel_rfl) (by kernel_rfl) (fun _ _ _ h => h) (by kernel_rfl) (by assumption) ?_
    try simp only [Act.put, List.setIfInBounds_toArray, List.set_cons_zero, List.set_cons_succ]
    refine takeY 9 18 (v := ?_) rfl rfl (by kernel_rfl) (by kernel_rfl) (by kernel_rfl) (fun _ _ _ h => h) (by kernel_rfl) ?_ (by assumption) ?_
    rotate_left 1
    · intro w hSw; (try dsimp only at hSw); go_simp; (try with_reducible rfl)
    try simp only [Act.put, List.setIfInBounds_toArray, List.set_cons_zero, List.set_cons_succ]
    refine takeY 10 19 (v := ?_) rfl rfl (by kernel_rfl) (by kernel_rfl) (by kernel_rfl) (fun _ _ _ h => h) (by kernel_rfl) ?_ (by assumption) ?_
    rotate_left 1
    · intro w hSw; (try dsimp only at hSw); go_simp; (try with_reducible rfl)
    try simp only [Act.put, List.setIfInBounds_toArray, List.set_cons_zero, List.set_cons_succ]
    refine takeN 11 20 rfl rfl (by kernel_rfl) (by kernel_rfl) (by kernel_rfl) (fun _ _ _ h => h) (by kernel_rfl) (by assumption) ?_
    try simp only [Act.put, List.setIfInBounds_toArray, List.set_cons_zero, List.set_cons_succ]
    refine takeN 12 21 rfl rfl (by kernel_rfl) (by kernel_rfl) (by kernel_rfl) (fun _ _ _ h => h) (by kernel_rfl) (by assumption) ?_
    try simp only [Act.put, List.setIfInBounds_toArray, List.set_cons_zero, List.set_cons_succ]
    refine takeN 13 22 rfl rfl (by kernel_rfl) (by kernel_rfl) (by kernel_rfl) (fun _ _ _ h => h) (by kernel_rfl) (by assumption) ?_
    try simp only [Act.put, List.setIfInBounds_toArray, List.set_cons_zero, List.set_cons_succ]
    refine takeN 14 23 rfl rfl (by kernel_rfl) (by kernel_rfl) (by kernel_rfl) (fun _ _ _ h => h) (by kernel_rfl) (by assumption) ?_
    try simp only [Act.put, List.setIfInBounds_toArray, List.set_cons_zero, List.set_cons_succ]
    refine takeN 15 24 rfl rfl (by kernel_rfl) (by kernel_rfl) (by kernel_rfl) (fun _ _ _ h => h) (by kernel_rfl) (by assumption) ?_
    try simp only [Act.put, List.setIfInBounds_toArray, List.set_cons_zero, List.set_cons_succ]
    refine takeN 16 25 rfl rfl (by kernel_rfl) (by kernel_rfl) (by kernel_rfl) (fun _ _ _ h => h) (by kernel_rfl) (by assumption) ?_
    try simp only [Act.put, List.setIfInBounds_toArray, List.set_cons_zero, List.set_cons_succ]
    refine takeN 17 26 rfl rfl (by kernel_rfl) (by kernel_rfl) (by kernel_rfl) (fun _ _ _ h => h) (by kernel_rfl) (by assumption) ?_
    try simp only [Act.put, List.setIfInBounds_toArray, List.set_cons_zero, List.set_cons_succ]
    refine takeN 18 27 rfl rfl (by kernel_rfl) (by kernel_rfl) (by kernel_rfl) (fun _ _ _ h => h) (by kernel_rfl) (by assumption) ?_
    try simp only [Act.put, List.setIfInBounds_toArray, List.set_cons_zero, List.set_cons_succ]
    refine takeN 19 28 rfl rfl (by kernel_rfl) (by kernel_rfl) (by kernel_rfl) (fun _ _ _ h => h) (by kernel_rfl) (by assumption) ?_
    try simp only [Act.put, List.setIfInBounds_toArray, List.set_cons_zero, List.set_cons_succ]
    refine takeY 20 29 (v := ?_) rfl rfl (by kernel_rfl) (by kernel_rfl) (by kernel_rfl) (fun _ _ _ h => h) (by kernel_rfl) ?_ (by assumption) ?_
    rotate_left 1
    · intro w hSw; (try dsimp only at hSw); go_simp; (try with_reducible rfl)
    try simp only [Act.put, List.setIfInBounds_toArray, List.set_cons_zero, List.set_cons_succ]
    refine wpAnyH_done (by kernel_rfl) ?_ _
    go_wp2_with fail
    have cr : (W0.setCell ⟨w.heap.size, 0, none⟩ (.slice none 0 0)).drew.cell? ⟨w.heap.size, 0, none⟩ = some (.slice none 0 0) := by go_simp
    refine bodyPost_ret (v := .tuple #[.agg #[.slice none 0 0], .int .i64 2]) (by simp [results, Try.results47, go_sem, cr]) rfl ?_
    exact ansR_endG _ (Nat.le_refl _) E.out.1.symm E.out.2.symm (OwnI.nil _ _) (by intro h; cases h) (Below.drew S0.out.below) _
  obtain ⟨z0, b0, r, hzs⟩ : ∃ z0 b0 r, zs = z0 :: b0 :: r := by
    match zs, HL.out with
    | z0 :: b0 :: r, _ => exact ⟨z0, b0, r, rfl⟩
    | [], h => simp at h; omega
    | [_], h => simp at h; omega
  obtain ⟨a, rfl, hal, hcell0⟩ := H0.out.2 0 (by omega)
  obtain ⟨g, o, rfl⟩ := HF.out a rfl
  obtain ⟨a, e1, _, hcell1⟩ := H0.out.2 1 (by omega)
  cases e1
  have hgw : g < w.heap.size := hal
  have hgw0 : g < W0.heap.size := by omega
  have hc0 : W0.cell? ⟨g, o, none⟩ = some (.int .i64 z0) := by rw [add_lit, hzs] at hcell0; simpa using hcell0
  have hc1 : W0.cell? ⟨g, o + 1, none⟩ = some (.int .i64 b0) := by rw [add_lit, hzs] at hcell1; simpa using hcell1
  have hz0 := range_i64 HW.out 0
  have hb0 := range_i64 HW.out 1
  rw [hzs] at hz0 hb0
  simp only [List.getElem?_cons_zero, List.getElem?_cons_succ, Option.getD_some] at hz0 hb0
  have HZS := Lib.hid hzs
  have hn3 : (1 : Int) < (n : Int) := by omega
  have hn4 : (0 : Int) < (n : Int) := by omega
  have hn5 : ¬ (n : Int) < 2 := by omega
  have hn6 : 0 < n := by omega
  have hn7 : 1 < n := by omega
  clear hcell0 hcell1 hzs
  by_cases hzr : 2 ≤ z0 ∧ z0 ≤ 64
  rotate_left
  · have E := Lib.hid (tu_no (zs := zs) (by rw [HZS.out]; exact tu_no0 hzr))
    go_enter Try.func47, Try.ntmps47
    go_wp2_with fail
    rw [← HEQ.out]
    obtain ⟨l2, l3, l4⟩ := S0.out.later (Below.refl _ _)
    refine wp_region_held_drew (S := fun w' => w'.cell? ⟨g, o, none⟩ = some (.int .i64 z0) ∧ w'.cell? ⟨g, o + 1, none⟩ = some (.int .i64 b0)) (by kernel_rfl) ⟨hc0, hc1⟩ (fun hHeld => ?_)
    refine takeY 0 9 (v := ?_) rfl rfl (by kernel_rfl) (by kernel_rfl) (by kernel_rfl) (fun _ _ _ h => h) (by kernel_rfl) ?_ (by assumption) ?_
    rotate_left 1
    · intro w hSw; (try dsimp only at hSw); go_simp; (try with_reducible rfl)
    try simp only [Act.put, List.setIfInBounds_toArray, List.set_cons_zero, List.set_cons_succ]
    refine takeY 1 10 (v := ?_) rfl rfl (by kernel_rfl) (by kernel_rfl) (by kernel_rfl) (fun _ _ _ h => h) (by kernel_rfl) ?_ (by assumption) ?_
    rotate_left 1
    · intro w hSw; (try dsimp only at hSw); go_simp; (try with_reducible rfl)
    try simp only [Act.put, List.setIfInBounds_toArray, List.set_cons_zero, List.set_cons_succ]
    refine takeY 2 11 (v := .bool false) rfl rfl (by kernel_rfl) (by kernel_rfl) (by kernel_rfl) (fun _ _ _ h => h) (by kernel_rfl) ?_ (by assumption) ?_
    · intro w hSw; (try dsimp only at hSw); go_simp; first | done | (with_reducible rfl) | (simp; omega)
    try simp only [Act.put, List.setIfInBounds_toArray, List.set_cons_zero, List.set_cons_succ]
    refine takeY 3 12 (v := ?_) rfl rfl (by kernel_rfl) (by kernel_rfl) (by kernel_rfl) (fun _ _ _ h => h) (by kernel_rfl) ?_ (by assumption) ?_
    rotate_left 1
    · intro w hSw; (try dsimp only at hSw); go_simp; (try with_reducible rfl)
    try simp only [Act.put, List.setIfInBounds_toArray, List.set_cons_zero, List.set_cons_succ]
    refine takeY 4 13 (v := ?_) rfl rfl (by kernel_rfl) (by kernel_rfl) (by kernel_rfl) (fun _ _ _ h => h) (by kernel_rfl) ?_ (by assumption) ?_
    rotate_left 1
    · intro w hSw; (try dsimp only at hSw); go_simp; (try with_reducible rfl)
    try simp only [Act.put, List.setIfInBounds_toArray, List.set_cons_zero, List.set_cons_succ]
    refine takeY 5 14 (v := ?_) rfl rfl (by kernel_rfl) (by kernel_rfl) (by kernel_rfl) (fun _ _ _ h => h) (by kernel_rfl) ?_ (by assumption) ?_
    rotate_left 1
    · intro w hSw; (try dsimp only at hSw); go_simp; (try with_reducible rfl)
    try simp only [Act.put, List.setIfInBounds_toArray, List.set_cons_zero, List.set_cons_succ]
    refine takeY 6 15 (v := ?_) rfl rfl (by kernel_rfl) (by kernel_rfl) (by kernel_rfl) (fun _ _ _ h => h) (by kernel_rfl) ?_ (by assumption) ?_
    rotate_left 1
    · intro w hSw; (try dsimp only at hSw); go_simp; (try with_reducible rfl)
    try simp only [Act.put, List.setIfInBounds_toArray, List.set_cons_zero, List.set_cons_succ]
    refine wpAnyH_ready (rs := [7]) (by kernel_rfl) (by simp) ?_
    refine AllReadyH.cons rfl (fun K hK => ?_) AllReadyH.nil
    go_simp
    refine (in_no _ _ _ _ (by omega)).mono ?_
    rintro e wq ⟨rfl, rfl⟩
    refine hK.out _ _ (⟨hc0, hc1⟩) (fun hHeld => ?_)
    clear hK K
    try simp only [Act.put, List.setIfInBounds_toArray, List.set_cons_zero, List.set_cons_succ]
    refine takeY 8 17 (v := ?_) rfl rfl (by kernel_rfl) (by kernel_rfl) (by kernel_rfl) (fun _ _ _ h => h) (by kernel_rfl) ?_ (by assumption) ?_
    rotate_left 1
    · intro w hSw; (try dsimp only at hSw); go_simp; (try with_reducible rfl)
    try simp only [Act.put, List.setIfInBounds_toArray, List.set_cons_zero, List.set_cons_succ]
    refine takeY 9 18 (v := ?_) rfl rfl (by kernel_rfl) (by kernel_rfl) (by kernel_rfl) (fun _ _ _ h => h) (by kernel_rfl) ?_ (by assumption) ?_
    rotate_left 1
    · intro w hSw; (try dsimp only at hSw); go_simp; (try with_reducible rfl)
    try simp only [Act.put, List.setIfInBounds_toArray, List.set_cons_zero, List.set_cons_succ]
    refine takeY 10 19 (v := ?_) rfl rfl (by kernel_rfl) (by kernel_rfl) (by kernel_rfl) (fun _ _ _ h => h) (by kernel_rfl) ?_ (by assumption) ?_
    rotate_left 1
    · intro w hSw; (try dsimp only at hSw); go_simp; (try with_reducible rfl)
    try simp only [Act.put, List.setIfInBounds_toArray, List.set_cons_zero, List.set_cons_succ]
    refine takeN 11 20 rfl rfl (by kernel_rfl) (by kernel_rfl) (by kernel_rfl) (fun _ _ _ h => h) (by kernel_rfl) (by assumption) ?_
    try simp only [Act.put, List.setIfInBounds_toArray, List.set_cons_zero, List.set_cons_succ]
    refine takeN 12 21 rfl rfl (by kernel_rfl) (by kernel_rfl) (by kernel_rfl) (fun _ _ _ h => h) (by kernel_rfl) (by assumption) ?_
    try simp only [Act.put, List.setIfInBounds_toArray, List.set_cons_zero, List.set_cons_succ]
    refine takeN 13 22 rfl rfl (by kernel_rfl) (by kernel_rfl) (by kernel_rfl) (fun _ _ _ h => h) (by kernel_rfl) (by assumption) ?_
    try simp only [Act.put, List.setIfInBounds_toArray, List.set_cons_zero, List.set_cons_succ]
    refine takeN 14 23 rfl rfl (by kernel_rfl) (by kernel_rfl) (by kernel_rfl) (fun _ _ _ h => h) (by kernel_rfl) (by assumption) ?_
    try simp only [Act.put, List.setIfInBounds_toArray, List.set_cons_zero, List.set_cons_succ]
    refine takeN 15 24 rfl rfl (by kernel_rfl) (by kernel_rfl) (by kernel_rfl) (fun _ _ _ h => h) (by kernel_rfl) (by assumption) ?_
    try simp only [Act.put, List.setIfInBounds_toArray, List.set_cons_zero, List.set_cons_succ]
    refine takeN 16 25 rfl rfl (by kernel_rfl) (by kernel_rfl) (by kernel_rfl) (fun _ _ _ h => h) (by kernel_rfl) (by assumption) ?_
    try simp only [Act.put, List.setIfInBounds_toArray, List.set_cons_zero, List.set_cons_succ]
    refine takeN 17 26 rfl rfl (by kernel_rfl) (by kernel_rfl) (by kernel_rfl) (fun _ _ _ h => h) (by kernel_rfl) (by assumption) ?_
    try simp only [Act.put, List.setIfInBounds_toArray, List.set_cons_zero, List.set_cons_succ]
    refine takeN 18 27 rfl rfl (by kernel_rfl) (by kernel_rfl) (by kernel_rfl) (fun _ _ _ h => h) (by kernel_rfl) (by assumption) ?_
    try simp only [Act.put, List.setIfInBounds_toArray, List.set_cons_zero, List.set_cons_succ]
    refine takeN 19 28 rfl rfl (by kernel_rfl) (by kernel_rfl) (by kernel_rfl) (fun _ _ _ h => h) (by kernel_rfl) (by assumption) ?_
    try simp only [Act.put, List.setIfInBounds_toArray, List.set_cons_zero, List.set_cons_succ]
    refine takeY 20 29 (v := ?_) rfl rfl (by kernel_rfl) (by kernel_rfl) (by kernel_rfl) (fun _ _ _ h => h) (by kernel_rfl) ?_ (by assumption) ?_
    rotate_left 1
    · intro w hSw; (try dsimp only at hSw); go_simp; (try with_reducible rfl)
    try simp only [Act.put, List.setIfInBounds_toArray, List.set_cons_zero, List.set_cons_succ]
    refine wpAnyH_done (by kernel_rfl) ?_ _
    go_wp2_with fail
    have cr : (W0.setCell ⟨w.heap.size, 0, none⟩ (.slice none 0 0)).drew.cell? ⟨w.heap.size, 0, none⟩ = some (.slice none 0 0) := by go_simp
    refine bodyPost_ret (v := .tuple #[.agg #[.slice none 0 0], .int .i64 2]) (by simp [results, Try.results47, go_sem, cr]) rfl ?_
    exact ansR_endG _ (Nat.le_refl _) E.out.1.symm E.out.2.symm (OwnI.nil _ _) (by intro h; cases h) (Below.drew S0.out.below) _
  have p0 : IntKind.i64.wrap (z0 - 1) = z0 - 1 := IntWalk.i64_in _ (by omega)
  by_cases hbr : 1 ≤ b0 ∧ b0 ≤ z0 - 1
  rotate_left
  · have E := Lib.hid (tu_no (zs := zs) (by rw [HZS.out]; exact tu_no1 hbr))
    go_enter Try.func47, Try.ntmps47
    go_wp2_with fail
    rw [← HEQ.out]
    obtain ⟨l2, l3, l4⟩ := S0.out.later (Below.refl _ _)
    refine wp_region_held_drew (S := fun w' => w'.cell? ⟨g, o, none⟩ = some (.int .i64 z0) ∧ w'.cell? ⟨g, o + 1, none⟩ = some (.int .i64 b0)) (by kernel_rfl) ⟨hc0, hc1⟩ (fun hHeld => ?_)
    refine takeY 0 9 (v := ?_) rfl rfl (by kernel_rfl) (by kernel_rfl) (by kernel_rfl) (fun _ _ _ h => h) (by kernel_rfl) ?_ (by assumption) ?_
    rotate_left 1
    · intro w hSw; (try dsimp only at hSw); go_simp; (try with_reducible rfl)
    try simp only [Act.put, List.setIfInBounds_toArray, List.set_cons_zero, List.set_cons_succ]
    refine takeY 1 10 (v := ?_) rfl rfl (by kernel_rfl) (by kernel_rfl) (by kernel_rfl) (fun _ _ _ h => h) (by kernel_rfl) ?_ (by assumption) ?_
    rotate_left 1
    · intro w hSw; (try dsimp only at hSw); go_simp; (try with_reducible rfl)
    try simp only [Act.put, List.setIfInBounds_toArray, List.set_cons_zero, List.set_cons_succ]
    refine takeY 2 11 (v := .bool false) rfl rfl (by kernel_rfl) (by kernel_rfl) (by kernel_rfl) (fun _ _ _ h => h) (by kernel_rfl) ?_ (by assumption) ?_
    · intro w hSw; (try dsimp only at hSw); go_simp; first | done | (with_reducible rfl) | (simp; omega)
    try simp only [Act.put, List.setIfInBounds_toArray, List.set_cons_zero, List.set_cons_succ]
    refine takeY 3 12 (v := ?_) rfl rfl (by kernel_rfl) (by kernel_rfl) (by kernel_rfl) (fun _ _ _ h => h) (by kernel_rfl) ?_ (by assumption) ?_
    rotate_left 1
    · intro w hSw; (try dsimp only at hSw); go_simp; (try with_reducible rfl)
    try simp only [Act.put, List.setIfInBounds_toArray, List.set_cons_zero, List.set_cons_succ]
    refine takeY 4 13 (v := ?_) rfl rfl (by kernel_rfl) (by kernel_rfl) (by kernel_rfl) (fun _ _ _ h => h) (by kernel_rfl) ?_ (by assumption) ?_
    rotate_left 1
    · intro w hSw; (try dsimp only at hSw); go_simp; (try with_reducible rfl)
    try simp only [Act.put, List.setIfInBounds_toArray, List.set_cons_zero, List.set_cons_succ]
    refine takeY 5 14 (v := ?_) rfl rfl (by kernel_rfl) (by kernel_rfl) (by kernel_rfl) (fun _ _ _ h => h) (by kernel_rfl) ?_ (by assumption) ?_
    rotate_left 1
    · intro w hSw; (try dsimp only at hSw); go_simp; (try with_reducible rfl)
    try simp only [Act.put, List.setIfInBounds_toArray, List.set_cons_zero, List.set_cons_succ]
    refine takeY 6 15 (v := ?_) rfl rfl (by kernel_rfl) (by kernel_rfl) (by kernel_rfl) (fun _ _ _ h => h) (by kernel_rfl) ?_ (by assumption) ?_
    rotate_left 1
    · intro w hSw; (try dsimp only at hSw); go_simp; (try with_reducible rfl)
    try simp only [Act.put, List.setIfInBounds_toArray, List.set_cons_zero, List.set_cons_succ]
    refine wpAnyH_ready (rs := [7]) (by kernel_rfl) (by simp) ?_
    refine AllReadyH.cons rfl (fun K hK => ?_) AllReadyH.nil
    go_simp
    refine (in_yes _ _ _ _ (by omega) (by omega)).mono ?_
    rintro e wq ⟨rfl, rfl⟩
    refine hK.out _ _ (⟨hc0, hc1⟩) (fun hHeld => ?_)
    clear hK K
    try simp only [Act.put, List.setIfInBounds_toArray, List.set_cons_zero, List.set_cons_succ]
    refine takeY 8 17 (v := ?_) rfl rfl (by kernel_rfl) (by kernel_rfl) (by kernel_rfl) (fun _ _ _ h => h) (by kernel_rfl) ?_ (by assumption) ?_
    rotate_left 1
    · intro w hSw; (try dsimp only at hSw); go_simp; (try with_reducible rfl)
    try simp only [Act.put, List.setIfInBounds_toArray, List.set_cons_zero, List.set_cons_succ]
    refine takeY 9 18 (v := ?_) rfl rfl (by kernel_rfl) (by kernel_rfl) (by kernel_rfl) (fun _ _ _ h => h) (by kernel_rfl) ?_ (by assumption) ?_
    rotate_left 1
    · intro w hSw; (try dsimp only at hSw); go_simp; (try with_reducible rfl)
    try simp only [Act.put, List.setIfInBounds_toArray, List.set_cons_zero, List.set_cons_succ]
    refine takeY 10 19 (v := ?_) rfl rfl (by kernel_rfl) (by kernel_rfl) (by kernel_rfl) (fun _ _ _ h => h) (by kernel_rfl) ?_ (by assumption) ?_
    rotate_left 1
    · intro w hSw; (try dsimp only at hSw); go_simp; (try with_reducible rfl)
    try simp only [Act.put, List.setIfInBounds_toArray, List.set_cons_zero, List.set_cons_succ]
    refine takeY 11 20 (v := ?_) rfl rfl (by kernel_rfl) (by kernel_rfl) (by kernel_rfl) (fun _ _ _ h => h) (by kernel_rfl) ?_ (by assumption) ?_
    rotate_left 1
    · intro w hSw; (try dsimp only at hSw); go_simp; (try with_reducible rfl)
    try simp only [Act.put, List.setIfInBounds_toArray, List.set_cons_zero, List.set_cons_succ]
    refine takeY 12 21 (v := ?_) rfl rfl (by kernel_rfl) (by kernel_rfl) (by kernel_rfl) (fun _ _ _ h => h) (by kernel_rfl) ?_ (by assumption) ?_
    rotate_left 1
    · intro w hSw; (try dsimp only at hSw); go_simp; (try with_reducible rfl)
    try simp only [Act.put, List.setIfInBounds_toArray, List.set_cons_zero, List.set_cons_succ]
    refine takeY 13 22 (v := ?_) rfl rfl (by kernel_rfl) (by kernel_rfl) (by kernel_rfl) (fun _ _ _ h => h) (by kernel_rfl) ?_ (by assumption) ?_
    rotate_left 1
    · intro w hSw; (try dsimp only at hSw); go_simp; (try with_reducible rfl)
    try simp only [Act.put, List.setIfInBounds_toArray, List.set_cons_zero, List.set_cons_succ]
    refine takeY 14 23 (v := ?_) rfl rfl (by kernel_rfl) (by kernel_rfl) (by kernel_rfl) (fun _ _ _ h => h) (by kernel_rfl) ?_ (by assumption) ?_
    rotate_left 1
    · intro w hSw; (try dsimp only at hSw); go_simp; (try with_reducible rfl)
    try simp only [Act.put, List.setIfInBounds_toArray, List.set_cons_zero, List.set_cons_succ]
    refine takeY 15 24 (v := ?_) rfl rfl (by kernel_rfl) (by kernel_rfl) (by kernel_rfl) (fun _ _ _ h => h) (by kernel_rfl) ?_ (by assumption) ?_
    rotate_left 1
    · intro w hSw; (try dsimp only at hSw); go_simp; (try with_reducible rfl)
    try simp only [Act.put, List.setIfInBounds_toArray, List.set_cons_zero, List.set_cons_succ]
    refine takeY 16 25 (v := ?_) rfl rfl (by kernel_rfl) (by kernel_rfl) (by kernel_rfl) (fun _ _ _ h => h) (by kernel_rfl) ?_ (by assumption) ?_
    rotate_left 1
    · intro w hSw; (try dsimp only at hSw); go_simp; (try with_reducible rfl)
    try simp only [Act.put, List.setIfInBounds_toArray, List.set_cons_zero, List.set_cons_succ]
    refine takeY 17 26 (v := ?_) rfl rfl (by kernel_rfl) (by kernel_rfl) (by kernel_rfl) (fun _ _ _ h => h) (by kernel_rfl) ?_ (by assumption) ?_
    rotate_left 1
    · intro w hSw; (try dsimp only at hSw); go_simp; (try with_reducible rfl)
    try simp only [Act.put, List.setIfInBounds_toArray, List.set_cons_zero, List.set_cons_succ]
    refine wpAnyH_ready (rs := [18]) (by kernel_rfl) (by simp) ?_
    refine AllReadyH.cons rfl (fun K hK => ?_) AllReadyH.nil
    go_simp
    refine (in_no _ _ _ _ (by omega)).mono ?_
    rintro e wq ⟨rfl, rfl⟩
    refine hK.out _ _ (⟨hc0, hc1⟩) (fun hHeld => ?_)
    clear hK K
    try simp only [Act.put, List.setIfInBounds_toArray, List.set_cons_zero, List.set_cons_succ]
    refine takeY 19 28 (v := ?_) rfl rfl (by kernel_rfl) (by kernel_rfl) (by kernel_rfl) (fun _ _ _ h => h) (by kernel_rfl) ?_ (by assumption) ?_
    rotate_left 1
    · intro w hSw; (try dsimp only at hSw); go_simp; (try with_reducible rfl)
    try simp only [Act.put, List.setIfInBounds_toArray, List.set_cons_zero, List.set_cons_succ]
    refine takeY 20 29 (v := ?_) rfl rfl (by kernel_rfl) (by kernel_rfl) (by kernel_rfl) (fun _ _ _ h => h) (by kernel_rfl) ?_ (by assumption) ?_
    rotate_left 1
    · intro w hSw; (try dsimp only at hSw); go_simp; (try with_reducible rfl)
    try simp only [Act.put, List.setIfInBounds_toArray, List.set_cons_zero, List.set_cons_succ]
    refine wpAnyH_done (by kernel_rfl) ?_ _
    go_wp2_with fail
    have cr : (W0.setCell ⟨w.heap.size, 0, none⟩ (.slice none 0 0)).drew.cell? ⟨w.heap.size, 0, none⟩ = some (.slice none 0 0) := by go_simp
    refine bodyPost_ret (v := .tuple #[.agg #[.slice none 0 0], .int .i64 2]) (by simp [results, Try.results47, go_sem, cr]) rfl ?_
    exact ansR_endG _ (Nat.le_refl _) E.out.1.symm E.out.2.symm (OwnI.nil _ _) (by intro h; cases h) (Below.drew S0.out.below) _
  have hgz := gcd_le (e := z0) (z := b0) hbr.1
  have hgz2 := gcd_le_left (e := z0) (z := b0) (by omega)
  have EB : Hid (tuB zs = isB b0 (Int.gcd z0 b0 : Int) (zs.drop 2)) := Lib.hid (by rw [HZS.out]; exact tuB_isB hbr.1 (by omega) hzr.2)
  have HZ1 : Hid (zs[1]?.getD 0 = b0) := Lib.hid (by rw [HZS.out]; rfl)
  go_enter Try.func47, Try.ntmps47
  go_wp2_with fail
  rw [← HEQ.out]
  obtain ⟨l2, l3, l4⟩ := S0.out.later (Below.refl _ _)
  refine wp_region_held_drew (S := fun w' => w'.cell? ⟨g, o, none⟩ = some (.int .i64 z0) ∧ w'.cell? ⟨g, o + 1, none⟩ = some (.int .i64 b0)) (by kernel_rfl) ⟨hc0, hc1⟩ (fun hHeld => ?_)
  refine takeY 0 9 (v := ?_) rfl rfl (by kernel_rfl) (by kernel_rfl) (by kernel_rfl) (fun _ _ _ h => h) (by kernel_rfl) ?_ (by assumption) ?_
  rotate_left 1
  · intro w hSw; (try dsimp only at hSw); go_simp; (try with_reducible rfl)
  try simp only [Act.put, List.setIfInBounds_toArray, List.set_cons_zero, List.set_cons_succ]
  refine takeY 1 10 (v := ?_) rfl rfl (by kernel_rfl) (by kernel_rfl) (by kernel_rfl) (fun _ _ _ h => h) (by kernel_rfl) ?_ (by assumption) ?_
  rotate_left 1
  · intro w hSw; (try dsimp only at hSw); go_simp; (try with_reducible rfl)
  try simp only [Act.put, List.setIfInBounds_toArray, List.set_cons_zero, List.set_cons_succ]
  refine takeY 2 11 (v := .bool false) rfl rfl (by kernel_rfl) (by kernel_rfl) (by kernel_rfl) (fun _ _ _ h => h) (by kernel_rfl) ?_ (by assumption) ?_
  · intro w hSw; (try dsimp only at hSw); go_simp; first | done | (with_reducible rfl) | (simp; omega)
  try simp only [Act.put, List.setIfInBounds_toArray, List.set_cons_zero, List.set_cons_succ]
  refine takeY 3 12 (v := ?_) rfl rfl (by kernel_rfl) (by kernel_rfl) (by kernel_rfl) (fun _ _ _ h => h) (by kernel_rfl) ?_ (by assumption) ?_
  rotate_left 1
  · intro w hSw; (try dsimp only at hSw); go_simp; (try with_reducible rfl)
  try simp only [Act.put, List.setIfInBounds_toArray, List.set_cons_zero, List.set_cons_succ]
  refine takeY 4 13 (v := ?_) rfl rfl (by kernel_rfl) (by kernel_rfl) (by kernel_rfl) (fun _ _ _ h => h) (by kernel_rfl) ?_ (by assumption) ?_
  rotate_left 1
  · intro w hSw; (try dsimp only at hSw); go_simp; (try with_reducible rfl)
  try simp only [Act.put, List.setIfInBounds_toArray, List.set_cons_zero, List.set_cons_succ]
  refine takeY 5 14 (v := ?_) rfl rfl (by kernel_rfl) (by kernel_rfl) (by kernel_rfl) (fun _ _ _ h => h) (by kernel_rfl) ?_ (by assumption) ?_
  rotate_left 1
  · intro w hSw; (try dsimp only at hSw); go_simp; (try with_reducible rfl)
  try simp only [Act.put, List.setIfInBounds_toArray, List.set_cons_zero, List.set_cons_succ]
  refine takeY 6 15 (v := ?_) rfl rfl (by kernel_rfl) (by kernel_rfl) (by kernel_rfl) (fun _ _ _ h => h) (by kernel_rfl) ?_ (by assumption) ?_
  rotate_left 1
  · intro w hSw; (try dsimp only at hSw); go_simp; (try with_reducible rfl)
  try simp only [Act.put, List.setIfInBounds_toArray, List.set_cons_zero, List.set_cons_succ]
  refine wpAnyH_ready (rs := [7]) (by kernel_rfl) (by simp) ?_
  refine AllReadyH.cons rfl (fun K hK => ?_) AllReadyH.nil
  go_simp
  refine (in_yes _ _ _ _ (by omega) (by omega)).mono ?_
  rintro e wq ⟨rfl, rfl⟩
  refine hK.out _ _ (⟨hc0, hc1⟩) (fun hHeld => ?_)
  clear hK K
  try simp only [Act.put, List.setIfInBounds_toArray, List.set_cons_zero, List.set_cons_succ]
  refine takeY 8 17 (v := ?_) rfl rfl (by kernel_rfl) (by kernel_rfl) (by kernel_rfl) (fun _ _ _ h => h) (by kernel_rfl) ?_ (by assumption) ?_
  rotate_left 1
  · intro w hSw; (try dsimp only at hSw); go_simp; (try with_reducible rfl)
  try simp only [Act.put, List.setIfInBounds_toArray, List.set_cons_zero, List.set_cons_succ]
  refine takeY 9 18 (v := ?_) rfl rfl (by kernel_rfl) (by kernel_rfl) (by kernel_rfl) (fun _ _ _ h => h) (by kernel_rfl) ?_ (by assumption) ?_
  rotate_left 1
  · intro w hSw; (try dsimp only at hSw); go_simp; (try with_reducible rfl)
  try simp only [Act.put, List.setIfInBounds_toArray, List.set_cons_zero, List.set_cons_succ]
  refine takeY 10 19 (v := ?_) rfl rfl (by kernel_rfl) (by kernel_rfl) (by kernel_rfl) (fun _ _ _ h => h) (by kernel_rfl) ?_ (by assumption) ?_
  rotate_left 1
  · intro w hSw; (try dsimp only at hSw); go_simp; (try with_reducible rfl)
  try simp only [Act.put, List.setIfInBounds_toArray, List.set_cons_zero, List.set_cons_succ]
  refine takeY 11 20 (v := ?_) rfl rfl (by kernel_rfl) (by kernel_rfl) (by kernel_rfl) (fun _ _ _ h => h) (by kernel_rfl) ?_ (by assumption) ?_
  rotate_left 1
  · intro w hSw; (try dsimp only at hSw); go_simp; (try with_reducible rfl)
  try simp only [Act.put, List.setIfInBounds_toArray, List.set_cons_zero, List.set_cons_succ]
  refine takeY 12 21 (v := ?_) rfl rfl (by kernel_rfl) (by kernel_rfl) (by kernel_rfl) (fun _ _ _ h => h) (by kernel_rfl) ?_ (by assumption) ?_
  rotate_left 1
  · intro w hSw; (try dsimp only at hSw); go_simp; (try with_reducible rfl)
  try simp only [Act.put, List.setIfInBounds_toArray, List.set_cons_zero, List.set_cons_succ]
  refine takeY 13 22 (v := ?_) rfl rfl (by kernel_rfl) (by kernel_rfl) (by kernel_rfl) (fun _ _ _ h => h) (by kernel_rfl) ?_ (by assumption) ?_
  rotate_left 1
  · intro w hSw; (try dsimp only at hSw); go_simp; (try with_reducible rfl)
  try simp only [Act.put, List.setIfInBounds_toArray, List.set_cons_zero, List.set_cons_succ]
  refine takeY 14 23 (v := ?_) rfl rfl (by kernel_rfl) (by kernel_rfl) (by kernel_rfl) (fun _ _ _ h => h) (by kernel_rfl) ?_ (by assumption) ?_
  rotate_left 1
  · intro w hSw; (try dsimp only at hSw); go_simp; (try with_reducible rfl)
  try simp only [Act.put, List.setIfInBounds_toArray, List.set_cons_zero, List.set_cons_succ]
  refine takeY 15 24 (v := ?_) rfl rfl (by kernel_rfl) (by kernel_rfl) (by kernel_rfl) (fun _ _ _ h => h) (by kernel_rfl) ?_ (by assumption) ?_
  rotate_left 1
  · intro w hSw; (try dsimp only at hSw); go_simp; (try with_reducible rfl)
  try simp only [Act.put, List.setIfInBounds_toArray, List.set_cons_zero, List.set_cons_succ]
  refine takeY 16 25 (v := ?_) rfl rfl (by kernel_rfl) (by kernel_rfl) (by kernel_rfl) (fun _ _ _ h => h) (by kernel_rfl) ?_ (by assumption) ?_
  rotate_left 1
  · intro w hSw; (try dsimp only at hSw); go_simp; (try with_reducible rfl)
  try simp only [Act.put, List.setIfInBounds_toArray, List.set_cons_zero, List.set_cons_succ]
  refine takeY 17 26 (v := ?_) rfl rfl (by kernel_rfl) (by kernel_rfl) (by kernel_rfl) (fun _ _ _ h => h) (by kernel_rfl) ?_ (by assumption) ?_
  rotate_left 1
  · intro w hSw; (try dsimp only at hSw); go_simp; (try with_reducible rfl)
  try simp only [Act.put, List.setIfInBounds_toArray, List.set_cons_zero, List.set_cons_succ]
  refine wpAnyH_ready (rs := [18]) (by kernel_rfl) (by simp) ?_
  refine AllReadyH.cons rfl (fun K hK => ?_) AllReadyH.nil
  go_simp
  refine (in_yes _ _ _ _ (by omega) (by omega)).mono ?_
  rintro e wq ⟨rfl, rfl⟩
  refine hK.out _ _ (⟨hc0, hc1⟩) (fun hHeld => ?_)
  clear hK K
  try simp only [Act.put, List.setIfInBounds_toArray, List.set_cons_zero, List.set_cons_succ]
  refine takeY 19 28 (v := ?_) rfl rfl (by kernel_rfl) (by kernel_rfl) (by kernel_rfl) (fun _ _ _ h => h) (by kernel_rfl) ?_ (by assumption) ?_
  rotate_left 1
  · intro w hSw; (try dsimp only at hSw); go_simp; (try with_reducible rfl)
  try simp only [Act.put, List.setIfInBounds_toArray, List.set_cons_zero, List.set_cons_succ]
  refine takeY 20 29 (v := ?_) rfl rfl (by kernel_rfl) (by kernel_rfl) (by kernel_rfl) (fun _ _ _ h => h) (by kernel_rfl) ?_ (by assumption) ?_
  rotate_left 1
  · intro w hSw; (try dsimp only at hSw); go_simp; (try with_reducible rfl)
  try simp only [Act.put, List.setIfInBounds_toArray, List.set_cons_zero, List.set_cons_succ]
  refine wpAnyH_done (by kernel_rfl) ?_ _
  go_wp2_with fail
  obtain ⟨V0, hV0⟩ : ∃ W, W = W0.drew := ⟨_, rfl⟩
  have BV : Hid (Below W0.heap.size W0 V0) := Lib.hid (by rw [hV0]; exact Below.drew (Below.refl _ _))
  have hsV : V0.heap.size = W0.heap.size := by rw [hV0]; rfl
  have HV := Lib.hid (H0.out.below (BV.out.mono (by omega)))
  have hv0 : V0.cell? ⟨g, o, none⟩ = some (.int .i64 z0) := by rw [hV0]; exact hc0
  have hv1 : V0.cell? ⟨g, o + 1, none⟩ = some (.int .i64 b0) := by rw [hV0]; exact hc1
  rw [← hV0]
  clear hV0 hc0 hc1 l2 l3 l4
  go_loopw [4, 5] (fun ve vi wr => ∃ (k : Nat) (x y : Int), (1 ≤ k ∧ k ≤ n) ∧ (1 ≤ x ∧ x ≤ 64) ∧ (1 ≤ y ∧ y ≤ 2000) ∧ ve = .int .i64 x ∧ vi = .int .i64 k ∧ Hid (Below V0.heap.size V0 wr) ∧ Hid (k = 1 → x = z0) ∧ Hid (1 < k → zs[k - 1]?.getD 0 = y) ∧ Hid (1 < k → tuB zs = isB y x (zs.drop k))) (fun _ vi _ => n - (intOf vi).toNat)
  case atStart => exact ⟨1, z0, 1, by omega, by omega, by omega, rfl, rfl, Lib.hid (Below.refl _ _), Lib.hid (fun _ => rfl), Lib.hid (fun h => by omega), Lib.hid (fun h => by omega)⟩
  case round =>
    obtain ⟨k, x, y, hk, hx, hy, rfl, rfl, hwr, hk1, hk2, hg⟩ := hrel
    have hsame : ∀ (p : Addr), p.block < V0.heap.size → wr.cell? p = V0.cell? p := fun p hp => hwr.out.cell hp
    have BR : Hid (Below W0.heap.size W0 wr) := Lib.hid (BV.out.trans (hwr.out.mono (by omega)))
    have BW : Hid (Below w.heap.size w wr) := Lib.hid (S0.out.below.trans (BR.out.mono (by omega)))
    obtain ⟨l2, l3, l4⟩ := S0.out.later BR.out
    have q0 : wr.cell? ⟨g, o, none⟩ = some (.int .i64 z0) := (hsame _ (by show g < _; omega)).trans hv0
    have q1 : wr.cell? ⟨g, o + 1, none⟩ = some (.int .i64 b0) := (hsame _ (by show g < _; omega)).trans hv1
    by_cases hlt : k < n
    · have h8 : (k : Int) < (n : Int) := by omega
      have h9 : (0 : Int) ≤ (k : Int) := by omega
      by_cases hk3 : k = 1
      · have hxz := hk1.out hk3
        subst hxz
        subst hk3
        have hgx : ((Int.gcd x b0 : Int) == x) = false := by simp; omega
        have hb9 : ¬ (2000 : Int) < b0 := by omega
        have hgn : (0 : Int) ≤ (Int.gcd x b0 : Int) ∧ (Int.gcd x b0 : Int) ≤ 64 := by omega
        clear hsame
        go_wp2_with (go_at_call 73; refine (l01Gcd_any _ _ _ (by omega) (by omega) (by omega) (by omega)).mono ?_; rintro e w' ⟨rfl, rfl⟩)
        refine wp_region_held_drew (S := fun w' => w'.cell? ⟨g, o + 1, none⟩ = some (.int .i64 b0)) (by kernel_rfl) q1 (fun hHeld => ?_)
        refine takeY 0 46 (v := ?_) rfl rfl (by kernel_rfl) (by kernel_rfl) (by kernel_rfl) (fun _ _ _ h => h) (by kernel_rfl) ?_ (by assumption) ?_
        rotate_left 1
        · intro w hSw; (try dsimp only at hSw); go_simp; (try with_reducible rfl)
        try simp only [Act.put, List.setIfInBounds_toArray, List.set_cons_zero, List.set_cons_succ]
        refine takeY 1 47 (v := ?_) rfl rfl (by kernel_rfl) (by kernel_rfl) (by kernel_rfl) (fun _ _ _ h => h) (by kernel_rfl) ?_ (by assumption) ?_
        rotate_left 1
        · intro w hSw; (try dsimp only at hSw); go_simp; (try with_reducible rfl)
        try simp only [Act.put, List.setIfInBounds_toArray, List.set_cons_zero, List.set_cons_succ]
        refine takeY 2 48 (v := .bool false) rfl rfl (by kernel_rfl) (by kernel_rfl) (by kernel_rfl) (fun _ _ _ h => h) (by kernel_rfl) ?_ (by assumption) ?_
        · intro w hSw; (try dsimp only at hSw); go_simp; first | done | (with_reducible rfl) | (simp; omega)
        try simp only [Act.put, List.setIfInBounds_toArray, List.set_cons_zero, List.set_cons_succ]
        refine takeY 3 49 (v := ?_) rfl rfl (by kernel_rfl) (by kernel_rfl) (by kernel_rfl) (fun _ _ _ h => h) (by kernel_rfl) ?_ (by assumption) ?_
        rotate_left 1
        · intro w hSw; (try dsimp only at hSw); go_simp; (try with_reducible rfl)
        try simp only [Act.put, List.setIfInBounds_toArray, List.set_cons_zero, List.set_cons_succ]
        refine takeY 4 50 (v := ?_) rfl rfl (by kernel_rfl) (by kernel_rfl) (by kernel_rfl) (fun _ _ _ h => h) (by kernel_rfl) ?_ (by assumption) ?_
        rotate_left 1
        · intro w hSw; (try dsimp only at hSw); go_simp; (try with_reducible rfl)
        try simp only [Act.put, List.setIfInBounds_toArray, List.set_cons_zero, List.set_cons_succ]
        refine takeY 5 51 (v := ?_) rfl rfl (by kernel_rfl) (by kernel_rfl) (by kernel_rfl) (fun _ _ _ h => h) (by kernel_rfl) ?_ (by assumption) ?_
        rotate_left 1
        · intro w hSw; (try dsimp only at hSw); go_simp; (try with_reducible rfl)
        try simp only [Act.put, List.setIfInBounds_toArray, List.set_cons_zero, List.set_cons_succ]
        refine takeY 6 52 (v := ?_) rfl rfl (by kernel_rfl) (by kernel_rfl) (by kernel_rfl) (fun _ _ _ h => h) (by kernel_rfl) ?_ (by assumption) ?_
        rotate_left 1
        · intro w hSw; (try dsimp only at hSw); go_simp; (try with_reducible rfl)
        try simp only [Act.put, List.setIfInBounds_toArray, List.set_cons_zero, List.set_cons_succ]
        refine takeY 7 53 (v := ?_) rfl rfl (by kernel_rfl) (by kernel_rfl) (by kernel_rfl) (fun _ _ _ h => h) (by kernel_rfl) ?_ (by assumption) ?_
        rotate_left 1
        · intro w hSw; (try dsimp only at hSw); go_simp; (try with_reducible rfl)
        try simp only [Act.put, List.setIfInBounds_toArray, List.set_cons_zero, List.set_cons_succ]
        refine takeY 8 54 (v := .bool false) rfl rfl (by kernel_rfl) (by kernel_rfl) (by kernel_rfl) (fun _ _ _ h => h) (by kernel_rfl) ?_ (by assumption) ?_
        · intro w hSw; (try dsimp only at hSw); go_simp; first | done | (with_reducible rfl) | (simp; omega)
        try simp only [Act.put, List.setIfInBounds_toArray, List.set_cons_zero, List.set_cons_succ]
        refine takeY 9 55 (v := ?_) rfl rfl (by kernel_rfl) (by kernel_rfl) (by kernel_rfl) (fun _ _ _ h => h) (by kernel_rfl) ?_ (by assumption) ?_
        rotate_left 1
        · intro w hSw; (try dsimp only at hSw); go_simp; (try with_reducible rfl)
        try simp only [Act.put, List.setIfInBounds_toArray, List.set_cons_zero, List.set_cons_succ]
        refine takeY 10 56 (v := ?_) rfl rfl (by kernel_rfl) (by kernel_rfl) (by kernel_rfl) (fun _ _ _ h => h) (by kernel_rfl) ?_ (by assumption) ?_
        rotate_left 1
        · intro w hSw; (try dsimp only at hSw); go_simp; (try with_reducible rfl)
        try simp only [Act.put, List.setIfInBounds_toArray, List.set_cons_zero, List.set_cons_succ]
        refine takeY 11 57 (v := ?_) rfl rfl (by kernel_rfl) (by kernel_rfl) (by kernel_rfl) (fun _ _ _ h => h) (by kernel_rfl) ?_ (by assumption) ?_
        rotate_left 1
        · intro w hSw; (try dsimp only at hSw); go_simp; (try with_reducible rfl)
        try simp only [Act.put, List.setIfInBounds_toArray, List.set_cons_zero, List.set_cons_succ]
        refine takeY 12 58 (v := .bool false) rfl rfl (by kernel_rfl) (by kernel_rfl) (by kernel_rfl) (fun _ _ _ h => h) (by kernel_rfl) ?_ (by assumption) ?_
        · intro w hSw; (try dsimp only at hSw); go_simp; first | done | (with_reducible rfl) | (simp; omega)
        try simp only [Act.put, List.setIfInBounds_toArray, List.set_cons_zero, List.set_cons_succ]
        refine takeY 13 59 (v := ?_) rfl rfl (by kernel_rfl) (by kernel_rfl) (by kernel_rfl) (fun _ _ _ h => h) (by kernel_rfl) ?_ (by assumption) ?_
        rotate_left 1
        · intro w hSw; (try dsimp only at hSw); go_simp; (try with_reducible rfl)
        try simp only [Act.put, List.setIfInBounds_toArray, List.set_cons_zero, List.set_cons_succ]
        refine takeN 14 60 rfl rfl (by kernel_rfl) (by kernel_rfl) (by kernel_rfl) (fun _ _ _ h => h) (by kernel_rfl) (by assumption) ?_
        try simp only [Act.put, List.setIfInBounds_toArray, List.set_cons_zero, List.set_cons_succ]
        refine takeN 15 61 rfl rfl (by kernel_rfl) (by kernel_rfl) (by kernel_rfl) (fun _ _ _ h => h) (by kernel_rfl) (by assumption) ?_
        try simp only [Act.put, List.setIfInBounds_toArray, List.set_cons_zero, List.set_cons_succ]
        refine takeN 16 62 rfl rfl (by kernel_rfl) (by kernel_rfl) (by kernel_rfl) (fun _ _ _ h => h) (by kernel_rfl) (by assumption) ?_
        try simp only [Act.put, List.setIfInBounds_toArray, List.set_cons_zero, List.set_cons_succ]
        refine takeN 17 63 rfl rfl (by kernel_rfl) (by kernel_rfl) (by kernel_rfl) (fun _ _ _ h => h) (by kernel_rfl) (by assumption) ?_
        try simp only [Act.put, List.setIfInBounds_toArray, List.set_cons_zero, List.set_cons_succ]
        refine takeN 18 64 rfl rfl (by kernel_rfl) (by kernel_rfl) (by kernel_rfl) (fun _ _ _ h => h) (by kernel_rfl) (by assumption) ?_
        try simp only [Act.put, List.setIfInBounds_toArray, List.set_cons_zero, List.set_cons_succ]
        refine takeN 19 65 rfl rfl (by kernel_rfl) (by kernel_rfl) (by kernel_rfl) (fun _ _ _ h => h) (by kernel_rfl) (by assumption) ?_
        try simp only [Act.put, List.setIfInBounds_toArray, List.set_cons_zero, List.set_cons_succ]
        refine takeN 20 66 rfl rfl (by kernel_rfl) (by kernel_rfl) (by kernel_rfl) (fun _ _ _ h => h) (by kernel_rfl) (by assumption) ?_
        try simp only [Act.put, List.setIfInBounds_toArray, List.set_cons_zero, List.set_cons_succ]
        refine takeN 21 67 rfl rfl (by kernel_rfl) (by kernel_rfl) (by kernel_rfl) (fun _ _ _ h => h) (by kernel_rfl) (by assumption) ?_
        try simp only [Act.put, List.setIfInBounds_toArray, List.set_cons_zero, List.set_cons_succ]
        refine takeN 22 68 rfl rfl (by kernel_rfl) (by kernel_rfl) (by kernel_rfl) (fun _ _ _ h => h) (by kernel_rfl) (by assumption) ?_
        try simp only [Act.put, List.setIfInBounds_toArray, List.set_cons_zero, List.set_cons_succ]
        refine takeN 23 69 rfl rfl (by kernel_rfl) (by kernel_rfl) (by kernel_rfl) (fun _ _ _ h => h) (by kernel_rfl) (by assumption) ?_
        try simp only [Act.put, List.setIfInBounds_toArray, List.set_cons_zero, List.set_cons_succ]
        refine takeY 24 70 (v := ?_) rfl rfl (by kernel_rfl) (by kernel_rfl) (by kernel_rfl) (fun _ _ _ h => h) (by kernel_rfl) ?_ (by assumption) ?_
        rotate_left 1
        · intro w hSw; (try dsimp only at hSw); go_simp; (try with_reducible rfl)
        try simp only [Act.put, List.setIfInBounds_toArray, List.set_cons_zero, List.set_cons_succ]
        refine takeY 25 71 (v := ?_) rfl rfl (by kernel_rfl) (by kernel_rfl) (by kernel_rfl) (fun _ _ _ h => h) (by kernel_rfl) ?_ (by assumption) ?_
        rotate_left 1
        · intro w hSw; (try dsimp only at hSw); go_simp; (try with_reducible rfl)
        try simp only [Act.put, List.setIfInBounds_toArray, List.set_cons_zero, List.set_cons_succ]
        refine wpAnyH_done (by kernel_rfl) ?_ _
        go_wp2_with fail
        go_roundw
        case rel => exact ⟨1 + 1, (Int.gcd x b0 : Int), b0, by omega, by omega, by omega, by first | rfl | go_num, by go_num, Lib.hid (Below.drew hwr.out), Lib.hid (fun h => by omega), Lib.hid (fun _ => HZ1.out), Lib.hid (fun _ => EB.out)⟩
        case measure => simp [intOf]; omega
      have hk4 : 1 < k := by omega
      obtain ⟨a, e1, _, hcell0⟩ := HV.out.2 k hlt
      cases e1
      obtain ⟨a, e1, _, hcell1⟩ := HV.out.2 (k - 1) (by omega)
      cases e1
      have hz := range_i64 HW.out k
      have HG : Hid (tuB zs = isB y x ((zs[k]?.getD 0) :: zs.drop (k + 1))) := Lib.hid (by rw [hg.out hk4, drop_at HL.out hlt])
      have hc2 : wr.cell? ⟨g, o + k, none⟩ = some (.int .i64 (zs[k]?.getD 0)) := by rw [← add_lit, hsame _ (by rw [add_block]; show g < _; omega)]; simpa using hcell0
      have hc3 : wr.cell? ⟨g, o + (k - 1), none⟩ = some (.int .i64 y) := by rw [← hk2.out hk4, ← add_lit, hsame _ (by rw [add_block]; show g < _; omega)]; simpa using hcell1
      have HZ2 : Hid (1 < k + 1 → zs[k + 1 - 1]?.getD 0 = zs[k]?.getD 0) := Lib.hid (fun _ => rfl)
      generalize zs[k]?.getD 0 = z at *
      have h5 : (0 : Int) ≤ (k : Int) - 1 := by omega
      have h6 : (k : Int) - 1 < (n : Int) := by omega
      have h7 : ((k : Int) - 1).toNat = k - 1 := by omega
      have h10 : (1 : Int) < (k : Int) := by omega
      have h11 : (1 : Int) ≤ (k : Int) := by omega
      have h12 : (k : Int) - 1 < (n : Int) := by omega
      have h13 : k - 1 < n := by omega
      have h14 : k < n := by omega
      have h15 : 1 < k := by omega
      have h16 : 1 ≤ k := by omega
      have p1 : IntKind.i64.wrap ((k : Int) - 1) = (k : Int) - 1 := IntWalk.i64_in _ (by omega)
      clear hcell0 hcell1 hsame
      by_cases hmin : z = -9223372036854775808
      · have E := Lib.hid (tu_no (zs := zs) (by rw [HG.out]; exact isB_no2 (by omega)))
        have hTm : ((x : Int) == x) = true := by simp
        have HMN := Lib.hid hmin
        clear hmin
        go_wp2_with (go_at_call 73; refine (l01Gcd_min _ _ _ (by omega) HMN.out).mono ?_; rintro e w' ⟨rfl, rfl⟩)
        refine wp_region_held_drew (S := fun w' => w'.cell? ⟨g, o + k, none⟩ = some (.int .i64 z) ∧ w'.cell? ⟨g, o + (k - 1), none⟩ = some (.int .i64 y)) (by kernel_rfl) ⟨hc2, hc3⟩ (fun hHeld => ?_)
        refine takeY 0 46 (v := ?_) rfl rfl (by kernel_rfl) (by kernel_rfl) (by kernel_rfl) (fun _ _ _ h => h) (by kernel_rfl) ?_ (by assumption) ?_
        rotate_left 1
        · intro w hSw; (try dsimp only at hSw); go_simp; (try with_reducible rfl)
        try simp only [Act.put, List.setIfInBounds_toArray, List.set_cons_zero, List.set_cons_succ]
        refine takeY 1 47 (v := ?_) rfl rfl (by kernel_rfl) (by kernel_rfl) (by kernel_rfl) (fun _ _ _ h => h) (by kernel_rfl) ?_ (by assumption) ?_
        rotate_left 1
        · intro w hSw; (try dsimp only at hSw); go_simp; (try with_reducible rfl)
        try simp only [Act.put, List.setIfInBounds_toArray, List.set_cons_zero, List.set_cons_succ]
        refine takeY 2 48 (v := .bool true) rfl rfl (by kernel_rfl) (by kernel_rfl) (by kernel_rfl) (fun _ _ _ h => h) (by kernel_rfl) ?_ (by assumption) ?_
        · intro w hSw; (try dsimp only at hSw); go_simp; first | done | (with_reducible rfl) | (simp; omega)
        try simp only [Act.put, List.setIfInBounds_toArray, List.set_cons_zero, List.set_cons_succ]
        refine takeY 3 49 (v := ?_) rfl rfl (by kernel_rfl) (by kernel_rfl) (by kernel_rfl) (fun _ _ _ h => h) (by kernel_rfl) ?_ (by assumption) ?_
        rotate_left 1
        · intro w hSw; (try dsimp only at hSw); go_simp; (try with_reducible rfl)
        try simp only [Act.put, List.setIfInBounds_toArray, List.set_cons_zero, List.set_cons_succ]
        refine takeN 4 50 rfl rfl (by kernel_rfl) (by kernel_rfl) (by kernel_rfl) (fun _ _ _ h => h) (by kernel_rfl) (by assumption) ?_
        try simp only [Act.put, List.setIfInBounds_toArray, List.set_cons_zero, List.set_cons_succ]
        refine takeN 5 51 rfl rfl (by kernel_rfl) (by kernel_rfl) (by kernel_rfl) (fun _ _ _ h => h) (by kernel_rfl) (by assumption) ?_
        try simp only [Act.put, List.setIfInBounds_toArray, List.set_cons_zero, List.set_cons_succ]
        refine takeN 6 52 rfl rfl (by kernel_rfl) (by kernel_rfl) (by kernel_rfl) (fun _ _ _ h => h) (by kernel_rfl) (by assumption) ?_
        try simp only [Act.put, List.setIfInBounds_toArray, List.set_cons_zero, List.set_cons_succ]
        refine takeN 7 53 rfl rfl (by kernel_rfl) (by kernel_rfl) (by kernel_rfl) (fun _ _ _ h => h) (by kernel_rfl) (by assumption) ?_
        try simp only [Act.put, List.setIfInBounds_toArray, List.set_cons_zero, List.set_cons_succ]
        refine takeN 8 54 rfl rfl (by kernel_rfl) (by kernel_rfl) (by kernel_rfl) (fun _ _ _ h => h) (by kernel_rfl) (by assumption) ?_
        try simp only [Act.put, List.setIfInBounds_toArray, List.set_cons_zero, List.set_cons_succ]
        refine takeY 9 55 (v := ?_) rfl rfl (by kernel_rfl) (by kernel_rfl) (by kernel_rfl) (fun _ _ _ h => h) (by kernel_rfl) ?_ (by assumption) ?_
        rotate_left 1
        · intro w hSw; (try dsimp only at hSw); go_simp; (try with_reducible rfl)
        try simp only [Act.put, List.setIfInBounds_toArray, List.set_cons_zero, List.set_cons_succ]
        refine takeY 10 56 (v := ?_) rfl rfl (by kernel_rfl) (by kernel_rfl) (by kernel_rfl) (fun _ _ _ h => h) (by kernel_rfl) ?_ (by assumption) ?_
        rotate_left 1
        · intro w hSw; (try dsimp only at hSw); go_simp; (try with_reducible rfl)
        try simp only [Act.put, List.setIfInBounds_toArray, List.set_cons_zero, List.set_cons_succ]
        refine takeN 11 57 rfl rfl (by kernel_rfl) (by kernel_rfl) (by kernel_rfl) (fun _ _ _ h => h) (by kernel_rfl) (by assumption) ?_
        try simp only [Act.put, List.setIfInBounds_toArray, List.set_cons_zero, List.set_cons_succ]
        refine takeN 12 58 rfl rfl (by kernel_rfl) (by kernel_rfl) (by kernel_rfl) (fun _ _ _ h => h) (by kernel_rfl) (by assumption) ?_
        try simp only [Act.put, List.setIfInBounds_toArray, List.set_cons_zero, List.set_cons_succ]
        refine takeN 13 59 rfl rfl (by kernel_rfl) (by kernel_rfl) (by kernel_rfl) (fun _ _ _ h => h) (by kernel_rfl) (by assumption) ?_
        try simp only [Act.put, List.setIfInBounds_toArray, List.set_cons_zero, List.set_cons_succ]
        refine takeN 14 60 rfl rfl (by kernel_rfl) (by kernel_rfl) (by kernel_rfl) (fun _ _ _ h => h) (by kernel_rfl) (by assumption) ?_
        try simp only [Act.put, List.setIfInBounds_toArray, List.set_cons_zero, List.set_cons_succ]
        refine takeN 15 61 rfl rfl (by kernel_rfl) (by kernel_rfl) (by kernel_rfl) (fun _ _ _ h => h) (by kernel_rfl) (by assumption) ?_
        try simp only [Act.put, List.setIfInBounds_toArray, List.set_cons_zero, List.set_cons_succ]
        refine takeN 16 62 rfl rfl (by kernel_rfl) (by kernel_rfl) (by kernel_rfl) (fun _ _ _ h => h) (by kernel_rfl) (by assumption) ?_
        try simp only [Act.put, List.setIfInBounds_toArray, List.set_cons_zero, List.set_cons_succ]
        refine takeN 17 63 rfl rfl (by kernel_rfl) (by kernel_rfl) (by kernel_rfl) (fun _ _ _ h => h) (by kernel_rfl) (by assumption) ?_
        try simp only [Act.put, List.setIfInBounds_toArray, List.set_cons_zero, List.set_cons_succ]
        refine takeN 18 64 rfl rfl (by kernel_rfl) (by kernel_rfl) (by kernel_rfl) (fun _ _ _ h => h) (by kernel_rfl) (by assumption) ?_
        try simp only [Act.put, List.setIfInBounds_toArray, List.set_cons_zero, List.set_cons_succ]
        refine takeN 19 65 rfl rfl (by kernel_rfl) (by kernel_rfl) (by kernel_rfl) (fun _ _ _ h => h) (by kernel_rfl) (by assumption) ?_
        try simp only [Act.put, List.setIfInBounds_toArray, List.set_cons_zero, List.set_cons_succ]
        refine takeN 20 66 rfl rfl (by kernel_rfl) (by kernel_rfl) (by kernel_rfl) (fun _ _ _ h => h) (by kernel_rfl) (by assumption) ?_
        try simp only [Act.put, List.setIfInBounds_toArray, List.set_cons_zero, List.set_cons_succ]
        refine takeN 21 67 rfl rfl (by kernel_rfl) (by kernel_rfl) (by kernel_rfl) (fun _ _ _ h => h) (by kernel_rfl) (by assumption) ?_
        try simp only [Act.put, List.setIfInBounds_toArray, List.set_cons_zero, List.set_cons_succ]
        refine takeN 22 68 rfl rfl (by kernel_rfl) (by kernel_rfl) (by kernel_rfl) (fun _ _ _ h => h) (by kernel_rfl) (by assumption) ?_
        try simp only [Act.put, List.setIfInBounds_toArray, List.set_cons_zero, List.set_cons_succ]
        refine takeN 23 69 rfl rfl (by kernel_rfl) (by kernel_rfl) (by kernel_rfl) (fun _ _ _ h => h) (by kernel_rfl) (by assumption) ?_
        try simp only [Act.put, List.setIfInBounds_toArray, List.set_cons_zero, List.set_cons_succ]
        refine takeN 24 70 rfl rfl (by kernel_rfl) (by kernel_rfl) (by kernel_rfl) (fun _ _ _ h => h) (by kernel_rfl) (by assumption) ?_
        try simp only [Act.put, List.setIfInBounds_toArray, List.set_cons_zero, List.set_cons_succ]
        refine takeY 25 71 (v := ?_) rfl rfl (by kernel_rfl) (by kernel_rfl) (by kernel_rfl) (fun _ _ _ h => h) (by kernel_rfl) ?_ (by assumption) ?_
        rotate_left 1
        · intro w hSw; (try dsimp only at hSw); go_simp; (try with_reducible rfl)
        try simp only [Act.put, List.setIfInBounds_toArray, List.set_cons_zero, List.set_cons_succ]
        refine wpAnyH_done (by kernel_rfl) ?_ _
        go_wp2_with fail
        have cr : (wr.setCell ⟨w.heap.size, 0, none⟩ (.slice none 0 0)).drew.cell? ⟨w.heap.size, 0, none⟩ = some (.slice none 0 0) := by go_simp
        refine bodyPost_ret (v := .tuple #[.agg #[.slice none 0 0], .int .i64 2]) (by simp [results, Try.results47, go_sem, cr]) rfl ?_
        exact ansR_endG _ (Nat.le_refl _) E.out.1.symm E.out.2.symm (OwnI.nil _ _) (by intro h; cases h) (Below.drew BW.out) _
      have hgl := gcd_le_left (e := x) (z := z) hx.1
      have hgn : (0 : Int) ≤ (Int.gcd x z : Int) ∧ (Int.gcd x z : Int) ≤ 64 := by omega
      by_cases hgx : (Int.gcd x z : Int) = x
      · have E := Lib.hid (tu_no (zs := zs) (by rw [HG.out]; exact isB_no1 hgx))
        have hT : ((Int.gcd x z : Int) == x) = true := by simpa using hgx
        clear hgx
        go_wp2_with (go_at_call 73; refine (l01Gcd_any _ _ _ (by omega) (by omega) (by omega) (by omega)).mono ?_; rintro e w' ⟨rfl, rfl⟩)
        refine wp_region_held_drew (S := fun w' => w'.cell? ⟨g, o + k, none⟩ = some (.int .i64 z) ∧ w'.cell? ⟨g, o + (k - 1), none⟩ = some (.int .i64 y)) (by kernel_rfl) ⟨hc2, hc3⟩ (fun hHeld => ?_)
        refine takeY 0 46 (v := ?_) rfl rfl (by kernel_rfl) (by kernel_rfl) (by kernel_rfl) (fun _ _ _ h => h) (by kernel_rfl) ?_ (by assumption) ?_
        rotate_left 1
        · intro w hSw; (try dsimp only at hSw); go_simp; (try with_reducible rfl)
        try simp only [Act.put, List.setIfInBounds_toArray, List.set_cons_zero, List.set_cons_succ]
        refine takeY 1 47 (v := ?_) rfl rfl (by kernel_rfl) (by kernel_rfl) (by kernel_rfl) (fun _ _ _ h => h) (by kernel_rfl) ?_ (by assumption) ?_
        rotate_left 1
        · intro w hSw; (try dsimp only at hSw); go_simp; (try with_reducible rfl)
        try simp only [Act.put, List.setIfInBounds_toArray, List.set_cons_zero, List.set_cons_succ]
        refine takeY 2 48 (v := .bool true) rfl rfl (by kernel_rfl) (by kernel_rfl) (by kernel_rfl) (fun _ _ _ h => h) (by kernel_rfl) ?_ (by assumption) ?_
        · intro w hSw; (try dsimp only at hSw); go_simp; first | done | (with_reducible rfl) | (simp; omega)
        try simp only [Act.put, List.setIfInBounds_toArray, List.set_cons_zero, List.set_cons_succ]
        refine takeY 3 49 (v := ?_) rfl rfl (by kernel_rfl) (by kernel_rfl) (by kernel_rfl) (fun _ _ _ h => h) (by kernel_rfl) ?_ (by assumption) ?_
        rotate_left 1
        · intro w hSw; (try dsimp only at hSw); go_simp; (try with_reducible rfl)
        try simp only [Act.put, List.setIfInBounds_toArray, List.set_cons_zero, List.set_cons_succ]
        refine takeN 4 50 rfl rfl (by kernel_rfl) (by kernel_rfl) (by kernel_rfl) (fun _ _ _ h => h) (by kernel_rfl) (by assumption) ?_
        try simp only [Act.put, List.setIfInBounds_toArray, List.set_cons_zero, List.set_cons_succ]
        refine takeN 5 51 rfl rfl (by kernel_rfl) (by kernel_rfl) (by kernel_rfl) (fun _ _ _ h => h) (by kernel_rfl) (by assumption) ?_
        try simp only [Act.put, List.setIfInBounds_toArray, List.set_cons_zero, List.set_cons_succ]
        refine takeN 6 52 rfl rfl (by kernel_rfl) (by kernel_rfl) (by kernel_rfl) (fun _ _ _ h => h) (by kernel_rfl) (by assumption) ?_
        try simp only [Act.put, List.setIfInBounds_toArray, List.set_cons_zero, List.set_cons_succ]
        refine takeN 7 53 rfl rfl (by kernel_rfl) (by kernel_rfl) (by kernel_rfl) (fun _ _ _ h => h) (by kernel_rfl) (by assumption) ?_
        try simp only [Act.put, List.setIfInBounds_toArray, List.set_cons_zero, List.set_cons_succ]
        refine takeN 8 54 rfl rfl (by kernel_rfl) (by kernel_rfl) (by kernel_rfl) (fun _ _ _ h => h) (by kernel_rfl) (by assumption) ?_
        try simp only [Act.put, List.setIfInBounds_toArray, List.set_cons_zero, List.set_cons_succ]
        refine takeY 9 55 (v := ?_) rfl rfl (by kernel_rfl) (by kernel_rfl) (by kernel_rfl) (fun _ _ _ h => h) (by kernel_rfl) ?_ (by assumption) ?_
        rotate_left 1
        · intro w hSw; (try dsimp only at hSw); go_simp; (try with_reducible rfl)
        try simp only [Act.put, List.setIfInBounds_toArray, List.set_cons_zero, List.set_cons_succ]
        refine takeY 10 56 (v := ?_) rfl rfl (by kernel_rfl) (by kernel_rfl) (by kernel_rfl) (fun _ _ _ h => h) (by kernel_rfl) ?_ (by assumption) ?_
        rotate_left 1
        · intro w hSw; (try dsimp only at hSw); go_simp; (try with_reducible rfl)
        try simp only [Act.put, List.setIfInBounds_toArray, List.set_cons_zero, List.set_cons_succ]
        refine takeN 11 57 rfl rfl (by kernel_rfl) (by kernel_rfl) (by kernel_rfl) (fun _ _ _ h => h) (by kernel_rfl) (by assumption) ?_
        try simp only [Act.put, List.setIfInBounds_toArray, List.set_cons_zero, List.set_cons_succ]
        refine takeN 12 58 rfl rfl (by kernel_rfl) (by kernel_rfl) (by kernel_rfl) (fun _ _ _ h => h) (by kernel_rfl) (by assumption) ?_
        try simp only [Act.put, List.setIfInBounds_toArray, List.set_cons_zero, List.set_cons_succ]
        refine takeN 13 59 rfl rfl (by kernel_rfl) (by kernel_rfl) (by kernel_rfl) (fun _ _ _ h => h) (by kernel_rfl) (by assumption) ?_
        try simp only [Act.put, List.setIfInBounds_toArray, List.set_cons_zero, List.set_cons_succ]
        refine takeN 14 60 rfl rfl (by kernel_rfl) (by kernel_rfl) (by kernel_rfl) (fun _ _ _ h => h) (by kernel_rfl) (by assumption) ?_
        try simp only [Act.put, List.setIfInBounds_toArray, List.set_cons_zero, List.set_cons_succ]
        refine takeN 15 61 rfl rfl (by kernel_rfl) (by kernel_rfl) (by kernel_rfl) (fun _ _ _ h => h) (by kernel_rfl) (by assumption) ?_
        try simp only [Act.put, List.setIfInBounds_toArray, List.set_cons_zero, List.set_cons_succ]
        refine takeN 16 62 rfl rfl (by kernel_rfl) (by kernel_rfl) (by kernel_rfl) (fun _ _ _ h => h) (by kernel_rfl) (by assumption) ?_
        try simp only [Act.put, List.setIfInBounds_toArray, List.set_cons_zero, List.set_cons_succ]
        refine takeN 17 63 rfl rfl (by kernel_rfl) (by kernel_rfl) (by kernel_rfl) (fun _ _ _ h => h) (by kernel_rfl) (by assumption) ?_
        try simp only [Act.put, List.setIfInBounds_toArray, List.set_cons_zero, List.set_cons_succ]
        refine takeN 18 64 rfl rfl (by kernel_rfl) (by kernel_rfl) (by kernel_rfl) (fun _ _ _ h => h) (by kernel_rfl) (by assumption) ?_
        try simp only [Act.put, List.setIfInBounds_toArray, List.set_cons_zero, List.set_cons_succ]
        refine takeN 19 65 rfl rfl (by kernel_rfl) (by kernel_rfl) (by kernel_rfl) (fun _ _ _ h => h) (by kernel_rfl) (by assumption) ?_
        try simp only [Act.put, List.setIfInBounds_toArray, List.set_cons_zero, List.set_cons_succ]
        refine takeN 20 66 rfl rfl (by kernel_rfl) (by kernel_rfl) (by kernel_rfl) (fun _ _ _ h => h) (by kernel_rfl) (by assumption) ?_
        try simp only [Act.put, List.setIfInBounds_toArray, List.set_cons_zero, List.set_cons_succ]
        refine takeN 21 67 rfl rfl (by kernel_rfl) (by kernel_rfl) (by kernel_rfl) (fun _ _ _ h => h) (by kernel_rfl) (by assumption) ?_
        try simp only [Act.put, List.setIfInBounds_toArray, List.set_cons_zero, List.set_cons_succ]
        refine takeN 22 68 rfl rfl (by kernel_rfl) (by kernel_rfl) (by kernel_rfl) (fun _ _ _ h => h) (by kernel_rfl) (by assumption) ?_
        try simp only [Act.put, List.setIfInBounds_toArray, List.set_cons_zero, List.set_cons_succ]
        refine takeN 23 69 rfl rfl (by kernel_rfl) (by kernel_rfl) (by kernel_rfl) (fun _ _ _ h => h) (by kernel_rfl) (by assumption) ?_
        try simp only [Act.put, List.setIfInBounds_toArray, List.set_cons_zero, List.set_cons_succ]
        refine takeN 24 70 rfl rfl (by kernel_rfl) (by kernel_rfl) (by kernel_rfl) (fun _ _ _ h => h) (by kernel_rfl) (by assumption) ?_
        try simp only [Act.put, List.setIfInBounds_toArray, List.set_cons_zero, List.set_cons_succ]
        refine takeY 25 71 (v := ?_) rfl rfl (by kernel_rfl) (by kernel_rfl) (by kernel_rfl) (fun _ _ _ h => h) (by kernel_rfl) ?_ (by assumption) ?_
        rotate_left 1
        · intro w hSw; (try dsimp only at hSw); go_simp; (try with_reducible rfl)
        try simp only [Act.put, List.setIfInBounds_toArray, List.set_cons_zero, List.set_cons_succ]
        refine wpAnyH_done (by kernel_rfl) ?_ _
        go_wp2_with fail
        have cr : (wr.setCell ⟨w.heap.size, 0, none⟩ (.slice none 0 0)).drew.cell? ⟨w.heap.size, 0, none⟩ = some (.slice none 0 0) := by go_simp
        refine bodyPost_ret (v := .tuple #[.agg #[.slice none 0 0], .int .i64 2]) (by simp [results, Try.results47, go_sem, cr]) rfl ?_
        exact ansR_endG _ (Nat.le_refl _) E.out.1.symm E.out.2.symm (OwnI.nil _ _) (by intro h; cases h) (Below.drew BW.out) _
      have hT : ((Int.gcd x z : Int) == x) = false := by simpa using hgx
      by_cases h20 : 2000 < z
      · have E := Lib.hid (tu_no (zs := zs) (by rw [HG.out]; exact isB_no2 (by omega)))
        clear hgx
        go_wp2_with (go_at_call 73; refine (l01Gcd_any _ _ _ (by omega) (by omega) (by omega) (by omega)).mono ?_; rintro e w' ⟨rfl, rfl⟩)
        refine wp_region_held_drew (S := fun w' => w'.cell? ⟨g, o + k, none⟩ = some (.int .i64 z) ∧ w'.cell? ⟨g, o + (k - 1), none⟩ = some (.int .i64 y)) (by kernel_rfl) ⟨hc2, hc3⟩ (fun hHeld => ?_)
        refine takeY 0 46 (v := ?_) rfl rfl (by kernel_rfl) (by kernel_rfl) (by kernel_rfl) (fun _ _ _ h => h) (by kernel_rfl) ?_ (by assumption) ?_
        rotate_left 1
        · intro w hSw; (try dsimp only at hSw); go_simp; (try with_reducible rfl)
        try simp only [Act.put, List.setIfInBounds_toArray, List.set_cons_zero, List.set_cons_succ]
        refine takeY 1 47 (v := ?_) rfl rfl (by kernel_rfl) (by kernel_rfl) (by kernel_rfl) (fun _ _ _ h => h) (by kernel_rfl) ?_ (by assumption) ?_
        rotate_left 1
        · intro w hSw; (try dsimp only at hSw); go_simp; (try with_reducible rfl)
        try simp only [Act.put, List.setIfInBounds_toArray, List.set_cons_zero, List.set_cons_succ]
        refine takeY 2 48 (v := .bool false) rfl rfl (by kernel_rfl) (by kernel_rfl) (by kernel_rfl) (fun _ _ _ h => h) (by kernel_rfl) ?_ (by assumption) ?_
        · intro w hSw; (try dsimp only at hSw); go_simp; first | done | (with_reducible rfl) | (simp; omega)
        try simp only [Act.put, List.setIfInBounds_toArray, List.set_cons_zero, List.set_cons_succ]
        refine takeY 3 49 (v := ?_) rfl rfl (by kernel_rfl) (by kernel_rfl) (by kernel_rfl) (fun _ _ _ h => h) (by kernel_rfl) ?_ (by assumption) ?_
        rotate_left 1
        · intro w hSw; (try dsimp only at hSw); go_simp; (try with_reducible rfl)
        try simp only [Act.put, List.setIfInBounds_toArray, List.set_cons_zero, List.set_cons_succ]
        refine takeY 4 50 (v := ?_) rfl rfl (by kernel_rfl) (by kernel_rfl) (by kernel_rfl) (fun _ _ _ h => h) (by kernel_rfl) ?_ (by assumption) ?_
        rotate_left 1
        · intro w hSw; (try dsimp only at hSw); go_simp; (try with_reducible rfl)
        try simp only [Act.put, List.setIfInBounds_toArray, List.set_cons_zero, List.set_cons_succ]
        refine takeY 5 51 (v := ?_) rfl rfl (by kernel_rfl) (by kernel_rfl) (by kernel_rfl) (fun _ _ _ h => h) (by kernel_rfl) ?_ (by assumption) ?_
        rotate_left 1
        · intro w hSw; (try dsimp only at hSw); go_simp; (try with_reducible rfl)
        try simp only [Act.put, List.setIfInBounds_toArray, List.set_cons_zero, List.set_cons_succ]
        refine takeY 6 52 (v := ?_) rfl rfl (by kernel_rfl) (by kernel_rfl) (by kernel_rfl) (fun _ _ _ h => h) (by kernel_rfl) ?_ (by assumption) ?_
        rotate_left 1
        · intro w hSw; (try dsimp only at hSw); go_simp; (try with_reducible rfl)
        try simp only [Act.put, List.setIfInBounds_toArray, List.set_cons_zero, List.set_cons_succ]
        refine takeY 7 53 (v := ?_) rfl rfl (by kernel_rfl) (by kernel_rfl) (by kernel_rfl) (fun _ _ _ h => h) (by kernel_rfl) ?_ (by assumption) ?_
        rotate_left 1
        · intro w hSw; (try dsimp only at hSw); go_simp; (try with_reducible rfl)
        try simp only [Act.put, List.setIfInBounds_toArray, List.set_cons_zero, List.set_cons_succ]
        refine takeY 8 54 (v := .bool true) rfl rfl (by kernel_rfl) (by kernel_rfl) (by kernel_rfl) (fun _ _ _ h => h) (by kernel_rfl) ?_ (by assumption) ?_
        · intro w hSw; (try dsimp only at hSw); go_simp; first | done | (with_reducible rfl) | (simp; omega)
        try simp only [Act.put, List.setIfInBounds_toArray, List.set_cons_zero, List.set_cons_succ]
        refine takeY 9 55 (v := ?_) rfl rfl (by kernel_rfl) (by kernel_rfl) (by kernel_rfl) (fun _ _ _ h => h) (by kernel_rfl) ?_ (by assumption) ?_
        rotate_left 1
        · intro w hSw; (try dsimp only at hSw); go_simp; (try with_reducible rfl)
        try simp only [Act.put, List.setIfInBounds_toArray, List.set_cons_zero, List.set_cons_succ]
        refine takeY 10 56 (v := ?_) rfl rfl (by kernel_rfl) (by kernel_rfl) (by kernel_rfl) (fun _ _ _ h => h) (by kernel_rfl) ?_ (by assumption) ?_
        rotate_left 1
        · intro w hSw; (try dsimp only at hSw); go_simp; (try with_reducible rfl)
        try simp only [Act.put, List.setIfInBounds_toArray, List.set_cons_zero, List.set_cons_succ]
        refine takeN 11 57 rfl rfl (by kernel_rfl) (by kernel_rfl) (by kernel_rfl) (fun _ _ _ h => h) (by kernel_rfl) (by assumption) ?_
        try simp only [Act.put, List.setIfInBounds_toArray, List.set_cons_zero, List.set_cons_succ]
        refine takeN 12 58 rfl rfl (by kernel_rfl) (by kernel_rfl) (by kernel_rfl) (fun _ _ _ h => h) (by kernel_rfl) (by assumption) ?_
        try simp only [Act.put, List.setIfInBounds_toArray, List.set_cons_zero, List.set_cons_succ]
        refine takeN 13 59 rfl rfl (by kernel_rfl) (by kernel_rfl) (by kernel_rfl) (fun _ _ _ h => h) (by kernel_rfl) (by assumption) ?_
        try simp only [Act.put, List.setIfInBounds_toArray, List.set_cons_zero, List.set_cons_succ]
        refine takeN 14 60 rfl rfl (by kernel_rfl) (by kernel_rfl) (by kernel_rfl) (fun _ _ _ h => h) (by kernel_rfl) (by assumption) ?_
        try simp only [Act.put, List.setIfInBounds_toArray, List.set_cons_zero, List.set_cons_succ]
        refine takeN 15 61 rfl rfl (by kernel_rfl) (by kernel_rfl) (by kernel_rfl) (fun _ _ _ h => h) (by kernel_rfl) (by assumption) ?_
        try simp only [Act.put, List.setIfInBounds_toArray, List.set_cons_zero, List.set_cons_succ]
        refine takeN 16 62 rfl rfl (by kernel_rfl) (by kernel_rfl) (by kernel_rfl) (fun _ _ _ h => h) (by kernel_rfl) (by assumption) ?_
        try simp only [Act.put, List.setIfInBounds_toArray, List.set_cons_zero, List.set_cons_succ]
        refine takeN 17 63 rfl rfl (by kernel_rfl) (by kernel_rfl) (by kernel_rfl) (fun _ _ _ h => h) (by kernel_rfl) (by assumption) ?_
        try simp only [Act.put, List.setIfInBounds_toArray, List.set_cons_zero, List.set_cons_succ]
        refine takeN 18 64 rfl rfl (by kernel_rfl) (by kernel_rfl) (by kernel_rfl) (fun _ _ _ h => h) (by kernel_rfl) (by assumption) ?_
        try simp only [Act.put, List.setIfInBounds_toArray, List.set_cons_zero, List.set_cons_succ]
        refine takeN 19 65 rfl rfl (by kernel_rfl) (by kernel_rfl) (by kernel_rfl) (fun _ _ _ h => h) (by kernel_rfl) (by assumption) ?_
        try simp only [Act.put, List.setIfInBounds_toArray, List.set_cons_zero, List.set_cons_succ]
        refine takeN 20 66 rfl rfl (by kernel_rfl) (by kernel_rfl) (by kernel_rfl) (fun _ _ _ h => h) (by kernel_rfl) (by assumption) ?_
        try simp only [Act.put, List.setIfInBounds_toArray, List.set_cons_zero, List.set_cons_succ]
        refine takeN 21 67 rfl rfl (by kernel_rfl) (by kernel_rfl) (by kernel_rfl) (fun _ _ _ h => h) (by kernel_rfl) (by assumption) ?_
        try simp only [Act.put, List.setIfInBounds_toArray, List.set_cons_zero, List.set_cons_succ]
        refine takeN 22 68 rfl rfl (by kernel_rfl) (by kernel_rfl) (by kernel_rfl) (fun _ _ _ h => h) (by kernel_rfl) (by assumption) ?_
        try simp only [Act.put, List.setIfInBounds_toArray, List.set_cons_zero, List.set_cons_succ]
        refine takeN 23 69 rfl rfl (by kernel_rfl) (by kernel_rfl) (by kernel_rfl) (fun _ _ _ h => h) (by kernel_rfl) (by assumption) ?_
        try simp only [Act.put, List.setIfInBounds_toArray, List.set_cons_zero, List.set_cons_succ]
        refine takeN 24 70 rfl rfl (by kernel_rfl) (by kernel_rfl) (by kernel_rfl) (fun _ _ _ h => h) (by kernel_rfl) (by assumption) ?_
        try simp only [Act.put, List.setIfInBounds_toArray, List.set_cons_zero, List.set_cons_succ]
        refine takeY 25 71 (v := ?_) rfl rfl (by kernel_rfl) (by kernel_rfl) (by kernel_rfl) (fun _ _ _ h => h) (by kernel_rfl) ?_ (by assumption) ?_
        rotate_left 1
        · intro w hSw; (try dsimp only at hSw); go_simp; (try with_reducible rfl)
        try simp only [Act.put, List.setIfInBounds_toArray, List.set_cons_zero, List.set_cons_succ]
        refine wpAnyH_done (by kernel_rfl) ?_ _
        go_wp2_with fail
        have cr : (wr.setCell ⟨w.heap.size, 0, none⟩ (.slice none 0 0)).drew.cell? ⟨w.heap.size, 0, none⟩ = some (.slice none 0 0) := by go_simp
        refine bodyPost_ret (v := .tuple #[.agg #[.slice none 0 0], .int .i64 2]) (by simp [results, Try.results47, go_sem, cr]) rfl ?_
        exact ansR_endG _ (Nat.le_refl _) E.out.1.symm E.out.2.symm (OwnI.nil _ _) (by intro h; cases h) (Below.drew BW.out) _
      by_cases hzy : z ≤ y
      · have E := Lib.hid (tu_no (zs := zs) (by rw [HG.out]; exact isB_no2 (by omega)))
        clear hgx
        go_wp2_with (go_at_call 73; refine (l01Gcd_any _ _ _ (by omega) (by omega) (by omega) (by omega)).mono ?_; rintro e w' ⟨rfl, rfl⟩)
        refine wp_region_held_drew (S := fun w' => w'.cell? ⟨g, o + k, none⟩ = some (.int .i64 z) ∧ w'.cell? ⟨g, o + (k - 1), none⟩ = some (.int .i64 y)) (by kernel_rfl) ⟨hc2, hc3⟩ (fun hHeld => ?_)
        refine takeY 0 46 (v := ?_) rfl rfl (by kernel_rfl) (by kernel_rfl) (by kernel_rfl) (fun _ _ _ h => h) (by kernel_rfl) ?_ (by assumption) ?_
        rotate_left 1
        · intro w hSw; (try dsimp only at hSw); go_simp; (try with_reducible rfl)
        try simp only [Act.put, List.setIfInBounds_toArray, List.set_cons_zero, List.set_cons_succ]
        refine takeY 1 47 (v := ?_) rfl rfl (by kernel_rfl) (by kernel_rfl) (by kernel_rfl) (fun _ _ _ h => h) (by kernel_rfl) ?_ (by assumption) ?_
        rotate_left 1
        · intro w hSw; (try dsimp only at hSw); go_simp; (try with_reducible rfl)
        try simp only [Act.put, List.setIfInBounds_toArray, List.set_cons_zero, List.set_cons_succ]
        refine takeY 2 48 (v := .bool false) rfl rfl (by kernel_rfl) (by kernel_rfl) (by kernel_rfl) (fun _ _ _ h => h) (by kernel_rfl) ?_ (by assumption) ?_
        · intro w hSw; (try dsimp only at hSw); go_simp; first | done | (with_reducible rfl) | (simp; omega)
        try simp only [Act.put, List.setIfInBounds_toArray, List.set_cons_zero, List.set_cons_succ]
        refine takeY 3 49 (v := ?_) rfl rfl (by kernel_rfl) (by kernel_rfl) (by kernel_rfl) (fun _ _ _ h => h) (by kernel_rfl) ?_ (by assumption) ?_
        rotate_left 1
        · intro w hSw; (try dsimp only at hSw); go_simp; (try with_reducible rfl)
        try simp only [Act.put, List.setIfInBounds_toArray, List.set_cons_zero, List.set_cons_succ]
        refine takeY 4 50 (v := ?_) rfl rfl (by kernel_rfl) (by kernel_rfl) (by kernel_rfl) (fun _ _ _ h => h) (by kernel_rfl) ?_ (by assumption) ?_
        rotate_left 1
        · intro w hSw; (try dsimp only at hSw); go_simp; (try with_reducible rfl)
        try simp only [Act.put, List.setIfInBounds_toArray, List.set_cons_zero, List.set_cons_succ]
        refine takeY 5 51 (v := ?_) rfl rfl (by kernel_rfl) (by kernel_rfl) (by kernel_rfl) (fun _ _ _ h => h) (by kernel_rfl) ?_ (by assumption) ?_
        rotate_left 1
        · intro w hSw; (try dsimp only at hSw); go_simp; (try with_reducible rfl)
        try simp only [Act.put, List.setIfInBounds_toArray, List.set_cons_zero, List.set_cons_succ]
        refine takeY 6 52 (v := ?_) rfl rfl (by kernel_rfl) (by kernel_rfl) (by kernel_rfl) (fun _ _ _ h => h) (by kernel_rfl) ?_ (by assumption) ?_
        rotate_left 1
        · intro w hSw; (try dsimp only at hSw); go_simp; (try with_reducible rfl)
        try simp only [Act.put, List.setIfInBounds_toArray, List.set_cons_zero, List.set_cons_succ]
        refine takeY 7 53 (v := ?_) rfl rfl (by kernel_rfl) (by kernel_rfl) (by kernel_rfl) (fun _ _ _ h => h) (by kernel_rfl) ?_ (by assumption) ?_
        rotate_left 1
        · intro w hSw; (try dsimp only at hSw); go_simp; (try with_reducible rfl)
        try simp only [Act.put, List.setIfInBounds_toArray, List.set_cons_zero, List.set_cons_succ]
        refine takeY 8 54 (v := .bool false) rfl rfl (by kernel_rfl) (by kernel_rfl) (by kernel_rfl) (fun _ _ _ h => h) (by kernel_rfl) ?_ (by assumption) ?_
        · intro w hSw; (try dsimp only at hSw); go_simp; first | done | (with_reducible rfl) | (simp; omega)
        try simp only [Act.put, List.setIfInBounds_toArray, List.set_cons_zero, List.set_cons_succ]
        refine takeY 9 55 (v := ?_) rfl rfl (by kernel_rfl) (by kernel_rfl) (by kernel_rfl) (fun _ _ _ h => h) (by kernel_rfl) ?_ (by assumption) ?_
        rotate_left 1
        · intro w hSw; (try dsimp only at hSw); go_simp; (try with_reducible rfl)
        try simp only [Act.put, List.setIfInBounds_toArray, List.set_cons_zero, List.set_cons_succ]
        refine takeY 10 56 (v := ?_) rfl rfl (by kernel_rfl) (by kernel_rfl) (by kernel_rfl) (fun _ _ _ h => h) (by kernel_rfl) ?_ (by assumption) ?_
        rotate_left 1
        · intro w hSw; (try dsimp only at hSw); go_simp; (try with_reducible rfl)
        try simp only [Act.put, List.setIfInBounds_toArray, List.set_cons_zero, List.set_cons_succ]
        refine takeY 11 57 (v := ?_) rfl rfl (by kernel_rfl) (by kernel_rfl) (by kernel_rfl) (fun _ _ _ h => h) (by kernel_rfl) ?_ (by assumption) ?_
        rotate_left 1
        · intro w hSw; (try dsimp only at hSw); go_simp; (try with_reducible rfl)
        try simp only [Act.put, List.setIfInBounds_toArray, List.set_cons_zero, List.set_cons_succ]
        refine takeY 12 58 (v := .bool true) rfl rfl (by kernel_rfl) (by kernel_rfl) (by kernel_rfl) (fun _ _ _ h => h) (by kernel_rfl) ?_ (by assumption) ?_
        · intro w hSw; (try dsimp only at hSw); go_simp; first | done | (with_reducible rfl) | (simp; omega)
        try simp only [Act.put, List.setIfInBounds_toArray, List.set_cons_zero, List.set_cons_succ]
        refine takeY 13 59 (v := ?_) rfl rfl (by kernel_rfl) (by kernel_rfl) (by kernel_rfl) (fun _ _ _ h => h) (by kernel_rfl) ?_ (by assumption) ?_
        rotate_left 1
        · intro w hSw; (try dsimp only at hSw); go_simp; (try with_reducible rfl)
        try simp only [Act.put, List.setIfInBounds_toArray, List.set_cons_zero, List.set_cons_succ]
        refine takeY 14 60 (v := ?_) rfl rfl (by kernel_rfl) (by kernel_rfl) (by kernel_rfl) (fun _ _ _ h => h) (by kernel_rfl) ?_ (by assumption) ?_
        rotate_left 1
        · intro w hSw; (try dsimp only at hSw); go_simp; (try with_reducible rfl)
        try simp only [Act.put, List.setIfInBounds_toArray, List.set_cons_zero, List.set_cons_succ]
        refine takeY 15 61 (v := ?_) rfl rfl (by kernel_rfl) (by kernel_rfl) (by kernel_rfl) (fun _ _ _ h => h) (by kernel_rfl) ?_ (by assumption) ?_
        rotate_left 1
        · intro w hSw; (try dsimp only at hSw); go_simp; (try with_reducible rfl)
        try simp only [Act.put, List.setIfInBounds_toArray, List.set_cons_zero, List.set_cons_succ]
        refine takeY 16 62 (v := ?_) rfl rfl (by kernel_rfl) (by kernel_rfl) (by kernel_rfl) (fun _ _ _ h => h) (by kernel_rfl) ?_ (by assumption) ?_
        rotate_left 1
        · intro w hSw; (try dsimp only at hSw); go_simp; (try with_reducible rfl)
        try simp only [Act.put, List.setIfInBounds_toArray, List.set_cons_zero, List.set_cons_succ]
        refine takeY 17 63 (v := ?_) rfl rfl (by kernel_rfl) (by kernel_rfl) (by kernel_rfl) (fun _ _ _ h => h) (by kernel_rfl) ?_ (by assumption) ?_
        rotate_left 1
        · intro w hSw; (try dsimp only at hSw); go_simp; (try with_reducible rfl)
        try simp only [Act.put, List.setIfInBounds_toArray, List.set_cons_zero, List.set_cons_succ]
        refine takeY 18 64 (v := ?_) rfl rfl (by kernel_rfl) (by kernel_rfl) (by kernel_rfl) (fun _ _ _ h => h) (by kernel_rfl) ?_ (by assumption) ?_
        rotate_left 1
        · intro w hSw; (try dsimp only at hSw); go_simp; (try with_reducible rfl)
        try simp only [Act.put, List.setIfInBounds_toArray, List.set_cons_zero, List.set_cons_succ]
        refine takeY 19 65 (v := ?_) rfl rfl (by kernel_rfl) (by kernel_rfl) (by kernel_rfl) (fun _ _ _ h => h) (by kernel_rfl) ?_ (by assumption) ?_
        rotate_left 1
        · intro w hSw; (try dsimp only at hSw); go_simp; (try with_reducible rfl)
        try simp only [Act.put, List.setIfInBounds_toArray, List.set_cons_zero, List.set_cons_succ]
        refine takeY 20 66 (v := ?_) rfl rfl (by kernel_rfl) (by kernel_rfl) (by kernel_rfl) (fun _ _ _ h => h) (by kernel_rfl) ?_ (by assumption) ?_
        rotate_left 1
        · intro w hSw; (try dsimp only at hSw); go_simp; (try with_reducible rfl)
        try simp only [Act.put, List.setIfInBounds_toArray, List.set_cons_zero, List.set_cons_succ]
        refine takeY 21 67 (v := ?_) rfl rfl (by kernel_rfl) (by kernel_rfl) (by kernel_rfl) (fun _ _ _ h => h) (by kernel_rfl) ?_ (by assumption) ?_
        rotate_left 1
        · intro w hSw; (try dsimp only at hSw); go_simp; (try with_reducible rfl)
        try simp only [Act.put, List.setIfInBounds_toArray, List.set_cons_zero, List.set_cons_succ]
        refine takeY 22 68 (v := ?_) rfl rfl (by kernel_rfl) (by kernel_rfl) (by kernel_rfl) (fun _ _ _ h => h) (by kernel_rfl) ?_ (by assumption) ?_
        rotate_left 1
        · intro w hSw; (try dsimp only at hSw); go_simp; (try with_reducible rfl)
        try simp only [Act.put, List.setIfInBounds_toArray, List.set_cons_zero, List.set_cons_succ]
        refine takeY 23 69 (v := .bool true) rfl rfl (by kernel_rfl) (by kernel_rfl) (by kernel_rfl) (fun _ _ _ h => h) (by kernel_rfl) ?_ (by assumption) ?_
        · intro w hSw; (try dsimp only at hSw); go_simp; first | done | (with_reducible rfl) | (simp; omega)
        try simp only [Act.put, List.setIfInBounds_toArray, List.set_cons_zero, List.set_cons_succ]
        refine takeY 24 70 (v := ?_) rfl rfl (by kernel_rfl) (by kernel_rfl) (by kernel_rfl) (fun _ _ _ h => h) (by kernel_rfl) ?_ (by assumption) ?_
        rotate_left 1
        · intro w hSw; (try dsimp only at hSw); go_simp; (try with_reducible rfl)
        try simp only [Act.put, List.setIfInBounds_toArray, List.set_cons_zero, List.set_cons_succ]
        refine takeY 25 71 (v := ?_) rfl rfl (by kernel_rfl) (by kernel_rfl) (by kernel_rfl) (fun _ _ _ h => h) (by kernel_rfl) ?_ (by assumption) ?_
        rotate_left 1
        · intro w hSw; (try dsimp only at hSw); go_simp; (try with_reducible rfl)
        try simp only [Act.put, List.setIfInBounds_toArray, List.set_cons_zero, List.set_cons_succ]
        refine wpAnyH_done (by kernel_rfl) ?_ _
        go_wp2_with fail
        have cr : (wr.setCell ⟨w.heap.size, 0, none⟩ (.slice none 0 0)).drew.cell? ⟨w.heap.size, 0, none⟩ = some (.slice none 0 0) := by go_simp
        refine bodyPost_ret (v := .tuple #[.agg #[.slice none 0 0], .int .i64 2]) (by simp [results, Try.results47, go_sem, cr]) rfl ?_
        exact ansR_endG _ (Nat.le_refl _) E.out.1.symm E.out.2.symm (OwnI.nil _ _) (by intro h; cases h) (Below.drew BW.out) _
      have HG2 : Hid (tuB zs = isB z (Int.gcd x z : Int) (zs.drop (k + 1))) := Lib.hid (by rw [HG.out, isB_yes (by omega) hgx])
      clear hgx
      go_wp2_with (go_at_call 73; refine (l01Gcd_any _ _ _ (by omega) (by omega) (by omega) (by omega)).mono ?_; rintro e w' ⟨rfl, rfl⟩)
      refine wp_region_held_drew (S := fun w' => w'.cell? ⟨g, o + k, none⟩ = some (.int .i64 z) ∧ w'.cell? ⟨g, o + (k - 1), none⟩ = some (.int .i64 y)) (by kernel_rfl) ⟨hc2, hc3⟩ (fun hHeld => ?_)
      refine takeY 0 46 (v := ?_) rfl rfl (by kernel_rfl) (by kernel_rfl) (by kernel_rfl) (fun _ _ _ h => h) (by kernel_rfl) ?_ (by assumption) ?_
      rotate_left 1
      · intro w hSw; (try dsimp only at hSw); go_simp; (try with_reducible rfl)
      try simp only [Act.put, List.setIfInBounds_toArray, List.set_cons_zero, List.set_cons_succ]
      refine takeY 1 47 (v := ?_) rfl rfl (by kernel_rfl) (by kernel_rfl) (by kernel_rfl) (fun _ _ _ h => h) (by kernel_rfl) ?_ (by assumption) ?_
      rotate_left 1
      · intro w hSw; (try dsimp only at hSw); go_simp; (try with_reducible rfl)
      try simp only [Act.put, List.setIfInBounds_toArray, List.set_cons_zero, List.set_cons_succ]
      refine takeY 2 48 (v := .bool false) rfl rfl (by kernel_rfl) (by kernel_rfl) (by kernel_rfl) (fun _ _ _ h => h) (by kernel_rfl) ?_ (by assumption) ?_
      · intro w hSw; (try dsimp only at hSw); go_simp; first | done | (with_reducible rfl) | (simp; omega)
      try simp only [Act.put, List.setIfInBounds_toArray, List.set_cons_zero, List.set_cons_succ]
      refine takeY 3 49 (v := ?_) rfl rfl (by kernel_rfl) (by kernel_rfl) (by kernel_rfl) (fun _ _ _ h => h) (by kernel_rfl) ?_ (by assumption) ?_
      rotate_left 1
      · intro w hSw; (try dsimp only at hSw); go_simp; (try with_reducible rfl)
      try simp only [Act.put, List.setIfInBounds_toArray, List.set_cons_zero, List.set_cons_succ]
      refine takeY 4 50 (v := ?_) rfl rfl (by kernel_rfl) (by kernel_rfl) (by kernel_rfl) (fun _ _ _ h => h) (by kernel_rfl) ?_ (by assumption) ?_
      rotate_left 1
      · intro w hSw; (try dsimp only at hSw); go_simp; (try with_reducible rfl)
      try simp only [Act.put, List.setIfInBounds_toArray, List.set_cons_zero, List.set_cons_succ]
      refine takeY 5 51 (v := ?_) rfl rfl (by kernel_rfl) (by kernel_rfl) (by kernel_rfl) (fun _ _ _ h => h) (by kernel_rfl) ?_ (by assumption) ?_
      rotate_left 1
      · intro w hSw; (try dsimp only at hSw); go_simp; (try with_reducible rfl)
      try simp only [Act.put, List.setIfInBounds_toArray, List.set_cons_zero, List.set_cons_succ]
      refine takeY 6 52 (v := ?_) rfl rfl (by kernel_rfl) (by kernel_rfl) (by kernel_rfl) (fun _ _ _ h => h) (by kernel_rfl) ?_ (by assumption) ?_
      rotate_left 1
      · intro w hSw; (try dsimp only at hSw); go_simp; (try with_reducible rfl)
      try simp only [Act.put, List.setIfInBounds_toArray, List.set_cons_zero, List.set_cons_succ]
      refine takeY 7 53 (v := ?_) rfl rfl (by kernel_rfl) (by kernel_rfl) (by kernel_rfl) (fun _ _ _ h => h) (by kernel_rfl) ?_ (by assumption) ?_
      rotate_left 1
      · intro w hSw; (try dsimp only at hSw); go_simp; (try with_reducible rfl)
      try simp only [Act.put, List.setIfInBounds_toArray, List.set_cons_zero, List.set_cons_succ]
      refine takeY 8 54 (v := .bool false) rfl rfl (by kernel_rfl) (by kernel_rfl) (by kernel_rfl) (fun _ _ _ h => h) (by kernel_rfl) ?_ (by assumption) ?_
      · intro w hSw; (try dsimp only at hSw); go_simp; first | done | (with_reducible rfl) | (simp; omega)
      try simp only [Act.put, List.setIfInBounds_toArray, List.set_cons_zero, List.set_cons_succ]
      refine takeY 9 55 (v := ?_) rfl rfl (by kernel_rfl) (by kernel_rfl) (by kernel_rfl) (fun _ _ _ h => h) (by kernel_rfl) ?_ (by assumption) ?_
      rotate_left 1
      · intro w hSw; (try dsimp only at hSw); go_simp; (try with_reducible rfl)
      try simp only [Act.put, List.setIfInBounds_toArray, List.set_cons_zero, List.set_cons_succ]
      refine takeY 10 56 (v := ?_) rfl rfl (by kernel_rfl) (by kernel_rfl) (by kernel_rfl) (fun _ _ _ h => h) (by kernel_rfl) ?_ (by assumption) ?_
      rotate_left 1
      · intro w hSw; (try dsimp only at hSw); go_simp; (try with_reducible rfl)
      try simp only [Act.put, List.setIfInBounds_toArray, List.set_cons_zero, List.set_cons_succ]
      refine takeY 11 57 (v := ?_) rfl rfl (by kernel_rfl) (by kernel_rfl) (by kernel_rfl) (fun _ _ _ h => h) (by kernel_rfl) ?_ (by assumption) ?_
      rotate_left 1
      · intro w hSw; (try dsimp only at hSw); go_simp; (try with_reducible rfl)
      try simp only [Act.put, List.setIfInBounds_toArray, List.set_cons_zero, List.set_cons_succ]
      refine takeY 12 58 (v := .bool true) rfl rfl (by kernel_rfl) (by kernel_rfl) (by kernel_rfl) (fun _ _ _ h => h) (by kernel_rfl) ?_ (by assumption) ?_
      · intro w hSw; (try dsimp only at hSw); go_simp; first | done | (with_reducible rfl) | (simp; omega)
      try simp only [Act.put, List.setIfInBounds_toArray, List.set_cons_zero, List.set_cons_succ]
      refine takeY 13 59 (v := ?_) rfl rfl (by kernel_rfl) (by kernel_rfl) (by kernel_rfl) (fun _ _ _ h => h) (by kernel_rfl) ?_ (by assumption) ?_
      rotate_left 1
      · intro w hSw; (try dsimp only at hSw); go_simp; (try with_reducible rfl)
      try simp only [Act.put, List.setIfInBounds_toArray, List.set_cons_zero, List.set_cons_succ]
      refine takeY 14 60 (v := ?_) rfl rfl (by kernel_rfl) (by kernel_rfl) (by kernel_rfl) (fun _ _ _ h => h) (by kernel_rfl) ?_ (by assumption) ?_
      rotate_left 1
      · intro w hSw; (try dsimp only at hSw); go_simp; (try with_reducible rfl)
      try simp only [Act.put, List.setIfInBounds_toArray, List.set_cons_zero, List.set_cons_succ]
      refine takeY 15 61 (v := ?_) rfl rfl (by kernel_rfl) (by kernel_rfl) (by kernel_rfl) (fun _ _ _ h => h) (by kernel_rfl) ?_ (by assumption) ?_
      rotate_left 1
      · intro w hSw; (try dsimp only at hSw); go_simp; (try with_reducible rfl)
      try simp only [Act.put, List.setIfInBounds_toArray, List.set_cons_zero, List.set_cons_succ]
      refine takeY 16 62 (v := ?_) rfl rfl (by kernel_rfl) (by kernel_rfl) (by kernel_rfl) (fun _ _ _ h => h) (by kernel_rfl) ?_ (by assumption) ?_
      rotate_left 1
      · intro w hSw; (try dsimp only at hSw); go_simp; (try with_reducible rfl)
      try simp only [Act.put, List.setIfInBounds_toArray, List.set_cons_zero, List.set_cons_succ]
      refine takeY 17 63 (v := ?_) rfl rfl (by kernel_rfl) (by kernel_rfl) (by kernel_rfl) (fun _ _ _ h => h) (by kernel_rfl) ?_ (by assumption) ?_
      rotate_left 1
      · intro w hSw; (try dsimp only at hSw); go_simp; (try with_reducible rfl)
      try simp only [Act.put, List.setIfInBounds_toArray, List.set_cons_zero, List.set_cons_succ]
      refine takeY 18 64 (v := ?_) rfl rfl (by kernel_rfl) (by kernel_rfl) (by kernel_rfl) (fun _ _ _ h => h) (by kernel_rfl) ?_ (by assumption) ?_
      rotate_left 1
      · intro w hSw; (try dsimp only at hSw); go_simp; (try with_reducible rfl)
      try simp only [Act.put, List.setIfInBounds_toArray, List.set_cons_zero, List.set_cons_succ]
      refine takeY 19 65 (v := ?_) rfl rfl (by kernel_rfl) (by kernel_rfl) (by kernel_rfl) (fun _ _ _ h => h) (by kernel_rfl) ?_ (by assumption) ?_
      rotate_left 1
      · intro w hSw; (try dsimp only at hSw); go_simp; (try with_reducible rfl)
      try simp only [Act.put, List.setIfInBounds_toArray, List.set_cons_zero, List.set_cons_succ]
      refine takeY 20 66 (v := ?_) rfl rfl (by kernel_rfl) (by kernel_rfl) (by kernel_rfl) (fun _ _ _ h => h) (by kernel_rfl) ?_ (by assumption) ?_
      rotate_left 1
      · intro w hSw; (try dsimp only at hSw); go_simp; (try with_reducible rfl)
      try simp only [Act.put, List.setIfInBounds_toArray, List.set_cons_zero, List.set_cons_succ]
      refine takeY 21 67 (v := ?_) rfl rfl (by kernel_rfl) (by kernel_rfl) (by kernel_rfl) (fun _ _ _ h => h) (by kernel_rfl) ?_ (by assumption) ?_
      rotate_left 1
      · intro w hSw; (try dsimp only at hSw); go_simp; (try with_reducible rfl)
      try simp only [Act.put, List.setIfInBounds_toArray, List.set_cons_zero, List.set_cons_succ]
      refine takeY 22 68 (v := ?_) rfl rfl (by kernel_rfl) (by kernel_rfl) (by kernel_rfl) (fun _ _ _ h => h) (by kernel_rfl) ?_ (by assumption) ?_
      rotate_left 1
      · intro w hSw; (try dsimp only at hSw); go_simp; (try with_reducible rfl)
      try simp only [Act.put, List.setIfInBounds_toArray, List.set_cons_zero, List.set_cons_succ]
      refine takeY 23 69 (v := .bool false) rfl rfl (by kernel_rfl) (by kernel_rfl) (by kernel_rfl) (fun _ _ _ h => h) (by kernel_rfl) ?_ (by assumption) ?_
      · intro w hSw; (try dsimp only at hSw); go_simp; first | done | (with_reducible rfl) | (simp; omega)
      try simp only [Act.put, List.setIfInBounds_toArray, List.set_cons_zero, List.set_cons_succ]
      refine takeY 24 70 (v := ?_) rfl rfl (by kernel_rfl) (by kernel_rfl) (by kernel_rfl) (fun _ _ _ h => h) (by kernel_rfl) ?_ (by assumption) ?_
      rotate_left 1
      · intro w hSw; (try dsimp only at hSw); go_simp; (try with_reducible rfl)
      try simp only [Act.put, List.setIfInBounds_toArray, List.set_cons_zero, List.set_cons_succ]
      refine takeY 25 71 (v := ?_) rfl rfl (by kernel_rfl) (by kernel_rfl) (by kernel_rfl) (fun _ _ _ h => h) (by kernel_rfl) ?_ (by assumption) ?_
      rotate_left 1
      · intro w hSw; (try dsimp only at hSw); go_simp; (try with_reducible rfl)
      try simp only [Act.put, List.setIfInBounds_toArray, List.set_cons_zero, List.set_cons_succ]
      refine wpAnyH_done (by kernel_rfl) ?_ _
      go_wp2_with fail
      go_roundw
      case rel => exact ⟨k + 1, (Int.gcd x z : Int), z, by omega, by omega, by omega, by first | rfl | go_num, by go_num, Lib.hid (Below.drew hwr.out), Lib.hid (fun h => by omega), HZ2, Lib.hid (fun _ => HG2.out)⟩
      case measure => simp [intOf]; omega
    · obtain rfl : k = n := by omega
      have EE : tuB zs = (x == 1) := by rw [hg.out (by omega), drop_end HL.out (Nat.le_refl _)]; rfl
      by_cases hx1 : x = 1
      rotate_left
      · have E := Lib.hid (tu_no (zs := zs) (by rw [EE]; simpa using hx1))
        have hx2 : (x != 1) = true := by simpa using hx1
        clear EE hsame
        go_wp2_with fail
        have cr : (wr.setCell ⟨w.heap.size, 0, none⟩ (.slice none 0 0)).cell? ⟨w.heap.size, 0, none⟩ = some (.slice none 0 0) := by go_simp
        refine bodyPost_ret (v := .tuple #[.agg #[.slice none 0 0], .int .i64 2]) (by simp [results, Try.results47, go_sem, cr]) rfl ?_
        exact ansR_endG _ (Nat.le_refl _) E.out.1.symm E.out.2.symm (OwnI.nil _ _) (by intro h; cases h) BW.out _
      have OK : Hid (tuB zs = true) := Lib.hid (by rw [EE]; simpa using hx1)
      have hzb := (tu_wf (by rw [← HZS.out]; exact OK.out)).1
      have HZ : Hid (∀ z ∈ zs, 1 ≤ z ∧ z ≤ 2000) := Lib.hid (by
        have h2 := (tu_wf (r := r) (by rw [← HZS.out]; exact OK.out)).2.1
        intro z hz
        rw [HZS.out] at hz
        rcases List.mem_cons.1 hz with rfl | hz
        · omega
        · rcases List.mem_cons.1 hz with rfl | hz
          · omega
          · exact h2 z hz)
      have HWL : Hid (∀ z ∈ tuL zs, (Lit.int .i64 z).wf = true) := Lib.hid (by rw [HZS.out]; exact (tu_wf (by rw [← HZS.out]; exact OK.out)).2.2)
      subst hx1
      have H1 := Lib.hid (H0.out.below (BR.out.mono (by omega)))
      have hszr := BR.out.size
      clear EE hk1 hk2 hg hwr hsame l2 l3 l4
      obtain ⟨W1, hW1⟩ : ∃ W, W = wr := ⟨_, rfl⟩
      subst hW1
      have hbz : (b0 == 0) = false := by simp; omega
      have hbz0 : ¬ b0 = 0 := by omega
      have hem : z0.tmod b0 = z0 % b0 := Int.tmod_eq_emod_of_nonneg (by omega)
      have hwp : IntKind.i64.wrap (z0 % b0) = z0 % b0 := IntWalk.i64_in _ (by have h1 := Int.emod_nonneg z0 (show b0 ≠ 0 by omega); have h2 := Int.emod_lt_of_pos z0 (show 0 < b0 by omega); omega)
      obtain ⟨i0, hi0, hy0, hy1, hy2⟩ := info_parts int_info
      obtain ⟨w3, hw3⟩ : ∃ W, W = (W1.alloc (.cells #[.int .i64 b0] 2)).alloc (.cells #[.slice (some ⟨W1.heap.size, 0, none⟩) 1 1] 26) := ⟨_, rfl⟩
      have HO1 : Hid (OwnI w3 W1.heap.size w3.heap.size (.slice (some ⟨W1.heap.size, 0, none⟩) 1 1) [b0]) := Lib.hid (by rw [hw3]; exact OwnI.mk' (n := 1) (World.ownsRow.alloc (World.ownsRow_lit (base := W1.heap.size) W1 #[.int .i64 b0] 1 (e := 2) (size := 1) (Nat.le_refl _) (by simp [maxLen]) rfl) _))
      have HC1 : Hid (w3.cell? ⟨W1.heap.size + 1, 0, none⟩ = some (.slice (some ⟨W1.heap.size, 0, none⟩) 1 1)) := Lib.hid (by rw [hw3]; go_simp)
      have HF1 : Hid (w3.frozen? ⟨W1.heap.size + 1, 0, none⟩ = false) := Lib.hid (by rw [hw3]; go_simp)
      have HBL : Hid (Below W1.heap.size W1 w3) := Lib.hid (by rw [hw3]; exact ((Below.refl _ _).alloc (Nat.le_refl _) _).alloc (by simp) _)
      have HW3 := Lib.hid hw3
      have hq0 : w3.cell? ⟨g, o, none⟩ = some (.int .i64 z0) := (HBL.out.cell (p := ⟨g, o, none⟩) (by show g < _; omega)).trans q0
      have hq1 : w3.cell? ⟨g, o + 1, none⟩ = some (.int .i64 b0) := (HBL.out.cell (p := ⟨g, o + 1, none⟩) (by show g < _; omega)).trans q1
      have Q0 := Lib.hid (And.intro q0 q1)
      clear hw3 hv0 hv1
      by_cases h0 : z0.tmod b0 = 0
      · have hb0 : (z0 % b0 != 0) = false := by rw [← hem]; simp [h0]
        have EX0 : Hid (tuL zs = [b0] ++ (zs.drop 2).map fun z => z + z0 - b0) := Lib.hid (by rw [HZS.out, tuL_yes h0]; rfl)
        clear h0 hem
        go_wp2_with fail
        rw [← HW3.out]
        clear q0 q1
        go_quiet (fail)
        have HO2 : Hid (OwnI (w3.drewN nq) W1.heap.size (w3.drewN nq).heap.size (.slice (some ⟨W1.heap.size, 0, none⟩) 1 1) [b0]) := HO1
        have HC2 : Hid ((w3.drewN nq).cell? ⟨W1.heap.size + 1, 0, none⟩ = some (.slice (some ⟨W1.heap.size, 0, none⟩) 1 1)) := HC1
        have HF2 : Hid ((w3.drewN nq).frozen? ⟨W1.heap.size + 1, 0, none⟩ = false) := HF1
        have HB2 : Hid (Below W1.heap.size W1 (w3.drewN nq)) := Lib.hid (below_drewN HBL.out nq)
        clear HO1 HC1 HF1 HBL hq0 hq1
        go_wp2_with fail
        go_loopw [8] (fun vi wr => ∃ (j l : Nat) (L : List Int) (g1 : Nat) (c' : Nat), (2 ≤ j ∧ j ≤ k) ∧ l ≤ j ∧ vi = .int .i64 j ∧ Hid (L.length = l) ∧ (W1.heap.size ≤ g1 ∧ g1 ≠ W1.heap.size + 1) ∧ Hid (tuL zs = L ++ (zs.drop j).map fun z => z + z0 - b0) ∧ Hid (wr.cell? ⟨W1.heap.size + 1, 0, none⟩ = some (.slice (some ⟨g1, 0, none⟩) l c')) ∧ Hid (wr.frozen? ⟨W1.heap.size + 1, 0, none⟩ = false) ∧ Hid (OwnI wr W1.heap.size wr.heap.size (.slice (some ⟨g1, 0, none⟩) l c') L) ∧ Hid (Below W1.heap.size W1 wr)) (fun vi _ => k - (intOf vi).toNat)
        case atStart => exact ⟨2, 1, [b0], W1.heap.size, 1, by omega, by omega, by first | rfl | go_num, Lib.hid rfl, ⟨Nat.le_refl _, by omega⟩, EX0, HC2, HF2, HO2, HB2⟩
        case round =>
          clear HO2 HB2
          obtain ⟨j, l, L, g1, c', hj, hlj, rfl, HLl, ⟨hlo, hg1p⟩, hex, hco0, hcf0, ho, hb⟩ := hrel
          have hco := hco0.out
          have hcf := hcf0.out
          have hpb : W1.heap.size + 1 < wr.heap.size := World.block_lt_of_cell? wr ⟨W1.heap.size + 1, 0, none⟩ hco
          have hgl : g < wr.heap.size := by omega
          by_cases hlt : j < k
          · obtain ⟨a, e1, _, hcell0⟩ := H1.out.2 j hlt
            cases e1
            have hz := HZ.out (zs[j]?.getD 0) (by have := HL.out; simp [show j < zs.length by omega])
            have HD := Lib.hid (drop_at HL.out hlt)
            have hce : wr.cell? ⟨g, o + j, none⟩ = some (.int .i64 (zs[j]?.getD 0)) := by rw [← add_lit, hb.out.cell (by rw [add_block]; show g < _; omega)]; simpa using hcell0
            have hce0 : wr.cell? ⟨g, o, none⟩ = some (.int .i64 z0) := (hb.out.cell (p := ⟨g, o, none⟩) (by show g < _; omega)).trans Q0.out.1
            have hce1 : wr.cell? ⟨g, o + 1, none⟩ = some (.int .i64 b0) := (hb.out.cell (p := ⟨g, o + 1, none⟩) (by show g < _; omega)).trans Q0.out.2
            generalize zs[j]?.getD 0 = z at *
            have hjn : (j : Int) < (k : Int) := by omega
            have hj9 : (0 : Int) ≤ (j : Int) := by omega
            have p1 : IntKind.i64.wrap (z + z0) = z + z0 := IntWalk.i64_in _ (by omega)
            have p2 : IntKind.i64.wrap (z + z0 - b0) = z + z0 - b0 := IntWalk.i64_in _ (by omega)
            have HG : Hid (tuL zs = (L ++ [z + z0 - b0]) ++ (zs.drop (j + 1)).map fun z => z + z0 - b0) := Lib.hid (by rw [hex.out, HD.out]; simp)
            clear hcell0
            go_wp2_with fail
            refine wp_region_held_drew (S := fun w' => w'.cell? ⟨g, o + j, none⟩ = some (.int .i64 z) ∧ w'.cell? ⟨g, o, none⟩ = some (.int .i64 z0) ∧ w'.cell? ⟨g, o + 1, none⟩ = some (.int .i64 b0)) (by kernel_rfl) ⟨hce, hce0, hce1⟩ (fun hHeld => ?_)
            refine takeY 0 _ (v := ?_) rfl rfl (by kernel_rfl) (by kernel_rfl) (by kernel_rfl) (fun _ _ _ h => h) (by kernel_rfl) ?_ (by assumption) ?_
            rotate_left 1
            · intro w hSw; (try dsimp only at hSw); go_simp; (try with_reducible rfl)
            try simp only [Act.put, List.setIfInBounds_toArray, List.set_cons_zero, List.set_cons_succ]
            refine takeY 2 _ (v := ?_) rfl rfl (by kernel_rfl) (by kernel_rfl) (by kernel_rfl) (fun _ _ _ h => h) (by kernel_rfl) ?_ (by assumption) ?_
            rotate_left 1
            · intro w hSw; (try dsimp only at hSw); go_simp; (try with_reducible rfl)
            try simp only [Act.put, List.setIfInBounds_toArray, List.set_cons_zero, List.set_cons_succ]
            refine takeY 3 _ (v := ?_) rfl rfl (by kernel_rfl) (by kernel_rfl) (by kernel_rfl) (fun _ _ _ h => h) (by kernel_rfl) ?_ (by assumption) ?_
            rotate_left 1
            · intro w hSw; (try dsimp only at hSw); go_simp; (try with_reducible rfl)
            try simp only [Act.put, List.setIfInBounds_toArray, List.set_cons_zero, List.set_cons_succ]
            refine takeY 4 _ (v := ?_) rfl rfl (by kernel_rfl) (by kernel_rfl) (by kernel_rfl) (fun _ _ _ h => h) (by kernel_rfl) ?_ (by assumption) ?_
            rotate_left 1
            · intro w hSw; (try dsimp only at hSw); go_simp; (try with_reducible rfl)
            try simp only [Act.put, List.setIfInBounds_toArray, List.set_cons_zero, List.set_cons_succ]
            refine takeY 5 _ (v := ?_) rfl rfl (by kernel_rfl) (by kernel_rfl) (by kernel_rfl) (fun _ _ _ h => h) (by kernel_rfl) ?_ (by assumption) ?_
            rotate_left 1
            · intro w hSw; (try dsimp only at hSw); go_simp; (try with_reducible rfl)
            try simp only [Act.put, List.setIfInBounds_toArray, List.set_cons_zero, List.set_cons_succ]
            refine takeY 6 _ (v := ?_) rfl rfl (by kernel_rfl) (by kernel_rfl) (by kernel_rfl) (fun _ _ _ h => h) (by kernel_rfl) ?_ (by assumption) ?_
            rotate_left 1
            · intro w hSw; (try dsimp only at hSw); go_simp; (try with_reducible rfl)
            try simp only [Act.put, List.setIfInBounds_toArray, List.set_cons_zero, List.set_cons_succ]
            refine takeY 7 _ (v := ?_) rfl rfl (by kernel_rfl) (by kernel_rfl) (by kernel_rfl) (fun _ _ _ h => h) (by kernel_rfl) ?_ (by assumption) ?_
            rotate_left 1
            · intro w hSw; (try dsimp only at hSw); go_simp; (try with_reducible rfl)
            try simp only [Act.put, List.setIfInBounds_toArray, List.set_cons_zero, List.set_cons_succ]
            refine takeY 8 _ (v := ?_) rfl rfl (by kernel_rfl) (by kernel_rfl) (by kernel_rfl) (fun _ _ _ h => h) (by kernel_rfl) ?_ (by assumption) ?_
            rotate_left 1
            · intro w hSw; (try dsimp only at hSw); go_simp; (try with_reducible rfl)
            try simp only [Act.put, List.setIfInBounds_toArray, List.set_cons_zero, List.set_cons_succ]
            refine takeY 9 _ (v := ?_) rfl rfl (by kernel_rfl) (by kernel_rfl) (by kernel_rfl) (fun _ _ _ h => h) (by kernel_rfl) ?_ (by assumption) ?_
            rotate_left 1
            · intro w hSw; (try dsimp only at hSw); go_simp; (try with_reducible rfl)
            try simp only [Act.put, List.setIfInBounds_toArray, List.set_cons_zero, List.set_cons_succ]
            refine takeY 10 _ (v := ?_) rfl rfl (by kernel_rfl) (by kernel_rfl) (by kernel_rfl) (fun _ _ _ h => h) (by kernel_rfl) ?_ (by assumption) ?_
            rotate_left 1
            · intro w hSw; (try dsimp only at hSw); go_simp; (try with_reducible rfl)
            try simp only [Act.put, List.setIfInBounds_toArray, List.set_cons_zero, List.set_cons_succ]
            refine takeY 11 _ (v := ?_) rfl rfl (by kernel_rfl) (by kernel_rfl) (by kernel_rfl) (fun _ _ _ h => h) (by kernel_rfl) ?_ (by assumption) ?_
            rotate_left 1
            · intro w hSw; (try dsimp only at hSw); go_simp; (try with_reducible rfl)
            try simp only [Act.put, List.setIfInBounds_toArray, List.set_cons_zero, List.set_cons_succ]
            refine takeY 12 _ (v := ?_) rfl rfl (by kernel_rfl) (by kernel_rfl) (by kernel_rfl) (fun _ _ _ h => h) (by kernel_rfl) ?_ (by assumption) ?_
            rotate_left 1
            · intro w hSw; (try dsimp only at hSw); go_simp; (try with_reducible rfl)
            try simp only [Act.put, List.setIfInBounds_toArray, List.set_cons_zero, List.set_cons_succ]
            refine takeY 13 _ (v := ?_) rfl rfl (by kernel_rfl) (by kernel_rfl) (by kernel_rfl) (fun _ _ _ h => h) (by kernel_rfl) ?_ (by assumption) ?_
            rotate_left 1
            · intro w hSw; (try dsimp only at hSw); go_simp; (try with_reducible rfl)
            try simp only [Act.put, List.setIfInBounds_toArray, List.set_cons_zero, List.set_cons_succ]
            refine wpAnyH_ready (rs := [1, 14]) (by kernel_rfl) (by simp) ?_
            refine AllReadyH.cons rfl (fun K hK => ?_) (AllReadyH.cons rfl (fun K hK => ?_) AllReadyH.nil)
            · go_simp
              refine hK.out _ (wr.drew) ⟨hce, hce0, hce1⟩ (fun hHeld => ?_)
              clear hK K
              try simp only [Act.put, List.setIfInBounds_toArray, List.set_cons_zero, List.set_cons_succ]
              refine wpAnyH_ready (rs := [14]) (by kernel_rfl) (by simp) ?_
              refine AllReadyH.cons rfl (fun K hK => ?_) AllReadyH.nil
              go_simp
              refine hK.out _ _ ⟨((below_box wr _).cell (p := ⟨g, o + j, none⟩) hgl).trans hce, ((below_box wr _).cell (p := ⟨g, o, none⟩) hgl).trans hce0, ((below_box wr _).cell (p := ⟨g, o + 1, none⟩) hgl).trans hce1⟩ (fun hHeld => ?_)
              clear hK K
              try simp only [Act.put, List.setIfInBounds_toArray, List.set_cons_zero, List.set_cons_succ]
              refine wpAnyH_ready (rs := [15]) (by kernel_rfl) (by simp) ?_
              refine AllReadyH.cons rfl (fun K hK => ?_) AllReadyH.nil
              try simp only [List.getElem_toArray, List.getElem_cons_succ, List.getElem_cons_zero]
              rw [if_pos (by kernel_rfl)]
              refine wp_append_lies _ (.tmp 105) (.tmp 118) 24 ?hb2 (W1.heap.size) 2 i0 (.int .i64 0) 1 8 Try.underlying24 hi0 hy0 hy1 hy2 rfl (by decide) (.slice (some ⟨g1, 0, none⟩) l c') l (L.map (.int .i64)) ?hb3 ?hb4 ⟨wr.heap.size, 0, none⟩ 1 1 [.int .i64 (z + z0 - b0)] ?hb5 rfl ?hb6 ?hb7 (by decide) ?hb8 ?hb9 ?hb10 _ rfl ?hb11
              case hb2 => rfl
              case hb3 => rfl
              case hb5 => rfl
              case hb4 => have h3 := ho.out.1; rw [HLl.out] at h3; exact World.ownsRow.alloc h3 _
              case hb6 => exact World.news_of_block (cs := #[.int .i64 (z + z0 - b0)]) (t := 2) (fr := (0, 0)) (heap_alloc_new wr _)
              case hb7 => simp [Value.oneCell']
              case hb8 => simp only [maxLen]; omega
              case hb9 => omega
              case hb10 => show W1.heap.size ≤ (wr.alloc _).heap.size; simp; omega
              intro g2 cap2 w2 hown2 hgrow hg2 _
              have hbx : Below (W1.heap.size) wr w2 := Below.grown (w := (wr.alloc (.cells #[.int .i64 (z + z0 - b0)] 2)).drew) (below_drewN ((Below.refl _ _).alloc (by omega) _) 1) hgrow (by show W1.heap.size ≤ (wr.alloc _).heap.size; simp; omega) (fun k hk => (Own.lt ho.out.1 k hk).1)
              have HBX := Lib.hid hbx
              have hpa : W1.heap.size + 1 < (wr.alloc (.cells #[.int .i64 (z + z0 - b0)] 2)).heap.size := by simp; omega
              have hpn : some (W1.heap.size + 1) ≠ (Value.slice (some ⟨g1, 0, none⟩) l c').ownBlock := by simp [Value.ownBlock]; omega
              have c3 : w2.cell? ⟨W1.heap.size + 1, 0, none⟩ = some (.slice (some ⟨g1, 0, none⟩) l c') := (hgrow.cell_far ⟨W1.heap.size + 1, 0, none⟩ hpa hpn).trans (((below_box wr _).cell (p := ⟨W1.heap.size + 1, 0, none⟩) hpb).trans hco)
              have f3 : w2.frozen? ⟨W1.heap.size + 1, 0, none⟩ = false := (hgrow.frozen_far ⟨W1.heap.size + 1, 0, none⟩ hpa hpn).trans (((below_box wr _).frozen (p := ⟨W1.heap.size + 1, 0, none⟩) hpb).trans hcf)
              have hg2p : g2 ≠ W1.heap.size + 1 := by rcases hg2 with h | h; (simp [Value.ownBlock] at h; omega); (have h9 : g2 = wr.heap.size + 1 := (by simpa using h)); omega
              have HO2 : Hid (OwnI w2 (W1.heap.size) w2.heap.size (.slice (some ⟨g2, 0, none⟩) (l + 1) cap2) (L ++ [(z + z0 - b0)])) := Lib.hid (OwnI.mk' (n := l + 1) (by rw [List.map_append]; exact hown2))
              have sa0 : w2.cell? ⟨g, o + j, none⟩ = some (.int .i64 z) := by rw [HBX.out.cell (p := ⟨g, o + j, none⟩) (by show g < _; omega)]; exact hce
              have sa1 : w2.cell? ⟨g, o, none⟩ = some (.int .i64 z0) := by rw [HBX.out.cell (p := ⟨g, o, none⟩) (by show g < _; omega)]; exact hce0
              have sa2 : w2.cell? ⟨g, o + 1, none⟩ = some (.int .i64 b0) := by rw [HBX.out.cell (p := ⟨g, o + 1, none⟩) (by show g < _; omega)]; exact hce1
              have hsz2 := HBX.out.size
              have hp2 : W1.heap.size + 1 < w2.heap.size := by omega
              refine hK.out _ _ ⟨sa0, sa1, sa2⟩ (fun hHeld => ?_)
              clear hK K hbx hown2 hgrow hg2 hpa hpn
              try simp only [Act.put, List.setIfInBounds_toArray, List.set_cons_zero, List.set_cons_succ]
              refine takeY 16 _ (v := ?_) rfl rfl (by kernel_rfl) (by kernel_rfl) (by kernel_rfl) (fun _ _ _ h => h) (by kernel_rfl) ?_ (by assumption) ?_
              rotate_left 1
              · intro w hSw; (try dsimp only at hSw); go_simp; (try with_reducible rfl)
              try simp only [Act.put, List.setIfInBounds_toArray, List.set_cons_zero, List.set_cons_succ]
              refine wpAnyH_ready (rs := [17]) (by kernel_rfl) (by simp) ?_
              refine AllReadyH.cons rfl (fun K hK => ?_) AllReadyH.nil
              go_simp
              have HC3 : Hid ((w2.setCell ⟨W1.heap.size + 1, 0, none⟩ (.slice (some ⟨g2, 0, none⟩) (l + 1) cap2)).cell? ⟨W1.heap.size + 1, 0, none⟩ = some (.slice (some ⟨g2, 0, none⟩) (l + 1) cap2)) := Lib.hid (by go_simp)
              have HF3 : Hid ((w2.setCell ⟨W1.heap.size + 1, 0, none⟩ (.slice (some ⟨g2, 0, none⟩) (l + 1) cap2)).frozen? ⟨W1.heap.size + 1, 0, none⟩ = false) := Lib.hid (by go_simp)
              have HO3 : Hid (OwnI (w2.setCell ⟨W1.heap.size + 1, 0, none⟩ (.slice (some ⟨g2, 0, none⟩) (l + 1) cap2)) (W1.heap.size) (w2.setCell ⟨W1.heap.size + 1, 0, none⟩ (.slice (some ⟨g2, 0, none⟩) (l + 1) cap2)).heap.size (.slice (some ⟨g2, 0, none⟩) (l + 1) cap2) (L ++ [(z + z0 - b0)])) := Lib.hid (by have h := own_set HO2.out (p := ⟨W1.heap.size + 1, 0, none⟩) (u := .slice (some ⟨g2, 0, none⟩) (l + 1) cap2) (by simp [Value.ownBlock]; omega); simpa [World.setCell] using h)
              have HB3 : Hid (Below (W1.heap.size) W1 (w2.setCell ⟨W1.heap.size + 1, 0, none⟩ (.slice (some ⟨g2, 0, none⟩) (l + 1) cap2))) := Lib.hid ((hb.out.trans (HBX.out.mono (Nat.le_refl _))).setCell (by show W1.heap.size ≤ W1.heap.size + 1; omega) _)
              have sb0 : (w2.setCell ⟨W1.heap.size + 1, 0, none⟩ (.slice (some ⟨g2, 0, none⟩) (l + 1) cap2)).cell? ⟨g, o + j, none⟩ = some (.int .i64 z) := by go_simp
              have sb1 : (w2.setCell ⟨W1.heap.size + 1, 0, none⟩ (.slice (some ⟨g2, 0, none⟩) (l + 1) cap2)).cell? ⟨g, o, none⟩ = some (.int .i64 z0) := by go_simp
              have sb2 : (w2.setCell ⟨W1.heap.size + 1, 0, none⟩ (.slice (some ⟨g2, 0, none⟩) (l + 1) cap2)).cell? ⟨g, o + 1, none⟩ = some (.int .i64 b0) := by go_simp
              refine hK.out _ _ ⟨sb0, sb1, sb2⟩ (fun hHeld => ?_)
              clear hK K
              try simp only [Act.put, List.setIfInBounds_toArray, List.set_cons_zero, List.set_cons_succ]
              refine wpAnyH_done (by kernel_rfl) ?_ _
              go_wp2_with fail
              go_roundw
              case rel => exact ⟨j + 1, l + 1, L ++ [z + z0 - b0], g2, cap2, by omega, by omega, by go_num, Lib.hid (by simp [HLl.out]), ⟨(HO2.out.1.lt g2 rfl).1, hg2p⟩, HG, HC3, HF3, HO3, HB3⟩
              case measure => simp [intOf]; omega
            · go_simp
              refine hK.out _ _ ⟨((below_box wr _).cell (p := ⟨g, o + j, none⟩) hgl).trans hce, ((below_box wr _).cell (p := ⟨g, o, none⟩) hgl).trans hce0, ((below_box wr _).cell (p := ⟨g, o + 1, none⟩) hgl).trans hce1⟩ (fun hHeld => ?_)
              clear hK K
              try simp only [Act.put, List.setIfInBounds_toArray, List.set_cons_zero, List.set_cons_succ]
              refine wpAnyH_ready (rs := [1]) (by kernel_rfl) (by simp) ?_
              refine AllReadyH.cons rfl (fun K hK => ?_) AllReadyH.nil
              go_simp
              refine hK.out _ ((wr.alloc (.cells #[.int .i64 (z + z0 - b0)] 2)).drew) ⟨((below_box wr _).cell (p := ⟨g, o + j, none⟩) hgl).trans hce, ((below_box wr _).cell (p := ⟨g, o, none⟩) hgl).trans hce0, ((below_box wr _).cell (p := ⟨g, o + 1, none⟩) hgl).trans hce1⟩ (fun hHeld => ?_)
              clear hK K
              try simp only [Act.put, List.setIfInBounds_toArray, List.set_cons_zero, List.set_cons_succ]
              refine wpAnyH_ready (rs := [15]) (by kernel_rfl) (by simp) ?_
              refine AllReadyH.cons rfl (fun K hK => ?_) AllReadyH.nil
              try simp only [List.getElem_toArray, List.getElem_cons_succ, List.getElem_cons_zero]
              rw [if_pos (by kernel_rfl)]
              refine wp_append_lies _ (.tmp 105) (.tmp 118) 24 ?hc2 (W1.heap.size) 2 i0 (.int .i64 0) 1 8 Try.underlying24 hi0 hy0 hy1 hy2 rfl (by decide) (.slice (some ⟨g1, 0, none⟩) l c') l (L.map (.int .i64)) ?hc3 ?hc4 ⟨wr.heap.size, 0, none⟩ 1 1 [.int .i64 (z + z0 - b0)] ?hc5 rfl ?hc6 ?hc7 (by decide) ?hc8 ?hc9 ?hc10 _ rfl ?hc11
              case hc2 => rfl
              case hc3 => rfl
              case hc5 => rfl
              case hc4 => have h3 := ho.out.1; rw [HLl.out] at h3; exact World.ownsRow.alloc h3 _
              case hc6 => exact World.news_of_block (cs := #[.int .i64 (z + z0 - b0)]) (t := 2) (fr := (0, 0)) (heap_alloc_new wr _)
              case hc7 => simp [Value.oneCell']
              case hc8 => simp only [maxLen]; omega
              case hc9 => omega
              case hc10 => show W1.heap.size ≤ (wr.alloc _).heap.size; simp; omega
              intro g2 cap2 w2 hown2 hgrow hg2 _
              have hbx : Below (W1.heap.size) wr w2 := Below.grown (w := (wr.alloc (.cells #[.int .i64 (z + z0 - b0)] 2)).drew) (below_drewN ((Below.refl _ _).alloc (by omega) _) 1) hgrow (by show W1.heap.size ≤ (wr.alloc _).heap.size; simp; omega) (fun k hk => (Own.lt ho.out.1 k hk).1)
              have HBX := Lib.hid hbx
              have hpa : W1.heap.size + 1 < (wr.alloc (.cells #[.int .i64 (z + z0 - b0)] 2)).heap.size := by simp; omega
              have hpn : some (W1.heap.size + 1) ≠ (Value.slice (some ⟨g1, 0, none⟩) l c').ownBlock := by simp [Value.ownBlock]; omega
              have c3 : w2.cell? ⟨W1.heap.size + 1, 0, none⟩ = some (.slice (some ⟨g1, 0, none⟩) l c') := (hgrow.cell_far ⟨W1.heap.size + 1, 0, none⟩ hpa hpn).trans (((below_box wr _).cell (p := ⟨W1.heap.size + 1, 0, none⟩) hpb).trans hco)
              have f3 : w2.frozen? ⟨W1.heap.size + 1, 0, none⟩ = false := (hgrow.frozen_far ⟨W1.heap.size + 1, 0, none⟩ hpa hpn).trans (((below_box wr _).frozen (p := ⟨W1.heap.size + 1, 0, none⟩) hpb).trans hcf)
              have hg2p : g2 ≠ W1.heap.size + 1 := by rcases hg2 with h | h; (simp [Value.ownBlock] at h; omega); (have h9 : g2 = wr.heap.size + 1 := (by simpa using h)); omega
              have HO2 : Hid (OwnI w2 (W1.heap.size) w2.heap.size (.slice (some ⟨g2, 0, none⟩) (l + 1) cap2) (L ++ [(z + z0 - b0)])) := Lib.hid (OwnI.mk' (n := l + 1) (by rw [List.map_append]; exact hown2))
              have sa0 : w2.cell? ⟨g, o + j, none⟩ = some (.int .i64 z) := by rw [HBX.out.cell (p := ⟨g, o + j, none⟩) (by show g < _; omega)]; exact hce
              have sa1 : w2.cell? ⟨g, o, none⟩ = some (.int .i64 z0) := by rw [HBX.out.cell (p := ⟨g, o, none⟩) (by show g < _; omega)]; exact hce0
              have sa2 : w2.cell? ⟨g, o + 1, none⟩ = some (.int .i64 b0) := by rw [HBX.out.cell (p := ⟨g, o + 1, none⟩) (by show g < _; omega)]; exact hce1
              have hsz2 := HBX.out.size
              have hp2 : W1.heap.size + 1 < w2.heap.size := by omega
              refine hK.out _ _ ⟨sa0, sa1, sa2⟩ (fun hHeld => ?_)
              clear hK K hbx hown2 hgrow hg2 hpa hpn
              try simp only [Act.put, List.setIfInBounds_toArray, List.set_cons_zero, List.set_cons_succ]
              refine takeY 16 _ (v := ?_) rfl rfl (by kernel_rfl) (by kernel_rfl) (by kernel_rfl) (fun _ _ _ h => h) (by kernel_rfl) ?_ (by assumption) ?_
              rotate_left 1
              · intro w hSw; (try dsimp only at hSw); go_simp; (try with_reducible rfl)
              try simp only [Act.put, List.setIfInBounds_toArray, List.set_cons_zero, List.set_cons_succ]
              refine wpAnyH_ready (rs := [17]) (by kernel_rfl) (by simp) ?_
              refine AllReadyH.cons rfl (fun K hK => ?_) AllReadyH.nil
              go_simp
              have HC3 : Hid ((w2.setCell ⟨W1.heap.size + 1, 0, none⟩ (.slice (some ⟨g2, 0, none⟩) (l + 1) cap2)).cell? ⟨W1.heap.size + 1, 0, none⟩ = some (.slice (some ⟨g2, 0, none⟩) (l + 1) cap2)) := Lib.hid (by go_simp)
              have HF3 : Hid ((w2.setCell ⟨W1.heap.size + 1, 0, none⟩ (.slice (some ⟨g2, 0, none⟩) (l + 1) cap2)).frozen? ⟨W1.heap.size + 1, 0, none⟩ = false) := Lib.hid (by go_simp)
              have HO3 : Hid (OwnI (w2.setCell ⟨W1.heap.size + 1, 0, none⟩ (.slice (some ⟨g2, 0, none⟩) (l + 1) cap2)) (W1.heap.size) (w2.setCell ⟨W1.heap.size + 1, 0, none⟩ (.slice (some ⟨g2, 0, none⟩) (l + 1) cap2)).heap.size (.slice (some ⟨g2, 0, none⟩) (l + 1) cap2) (L ++ [(z + z0 - b0)])) := Lib.hid (by have h := own_set HO2.out (p := ⟨W1.heap.size + 1, 0, none⟩) (u := .slice (some ⟨g2, 0, none⟩) (l + 1) cap2) (by simp [Value.ownBlock]; omega); simpa [World.setCell] using h)
              have HB3 : Hid (Below (W1.heap.size) W1 (w2.setCell ⟨W1.heap.size + 1, 0, none⟩ (.slice (some ⟨g2, 0, none⟩) (l + 1) cap2))) := Lib.hid ((hb.out.trans (HBX.out.mono (Nat.le_refl _))).setCell (by show W1.heap.size ≤ W1.heap.size + 1; omega) _)
              have sb0 : (w2.setCell ⟨W1.heap.size + 1, 0, none⟩ (.slice (some ⟨g2, 0, none⟩) (l + 1) cap2)).cell? ⟨g, o + j, none⟩ = some (.int .i64 z) := by go_simp
              have sb1 : (w2.setCell ⟨W1.heap.size + 1, 0, none⟩ (.slice (some ⟨g2, 0, none⟩) (l + 1) cap2)).cell? ⟨g, o, none⟩ = some (.int .i64 z0) := by go_simp
              have sb2 : (w2.setCell ⟨W1.heap.size + 1, 0, none⟩ (.slice (some ⟨g2, 0, none⟩) (l + 1) cap2)).cell? ⟨g, o + 1, none⟩ = some (.int .i64 b0) := by go_simp
              refine hK.out _ _ ⟨sb0, sb1, sb2⟩ (fun hHeld => ?_)
              clear hK K
              try simp only [Act.put, List.setIfInBounds_toArray, List.set_cons_zero, List.set_cons_succ]
              refine wpAnyH_done (by kernel_rfl) ?_ _
              go_wp2_with fail
              go_roundw
              case rel => exact ⟨j + 1, l + 1, L ++ [z + z0 - b0], g2, cap2, by omega, by omega, by go_num, Lib.hid (by simp [HLl.out]), ⟨(HO2.out.1.lt g2 rfl).1, hg2p⟩, HG, HC3, HF3, HO3, HB3⟩
              case measure => simp [intOf]; omega
          · obtain rfl : j = k := by omega
            have HX : Hid (tuL zs = L) := Lib.hid (by rw [hex.out, drop_end HL.out (Nat.le_refl _)]; simp)
            have HWL2 : Hid (∀ z ∈ L, (Lit.int .i64 z).wf = true) := Lib.hid (by rw [← HX.out]; exact HWL.out)
            have HBB := Lib.hid (BR.out.trans (hb.out.mono (by omega)))
            cases hp : brB L
            · have E := Lib.hid (tu_none OK.out (by rw [HX.out]; exact hp))
              have HP := Lib.hid hp
              clear hp
              go_wp2_with fail
              refine (l03Is_if _ L wr false ho.out.reads (by rw [HLl.out]; omega) HWL2.out HP.out).mono ?_
              rintro e w6 ⟨rfl, hb6⟩
              obtain ⟨l2, l3, l4⟩ := S0.out.later (HBB.out.trans (hb6.mono (by omega)))
              have B6 := Lib.hid (S0.out.below.trans ((HBB.out.trans (hb6.mono (by omega))).mono (by omega)))
              clear hb6
              go_wp2_with fail
              have cr : (w6.setCell ⟨w.heap.size, 0, none⟩ (.slice none 0 0)).cell? ⟨w.heap.size, 0, none⟩ = some (.slice none 0 0) := by go_simp
              refine bodyPost_ret (v := .tuple #[.agg #[.slice none 0 0], .int .i64 5]) (by simp [results, Try.results47, go_sem, cr]) rfl ?_
              exact ansR_endG _ (Nat.le_refl _) E.out.1.symm E.out.2.symm (OwnI.nil _ _) (by intro h; cases h) B6.out _
            · have E := Lib.hid (tu_yes OK.out (by rw [HX.out]; exact hp))
              have HP := Lib.hid hp
              clear hp
              go_wp2_with fail
              refine (l03Is_if _ L wr true ho.out.reads (by rw [HLl.out]; omega) HWL2.out HP.out).mono ?_
              rintro e w6 ⟨rfl, hb6⟩
              obtain ⟨l2, l3, l4⟩ := S0.out.later (HBB.out.trans (hb6.mono (by omega)))
              have B6 := Lib.hid (S0.out.below.trans ((HBB.out.trans (hb6.mono (by omega))).mono (by omega)))
              have hc6 : w6.cell? ⟨W1.heap.size + 1, 0, none⟩ = some (.slice (some ⟨g1, 0, none⟩) l c') := by rw [hb6.cell (p := ⟨W1.heap.size + 1, 0, none⟩) hpb]; exact hco
              have O6 : Hid (OwnI w6 W1.heap.size wr.heap.size (.slice (some ⟨g1, 0, none⟩) l c') L) := Lib.hid (ho.out.kept (Kept.of_below hb6 (Nat.le_refl _)))
              have hs6 := hb6.size
              clear hb6
              go_wp2_with fail
              have cr : (w6.setCell ⟨w.heap.size, 0, none⟩ (.slice (some ⟨g1, 0, none⟩) l c')).cell? ⟨w.heap.size, 0, none⟩ = some (.slice (some ⟨g1, 0, none⟩) l c') := by go_simp
              refine bodyPost_ret (v := .tuple #[.agg #[.slice (some ⟨g1, 0, none⟩) l c'], .int .i64 0]) (by simp [results, Try.results47, go_sem, cr]) rfl ?_
              exact ansR_endG _ (Nat.le_refl _) (by rw [E.out.1, HX.out]) E.out.2.symm ((own_lessB O6.out (by omega)).raise (by omega) (Nat.le_refl _)) (by simp [Value.ownBlock]; omega) B6.out _
      · have hb0 : (z0 % b0 != 0) = true := by rw [← hem]; simp [h0]
        have EX0 : Hid (tuL zs = ([b0] ++ [z0]) ++ (zs.drop 2).map fun z => z + z0 - b0) := Lib.hid (by rw [HZS.out, tuL_no h0]; simp)
        clear h0 hem
        go_wp2_with fail
        rw [← HW3.out]
        clear q0 q1
        go_quiet (fail)
        obtain ⟨wr, hwr⟩ : ∃ W, W = w3.drewN nq := ⟨_, rfl⟩
        obtain ⟨g1, hg1⟩ : ∃ g, g = W1.heap.size := ⟨_, rfl⟩
        obtain ⟨l, hl⟩ : ∃ l, l = 1 := ⟨_, rfl⟩
        obtain ⟨c', hc'⟩ : ∃ l, l = 1 := ⟨_, rfl⟩
        obtain ⟨L, hL⟩ : ∃ L, L = [b0] := ⟨_, rfl⟩
        have ho : Hid (OwnI wr W1.heap.size wr.heap.size (.slice (some ⟨g1, 0, none⟩) l c') L) := by rw [hwr, hg1, hl, hc', hL]; exact HO1
        have hco : wr.cell? ⟨W1.heap.size + 1, 0, none⟩ = some (.slice (some ⟨g1, 0, none⟩) l c') := by rw [hwr, hg1, hl, hc']; exact HC1.out
        have hcf : wr.frozen? ⟨W1.heap.size + 1, 0, none⟩ = false := by rw [hwr]; exact HF1.out
        have hb : Hid (Below W1.heap.size W1 wr) := Lib.hid (by rw [hwr]; exact below_drewN HBL.out nq)
        have hpb : W1.heap.size + 1 < wr.heap.size := World.block_lt_of_cell? wr ⟨W1.heap.size + 1, 0, none⟩ hco
        have HLl : Hid (L.length = l) := Lib.hid (by rw [hL, hl]; rfl)
        have hlo : W1.heap.size ≤ g1 := by omega
        have hg1p : g1 ≠ W1.heap.size + 1 := by omega
        have hgl : g < wr.heap.size := by omega
        have hce : wr.cell? ⟨g, o, none⟩ = some (.int .i64 z0) := by rw [hwr]; exact hq0
        have EX1 : Hid (tuL zs = (L ++ [z0]) ++ (zs.drop 2).map fun z => z + z0 - b0) := by rw [hL]; exact EX0
        have hl9 := Lib.hid hl
        have hlb : l ≤ 1 := by omega
        rw [← hwr]
        clear HO1 HC1 HF1 HBL hq0 hq1 hwr hg1 hl hc' hL EX0
        go_wp2_with fail
        refine wp_region_held_drew (S := fun w' => w'.cell? ⟨g, o, none⟩ = some (.int .i64 z0)) (by kernel_rfl) hce (fun hHeld => ?_)
        refine takeY 0 _ (v := ?_) rfl rfl (by kernel_rfl) (by kernel_rfl) (by kernel_rfl) (fun _ _ _ h => h) (by kernel_rfl) ?_ (by assumption) ?_
        rotate_left 1
        · intro w hSw; (try dsimp only at hSw); go_simp; (try with_reducible rfl)
        try simp only [Act.put, List.setIfInBounds_toArray, List.set_cons_zero, List.set_cons_succ]
        refine takeY 2 _ (v := ?_) rfl rfl (by kernel_rfl) (by kernel_rfl) (by kernel_rfl) (fun _ _ _ h => h) (by kernel_rfl) ?_ (by assumption) ?_
        rotate_left 1
        · intro w hSw; (try dsimp only at hSw); go_simp; (try with_reducible rfl)
        try simp only [Act.put, List.setIfInBounds_toArray, List.set_cons_zero, List.set_cons_succ]
        refine takeY 3 _ (v := ?_) rfl rfl (by kernel_rfl) (by kernel_rfl) (by kernel_rfl) (fun _ _ _ h => h) (by kernel_rfl) ?_ (by assumption) ?_
        rotate_left 1
        · intro w hSw; (try dsimp only at hSw); go_simp; (try with_reducible rfl)
        try simp only [Act.put, List.setIfInBounds_toArray, List.set_cons_zero, List.set_cons_succ]
        refine takeY 4 _ (v := ?_) rfl rfl (by kernel_rfl) (by kernel_rfl) (by kernel_rfl) (fun _ _ _ h => h) (by kernel_rfl) ?_ (by assumption) ?_
        rotate_left 1
        · intro w hSw; (try dsimp only at hSw); go_simp; (try with_reducible rfl)
        try simp only [Act.put, List.setIfInBounds_toArray, List.set_cons_zero, List.set_cons_succ]
        refine wpAnyH_ready (rs := [1, 5]) (by kernel_rfl) (by simp) ?_
        refine AllReadyH.cons rfl (fun K hK => ?_) (AllReadyH.cons rfl (fun K hK => ?_) AllReadyH.nil)
        · go_simp
          refine hK.out _ (wr.drew) hce (fun hHeld => ?_)
          clear hK K
          try simp only [Act.put, List.setIfInBounds_toArray, List.set_cons_zero, List.set_cons_succ]
          refine wpAnyH_ready (rs := [5]) (by kernel_rfl) (by simp) ?_
          refine AllReadyH.cons rfl (fun K hK => ?_) AllReadyH.nil
          go_simp
          refine hK.out _ _ (((below_box wr _).cell (p := ⟨g, o, none⟩) hgl).trans hce) (fun hHeld => ?_)
          clear hK K
          try simp only [Act.put, List.setIfInBounds_toArray, List.set_cons_zero, List.set_cons_succ]
          refine wpAnyH_ready (rs := [6]) (by kernel_rfl) (by simp) ?_
          refine AllReadyH.cons rfl (fun K hK => ?_) AllReadyH.nil
          try simp only [List.getElem_toArray, List.getElem_cons_succ, List.getElem_cons_zero]
          rw [if_pos (by kernel_rfl)]
          refine wp_append_lies _ (.tmp 91) (.tmp 95) 24 ?hd2 (W1.heap.size) 2 i0 (.int .i64 0) 1 8 Try.underlying24 hi0 hy0 hy1 hy2 rfl (by decide) (.slice (some ⟨g1, 0, none⟩) l c') l (L.map (.int .i64)) ?hd3 ?hd4 ⟨wr.heap.size, 0, none⟩ 1 1 [.int .i64 z0] ?hd5 rfl ?hd6 ?hd7 (by decide) ?hd8 ?hd9 ?hd10 _ rfl ?hd11
          case hd2 => rfl
          case hd3 => rfl
          case hd5 => rfl
          case hd4 => have h3 := ho.out.1; rw [HLl.out] at h3; exact World.ownsRow.alloc h3 _
          case hd6 => exact World.news_of_block (cs := #[.int .i64 z0]) (t := 2) (fr := (0, 0)) (heap_alloc_new wr _)
          case hd7 => simp [Value.oneCell']
          case hd8 => simp only [maxLen]; omega
          case hd9 => omega
          case hd10 => show W1.heap.size ≤ (wr.alloc _).heap.size; simp; omega
          intro g2 cap2 w2 hown2 hgrow hg2 _
          have hbx : Below (W1.heap.size) wr w2 := Below.grown (w := (wr.alloc (.cells #[.int .i64 z0] 2)).drew) (below_drewN ((Below.refl _ _).alloc (by omega) _) 1) hgrow (by show W1.heap.size ≤ (wr.alloc _).heap.size; simp; omega) (fun k hk => (Own.lt ho.out.1 k hk).1)
          have HBX := Lib.hid hbx
          have hpa : W1.heap.size + 1 < (wr.alloc (.cells #[.int .i64 z0] 2)).heap.size := by simp; omega
          have hpn : some (W1.heap.size + 1) ≠ (Value.slice (some ⟨g1, 0, none⟩) l c').ownBlock := by simp [Value.ownBlock]; omega
          have c3 : w2.cell? ⟨W1.heap.size + 1, 0, none⟩ = some (.slice (some ⟨g1, 0, none⟩) l c') := (hgrow.cell_far ⟨W1.heap.size + 1, 0, none⟩ hpa hpn).trans (((below_box wr _).cell (p := ⟨W1.heap.size + 1, 0, none⟩) hpb).trans hco)
          have f3 : w2.frozen? ⟨W1.heap.size + 1, 0, none⟩ = false := (hgrow.frozen_far ⟨W1.heap.size + 1, 0, none⟩ hpa hpn).trans (((below_box wr _).frozen (p := ⟨W1.heap.size + 1, 0, none⟩) hpb).trans hcf)
          have hg2p : g2 ≠ W1.heap.size + 1 := by rcases hg2 with h | h; (simp [Value.ownBlock] at h; omega); (have h9 : g2 = wr.heap.size + 1 := (by simpa using h)); omega
          have HO2 : Hid (OwnI w2 (W1.heap.size) w2.heap.size (.slice (some ⟨g2, 0, none⟩) (l + 1) cap2) (L ++ [z0])) := Lib.hid (OwnI.mk' (n := l + 1) (by rw [List.map_append]; exact hown2))
          have sa0 : w2.cell? ⟨g, o, none⟩ = some (.int .i64 z0) := by rw [HBX.out.cell (p := ⟨g, o, none⟩) (by show g < _; omega)]; exact hce
          have hsz2 := HBX.out.size
          have hp2 : W1.heap.size + 1 < w2.heap.size := by omega
          refine hK.out _ _ sa0 (fun hHeld => ?_)
          clear hK K hbx hown2 hgrow hg2 hpa hpn
          try simp only [Act.put, List.setIfInBounds_toArray, List.set_cons_zero, List.set_cons_succ]
          refine takeY 7 _ (v := ?_) rfl rfl (by kernel_rfl) (by kernel_rfl) (by kernel_rfl) (fun _ _ _ h => h) (by kernel_rfl) ?_ (by assumption) ?_
          rotate_left 1
          · intro w hSw; (try dsimp only at hSw); go_simp; (try with_reducible rfl)
          try simp only [Act.put, List.setIfInBounds_toArray, List.set_cons_zero, List.set_cons_succ]
          refine wpAnyH_ready (rs := [8]) (by kernel_rfl) (by simp) ?_
          refine AllReadyH.cons rfl (fun K hK => ?_) AllReadyH.nil
          go_simp
          have HC3 : Hid ((w2.setCell ⟨W1.heap.size + 1, 0, none⟩ (.slice (some ⟨g2, 0, none⟩) (l + 1) cap2)).cell? ⟨W1.heap.size + 1, 0, none⟩ = some (.slice (some ⟨g2, 0, none⟩) (l + 1) cap2)) := Lib.hid (by go_simp)
          have HF3 : Hid ((w2.setCell ⟨W1.heap.size + 1, 0, none⟩ (.slice (some ⟨g2, 0, none⟩) (l + 1) cap2)).frozen? ⟨W1.heap.size + 1, 0, none⟩ = false) := Lib.hid (by go_simp)
          have HO3 : Hid (OwnI (w2.setCell ⟨W1.heap.size + 1, 0, none⟩ (.slice (some ⟨g2, 0, none⟩) (l + 1) cap2)) (W1.heap.size) (w2.setCell ⟨W1.heap.size + 1, 0, none⟩ (.slice (some ⟨g2, 0, none⟩) (l + 1) cap2)).heap.size (.slice (some ⟨g2, 0, none⟩) (l + 1) cap2) (L ++ [z0])) := Lib.hid (by have h := own_set HO2.out (p := ⟨W1.heap.size + 1, 0, none⟩) (u := .slice (some ⟨g2, 0, none⟩) (l + 1) cap2) (by simp [Value.ownBlock]; omega); simpa [World.setCell] using h)
          have HB3 : Hid (Below (W1.heap.size) W1 (w2.setCell ⟨W1.heap.size + 1, 0, none⟩ (.slice (some ⟨g2, 0, none⟩) (l + 1) cap2))) := Lib.hid ((hb.out.trans (HBX.out.mono (Nat.le_refl _))).setCell (by show W1.heap.size ≤ W1.heap.size + 1; omega) _)
          have sb0 : (w2.setCell ⟨W1.heap.size + 1, 0, none⟩ (.slice (some ⟨g2, 0, none⟩) (l + 1) cap2)).cell? ⟨g, o, none⟩ = some (.int .i64 z0) := by go_simp
          refine hK.out _ _ sb0 (fun hHeld => ?_)
          clear hK K
          try simp only [Act.put, List.setIfInBounds_toArray, List.set_cons_zero, List.set_cons_succ]
          refine wpAnyH_done (by kernel_rfl) ?_ _
          have HB2 := HB3
          go_wp2_with fail
          go_loopw [8] (fun vi wr => ∃ (j l : Nat) (L : List Int) (g1 : Nat) (c' : Nat), (2 ≤ j ∧ j ≤ k) ∧ l ≤ j ∧ vi = .int .i64 j ∧ Hid (L.length = l) ∧ (W1.heap.size ≤ g1 ∧ g1 ≠ W1.heap.size + 1) ∧ Hid (tuL zs = L ++ (zs.drop j).map fun z => z + z0 - b0) ∧ Hid (wr.cell? ⟨W1.heap.size + 1, 0, none⟩ = some (.slice (some ⟨g1, 0, none⟩) l c')) ∧ Hid (wr.frozen? ⟨W1.heap.size + 1, 0, none⟩ = false) ∧ Hid (OwnI wr W1.heap.size wr.heap.size (.slice (some ⟨g1, 0, none⟩) l c') L) ∧ Hid (Below W1.heap.size W1 wr)) (fun vi _ => k - (intOf vi).toNat)
          case atStart => exact ⟨2, l + 1, L ++ [z0], g2, cap2, by omega, by omega, by first | rfl | go_num, Lib.hid (by simp [HLl.out]), ⟨(HO2.out.1.lt g2 rfl).1, hg2p⟩, EX1, HC3, HF3, HO3, HB3⟩
          case round =>
            clear HO2 HB2
            obtain ⟨j, l, L, g1, c', hj, hlj, rfl, HLl, ⟨hlo, hg1p⟩, hex, hco0, hcf0, ho, hb⟩ := hrel
            have hco := hco0.out
            have hcf := hcf0.out
            have hpb : W1.heap.size + 1 < wr.heap.size := World.block_lt_of_cell? wr ⟨W1.heap.size + 1, 0, none⟩ hco
            have hgl : g < wr.heap.size := by omega
            by_cases hlt : j < k
            · obtain ⟨a, e1, _, hcell0⟩ := H1.out.2 j hlt
              cases e1
              have hz := HZ.out (zs[j]?.getD 0) (by have := HL.out; simp [show j < zs.length by omega])
              have HD := Lib.hid (drop_at HL.out hlt)
              have hce : wr.cell? ⟨g, o + j, none⟩ = some (.int .i64 (zs[j]?.getD 0)) := by rw [← add_lit, hb.out.cell (by rw [add_block]; show g < _; omega)]; simpa using hcell0
              have hce0 : wr.cell? ⟨g, o, none⟩ = some (.int .i64 z0) := (hb.out.cell (p := ⟨g, o, none⟩) (by show g < _; omega)).trans Q0.out.1
              have hce1 : wr.cell? ⟨g, o + 1, none⟩ = some (.int .i64 b0) := (hb.out.cell (p := ⟨g, o + 1, none⟩) (by show g < _; omega)).trans Q0.out.2
              generalize zs[j]?.getD 0 = z at *
              have hjn : (j : Int) < (k : Int) := by omega
              have hj9 : (0 : Int) ≤ (j : Int) := by omega
              have p1 : IntKind.i64.wrap (z + z0) = z + z0 := IntWalk.i64_in _ (by omega)
              have p2 : IntKind.i64.wrap (z + z0 - b0) = z + z0 - b0 := IntWalk.i64_in _ (by omega)
              have HG : Hid (tuL zs = (L ++ [z + z0 - b0]) ++ (zs.drop (j + 1)).map fun z => z + z0 - b0) := Lib.hid (by rw [hex.out, HD.out]; simp)
              clear hcell0
              go_wp2_with fail
              refine wp_region_held_drew (S := fun w' => w'.cell? ⟨g, o + j, none⟩ = some (.int .i64 z) ∧ w'.cell? ⟨g, o, none⟩ = some (.int .i64 z0) ∧ w'.cell? ⟨g, o + 1, none⟩ = some (.int .i64 b0)) (by kernel_rfl) ⟨hce, hce0, hce1⟩ (fun hHeld => ?_)
              refine takeY 0 _ (v := ?_) rfl rfl (by kernel_rfl) (by kernel_rfl) (by kernel_rfl) (fun _ _ _ h => h) (by kernel_rfl) ?_ (by assumption) ?_
              rotate_left 1
              · intro w hSw; (try dsimp only at hSw); go_simp; (try with_reducible rfl)
              try simp only [Act.put, List.setIfInBounds_toArray, List.set_cons_zero, List.set_cons_succ]
              refine takeY 2 _ (v := ?_) rfl rfl (by kernel_rfl) (by kernel_rfl) (by kernel_rfl) (fun _ _ _ h => h) (by kernel_rfl) ?_ (by assumption) ?_
              rotate_left 1
              · intro w hSw; (try dsimp only at hSw); go_simp; (try with_reducible rfl)
              try simp only [Act.put, List.setIfInBounds_toArray, List.set_cons_zero, List.set_cons_succ]
              refine takeY 3 _ (v := ?_) rfl rfl (by kernel_rfl) (by kernel_rfl) (by kernel_rfl) (fun _ _ _ h => h) (by kernel_rfl) ?_ (by assumption) ?_
              rotate_left 1
              · intro w hSw; (try dsimp only at hSw); go_simp; (try with_reducible rfl)
              try simp only [Act.put, List.setIfInBounds_toArray, List.set_cons_zero, List.set_cons_succ]
              refine takeY 4 _ (v := ?_) rfl rfl (by kernel_rfl) (by kernel_rfl) (by kernel_rfl) (fun _ _ _ h => h) (by kernel_rfl) ?_ (by assumption) ?_
              rotate_left 1
              · intro w hSw; (try dsimp only at hSw); go_simp; (try with_reducible rfl)
              try simp only [Act.put, List.setIfInBounds_toArray, List.set_cons_zero, List.set_cons_succ]
              refine takeY 5 _ (v := ?_) rfl rfl (by kernel_rfl) (by kernel_rfl) (by kernel_rfl) (fun _ _ _ h => h) (by kernel_rfl) ?_ (by assumption) ?_
              rotate_left 1
              · intro w hSw; (try dsimp only at hSw); go_simp; (try with_reducible rfl)
              try simp only [Act.put, List.setIfInBounds_toArray, List.set_cons_zero, List.set_cons_succ]
              refine takeY 6 _ (v := ?_) rfl rfl (by kernel_rfl) (by kernel_rfl) (by kernel_rfl) (fun _ _ _ h => h) (by kernel_rfl) ?_ (by assumption) ?_
              rotate_left 1
              · intro w hSw; (try dsimp only at hSw); go_simp; (try with_reducible rfl)
              try simp only [Act.put, List.setIfInBounds_toArray, List.set_cons_zero, List.set_cons_succ]
              refine takeY 7 _ (v := ?_) rfl rfl (by kernel_rfl) (by kernel_rfl) (by kernel_rfl) (fun _ _ _ h => h) (by kernel_rfl) ?_ (by assumption) ?_
              rotate_left 1
              · intro w hSw; (try dsimp only at hSw); go_simp; (try with_reducible rfl)
              try simp only [Act.put, List.setIfInBounds_toArray, List.set_cons_zero, List.set_cons_succ]
              refine takeY 8 _ (v := ?_) rfl rfl (by kernel_rfl) (by kernel_rfl) (by kernel_rfl) (fun _ _ _ h => h) (by kernel_rfl) ?_ (by assumption) ?_
              rotate_left 1
              · intro w hSw; (try dsimp only at hSw); go_simp; (try with_reducible rfl)
              try simp only [Act.put, List.setIfInBounds_toArray, List.set_cons_zero, List.set_cons_succ]
              refine takeY 9 _ (v := ?_) rfl rfl (by kernel_rfl) (by kernel_rfl) (by kernel_rfl) (fun _ _ _ h => h) (by kernel_rfl) ?_ (by assumption) ?_
              rotate_left 1
              · intro w hSw; (try dsimp only at hSw); go_simp; (try with_reducible rfl)
              try simp only [Act.put, List.setIfInBounds_toArray, List.set_cons_zero, List.set_cons_succ]
              refine takeY 10 _ (v := ?_) rfl rfl (by kernel_rfl) (by kernel_rfl) (by kernel_rfl) (fun _ _ _ h => h) (by kernel_rfl) ?_ (by assumption) ?_
              rotate_left 1
              · intro w hSw; (try dsimp only at hSw); go_simp; (try with_reducible rfl)
              try simp only [Act.put, List.setIfInBounds_toArray, List.set_cons_zero, List.set_cons_succ]
              refine takeY 11 _ (v := ?_) rfl rfl (by kernel_rfl) (by kernel_rfl) (by kernel_rfl) (fun _ _ _ h => h) (by kernel_rfl) ?_ (by assumption) ?_
              rotate_left 1
              · intro w hSw; (try dsimp only at hSw); go_simp; (try with_reducible rfl)
              try simp only [Act.put, List.setIfInBounds_toArray, List.set_cons_zero, List.set_cons_succ]
              refine takeY 12 _ (v := ?_) rfl rfl (by kernel_rfl) (by kernel_rfl) (by kernel_rfl) (fun _ _ _ h => h) (by kernel_rfl) ?_ (by assumption) ?_
              rotate_left 1
              · intro w hSw; (try dsimp only at hSw); go_simp; (try with_reducible rfl)
              try simp only [Act.put, List.setIfInBounds_toArray, List.set_cons_zero, List.set_cons_succ]
              refine takeY 13 _ (v := ?_) rfl rfl (by kernel_rfl) (by kernel_rfl) (by kernel_rfl) (fun _ _ _ h => h) (by kernel_rfl) ?_ (by assumption) ?_
              rotate_left 1
              · intro w hSw; (try dsimp only at hSw); go_simp; (try with_reducible rfl)
              try simp only [Act.put, List.setIfInBounds_toArray, List.set_cons_zero, List.set_cons_succ]
              refine wpAnyH_ready (rs := [1, 14]) (by kernel_rfl) (by simp) ?_
              refine AllReadyH.cons rfl (fun K hK => ?_) (AllReadyH.cons rfl (fun K hK => ?_) AllReadyH.nil)
              · go_simp
                refine hK.out _ (wr.drew) ⟨hce, hce0, hce1⟩ (fun hHeld => ?_)
                clear hK K
                try simp only [Act.put, List.setIfInBounds_toArray, List.set_cons_zero, List.set_cons_succ]
                refine wpAnyH_ready (rs := [14]) (by kernel_rfl) (by simp) ?_
                refine AllReadyH.cons rfl (fun K hK => ?_) AllReadyH.nil
                go_simp
                refine hK.out _ _ ⟨((below_box wr _).cell (p := ⟨g, o + j, none⟩) hgl).trans hce, ((below_box wr _).cell (p := ⟨g, o, none⟩) hgl).trans hce0, ((below_box wr _).cell (p := ⟨g, o + 1, none⟩) hgl).trans hce1⟩ (fun hHeld => ?_)
                clear hK K
                try simp only [Act.put, List.setIfInBounds_toArray, List.set_cons_zero, List.set_cons_succ]
                refine wpAnyH_ready (rs := [15]) (by kernel_rfl) (by simp) ?_
                refine AllReadyH.cons rfl (fun K hK => ?_) AllReadyH.nil
                try simp only [List.getElem_toArray, List.getElem_cons_succ, List.getElem_cons_zero]
                rw [if_pos (by kernel_rfl)]
                refine wp_append_lies _ (.tmp 105) (.tmp 118) 24 ?he2 (W1.heap.size) 2 i0 (.int .i64 0) 1 8 Try.underlying24 hi0 hy0 hy1 hy2 rfl (by decide) (.slice (some ⟨g1, 0, none⟩) l c') l (L.map (.int .i64)) ?he3 ?he4 ⟨wr.heap.size, 0, none⟩ 1 1 [.int .i64 (z + z0 - b0)] ?he5 rfl ?he6 ?he7 (by decide) ?he8 ?he9 ?he10 _ rfl ?he11
                case he2 => rfl
                case he3 => rfl
                case he5 => rfl
                case he4 => have h3 := ho.out.1; rw [HLl.out] at h3; exact World.ownsRow.alloc h3 _
                case he6 => exact World.news_of_block (cs := #[.int .i64 (z + z0 - b0)]) (t := 2) (fr := (0, 0)) (heap_alloc_new wr _)
                case he7 => simp [Value.oneCell']
                case he8 => simp only [maxLen]; omega
                case he9 => omega
                case he10 => show W1.heap.size ≤ (wr.alloc _).heap.size; simp; omega
                intro g2 cap2 w2 hown2 hgrow hg2 _
                have hbx : Below (W1.heap.size) wr w2 := Below.grown (w := (wr.alloc (.cells #[.int .i64 (z + z0 - b0)] 2)).drew) (below_drewN ((Below.refl _ _).alloc (by omega) _) 1) hgrow (by show W1.heap.size ≤ (wr.alloc _).heap.size; simp; omega) (fun k hk => (Own.lt ho.out.1 k hk).1)
                have HBX := Lib.hid hbx
                have hpa : W1.heap.size + 1 < (wr.alloc (.cells #[.int .i64 (z + z0 - b0)] 2)).heap.size := by simp; omega
                have hpn : some (W1.heap.size + 1) ≠ (Value.slice (some ⟨g1, 0, none⟩) l c').ownBlock := by simp [Value.ownBlock]; omega
                have c3 : w2.cell? ⟨W1.heap.size + 1, 0, none⟩ = some (.slice (some ⟨g1, 0, none⟩) l c') := (hgrow.cell_far ⟨W1.heap.size + 1, 0, none⟩ hpa hpn).trans (((below_box wr _).cell (p := ⟨W1.heap.size + 1, 0, none⟩) hpb).trans hco)
                have f3 : w2.frozen? ⟨W1.heap.size + 1, 0, none⟩ = false := (hgrow.frozen_far ⟨W1.heap.size + 1, 0, none⟩ hpa hpn).trans (((below_box wr _).frozen (p := ⟨W1.heap.size + 1, 0, none⟩) hpb).trans hcf)
                have hg2p : g2 ≠ W1.heap.size + 1 := by rcases hg2 with h | h; (simp [Value.ownBlock] at h; omega); (have h9 : g2 = wr.heap.size + 1 := (by simpa using h)); omega
                have HO2 : Hid (OwnI w2 (W1.heap.size) w2.heap.size (.slice (some ⟨g2, 0, none⟩) (l + 1) cap2) (L ++ [(z + z0 - b0)])) := Lib.hid (OwnI.mk' (n := l + 1) (by rw [List.map_append]; exact hown2))
                have sa0 : w2.cell? ⟨g, o + j, none⟩ = some (.int .i64 z) := by rw [HBX.out.cell (p := ⟨g, o + j, none⟩) (by show g < _; omega)]; exact hce
                have sa1 : w2.cell? ⟨g, o, none⟩ = some (.int .i64 z0) := by rw [HBX.out.cell (p := ⟨g, o, none⟩) (by show g < _; omega)]; exact hce0
                have sa2 : w2.cell? ⟨g, o + 1, none⟩ = some (.int .i64 b0) := by rw [HBX.out.cell (p := ⟨g, o + 1, none⟩) (by show g < _; omega)]; exact hce1
                have hsz2 := HBX.out.size
                have hp2 : W1.heap.size + 1 < w2.heap.size := by omega
                refine hK.out _ _ ⟨sa0, sa1, sa2⟩ (fun hHeld => ?_)
                clear hK K hbx hown2 hgrow hg2 hpa hpn
                try simp only [Act.put, List.setIfInBounds_toArray, List.set_cons_zero, List.set_cons_succ]
                refine takeY 16 _ (v := ?_) rfl rfl (by kernel_rfl) (by kernel_rfl) (by kernel_rfl) (fun _ _ _ h => h) (by kernel_rfl) ?_ (by assumption) ?_
                rotate_left 1
                · intro w hSw; (try dsimp only at hSw); go_simp; (try with_reducible rfl)
                try simp only [Act.put, List.setIfInBounds_toArray, List.set_cons_zero, List.set_cons_succ]
                refine wpAnyH_ready (rs := [17]) (by kernel_rfl) (by simp) ?_
                refine AllReadyH.cons rfl (fun K hK => ?_) AllReadyH.nil
                go_simp
                have HC3 : Hid ((w2.setCell ⟨W1.heap.size + 1, 0, none⟩ (.slice (some ⟨g2, 0, none⟩) (l + 1) cap2)).cell? ⟨W1.heap.size + 1, 0, none⟩ = some (.slice (some ⟨g2, 0, none⟩) (l + 1) cap2)) := Lib.hid (by go_simp)
                have HF3 : Hid ((w2.setCell ⟨W1.heap.size + 1, 0, none⟩ (.slice (some ⟨g2, 0, none⟩) (l + 1) cap2)).frozen? ⟨W1.heap.size + 1, 0, none⟩ = false) := Lib.hid (by go_simp)
                have HO3 : Hid (OwnI (w2.setCell ⟨W1.heap.size + 1, 0, none⟩ (.slice (some ⟨g2, 0, none⟩) (l + 1) cap2)) (W1.heap.size) (w2.setCell ⟨W1.heap.size + 1, 0, none⟩ (.slice (some ⟨g2, 0, none⟩) (l + 1) cap2)).heap.size (.slice (some ⟨g2, 0, none⟩) (l + 1) cap2) (L ++ [(z + z0 - b0)])) := Lib.hid (by have h := own_set HO2.out (p := ⟨W1.heap.size + 1, 0, none⟩) (u := .slice (some ⟨g2, 0, none⟩) (l + 1) cap2) (by simp [Value.ownBlock]; omega); simpa [World.setCell] using h)
                have HB3 : Hid (Below (W1.heap.size) W1 (w2.setCell ⟨W1.heap.size + 1, 0, none⟩ (.slice (some ⟨g2, 0, none⟩) (l + 1) cap2))) := Lib.hid ((hb.out.trans (HBX.out.mono (Nat.le_refl _))).setCell (by show W1.heap.size ≤ W1.heap.size + 1; omega) _)
                have sb0 : (w2.setCell ⟨W1.heap.size + 1, 0, none⟩ (.slice (some ⟨g2, 0, none⟩) (l + 1) cap2)).cell? ⟨g, o + j, none⟩ = some (.int .i64 z) := by go_simp
                have sb1 : (w2.setCell ⟨W1.heap.size + 1, 0, none⟩ (.slice (some ⟨g2, 0, none⟩) (l + 1) cap2)).cell? ⟨g, o, none⟩ = some (.int .i64 z0) := by go_simp
                have sb2 : (w2.setCell ⟨W1.heap.size + 1, 0, none⟩ (.slice (some ⟨g2, 0, none⟩) (l + 1) cap2)).cell? ⟨g, o + 1, none⟩ = some (.int .i64 b0) := by go_simp
                refine hK.out _ _ ⟨sb0, sb1, sb2⟩ (fun hHeld => ?_)
                clear hK K
                try simp only [Act.put, List.setIfInBounds_toArray, List.set_cons_zero, List.set_cons_succ]
                refine wpAnyH_done (by kernel_rfl) ?_ _
                go_wp2_with fail
                go_roundw
                case rel => exact ⟨j + 1, l + 1, L ++ [z + z0 - b0], g2, cap2, by omega, by omega, by go_num, Lib.hid (by simp [HLl.out]), ⟨(HO2.out.1.lt g2 rfl).1, hg2p⟩, HG, HC3, HF3, HO3, HB3⟩
                case measure => simp [intOf]; omega
              · go_simp
                refine hK.out _ _ ⟨((below_box wr _).cell (p := ⟨g, o + j, none⟩) hgl).trans hce, ((below_box wr _).cell (p := ⟨g, o, none⟩) hgl).trans hce0, ((below_box wr _).cell (p := ⟨g, o + 1, none⟩) hgl).trans hce1⟩ (fun hHeld => ?_)
                clear hK K
                try simp only [Act.put, List.setIfInBounds_toArray, List.set_cons_zero, List.set_cons_succ]
                refine wpAnyH_ready (rs := [1]) (by kernel_rfl) (by simp) ?_
                refine AllReadyH.cons rfl (fun K hK => ?_) AllReadyH.nil
                go_simp
                refine hK.out _ ((wr.alloc (.cells #[.int .i64 (z + z0 - b0)] 2)).drew) ⟨((below_box wr _).cell (p := ⟨g, o + j, none⟩) hgl).trans hce, ((below_box wr _).cell (p := ⟨g, o, none⟩) hgl).trans hce0, ((below_box wr _).cell (p := ⟨g, o + 1, none⟩) hgl).trans hce1⟩ (fun hHeld => ?_)
                clear hK K
                try simp only [Act.put, List.setIfInBounds_toArray, List.set_cons_zero, List.set_cons_succ]
                refine wpAnyH_ready (rs := [15]) (by kernel_rfl) (by simp) ?_
                refine AllReadyH.cons rfl (fun K hK => ?_) AllReadyH.nil
                try simp only [List.getElem_toArray, List.getElem_cons_succ, List.getElem_cons_zero]
                rw [if_pos (by kernel_rfl)]
                refine wp_append_lies _ (.tmp 105) (.tmp 118) 24 ?hf2 (W1.heap.size) 2 i0 (.int .i64 0) 1 8 Try.underlying24 hi0 hy0 hy1 hy2 rfl (by decide) (.slice (some ⟨g1, 0, none⟩) l c') l (L.map (.int .i64)) ?hf3 ?hf4 ⟨wr.heap.size, 0, none⟩ 1 1 [.int .i64 (z + z0 - b0)] ?hf5 rfl ?hf6 ?hf7 (by decide) ?hf8 ?hf9 ?hf10 _ rfl ?hf11
                case hf2 => rfl
                case hf3 => rfl
                case hf5 => rfl
                case hf4 => have h3 := ho.out.1; rw [HLl.out] at h3; exact World.ownsRow.alloc h3 _
                case hf6 => exact World.news_of_block (cs := #[.int .i64 (z + z0 - b0)]) (t := 2) (fr := (0, 0)) (heap_alloc_new wr _)
                case hf7 => simp [Value.oneCell']
                case hf8 => simp only [maxLen]; omega
                case hf9 => omega
                case hf10 => show W1.heap.size ≤ (wr.alloc _).heap.size; simp; omega
                intro g2 cap2 w2 hown2 hgrow hg2 _
                have hbx : Below (W1.heap.size) wr w2 := Below.grown (w := (wr.alloc (.cells #[.int .i64 (z + z0 - b0)] 2)).drew) (below_drewN ((Below.refl _ _).alloc (by omega) _) 1) hgrow (by show W1.heap.size ≤ (wr.alloc _).heap.size; simp; omega) (fun k hk => (Own.lt ho.out.1 k hk).1)
                have HBX := Lib.hid hbx
                have hpa : W1.heap.size + 1 < (wr.alloc (.cells #[.int .i64 (z + z0 - b0)] 2)).heap.size := by simp; omega
                have hpn : some (W1.heap.size + 1) ≠ (Value.slice (some ⟨g1, 0, none⟩) l c').ownBlock := by simp [Value.ownBlock]; omega
                have c3 : w2.cell? ⟨W1.heap.size + 1, 0, none⟩ = some (.slice (some ⟨g1, 0, none⟩) l c') := (hgrow.cell_far ⟨W1.heap.size + 1, 0, none⟩ hpa hpn).trans (((below_box wr _).cell (p := ⟨W1.heap.size + 1, 0, none⟩) hpb).trans hco)
                have f3 : w2.frozen? ⟨W1.heap.size + 1, 0, none⟩ = false := (hgrow.frozen_far ⟨W1.heap.size + 1, 0, none⟩ hpa hpn).trans (((below_box wr _).frozen (p := ⟨W1.heap.size + 1, 0, none⟩) hpb).trans hcf)
                have hg2p : g2 ≠ W1.heap.size + 1 := by rcases hg2 with h | h; (simp [Value.ownBlock] at h; omega); (have h9 : g2 = wr.heap.size + 1 := (by simpa using h)); omega
                have HO2 : Hid (OwnI w2 (W1.heap.size) w2.heap.size (.slice (some ⟨g2, 0, none⟩) (l + 1) cap2) (L ++ [(z + z0 - b0)])) := Lib.hid (OwnI.mk' (n := l + 1) (by rw [List.map_append]; exact hown2))
                have sa0 : w2.cell? ⟨g, o + j, none⟩ = some (.int .i64 z) := by rw [HBX.out.cell (p := ⟨g, o + j, none⟩) (by show g < _; omega)]; exact hce
                have sa1 : w2.cell? ⟨g, o, none⟩ = some (.int .i64 z0) := by rw [HBX.out.cell (p := ⟨g, o, none⟩) (by show g < _; omega)]; exact hce0
                have sa2 : w2.cell? ⟨g, o + 1, none⟩ = some (.int .i64 b0) := by rw [HBX.out.cell (p := ⟨g, o + 1, none⟩) (by show g < _; omega)]; exact hce1
                have hsz2 := HBX.out.size
                have hp2 : W1.heap.size + 1 < w2.heap.size := by omega
                refine hK.out _ _ ⟨sa0, sa1, sa2⟩ (fun hHeld => ?_)
                clear hK K hbx hown2 hgrow hg2 hpa hpn
                try simp only [Act.put, List.setIfInBounds_toArray, List.set_cons_zero, List.set_cons_succ]
                refine takeY 16 _ (v := ?_) rfl rfl (by kernel_rfl) (by kernel_rfl) (by kernel_rfl) (fun _ _ _ h => h) (by kernel_rfl) ?_ (by assumption) ?_
                rotate_left 1
                · intro w hSw; (try dsimp only at hSw); go_simp; (try with_reducible rfl)
                try simp only [Act.put, List.setIfInBounds_toArray, List.set_cons_zero, List.set_cons_succ]
                refine wpAnyH_ready (rs := [17]) (by kernel_rfl) (by simp) ?_
                refine AllReadyH.cons rfl (fun K hK => ?_) AllReadyH.nil
                go_simp
                have HC3 : Hid ((w2.setCell ⟨W1.heap.size + 1, 0, none⟩ (.slice (some ⟨g2, 0, none⟩) (l + 1) cap2)).cell? ⟨W1.heap.size + 1, 0, none⟩ = some (.slice (some ⟨g2, 0, none⟩) (l + 1) cap2)) := Lib.hid (by go_simp)
                have HF3 : Hid ((w2.setCell ⟨W1.heap.size + 1, 0, none⟩ (.slice (some ⟨g2, 0, none⟩) (l + 1) cap2)).frozen? ⟨W1.heap.size + 1, 0, none⟩ = false) := Lib.hid (by go_simp)
                have HO3 : Hid (OwnI (w2.setCell ⟨W1.heap.size + 1, 0, none⟩ (.slice (some ⟨g2, 0, none⟩) (l + 1) cap2)) (W1.heap.size) (w2.setCell ⟨W1.heap.size + 1, 0, none⟩ (.slice (some ⟨g2, 0, none⟩) (l + 1) cap2)).heap.size (.slice (some ⟨g2, 0, none⟩) (l + 1) cap2) (L ++ [(z + z0 - b0)])) := Lib.hid (by have h := own_set HO2.out (p := ⟨W1.heap.size + 1, 0, none⟩) (u := .slice (some ⟨g2, 0, none⟩) (l + 1) cap2) (by simp [Value.ownBlock]; omega); simpa [World.setCell] using h)
                have HB3 : Hid (Below (W1.heap.size) W1 (w2.setCell ⟨W1.heap.size + 1, 0, none⟩ (.slice (some ⟨g2, 0, none⟩) (l + 1) cap2))) := Lib.hid ((hb.out.trans (HBX.out.mono (Nat.le_refl _))).setCell (by show W1.heap.size ≤ W1.heap.size + 1; omega) _)
                have sb0 : (w2.setCell ⟨W1.heap.size + 1, 0, none⟩ (.slice (some ⟨g2, 0, none⟩) (l + 1) cap2)).cell? ⟨g, o + j, none⟩ = some (.int .i64 z) := by go_simp
                have sb1 : (w2.setCell ⟨W1.heap.size + 1, 0, none⟩ (.slice (some ⟨g2, 0, none⟩) (l + 1) cap2)).cell? ⟨g, o, none⟩ = some (.int .i64 z0) := by go_simp
                have sb2 : (w2.setCell ⟨W1.heap.size + 1, 0, none⟩ (.slice (some ⟨g2, 0, none⟩) (l + 1) cap2)).cell? ⟨g, o + 1, none⟩ = some (.int .i64 b0) := by go_simp
                refine hK.out _ _ ⟨sb0, sb1, sb2⟩ (fun hHeld => ?_)
                clear hK K
                try simp only [Act.put, List.setIfInBounds_toArray, List.set_cons_zero, List.set_cons_succ]
                refine wpAnyH_done (by kernel_rfl) ?_ _
                go_wp2_with fail
                go_roundw
                case rel => exact ⟨j + 1, l + 1, L ++ [z + z0 - b0], g2, cap2, by omega, by omega, by go_num, Lib.hid (by simp [HLl.out]), ⟨(HO2.out.1.lt g2 rfl).1, hg2p⟩, HG, HC3, HF3, HO3, HB3⟩
                case measure => simp [intOf]; omega
            · obtain rfl : j = k := by omega
              have HX : Hid (tuL zs = L) := Lib.hid (by rw [hex.out, drop_end HL.out (Nat.le_refl _)]; simp)
              have HWL2 : Hid (∀ z ∈ L, (Lit.int .i64 z).wf = true) := Lib.hid (by rw [← HX.out]; exact HWL.out)
              have HBB := Lib.hid (BR.out.trans (hb.out.mono (by omega)))
              cases hp : brB L
              · have E := Lib.hid (tu_none OK.out (by rw [HX.out]; exact hp))
                have HP := Lib.hid hp
                clear hp
                go_wp2_with fail
                refine (l03Is_if _ L wr false ho.out.reads (by rw [HLl.out]; omega) HWL2.out HP.out).mono ?_
                rintro e w6 ⟨rfl, hb6⟩
                obtain ⟨l2, l3, l4⟩ := S0.out.later (HBB.out.trans (hb6.mono (by omega)))
                have B6 := Lib.hid (S0.out.below.trans ((HBB.out.trans (hb6.mono (by omega))).mono (by omega)))
                clear hb6
                go_wp2_with fail
                have cr : (w6.setCell ⟨w.heap.size, 0, none⟩ (.slice none 0 0)).cell? ⟨w.heap.size, 0, none⟩ = some (.slice none 0 0) := by go_simp
                refine bodyPost_ret (v := .tuple #[.agg #[.slice none 0 0], .int .i64 5]) (by simp [results, Try.results47, go_sem, cr]) rfl ?_
                exact ansR_endG _ (Nat.le_refl _) E.out.1.symm E.out.2.symm (OwnI.nil _ _) (by intro h; cases h) B6.out _
              · have E := Lib.hid (tu_yes OK.out (by rw [HX.out]; exact hp))
                have HP := Lib.hid hp
                clear hp
                go_wp2_with fail
                refine (l03Is_if _ L wr true ho.out.reads (by rw [HLl.out]; omega) HWL2.out HP.out).mono ?_
                rintro e w6 ⟨rfl, hb6⟩
                obtain ⟨l2, l3, l4⟩ := S0.out.later (HBB.out.trans (hb6.mono (by omega)))
                have B6 := Lib.hid (S0.out.below.trans ((HBB.out.trans (hb6.mono (by omega))).mono (by omega)))
                have hc6 : w6.cell? ⟨W1.heap.size + 1, 0, none⟩ = some (.slice (some ⟨g1, 0, none⟩) l c') := by rw [hb6.cell (p := ⟨W1.heap.size + 1, 0, none⟩) hpb]; exact hco
                have O6 : Hid (OwnI w6 W1.heap.size wr.heap.size (.slice (some ⟨g1, 0, none⟩) l c') L) := Lib.hid (ho.out.kept (Kept.of_below hb6 (Nat.le_refl _)))
                have hs6 := hb6.size
                clear hb6
                go_wp2_with fail
                have cr : (w6.setCell ⟨w.heap.size, 0, none⟩ (.slice (some ⟨g1, 0, none⟩) l c')).cell? ⟨w.heap.size, 0, none⟩ = some (.slice (some ⟨g1, 0, none⟩) l c') := by go_simp
                refine bodyPost_ret (v := .tuple #[.agg #[.slice (some ⟨g1, 0, none⟩) l c'], .int .i64 0]) (by simp [results, Try.results47, go_sem, cr]) rfl ?_
                exact ansR_endG _ (Nat.le_refl _) (by rw [E.out.1, HX.out]) E.out.2.symm ((own_lessB O6.out (by omega)).raise (by omega) (Nat.le_refl _)) (by simp [Value.ownBlock]; omega) B6.out _
        · go_simp
          refine hK.out _ _ (((below_box wr _).cell (p := ⟨g, o, none⟩) hgl).trans hce) (fun hHeld => ?_)
          clear hK K
          try simp only [Act.put, List.setIfInBounds_toArray, List.set_cons_zero, List.set_cons_succ]
          refine wpAnyH_ready (rs := [1]) (by kernel_rfl) (by simp) ?_
          refine AllReadyH.cons rfl (fun K hK => ?_) AllReadyH.nil
          go_simp
          refine hK.out _ ((wr.alloc (.cells #[.int .i64 z0] 2)).drew) (((below_box wr _).cell (p := ⟨g, o, none⟩) hgl).trans hce) (fun hHeld => ?_)
          clear hK K
          try simp only [Act.put, List.setIfInBounds_toArray, List.set_cons_zero, List.set_cons_succ]
          refine wpAnyH_ready (rs := [6]) (by kernel_rfl) (by simp) ?_
          refine AllReadyH.cons rfl (fun K hK => ?_) AllReadyH.nil
          try simp only [List.getElem_toArray, List.getElem_cons_succ, List.getElem_cons_zero]
          rw [if_pos (by kernel_rfl)]
          refine wp_append_lies _ (.tmp 91) (.tmp 95) 24 ?hg2 (W1.heap.size) 2 i0 (.int .i64 0) 1 8 Try.underlying24 hi0 hy0 hy1 hy2 rfl (by decide) (.slice (some ⟨g1, 0, none⟩) l c') l (L.map (.int .i64)) ?hg3 ?hg4 ⟨wr.heap.size, 0, none⟩ 1 1 [.int .i64 z0] ?hg5 rfl ?hg6 ?hg7 (by decide) ?hg8 ?hg9 ?hg10 _ rfl ?hg11
          case hg2 => rfl
          case hg3 => rfl
          case hg5 => rfl
          case hg4 => have h3 := ho.out.1; rw [HLl.out] at h3; exact World.ownsRow.alloc h3 _
          case hg6 => exact World.news_of_block (cs := #[.int .i64 z0]) (t := 2) (fr := (0, 0)) (heap_alloc_new wr _)
          case hg7 => simp [Value.oneCell']
          case hg8 => simp only [maxLen]; omega
          case hg9 => omega
          case hg10 => show W1.heap.size ≤ (wr.alloc _).heap.size; simp; omega
          intro g2 cap2 w2 hown2 hgrow hg2 _
          have hbx : Below (W1.heap.size) wr w2 := Below.grown (w := (wr.alloc (.cells #[.int .i64 z0] 2)).drew) (below_drewN ((Below.refl _ _).alloc (by omega) _) 1) hgrow (by show W1.heap.size ≤ (wr.alloc _).heap.size; simp; omega) (fun k hk => (Own.lt ho.out.1 k hk).1)
          have HBX := Lib.hid hbx
          have hpa : W1.heap.size + 1 < (wr.alloc (.cells #[.int .i64 z0] 2)).heap.size := by simp; omega
          have hpn : some (W1.heap.size + 1) ≠ (Value.slice (some ⟨g1, 0, none⟩) l c').ownBlock := by simp [Value.ownBlock]; omega
          have c3 : w2.cell? ⟨W1.heap.size + 1, 0, none⟩ = some (.slice (some ⟨g1, 0, none⟩) l c') := (hgrow.cell_far ⟨W1.heap.size + 1, 0, none⟩ hpa hpn).trans (((below_box wr _).cell (p := ⟨W1.heap.size + 1, 0, none⟩) hpb).trans hco)
          have f3 : w2.frozen? ⟨W1.heap.size + 1, 0, none⟩ = false := (hgrow.frozen_far ⟨W1.heap.size + 1, 0, none⟩ hpa hpn).trans (((below_box wr _).frozen (p := ⟨W1.heap.size + 1, 0, none⟩) hpb).trans hcf)
          have hg2p : g2 ≠ W1.heap.size + 1 := by rcases hg2 with h | h; (simp [Value.ownBlock] at h; omega); (have h9 : g2 = wr.heap.size + 1 := (by simpa using h)); omega
          have HO2 : Hid (OwnI w2 (W1.heap.size) w2.heap.size (.slice (some ⟨g2, 0, none⟩) (l + 1) cap2) (L ++ [z0])) := Lib.hid (OwnI.mk' (n := l + 1) (by rw [List.map_append]; exact hown2))
          have sa0 : w2.cell? ⟨g, o, none⟩ = some (.int .i64 z0) := by rw [HBX.out.cell (p := ⟨g, o, none⟩) (by show g < _; omega)]; exact hce
          have hsz2 := HBX.out.size
          have hp2 : W1.heap.size + 1 < w2.heap.size := by omega
          refine hK.out _ _ sa0 (fun hHeld => ?_)
          clear hK K hbx hown2 hgrow hg2 hpa hpn
          try simp only [Act.put, List.setIfInBounds_toArray, List.set_cons_zero, List.set_cons_succ]
          refine takeY 7 _ (v := ?_) rfl rfl (by kernel_rfl) (by kernel_rfl) (by kernel_rfl) (fun _ _ _ h => h) (by kernel_rfl) ?_ (by assumption) ?_
          rotate_left 1
          · intro w hSw; (try dsimp only at hSw); go_simp; (try with_reducible rfl)
          try simp only [Act.put, List.setIfInBounds_toArray, List.set_cons_zero, List.set_cons_succ]
          refine wpAnyH_ready (rs := [8]) (by kernel_rfl) (by simp) ?_
          refine AllReadyH.cons rfl (fun K hK => ?_) AllReadyH.nil
          go_simp
          have HC3 : Hid ((w2.setCell ⟨W1.heap.size + 1, 0, none⟩ (.slice (some ⟨g2, 0, none⟩) (l + 1) cap2)).cell? ⟨W1.heap.size + 1, 0, none⟩ = some (.slice (some ⟨g2, 0, none⟩) (l + 1) cap2)) := Lib.hid (by go_simp)
          have HF3 : Hid ((w2.setCell ⟨W1.heap.size + 1, 0, none⟩ (.slice (some ⟨g2, 0, none⟩) (l + 1) cap2)).frozen? ⟨W1.heap.size + 1, 0, none⟩ = false) := Lib.hid (by go_simp)
          have HO3 : Hid (OwnI (w2.setCell ⟨W1.heap.size + 1, 0, none⟩ (.slice (some ⟨g2, 0, none⟩) (l + 1) cap2)) (W1.heap.size) (w2.setCell ⟨W1.heap.size + 1, 0, none⟩ (.slice (some ⟨g2, 0, none⟩) (l + 1) cap2)).heap.size (.slice (some ⟨g2, 0, none⟩) (l + 1) cap2) (L ++ [z0])) := Lib.hid (by have h := own_set HO2.out (p := ⟨W1.heap.size + 1, 0, none⟩) (u := .slice (some ⟨g2, 0, none⟩) (l + 1) cap2) (by simp [Value.ownBlock]; omega); simpa [World.setCell] using h)
          have HB3 : Hid (Below (W1.heap.size) W1 (w2.setCell ⟨W1.heap.size + 1, 0, none⟩ (.slice (some ⟨g2, 0, none⟩) (l + 1) cap2))) := Lib.hid ((hb.out.trans (HBX.out.mono (Nat.le_refl _))).setCell (by show W1.heap.size ≤ W1.heap.size + 1; omega) _)
          have sb0 : (w2.setCell ⟨W1.heap.size + 1, 0, none⟩ (.slice (some ⟨g2, 0, none⟩) (l + 1) cap2)).cell? ⟨g, o, none⟩ = some (.int .i64 z0) := by go_simp
          refine hK.out _ _ sb0 (fun hHeld => ?_)
          clear hK K
          try simp only [Act.put, List.setIfInBounds_toArray, List.set_cons_zero, List.set_cons_succ]
          refine wpAnyH_done (by kernel_rfl) ?_ _
          have HB2 := HB3
          go_wp2_with fail
          go_loopw [8] (fun vi wr => ∃ (j l : Nat) (L : List Int) (g1 : Nat) (c' : Nat), (2 ≤ j ∧ j ≤ k) ∧ l ≤ j ∧ vi = .int .i64 j ∧ Hid (L.length = l) ∧ (W1.heap.size ≤ g1 ∧ g1 ≠ W1.heap.size + 1) ∧ Hid (tuL zs = L ++ (zs.drop j).map fun z => z + z0 - b0) ∧ Hid (wr.cell? ⟨W1.heap.size + 1, 0, none⟩ = some (.slice (some ⟨g1, 0, none⟩) l c')) ∧ Hid (wr.frozen? ⟨W1.heap.size + 1, 0, none⟩ = false) ∧ Hid (OwnI wr W1.heap.size wr.heap.size (.slice (some ⟨g1, 0, none⟩) l c') L) ∧ Hid (Below W1.heap.size W1 wr)) (fun vi _ => k - (intOf vi).toNat)
          case atStart => exact ⟨2, l + 1, L ++ [z0], g2, cap2, by omega, by omega, by first | rfl | go_num, Lib.hid (by simp [HLl.out]), ⟨(HO2.out.1.lt g2 rfl).1, hg2p⟩, EX1, HC3, HF3, HO3, HB3⟩
          case round =>
            clear HO2 HB2
            obtain ⟨j, l, L, g1, c', hj, hlj, rfl, HLl, ⟨hlo, hg1p⟩, hex, hco0, hcf0, ho, hb⟩ := hrel
            have hco := hco0.out
            have hcf := hcf0.out
            have hpb : W1.heap.size + 1 < wr.heap.size := World.block_lt_of_cell? wr ⟨W1.heap.size + 1, 0, none⟩ hco
            have hgl : g < wr.heap.size := by omega
            by_cases hlt : j < k
            · obtain ⟨a, e1, _, hcell0⟩ := H1.out.2 j hlt
              cases e1
              have hz := HZ.out (zs[j]?.getD 0) (by have := HL.out; simp [show j < zs.length by omega])
              have HD := Lib.hid (drop_at HL.out hlt)
              have hce : wr.cell? ⟨g, o + j, none⟩ = some (.int .i64 (zs[j]?.getD 0)) := by rw [← add_lit, hb.out.cell (by rw [add_block]; show g < _; omega)]; simpa using hcell0
              have hce0 : wr.cell? ⟨g, o, none⟩ = some (.int .i64 z0) := (hb.out.cell (p := ⟨g, o, none⟩) (by show g < _; omega)).trans Q0.out.1
              have hce1 : wr.cell? ⟨g, o + 1, none⟩ = some (.int .i64 b0) := (hb.out.cell (p := ⟨g, o + 1, none⟩) (by show g < _; omega)).trans Q0.out.2
              generalize zs[j]?.getD 0 = z at *
              have hjn : (j : Int) < (k : Int) := by omega
              have hj9 : (0 : Int) ≤ (j : Int) := by omega
              have p1 : IntKind.i64.wrap (z + z0) = z + z0 := IntWalk.i64_in _ (by omega)
              have p2 : IntKind.i64.wrap (z + z0 - b0) = z + z0 - b0 := IntWalk.i64_in _ (by omega)
              have HG : Hid (tuL zs = (L ++ [z + z0 - b0]) ++ (zs.drop (j + 1)).map fun z => z + z0 - b0) := Lib.hid (by rw [hex.out, HD.out]; simp)
              clear hcell0
              go_wp2_with fail
              refine wp_region_held_drew (S := fun w' => w'.cell? ⟨g, o + j, none⟩ = some (.int .i64 z) ∧ w'.cell? ⟨g, o, none⟩ = some (.int .i64 z0) ∧ w'.cell? ⟨g, o + 1, none⟩ = some (.int .i64 b0)) (by kernel_rfl) ⟨hce, hce0, hce1⟩ (fun hHeld => ?_)
              refine takeY 0 _ (v := ?_) rfl rfl (by kernel_rfl) (by kernel_rfl) (by kernel_rfl) (fun _ _ _ h => h) (by kernel_rfl) ?_ (by assumption) ?_
              rotate_left 1
              · intro w hSw; (try dsimp only at hSw); go_simp; (try with_reducible rfl)
              try simp only [Act.put, List.setIfInBounds_toArray, List.set_cons_zero, List.set_cons_succ]
              refine takeY 2 _ (v := ?_) rfl rfl (by kernel_rfl) (by kernel_rfl) (by kernel_rfl) (fun _ _ _ h => h) (by kernel_rfl) ?_ (by assumption) ?_
              rotate_left 1
              · intro w hSw; (try dsimp only at hSw); go_simp; (try with_reducible rfl)
              try simp only [Act.put, List.setIfInBounds_toArray, List.set_cons_zero, List.set_cons_succ]
              refine takeY 3 _ (v := ?_) rfl rfl (by kernel_rfl) (by kernel_rfl) (by kernel_rfl) (fun _ _ _ h => h) (by kernel_rfl) ?_ (by assumption) ?_
              rotate_left 1
              · intro w hSw; (try dsimp only at hSw); go_simp; (try with_reducible rfl)
              try simp only [Act.put, List.setIfInBounds_toArray, List.set_cons_zero, List.set_cons_succ]
              refine takeY 4 _ (v := ?_) rfl rfl (by kernel_rfl) (by kernel_rfl) (by kernel_rfl) (fun _ _ _ h => h) (by kernel_rfl) ?_ (by assumption) ?_
              rotate_left 1
              · intro w hSw; (try dsimp only at hSw); go_simp; (try with_reducible rfl)
              try simp only [Act.put, List.setIfInBounds_toArray, List.set_cons_zero, List.set_cons_succ]
              refine takeY 5 _ (v := ?_) rfl rfl (by kernel_rfl) (by kernel_rfl) (by kernel_rfl) (fun _ _ _ h => h) (by kernel_rfl) ?_ (by assumption) ?_
              rotate_left 1
              · intro w hSw; (try dsimp only at hSw); go_simp; (try with_reducible rfl)
              try simp only [Act.put, List.setIfInBounds_toArray, List.set_cons_zero, List.set_cons_succ]
              refine takeY 6 _ (v := ?_) rfl rfl (by kernel_rfl) (by kernel_rfl) (by kernel_rfl) (fun _ _ _ h => h) (by kernel_rfl) ?_ (by assumption) ?_
              rotate_left 1
              · intro w hSw; (try dsimp only at hSw); go_simp; (try with_reducible rfl)
              try simp only [Act.put, List.setIfInBounds_toArray, List.set_cons_zero, List.set_cons_succ]
              refine takeY 7 _ (v := ?_) rfl rfl (by kernel_rfl) (by kernel_rfl) (by kernel_rfl) (fun _ _ _ h => h) (by kernel_rfl) ?_ (by assumption) ?_
              rotate_left 1
              · intro w hSw; (try dsimp only at hSw); go_simp; (try with_reducible rfl)
              try simp only [Act.put, List.setIfInBounds_toArray, List.set_cons_zero, List.set_cons_succ]
              refine takeY 8 _ (v := ?_) rfl rfl (by kernel_rfl) (by kernel_rfl) (by kernel_rfl) (fun _ _ _ h => h) (by kernel_rfl) ?_ (by assumption) ?_
              rotate_left 1
              · intro w hSw; (try dsimp only at hSw); go_simp; (try with_reducible rfl)
              try simp only [Act.put, List.setIfInBounds_toArray, List.set_cons_zero, List.set_cons_succ]
              refine takeY 9 _ (v := ?_) rfl rfl (by kernel_rfl) (by kernel_rfl) (by kernel_rfl) (fun _ _ _ h => h) (by kernel_rfl) ?_ (by assumption) ?_
              rotate_left 1
              · intro w hSw; (try dsimp only at hSw); go_simp; (try with_reducible rfl)
              try simp only [Act.put, List.setIfInBounds_toArray, List.set_cons_zero, List.set_cons_succ]
              refine takeY 10 _ (v := ?_) rfl rfl (by kernel_rfl) (by kernel_rfl) (by kernel_rfl) (fun _ _ _ h => h) (by kernel_rfl) ?_ (by assumption) ?_
              rotate_left 1
              · intro w hSw; (try dsimp only at hSw); go_simp; (try with_reducible rfl)
              try simp only [Act.put, List.setIfInBounds_toArray, List.set_cons_zero, List.set_cons_succ]
              refine takeY 11 _ (v := ?_) rfl rfl (by kernel_rfl) (by kernel_rfl) (by kernel_rfl) (fun _ _ _ h => h) (by kernel_rfl) ?_ (by assumption) ?_
              rotate_left 1
              · intro w hSw; (try dsimp only at hSw); go_simp; (try with_reducible rfl)
              try simp only [Act.put, List.setIfInBounds_toArray, List.set_cons_zero, List.set_cons_succ]
              refine takeY 12 _ (v := ?_) rfl rfl (by kernel_rfl) (by kernel_rfl) (by kernel_rfl) (fun _ _ _ h => h) (by kernel_rfl) ?_ (by assumption) ?_
              rotate_left 1
              · intro w hSw; (try dsimp only at hSw); go_simp; (try with_reducible rfl)
              try simp only [Act.put, List.setIfInBounds_toArray, List.set_cons_zero, List.set_cons_succ]
              refine takeY 13 _ (v := ?_) rfl rfl (by kernel_rfl) (by kernel_rfl) (by kernel_rfl) (fun _ _ _ h => h) (by kernel_rfl) ?_ (by assumption) ?_
              rotate_left 1
              · intro w hSw; (try dsimp only at hSw); go_simp; (try with_reducible rfl)
              try simp only [Act.put, List.setIfInBounds_toArray, List.set_cons_zero, List.set_cons_succ]
              refine wpAnyH_ready (rs := [1, 14]) (by kernel_rfl) (by simp) ?_
              refine AllReadyH.cons rfl (fun K hK => ?_) (AllReadyH.cons rfl (fun K hK => ?_) AllReadyH.nil)
              · go_simp
                refine hK.out _ (wr.drew) ⟨hce, hce0, hce1⟩ (fun hHeld => ?_)
                clear hK K
                try simp only [Act.put, List.setIfInBounds_toArray, List.set_cons_zero, List.set_cons_succ]
                refine wpAnyH_ready (rs := [14]) (by kernel_rfl) (by simp) ?_
                refine AllReadyH.cons rfl (fun K hK => ?_) AllReadyH.nil
                go_simp
                refine hK.out _ _ ⟨((below_box wr _).cell (p := ⟨g, o + j, none⟩) hgl).trans hce, ((below_box wr _).cell (p := ⟨g, o, none⟩) hgl).trans hce0, ((below_box wr _).cell (p := ⟨g, o + 1, none⟩) hgl).trans hce1⟩ (fun hHeld => ?_)
                clear hK K
                try simp only [Act.put, List.setIfInBounds_toArray, List.set_cons_zero, List.set_cons_succ]
                refine wpAnyH_ready (rs := [15]) (by kernel_rfl) (by simp) ?_
                refine AllReadyH.cons rfl (fun K hK => ?_) AllReadyH.nil
                try simp only [List.getElem_toArray, List.getElem_cons_succ, List.getElem_cons_zero]
                rw [if_pos (by kernel_rfl)]
                refine wp_append_lies _ (.tmp 105) (.tmp 118) 24 ?hh2 (W1.heap.size) 2 i0 (.int .i64 0) 1 8 Try.underlying24 hi0 hy0 hy1 hy2 rfl (by decide) (.slice (some ⟨g1, 0, none⟩) l c') l (L.map (.int .i64)) ?hh3 ?hh4 ⟨wr.heap.size, 0, none⟩ 1 1 [.int .i64 (z + z0 - b0)] ?hh5 rfl ?hh6 ?hh7 (by decide) ?hh8 ?hh9 ?hh10 _ rfl ?hh11
                case hh2 => rfl
                case hh3 => rfl
                case hh5 => rfl
                case hh4 => have h3 := ho.out.1; rw [HLl.out] at h3; exact World.ownsRow.alloc h3 _
                case hh6 => exact World.news_of_block (cs := #[.int .i64 (z + z0 - b0)]) (t := 2) (fr := (0, 0)) (heap_alloc_new wr _)
                case hh7 => simp [Value.oneCell']
                case hh8 => simp only [maxLen]; omega
                case hh9 => omega
                case hh10 => show W1.heap.size ≤ (wr.alloc _).heap.size; simp; omega
                intro g2 cap2 w2 hown2 hgrow hg2 _
                have hbx : Below (W1.heap.size) wr w2 := Below.grown (w := (wr.alloc (.cells #[.int .i64 (z + z0 - b0)] 2)).drew) (below_drewN ((Below.refl _ _).alloc (by omega) _) 1) hgrow (by show W1.heap.size ≤ (wr.alloc _).heap.size; simp; omega) (fun k hk => (Own.lt ho.out.1 k hk).1)
                have HBX := Lib.hid hbx
                have hpa : W1.heap.size + 1 < (wr.alloc (.cells #[.int .i64 (z + z0 - b0)] 2)).heap.size := by simp; omega
                have hpn : some (W1.heap.size + 1) ≠ (Value.slice (some ⟨g1, 0, none⟩) l c').ownBlock := by simp [Value.ownBlock]; omega
                have c3 : w2.cell? ⟨W1.heap.size + 1, 0, none⟩ = some (.slice (some ⟨g1, 0, none⟩) l c') := (hgrow.cell_far ⟨W1.heap.size + 1, 0, none⟩ hpa hpn).trans (((below_box wr _).cell (p := ⟨W1.heap.size + 1, 0, none⟩) hpb).trans hco)
                have f3 : w2.frozen? ⟨W1.heap.size + 1, 0, none⟩ = false := (hgrow.frozen_far ⟨W1.heap.size + 1, 0, none⟩ hpa hpn).trans (((below_box wr _).frozen (p := ⟨W1.heap.size + 1, 0, none⟩) hpb).trans hcf)
                have hg2p : g2 ≠ W1.heap.size + 1 := by rcases hg2 with h | h; (simp [Value.ownBlock] at h; omega); (have h9 : g2 = wr.heap.size + 1 := (by simpa using h)); omega
                have HO2 : Hid (OwnI w2 (W1.heap.size) w2.heap.size (.slice (some ⟨g2, 0, none⟩) (l + 1) cap2) (L ++ [(z + z0 - b0)])) := Lib.hid (OwnI.mk' (n := l + 1) (by rw [List.map_append]; exact hown2))
                have sa0 : w2.cell? ⟨g, o + j, none⟩ = some (.int .i64 z) := by rw [HBX.out.cell (p := ⟨g, o + j, none⟩) (by show g < _; omega)]; exact hce
                have sa1 : w2.cell? ⟨g, o, none⟩ = some (.int .i64 z0) := by rw [HBX.out.cell (p := ⟨g, o, none⟩) (by show g < _; omega)]; exact hce0
                have sa2 : w2.cell? ⟨g, o + 1, none⟩ = some (.int .i64 b0) := by rw [HBX.out.cell (p := ⟨g, o + 1, none⟩) (by show g < _; omega)]; exact hce1
                have hsz2 := HBX.out.size
                have hp2 : W1.heap.size + 1 < w2.heap.size := by omega
                refine hK.out _ _ ⟨sa0, sa1, sa2⟩ (fun hHeld => ?_)
                clear hK K hbx hown2 hgrow hg2 hpa hpn
                try simp only [Act.put, List.setIfInBounds_toArray, List.set_cons_zero, List.set_cons_succ]
                refine takeY 16 _ (v := ?_) rfl rfl (by kernel_rfl) (by kernel_rfl) (by kernel_rfl) (fun _ _ _ h => h) (by kernel_rfl) ?_ (by assumption) ?_
                rotate_left 1
                · intro w hSw; (try dsimp only at hSw); go_simp; (try with_reducible rfl)
                try simp only [Act.put, List.setIfInBounds_toArray, List.set_cons_zero, List.set_cons_succ]
                refine wpAnyH_ready (rs := [17]) (by kernel_rfl) (by simp) ?_
                refine AllReadyH.cons rfl (fun K hK => ?_) AllReadyH.nil
                go_simp
                have HC3 : Hid ((w2.setCell ⟨W1.heap.size + 1, 0, none⟩ (.slice (some ⟨g2, 0, none⟩) (l + 1) cap2)).cell? ⟨W1.heap.size + 1, 0, none⟩ = some (.slice (some ⟨g2, 0, none⟩) (l + 1) cap2)) := Lib.hid (by go_simp)
                have HF3 : Hid ((w2.setCell ⟨W1.heap.size + 1, 0, none⟩ (.slice (some ⟨g2, 0, none⟩) (l + 1) cap2)).frozen? ⟨W1.heap.size + 1, 0, none⟩ = false) := Lib.hid (by go_simp)
                have HO3 : Hid (OwnI (w2.setCell ⟨W1.heap.size + 1, 0, none⟩ (.slice (some ⟨g2, 0, none⟩) (l + 1) cap2)) (W1.heap.size) (w2.setCell ⟨W1.heap.size + 1, 0, none⟩ (.slice (some ⟨g2, 0, none⟩) (l + 1) cap2)).heap.size (.slice (some ⟨g2, 0, none⟩) (l + 1) cap2) (L ++ [(z + z0 - b0)])) := Lib.hid (by have h := own_set HO2.out (p := ⟨W1.heap.size + 1, 0, none⟩) (u := .slice (some ⟨g2, 0, none⟩) (l + 1) cap2) (by simp [Value.ownBlock]; omega); simpa [World.setCell] using h)
                have HB3 : Hid (Below (W1.heap.size) W1 (w2.setCell ⟨W1.heap.size + 1, 0, none⟩ (.slice (some ⟨g2, 0, none⟩) (l + 1) cap2))) := Lib.hid ((hb.out.trans (HBX.out.mono (Nat.le_refl _))).setCell (by show W1.heap.size ≤ W1.heap.size + 1; omega) _)
                have sb0 : (w2.setCell ⟨W1.heap.size + 1, 0, none⟩ (.slice (some ⟨g2, 0, none⟩) (l + 1) cap2)).cell? ⟨g, o + j, none⟩ = some (.int .i64 z) := by go_simp
                have sb1 : (w2.setCell ⟨W1.heap.size + 1, 0, none⟩ (.slice (some ⟨g2, 0, none⟩) (l + 1) cap2)).cell? ⟨g, o, none⟩ = some (.int .i64 z0) := by go_simp
                have sb2 : (w2.setCell ⟨W1.heap.size + 1, 0, none⟩ (.slice (some ⟨g2, 0, none⟩) (l + 1) cap2)).cell? ⟨g, o + 1, none⟩ = some (.int .i64 b0) := by go_simp
                refine hK.out _ _ ⟨sb0, sb1, sb2⟩ (fun hHeld => ?_)
                clear hK K
                try simp only [Act.put, List.setIfInBounds_toArray, List.set_cons_zero, List.set_cons_succ]
                refine wpAnyH_done (by kernel_rfl) ?_ _
                go_wp2_with fail
                go_roundw
                case rel => exact ⟨j + 1, l + 1, L ++ [z + z0 - b0], g2, cap2, by omega, by omega, by go_num, Lib.hid (by simp [HLl.out]), ⟨(HO2.out.1.lt g2 rfl).1, hg2p⟩, HG, HC3, HF3, HO3, HB3⟩
                case measure => simp [intOf]; omega
              · go_simp
                refine hK.out _ _ ⟨((below_box wr _).cell (p := ⟨g, o + j, none⟩) hgl).trans hce, ((below_box wr _).cell (p := ⟨g, o, none⟩) hgl).trans hce0, ((below_box wr _).cell (p := ⟨g, o + 1, none⟩) hgl).trans hce1⟩ (fun hHeld => ?_)
                clear hK K
                try simp only [Act.put, List.setIfInBounds_toArray, List.set_cons_zero, List.set_cons_succ]
                refine wpAnyH_ready (rs := [1]) (by kernel_rfl) (by simp) ?_
                refine AllReadyH.cons rfl (fun K hK => ?_) AllReadyH.nil
                go_simp
                refine hK.out _ ((wr.alloc (.cells #[.int .i64 (z + z0 - b0)] 2)).drew) ⟨((below_box wr _).cell (p := ⟨g, o + j, none⟩) hgl).trans hce, ((below_box wr _).cell (p := ⟨g, o, none⟩) hgl).trans hce0, ((below_box wr _).cell (p := ⟨g, o + 1, none⟩) hgl).trans hce1⟩ (fun hHeld => ?_)
                clear hK K
                try simp only [Act.put, List.setIfInBounds_toArray, List.set_cons_zero, List.set_cons_succ]
                refine wpAnyH_ready (rs := [15]) (by kernel_rfl) (by simp) ?_
                refine AllReadyH.cons rfl (fun K hK => ?_) AllReadyH.nil
                try simp only [List.getElem_toArray, List.getElem_cons_succ, List.getElem_cons_zero]
                rw [if_pos (by kernel_rfl)]
                refine wp_append_lies _ (.tmp 105) (.tmp 118) 24 ?hi2 (W1.heap.size) 2 i0 (.int .i64 0) 1 8 Try.underlying24 hi0 hy0 hy1 hy2 rfl (by decide) (.slice (some ⟨g1, 0, none⟩) l c') l (L.map (.int .i64)) ?hi3 ?hi4 ⟨wr.heap.size, 0, none⟩ 1 1 [.int .i64 (z + z0 - b0)] ?hi5 rfl ?hi6 ?hi7 (by decide) ?hi8 ?hi9 ?hi10 _ rfl ?hi11
                case hi2 => rfl
                case hi3 => rfl
                case hi5 => rfl
                case hi4 => have h3 := ho.out.1; rw [HLl.out] at h3; exact World.ownsRow.alloc h3 _
                case hi6 => exact World.news_of_block (cs := #[.int .i64 (z + z0 - b0)]) (t := 2) (fr := (0, 0)) (heap_alloc_new wr _)
                case hi7 => simp [Value.oneCell']
                case hi8 => simp only [maxLen]; omega
                case hi9 => omega
                case hi10 => show W1.heap.size ≤ (wr.alloc _).heap.size; simp; omega
                intro g2 cap2 w2 hown2 hgrow hg2 _
                have hbx : Below (W1.heap.size) wr w2 := Below.grown (w := (wr.alloc (.cells #[.int .i64 (z + z0 - b0)] 2)).drew) (below_drewN ((Below.refl _ _).alloc (by omega) _) 1) hgrow (by show W1.heap.size ≤ (wr.alloc _).heap.size; simp; omega) (fun k hk => (Own.lt ho.out.1 k hk).1)
                have HBX := Lib.hid hbx
                have hpa : W1.heap.size + 1 < (wr.alloc (.cells #[.int .i64 (z + z0 - b0)] 2)).heap.size := by simp; omega
                have hpn : some (W1.heap.size + 1) ≠ (Value.slice (some ⟨g1, 0, none⟩) l c').ownBlock := by simp [Value.ownBlock]; omega
                have c3 : w2.cell? ⟨W1.heap.size + 1, 0, none⟩ = some (.slice (some ⟨g1, 0, none⟩) l c') := (hgrow.cell_far ⟨W1.heap.size + 1, 0, none⟩ hpa hpn).trans (((below_box wr _).cell (p := ⟨W1.heap.size + 1, 0, none⟩) hpb).trans hco)
                have f3 : w2.frozen? ⟨W1.heap.size + 1, 0, none⟩ = false := (hgrow.frozen_far ⟨W1.heap.size + 1, 0, none⟩ hpa hpn).trans (((below_box wr _).frozen (p := ⟨W1.heap.size + 1, 0, none⟩) hpb).trans hcf)
                have hg2p : g2 ≠ W1.heap.size + 1 := by rcases hg2 with h | h; (simp [Value.ownBlock] at h; omega); (have h9 : g2 = wr.heap.size + 1 := (by simpa using h)); omega
                have HO2 : Hid (OwnI w2 (W1.heap.size) w2.heap.size (.slice (some ⟨g2, 0, none⟩) (l + 1) cap2) (L ++ [(z + z0 - b0)])) := Lib.hid (OwnI.mk' (n := l + 1) (by rw [List.map_append]; exact hown2))
                have sa0 : w2.cell? ⟨g, o + j, none⟩ = some (.int .i64 z) := by rw [HBX.out.cell (p := ⟨g, o + j, none⟩) (by show g < _; omega)]; exact hce
                have sa1 : w2.cell? ⟨g, o, none⟩ = some (.int .i64 z0) := by rw [HBX.out.cell (p := ⟨g, o, none⟩) (by show g < _; omega)]; exact hce0
                have sa2 : w2.cell? ⟨g, o + 1, none⟩ = some (.int .i64 b0) := by rw [HBX.out.cell (p := ⟨g, o + 1, none⟩) (by show g < _; omega)]; exact hce1
                have hsz2 := HBX.out.size
                have hp2 : W1.heap.size + 1 < w2.heap.size := by omega
                refine hK.out _ _ ⟨sa0, sa1, sa2⟩ (fun hHeld => ?_)
                clear hK K hbx hown2 hgrow hg2 hpa hpn
                try simp only [Act.put, List.setIfInBounds_toArray, List.set_cons_zero, List.set_cons_succ]
                refine takeY 16 _ (v := ?_) rfl rfl (by kernel_rfl) (by kernel_rfl) (by kernel_rfl) (fun _ _ _ h => h) (by kernel_rfl) ?_ (by assumption) ?_
                rotate_left 1
                · intro w hSw; (try dsimp only at hSw); go_simp; (try with_reducible rfl)
                try simp only [Act.put, List.setIfInBounds_toArray, List.set_cons_zero, List.set_cons_succ]
                refine wpAnyH_ready (rs := [17]) (by kernel_rfl) (by simp) ?_
                refine AllReadyH.cons rfl (fun K hK => ?_) AllReadyH.nil
                go_simp
                have HC3 : Hid ((w2.setCell ⟨W1.heap.size + 1, 0, none⟩ (.slice (some ⟨g2, 0, none⟩) (l + 1) cap2)).cell? ⟨W1.heap.size + 1, 0, none⟩ = some (.slice (some ⟨g2, 0, none⟩) (l + 1) cap2)) := Lib.hid (by go_simp)
                have HF3 : Hid ((w2.setCell ⟨W1.heap.size + 1, 0, none⟩ (.slice (some ⟨g2, 0, none⟩) (l + 1) cap2)).frozen? ⟨W1.heap.size + 1, 0, none⟩ = false) := Lib.hid (by go_simp)
                have HO3 : Hid (OwnI (w2.setCell ⟨W1.heap.size + 1, 0, none⟩ (.slice (some ⟨g2, 0, none⟩) (l + 1) cap2)) (W1.heap.size) (w2.setCell ⟨W1.heap.size + 1, 0, none⟩ (.slice (some ⟨g2, 0, none⟩) (l + 1) cap2)).heap.size (.slice (some ⟨g2, 0, none⟩) (l + 1) cap2) (L ++ [(z + z0 - b0)])) := Lib.hid (by have h := own_set HO2.out (p := ⟨W1.heap.size + 1, 0, none⟩) (u := .slice (some ⟨g2, 0, none⟩) (l + 1) cap2) (by simp [Value.ownBlock]; omega); simpa [World.setCell] using h)
                have HB3 : Hid (Below (W1.heap.size) W1 (w2.setCell ⟨W1.heap.size + 1, 0, none⟩ (.slice (some ⟨g2, 0, none⟩) (l + 1) cap2))) := Lib.hid ((hb.out.trans (HBX.out.mono (Nat.le_refl _))).setCell (by show W1.heap.size ≤ W1.heap.size + 1; omega) _)
                have sb0 : (w2.setCell ⟨W1.heap.size + 1, 0, none⟩ (.slice (some ⟨g2, 0, none⟩) (l + 1) cap2)).cell? ⟨g, o + j, none⟩ = some (.int .i64 z) := by go_simp
                have sb1 : (w2.setCell ⟨W1.heap.size + 1, 0, none⟩ (.slice (some ⟨g2, 0, none⟩) (l + 1) cap2)).cell? ⟨g, o, none⟩ = some (.int .i64 z0) := by go_simp
                have sb2 : (w2.setCell ⟨W1.heap.size + 1, 0, none⟩ (.slice (some ⟨g2, 0, none⟩) (l + 1) cap2)).cell? ⟨g, o + 1, none⟩ = some (.int .i64 b0) := by go_simp
                refine hK.out _ _ ⟨sb0, sb1, sb2⟩ (fun hHeld => ?_)
                clear hK K
                try simp only [Act.put, List.setIfInBounds_toArray, List.set_cons_zero, List.set_cons_succ]
                refine wpAnyH_done (by kernel_rfl) ?_ _
                go_wp2_with fail
                go_roundw
                case rel => exact ⟨j + 1, l + 1, L ++ [z + z0 - b0], g2, cap2, by omega, by omega, by go_num, Lib.hid (by simp [HLl.out]), ⟨(HO2.out.1.lt g2 rfl).1, hg2p⟩, HG, HC3, HF3, HO3, HB3⟩
                case measure => simp [intOf]; omega
            · obtain rfl : j = k := by omega
              have HX : Hid (tuL zs = L) := Lib.hid (by rw [hex.out, drop_end HL.out (Nat.le_refl _)]; simp)
              have HWL2 : Hid (∀ z ∈ L, (Lit.int .i64 z).wf = true) := Lib.hid (by rw [← HX.out]; exact HWL.out)
              have HBB := Lib.hid (BR.out.trans (hb.out.mono (by omega)))
              cases hp : brB L
              · have E := Lib.hid (tu_none OK.out (by rw [HX.out]; exact hp))
                have HP := Lib.hid hp
                clear hp
                go_wp2_with fail
                refine (l03Is_if _ L wr false ho.out.reads (by rw [HLl.out]; omega) HWL2.out HP.out).mono ?_
                rintro e w6 ⟨rfl, hb6⟩
                obtain ⟨l2, l3, l4⟩ := S0.out.later (HBB.out.trans (hb6.mono (by omega)))
                have B6 := Lib.hid (S0.out.below.trans ((HBB.out.trans (hb6.mono (by omega))).mono (by omega)))
                clear hb6
                go_wp2_with fail
                have cr : (w6.setCell ⟨w.heap.size, 0, none⟩ (.slice none 0 0)).cell? ⟨w.heap.size, 0, none⟩ = some (.slice none 0 0) := by go_simp
                refine bodyPost_ret (v := .tuple #[.agg #[.slice none 0 0], .int .i64 5]) (by simp [results, Try.results47, go_sem, cr]) rfl ?_
                exact ansR_endG _ (Nat.le_refl _) E.out.1.symm E.out.2.symm (OwnI.nil _ _) (by intro h; cases h) B6.out _
              · have E := Lib.hid (tu_yes OK.out (by rw [HX.out]; exact hp))
                have HP := Lib.hid hp
                clear hp
                go_wp2_with fail
                refine (l03Is_if _ L wr true ho.out.reads (by rw [HLl.out]; omega) HWL2.out HP.out).mono ?_
                rintro e w6 ⟨rfl, hb6⟩
                obtain ⟨l2, l3, l4⟩ := S0.out.later (HBB.out.trans (hb6.mono (by omega)))
                have B6 := Lib.hid (S0.out.below.trans ((HBB.out.trans (hb6.mono (by omega))).mono (by omega)))
                have hc6 : w6.cell? ⟨W1.heap.size + 1, 0, none⟩ = some (.slice (some ⟨g1, 0, none⟩) l c') := by rw [hb6.cell (p := ⟨W1.heap.size + 1, 0, none⟩) hpb]; exact hco
                have O6 : Hid (OwnI w6 W1.heap.size wr.heap.size (.slice (some ⟨g1, 0, none⟩) l c') L) := Lib.hid (ho.out.kept (Kept.of_below hb6 (Nat.le_refl _)))
                have hs6 := hb6.size
                clear hb6
                go_wp2_with fail
                have cr : (w6.setCell ⟨w.heap.size, 0, none⟩ (.slice (some ⟨g1, 0, none⟩) l c')).cell? ⟨w.heap.size, 0, none⟩ = some (.slice (some ⟨g1, 0, none⟩) l c') := by go_simp
                refine bodyPost_ret (v := .tuple #[.agg #[.slice (some ⟨g1, 0, none⟩) l c'], .int .i64 0]) (by simp [results, Try.results47, go_sem, cr]) rfl ?_
                exact ansR_endG _ (Nat.le_refl _) (by rw [E.out.1, HX.out]) E.out.2.symm ((own_lessB O6.out (by omega)).raise (by omega) (Nat.le_refl _)) (by simp [Value.ownBlock]; omega) B6.out _
end Go.Proofs.Ytlidleaigjemnaa
