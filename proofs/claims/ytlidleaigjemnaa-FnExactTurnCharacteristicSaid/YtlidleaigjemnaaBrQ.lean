/- TurnCharacteristic, the program's: contract. Conditions: stated at each theorem. -/
import Derived.Test.YtlidleaigjemnaaBrZ
namespace Go.Proofs.Ytlidleaigjemnaa
open Go.ChangeShapes Go.WideShapes Go.ChangeAt Go.RowKit
set_option linter.unusedVariables false
set_option linter.unusedSimpArgs false

theorem tu_less {z0 b0 : Int} {r : List Int} (h : z0 ≤ b0) : tuB (z0 :: b0 :: r) = false := by
  have h0 : ¬ b0 < z0 := by omega
  simp [tuB, h0]
theorem tu_dc {z0 b0 : Int} {r : List Int} (h : dcB (z0 :: b0 :: r) = false) : tuB (z0 :: b0 :: r) = false := by simp [tuB, h]
theorem tu_both {z0 b0 : Int} {r : List Int} (h0 : b0 < z0) (h : dcB (z0 :: b0 :: r) = true) : tuB (z0 :: b0 :: r) = true := by simp [tuB, h, h0]
theorem tuL_yes {z0 b0 : Int} {r : List Int} (h : z0.tmod b0 = 0) : tuL (z0 :: b0 :: r) = b0 :: ([] ++ r.map fun z => z + z0 - b0) := by simp [tuL, h]
theorem tuL_no {z0 b0 : Int} {r : List Int} (h : ¬ z0.tmod b0 = 0) : tuL (z0 :: b0 :: r) = b0 :: ([z0] ++ r.map fun z => z + z0 - b0) := by simp [tuL, h]
theorem tu_map {z0 b0 : Int} {r : List Int} {n k : Nat} (hl : r.length = n) (h : k < n) : (r.drop k).map (fun z => z + z0 - b0) = (r[k]?.getD 0 + z0 - b0) :: (r.drop (k + 1)).map (fun z => z + z0 - b0) := by rw [drop_at hl h]; rfl
theorem tu_wf {z0 b0 : Int} {r : List Int} (h : tuB (z0 :: b0 :: r) = true) : (1 ≤ b0 ∧ b0 < z0 ∧ z0 ≤ 64) ∧ (∀ z ∈ r, 1 ≤ z ∧ z ≤ 2000) ∧ ∀ z ∈ tuL (z0 :: b0 :: r), (Lit.int .i64 z).wf = true := by
  simp only [tuB, Bool.and_eq_true, decide_eq_true_eq] at h
  have h1 := dcB_range h.2
  have h2 := h1 z0 (by simp)
  have h3 := h1 b0 (by simp)
  have h4 : z0 ≤ 64 := by
    obtain ⟨n, s, e, hn, _⟩ := dcB_parts h.2
    have : n = z0 := by simpa using (congrArg List.head? e).symm
    omega
  have h5 : ∀ z ∈ r, 1 ≤ z ∧ z ≤ 2000 := fun z hz => h1 z (by simp [hz])
  refine ⟨⟨by omega, h.1, h4⟩, h5, fun z hz => ?_⟩
  simp only [tuL] at hz
  rcases List.mem_cons.1 hz with rfl | hz
  · exact i64_wf (by omega) (by omega)
  · rcases List.mem_append.1 hz with hz | hz
    · split at hz
      · cases hz
      · obtain rfl := List.mem_singleton.1 hz; exact i64_wf (by omega) (by omega)
    · obtain ⟨y, hy, rfl⟩ := List.mem_map.1 hz
      have := h5 y hy
      exact i64_wf (by omega) (by omega)
theorem OwnI.ow {w : World} {lo hi n c : Nat} {A : Option Addr} {L : List Int} (h : OwnI w lo hi (.slice A n c) L) (hl : L.length = n) : Own w lo (.slice A n c) n (L.map (.int .i64)) := by
  have := h.1; rw [hl] at this; exact this

set_option maxHeartbeats 4000000 in
theorem implTurnCharacteristic_any (v : Value) (zs : List Int) (w : World) (h : ReadI w w.heap.size v zs) (hn : zs.length ≤ 1048576) (hw : ∀ z ∈ zs, (Lit.int .i64 z).wf = true) :
    Calls Try.prog 48 #[v] w (AnsRC w (tuA zs) (tuC zs)) := by
  obtain ⟨n, A, c, rfl, hr, HL, HN, hnc, HF, hcm⟩ := h.split2
  rw [HL.out] at hn
  obtain ⟨W0, HE⟩ : ∃ W, W = w.alloc (.cells #[.slice none 0 0] 26) := ⟨_, rfl⟩
  have hS0 : Start1 w W0 := by rw [HE]; exact Start1.new _
  have hb0 := hS0.below
  have H0 := Lib.hid (hr.below hb0)
  have HRD := Lib.hid ((h.below hb0).more hb0.size)
  have S0 := Lib.hid hS0
  have HW := Lib.hid hw
  have HEQ := Lib.hid HE
  have hsw : w.heap.size < W0.heap.size := hS0.res.2
  have hsw1 : W0.heap.size = w.heap.size + 1 := hS0.size
  clear h hr hb0 hS0 hw HE
  by_cases hn2 : n < 2
  · have E := Lib.hid (tu_no (tuB_short (zs := zs) (by rw [HL.out]; exact hn2)))
    have hn1 : (n : Int) < 2 := by omega
    go_enter Try.func48, Try.ntmps48
    go_wp2_with fail
    rw [← HEQ.out]
    obtain ⟨l2, l3, l4⟩ := S0.out.later (Below.refl _ _)
    refine wp_region_held_drew (S := fun w' => w'.cell? ⟨w.heap.size, 0, none⟩ = some (.slice none 0 0)) (by kernel_rfl) l2 (fun hHeld => ?_)
    refine takeY 0 10 (v := ?_) rfl rfl (by kernel_rfl) (by kernel_rfl) (by kernel_rfl) (fun _ _ _ h => h) (by kernel_rfl) ?_ (by assumption) ?_
    rotate_left 1
    · intro w hSw; (try dsimp only at hSw); go_simp; (try with_reducible rfl)
    try simp only [Act.put, List.setIfInBounds_toArray, List.set_cons_zero, List.set_cons_succ]
    refine takeY 1 11 (v := ?_) rfl rfl (by kernel_rfl) (by kernel_rfl) (by kernel_rfl) (fun _ _ _ h => h) (by kernel_rfl) ?_ (by assumption) ?_
    rotate_left 1
    · intro w hSw; (try dsimp only at hSw); go_simp; (try with_reducible rfl)
    try simp only [Act.put, List.setIfInBounds_toArray, List.set_cons_zero, List.set_cons_succ]
    refine takeY 2 12 (v := .bool true) rfl rfl (by kernel_rfl) (by kernel_rfl) (by kernel_rfl) (fun _ _ _ h => h) (by kernel_rfl) ?_ (by assumption) ?_
    · intro w hSw; (try dsimp only at hSw); go_simp; first | done | (with_reducible rfl) | (simp; omega)
    try simp only [Act.put, List.setIfInBounds_toArray, List.set_cons_zero, List.set_cons_succ]
    refine takeY 3 13 (v := ?_) rfl rfl (by kernel_rfl) (by kernel_rfl) (by kernel_rfl) (fun _ _ _ h => h) (by kernel_rfl) ?_ (by assumption) ?_
    rotate_left 1
    · intro w hSw; (try dsimp only at hSw); go_simp; (try with_reducible rfl)
    try simp only [Act.put, List.setIfInBounds_toArray, List.set_cons_zero, List.set_cons_succ]
    refine takeN 4 14 rfl rfl (by kernel_rfl) (by kernel_rfl) (by kernel_rfl) (fun _ _ _ h => h) (by kernel_rfl) (by assumption) ?_
    try simp only [Act.put, List.setIfInBounds_toArray, List.set_cons_zero, List.set_cons_succ]
    refine takeN 5 15 rfl rfl (by kernel_rfl) (by kernel_rfl) (by kernel_rfl) (fun _ _ _ h => h) (by kernel_rfl) (by assumption) ?_
    try simp only [Act.put, List.setIfInBounds_toArray, List.set_cons_zero, List.set_cons_succ]
    refine takeN 6 16 rfl rfl (by kernel_rfl) (by kernel_rfl) (by kernel_rfl) (fun _ _ _ h => h) (by kernel_rfl) (by assumption) ?_
    try simp only [Act.put, List.setIfInBounds_toArray, List.set_cons_zero, List.set_cons_succ]
    refine takeN 7 17 rfl rfl (by kernel_rfl) (by kernel_rfl) (by kernel_rfl) (fun _ _ _ h => h) (by kernel_rfl) (by assumption) ?_
    try simp only [Act.put, List.setIfInBounds_toArray, List.set_cons_zero, List.set_cons_succ]
    refine takeN 8 18 rfl rfl (by kernel_rfl) (by kernel_rfl) (by kernel_rfl) (fun _ _ _ h => h) (by kernel_rfl) (by assumption) ?_
    try simp only [Act.put, List.setIfInBounds_toArray, List.set_cons_zero, List.set_cons_succ]
    refine takeN 9 19 rfl rfl (by kernel_rfl) (by kernel_rfl) (by kernel_rfl) (fun _ _ _ h => h) (by kernel_rfl) (by assumption) ?_
    try simp only [Act.put, List.setIfInBounds_toArray, List.set_cons_zero, List.set_cons_succ]
    refine takeN 10 20 rfl rfl (by kernel_rfl) (by kernel_rfl) (by kernel_rfl) (fun _ _ _ h => h) (by kernel_rfl) (by assumption) ?_
    try simp only [Act.put, List.setIfInBounds_toArray, List.set_cons_zero, List.set_cons_succ]
    refine takeY 11 21 (v := ?_) rfl rfl (by kernel_rfl) (by kernel_rfl) (by kernel_rfl) (fun _ _ _ h => h) (by kernel_rfl) ?_ (by assumption) ?_
    rotate_left 1
    · intro w hSw; (try dsimp only at hSw); go_simp; (try with_reducible rfl)
    try simp only [Act.put, List.setIfInBounds_toArray, List.set_cons_zero, List.set_cons_succ]
    refine takeY 12 22 (v := ?_) rfl rfl (by kernel_rfl) (by kernel_rfl) (by kernel_rfl) (fun _ _ _ h => h) (by kernel_rfl) ?_ (by assumption) ?_
    rotate_left 1
    · intro w hSw; (try dsimp only at hSw); go_simp; (try with_reducible rfl)
    try simp only [Act.put, List.setIfInBounds_toArray, List.set_cons_zero, List.set_cons_succ]
    refine takeN 13 23 rfl rfl (by kernel_rfl) (by kernel_rfl) (by kernel_rfl) (fun _ _ _ h => h) (by kernel_rfl) (by assumption) ?_
    try simp only [Act.put, List.setIfInBounds_toArray, List.set_cons_zero, List.set_cons_succ]
    refine takeN 14 24 rfl rfl (by kernel_rfl) (by kernel_rfl) (by kernel_rfl) (fun _ _ _ h => h) (by kernel_rfl) (by assumption) ?_
    try simp only [Act.put, List.setIfInBounds_toArray, List.set_cons_zero, List.set_cons_succ]
    refine takeN 15 25 rfl rfl (by kernel_rfl) (by kernel_rfl) (by kernel_rfl) (fun _ _ _ h => h) (by kernel_rfl) (by assumption) ?_
    try simp only [Act.put, List.setIfInBounds_toArray, List.set_cons_zero, List.set_cons_succ]
    refine takeY 16 26 (v := ?_) rfl rfl (by kernel_rfl) (by kernel_rfl) (by kernel_rfl) (fun _ _ _ h => h) (by kernel_rfl) ?_ (by assumption) ?_
    rotate_left 1
    · intro w hSw; (try dsimp only at hSw); go_simp; (try with_reducible rfl)
    try simp only [Act.put, List.setIfInBounds_toArray, List.set_cons_zero, List.set_cons_succ]
    refine wpAnyH_done (by kernel_rfl) ?_ _
    go_wp2_with fail
    have cr : (W0.setCell ⟨w.heap.size, 0, none⟩ (.slice none 0 0)).drew.cell? ⟨w.heap.size, 0, none⟩ = some (.slice none 0 0) := by go_simp
    refine bodyPost_ret (v := .tuple #[.agg #[.slice none 0 0], .int .i64 2]) (by simp [results, Try.results48, go_sem, cr]) rfl ?_
    exact ansR_endG _ (Nat.le_refl _) E.out.1.symm E.out.2.symm (OwnI.nil _ _) (by intro h; cases h) (Below.drew S0.out.below) _
  obtain ⟨n, rfl⟩ : ∃ m, n = m + 2 := ⟨n - 2, by omega⟩
  obtain ⟨z0, b0, r, rfl⟩ : ∃ z0 b0 r, zs = z0 :: b0 :: r := by
    match zs, HL.out with
    | z0 :: b0 :: r, _ => exact ⟨z0, b0, r, rfl⟩
  obtain ⟨a, rfl, hal, hcell0⟩ := H0.out.2 0 (by omega)
  obtain ⟨g, o, rfl⟩ := HF.out a rfl
  obtain ⟨a, e1, _, hcell1⟩ := H0.out.2 1 (by omega)
  cases e1
  have hgw : g < w.heap.size := hal
  have hc0 : W0.cell? ⟨g, o, none⟩ = some (.int .i64 z0) := by rw [add_lit] at hcell0; simpa using hcell0
  have hc1 : W0.cell? ⟨g, o + 1, none⟩ = some (.int .i64 b0) := by rw [add_lit] at hcell1; simpa using hcell1
  have hz0 := range_i64 HW.out 0
  have hb0 := range_i64 HW.out 1
  simp only [List.getElem?_cons_zero, List.getElem?_cons_succ, Option.getD_some] at hz0 hb0
  have HLr : Hid (r.length = n) := Lib.hid (by have := HL.out; simp at this; omega)
  have hn2' : ¬ ((n + 2 : Nat) : Int) < 2 := by omega
  have hn3 : (1 : Int) < ((n + 2 : Nat) : Int) := by omega
  have hn4 : (0 : Int) < ((n + 2 : Nat) : Int) := by omega
  have hn5 : (0 : Int) < (n : Int) + 2 := by omega
  have hn6 : (1 : Int) < (n : Int) + 2 := by omega
  have hn7 : ¬ (n : Int) + 2 < 2 := by omega
  have hn8 : (2 : Int) ≤ (n : Int) + 2 := by omega
  have hn9 : (n : Int) + 2 - 2 = (n : Int) := by omega
  clear hcell0 hcell1 hn2
  by_cases hle : z0 ≤ b0
  · have E := Lib.hid (tu_no (tu_less (r := r) hle))
    clear hz0 hb0
    go_enter Try.func48, Try.ntmps48
    go_wp2_with fail
    rw [← HEQ.out]
    obtain ⟨l2, l3, l4⟩ := S0.out.later (Below.refl _ _)
    refine wp_region_held_drew (S := fun w' => w'.cell? ⟨g, o, none⟩ = some (.int .i64 z0) ∧ w'.cell? ⟨g, o + 1, none⟩ = some (.int .i64 b0)) (by kernel_rfl) ⟨hc0, hc1⟩ (fun hHeld => ?_)
    refine takeY 0 10 (v := ?_) rfl rfl (by kernel_rfl) (by kernel_rfl) (by kernel_rfl) (fun _ _ _ h => h) (by kernel_rfl) ?_ (by assumption) ?_
    rotate_left 1
    · intro w hSw; (try dsimp only at hSw); go_simp; (try with_reducible rfl)
    try simp only [Act.put, List.setIfInBounds_toArray, List.set_cons_zero, List.set_cons_succ]
    refine takeY 1 11 (v := ?_) rfl rfl (by kernel_rfl) (by kernel_rfl) (by kernel_rfl) (fun _ _ _ h => h) (by kernel_rfl) ?_ (by assumption) ?_
    rotate_left 1
    · intro w hSw; (try dsimp only at hSw); go_simp; (try with_reducible rfl)
    try simp only [Act.put, List.setIfInBounds_toArray, List.set_cons_zero, List.set_cons_succ]
    refine takeY 2 12 (v := .bool false) rfl rfl (by kernel_rfl) (by kernel_rfl) (by kernel_rfl) (fun _ _ _ h => h) (by kernel_rfl) ?_ (by assumption) ?_
    · intro w hSw; (try dsimp only at hSw); go_simp; first | done | (with_reducible rfl) | (simp; omega)
    try simp only [Act.put, List.setIfInBounds_toArray, List.set_cons_zero, List.set_cons_succ]
    refine takeY 3 13 (v := ?_) rfl rfl (by kernel_rfl) (by kernel_rfl) (by kernel_rfl) (fun _ _ _ h => h) (by kernel_rfl) ?_ (by assumption) ?_
    rotate_left 1
    · intro w hSw; (try dsimp only at hSw); go_simp; (try with_reducible rfl)
    try simp only [Act.put, List.setIfInBounds_toArray, List.set_cons_zero, List.set_cons_succ]
    refine takeY 4 14 (v := ?_) rfl rfl (by kernel_rfl) (by kernel_rfl) (by kernel_rfl) (fun _ _ _ h => h) (by kernel_rfl) ?_ (by assumption) ?_
    rotate_left 1
    · intro w hSw; (try dsimp only at hSw); go_simp; (try with_reducible rfl)
    try simp only [Act.put, List.setIfInBounds_toArray, List.set_cons_zero, List.set_cons_succ]
    refine takeY 5 15 (v := ?_) rfl rfl (by kernel_rfl) (by kernel_rfl) (by kernel_rfl) (fun _ _ _ h => h) (by kernel_rfl) ?_ (by assumption) ?_
    rotate_left 1
    · intro w hSw; (try dsimp only at hSw); go_simp; (try with_reducible rfl)
    try simp only [Act.put, List.setIfInBounds_toArray, List.set_cons_zero, List.set_cons_succ]
    refine takeY 6 16 (v := ?_) rfl rfl (by kernel_rfl) (by kernel_rfl) (by kernel_rfl) (fun _ _ _ h => h) (by kernel_rfl) ?_ (by assumption) ?_
    rotate_left 1
    · intro w hSw; (try dsimp only at hSw); go_simp; (try with_reducible rfl)
    try simp only [Act.put, List.setIfInBounds_toArray, List.set_cons_zero, List.set_cons_succ]
    refine takeY 7 17 (v := ?_) rfl rfl (by kernel_rfl) (by kernel_rfl) (by kernel_rfl) (fun _ _ _ h => h) (by kernel_rfl) ?_ (by assumption) ?_
    rotate_left 1
    · intro w hSw; (try dsimp only at hSw); go_simp; (try with_reducible rfl)
    try simp only [Act.put, List.setIfInBounds_toArray, List.set_cons_zero, List.set_cons_succ]
    refine takeY 8 18 (v := ?_) rfl rfl (by kernel_rfl) (by kernel_rfl) (by kernel_rfl) (fun _ _ _ h => h) (by kernel_rfl) ?_ (by assumption) ?_
    rotate_left 1
    · intro w hSw; (try dsimp only at hSw); go_simp; (try with_reducible rfl)
    try simp only [Act.put, List.setIfInBounds_toArray, List.set_cons_zero, List.set_cons_succ]
    refine takeY 9 19 (v := ?_) rfl rfl (by kernel_rfl) (by kernel_rfl) (by kernel_rfl) (fun _ _ _ h => h) (by kernel_rfl) ?_ (by assumption) ?_
    rotate_left 1
    · intro w hSw; (try dsimp only at hSw); go_simp; (try with_reducible rfl)
    try simp only [Act.put, List.setIfInBounds_toArray, List.set_cons_zero, List.set_cons_succ]
    refine takeY 10 20 (v := .bool true) rfl rfl (by kernel_rfl) (by kernel_rfl) (by kernel_rfl) (fun _ _ _ h => h) (by kernel_rfl) ?_ (by assumption) ?_
    · intro w hSw; (try dsimp only at hSw); go_simp; first | done | (with_reducible rfl) | (simp; omega)
    try simp only [Act.put, List.setIfInBounds_toArray, List.set_cons_zero, List.set_cons_succ]
    refine takeY 11 21 (v := ?_) rfl rfl (by kernel_rfl) (by kernel_rfl) (by kernel_rfl) (fun _ _ _ h => h) (by kernel_rfl) ?_ (by assumption) ?_
    rotate_left 1
    · intro w hSw; (try dsimp only at hSw); go_simp; (try with_reducible rfl)
    try simp only [Act.put, List.setIfInBounds_toArray, List.set_cons_zero, List.set_cons_succ]
    refine takeY 12 22 (v := ?_) rfl rfl (by kernel_rfl) (by kernel_rfl) (by kernel_rfl) (fun _ _ _ h => h) (by kernel_rfl) ?_ (by assumption) ?_
    rotate_left 1
    · intro w hSw; (try dsimp only at hSw); go_simp; (try with_reducible rfl)
    try simp only [Act.put, List.setIfInBounds_toArray, List.set_cons_zero, List.set_cons_succ]
    refine takeN 13 23 rfl rfl (by kernel_rfl) (by kernel_rfl) (by kernel_rfl) (fun _ _ _ h => h) (by kernel_rfl) (by assumption) ?_
    try simp only [Act.put, List.setIfInBounds_toArray, List.set_cons_zero, List.set_cons_succ]
    refine takeN 14 24 rfl rfl (by kernel_rfl) (by kernel_rfl) (by kernel_rfl) (fun _ _ _ h => h) (by kernel_rfl) (by assumption) ?_
    try simp only [Act.put, List.setIfInBounds_toArray, List.set_cons_zero, List.set_cons_succ]
    refine takeN 15 25 rfl rfl (by kernel_rfl) (by kernel_rfl) (by kernel_rfl) (fun _ _ _ h => h) (by kernel_rfl) (by assumption) ?_
    try simp only [Act.put, List.setIfInBounds_toArray, List.set_cons_zero, List.set_cons_succ]
    refine takeY 16 26 (v := ?_) rfl rfl (by kernel_rfl) (by kernel_rfl) (by kernel_rfl) (fun _ _ _ h => h) (by kernel_rfl) ?_ (by assumption) ?_
    rotate_left 1
    · intro w hSw; (try dsimp only at hSw); go_simp; (try with_reducible rfl)
    try simp only [Act.put, List.setIfInBounds_toArray, List.set_cons_zero, List.set_cons_succ]
    refine wpAnyH_done (by kernel_rfl) ?_ _
    go_wp2_with fail
    have cr : (W0.setCell ⟨w.heap.size, 0, none⟩ (.slice none 0 0)).drew.cell? ⟨w.heap.size, 0, none⟩ = some (.slice none 0 0) := by go_simp
    refine bodyPost_ret (v := .tuple #[.agg #[.slice none 0 0], .int .i64 2]) (by simp [results, Try.results48, go_sem, cr]) rfl ?_
    exact ansR_endG _ (Nat.le_refl _) E.out.1.symm E.out.2.symm (OwnI.nil _ _) (by intro h; cases h) (Below.drew S0.out.below) _
  cases hd : dcB (z0 :: b0 :: r)
  · have E := Lib.hid (tu_no (tu_dc hd))
    have HD := Lib.hid hd
    have hlt0 : ¬ z0 ≤ b0 := by omega
    have hgw0 : g < W0.heap.size := by omega
    clear hz0 hb0 hd
    go_enter Try.func48, Try.ntmps48
    go_wp2_with fail
    rw [← HEQ.out]
    obtain ⟨l2, l3, l4⟩ := S0.out.later (Below.refl _ _)
    refine wp_region_held_drew (S := fun w' => w'.cell? ⟨g, o, none⟩ = some (.int .i64 z0) ∧ w'.cell? ⟨g, o + 1, none⟩ = some (.int .i64 b0)) (by kernel_rfl) ⟨hc0, hc1⟩ (fun hHeld => ?_)
    refine takeY 0 10 (v := ?_) rfl rfl (by kernel_rfl) (by kernel_rfl) (by kernel_rfl) (fun _ _ _ h => h) (by kernel_rfl) ?_ (by assumption) ?_
    rotate_left 1
    · intro w hSw; (try dsimp only at hSw); go_simp; (try with_reducible rfl)
    try simp only [Act.put, List.setIfInBounds_toArray, List.set_cons_zero, List.set_cons_succ]
    refine takeY 1 11 (v := ?_) rfl rfl (by kernel_rfl) (by kernel_rfl) (by kernel_rfl) (fun _ _ _ h => h) (by kernel_rfl) ?_ (by assumption) ?_
    rotate_left 1
    · intro w hSw; (try dsimp only at hSw); go_simp; (try with_reducible rfl)
    try simp only [Act.put, List.setIfInBounds_toArray, List.set_cons_zero, List.set_cons_succ]
    refine takeY 2 12 (v := .bool false) rfl rfl (by kernel_rfl) (by kernel_rfl) (by kernel_rfl) (fun _ _ _ h => h) (by kernel_rfl) ?_ (by assumption) ?_
    · intro w hSw; (try dsimp only at hSw); go_simp; first | done | (with_reducible rfl) | (simp; omega)
    try simp only [Act.put, List.setIfInBounds_toArray, List.set_cons_zero, List.set_cons_succ]
    refine takeY 3 13 (v := ?_) rfl rfl (by kernel_rfl) (by kernel_rfl) (by kernel_rfl) (fun _ _ _ h => h) (by kernel_rfl) ?_ (by assumption) ?_
    rotate_left 1
    · intro w hSw; (try dsimp only at hSw); go_simp; (try with_reducible rfl)
    try simp only [Act.put, List.setIfInBounds_toArray, List.set_cons_zero, List.set_cons_succ]
    refine takeY 4 14 (v := ?_) rfl rfl (by kernel_rfl) (by kernel_rfl) (by kernel_rfl) (fun _ _ _ h => h) (by kernel_rfl) ?_ (by assumption) ?_
    rotate_left 1
    · intro w hSw; (try dsimp only at hSw); go_simp; (try with_reducible rfl)
    try simp only [Act.put, List.setIfInBounds_toArray, List.set_cons_zero, List.set_cons_succ]
    refine takeY 5 15 (v := ?_) rfl rfl (by kernel_rfl) (by kernel_rfl) (by kernel_rfl) (fun _ _ _ h => h) (by kernel_rfl) ?_ (by assumption) ?_
    rotate_left 1
    · intro w hSw; (try dsimp only at hSw); go_simp; (try with_reducible rfl)
    try simp only [Act.put, List.setIfInBounds_toArray, List.set_cons_zero, List.set_cons_succ]
    refine takeY 6 16 (v := ?_) rfl rfl (by kernel_rfl) (by kernel_rfl) (by kernel_rfl) (fun _ _ _ h => h) (by kernel_rfl) ?_ (by assumption) ?_
    rotate_left 1
    · intro w hSw; (try dsimp only at hSw); go_simp; (try with_reducible rfl)
    try simp only [Act.put, List.setIfInBounds_toArray, List.set_cons_zero, List.set_cons_succ]
    refine takeY 7 17 (v := ?_) rfl rfl (by kernel_rfl) (by kernel_rfl) (by kernel_rfl) (fun _ _ _ h => h) (by kernel_rfl) ?_ (by assumption) ?_
    rotate_left 1
    · intro w hSw; (try dsimp only at hSw); go_simp; (try with_reducible rfl)
    try simp only [Act.put, List.setIfInBounds_toArray, List.set_cons_zero, List.set_cons_succ]
    refine takeY 8 18 (v := ?_) rfl rfl (by kernel_rfl) (by kernel_rfl) (by kernel_rfl) (fun _ _ _ h => h) (by kernel_rfl) ?_ (by assumption) ?_
    rotate_left 1
    · intro w hSw; (try dsimp only at hSw); go_simp; (try with_reducible rfl)
    try simp only [Act.put, List.setIfInBounds_toArray, List.set_cons_zero, List.set_cons_succ]
    refine takeY 9 19 (v := ?_) rfl rfl (by kernel_rfl) (by kernel_rfl) (by kernel_rfl) (fun _ _ _ h => h) (by kernel_rfl) ?_ (by assumption) ?_
    rotate_left 1
    · intro w hSw; (try dsimp only at hSw); go_simp; (try with_reducible rfl)
    try simp only [Act.put, List.setIfInBounds_toArray, List.set_cons_zero, List.set_cons_succ]
    refine takeY 10 20 (v := .bool false) rfl rfl (by kernel_rfl) (by kernel_rfl) (by kernel_rfl) (fun _ _ _ h => h) (by kernel_rfl) ?_ (by assumption) ?_
    · intro w hSw; (try dsimp only at hSw); go_simp; first | done | (with_reducible rfl) | (simp; omega)
    try simp only [Act.put, List.setIfInBounds_toArray, List.set_cons_zero, List.set_cons_succ]
    refine takeY 11 21 (v := ?_) rfl rfl (by kernel_rfl) (by kernel_rfl) (by kernel_rfl) (fun _ _ _ h => h) (by kernel_rfl) ?_ (by assumption) ?_
    rotate_left 1
    · intro w hSw; (try dsimp only at hSw); go_simp; (try with_reducible rfl)
    try simp only [Act.put, List.setIfInBounds_toArray, List.set_cons_zero, List.set_cons_succ]
    refine takeY 12 22 (v := ?_) rfl rfl (by kernel_rfl) (by kernel_rfl) (by kernel_rfl) (fun _ _ _ h => h) (by kernel_rfl) ?_ (by assumption) ?_
    rotate_left 1
    · intro w hSw; (try dsimp only at hSw); go_simp; (try with_reducible rfl)
    try simp only [Act.put, List.setIfInBounds_toArray, List.set_cons_zero, List.set_cons_succ]
    refine takeY 13 23 (v := ?_) rfl rfl (by kernel_rfl) (by kernel_rfl) (by kernel_rfl) (fun _ _ _ h => h) (by kernel_rfl) ?_ (by assumption) ?_
    rotate_left 1
    · intro w hSw; (try dsimp only at hSw); go_simp; (try with_reducible rfl)
    try simp only [Act.put, List.setIfInBounds_toArray, List.set_cons_zero, List.set_cons_succ]
    refine wpAnyH_ready (rs := [14]) (by kernel_rfl) (by simp) ?_
    refine AllReadyH.cons rfl (fun K hK => ?_) AllReadyH.nil
    go_simp
    refine (descends_drew _ (z0 :: b0 :: r) _ false HRD.out (by rw [HL.out]; exact hn) HW.out HD.out).mono ?_
    rintro e w1 ⟨rfl, hb1⟩
    refine hK.out _ _ (⟨(hb1.cell (p := ⟨g, o, none⟩) hgw0).trans hc0, (hb1.cell (p := ⟨g, o + 1, none⟩) hgw0).trans hc1⟩) (fun hHeld => ?_)
    clear hK K
    try simp only [Act.put, List.setIfInBounds_toArray, List.set_cons_zero, List.set_cons_succ]
    refine takeY 15 25 (v := ?_) rfl rfl (by kernel_rfl) (by kernel_rfl) (by kernel_rfl) (fun _ _ _ h => h) (by kernel_rfl) ?_ (by assumption) ?_
    rotate_left 1
    · intro w hSw; (try dsimp only at hSw); go_simp; (try with_reducible rfl)
    try simp only [Act.put, List.setIfInBounds_toArray, List.set_cons_zero, List.set_cons_succ]
    refine takeY 16 26 (v := ?_) rfl rfl (by kernel_rfl) (by kernel_rfl) (by kernel_rfl) (fun _ _ _ h => h) (by kernel_rfl) ?_ (by assumption) ?_
    rotate_left 1
    · intro w hSw; (try dsimp only at hSw); go_simp; (try with_reducible rfl)
    try simp only [Act.put, List.setIfInBounds_toArray, List.set_cons_zero, List.set_cons_succ]
    refine wpAnyH_done (by kernel_rfl) ?_ _
    have B1 := Lib.hid hb1
    obtain ⟨l2, l3, l4⟩ := S0.out.later B1.out
    have BW := Lib.hid (S0.out.below.trans (B1.out.mono (by omega)))
    clear hb1
    go_wp2_with fail
    have cr : (w1.setCell ⟨w.heap.size, 0, none⟩ (.slice none 0 0)).cell? ⟨w.heap.size, 0, none⟩ = some (.slice none 0 0) := by go_simp
    refine bodyPost_ret (v := .tuple #[.agg #[.slice none 0 0], .int .i64 2]) (by simp [results, Try.results48, go_sem, cr]) rfl ?_
    exact ansR_endG _ (Nat.le_refl _) E.out.1.symm E.out.2.symm (OwnI.nil _ _) (by intro h; cases h) BW.out _
  have hlt0 : ¬ z0 ≤ b0 := by omega
  have HD := Lib.hid hd
  have OK := Lib.hid (tu_both (by omega) hd)
  have hzb := (tu_wf OK.out).1
  have HZ := Lib.hid (tu_wf OK.out).2.1
  have HT : Hid (RI W0 w.heap.size (some ⟨g, o + 2, none⟩) n r) := Lib.hid (H0.out.tail.tail)
  have hgw0 : g < W0.heap.size := by omega
  have hbz : (b0 == 0) = false := by simp; omega
  have hbz0 : ¬ b0 = 0 := by omega
  have hem : z0.tmod b0 = z0 % b0 := Int.tmod_eq_emod_of_nonneg (by omega)
  have hwp : IntKind.i64.wrap (z0 % b0) = z0 % b0 := IntWalk.i64_in _ (by have h1 := Int.emod_nonneg z0 (show b0 ≠ 0 by omega); have h2 := Int.emod_lt_of_pos z0 (show 0 < b0 by omega); omega)
  obtain ⟨i0, hi0, hy0, hy1, hy2⟩ := info_parts int_info
  have hc2 : n + 2 ≤ c := hnc
  have hc2i : (2 : Int) ≤ ((n + 2 : Nat) : Int) := by omega
  clear hd hz0 hb0
  by_cases h0 : z0.tmod b0 = 0
  · by_cases hc3 : c < 3
    · obtain rfl : n = 0 := by omega
      obtain rfl : c = 2 := by omega
      have hb0 : (z0 % b0 != 0) = false := by rw [← hem]; simp [h0]
      have TL0 := Lib.hid (tuL_yes (r := r) h0)
      clear h0 hem
      go_enter Try.func48, Try.ntmps48
      go_wp2_with fail
      rw [← HEQ.out]
      obtain ⟨l2, l3, l4⟩ := S0.out.later (Below.refl _ _)
      refine wp_region_held_drew (S := fun w' => w'.cell? ⟨g, o, none⟩ = some (.int .i64 z0) ∧ w'.cell? ⟨g, o + 1, none⟩ = some (.int .i64 b0)) (by kernel_rfl) ⟨hc0, hc1⟩ (fun hHeld => ?_)
      refine takeY 0 10 (v := ?_) rfl rfl (by kernel_rfl) (by kernel_rfl) (by kernel_rfl) (fun _ _ _ h => h) (by kernel_rfl) ?_ (by assumption) ?_
      rotate_left 1
      · intro w hSw; (try dsimp only at hSw); go_simp; (try with_reducible rfl)
      try simp only [Act.put, List.setIfInBounds_toArray, List.set_cons_zero, List.set_cons_succ]
      refine takeY 1 11 (v := ?_) rfl rfl (by kernel_rfl) (by kernel_rfl) (by kernel_rfl) (fun _ _ _ h => h) (by kernel_rfl) ?_ (by assumption) ?_
      rotate_left 1
      · intro w hSw; (try dsimp only at hSw); go_simp; (try with_reducible rfl)
      try simp only [Act.put, List.setIfInBounds_toArray, List.set_cons_zero, List.set_cons_succ]
      refine takeY 2 12 (v := .bool false) rfl rfl (by kernel_rfl) (by kernel_rfl) (by kernel_rfl) (fun _ _ _ h => h) (by kernel_rfl) ?_ (by assumption) ?_
      · intro w hSw; (try dsimp only at hSw); go_simp; first | done | (with_reducible rfl) | (simp; omega)
      try simp only [Act.put, List.setIfInBounds_toArray, List.set_cons_zero, List.set_cons_succ]
      refine takeY 3 13 (v := ?_) rfl rfl (by kernel_rfl) (by kernel_rfl) (by kernel_rfl) (fun _ _ _ h => h) (by kernel_rfl) ?_ (by assumption) ?_
      rotate_left 1
      · intro w hSw; (try dsimp only at hSw); go_simp; (try with_reducible rfl)
      try simp only [Act.put, List.setIfInBounds_toArray, List.set_cons_zero, List.set_cons_succ]
      refine takeY 4 14 (v := ?_) rfl rfl (by kernel_rfl) (by kernel_rfl) (by kernel_rfl) (fun _ _ _ h => h) (by kernel_rfl) ?_ (by assumption) ?_
      rotate_left 1
      · intro w hSw; (try dsimp only at hSw); go_simp; (try with_reducible rfl)
      try simp only [Act.put, List.setIfInBounds_toArray, List.set_cons_zero, List.set_cons_succ]
      refine takeY 5 15 (v := ?_) rfl rfl (by kernel_rfl) (by kernel_rfl) (by kernel_rfl) (fun _ _ _ h => h) (by kernel_rfl) ?_ (by assumption) ?_
      rotate_left 1
      · intro w hSw; (try dsimp only at hSw); go_simp; (try with_reducible rfl)
      try simp only [Act.put, List.setIfInBounds_toArray, List.set_cons_zero, List.set_cons_succ]
      refine takeY 6 16 (v := ?_) rfl rfl (by kernel_rfl) (by kernel_rfl) (by kernel_rfl) (fun _ _ _ h => h) (by kernel_rfl) ?_ (by assumption) ?_
      rotate_left 1
      · intro w hSw; (try dsimp only at hSw); go_simp; (try with_reducible rfl)
      try simp only [Act.put, List.setIfInBounds_toArray, List.set_cons_zero, List.set_cons_succ]
      refine takeY 7 17 (v := ?_) rfl rfl (by kernel_rfl) (by kernel_rfl) (by kernel_rfl) (fun _ _ _ h => h) (by kernel_rfl) ?_ (by assumption) ?_
      rotate_left 1
      · intro w hSw; (try dsimp only at hSw); go_simp; (try with_reducible rfl)
      try simp only [Act.put, List.setIfInBounds_toArray, List.set_cons_zero, List.set_cons_succ]
      refine takeY 8 18 (v := ?_) rfl rfl (by kernel_rfl) (by kernel_rfl) (by kernel_rfl) (fun _ _ _ h => h) (by kernel_rfl) ?_ (by assumption) ?_
      rotate_left 1
      · intro w hSw; (try dsimp only at hSw); go_simp; (try with_reducible rfl)
      try simp only [Act.put, List.setIfInBounds_toArray, List.set_cons_zero, List.set_cons_succ]
      refine takeY 9 19 (v := ?_) rfl rfl (by kernel_rfl) (by kernel_rfl) (by kernel_rfl) (fun _ _ _ h => h) (by kernel_rfl) ?_ (by assumption) ?_
      rotate_left 1
      · intro w hSw; (try dsimp only at hSw); go_simp; (try with_reducible rfl)
      try simp only [Act.put, List.setIfInBounds_toArray, List.set_cons_zero, List.set_cons_succ]
      refine takeY 10 20 (v := .bool false) rfl rfl (by kernel_rfl) (by kernel_rfl) (by kernel_rfl) (fun _ _ _ h => h) (by kernel_rfl) ?_ (by assumption) ?_
      · intro w hSw; (try dsimp only at hSw); go_simp; first | done | (with_reducible rfl) | (simp; omega)
      try simp only [Act.put, List.setIfInBounds_toArray, List.set_cons_zero, List.set_cons_succ]
      refine takeY 11 21 (v := ?_) rfl rfl (by kernel_rfl) (by kernel_rfl) (by kernel_rfl) (fun _ _ _ h => h) (by kernel_rfl) ?_ (by assumption) ?_
      rotate_left 1
      · intro w hSw; (try dsimp only at hSw); go_simp; (try with_reducible rfl)
      try simp only [Act.put, List.setIfInBounds_toArray, List.set_cons_zero, List.set_cons_succ]
      refine takeY 12 22 (v := ?_) rfl rfl (by kernel_rfl) (by kernel_rfl) (by kernel_rfl) (fun _ _ _ h => h) (by kernel_rfl) ?_ (by assumption) ?_
      rotate_left 1
      · intro w hSw; (try dsimp only at hSw); go_simp; (try with_reducible rfl)
      try simp only [Act.put, List.setIfInBounds_toArray, List.set_cons_zero, List.set_cons_succ]
      refine takeY 13 23 (v := ?_) rfl rfl (by kernel_rfl) (by kernel_rfl) (by kernel_rfl) (fun _ _ _ h => h) (by kernel_rfl) ?_ (by assumption) ?_
      rotate_left 1
      · intro w hSw; (try dsimp only at hSw); go_simp; (try with_reducible rfl)
      try simp only [Act.put, List.setIfInBounds_toArray, List.set_cons_zero, List.set_cons_succ]
      refine wpAnyH_ready (rs := [14]) (by kernel_rfl) (by simp) ?_
      refine AllReadyH.cons rfl (fun K hK => ?_) AllReadyH.nil
      go_simp
      refine (descends_drew _ (z0 :: b0 :: r) _ true HRD.out (by rw [HL.out]; exact hn) HW.out HD.out).mono ?_
      rintro e w1 ⟨rfl, hb1⟩
      refine hK.out _ _ (⟨(hb1.cell (p := ⟨g, o, none⟩) hgw0).trans hc0, (hb1.cell (p := ⟨g, o + 1, none⟩) hgw0).trans hc1⟩) (fun hHeld => ?_)
      clear hK K
      try simp only [Act.put, List.setIfInBounds_toArray, List.set_cons_zero, List.set_cons_succ]
      refine takeY 15 25 (v := ?_) rfl rfl (by kernel_rfl) (by kernel_rfl) (by kernel_rfl) (fun _ _ _ h => h) (by kernel_rfl) ?_ (by assumption) ?_
      rotate_left 1
      · intro w hSw; (try dsimp only at hSw); go_simp; (try with_reducible rfl)
      try simp only [Act.put, List.setIfInBounds_toArray, List.set_cons_zero, List.set_cons_succ]
      refine takeY 16 26 (v := ?_) rfl rfl (by kernel_rfl) (by kernel_rfl) (by kernel_rfl) (fun _ _ _ h => h) (by kernel_rfl) ?_ (by assumption) ?_
      rotate_left 1
      · intro w hSw; (try dsimp only at hSw); go_simp; (try with_reducible rfl)
      try simp only [Act.put, List.setIfInBounds_toArray, List.set_cons_zero, List.set_cons_succ]
      refine wpAnyH_done (by kernel_rfl) ?_ _
      have hg1 : w1.cell? ⟨g, o, none⟩ = some (.int .i64 z0) := (hb1.cell (p := ⟨g, o, none⟩) hgw0).trans hc0
      have hg2 : w1.cell? ⟨g, o + 1, none⟩ = some (.int .i64 b0) := (hb1.cell (p := ⟨g, o + 1, none⟩) hgw0).trans hc1
      have B1 := Lib.hid hb1
      have hsz1 := hb1.size
      clear hb1 l2 l3 l4 hc0 hc1
      go_wp2_with fail
      go_quiet (fail)
      obtain ⟨W1, hW1⟩ : ∃ W, W = w1.drewN nq := ⟨_, rfl⟩
      have BW1 : Hid (Below W0.heap.size W0 W1) := Lib.hid (by rw [hW1]; exact below_drewN B1.out nq)
      have hsW1 : w1.heap.size = W1.heap.size := by rw [hW1]; rfl
      have HW1c : Hid (∀ i, W1.cell? ((⟨g, o + 2, none⟩ : Addr).add i) = W0.cell? ((⟨g, o + 2, none⟩ : Addr).add i)) := Lib.hid (fun i => BW1.out.cell (by rw [add_block]; exact hgw0))
      have TL : Hid (tuL (z0 :: b0 :: r) = b0 :: ([] ++ (r.drop 0).map fun z => z + z0 - b0)) := Lib.hid (by rw [List.drop_zero]; exact TL0.out)
      rw [← hW1]
      clear hW1 hg1 hg2
      have HO : Hid (OwnI W1 W1.heap.size W1.heap.size (.slice none 0 0) []) := Lib.hid (OwnI.nil _ _)
      have HBL : Hid (Below W1.heap.size W1 W1) := Lib.hid (Below.refl _ _)
      go_wp2_with fail
      go_loopw [6, 45] (fun vo vi wr => ∃ (k l : Nat) (L : List Int) (A' : Option Addr) (c' : Nat), k ≤ 0 ∧ l ≤ k + 1 ∧ vo = .slice A' l c' ∧ vi = .int .i64 k ∧ Hid (L.length = l) ∧ Hid (tuL (z0 :: b0 :: r) = b0 :: (L ++ (r.drop k).map fun z => z + z0 - b0)) ∧ Hid (OwnI wr W1.heap.size wr.heap.size (.slice A' l c') L) ∧ Hid (Below W1.heap.size W1 wr)) (fun _ vi _ => 0 - (intOf vi).toNat)
      case atStart => exact ⟨0, 0, [], _, _, by omega, by omega, rfl, rfl, Lib.hid rfl, TL, HO, HBL⟩
      case round =>
        clear HO HBL TL
        obtain ⟨k, l, L, A', c', hk, hl, rfl, rfl, hL, hg, ho, hb⟩ := hrel
        have hszw := hb.out.size
        by_cases hlt : k < 0
        · exact absurd hlt (by omega)
        · obtain rfl : k = 0 := by omega
          have HX : Hid (tuL (z0 :: b0 :: r) = b0 :: L) := Lib.hid (by rw [hg.out, drop_end HLr.out (Nat.le_refl _)]; simp)
          have RD : Hid (ReadI wr wr.heap.size (.slice A' l c') L) := Lib.hid ho.out.reads
          go_wp2_with fail
          refine (branchWith_any b0 _ L wr RD.out (by rw [hL.out]; omega)).mono ?_
          rintro e w4 ⟨v4, rfl, ho4, hb4⟩
          obtain ⟨A4, c4, rfl⟩ := ho4.form (n := l + 1) (by simp [hL.out])
          obtain ⟨W4, HE4⟩ : ∃ W, W = w4.alloc (.cells #[.slice A4 (l + 1) c4] 26) := ⟨_, rfl⟩
          have hb5 : Below w4.heap.size w4 W4 := by rw [HE4]; exact below_box _ _
          have hq5 : BoxI W4 w4.heap.size (.slice A4 (l + 1) c4) := by rw [HE4]; exact BoxI.new _ _ _
          have hbw4 : Below W1.heap.size W1 W4 := (hb.out.trans (hb4.mono (by omega))).trans (hb5.mono (by have := hb4.size; omega))
          have O5 : Hid (OwnI W4 wr.heap.size w4.heap.size (.slice A4 (l + 1) c4) (b0 :: L)) := Lib.hid (ho4.kept (Kept.of_below hb5 (Nat.le_refl _)))
          have B5 := Lib.hid hbw4
          have R5 : Hid (ReadI W4 W4.heap.size (.slice A4 (l + 1) c4) (b0 :: L)) := Lib.hid ((ho4.kept (Kept.of_below hb5 (Nat.le_refl _))).reads)
          have HE4' := Lib.hid HE4
          have hq50 := hq5.1
          have hlt5 := hq5.2
          have HWL : Hid (∀ z ∈ b0 :: L, (Lit.int .i64 z).wf = true) := Lib.hid (by rw [← HX.out]; exact (tu_wf OK.out).2.2)
          have hs4 := hb4.size
          have hs5 := hb5.size
          clear ho4 hb4 hb5 hq5 hbw4 HE4
          go_wp2_with fail
          rw [← HE4'.out]
          cases hp : brB (b0 :: L)
          · have E := Lib.hid (tu_none OK.out (by rw [HX.out]; exact hp))
            refine (implIsBranch_if _ (b0 :: L) W4 false R5.out (by simp [hL.out]; omega) HWL.out hp).mono ?_
            rintro e w6 ⟨rfl, hb6⟩
            obtain ⟨l2, l3, l4⟩ := S0.out.later (BW1.out.trans ((B5.out.trans (hb6.mono (by omega))).mono (by omega)))
            have B6 := Lib.hid (S0.out.below.trans ((BW1.out.trans ((B5.out.trans (hb6.mono (by omega))).mono (by omega))).mono (by omega)))
            clear hb6 hp
            go_wp2_with fail
            have cr : (w6.setCell ⟨w.heap.size, 0, none⟩ (.slice none 0 0)).cell? ⟨w.heap.size, 0, none⟩ = some (.slice none 0 0) := by go_simp
            refine bodyPost_ret (v := .tuple #[.agg #[.slice none 0 0], .int .i64 5]) (by simp [results, Try.results48, go_sem, cr]) rfl ?_
            exact ansR_endG _ (Nat.le_refl _) E.out.1.symm E.out.2.symm (OwnI.nil _ _) (by intro h; cases h) B6.out _
          · have E := Lib.hid (tu_yes OK.out (by rw [HX.out]; exact hp))
            refine (implIsBranch_if _ (b0 :: L) W4 true R5.out (by simp [hL.out]; omega) HWL.out hp).mono ?_
            rintro e w6 ⟨rfl, hb6⟩
            obtain ⟨l2, l3, l4⟩ := S0.out.later (BW1.out.trans ((B5.out.trans (hb6.mono (by omega))).mono (by omega)))
            have B6 := Lib.hid (S0.out.below.trans ((BW1.out.trans ((B5.out.trans (hb6.mono (by omega))).mono (by omega))).mono (by omega)))
            have hc6 : w6.cell? ⟨w4.heap.size, 0, none⟩ = some (.slice A4 (l + 1) c4) := by rw [hb6.cell (p := ⟨w4.heap.size, 0, none⟩) hlt5]; exact hq50
            have O6 : Hid (OwnI w6 wr.heap.size w4.heap.size (.slice A4 (l + 1) c4) (b0 :: L)) := Lib.hid (O5.out.kept (Kept.of_below hb6 (by omega)))
            have hs6 := hb6.size
            clear hb6 hp
            go_wp2_with fail
            have cr : (w6.setCell ⟨w.heap.size, 0, none⟩ (.slice A4 (l + 1) c4)).cell? ⟨w.heap.size, 0, none⟩ = some (.slice A4 (l + 1) c4) := by go_simp
            refine bodyPost_ret (v := .tuple #[.agg #[.slice A4 (l + 1) c4], .int .i64 0]) (by simp [results, Try.results48, go_sem, cr]) rfl ?_
            have hne2 : (Value.slice A4 (l + 1) c4).ownBlock ≠ some w.heap.size := by
              intro h
              have h2 := (O6.out.1.lt w.heap.size h).1
              omega
            exact ansR_endG _ (Nat.le_refl _) (by rw [E.out.1, HX.out]) E.out.2.symm ((own_lessB O6.out (by omega)).raise (by omega) (Nat.le_refl _)) hne2 B6.out _
    · have hcc : ¬ c - 2 = 0 := by omega
      have hcc2 : 2 ≤ c := by omega
      have hb0 : (z0 % b0 != 0) = false := by rw [← hem]; simp [h0]
      have TL0 := Lib.hid (tuL_yes (r := r) h0)
      clear h0 hem
      go_enter Try.func48, Try.ntmps48
      go_wp2_with fail
      rw [← HEQ.out]
      obtain ⟨l2, l3, l4⟩ := S0.out.later (Below.refl _ _)
      refine wp_region_held_drew (S := fun w' => w'.cell? ⟨g, o, none⟩ = some (.int .i64 z0) ∧ w'.cell? ⟨g, o + 1, none⟩ = some (.int .i64 b0)) (by kernel_rfl) ⟨hc0, hc1⟩ (fun hHeld => ?_)
      refine takeY 0 10 (v := ?_) rfl rfl (by kernel_rfl) (by kernel_rfl) (by kernel_rfl) (fun _ _ _ h => h) (by kernel_rfl) ?_ (by assumption) ?_
      rotate_left 1
      · intro w hSw; (try dsimp only at hSw); go_simp; (try with_reducible rfl)
      try simp only [Act.put, List.setIfInBounds_toArray, List.set_cons_zero, List.set_cons_succ]
      refine takeY 1 11 (v := ?_) rfl rfl (by kernel_rfl) (by kernel_rfl) (by kernel_rfl) (fun _ _ _ h => h) (by kernel_rfl) ?_ (by assumption) ?_
      rotate_left 1
      · intro w hSw; (try dsimp only at hSw); go_simp; (try with_reducible rfl)
      try simp only [Act.put, List.setIfInBounds_toArray, List.set_cons_zero, List.set_cons_succ]
      refine takeY 2 12 (v := .bool false) rfl rfl (by kernel_rfl) (by kernel_rfl) (by kernel_rfl) (fun _ _ _ h => h) (by kernel_rfl) ?_ (by assumption) ?_
      · intro w hSw; (try dsimp only at hSw); go_simp; first | done | (with_reducible rfl) | (simp; omega)
      try simp only [Act.put, List.setIfInBounds_toArray, List.set_cons_zero, List.set_cons_succ]
      refine takeY 3 13 (v := ?_) rfl rfl (by kernel_rfl) (by kernel_rfl) (by kernel_rfl) (fun _ _ _ h => h) (by kernel_rfl) ?_ (by assumption) ?_
      rotate_left 1
      · intro w hSw; (try dsimp only at hSw); go_simp; (try with_reducible rfl)
      try simp only [Act.put, List.setIfInBounds_toArray, List.set_cons_zero, List.set_cons_succ]
      refine takeY 4 14 (v := ?_) rfl rfl (by kernel_rfl) (by kernel_rfl) (by kernel_rfl) (fun _ _ _ h => h) (by kernel_rfl) ?_ (by assumption) ?_
      rotate_left 1
      · intro w hSw; (try dsimp only at hSw); go_simp; (try with_reducible rfl)
      try simp only [Act.put, List.setIfInBounds_toArray, List.set_cons_zero, List.set_cons_succ]
      refine takeY 5 15 (v := ?_) rfl rfl (by kernel_rfl) (by kernel_rfl) (by kernel_rfl) (fun _ _ _ h => h) (by kernel_rfl) ?_ (by assumption) ?_
      rotate_left 1
      · intro w hSw; (try dsimp only at hSw); go_simp; (try with_reducible rfl)
      try simp only [Act.put, List.setIfInBounds_toArray, List.set_cons_zero, List.set_cons_succ]
      refine takeY 6 16 (v := ?_) rfl rfl (by kernel_rfl) (by kernel_rfl) (by kernel_rfl) (fun _ _ _ h => h) (by kernel_rfl) ?_ (by assumption) ?_
      rotate_left 1
      · intro w hSw; (try dsimp only at hSw); go_simp; (try with_reducible rfl)
      try simp only [Act.put, List.setIfInBounds_toArray, List.set_cons_zero, List.set_cons_succ]
      refine takeY 7 17 (v := ?_) rfl rfl (by kernel_rfl) (by kernel_rfl) (by kernel_rfl) (fun _ _ _ h => h) (by kernel_rfl) ?_ (by assumption) ?_
      rotate_left 1
      · intro w hSw; (try dsimp only at hSw); go_simp; (try with_reducible rfl)
      try simp only [Act.put, List.setIfInBounds_toArray, List.set_cons_zero, List.set_cons_succ]
      refine takeY 8 18 (v := ?_) rfl rfl (by kernel_rfl) (by kernel_rfl) (by kernel_rfl) (fun _ _ _ h => h) (by kernel_rfl) ?_ (by assumption) ?_
      rotate_left 1
      · intro w hSw; (try dsimp only at hSw); go_simp; (try with_reducible rfl)
      try simp only [Act.put, List.setIfInBounds_toArray, List.set_cons_zero, List.set_cons_succ]
      refine takeY 9 19 (v := ?_) rfl rfl (by kernel_rfl) (by kernel_rfl) (by kernel_rfl) (fun _ _ _ h => h) (by kernel_rfl) ?_ (by assumption) ?_
      rotate_left 1
      · intro w hSw; (try dsimp only at hSw); go_simp; (try with_reducible rfl)
      try simp only [Act.put, List.setIfInBounds_toArray, List.set_cons_zero, List.set_cons_succ]
      refine takeY 10 20 (v := .bool false) rfl rfl (by kernel_rfl) (by kernel_rfl) (by kernel_rfl) (fun _ _ _ h => h) (by kernel_rfl) ?_ (by assumption) ?_
      · intro w hSw; (try dsimp only at hSw); go_simp; first | done | (with_reducible rfl) | (simp; omega)
      try simp only [Act.put, List.setIfInBounds_toArray, List.set_cons_zero, List.set_cons_succ]
      refine takeY 11 21 (v := ?_) rfl rfl (by kernel_rfl) (by kernel_rfl) (by kernel_rfl) (fun _ _ _ h => h) (by kernel_rfl) ?_ (by assumption) ?_
      rotate_left 1
      · intro w hSw; (try dsimp only at hSw); go_simp; (try with_reducible rfl)
      try simp only [Act.put, List.setIfInBounds_toArray, List.set_cons_zero, List.set_cons_succ]
      refine takeY 12 22 (v := ?_) rfl rfl (by kernel_rfl) (by kernel_rfl) (by kernel_rfl) (fun _ _ _ h => h) (by kernel_rfl) ?_ (by assumption) ?_
      rotate_left 1
      · intro w hSw; (try dsimp only at hSw); go_simp; (try with_reducible rfl)
      try simp only [Act.put, List.setIfInBounds_toArray, List.set_cons_zero, List.set_cons_succ]
      refine takeY 13 23 (v := ?_) rfl rfl (by kernel_rfl) (by kernel_rfl) (by kernel_rfl) (fun _ _ _ h => h) (by kernel_rfl) ?_ (by assumption) ?_
      rotate_left 1
      · intro w hSw; (try dsimp only at hSw); go_simp; (try with_reducible rfl)
      try simp only [Act.put, List.setIfInBounds_toArray, List.set_cons_zero, List.set_cons_succ]
      refine wpAnyH_ready (rs := [14]) (by kernel_rfl) (by simp) ?_
      refine AllReadyH.cons rfl (fun K hK => ?_) AllReadyH.nil
      go_simp
      refine (descends_drew _ (z0 :: b0 :: r) _ true HRD.out (by rw [HL.out]; exact hn) HW.out HD.out).mono ?_
      rintro e w1 ⟨rfl, hb1⟩
      refine hK.out _ _ (⟨(hb1.cell (p := ⟨g, o, none⟩) hgw0).trans hc0, (hb1.cell (p := ⟨g, o + 1, none⟩) hgw0).trans hc1⟩) (fun hHeld => ?_)
      clear hK K
      try simp only [Act.put, List.setIfInBounds_toArray, List.set_cons_zero, List.set_cons_succ]
      refine takeY 15 25 (v := ?_) rfl rfl (by kernel_rfl) (by kernel_rfl) (by kernel_rfl) (fun _ _ _ h => h) (by kernel_rfl) ?_ (by assumption) ?_
      rotate_left 1
      · intro w hSw; (try dsimp only at hSw); go_simp; (try with_reducible rfl)
      try simp only [Act.put, List.setIfInBounds_toArray, List.set_cons_zero, List.set_cons_succ]
      refine takeY 16 26 (v := ?_) rfl rfl (by kernel_rfl) (by kernel_rfl) (by kernel_rfl) (fun _ _ _ h => h) (by kernel_rfl) ?_ (by assumption) ?_
      rotate_left 1
      · intro w hSw; (try dsimp only at hSw); go_simp; (try with_reducible rfl)
      try simp only [Act.put, List.setIfInBounds_toArray, List.set_cons_zero, List.set_cons_succ]
      refine wpAnyH_done (by kernel_rfl) ?_ _
      have hg1 : w1.cell? ⟨g, o, none⟩ = some (.int .i64 z0) := (hb1.cell (p := ⟨g, o, none⟩) hgw0).trans hc0
      have hg2 : w1.cell? ⟨g, o + 1, none⟩ = some (.int .i64 b0) := (hb1.cell (p := ⟨g, o + 1, none⟩) hgw0).trans hc1
      have B1 := Lib.hid hb1
      have hsz1 := hb1.size
      clear hb1 l2 l3 l4 hc0 hc1
      go_wp2_with fail
      go_quiet (fail)
      obtain ⟨W1, hW1⟩ : ∃ W, W = w1.drewN nq := ⟨_, rfl⟩
      have BW1 : Hid (Below W0.heap.size W0 W1) := Lib.hid (by rw [hW1]; exact below_drewN B1.out nq)
      have hsW1 : w1.heap.size = W1.heap.size := by rw [hW1]; rfl
      have HW1c : Hid (∀ i, W1.cell? ((⟨g, o + 2, none⟩ : Addr).add i) = W0.cell? ((⟨g, o + 2, none⟩ : Addr).add i)) := Lib.hid (fun i => BW1.out.cell (by rw [add_block]; exact hgw0))
      have TL : Hid (tuL (z0 :: b0 :: r) = b0 :: ([] ++ (r.drop 0).map fun z => z + z0 - b0)) := Lib.hid (by rw [List.drop_zero]; exact TL0.out)
      rw [← hW1]
      clear hW1 hg1 hg2
      have HO : Hid (OwnI W1 W1.heap.size W1.heap.size (.slice none 0 0) []) := Lib.hid (OwnI.nil _ _)
      have HBL : Hid (Below W1.heap.size W1 W1) := Lib.hid (Below.refl _ _)
      go_wp2_with fail
      go_loopw [6, 45] (fun vo vi wr => ∃ (k l : Nat) (L : List Int) (A' : Option Addr) (c' : Nat), k ≤ n ∧ l ≤ k + 1 ∧ vo = .slice A' l c' ∧ vi = .int .i64 k ∧ Hid (L.length = l) ∧ Hid (tuL (z0 :: b0 :: r) = b0 :: (L ++ (r.drop k).map fun z => z + z0 - b0)) ∧ Hid (OwnI wr W1.heap.size wr.heap.size (.slice A' l c') L) ∧ Hid (Below W1.heap.size W1 wr)) (fun _ vi _ => n - (intOf vi).toNat)
      case atStart => exact ⟨0, 0, [], _, _, by omega, by omega, rfl, rfl, Lib.hid rfl, TL, HO, HBL⟩
      case round =>
        clear HO HBL TL
        obtain ⟨k, l, L, A', c', hk, hl, rfl, rfl, hL, hg, ho, hb⟩ := hrel
        have hszw := hb.out.size
        by_cases hlt : k < n
        · obtain ⟨a, e1, hal, hcell0⟩ := HT.out.2 k hlt
          cases e1
          have hz := HZ.out (r[k]?.getD 0) (by have := HLr.out; simp [show k < r.length by omega])
          have HM := Lib.hid (tu_map (z0 := z0) (b0 := b0) HLr.out hlt)
          have hcell : wr.cell? ⟨g, o + 2 + k, none⟩ = some (.int .i64 (r[k]?.getD 0)) := by
            rw [← add_lit, hb.out.cell (by rw [add_block]; show g < _; omega), HW1c.out]; simpa using hcell0
          generalize r[k]?.getD 0 = z at *
          have hkn : (k : Int) < (n : Int) := by omega
          have hk9 : (0 : Int) ≤ (k : Int) := by omega
          have p1 : IntKind.i64.wrap (z + z0) = z + z0 := IntWalk.i64_in _ (by omega)
          have p2 : IntKind.i64.wrap (z + z0 - b0) = z + z0 - b0 := IntWalk.i64_in _ (by omega)
          have HG : Hid (tuL (z0 :: b0 :: r) = b0 :: ((L ++ [z + z0 - b0]) ++ (r.drop (k + 1)).map fun z => z + z0 - b0)) := Lib.hid (by rw [hg.out, HM.out]; simp)
          have HOw : Hid (Own wr W1.heap.size (.slice A' l c') l (L.map (.int .i64))) := Lib.hid (ho.out.ow hL.out)
          clear hcell0
          go_wp2_with (at_builtin; go_loud (refine wpList_append_own _ rfl _ _ 24 rfl W1.heap.size 2 i0 (.int .i64 0) 1 8 Try.underlying24 hi0 hy0 hy1 hy2 rfl ?_ _ l (L.map (.int .i64)) rfl (World.ownsRow.alloc HOw.out _) ⟨wr.heap.size, 0, none⟩ 1 1 [.int .i64 (z + z0 - b0)] rfl rfl ?_ ?_ ?_ ?_ ?_ ?_; (decide); (exact World.news_of_block (cs := #[.int .i64 (z + z0 - b0)]) (t := 2) (fr := (0, 0)) (heap_alloc_new wr _)); (simp [Value.oneCell']); (simp only [maxLen]; omega); (omega); (simp; omega); intro v1 w2 hown1 hgrow _; obtain ⟨A2, c2, rfl⟩ := own_form hown1; have HO1 : Hid (OwnI w2 W1.heap.size w2.heap.size (.slice A2 (l + 1) c2) (L ++ [z + z0 - b0])) := Lib.hid (OwnI.mk' (n := l + 1) (by rw [List.map_append]; exact hown1)); have hb1 : Below W1.heap.size W1 w2 := (hb.out.alloc hb.out.size _).grown hgrow (by simp; omega) (fun k hk => (Own.lt ho.out.1 k hk).1); have HB1 := Lib.hid hb1; clear hown1 hgrow hb1))
          go_roundw
          case rel => exact ⟨k + 1, l + 1, L ++ [z + z0 - b0], A2, c2, by omega, by omega, rfl, by go_num, Lib.hid (by simp [hL.out]), HG, HO1, HB1⟩
          case measure => simp [intOf]; omega
        · obtain rfl : k = n := by omega
          have HX : Hid (tuL (z0 :: b0 :: r) = b0 :: L) := Lib.hid (by rw [hg.out, drop_end HLr.out (Nat.le_refl _)]; simp)
          have RD : Hid (ReadI wr wr.heap.size (.slice A' l c') L) := Lib.hid ho.out.reads
          go_wp2_with fail
          refine (branchWith_any b0 _ L wr RD.out (by rw [hL.out]; omega)).mono ?_
          rintro e w4 ⟨v4, rfl, ho4, hb4⟩
          obtain ⟨A4, c4, rfl⟩ := ho4.form (n := l + 1) (by simp [hL.out])
          obtain ⟨W4, HE4⟩ : ∃ W, W = w4.alloc (.cells #[.slice A4 (l + 1) c4] 26) := ⟨_, rfl⟩
          have hb5 : Below w4.heap.size w4 W4 := by rw [HE4]; exact below_box _ _
          have hq5 : BoxI W4 w4.heap.size (.slice A4 (l + 1) c4) := by rw [HE4]; exact BoxI.new _ _ _
          have hbw4 : Below W1.heap.size W1 W4 := (hb.out.trans (hb4.mono (by omega))).trans (hb5.mono (by have := hb4.size; omega))
          have O5 : Hid (OwnI W4 wr.heap.size w4.heap.size (.slice A4 (l + 1) c4) (b0 :: L)) := Lib.hid (ho4.kept (Kept.of_below hb5 (Nat.le_refl _)))
          have B5 := Lib.hid hbw4
          have R5 : Hid (ReadI W4 W4.heap.size (.slice A4 (l + 1) c4) (b0 :: L)) := Lib.hid ((ho4.kept (Kept.of_below hb5 (Nat.le_refl _))).reads)
          have HE4' := Lib.hid HE4
          have hq50 := hq5.1
          have hlt5 := hq5.2
          have HWL : Hid (∀ z ∈ b0 :: L, (Lit.int .i64 z).wf = true) := Lib.hid (by rw [← HX.out]; exact (tu_wf OK.out).2.2)
          have hs4 := hb4.size
          have hs5 := hb5.size
          clear ho4 hb4 hb5 hq5 hbw4 HE4
          go_wp2_with fail
          rw [← HE4'.out]
          cases hp : brB (b0 :: L)
          · have E := Lib.hid (tu_none OK.out (by rw [HX.out]; exact hp))
            refine (implIsBranch_if _ (b0 :: L) W4 false R5.out (by simp [hL.out]; omega) HWL.out hp).mono ?_
            rintro e w6 ⟨rfl, hb6⟩
            obtain ⟨l2, l3, l4⟩ := S0.out.later (BW1.out.trans ((B5.out.trans (hb6.mono (by omega))).mono (by omega)))
            have B6 := Lib.hid (S0.out.below.trans ((BW1.out.trans ((B5.out.trans (hb6.mono (by omega))).mono (by omega))).mono (by omega)))
            clear hb6 hp
            go_wp2_with fail
            have cr : (w6.setCell ⟨w.heap.size, 0, none⟩ (.slice none 0 0)).cell? ⟨w.heap.size, 0, none⟩ = some (.slice none 0 0) := by go_simp
            refine bodyPost_ret (v := .tuple #[.agg #[.slice none 0 0], .int .i64 5]) (by simp [results, Try.results48, go_sem, cr]) rfl ?_
            exact ansR_endG _ (Nat.le_refl _) E.out.1.symm E.out.2.symm (OwnI.nil _ _) (by intro h; cases h) B6.out _
          · have E := Lib.hid (tu_yes OK.out (by rw [HX.out]; exact hp))
            refine (implIsBranch_if _ (b0 :: L) W4 true R5.out (by simp [hL.out]; omega) HWL.out hp).mono ?_
            rintro e w6 ⟨rfl, hb6⟩
            obtain ⟨l2, l3, l4⟩ := S0.out.later (BW1.out.trans ((B5.out.trans (hb6.mono (by omega))).mono (by omega)))
            have B6 := Lib.hid (S0.out.below.trans ((BW1.out.trans ((B5.out.trans (hb6.mono (by omega))).mono (by omega))).mono (by omega)))
            have hc6 : w6.cell? ⟨w4.heap.size, 0, none⟩ = some (.slice A4 (l + 1) c4) := by rw [hb6.cell (p := ⟨w4.heap.size, 0, none⟩) hlt5]; exact hq50
            have O6 : Hid (OwnI w6 wr.heap.size w4.heap.size (.slice A4 (l + 1) c4) (b0 :: L)) := Lib.hid (O5.out.kept (Kept.of_below hb6 (by omega)))
            have hs6 := hb6.size
            clear hb6 hp
            go_wp2_with fail
            have cr : (w6.setCell ⟨w.heap.size, 0, none⟩ (.slice A4 (l + 1) c4)).cell? ⟨w.heap.size, 0, none⟩ = some (.slice A4 (l + 1) c4) := by go_simp
            refine bodyPost_ret (v := .tuple #[.agg #[.slice A4 (l + 1) c4], .int .i64 0]) (by simp [results, Try.results48, go_sem, cr]) rfl ?_
            have hne2 : (Value.slice A4 (l + 1) c4).ownBlock ≠ some w.heap.size := by
              intro h
              have h2 := (O6.out.1.lt w.heap.size h).1
              omega
            exact ansR_endG _ (Nat.le_refl _) (by rw [E.out.1, HX.out]) E.out.2.symm ((own_lessB O6.out (by omega)).raise (by omega) (Nat.le_refl _)) hne2 B6.out _
  · by_cases hc3 : c < 3
    · obtain rfl : n = 0 := by omega
      obtain rfl : c = 2 := by omega
      have hb0 : (z0 % b0 != 0) = true := by rw [← hem]; simp [h0]
      have TL0 := Lib.hid (tuL_no (r := r) h0)
      clear h0 hem
      go_enter Try.func48, Try.ntmps48
      go_wp2_with fail
      rw [← HEQ.out]
      obtain ⟨l2, l3, l4⟩ := S0.out.later (Below.refl _ _)
      refine wp_region_held_drew (S := fun w' => w'.cell? ⟨g, o, none⟩ = some (.int .i64 z0) ∧ w'.cell? ⟨g, o + 1, none⟩ = some (.int .i64 b0)) (by kernel_rfl) ⟨hc0, hc1⟩ (fun hHeld => ?_)
      refine takeY 0 10 (v := ?_) rfl rfl (by kernel_rfl) (by kernel_rfl) (by kernel_rfl) (fun _ _ _ h => h) (by kernel_rfl) ?_ (by assumption) ?_
      rotate_left 1
      · intro w hSw; (try dsimp only at hSw); go_simp; (try with_reducible rfl)
      try simp only [Act.put, List.setIfInBounds_toArray, List.set_cons_zero, List.set_cons_succ]
      refine takeY 1 11 (v := ?_) rfl rfl (by kernel_rfl) (by kernel_rfl) (by kernel_rfl) (fun _ _ _ h => h) (by kernel_rfl) ?_ (by assumption) ?_
      rotate_left 1
      · intro w hSw; (try dsimp only at hSw); go_simp; (try with_reducible rfl)
      try simp only [Act.put, List.setIfInBounds_toArray, List.set_cons_zero, List.set_cons_succ]
      refine takeY 2 12 (v := .bool false) rfl rfl (by kernel_rfl) (by kernel_rfl) (by kernel_rfl) (fun _ _ _ h => h) (by kernel_rfl) ?_ (by assumption) ?_
      · intro w hSw; (try dsimp only at hSw); go_simp; first | done | (with_reducible rfl) | (simp; omega)
      try simp only [Act.put, List.setIfInBounds_toArray, List.set_cons_zero, List.set_cons_succ]
      refine takeY 3 13 (v := ?_) rfl rfl (by kernel_rfl) (by kernel_rfl) (by kernel_rfl) (fun _ _ _ h => h) (by kernel_rfl) ?_ (by assumption) ?_
      rotate_left 1
      · intro w hSw; (try dsimp only at hSw); go_simp; (try with_reducible rfl)
      try simp only [Act.put, List.setIfInBounds_toArray, List.set_cons_zero, List.set_cons_succ]
      refine takeY 4 14 (v := ?_) rfl rfl (by kernel_rfl) (by kernel_rfl) (by kernel_rfl) (fun _ _ _ h => h) (by kernel_rfl) ?_ (by assumption) ?_
      rotate_left 1
      · intro w hSw; (try dsimp only at hSw); go_simp; (try with_reducible rfl)
      try simp only [Act.put, List.setIfInBounds_toArray, List.set_cons_zero, List.set_cons_succ]
      refine takeY 5 15 (v := ?_) rfl rfl (by kernel_rfl) (by kernel_rfl) (by kernel_rfl) (fun _ _ _ h => h) (by kernel_rfl) ?_ (by assumption) ?_
      rotate_left 1
      · intro w hSw; (try dsimp only at hSw); go_simp; (try with_reducible rfl)
      try simp only [Act.put, List.setIfInBounds_toArray, List.set_cons_zero, List.set_cons_succ]
      refine takeY 6 16 (v := ?_) rfl rfl (by kernel_rfl) (by kernel_rfl) (by kernel_rfl) (fun _ _ _ h => h) (by kernel_rfl) ?_ (by assumption) ?_
      rotate_left 1
      · intro w hSw; (try dsimp only at hSw); go_simp; (try with_reducible rfl)
      try simp only [Act.put, List.setIfInBounds_toArray, List.set_cons_zero, List.set_cons_succ]
      refine takeY 7 17 (v := ?_) rfl rfl (by kernel_rfl) (by kernel_rfl) (by kernel_rfl) (fun _ _ _ h => h) (by kernel_rfl) ?_ (by assumption) ?_
      rotate_left 1
      · intro w hSw; (try dsimp only at hSw); go_simp; (try with_reducible rfl)
      try simp only [Act.put, List.setIfInBounds_toArray, List.set_cons_zero, List.set_cons_succ]
      refine takeY 8 18 (v := ?_) rfl rfl (by kernel_rfl) (by kernel_rfl) (by kernel_rfl) (fun _ _ _ h => h) (by kernel_rfl) ?_ (by assumption) ?_
      rotate_left 1
      · intro w hSw; (try dsimp only at hSw); go_simp; (try with_reducible rfl)
      try simp only [Act.put, List.setIfInBounds_toArray, List.set_cons_zero, List.set_cons_succ]
      refine takeY 9 19 (v := ?_) rfl rfl (by kernel_rfl) (by kernel_rfl) (by kernel_rfl) (fun _ _ _ h => h) (by kernel_rfl) ?_ (by assumption) ?_
      rotate_left 1
      · intro w hSw; (try dsimp only at hSw); go_simp; (try with_reducible rfl)
      try simp only [Act.put, List.setIfInBounds_toArray, List.set_cons_zero, List.set_cons_succ]
      refine takeY 10 20 (v := .bool false) rfl rfl (by kernel_rfl) (by kernel_rfl) (by kernel_rfl) (fun _ _ _ h => h) (by kernel_rfl) ?_ (by assumption) ?_
      · intro w hSw; (try dsimp only at hSw); go_simp; first | done | (with_reducible rfl) | (simp; omega)
      try simp only [Act.put, List.setIfInBounds_toArray, List.set_cons_zero, List.set_cons_succ]
      refine takeY 11 21 (v := ?_) rfl rfl (by kernel_rfl) (by kernel_rfl) (by kernel_rfl) (fun _ _ _ h => h) (by kernel_rfl) ?_ (by assumption) ?_
      rotate_left 1
      · intro w hSw; (try dsimp only at hSw); go_simp; (try with_reducible rfl)
      try simp only [Act.put, List.setIfInBounds_toArray, List.set_cons_zero, List.set_cons_succ]
      refine takeY 12 22 (v := ?_) rfl rfl (by kernel_rfl) (by kernel_rfl) (by kernel_rfl) (fun _ _ _ h => h) (by kernel_rfl) ?_ (by assumption) ?_
      rotate_left 1
      · intro w hSw; (try dsimp only at hSw); go_simp; (try with_reducible rfl)
      try simp only [Act.put, List.setIfInBounds_toArray, List.set_cons_zero, List.set_cons_succ]
      refine takeY 13 23 (v := ?_) rfl rfl (by kernel_rfl) (by kernel_rfl) (by kernel_rfl) (fun _ _ _ h => h) (by kernel_rfl) ?_ (by assumption) ?_
      rotate_left 1
      · intro w hSw; (try dsimp only at hSw); go_simp; (try with_reducible rfl)
      try simp only [Act.put, List.setIfInBounds_toArray, List.set_cons_zero, List.set_cons_succ]
      refine wpAnyH_ready (rs := [14]) (by kernel_rfl) (by simp) ?_
      refine AllReadyH.cons rfl (fun K hK => ?_) AllReadyH.nil
      go_simp
      refine (descends_drew _ (z0 :: b0 :: r) _ true HRD.out (by rw [HL.out]; exact hn) HW.out HD.out).mono ?_
      rintro e w1 ⟨rfl, hb1⟩
      refine hK.out _ _ (⟨(hb1.cell (p := ⟨g, o, none⟩) hgw0).trans hc0, (hb1.cell (p := ⟨g, o + 1, none⟩) hgw0).trans hc1⟩) (fun hHeld => ?_)
      clear hK K
      try simp only [Act.put, List.setIfInBounds_toArray, List.set_cons_zero, List.set_cons_succ]
      refine takeY 15 25 (v := ?_) rfl rfl (by kernel_rfl) (by kernel_rfl) (by kernel_rfl) (fun _ _ _ h => h) (by kernel_rfl) ?_ (by assumption) ?_
      rotate_left 1
      · intro w hSw; (try dsimp only at hSw); go_simp; (try with_reducible rfl)
      try simp only [Act.put, List.setIfInBounds_toArray, List.set_cons_zero, List.set_cons_succ]
      refine takeY 16 26 (v := ?_) rfl rfl (by kernel_rfl) (by kernel_rfl) (by kernel_rfl) (fun _ _ _ h => h) (by kernel_rfl) ?_ (by assumption) ?_
      rotate_left 1
      · intro w hSw; (try dsimp only at hSw); go_simp; (try with_reducible rfl)
      try simp only [Act.put, List.setIfInBounds_toArray, List.set_cons_zero, List.set_cons_succ]
      refine wpAnyH_done (by kernel_rfl) ?_ _
      have hg1 : w1.cell? ⟨g, o, none⟩ = some (.int .i64 z0) := (hb1.cell (p := ⟨g, o, none⟩) hgw0).trans hc0
      have hg2 : w1.cell? ⟨g, o + 1, none⟩ = some (.int .i64 b0) := (hb1.cell (p := ⟨g, o + 1, none⟩) hgw0).trans hc1
      have B1 := Lib.hid hb1
      have hsz1 := hb1.size
      clear hb1 l2 l3 l4 hc0 hc1
      go_wp2_with fail
      go_quiet (fail)
      obtain ⟨W1, hW1⟩ : ∃ W, W = w1.drewN nq := ⟨_, rfl⟩
      have BW1 : Hid (Below W0.heap.size W0 W1) := Lib.hid (by rw [hW1]; exact below_drewN B1.out nq)
      have hsW1 : w1.heap.size = W1.heap.size := by rw [hW1]; rfl
      have HW1c : Hid (∀ i, W1.cell? ((⟨g, o + 2, none⟩ : Addr).add i) = W0.cell? ((⟨g, o + 2, none⟩ : Addr).add i)) := Lib.hid (fun i => BW1.out.cell (by rw [add_block]; exact hgw0))
      have TL : Hid (tuL (z0 :: b0 :: r) = b0 :: ([z0] ++ (r.drop 0).map fun z => z + z0 - b0)) := Lib.hid (by rw [List.drop_zero]; exact TL0.out)
      rw [← hW1]
      clear hW1 hg1 hg2
      go_wp2_with (at_builtin; go_loud (refine wpList_append_own _ rfl _ _ 24 rfl W1.heap.size 2 i0 (.int .i64 0) 1 8 Try.underlying24 hi0 hy0 hy1 hy2 rfl ?_ _ 0 [] rfl (World.ownsRow.alloc (Own.nil W1 W1.heap.size) _) ⟨W1.heap.size, 0, none⟩ 1 1 [.int .i64 z0] rfl rfl ?_ ?_ ?_ ?_ ?_ ?_; (decide); (exact World.news_of_block (cs := #[.int .i64 z0]) (t := 2) (fr := (0, 0)) (heap_alloc_new W1 _)); (simp [Value.oneCell']); (simp only [maxLen]; omega); (omega); (simp); intro v1 w2 hown1 hgrow _; obtain ⟨A2, c2, rfl⟩ := own_form hown1; have HO : Hid (OwnI w2 W1.heap.size w2.heap.size (.slice A2 (0 + 1) c2) [z0]) := Lib.hid (OwnI.mk' (n := 0 + 1) hown1); have hb1 : Below W1.heap.size W1 w2 := (below_box W1 _).grown hgrow (by simp) (fun k hk => by cases hk); have HBL := Lib.hid hb1; clear hown1 hgrow hb1))
      go_loopw [6, 45] (fun vo vi wr => ∃ (k l : Nat) (L : List Int) (A' : Option Addr) (c' : Nat), k ≤ 0 ∧ l ≤ k + 1 ∧ vo = .slice A' l c' ∧ vi = .int .i64 k ∧ Hid (L.length = l) ∧ Hid (tuL (z0 :: b0 :: r) = b0 :: (L ++ (r.drop k).map fun z => z + z0 - b0)) ∧ Hid (OwnI wr W1.heap.size wr.heap.size (.slice A' l c') L) ∧ Hid (Below W1.heap.size W1 wr)) (fun _ vi _ => 0 - (intOf vi).toNat)
      case atStart => exact ⟨0, 1, [z0], _, _, by omega, by omega, rfl, rfl, Lib.hid rfl, TL, HO, HBL⟩
      case round =>
        clear HO HBL TL
        obtain ⟨k, l, L, A', c', hk, hl, rfl, rfl, hL, hg, ho, hb⟩ := hrel
        have hszw := hb.out.size
        by_cases hlt : k < 0
        · exact absurd hlt (by omega)
        · obtain rfl : k = 0 := by omega
          have HX : Hid (tuL (z0 :: b0 :: r) = b0 :: L) := Lib.hid (by rw [hg.out, drop_end HLr.out (Nat.le_refl _)]; simp)
          have RD : Hid (ReadI wr wr.heap.size (.slice A' l c') L) := Lib.hid ho.out.reads
          go_wp2_with fail
          refine (branchWith_any b0 _ L wr RD.out (by rw [hL.out]; omega)).mono ?_
          rintro e w4 ⟨v4, rfl, ho4, hb4⟩
          obtain ⟨A4, c4, rfl⟩ := ho4.form (n := l + 1) (by simp [hL.out])
          obtain ⟨W4, HE4⟩ : ∃ W, W = w4.alloc (.cells #[.slice A4 (l + 1) c4] 26) := ⟨_, rfl⟩
          have hb5 : Below w4.heap.size w4 W4 := by rw [HE4]; exact below_box _ _
          have hq5 : BoxI W4 w4.heap.size (.slice A4 (l + 1) c4) := by rw [HE4]; exact BoxI.new _ _ _
          have hbw4 : Below W1.heap.size W1 W4 := (hb.out.trans (hb4.mono (by omega))).trans (hb5.mono (by have := hb4.size; omega))
          have O5 : Hid (OwnI W4 wr.heap.size w4.heap.size (.slice A4 (l + 1) c4) (b0 :: L)) := Lib.hid (ho4.kept (Kept.of_below hb5 (Nat.le_refl _)))
          have B5 := Lib.hid hbw4
          have R5 : Hid (ReadI W4 W4.heap.size (.slice A4 (l + 1) c4) (b0 :: L)) := Lib.hid ((ho4.kept (Kept.of_below hb5 (Nat.le_refl _))).reads)
          have HE4' := Lib.hid HE4
          have hq50 := hq5.1
          have hlt5 := hq5.2
          have HWL : Hid (∀ z ∈ b0 :: L, (Lit.int .i64 z).wf = true) := Lib.hid (by rw [← HX.out]; exact (tu_wf OK.out).2.2)
          have hs4 := hb4.size
          have hs5 := hb5.size
          clear ho4 hb4 hb5 hq5 hbw4 HE4
          go_wp2_with fail
          rw [← HE4'.out]
          cases hp : brB (b0 :: L)
          · have E := Lib.hid (tu_none OK.out (by rw [HX.out]; exact hp))
            refine (implIsBranch_if _ (b0 :: L) W4 false R5.out (by simp [hL.out]; omega) HWL.out hp).mono ?_
            rintro e w6 ⟨rfl, hb6⟩
            obtain ⟨l2, l3, l4⟩ := S0.out.later (BW1.out.trans ((B5.out.trans (hb6.mono (by omega))).mono (by omega)))
            have B6 := Lib.hid (S0.out.below.trans ((BW1.out.trans ((B5.out.trans (hb6.mono (by omega))).mono (by omega))).mono (by omega)))
            clear hb6 hp
            go_wp2_with fail
            have cr : (w6.setCell ⟨w.heap.size, 0, none⟩ (.slice none 0 0)).cell? ⟨w.heap.size, 0, none⟩ = some (.slice none 0 0) := by go_simp
            refine bodyPost_ret (v := .tuple #[.agg #[.slice none 0 0], .int .i64 5]) (by simp [results, Try.results48, go_sem, cr]) rfl ?_
            exact ansR_endG _ (Nat.le_refl _) E.out.1.symm E.out.2.symm (OwnI.nil _ _) (by intro h; cases h) B6.out _
          · have E := Lib.hid (tu_yes OK.out (by rw [HX.out]; exact hp))
            refine (implIsBranch_if _ (b0 :: L) W4 true R5.out (by simp [hL.out]; omega) HWL.out hp).mono ?_
            rintro e w6 ⟨rfl, hb6⟩
            obtain ⟨l2, l3, l4⟩ := S0.out.later (BW1.out.trans ((B5.out.trans (hb6.mono (by omega))).mono (by omega)))
            have B6 := Lib.hid (S0.out.below.trans ((BW1.out.trans ((B5.out.trans (hb6.mono (by omega))).mono (by omega))).mono (by omega)))
            have hc6 : w6.cell? ⟨w4.heap.size, 0, none⟩ = some (.slice A4 (l + 1) c4) := by rw [hb6.cell (p := ⟨w4.heap.size, 0, none⟩) hlt5]; exact hq50
            have O6 : Hid (OwnI w6 wr.heap.size w4.heap.size (.slice A4 (l + 1) c4) (b0 :: L)) := Lib.hid (O5.out.kept (Kept.of_below hb6 (by omega)))
            have hs6 := hb6.size
            clear hb6 hp
            go_wp2_with fail
            have cr : (w6.setCell ⟨w.heap.size, 0, none⟩ (.slice A4 (l + 1) c4)).cell? ⟨w.heap.size, 0, none⟩ = some (.slice A4 (l + 1) c4) := by go_simp
            refine bodyPost_ret (v := .tuple #[.agg #[.slice A4 (l + 1) c4], .int .i64 0]) (by simp [results, Try.results48, go_sem, cr]) rfl ?_
            have hne2 : (Value.slice A4 (l + 1) c4).ownBlock ≠ some w.heap.size := by
              intro h
              have h2 := (O6.out.1.lt w.heap.size h).1
              omega
            exact ansR_endG _ (Nat.le_refl _) (by rw [E.out.1, HX.out]) E.out.2.symm ((own_lessB O6.out (by omega)).raise (by omega) (Nat.le_refl _)) hne2 B6.out _
    · have hcc : ¬ c - 2 = 0 := by omega
      have hcc2 : 2 ≤ c := by omega
      have hb0 : (z0 % b0 != 0) = true := by rw [← hem]; simp [h0]
      have TL0 := Lib.hid (tuL_no (r := r) h0)
      clear h0 hem
      go_enter Try.func48, Try.ntmps48
      go_wp2_with fail
      rw [← HEQ.out]
      obtain ⟨l2, l3, l4⟩ := S0.out.later (Below.refl _ _)
      refine wp_region_held_drew (S := fun w' => w'.cell? ⟨g, o, none⟩ = some (.int .i64 z0) ∧ w'.cell? ⟨g, o + 1, none⟩ = some (.int .i64 b0)) (by kernel_rfl) ⟨hc0, hc1⟩ (fun hHeld => ?_)
      refine takeY 0 10 (v := ?_) rfl rfl (by kernel_rfl) (by kernel_rfl) (by kernel_rfl) (fun _ _ _ h => h) (by kernel_rfl) ?_ (by assumption) ?_
      rotate_left 1
      · intro w hSw; (try dsimp only at hSw); go_simp; (try with_reducible rfl)
      try simp only [Act.put, List.setIfInBounds_toArray, List.set_cons_zero, List.set_cons_succ]
      refine takeY 1 11 (v := ?_) rfl rfl (by kernel_rfl) (by kernel_rfl) (by kernel_rfl) (fun _ _ _ h => h) (by kernel_rfl) ?_ (by assumption) ?_
      rotate_left 1
      · intro w hSw; (try dsimp only at hSw); go_simp; (try with_reducible rfl)
      try simp only [Act.put, List.setIfInBounds_toArray, List.set_cons_zero, List.set_cons_succ]
      refine takeY 2 12 (v := .bool false) rfl rfl (by kernel_rfl) (by kernel_rfl) (by kernel_rfl) (fun _ _ _ h => h) (by kernel_rfl) ?_ (by assumption) ?_
      · intro w hSw; (try dsimp only at hSw); go_simp; first | done | (with_reducible rfl) | (simp; omega)
      try simp only [Act.put, List.setIfInBounds_toArray, List.set_cons_zero, List.set_cons_succ]
      refine takeY 3 13 (v := ?_) rfl rfl (by kernel_rfl) (by kernel_rfl) (by kernel_rfl) (fun _ _ _ h => h) (by kernel_rfl) ?_ (by assumption) ?_
      rotate_left 1
      · intro w hSw; (try dsimp only at hSw); go_simp; (try with_reducible rfl)
      try simp only [Act.put, List.setIfInBounds_toArray, List.set_cons_zero, List.set_cons_succ]
      refine takeY 4 14 (v := ?_) rfl rfl (by kernel_rfl) (by kernel_rfl) (by kernel_rfl) (fun _ _ _ h => h) (by kernel_rfl) ?_ (by assumption) ?_
      rotate_left 1
      · intro w hSw; (try dsimp only at hSw); go_simp; (try with_reducible rfl)
      try simp only [Act.put, List.setIfInBounds_toArray, List.set_cons_zero, List.set_cons_succ]
      refine takeY 5 15 (v := ?_) rfl rfl (by kernel_rfl) (by kernel_rfl) (by kernel_rfl) (fun _ _ _ h => h) (by kernel_rfl) ?_ (by assumption) ?_
      rotate_left 1
      · intro w hSw; (try dsimp only at hSw); go_simp; (try with_reducible rfl)
      try simp only [Act.put, List.setIfInBounds_toArray, List.set_cons_zero, List.set_cons_succ]
      refine takeY 6 16 (v := ?_) rfl rfl (by kernel_rfl) (by kernel_rfl) (by kernel_rfl) (fun _ _ _ h => h) (by kernel_rfl) ?_ (by assumption) ?_
      rotate_left 1
      · intro w hSw; (try dsimp only at hSw); go_simp; (try with_reducible rfl)
      try simp only [Act.put, List.setIfInBounds_toArray, List.set_cons_zero, List.set_cons_succ]
      refine takeY 7 17 (v := ?_) rfl rfl (by kernel_rfl) (by kernel_rfl) (by kernel_rfl) (fun _ _ _ h => h) (by kernel_rfl) ?_ (by assumption) ?_
      rotate_left 1
      · intro w hSw; (try dsimp only at hSw); go_simp; (try with_reducible rfl)
      try simp only [Act.put, List.setIfInBounds_toArray, List.set_cons_zero, List.set_cons_succ]
      refine takeY 8 18 (v := ?_) rfl rfl (by kernel_rfl) (by kernel_rfl) (by kernel_rfl) (fun _ _ _ h => h) (by kernel_rfl) ?_ (by assumption) ?_
      rotate_left 1
      · intro w hSw; (try dsimp only at hSw); go_simp; (try with_reducible rfl)
      try simp only [Act.put, List.setIfInBounds_toArray, List.set_cons_zero, List.set_cons_succ]
      refine takeY 9 19 (v := ?_) rfl rfl (by kernel_rfl) (by kernel_rfl) (by kernel_rfl) (fun _ _ _ h => h) (by kernel_rfl) ?_ (by assumption) ?_
      rotate_left 1
      · intro w hSw; (try dsimp only at hSw); go_simp; (try with_reducible rfl)
      try simp only [Act.put, List.setIfInBounds_toArray, List.set_cons_zero, List.set_cons_succ]
      refine takeY 10 20 (v := .bool false) rfl rfl (by kernel_rfl) (by kernel_rfl) (by kernel_rfl) (fun _ _ _ h => h) (by kernel_rfl) ?_ (by assumption) ?_
      · intro w hSw; (try dsimp only at hSw); go_simp; first | done | (with_reducible rfl) | (simp; omega)
      try simp only [Act.put, List.setIfInBounds_toArray, List.set_cons_zero, List.set_cons_succ]
      refine takeY 11 21 (v := ?_) rfl rfl (by kernel_rfl) (by kernel_rfl) (by kernel_rfl) (fun _ _ _ h => h) (by kernel_rfl) ?_ (by assumption) ?_
      rotate_left 1
      · intro w hSw; (try dsimp only at hSw); go_simp; (try with_reducible rfl)
      try simp only [Act.put, List.setIfInBounds_toArray, List.set_cons_zero, List.set_cons_succ]
      refine takeY 12 22 (v := ?_) rfl rfl (by kernel_rfl) (by kernel_rfl) (by kernel_rfl) (fun _ _ _ h => h) (by kernel_rfl) ?_ (by assumption) ?_
      rotate_left 1
      · intro w hSw; (try dsimp only at hSw); go_simp; (try with_reducible rfl)
      try simp only [Act.put, List.setIfInBounds_toArray, List.set_cons_zero, List.set_cons_succ]
      refine takeY 13 23 (v := ?_) rfl rfl (by kernel_rfl) (by kernel_rfl) (by kernel_rfl) (fun _ _ _ h => h) (by kernel_rfl) ?_ (by assumption) ?_
      rotate_left 1
      · intro w hSw; (try dsimp only at hSw); go_simp; (try with_reducible rfl)
      try simp only [Act.put, List.setIfInBounds_toArray, List.set_cons_zero, List.set_cons_succ]
      refine wpAnyH_ready (rs := [14]) (by kernel_rfl) (by simp) ?_
      refine AllReadyH.cons rfl (fun K hK => ?_) AllReadyH.nil
      go_simp
      refine (descends_drew _ (z0 :: b0 :: r) _ true HRD.out (by rw [HL.out]; exact hn) HW.out HD.out).mono ?_
      rintro e w1 ⟨rfl, hb1⟩
      refine hK.out _ _ (⟨(hb1.cell (p := ⟨g, o, none⟩) hgw0).trans hc0, (hb1.cell (p := ⟨g, o + 1, none⟩) hgw0).trans hc1⟩) (fun hHeld => ?_)
      clear hK K
      try simp only [Act.put, List.setIfInBounds_toArray, List.set_cons_zero, List.set_cons_succ]
      refine takeY 15 25 (v := ?_) rfl rfl (by kernel_rfl) (by kernel_rfl) (by kernel_rfl) (fun _ _ _ h => h) (by kernel_rfl) ?_ (by assumption) ?_
      rotate_left 1
      · intro w hSw; (try dsimp only at hSw); go_simp; (try with_reducible rfl)
      try simp only [Act.put, List.setIfInBounds_toArray, List.set_cons_zero, List.set_cons_succ]
      refine takeY 16 26 (v := ?_) rfl rfl (by kernel_rfl) (by kernel_rfl) (by kernel_rfl) (fun _ _ _ h => h) (by kernel_rfl) ?_ (by assumption) ?_
      rotate_left 1
      · intro w hSw; (try dsimp only at hSw); go_simp; (try with_reducible rfl)
      try simp only [Act.put, List.setIfInBounds_toArray, List.set_cons_zero, List.set_cons_succ]
      refine wpAnyH_done (by kernel_rfl) ?_ _
      have hg1 : w1.cell? ⟨g, o, none⟩ = some (.int .i64 z0) := (hb1.cell (p := ⟨g, o, none⟩) hgw0).trans hc0
      have hg2 : w1.cell? ⟨g, o + 1, none⟩ = some (.int .i64 b0) := (hb1.cell (p := ⟨g, o + 1, none⟩) hgw0).trans hc1
      have B1 := Lib.hid hb1
      have hsz1 := hb1.size
      clear hb1 l2 l3 l4 hc0 hc1
      go_wp2_with fail
      go_quiet (fail)
      obtain ⟨W1, hW1⟩ : ∃ W, W = w1.drewN nq := ⟨_, rfl⟩
      have BW1 : Hid (Below W0.heap.size W0 W1) := Lib.hid (by rw [hW1]; exact below_drewN B1.out nq)
      have hsW1 : w1.heap.size = W1.heap.size := by rw [hW1]; rfl
      have HW1c : Hid (∀ i, W1.cell? ((⟨g, o + 2, none⟩ : Addr).add i) = W0.cell? ((⟨g, o + 2, none⟩ : Addr).add i)) := Lib.hid (fun i => BW1.out.cell (by rw [add_block]; exact hgw0))
      have TL : Hid (tuL (z0 :: b0 :: r) = b0 :: ([z0] ++ (r.drop 0).map fun z => z + z0 - b0)) := Lib.hid (by rw [List.drop_zero]; exact TL0.out)
      rw [← hW1]
      clear hW1 hg1 hg2
      go_wp2_with (at_builtin; go_loud (refine wpList_append_own _ rfl _ _ 24 rfl W1.heap.size 2 i0 (.int .i64 0) 1 8 Try.underlying24 hi0 hy0 hy1 hy2 rfl ?_ _ 0 [] rfl (World.ownsRow.alloc (Own.nil W1 W1.heap.size) _) ⟨W1.heap.size, 0, none⟩ 1 1 [.int .i64 z0] rfl rfl ?_ ?_ ?_ ?_ ?_ ?_; (decide); (exact World.news_of_block (cs := #[.int .i64 z0]) (t := 2) (fr := (0, 0)) (heap_alloc_new W1 _)); (simp [Value.oneCell']); (simp only [maxLen]; omega); (omega); (simp); intro v1 w2 hown1 hgrow _; obtain ⟨A2, c2, rfl⟩ := own_form hown1; have HO : Hid (OwnI w2 W1.heap.size w2.heap.size (.slice A2 (0 + 1) c2) [z0]) := Lib.hid (OwnI.mk' (n := 0 + 1) hown1); have hb1 : Below W1.heap.size W1 w2 := (below_box W1 _).grown hgrow (by simp) (fun k hk => by cases hk); have HBL := Lib.hid hb1; clear hown1 hgrow hb1))
      go_loopw [6, 45] (fun vo vi wr => ∃ (k l : Nat) (L : List Int) (A' : Option Addr) (c' : Nat), k ≤ n ∧ l ≤ k + 1 ∧ vo = .slice A' l c' ∧ vi = .int .i64 k ∧ Hid (L.length = l) ∧ Hid (tuL (z0 :: b0 :: r) = b0 :: (L ++ (r.drop k).map fun z => z + z0 - b0)) ∧ Hid (OwnI wr W1.heap.size wr.heap.size (.slice A' l c') L) ∧ Hid (Below W1.heap.size W1 wr)) (fun _ vi _ => n - (intOf vi).toNat)
      case atStart => exact ⟨0, 1, [z0], _, _, by omega, by omega, rfl, rfl, Lib.hid rfl, TL, HO, HBL⟩
      case round =>
        clear HO HBL TL
        obtain ⟨k, l, L, A', c', hk, hl, rfl, rfl, hL, hg, ho, hb⟩ := hrel
        have hszw := hb.out.size
        by_cases hlt : k < n
        · obtain ⟨a, e1, hal, hcell0⟩ := HT.out.2 k hlt
          cases e1
          have hz := HZ.out (r[k]?.getD 0) (by have := HLr.out; simp [show k < r.length by omega])
          have HM := Lib.hid (tu_map (z0 := z0) (b0 := b0) HLr.out hlt)
          have hcell : wr.cell? ⟨g, o + 2 + k, none⟩ = some (.int .i64 (r[k]?.getD 0)) := by
            rw [← add_lit, hb.out.cell (by rw [add_block]; show g < _; omega), HW1c.out]; simpa using hcell0
          generalize r[k]?.getD 0 = z at *
          have hkn : (k : Int) < (n : Int) := by omega
          have hk9 : (0 : Int) ≤ (k : Int) := by omega
          have p1 : IntKind.i64.wrap (z + z0) = z + z0 := IntWalk.i64_in _ (by omega)
          have p2 : IntKind.i64.wrap (z + z0 - b0) = z + z0 - b0 := IntWalk.i64_in _ (by omega)
          have HG : Hid (tuL (z0 :: b0 :: r) = b0 :: ((L ++ [z + z0 - b0]) ++ (r.drop (k + 1)).map fun z => z + z0 - b0)) := Lib.hid (by rw [hg.out, HM.out]; simp)
          have HOw : Hid (Own wr W1.heap.size (.slice A' l c') l (L.map (.int .i64))) := Lib.hid (ho.out.ow hL.out)
          clear hcell0
          go_wp2_with (at_builtin; go_loud (refine wpList_append_own _ rfl _ _ 24 rfl W1.heap.size 2 i0 (.int .i64 0) 1 8 Try.underlying24 hi0 hy0 hy1 hy2 rfl ?_ _ l (L.map (.int .i64)) rfl (World.ownsRow.alloc HOw.out _) ⟨wr.heap.size, 0, none⟩ 1 1 [.int .i64 (z + z0 - b0)] rfl rfl ?_ ?_ ?_ ?_ ?_ ?_; (decide); (exact World.news_of_block (cs := #[.int .i64 (z + z0 - b0)]) (t := 2) (fr := (0, 0)) (heap_alloc_new wr _)); (simp [Value.oneCell']); (simp only [maxLen]; omega); (omega); (simp; omega); intro v1 w2 hown1 hgrow _; obtain ⟨A2, c2, rfl⟩ := own_form hown1; have HO1 : Hid (OwnI w2 W1.heap.size w2.heap.size (.slice A2 (l + 1) c2) (L ++ [z + z0 - b0])) := Lib.hid (OwnI.mk' (n := l + 1) (by rw [List.map_append]; exact hown1)); have hb1 : Below W1.heap.size W1 w2 := (hb.out.alloc hb.out.size _).grown hgrow (by simp; omega) (fun k hk => (Own.lt ho.out.1 k hk).1); have HB1 := Lib.hid hb1; clear hown1 hgrow hb1))
          go_roundw
          case rel => exact ⟨k + 1, l + 1, L ++ [z + z0 - b0], A2, c2, by omega, by omega, rfl, by go_num, Lib.hid (by simp [hL.out]), HG, HO1, HB1⟩
          case measure => simp [intOf]; omega
        · obtain rfl : k = n := by omega
          have HX : Hid (tuL (z0 :: b0 :: r) = b0 :: L) := Lib.hid (by rw [hg.out, drop_end HLr.out (Nat.le_refl _)]; simp)
          have RD : Hid (ReadI wr wr.heap.size (.slice A' l c') L) := Lib.hid ho.out.reads
          go_wp2_with fail
          refine (branchWith_any b0 _ L wr RD.out (by rw [hL.out]; omega)).mono ?_
          rintro e w4 ⟨v4, rfl, ho4, hb4⟩
          obtain ⟨A4, c4, rfl⟩ := ho4.form (n := l + 1) (by simp [hL.out])
          obtain ⟨W4, HE4⟩ : ∃ W, W = w4.alloc (.cells #[.slice A4 (l + 1) c4] 26) := ⟨_, rfl⟩
          have hb5 : Below w4.heap.size w4 W4 := by rw [HE4]; exact below_box _ _
          have hq5 : BoxI W4 w4.heap.size (.slice A4 (l + 1) c4) := by rw [HE4]; exact BoxI.new _ _ _
          have hbw4 : Below W1.heap.size W1 W4 := (hb.out.trans (hb4.mono (by omega))).trans (hb5.mono (by have := hb4.size; omega))
          have O5 : Hid (OwnI W4 wr.heap.size w4.heap.size (.slice A4 (l + 1) c4) (b0 :: L)) := Lib.hid (ho4.kept (Kept.of_below hb5 (Nat.le_refl _)))
          have B5 := Lib.hid hbw4
          have R5 : Hid (ReadI W4 W4.heap.size (.slice A4 (l + 1) c4) (b0 :: L)) := Lib.hid ((ho4.kept (Kept.of_below hb5 (Nat.le_refl _))).reads)
          have HE4' := Lib.hid HE4
          have hq50 := hq5.1
          have hlt5 := hq5.2
          have HWL : Hid (∀ z ∈ b0 :: L, (Lit.int .i64 z).wf = true) := Lib.hid (by rw [← HX.out]; exact (tu_wf OK.out).2.2)
          have hs4 := hb4.size
          have hs5 := hb5.size
          clear ho4 hb4 hb5 hq5 hbw4 HE4
          go_wp2_with fail
          rw [← HE4'.out]
          cases hp : brB (b0 :: L)
          · have E := Lib.hid (tu_none OK.out (by rw [HX.out]; exact hp))
            refine (implIsBranch_if _ (b0 :: L) W4 false R5.out (by simp [hL.out]; omega) HWL.out hp).mono ?_
            rintro e w6 ⟨rfl, hb6⟩
            obtain ⟨l2, l3, l4⟩ := S0.out.later (BW1.out.trans ((B5.out.trans (hb6.mono (by omega))).mono (by omega)))
            have B6 := Lib.hid (S0.out.below.trans ((BW1.out.trans ((B5.out.trans (hb6.mono (by omega))).mono (by omega))).mono (by omega)))
            clear hb6 hp
            go_wp2_with fail
            have cr : (w6.setCell ⟨w.heap.size, 0, none⟩ (.slice none 0 0)).cell? ⟨w.heap.size, 0, none⟩ = some (.slice none 0 0) := by go_simp
            refine bodyPost_ret (v := .tuple #[.agg #[.slice none 0 0], .int .i64 5]) (by simp [results, Try.results48, go_sem, cr]) rfl ?_
            exact ansR_endG _ (Nat.le_refl _) E.out.1.symm E.out.2.symm (OwnI.nil _ _) (by intro h; cases h) B6.out _
          · have E := Lib.hid (tu_yes OK.out (by rw [HX.out]; exact hp))
            refine (implIsBranch_if _ (b0 :: L) W4 true R5.out (by simp [hL.out]; omega) HWL.out hp).mono ?_
            rintro e w6 ⟨rfl, hb6⟩
            obtain ⟨l2, l3, l4⟩ := S0.out.later (BW1.out.trans ((B5.out.trans (hb6.mono (by omega))).mono (by omega)))
            have B6 := Lib.hid (S0.out.below.trans ((BW1.out.trans ((B5.out.trans (hb6.mono (by omega))).mono (by omega))).mono (by omega)))
            have hc6 : w6.cell? ⟨w4.heap.size, 0, none⟩ = some (.slice A4 (l + 1) c4) := by rw [hb6.cell (p := ⟨w4.heap.size, 0, none⟩) hlt5]; exact hq50
            have O6 : Hid (OwnI w6 wr.heap.size w4.heap.size (.slice A4 (l + 1) c4) (b0 :: L)) := Lib.hid (O5.out.kept (Kept.of_below hb6 (by omega)))
            have hs6 := hb6.size
            clear hb6 hp
            go_wp2_with fail
            have cr : (w6.setCell ⟨w.heap.size, 0, none⟩ (.slice A4 (l + 1) c4)).cell? ⟨w.heap.size, 0, none⟩ = some (.slice A4 (l + 1) c4) := by go_simp
            refine bodyPost_ret (v := .tuple #[.agg #[.slice A4 (l + 1) c4], .int .i64 0]) (by simp [results, Try.results48, go_sem, cr]) rfl ?_
            have hne2 : (Value.slice A4 (l + 1) c4).ownBlock ≠ some w.heap.size := by
              intro h
              have h2 := (O6.out.1.lt w.heap.size h).1
              omega
            exact ansR_endG _ (Nat.le_refl _) (by rw [E.out.1, HX.out]) E.out.2.symm ((own_lessB O6.out (by omega)).raise (by omega) (Nat.le_refl _)) hne2 B6.out _
end Go.Proofs.Ytlidleaigjemnaa
