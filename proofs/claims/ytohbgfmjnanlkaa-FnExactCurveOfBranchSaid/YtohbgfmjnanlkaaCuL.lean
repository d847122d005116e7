/- Triangular tables of meetings, the program's. Conditions: stated at each theorem. -/
import Derived.Test.YtohbgfmjnanlkaaCuJ
namespace Go.Proofs.Ytohbgfmjnanlkaa
open Go.ChangeShapes Go.WideShapes Go.ChangeAt Go.RowKit Go.Deep
set_option linter.unusedVariables false
set_option linter.unusedSimpArgs false

/-- The first T cells of a table are read: points P and numbers Q. -/
def MtT (w : World) (B : Nat) (A : Option Addr) (T : Nat) (P Q : Nat → Int) : Prop := ∀ t, t < T → ∃ g, A = some ⟨g, 0, none⟩ ∧ g < B ∧ w.cell? ⟨g, t * 2, none⟩ = some (.int .i64 (P t)) ∧ w.cell? ⟨g, t * 2 + 1, none⟩ = some (.int .i64 (Q t))
theorem MtT.below {w w' : World} {B T : Nat} {A : Option Addr} {P Q : Nat → Int} (h : MtT w B A T P Q) (hb : Below B w w') : MtT w' B A T P Q := fun t ht => by
  obtain ⟨g, e, hg, h1, h2⟩ := h t ht
  exact ⟨g, e, hg, by rw [hb.cell (p := ⟨g, t * 2, none⟩) hg]; exact h1, by rw [hb.cell (p := ⟨g, t * 2 + 1, none⟩) hg]; exact h2⟩
theorem MtT.more {w : World} {B B' T : Nat} {A : Option Addr} {P Q : Nat → Int} (h : MtT w B A T P Q) (hB : B ≤ B') : MtT w B' A T P Q := fun t ht => by
  obtain ⟨g, e, hg, h1, h2⟩ := h t ht
  exact ⟨g, e, by omega, h1, h2⟩
theorem tO_two {r i : Nat} (hr : r ≤ 6) (h : i < r) : (i : Int) * (2 * (r : Int) - (i : Int) - 1) = 2 * (tO r i : Int) ∧ tO r i ≤ 15 := by
  have : ∀ r : Nat, r < 7 → ∀ i : Nat, i < r → ((i : Int) * (2 * (r : Int) - (i : Int) - 1) = 2 * (tO r i : Int) ∧ tO r i ≤ 15) := by decide
  exact this r (by omega) i h

set_option maxRecDepth 100000 in
set_option maxHeartbeats 800000 in
theorem at_le (A : Option Addr) (T c r i k : Nat) (P Q : Nat → Int) (x y : Int) (w : World) (h : MtT w w.heap.size A T P Q) (hT : T = r * (r - 1) / 2) (hr : r ≤ 6) (hik : i < k) (hk : k < r) (a b : Nat) (hab : (a = i ∧ b = k) ∨ (a = k ∧ b = i)) (hx : P (tX r i k) = x) (hy : Q (tX r i k) = y) :
    Calls Try.prog 107 #[.agg #[.int .i64 r, .slice A T c], .int .i64 a, .int .i64 b] w fun e w' => e = .returned (.agg #[.int .i64 x, .int .i64 y]) ∧ Below w.heap.size w w' := by
  have htl := tX_lt hr hik hk
  obtain ⟨g, rfl, hg, h1, h2⟩ := h (tX r i k) (by omega)
  have hto := tO_two hr (show i < r by omega)
  have hq : Int.tdiv (2 * (tO r i : Int)) 2 = (tO r i : Int) := by rw [Int.tdiv_eq_ediv_of_nonneg (by omega)]; omega
  have hd : tX r i k = tO r i + (k - i - 1) := rfl
  obtain ⟨W0, HE⟩ : ∃ V, V = (w.alloc (.cells #[.int .i64 r, .slice (some ⟨g, 0, none⟩) T c] 107)).alloc (.cells #[.int .i64 0, .int .i64 0] 118) := ⟨_, rfl⟩
  have hb0 : Below w.heap.size w W0 := by rw [HE]; exact (below_box2 _ _).alloc (by simp) _
  have hz : UBox W0 (w.heap.size + 1) (.int .i64 0) (.int .i64 0) := by
    have := UBox.new (w.alloc (.cells #[.int .i64 r, .slice (some ⟨g, 0, none⟩) T c] 107)) (.int .i64 0) (.int .i64 0) 118
    rw [HE]; simpa using this
  obtain ⟨t, ht⟩ : ∃ t, tX r i k = t := ⟨_, rfl⟩
  rw [hx] at h1; rw [hy] at h2
  rw [ht] at h1 h2 htl hd
  have d1 : W0.cell? ⟨g, t * 2, none⟩ = some (.int .i64 x) := by rw [hb0.cell (p := ⟨g, t * 2, none⟩) hg]; exact h1
  have d2 : W0.cell? ⟨g, t * 2 + 1, none⟩ = some (.int .i64 y) := by rw [hb0.cell (p := ⟨g, t * 2 + 1, none⟩) hg]; exact h2
  rw [HE] at d1 d2
  have p1 : IntKind.i64.wrap (2 * (r : Int)) = 2 * (r : Int) := IntWalk.i64_in _ (by omega)
  have p2 : IntKind.i64.wrap (2 * (r : Int) - (i : Int)) = 2 * (r : Int) - (i : Int) := IntWalk.i64_in _ (by omega)
  have p3 : IntKind.i64.wrap (2 * (r : Int) - (i : Int) - 1) = 2 * (r : Int) - (i : Int) - 1 := IntWalk.i64_in _ (by omega)
  have p4 : IntKind.i64.wrap ((i : Int) * (2 * (r : Int) - (i : Int) - 1)) = 2 * (tO r i : Int) := by rw [hto.1]; exact IntWalk.i64_in _ (by omega)
  have p5 : IntKind.i64.wrap (Int.tdiv (2 * (tO r i : Int)) 2) = (tO r i : Int) := by rw [hq]; exact IntWalk.i64_in _ (by omega)
  have p6 : IntKind.i64.wrap ((tO r i : Int) + (k : Int)) = (tO r i : Int) + (k : Int) := IntWalk.i64_in _ (by omega)
  have p7 : IntKind.i64.wrap ((tO r i : Int) + (k : Int) - (i : Int)) = (tO r i : Int) + (k : Int) - (i : Int) := IntWalk.i64_in _ (by omega)
  have p8 : IntKind.i64.wrap ((tO r i : Int) + (k : Int) - (i : Int) - 1) = (t : Int) := by rw [IntWalk.i64_in _ (by omega)]; omega
  have p5' : IntKind.i64.wrap (tO r i : Int) = (tO r i : Int) := IntWalk.i64_in _ (by omega)
  have htT : (t : Int) < (T : Int) := by omega
  have HB := Lib.hid hb0; have HZ := Lib.hid hz; have HEQ := Lib.hid HE
  have e1 : ¬ (i : Int) > (k : Int) := by omega
  have e2 : (k : Int) > (i : Int) := by omega
  clear h h1 h2 hx hy hb0 hz HE hT hto hq hd ht
  have cr := UBox.new (w.alloc (.cells #[.int .i64 r, .slice (some ⟨g, 0, none⟩) T c] 107)) (.int .i64 x) (.int .i64 y) 118
  rw [World.size_alloc] at cr
  have cr0 := cr.c0; have cr1 := cr.c1
  rcases hab with ⟨rfl, rfl⟩ | ⟨rfl, rfl⟩
  all_goals
    go_enter Try.func107, Try.ntmps107
    go_wp2_with fail
    refine bodyPost_ret (v := .agg #[.int .i64 x, .int .i64 y]) (by simp [results, Try.results107, go_sem, cr0, cr1]) rfl ⟨rfl, (below_box2 _ _).alloc (by simp) _⟩

set_option maxRecDepth 100000 in
set_option maxHeartbeats 800000 in
theorem indexM_any (A : Option Addr) (T c : Nat) (P Q : Nat → Int) (w : World) (h : MtT w w.heap.size A T P Q) (hT : T ≤ 15) :
    Calls Try.prog 182 #[.slice A T c, .agg #[.int .i64 0, .int .i64 0]] w fun e w' => (((∃ t, t < T ∧ P t = 0 ∧ Q t = 0) ∧ ∃ k : Nat, e = .returned (.int .i64 k)) ∨ ((∀ t, t < T → ¬ (P t = 0 ∧ Q t = 0)) ∧ e = .returned (.int .i64 (-1)))) ∧ Below w.heap.size w w' := by
  obtain ⟨W0, HE⟩ : ∃ V, V = w.alloc (.cells #[.int .i64 0, .int .i64 0] 118) := ⟨_, rfl⟩
  have hb0 : Below w.heap.size w W0 := by rw [HE]; exact below_box2 _ _
  have hz : UBox W0 w.heap.size (.int .i64 0) (.int .i64 0) := by rw [HE]; exact UBox.new _ _ _ _
  have HM := Lib.hid (h.below hb0)
  have HB := Lib.hid hb0; have HZ := Lib.hid hz; have HEQ := Lib.hid HE
  clear h hb0 hz HE
  go_enter Try.func182, Try.ntmps182
  go_wp2_with fail
  rw [← HEQ.out]
  go_loopw [8] (fun vi wr => ∃ (t d : Nat), t ≤ T ∧ vi = .int .i64 t ∧ wr = W0.drewN d ∧ Hid (∀ t', t' < t → ¬ (P t' = 0 ∧ Q t' = 0))) (fun vi _ => T - (intOf vi).toNat)
  case atStart => exact ⟨0, 0, by omega, rfl, rfl, Lib.hid (fun t' h' => by omega)⟩
  case round =>
    obtain ⟨t, d, ht, rfl, rfl, hno⟩ := hrel
    by_cases htT : t < T
    · obtain ⟨g, rfl, hg, h1, h2⟩ := HM.out t htT
      have htT2 : (t : Int) < (T : Int) := by omega
      have z0 : (W0.drewN d).cell? ⟨w.heap.size, 0, none⟩ = some (.int .i64 0) := HZ.out.c0
      have z1 : (W0.drewN d).cell? ⟨w.heap.size, 1, none⟩ = some (.int .i64 0) := HZ.out.c1
      have d1 : (W0.drewN d).cell? ⟨g, t * 2, none⟩ = some (.int .i64 (P t)) := h1
      have d2 : (W0.drewN d).cell? ⟨g, t * 2 + 1, none⟩ = some (.int .i64 (Q t)) := h2
      obtain ⟨x, hx⟩ : ∃ x, P t = x := ⟨_, rfl⟩
      obtain ⟨y, hy⟩ : ∃ y, Q t = y := ⟨_, rfl⟩
      have HX := Lib.hid hx; have HY := Lib.hid hy
      rw [hx] at d1; rw [hy] at d2
      clear h1 h2 hx hy
      by_cases hxy : x = 0 ∧ y = 0
      · obtain ⟨rfl, rfl⟩ := hxy
        go_wp2_with fail
        refine wp_region_held_drew (S := fun w' => w'.cell? ⟨w.heap.size, 0, none⟩ = some (.int .i64 0) ∧ w'.cell? ⟨w.heap.size, 1, none⟩ = some (.int .i64 0) ∧ w'.cell? ⟨g, t * 2, none⟩ = some (.int .i64 0) ∧ w'.cell? ⟨g, t * 2 + 1, none⟩ = some (.int .i64 0)) (by kernel_rfl) ⟨z0, z1, d1, d2⟩ (fun hHeld => ?_)
        refine takeY 0 _ (v := ?_) rfl rfl (by kernel_rfl) (by kernel_rfl) (by kernel_rfl) (fun _ _ _ h => h) (by kernel_rfl) ?_ (by assumption) ?_
        rotate_left 1
        · intro w hSw; (try dsimp only at hSw); go_simp; (try with_reducible rfl)
        try simp only [Act.put, List.setIfInBounds_toArray, List.set_cons_zero, List.set_cons_succ]
        refine takeY 1 _ (v := ?_) rfl rfl (by kernel_rfl) (by kernel_rfl) (by kernel_rfl) (fun _ _ _ h => h) (by kernel_rfl) ?_ (by assumption) ?_
        rotate_left 1
        · intro w hSw; (try dsimp only at hSw); go_simp; (try with_reducible rfl)
        try simp only [Act.put, List.setIfInBounds_toArray, List.set_cons_zero, List.set_cons_succ]
        refine takeY 2 _ (v := ?_) rfl rfl (by kernel_rfl) (by kernel_rfl) (by kernel_rfl) (fun _ _ _ h => h) (by kernel_rfl) ?_ (by assumption) ?_
        rotate_left 1
        · intro w hSw; (try dsimp only at hSw); go_simp; (try with_reducible rfl)
        try simp only [Act.put, List.setIfInBounds_toArray, List.set_cons_zero, List.set_cons_succ]
        refine takeY 3 _ (v := ?_) rfl rfl (by kernel_rfl) (by kernel_rfl) (by kernel_rfl) (fun _ _ _ h => h) (by kernel_rfl) ?_ (by assumption) ?_
        rotate_left 1
        · intro w hSw; (try dsimp only at hSw); go_simp; (try with_reducible rfl)
        try simp only [Act.put, List.setIfInBounds_toArray, List.set_cons_zero, List.set_cons_succ]
        refine takeY 4 _ (v := ?_) rfl rfl (by kernel_rfl) (by kernel_rfl) (by kernel_rfl) (fun _ _ _ h => h) (by kernel_rfl) ?_ (by assumption) ?_
        rotate_left 1
        · intro w hSw; (try dsimp only at hSw); go_simp; (try with_reducible rfl)
        try simp only [Act.put, List.setIfInBounds_toArray, List.set_cons_zero, List.set_cons_succ]
        refine takeY 5 _ (v := ?_) rfl rfl (by kernel_rfl) (by kernel_rfl) (by kernel_rfl) (fun _ _ _ h => h) (by kernel_rfl) ?_ (by assumption) ?_
        rotate_left 1
        · intro w hSw; (try dsimp only at hSw); go_simp; (try with_reducible rfl)
        try simp only [Act.put, List.setIfInBounds_toArray, List.set_cons_zero, List.set_cons_succ]
        refine wpAnyH_done (by kernel_rfl) ?_ _
        go_wp2_with fail
        go_ret
        exact ⟨Or.inl ⟨⟨t, htT, HX.out, HY.out⟩, t, rfl⟩, HB.out.trans (drewN_below W0 (d + 1))⟩
      · have t1 : ((0 : Int) == x && (0 : Int) == y) = false := by
          cases e : ((0 : Int) == x && (0 : Int) == y) with
          | false => rfl
          | true => exfalso; apply hxy; simp at e; omega
        have HNN : Hid (∀ t', t' < t + 1 → ¬ (P t' = 0 ∧ Q t' = 0)) := Lib.hid (fun t' h' => by
          by_cases e : t' = t
          · subst e; rw [HX.out, HY.out]; exact hxy
          · exact hno.out t' (by omega))
        clear t1
        by_cases hx0 : x = 0
        · subst hx0
          have t2 : ¬ (0 : Int) = y := fun e => hxy ⟨rfl, e.symm⟩
          clear hxy
          go_wp2_with fail
          refine wp_region_held_drew (S := fun w' => w'.cell? ⟨w.heap.size, 0, none⟩ = some (.int .i64 0) ∧ w'.cell? ⟨w.heap.size, 1, none⟩ = some (.int .i64 0) ∧ w'.cell? ⟨g, t * 2, none⟩ = some (.int .i64 0) ∧ w'.cell? ⟨g, t * 2 + 1, none⟩ = some (.int .i64 y)) (by kernel_rfl) ⟨z0, z1, d1, d2⟩ (fun hHeld => ?_)
          refine takeY 0 _ (v := ?_) rfl rfl (by kernel_rfl) (by kernel_rfl) (by kernel_rfl) (fun _ _ _ h => h) (by kernel_rfl) ?_ (by assumption) ?_
          rotate_left 1
          · intro w hSw; (try dsimp only at hSw); go_simp; (try with_reducible rfl)
          try simp only [Act.put, List.setIfInBounds_toArray, List.set_cons_zero, List.set_cons_succ]
          refine takeY 1 _ (v := ?_) rfl rfl (by kernel_rfl) (by kernel_rfl) (by kernel_rfl) (fun _ _ _ h => h) (by kernel_rfl) ?_ (by assumption) ?_
          rotate_left 1
          · intro w hSw; (try dsimp only at hSw); go_simp; (try with_reducible rfl)
          try simp only [Act.put, List.setIfInBounds_toArray, List.set_cons_zero, List.set_cons_succ]
          refine takeY 2 _ (v := ?_) rfl rfl (by kernel_rfl) (by kernel_rfl) (by kernel_rfl) (fun _ _ _ h => h) (by kernel_rfl) ?_ (by assumption) ?_
          rotate_left 1
          · intro w hSw; (try dsimp only at hSw); go_simp; (try with_reducible rfl)
          try simp only [Act.put, List.setIfInBounds_toArray, List.set_cons_zero, List.set_cons_succ]
          refine takeY 3 _ (v := ?_) rfl rfl (by kernel_rfl) (by kernel_rfl) (by kernel_rfl) (fun _ _ _ h => h) (by kernel_rfl) ?_ (by assumption) ?_
          rotate_left 1
          · intro w hSw; (try dsimp only at hSw); go_simp; (try with_reducible rfl)
          try simp only [Act.put, List.setIfInBounds_toArray, List.set_cons_zero, List.set_cons_succ]
          refine takeY 4 _ (v := ?_) rfl rfl (by kernel_rfl) (by kernel_rfl) (by kernel_rfl) (fun _ _ _ h => h) (by kernel_rfl) ?_ (by assumption) ?_
          rotate_left 1
          · intro w hSw; (try dsimp only at hSw); go_simp; (try with_reducible rfl)
          try simp only [Act.put, List.setIfInBounds_toArray, List.set_cons_zero, List.set_cons_succ]
          refine takeY 5 _ (v := ?_) rfl rfl (by kernel_rfl) (by kernel_rfl) (by kernel_rfl) (fun _ _ _ h => h) (by kernel_rfl) ?_ (by assumption) ?_
          rotate_left 1
          · intro w hSw; (try dsimp only at hSw); go_simp; (try with_reducible rfl)
          try simp only [Act.put, List.setIfInBounds_toArray, List.set_cons_zero, List.set_cons_succ]
          refine wpAnyH_done (by kernel_rfl) ?_ _
          go_wp2_with fail
          go_roundw
          case rel => exact ⟨t + 1, d + 1, by omega, by go_num, rfl, HNN⟩
          case measure => simp [intOf]; omega
        · have t2 : ¬ (0 : Int) = x := fun e => hx0 e.symm
          clear hxy
          go_wp2_with fail
          refine wp_region_held_drew (S := fun w' => w'.cell? ⟨w.heap.size, 0, none⟩ = some (.int .i64 0) ∧ w'.cell? ⟨w.heap.size, 1, none⟩ = some (.int .i64 0) ∧ w'.cell? ⟨g, t * 2, none⟩ = some (.int .i64 x) ∧ w'.cell? ⟨g, t * 2 + 1, none⟩ = some (.int .i64 y)) (by kernel_rfl) ⟨z0, z1, d1, d2⟩ (fun hHeld => ?_)
          refine takeY 0 _ (v := ?_) rfl rfl (by kernel_rfl) (by kernel_rfl) (by kernel_rfl) (fun _ _ _ h => h) (by kernel_rfl) ?_ (by assumption) ?_
          rotate_left 1
          · intro w hSw; (try dsimp only at hSw); go_simp; (try with_reducible rfl)
          try simp only [Act.put, List.setIfInBounds_toArray, List.set_cons_zero, List.set_cons_succ]
          refine takeY 1 _ (v := ?_) rfl rfl (by kernel_rfl) (by kernel_rfl) (by kernel_rfl) (fun _ _ _ h => h) (by kernel_rfl) ?_ (by assumption) ?_
          rotate_left 1
          · intro w hSw; (try dsimp only at hSw); go_simp; (try with_reducible rfl)
          try simp only [Act.put, List.setIfInBounds_toArray, List.set_cons_zero, List.set_cons_succ]
          refine takeY 2 _ (v := ?_) rfl rfl (by kernel_rfl) (by kernel_rfl) (by kernel_rfl) (fun _ _ _ h => h) (by kernel_rfl) ?_ (by assumption) ?_
          rotate_left 1
          · intro w hSw; (try dsimp only at hSw); go_simp; (try with_reducible rfl)
          try simp only [Act.put, List.setIfInBounds_toArray, List.set_cons_zero, List.set_cons_succ]
          refine takeY 3 _ (v := ?_) rfl rfl (by kernel_rfl) (by kernel_rfl) (by kernel_rfl) (fun _ _ _ h => h) (by kernel_rfl) ?_ (by assumption) ?_
          rotate_left 1
          · intro w hSw; (try dsimp only at hSw); go_simp; (try with_reducible rfl)
          try simp only [Act.put, List.setIfInBounds_toArray, List.set_cons_zero, List.set_cons_succ]
          refine takeY 4 _ (v := ?_) rfl rfl (by kernel_rfl) (by kernel_rfl) (by kernel_rfl) (fun _ _ _ h => h) (by kernel_rfl) ?_ (by assumption) ?_
          rotate_left 1
          · intro w hSw; (try dsimp only at hSw); go_simp; (try with_reducible rfl)
          try simp only [Act.put, List.setIfInBounds_toArray, List.set_cons_zero, List.set_cons_succ]
          refine takeY 5 _ (v := ?_) rfl rfl (by kernel_rfl) (by kernel_rfl) (by kernel_rfl) (fun _ _ _ h => h) (by kernel_rfl) ?_ (by assumption) ?_
          rotate_left 1
          · intro w hSw; (try dsimp only at hSw); go_simp; (try with_reducible rfl)
          try simp only [Act.put, List.setIfInBounds_toArray, List.set_cons_zero, List.set_cons_succ]
          refine wpAnyH_done (by kernel_rfl) ?_ _
          go_wp2_with fail
          go_roundw
          case rel => exact ⟨t + 1, d + 1, by omega, by go_num, rfl, HNN⟩
          case measure => simp [intOf]; omega
    · obtain rfl : t = T := by omega
      go_wp2_with fail
      go_ret
      exact ⟨Or.inr ⟨hno.out, rfl⟩, HB.out.trans (drewN_below _ _)⟩

set_option maxRecDepth 100000 in
set_option maxHeartbeats 800000 in
theorem containsM_any (A : Option Addr) (T c : Nat) (P Q : Nat → Int) (bb : Bool) (w : World) (h : MtT w w.heap.size A T P Q) (hT : T ≤ 15) (hbb : bb = true ↔ ∃ t, t < T ∧ P t = 0 ∧ Q t = 0) :
    Calls Try.prog 154 #[.slice A T c, .agg #[.int .i64 0, .int .i64 0]] w fun e w' => e = .returned (.bool bb) ∧ Below w.heap.size w w' := by
  obtain ⟨W0, HE⟩ : ∃ V, V = w.alloc (.cells #[.int .i64 0, .int .i64 0] 118) := ⟨_, rfl⟩
  have hb0 : Below w.heap.size w W0 := by rw [HE]; exact below_box2 _ _
  have HM := Lib.hid ((h.below hb0).more hb0.size)
  have HB := Lib.hid hb0; have HEQ := Lib.hid HE; have HBB := Lib.hid hbb
  clear h hb0 HE hbb
  go_enter Try.func154, Try.ntmps154
  go_wp2_with fail
  rw [← HEQ.out]
  refine (indexM_any A T c P Q W0 HM.out hT).mono ?_
  rintro e w1 ⟨(⟨hex, k, rfl⟩ | ⟨hno, rfl⟩), hb⟩
  · have R : Hid (true = bb) := Lib.hid (HBB.out.2 hex).symm
    have HB1 := Lib.hid (HB.out.trans (hb.mono HB.out.size))
    have hk0 : (0 : Int) ≤ (k : Int) := by omega
    clear hb hex
    go_wp2_with fail
    go_ret
    exact ⟨ret_bool R.out, HB1.out⟩
  · have R : Hid (false = bb) := Lib.hid (by
      cases e : bb with
      | false => rfl
      | true => obtain ⟨t, h1, h2⟩ := HBB.out.1 e; exact absurd h2 (hno t h1))
    have HB1 := Lib.hid (HB.out.trans (hb.mono HB.out.size))
    clear hb hno
    go_wp2_with fail
    go_ret
    exact ⟨ret_bool R.out, HB1.out⟩

end Go.Proofs.Ytohbgfmjnanlkaa
