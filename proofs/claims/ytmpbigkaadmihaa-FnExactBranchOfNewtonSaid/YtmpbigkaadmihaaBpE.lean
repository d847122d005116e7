/- impl.isTerm and slices.Equal of pairs: contracts. Conditions: stated at each theorem. -/
import Derived.Test.YtmpbigkaadmihaaPrL
import Derived.Test.YtmpbigkaadmihaaMan
import Derived.Laws.StructEq
import Derived.Laws.Cover2
namespace Go.Proofs.Ytmpbigkaadmihaa
open Go.ChangeShapes Go.WideShapes Go.ChangeAt Go.RowKit
set_option linter.unusedVariables false
set_option linter.unusedSimpArgs false

def tmB (z : Int) : Bool := decide (1 ≤ z ∧ z ≤ 2000)
theorem tmB_true {z : Int} : tmB z = true ↔ 1 ≤ z ∧ z ≤ 2000 := by unfold tmB; simp
theorem tmB_false {z : Int} : tmB z = false ↔ ¬(1 ≤ z ∧ z ≤ 2000) := by unfold tmB; simp
theorem isTerm_yes (z : Int) (w : World) (h : 1 ≤ z ∧ z ≤ 2000) :
    Calls Try.prog 78 #[.int .i64 z] w fun e w' => e = .returned (.bool true) ∧ w = w' := by
  have h1 := h.1
  have h2 := h.2
  go_enter Try.func78, Try.ntmps78
  go_wp2
  go_ret
  exact ⟨rfl, rfl⟩
theorem isTerm_no (z : Int) (w : World) (h : ¬(1 ≤ z ∧ z ≤ 2000)) :
    Calls Try.prog 78 #[.int .i64 z] w fun e w' => e = .returned (.bool false) ∧ w = w' := by
  by_cases h1 : 1 ≤ z
  · have h2 : ¬ z ≤ 2000 := by omega
    go_enter Try.func78, Try.ntmps78
    go_wp2
    go_ret
    exact ⟨rfl, rfl⟩
  · go_enter Try.func78, Try.ntmps78
    go_wp2
    go_ret
    exact ⟨rfl, rfl⟩

theorem eq_pair (a b c d : Int) (w : World) : (Op.equalIn 10000 86 (.agg #[.int .i64 a, .int .i64 b]) (.agg #[.int .i64 c, .int .i64 d])).run Try.prog w = .ok (a == c && b == d) w := by
  have u3 := Try.underlying2
  have a3 := Try.isAgg2
  have z3 := Try.sizeOf2
  rw [show (10000 : Nat) = 9999 + 1 from rfl, Op.equalIn]
  simp only [Sem.run_bind, run_underlying Try.underlying86, Result.andThen_ok]
  simp only [Std.Legacy.Range.forIn_eq_forIn_range', Std.Legacy.Range.size, Nat.sub_zero, Nat.add_sub_cancel, Nat.div_one, List.range'_succ, List.range'_zero, List.forIn_cons, List.forIn_nil]
  go_simp
  by_cases h1 : a = c <;> by_cases h2 : b = d <;> simp [h1, h2]

/-- The answer of a test of two lists of pairs. -/
def EqAns (w : World) (n : Nat) (f1 f2 : Nat → Int × Int) (e : Ending) (w' : World) : Prop := ∃ b, e = .returned (.bool b) ∧ (b = true ↔ ∀ i, i < n → f1 i = f2 i) ∧ Below w.heap.size w w'
theorem EqAns.mk {w w' : World} {n : Nat} {f1 f2 : Nat → Int × Int} {b : Bool} (h : b = true ↔ ∀ i, i < n → f1 i = f2 i) (hb : Below w.heap.size w w') : EqAns w n f1 f2 (.returned (.bool b)) w' := ⟨b, rfl, h, hb⟩
set_option maxHeartbeats 1000000 in
theorem eqPairs_any (g1 g2 n : Nat) (f1 f2 : Nat → Int × Int) (w : World) (h1 : PRow w g1 n f1) (h2 : PRow w g2 n f2) (hn : n ≤ 1048576) :
    Calls Try.prog 79 #[.slice (some ⟨g1, 0, none⟩) n n, .slice (some ⟨g2, 0, none⟩) n n] w (EqAns w n f1 f2) := by
  have H1 := Lib.hid h1
  have H2 := Lib.hid h2
  clear h1 h2
  go_enter Try.func79, Try.ntmps79
  go_wp2_with fail
  go_loopw [13] (fun vi wr => ∃ (i : Nat), i ≤ n ∧ vi = .int .i64 i ∧ Hid (∀ j, j < i → f1 j = f2 j) ∧ Hid (Below w.heap.size w wr)) (fun vi _ => n - (intOf vi).toNat)
  case atStart => exact ⟨0, by omega, rfl, Lib.hid (fun j hj => by omega), Lib.hid (Below.refl _ _)⟩
  case round =>
    obtain ⟨i, hi, rfl, hq, hwr⟩ := hrel
    have hb := hwr
    have hg1 : g1 < w.heap.size := World.rowIs.lt H1.out
    have hg2 : g2 < w.heap.size := World.rowIs.lt H2.out
    by_cases hlt : i < n
    · obtain ⟨a1, a2, _, _⟩ := H1.out.cells hlt
      obtain ⟨b1, b2, _, _⟩ := H2.out.cells hlt
      have c1 : wr.cell? ⟨g1, i * 2, none⟩ = some (.int .i64 (f1 i).1) := (hb.out.cell (p := ⟨g1, i * 2, none⟩) hg1).trans a1
      have c2 : wr.cell? ⟨g1, i * 2 + 1, none⟩ = some (.int .i64 (f1 i).2) := (hb.out.cell (p := ⟨g1, i * 2 + 1, none⟩) hg1).trans a2
      have c3 : wr.cell? ⟨g2, i * 2, none⟩ = some (.int .i64 (f2 i).1) := (hb.out.cell (p := ⟨g2, i * 2, none⟩) hg2).trans b1
      have c4 : wr.cell? ⟨g2, i * 2 + 1, none⟩ = some (.int .i64 (f2 i).2) := (hb.out.cell (p := ⟨g2, i * 2 + 1, none⟩) hg2).trans b2
      have HF : Hid (f1 i = f2 i ↔ (f1 i).1 = (f2 i).1 ∧ (f1 i).2 = (f2 i).2) := Lib.hid Prod.ext_iff
      generalize (f1 i).1 = x1 at *
      generalize (f1 i).2 = x2 at *
      generalize (f2 i).1 = y1 at *
      generalize (f2 i).2 = y2 at *
      clear a1 a2 b1 b2
      have hin : (i : Int) < (n : Int) := by omega
      have hin0 : (0 : Int) ≤ (i : Int) := by omega
      by_cases e1 : x1 = y1
      · by_cases e2 : x2 = y2
        · have hq2 : Hid (∀ j, j < i + 1 → f1 j = f2 j) := Lib.hid (fun j hj => by
            by_cases h : j = i
            · subst h; exact HF.out.2 ⟨e1, e2⟩
            · exact hq.out j (by omega))
          subst e1
          subst e2
          clear HF
          go_wp2_with fail
          refine wp_region_held_drew (S := fun w' => w'.cell? ⟨g1, i * 2, none⟩ = some (.int .i64 x1) ∧ w'.cell? ⟨g1, i * 2 + 1, none⟩ = some (.int .i64 x2) ∧ w'.cell? ⟨g2, i * 2, none⟩ = some (.int .i64 x1) ∧ w'.cell? ⟨g2, i * 2 + 1, none⟩ = some (.int .i64 x2)) (by kernel_rfl) ⟨c1, c2, c3, c4⟩ (fun hHeld => ?_)
          refine takeY 0 16 (v := ?_) rfl rfl (by kernel_rfl) (by kernel_rfl) (by kernel_rfl) (fun _ _ _ h => h) (by kernel_rfl) ?_ (by assumption) ?_
          rotate_left 1
          · intro w hSw; (try dsimp only at hSw); go_simp; (try with_reducible rfl)
          try simp only [Act.put, List.setIfInBounds_toArray, List.set_cons_zero, List.set_cons_succ]
          refine takeY 1 17 (v := ?_) rfl rfl (by kernel_rfl) (by kernel_rfl) (by kernel_rfl) (fun _ _ _ h => h) (by kernel_rfl) ?_ (by assumption) ?_
          rotate_left 1
          · intro w hSw; (try dsimp only at hSw); go_simp; (try with_reducible rfl)
          try simp only [Act.put, List.setIfInBounds_toArray, List.set_cons_zero, List.set_cons_succ]
          refine takeY 2 18 (v := ?_) rfl rfl (by kernel_rfl) (by kernel_rfl) (by kernel_rfl) (fun _ _ _ h => h) (by kernel_rfl) ?_ (by assumption) ?_
          rotate_left 1
          · intro w hSw; (try dsimp only at hSw); go_simp; (try with_reducible rfl)
          try simp only [Act.put, List.setIfInBounds_toArray, List.set_cons_zero, List.set_cons_succ]
          refine takeY 3 19 (v := ?_) rfl rfl (by kernel_rfl) (by kernel_rfl) (by kernel_rfl) (fun _ _ _ h => h) (by kernel_rfl) ?_ (by assumption) ?_
          rotate_left 1
          · intro w hSw; (try dsimp only at hSw); go_simp; (try with_reducible rfl)
          try simp only [Act.put, List.setIfInBounds_toArray, List.set_cons_zero, List.set_cons_succ]
          refine takeY 4 20 (v := ?_) rfl rfl (by kernel_rfl) (by kernel_rfl) (by kernel_rfl) (fun _ _ _ h => h) (by kernel_rfl) ?_ (by assumption) ?_
          rotate_left 1
          · intro w hSw; (try dsimp only at hSw); go_simp; (try with_reducible rfl)
          try simp only [Act.put, List.setIfInBounds_toArray, List.set_cons_zero, List.set_cons_succ]
          refine takeY 5 21 (v := ?_) rfl rfl (by kernel_rfl) (by kernel_rfl) (by kernel_rfl) (fun _ _ _ h => h) (by kernel_rfl) ?_ (by assumption) ?_
          rotate_left 1
          · intro w hSw; (try dsimp only at hSw); go_simp; (try with_reducible rfl)
          try simp only [Act.put, List.setIfInBounds_toArray, List.set_cons_zero, List.set_cons_succ]
          refine takeY 6 22 (v := ?_) rfl rfl (by kernel_rfl) (by kernel_rfl) (by kernel_rfl) (fun _ _ _ h => h) (by kernel_rfl) ?_ (by assumption) ?_
          rotate_left 1
          · intro w hSw; (try dsimp only at hSw); go_simp; (try with_reducible rfl)
          try simp only [Act.put, List.setIfInBounds_toArray, List.set_cons_zero, List.set_cons_succ]
          refine takeY 7 23 (v := ?_) rfl rfl (by kernel_rfl) (by kernel_rfl) (by kernel_rfl) (fun _ _ _ h => h) (by kernel_rfl) ?_ (by assumption) ?_
          rotate_left 1
          · intro w hSw; (try dsimp only at hSw); go_simp; (try with_reducible rfl)
          try simp only [Act.put, List.setIfInBounds_toArray, List.set_cons_zero, List.set_cons_succ]
          refine takeY 8 24 (v := .bool false) rfl rfl (by kernel_rfl) (by kernel_rfl) (by kernel_rfl) (fun _ _ _ h => h) (by kernel_rfl) ?_ (by assumption) ?_
          · intro w hSw; (try dsimp only at hSw); go_simp; rw [eq_pair]; simp_all [Result.andThen]
          try simp only [Act.put, List.setIfInBounds_toArray, List.set_cons_zero, List.set_cons_succ]
          refine wpAnyH_done (by kernel_rfl) ?_ _
          go_wp2_with fail
          go_roundw
          case rel => exact ⟨i + 1, by omega, by go_num, hq2, Lib.hid (Below.drew hwr.out)⟩
          case measure => simp [intOf]; omega
        · have R : Hid (false = true ↔ ∀ i, i < n → f1 i = f2 i) := Lib.hid ⟨fun h => (by cases h), fun h => (e2 (HF.out.1 (h i hlt)).2).elim⟩
          have t2 : (x2 == y2) = false := by simpa using e2
          subst e1
          go_wp2_with fail
          refine wp_region_held_drew (S := fun w' => w'.cell? ⟨g1, i * 2, none⟩ = some (.int .i64 x1) ∧ w'.cell? ⟨g1, i * 2 + 1, none⟩ = some (.int .i64 x2) ∧ w'.cell? ⟨g2, i * 2, none⟩ = some (.int .i64 x1) ∧ w'.cell? ⟨g2, i * 2 + 1, none⟩ = some (.int .i64 y2)) (by kernel_rfl) ⟨c1, c2, c3, c4⟩ (fun hHeld => ?_)
          refine takeY 0 16 (v := ?_) rfl rfl (by kernel_rfl) (by kernel_rfl) (by kernel_rfl) (fun _ _ _ h => h) (by kernel_rfl) ?_ (by assumption) ?_
          rotate_left 1
          · intro w hSw; (try dsimp only at hSw); go_simp; (try with_reducible rfl)
          try simp only [Act.put, List.setIfInBounds_toArray, List.set_cons_zero, List.set_cons_succ]
          refine takeY 1 17 (v := ?_) rfl rfl (by kernel_rfl) (by kernel_rfl) (by kernel_rfl) (fun _ _ _ h => h) (by kernel_rfl) ?_ (by assumption) ?_
          rotate_left 1
          · intro w hSw; (try dsimp only at hSw); go_simp; (try with_reducible rfl)
          try simp only [Act.put, List.setIfInBounds_toArray, List.set_cons_zero, List.set_cons_succ]
          refine takeY 2 18 (v := ?_) rfl rfl (by kernel_rfl) (by kernel_rfl) (by kernel_rfl) (fun _ _ _ h => h) (by kernel_rfl) ?_ (by assumption) ?_
          rotate_left 1
          · intro w hSw; (try dsimp only at hSw); go_simp; (try with_reducible rfl)
          try simp only [Act.put, List.setIfInBounds_toArray, List.set_cons_zero, List.set_cons_succ]
          refine takeY 3 19 (v := ?_) rfl rfl (by kernel_rfl) (by kernel_rfl) (by kernel_rfl) (fun _ _ _ h => h) (by kernel_rfl) ?_ (by assumption) ?_
          rotate_left 1
          · intro w hSw; (try dsimp only at hSw); go_simp; (try with_reducible rfl)
          try simp only [Act.put, List.setIfInBounds_toArray, List.set_cons_zero, List.set_cons_succ]
          refine takeY 4 20 (v := ?_) rfl rfl (by kernel_rfl) (by kernel_rfl) (by kernel_rfl) (fun _ _ _ h => h) (by kernel_rfl) ?_ (by assumption) ?_
          rotate_left 1
          · intro w hSw; (try dsimp only at hSw); go_simp; (try with_reducible rfl)
          try simp only [Act.put, List.setIfInBounds_toArray, List.set_cons_zero, List.set_cons_succ]
          refine takeY 5 21 (v := ?_) rfl rfl (by kernel_rfl) (by kernel_rfl) (by kernel_rfl) (fun _ _ _ h => h) (by kernel_rfl) ?_ (by assumption) ?_
          rotate_left 1
          · intro w hSw; (try dsimp only at hSw); go_simp; (try with_reducible rfl)
          try simp only [Act.put, List.setIfInBounds_toArray, List.set_cons_zero, List.set_cons_succ]
          refine takeY 6 22 (v := ?_) rfl rfl (by kernel_rfl) (by kernel_rfl) (by kernel_rfl) (fun _ _ _ h => h) (by kernel_rfl) ?_ (by assumption) ?_
          rotate_left 1
          · intro w hSw; (try dsimp only at hSw); go_simp; (try with_reducible rfl)
          try simp only [Act.put, List.setIfInBounds_toArray, List.set_cons_zero, List.set_cons_succ]
          refine takeY 7 23 (v := ?_) rfl rfl (by kernel_rfl) (by kernel_rfl) (by kernel_rfl) (fun _ _ _ h => h) (by kernel_rfl) ?_ (by assumption) ?_
          rotate_left 1
          · intro w hSw; (try dsimp only at hSw); go_simp; (try with_reducible rfl)
          try simp only [Act.put, List.setIfInBounds_toArray, List.set_cons_zero, List.set_cons_succ]
          refine takeY 8 24 (v := .bool true) rfl rfl (by kernel_rfl) (by kernel_rfl) (by kernel_rfl) (fun _ _ _ h => h) (by kernel_rfl) ?_ (by assumption) ?_
          · intro w hSw; (try dsimp only at hSw); go_simp; rw [eq_pair]; simp_all [Result.andThen]
          try simp only [Act.put, List.setIfInBounds_toArray, List.set_cons_zero, List.set_cons_succ]
          refine wpAnyH_done (by kernel_rfl) ?_ _
          go_wp2_with fail
          go_ret
          exact EqAns.mk R.out (Below.drew hb.out)
      · have R : Hid (false = true ↔ ∀ i, i < n → f1 i = f2 i) := Lib.hid ⟨fun h => (by cases h), fun h => (e1 (HF.out.1 (h i hlt)).1).elim⟩
        have t1 : (x1 == y1) = false := by simpa using e1
        go_wp2_with fail
        refine wp_region_held_drew (S := fun w' => w'.cell? ⟨g1, i * 2, none⟩ = some (.int .i64 x1) ∧ w'.cell? ⟨g1, i * 2 + 1, none⟩ = some (.int .i64 x2) ∧ w'.cell? ⟨g2, i * 2, none⟩ = some (.int .i64 y1) ∧ w'.cell? ⟨g2, i * 2 + 1, none⟩ = some (.int .i64 y2)) (by kernel_rfl) ⟨c1, c2, c3, c4⟩ (fun hHeld => ?_)
        refine takeY 0 16 (v := ?_) rfl rfl (by kernel_rfl) (by kernel_rfl) (by kernel_rfl) (fun _ _ _ h => h) (by kernel_rfl) ?_ (by assumption) ?_
        rotate_left 1
        · intro w hSw; (try dsimp only at hSw); go_simp; (try with_reducible rfl)
        try simp only [Act.put, List.setIfInBounds_toArray, List.set_cons_zero, List.set_cons_succ]
        refine takeY 1 17 (v := ?_) rfl rfl (by kernel_rfl) (by kernel_rfl) (by kernel_rfl) (fun _ _ _ h => h) (by kernel_rfl) ?_ (by assumption) ?_
        rotate_left 1
        · intro w hSw; (try dsimp only at hSw); go_simp; (try with_reducible rfl)
        try simp only [Act.put, List.setIfInBounds_toArray, List.set_cons_zero, List.set_cons_succ]
        refine takeY 2 18 (v := ?_) rfl rfl (by kernel_rfl) (by kernel_rfl) (by kernel_rfl) (fun _ _ _ h => h) (by kernel_rfl) ?_ (by assumption) ?_
        rotate_left 1
        · intro w hSw; (try dsimp only at hSw); go_simp; (try with_reducible rfl)
        try simp only [Act.put, List.setIfInBounds_toArray, List.set_cons_zero, List.set_cons_succ]
        refine takeY 3 19 (v := ?_) rfl rfl (by kernel_rfl) (by kernel_rfl) (by kernel_rfl) (fun _ _ _ h => h) (by kernel_rfl) ?_ (by assumption) ?_
        rotate_left 1
        · intro w hSw; (try dsimp only at hSw); go_simp; (try with_reducible rfl)
        try simp only [Act.put, List.setIfInBounds_toArray, List.set_cons_zero, List.set_cons_succ]
        refine takeY 4 20 (v := ?_) rfl rfl (by kernel_rfl) (by kernel_rfl) (by kernel_rfl) (fun _ _ _ h => h) (by kernel_rfl) ?_ (by assumption) ?_
        rotate_left 1
        · intro w hSw; (try dsimp only at hSw); go_simp; (try with_reducible rfl)
        try simp only [Act.put, List.setIfInBounds_toArray, List.set_cons_zero, List.set_cons_succ]
        refine takeY 5 21 (v := ?_) rfl rfl (by kernel_rfl) (by kernel_rfl) (by kernel_rfl) (fun _ _ _ h => h) (by kernel_rfl) ?_ (by assumption) ?_
        rotate_left 1
        · intro w hSw; (try dsimp only at hSw); go_simp; (try with_reducible rfl)
        try simp only [Act.put, List.setIfInBounds_toArray, List.set_cons_zero, List.set_cons_succ]
        refine takeY 6 22 (v := ?_) rfl rfl (by kernel_rfl) (by kernel_rfl) (by kernel_rfl) (fun _ _ _ h => h) (by kernel_rfl) ?_ (by assumption) ?_
        rotate_left 1
        · intro w hSw; (try dsimp only at hSw); go_simp; (try with_reducible rfl)
        try simp only [Act.put, List.setIfInBounds_toArray, List.set_cons_zero, List.set_cons_succ]
        refine takeY 7 23 (v := ?_) rfl rfl (by kernel_rfl) (by kernel_rfl) (by kernel_rfl) (fun _ _ _ h => h) (by kernel_rfl) ?_ (by assumption) ?_
        rotate_left 1
        · intro w hSw; (try dsimp only at hSw); go_simp; (try with_reducible rfl)
        try simp only [Act.put, List.setIfInBounds_toArray, List.set_cons_zero, List.set_cons_succ]
        refine takeY 8 24 (v := .bool true) rfl rfl (by kernel_rfl) (by kernel_rfl) (by kernel_rfl) (fun _ _ _ h => h) (by kernel_rfl) ?_ (by assumption) ?_
        · intro w hSw; (try dsimp only at hSw); go_simp; rw [eq_pair]; simp_all [Result.andThen]
        try simp only [Act.put, List.setIfInBounds_toArray, List.set_cons_zero, List.set_cons_succ]
        refine wpAnyH_done (by kernel_rfl) ?_ _
        go_wp2_with fail
        go_ret
        exact EqAns.mk R.out (Below.drew hb.out)
    · obtain rfl : i = n := by omega
      have R : Hid (true = true ↔ ∀ j, j < i → f1 j = f2 j) := Lib.hid ⟨fun _ => hq.out, fun _ => rfl⟩
      go_wp2_with fail
      go_ret
      exact EqAns.mk ⟨fun _ => hq.out, fun _ => rfl⟩ hb.out
end Go.Proofs.Ytmpbigkaadmihaa
