/- Clusters: square matrices in memory; the proximity matrix: contracts. Conditions: stated at each theorem. -/
import Derived.Test.YtohbgfmjnanlkaaCl1
import Derived.Test.YtohbgfmjnanlkaaZC
namespace Go.Proofs.Ytohbgfmjnanlkaa
open Go.ChangeShapes Go.WideShapes Go.ChangeAt Go.RowKit Go.Deep
set_option linter.unusedVariables false
set_option linter.unusedSimpArgs false

theorem AnsQC.noneC {w w' : World} {L : List (List Int)} {C D : Int} (h1 : [] = L) (h2 : D = C) (hb : Below w.heap.size w w') : AnsQC w L C (.returned (.tuple #[.slice none 0 0, .int .i64 D])) w' := by
  subst h1; subst h2; exact ⟨_, rfl, OwnQ.nil _ _, hb⟩
theorem AnsQC.someC {w w' : World} {L M : List (List Int)} {C D : Int} {v : Value} (h1 : M = L) (h2 : D = C) (ho : OwnQ w' w.heap.size w'.heap.size v M) (hb : Below w.heap.size w w') : AnsQC w L C (.returned (.tuple #[v, .int .i64 D])) w' := by
  subst h1; subst h2; exact ⟨_, rfl, ho, hb⟩
theorem OwnQ.stay {w w' : World} {lo hi : Nat} {v : Value} {zss : List (List Int)} (h : OwnQ w lo hi v zss) (hb : Below w.heap.size w w') : OwnQ w' lo hi v zss := h.kept (Kept.of_below hb (by obtain ⟨_, _, _, _, _, r3, _⟩ := h; exact r3))
theorem MarkQ.stay {w w' : World} {lo hi n k : Nat} {v : Value} {ms : Nat → Nat} (h : MarkQ w lo hi v n ms k) (hb : Below w.heap.size w w') : MarkQ w' lo hi v n ms k := h.kept (Kept.of_below hb (by obtain ⟨_, _, _, _, _, r3, _⟩ := h; exact r3))
theorem ownQ_lessC {w : World} {lo lo' hi : Nat} {v : Value} {L : List (List Int)} (h : OwnQ w lo hi v L) (hl : lo' ≤ lo) : OwnQ w lo' hi v L := by
  obtain ⟨us, ls, hs, r1, r2, r3, r4, r5⟩ := h
  have r1' : w.ownsRow lo' 22 1 v L.length us := by
    obtain ⟨h0, h1⟩ := r1
    refine ⟨h0, ?_⟩
    rcases h1 with hn | ⟨g, cap, cur, e, hb, rest⟩
    · exact .inl hn
    · exact .inr ⟨g, cap, cur, e, by omega, rest⟩
  exact ⟨us, ls, hs, r1', r2, r3, fun i hi => ⟨by have := (r4 i hi).1; omega, (r4 i hi).2⟩, r5⟩
/-- The list in block g has n rows of n numbers each in the blocks behind it. -/
structure MatM (w : World) (g n : Nat) (M : Nat → Nat → Int) : Prop where
  row : w.rowIs g 22 n (fun i => .slice (some ⟨g + 1 + i, 0, none⟩) n n)
  els : ∀ i, i < n → w.rowIs (g + 1 + i) 2 n (fun j => .int .i64 (M i j))
  sz : g + 1 + n ≤ w.heap.size
theorem MatM.kept {w w' : World} {g n : Nat} {M : Nat → Nat → Int} (h : MatM w g n M) (k : Kept g (g + 1 + n) w w') : MatM w' g n M :=
  ⟨h.row.of_block (k.block g (Nat.le_refl _) (by omega)), fun i hi => (h.els i hi).of_block (k.block _ (by omega) (by omega)), Nat.le_trans h.sz k.size⟩
theorem MatM.stay {w w' : World} {g n : Nat} {M : Nat → Nat → Int} (h : MatM w g n M) (hb : Below w.heap.size w w') : MatM w' g n M := h.kept (Kept.of_below hb h.sz)
theorem MatM.congr {w : World} {g n : Nat} {M M' : Nat → Nat → Int} (h : MatM w g n M) (e : ∀ i j, i < n → j < n → M i j = M' i j) : MatM w g n M' :=
  ⟨h.row, fun i hi => (h.els i hi).congr fun j hj => by rw [e i j hi hj], h.sz⟩
theorem MatM.set {w : World} {g n i j : Nat} {M : Nat → Nat → Int} (h : MatM w g n M) (hi : i < n) (z : Int) : MatM (w.setCell ⟨g + 1 + i, j, none⟩ (.int .i64 z)) g n (fun a b => if a = i ∧ b = j then z else M a b) := by
  refine ⟨h.row.of_block (Below.heap_setCell _ _ _ _ (by simp; omega)), fun a ha => ?_, by simpa [World.setCell] using h.sz⟩
  by_cases e : a = i
  · subst e
    exact ((h.els a ha).set j _).congr fun b hb => by
      by_cases e2 : b = j
      · rw [if_pos e2, if_pos ⟨rfl, e2⟩]
      · rw [if_neg e2, if_neg (fun h => e2 h.2)]
  · exact ((h.els a ha).of_block (Below.heap_setCell _ _ _ _ (by simp; omega))).congr fun b hb => by rw [if_neg (fun h => e h.1)]
theorem MatM.crows {w : World} {g n : Nat} {M : Nat → Nat → Int} (h : MatM w g n M) (hn : n ≤ 1048576) : CRows w g n (fun i => fnL (M i) n) := by
  have hs := h.sz
  refine ⟨fun i => .slice (some ⟨g + 1 + i, 0, none⟩) n n, fun i => g + 1 + i, fun i => g + 2 + i, h.row, fun i hi => ⟨by omega, by omega, ?_⟩, fun i j _ _ hij => by omega, by omega⟩
  have h1 : OwnI w (g + 1 + i) w.heap.size (.slice (some ⟨g + 1 + i, 0, none⟩) n n) (fnL (M i) n) := row_ownB ((h.els i hi).congr fun x hx => by
    rw [if_pos hx]
    have := fnL_at (F := M i) hx
    simp only [List.getD]; rw [this]) (fnL_len _ _) (Nat.le_refl _) (by omega)
  exact ⟨h1.1, fun k hk => by obtain rfl : g + 1 + i = k := by simpa [Value.ownBlock] using hk
                              omega, by omega⟩
theorem MatM.ownQ {w : World} {g n lo : Nat} {M : Nat → Nat → Int} {L : List (List Int)} (h : MatM w g n M) (hl : L.length = n) (hR : ∀ j, j < n → fnL (M j) n = L.getD j []) (hlo : lo ≤ g) (hn : n ≤ 1048576) :
    OwnQ w lo w.heap.size (.slice (some ⟨g, 0, none⟩) n n) L := (h.crows hn).ownQ hl hR hlo hn

set_option maxRecDepth 100000 in
set_option maxHeartbeats 4000000 in
theorem zeroM_any (n : Nat) (w : World) (hn : n ≤ 24) :
    Calls Try.prog 100 #[.int .i64 n] w fun e w' => e = .returned (.slice (some ⟨w.heap.size, 0, none⟩) n n) ∧ MatM w' w.heap.size n (fun _ _ => 0) ∧ Below w.heap.size w w' ∧ w'.heap.size = w.heap.size + 1 + n := by
  obtain ⟨W1, HE1⟩ : ∃ W, W = w.alloc (.cells (madeCells #[.slice none 0 0] n) 22) := ⟨_, rfl⟩
  have HB1 : Hid (Below w.heap.size w W1) := Lib.hid (by rw [HE1]; exact below_box2 _ _)
  have HR1 : Hid (W1.rowIs w.heap.size 22 n (fun i => if i < 0 then .slice (some ⟨w.heap.size + 1 + i, 0, none⟩) n n else .slice none 0 0)) := Lib.hid (by rw [HE1]; exact (World.rowIs_made _ _ _ _).congr fun x hx => by simp)
  have HZ1 : Hid (W1.heap.size = w.heap.size + 1 + 0) := Lib.hid (by rw [HE1]; simp)
  have HQ1 : Hid (∀ i, i < 0 → W1.rowIs (w.heap.size + 1 + i) 2 n (fun _ => .int .i64 0)) := Lib.hid fun i hi => by omega
  have HEQ1 := Lib.hid HE1
  have hmk := fun (W : World) => run_make_row' (P := Try.prog) 49 22 (.slice none 0 0) 24 Try.underlying49 slice_info rfl .i64 .i64 n (by omega) (by omega) W
  have hmk2 := fun (W : World) => run_make_row' (P := Try.prog) 22 2 (.int .i64 0) 8 Try.underlying22 int_info rfl .i64 .i64 n (by omega) (by omega) W
  clear HE1
  go_enter Try.func100, Try.ntmps100
  go_wp2
  rw [← HEQ1.out]
  go_loopw [9] (fun vi wr => ∃ (k : Nat), k ≤ n ∧ vi = .int .i64 k ∧ Hid (wr.rowIs w.heap.size 22 n (fun i => if i < k then .slice (some ⟨w.heap.size + 1 + i, 0, none⟩) n n else .slice none 0 0)) ∧ Hid (∀ i, i < k → wr.rowIs (w.heap.size + 1 + i) 2 n (fun _ => .int .i64 0)) ∧ Hid (wr.heap.size = w.heap.size + 1 + k) ∧ Hid (Below w.heap.size w wr)) (fun vi _ => n - (intOf vi).toNat)
  case atStart => exact ⟨0, by omega, rfl, HR1, HQ1, HZ1, HB1⟩
  case round =>
    obtain ⟨k, hk, rfl, hrow, hels, hsz, hb⟩ := hrel
    by_cases hkn : k < n
    · have hkn2 : (k : Int) < (n : Int) := by omega
      have hcell := hrow.out.cell hkn
      have hfz := hrow.out.frozen k
      rw [if_neg (by omega)] at hcell
      have hz := hsz.out
      have hsg : w.heap.size < wr.heap.size := by omega
      have hne : w.heap.size ≠ wr.heap.size := by omega
      obtain ⟨W2, HE2⟩ : ∃ V, V = (wr.setCell ⟨w.heap.size, k, none⟩ (.slice (some ⟨wr.heap.size, 0, none⟩) n n)).alloc (.cells (madeCells #[.int .i64 0] n) 2) := ⟨_, rfl⟩
      have hgs : (wr.setCell ⟨w.heap.size, k, none⟩ (.slice (some ⟨wr.heap.size, 0, none⟩) n n)).heap.size = wr.heap.size := size_set _ _ _
      have HN1 : Hid (W2.rowIs w.heap.size 22 n (fun i => if i < k + 1 then .slice (some ⟨w.heap.size + 1 + i, 0, none⟩) n n else .slice none 0 0)) := Lib.hid (by
        rw [HE2]
        refine ((hrow.out.set k (.slice (some ⟨wr.heap.size, 0, none⟩) n n)).of_block (Below.heap_alloc _ _ _ (by rw [hgs]; exact hsg))).congr fun i hi => ?_
        by_cases e : i = k
        · subst e; rw [if_pos rfl, if_pos (by omega), hz]
        · rw [if_neg e]
          by_cases e2 : i < k
          · rw [if_pos e2, if_pos (by omega)]
          · rw [if_neg e2, if_neg (by omega)])
      have HN2 : Hid (∀ i, i < k + 1 → W2.rowIs (w.heap.size + 1 + i) 2 n (fun _ => .int .i64 0)) := Lib.hid fun i hi => by
        rw [HE2]
        by_cases e : i = k
        · subst e
          have h9 := World.rowIs_made (wr.setCell ⟨w.heap.size, i, none⟩ (.slice (some ⟨wr.heap.size, 0, none⟩) n n)) (.int .i64 0) n 2
          rw [hgs.trans hz] at h9
          exact h9
        · refine (hels.out i (by omega)).of_block ?_
          rw [Below.heap_alloc _ _ _ (by rw [hgs]; omega), Below.heap_setCell _ _ _ _ (by simp; omega)]
      have HN3 : Hid (W2.heap.size = w.heap.size + 1 + (k + 1)) := Lib.hid (by rw [HE2]; simp [hgs]; omega)
      have HN4 : Hid (Below w.heap.size w W2) := Lib.hid (by rw [HE2]; exact (hb.out.setCell (p := ⟨w.heap.size, k, none⟩) (Nat.le_refl _) _).alloc (by rw [hgs]; omega) _)
      have HEQ2 := Lib.hid HE2
      clear HE2 hz hgs
      go_wp2_with fail
      rw [← HEQ2.out]
      go_roundw
      case rel => exact ⟨k + 1, by omega, by go_num, HN1, HN2, HN3, HN4⟩
      case measure => simp [intOf]; omega
    · obtain rfl : k = n := by omega
      go_wp2
      go_ret
      exact ⟨rfl, ⟨hrow.out.congr fun i hi => by rw [if_pos hi], hels.out, by rw [hsz.out]; exact Nat.le_refl _⟩, hb.out, hsz.out⟩

end Go.Proofs.Ytohbgfmjnanlkaa
