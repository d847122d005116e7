/- Clusters: weights of simple clusters, the inverse of the proximity matrix: contracts. Conditions: stated at each theorem. -/
import Derived.Test.YtjobfjgphcaoeaaClB
namespace Go.Proofs.Ytjobfjgphcaoeaa
open Go.ChangeShapes Go.WideShapes Go.ChangeAt Go.RowKit Go.Deep
set_option linter.unusedVariables false
set_option linter.unusedSimpArgs false

theorem un_at {i n : Nat} (hi : i < n) (x : Nat) : (fnL (unF i) n)[x]?.getD 0 = unF i x := by
  by_cases h : x < n
  · exact fnL_at h
  · unfold unF
    rw [if_neg (by omega), List.getElem?_eq_none (by rw [fnL_len]; omega)]; rfl
theorem wt_un (P S : List Int) {i n : Nat} (hi : i < n) : wtL P S (fnL (unF i) n) n = smL P S n i := by
  unfold wtL smL smF1
  rw [show (fun x => (fnL (unF i) n)[x]?.getD 0) = unF i from funext fun x => un_at hi x]
theorem un_made {w : World} {g n i : Nat} (h : w.rowIs g 2 n (fun _ => .int .i64 0)) (hg : g < w.heap.size) (hi : i < n) (hn : n ≤ 1048576) : OwnI (w.setCell ⟨g, i, none⟩ (.int .i64 1)) g (g + 1) (.slice (some ⟨g, 0, none⟩) n n) (fnL (unF i) n) :=
  row_ownC ((h.set i (.int .i64 1)).congr fun x hx => by
    unfold unF
    by_cases e : x = i
    · rw [if_pos e, if_pos e]
    · rw [if_neg e, if_neg e]) (by simpa [World.setCell] using hg) hn
theorem un_rng (i x : Nat) : 0 ≤ unF i x ∧ unF i x ≤ 1 := by unfold unF; split <;> decide
def ivA (P S W : List Int) : List (List Int) := if clB P S W then ivQ P S P.length else []
theorem ivA_no {P S W : List Int} (h : clB P S W = false) : ivA P S W = [] := by simp [ivA, h]
theorem ivA_yes {P S W : List Int} {n : Nat} (h : ClOK P S W n) : ivA P S W = ivQ P S n := by simp [ivA, h.b, h.p]
theorem ivA_len (P S W : List Int) : szTot (ivA P S W) ≤ 549755813888 := by
  cases h : clB P S W with
  | false => rw [ivA_no h]; exact szTot_cl (by simp) (by simp)
  | true =>
    obtain ⟨n, hC⟩ := clB_true h
    have hn := hC.hi
    rw [ivA_yes hC]
    refine szTot_cl (by rw [ivQ_len]; exact hn) fun i => ?_
    by_cases hi : i < n
    · rw [ivQ_at hi, smL_len]; exact hn
    · rw [List.getD, List.getElem?_eq_none (by rw [ivQ_len]; omega)]; simp

set_option maxRecDepth 100000 in
set_option maxHeartbeats 4000000 in
theorem simpleW_any (g n i : Nat) (P S : List Int) (w : World) (h : PtsAt w g n n P S) (hg : g < w.heap.size) (ho : okAll P S n = true) (hi : i < n) (hn : n ≤ 24) :
    Calls Try.prog 72 #[.slice (some ⟨g, 0, none⟩) n n, .int .i64 i] w (LAns w (smL P S n i)) := by
  have hi2 : (i : Int) < (n : Int) := by omega
  have hr1 := World.rowIs_made w (.int .i64 0) n 2
  have hl1 : w.heap.size < (w.alloc (.cells (madeCells #[.int .i64 0] n) 2)).heap.size := by simp
  have c1 := hr1.cell hi
  have f1 := hr1.frozen i
  obtain ⟨W1, HL1⟩ : ∃ V, V = w.alloc (.cells ((madeCells #[.int .i64 0] n).setIfInBounds i (.int .i64 1)) 2) := ⟨_, rfl⟩
  have HE1 : W1 = (w.alloc (.cells (madeCells #[.int .i64 0] n) 2)).setCell ⟨w.heap.size, i, none⟩ (.int .i64 1) := by rw [HL1]; symm; go_simp
  have hb1 : Below w.heap.size w W1 := by rw [HE1]; exact (below_box2 _ _).setCell (p := ⟨w.heap.size, i, none⟩) (Nat.le_refl _) _
  have ho1 : OwnI W1 w.heap.size (w.heap.size + 1) (.slice (some ⟨w.heap.size, 0, none⟩) n n) (fnL (unF i) n) := by rw [HE1]; exact un_made hr1 hl1 hi (by omega)
  have HB1 := Lib.hid hb1
  have HO1 := Lib.hid ho1
  have HP1 : Hid (PtsAt W1 g n n P S) := Lib.hid (rowIs_below h hg hb1)
  have hg1 : g < W1.heap.size := Nat.lt_of_lt_of_le hg hb1.size
  have HO := Lib.hid ho
  have HEQ1 := Lib.hid HL1
  have hmk2 := fun (W : World) => run_make_row' (P := Try.prog) 22 2 (.int .i64 0) 8 Try.underlying22 int_info rfl .i64 .i64 n (by omega) (by omega) W
  clear h hg ho hb1 ho1 HE1 HL1 hr1
  go_enter Try.func72, Try.ntmps72
  go_wp2_with fail
  rw [← HEQ1.out]
  refine (weightsOf_any g n P S (fnL (unF i) n) _ W1 HP1.out hg1 HO.out (by omega) hn (fnL_len _ _) (fun x => by rw [un_at hi]; have := un_rng i x; omega) HO1.out.reads).mono ?_
  rintro e w2 ⟨A2, c2, rfl, ho2, hb2⟩
  rw [wt_un P S hi, smL_len] at *
  have HO2 := Lib.hid (own_less ho2 HB1.out.size)
  have HB2 := Lib.hid (HB1.out.trans (hb2.mono HB1.out.size))
  clear ho2 hb2
  go_wp2_with fail
  go_ret
  exact LAns.of (smL_len _ _ _ _) HO2.out HB2.out

end Go.Proofs.Ytjobfjgphcaoeaa
