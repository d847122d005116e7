/- For all arguments, impl.BranchText answers as spec.BranchText does, leaves its arguments alone and answers in memory of its own: laws.FnExactBranchText returns true. The tables of the library are tied to the text of the program by the card. No further condition. -/
import Derived.Test.YtlidleaigjemnaaDoorBt2
import Derived.Test.YtlidleaigjemnaaDoorMan
import Derived.Test.YtlidleaigjemnaaDoorLaw
import Derived.Test.YtlidleaigjemnaaDoorCards
import Derived.Test.YtlidleaigjemnaaDoorTie
import Derived.Deep.DeepHandedRow
import Derived.Lib.LaidTab
import Derived.LaidSub
namespace Go.Proofs.YtlidleaigjemnaaDoor
open Go.ChangeShapes Go.WideShapes Go.ChangeAt Go.RowKit
set_option linter.unusedVariables false
set_option linter.unusedSimpArgs false

set_option maxHeartbeats 1000000 in
theorem FnExactBranchText_walk (w : World) (A0 : Option Addr) (n0 c0 : Nat) (z0 : List Int) (hr0 : RI w w.heap.size A0 n0 z0) (hn0 : n0 ≤ 9223372036854775807) (hw0 : ∀ z ∈ z0, (Lit.int .i64 z).wf = true) (ht : Tab w) :
    Calls Tryd.prog 5 #[.agg #[.slice A0 n0 c0]] w fun e w' => e = .returned (.bool true) ∧ Below w.heap.size w w' := by
  obtain rfl : z0.length = n0 := hr0.1
  have HT := Lib.hid ht
  clear ht
  by_cases hb0 : 1048576 < z0.length
  · clear hr0 hw0
    have hx : (1048576 : Int) < (z0.length : Int) := by omega
    go_enter Tryd.func5, Tryd.ntmps5
    go_wp2_with fail
    refine (szB_no _ _ _ _ _ hx (by omega) (by omega) hn0).mono ?_
    rintro e w' ⟨rfl, hb⟩
    go_wp2_with fail
    go_ret
    exact ⟨rfl, (below_box2 _ _).trans (hb.mono (by simp))⟩
  have hq0 : z0.length ≤ 1048576 := by omega
  clear hb0 hn0
  have R0 : Hid (ReadW w w.heap.size (.slice A0 z0.length c0) z0) := Lib.hid (ReadW.mk' hr0)
  clear hr0
  have HW0 := Lib.hid hw0
  clear hw0
  have HS := fun (W : World) (v0 : Value) (h0 : ReadI W W.heap.size v0 z0) => hid_in (specBranchText_any v0 z0 W h0 hq0 HW0.out)
  have HI := fun (W : World) (v0 : Value) (h0 : ReadI W W.heap.size v0 z0) (h1 : Tab W) => hid_in (implBranchText_any v0 z0 W h0 hq0 HW0.out h1)
  generalize (btT z0) = K0 at *
  generalize (btC z0) = K1 at *
  obtain ⟨w1, HE1⟩ : ∃ W, W = w.alloc (.cells #[.slice A0 z0.length c0] 48) := ⟨_, rfl⟩
  have hb : Below w.heap.size w w1 := by rw [HE1]; exact below_box2 _ _
  have hq : BoxI w1 w.heap.size (.slice A0 z0.length c0) := by rw [HE1]; exact BoxI.new _ _ _
  have hsz : w.heap.size + 1 ≤ w1.heap.size := by rw [HE1]; simp
  have O1 := Lib.hid hq; clear hq
  have HEQ1 := Lib.hid HE1; clear HE1
  have B1 := Lib.hid hb; have S1 : Hid (w.heap.size + 1 ≤ w1.heap.size) := Lib.hid (by exact hsz); clear hb
  clear hsz
  have C1 := Lib.hid B1.out
  go_enter Tryd.func5, Tryd.ntmps5
  go_wp2_with fail
  rw [← HEQ1.out]
  refine (szB_yes _ _ _ _ w1 (by omega) (by omega)).mono ?_
  rintro e w2 ⟨rfl, hb⟩
  have B2 := Lib.hid hb; have S2 : Hid (w1.heap.size ≤ w2.heap.size) := Lib.hid (by exact hb.size); clear hb
  have C2 := Lib.hid (C1.out.trans (B2.out.mono C1.out.size))
  have hsl0 : (0 : Int) ≤ 1048576 - (z0.length : Int) := by omega
  have q_P0 := (O1.out.kept (Kept.of_below B2.out (by have s1 := S1.out; have s2 := S2.out; omega)))
  have qc_P0 := q_P0.1; have qs_P0 := q_P0.2; clear q_P0
  go_wp2_with fail
  clear qc_P0 qs_P0
  refine (toB _ z0 w2 ((R0.out.below C2.out).more C2.out.size) hq0).mono ?_
  rintro e w3 ⟨x3, rfl, ho, hb⟩
  obtain ⟨xa3, xc3, rfl⟩ := own_form ho.1
  have O3 := Lib.hid ho; clear ho
  have B3 := Lib.hid hb; have S3 : Hid (w2.heap.size ≤ w3.heap.size) := Lib.hid (by exact hb.size); clear hb
  have C3 := Lib.hid (C2.out.trans (B3.out.mono C2.out.size))
  have q_P0 := (O1.out.kept (Kept.trans (Kept.of_below B2.out (by have s1 := S1.out; have s2 := S2.out; have s3 := S3.out; omega)) (Kept.of_below B3.out (by have s1 := S1.out; have s2 := S2.out; have s3 := S3.out; omega))))
  have qc_P0 := q_P0.1; have qs_P0 := q_P0.2; clear q_P0
  go_wp2_with fail
  clear qc_P0 qs_P0
  refine (hid_out (HS w3 (.slice xa3 z0.length xc3) (O3.out.reads))).mono ?_
  rintro e w4 ⟨rfl, hb⟩
  have B4 := Lib.hid hb; have S4 : Hid (w3.heap.size ≤ w4.heap.size) := Lib.hid (by exact hb.size); clear hb
  have C4 := Lib.hid (C3.out.trans (B4.out.mono C3.out.size))
  have q_P0 := (O1.out.kept (Kept.trans (Kept.trans (Kept.of_below B2.out (by have s1 := S1.out; have s2 := S2.out; have s3 := S3.out; have s4 := S4.out; omega)) (Kept.of_below B3.out (by have s1 := S1.out; have s2 := S2.out; have s3 := S3.out; have s4 := S4.out; omega))) (Kept.of_below B4.out (by have s1 := S1.out; have s2 := S2.out; have s3 := S3.out; have s4 := S4.out; omega))))
  have qc_P0 := q_P0.1; have qs_P0 := q_P0.2; clear q_P0
  go_wp2_with fail
  clear qc_P0 qs_P0
  refine (toB _ z0 w4 ((R0.out.below C4.out).more C4.out.size) hq0).mono ?_
  rintro e w5 ⟨x5, rfl, ho, hb⟩
  obtain ⟨xa5, xc5, rfl⟩ := own_form ho.1
  have O5 := Lib.hid ho; clear ho
  have B5 := Lib.hid hb; have S5 : Hid (w4.heap.size ≤ w5.heap.size) := Lib.hid (by exact hb.size); clear hb
  have C5 := Lib.hid (C4.out.trans (B5.out.mono C4.out.size))
  obtain ⟨w6, HE6⟩ : ∃ W, W = w5.alloc (.cells #[(.slice xa5 z0.length xc5)] 51) := ⟨_, rfl⟩
  have hb : Below w5.heap.size w5 w6 := by rw [HE6]; exact below_box2 _ _
  have hq : BoxI w6 w5.heap.size ((.slice xa5 z0.length xc5)) := by rw [HE6]; exact BoxI.new _ _ _
  have hsz : w5.heap.size + 1 ≤ w6.heap.size := by rw [HE6]; simp
  have O6 := Lib.hid hq; clear hq
  have HEQ6 := Lib.hid HE6; clear HE6
  have B6 := Lib.hid hb; have S6 : Hid (w5.heap.size + 1 ≤ w6.heap.size) := Lib.hid (by exact hsz); clear hb
  clear hsz
  have C6 := Lib.hid (C5.out.trans (B6.out.mono C5.out.size))
  have q_P0 := (O1.out.kept (Kept.trans (Kept.trans (Kept.trans (Kept.of_below B2.out (by have s1 := S1.out; have s2 := S2.out; have s3 := S3.out; have s4 := S4.out; have s5 := S5.out; have s6 := S6.out; omega)) (Kept.of_below B3.out (by have s1 := S1.out; have s2 := S2.out; have s3 := S3.out; have s4 := S4.out; have s5 := S5.out; have s6 := S6.out; omega))) (Kept.of_below B4.out (by have s1 := S1.out; have s2 := S2.out; have s3 := S3.out; have s4 := S4.out; have s5 := S5.out; have s6 := S6.out; omega))) (Kept.of_below B5.out (by have s1 := S1.out; have s2 := S2.out; have s3 := S3.out; have s4 := S4.out; have s5 := S5.out; have s6 := S6.out; omega))))
  have qc_P0 := q_P0.1; have qs_P0 := q_P0.2; clear q_P0
  go_wp2_with fail
  rw [← HEQ6.out]
  clear qc_P0 qs_P0
  refine (hid_out (HI w6 (.slice xa5 z0.length xc5) ((O5.out.kept (Kept.of_below B6.out (by have s1 := S1.out; have s2 := S2.out; have s3 := S3.out; have s4 := S4.out; have s5 := S5.out; have s6 := S6.out; omega))).reads) (HT.out.below C6.out))).mono ?_
  rintro e w7 ⟨rfl, hb⟩
  have B7 := Lib.hid hb; have S7 : Hid (w6.heap.size ≤ w7.heap.size) := Lib.hid (by exact hb.size); clear hb
  have C7 := Lib.hid (C6.out.trans (B7.out.mono C6.out.size))
  go_wp2_with fail
  have q1 := (O6.out.kept (Kept.of_below B7.out (by have s1 := S1.out; have s2 := S2.out; have s3 := S3.out; have s4 := S4.out; have s5 := S5.out; have s6 := S6.out; have s7 := S7.out; omega))); have q2 := (O1.out.kept (Kept.trans (Kept.trans (Kept.trans (Kept.trans (Kept.trans (Kept.of_below B2.out (by have s1 := S1.out; have s2 := S2.out; have s3 := S3.out; have s4 := S4.out; have s5 := S5.out; have s6 := S6.out; have s7 := S7.out; omega)) (Kept.of_below B3.out (by have s1 := S1.out; have s2 := S2.out; have s3 := S3.out; have s4 := S4.out; have s5 := S5.out; have s6 := S6.out; have s7 := S7.out; omega))) (Kept.of_below B4.out (by have s1 := S1.out; have s2 := S2.out; have s3 := S3.out; have s4 := S4.out; have s5 := S5.out; have s6 := S6.out; have s7 := S7.out; omega))) (Kept.of_below B5.out (by have s1 := S1.out; have s2 := S2.out; have s3 := S3.out; have s4 := S4.out; have s5 := S5.out; have s6 := S6.out; have s7 := S7.out; omega))) (Kept.of_below B6.out (by have s1 := S1.out; have s2 := S2.out; have s3 := S3.out; have s4 := S4.out; have s5 := S5.out; have s6 := S6.out; have s7 := S7.out; omega))) (Kept.of_below B7.out (by have s1 := S1.out; have s2 := S2.out; have s3 := S3.out; have s4 := S4.out; have s5 := S5.out; have s6 := S6.out; have s7 := S7.out; omega))))
  have RR : Hid (ReadW w7 w7.heap.size (.slice A0 z0.length c0) z0) := Lib.hid ((R0.out.below C7.out).more C7.out.size)
  refine wp_region_held_drew (S := fun w' => w'.cell? ⟨w5.heap.size, 0, none⟩ = some ((.slice xa5 z0.length xc5)) ∧ w'.cell? ⟨w.heap.size, 0, none⟩ = some (.slice A0 z0.length c0)) (by kernel_rfl) ⟨q1.1, q2.1⟩ (fun hHeld => ?_)
  refine takeY 0 _ (v := ?_) rfl rfl (by kernel_rfl) (by kernel_rfl) (by kernel_rfl) (fun _ _ _ h => h) (by kernel_rfl) ?_ (by assumption) ?_
  rotate_left 1
  · intro w hSw; (try dsimp only at hSw); go_simp; (try with_reducible rfl)
  try simp only [Act.put, List.setIfInBounds_toArray, List.set_cons_zero, List.set_cons_succ]
  refine takeY 1 _ (v := ?_) rfl rfl (by kernel_rfl) (by kernel_rfl) (by kernel_rfl) (fun _ _ _ h => h) (by kernel_rfl) ?_ (by assumption) ?_
  rotate_left 1
  · intro w hSw; (try dsimp only at hSw); go_simp; (try with_reducible rfl)
  try simp only [Act.put, List.setIfInBounds_toArray, List.set_cons_zero, List.set_cons_succ]
  refine wpAnyH_ready (rs := [2]) (by kernel_rfl) (by simp) ?_
  refine AllReadyH.cons rfl (fun K hK => ?_) AllReadyH.nil
  go_simp
  refine (toB_drew _ z0 w7 RR.out hq0).mono ?_
  rintro e w8 ⟨x8, rfl, ho, hb⟩
  obtain ⟨xa8, xc8, rfl⟩ := own_form ho.1
  have O8 := Lib.hid ho; clear ho
  have B8 := Lib.hid hb; have S8 : Hid (w7.heap.size ≤ w8.heap.size) := Lib.hid (by exact hb.size); clear hb
  have C8 := Lib.hid (C7.out.trans (B8.out.mono C7.out.size))
  have q3 := (O6.out.kept (Kept.trans (Kept.of_below B7.out (by have s1 := S1.out; have s2 := S2.out; have s3 := S3.out; have s4 := S4.out; have s5 := S5.out; have s6 := S6.out; have s7 := S7.out; have s8 := S8.out; omega)) (Kept.of_below B8.out (by have s1 := S1.out; have s2 := S2.out; have s3 := S3.out; have s4 := S4.out; have s5 := S5.out; have s6 := S6.out; have s7 := S7.out; have s8 := S8.out; omega)))); have q4 := (O1.out.kept (Kept.trans (Kept.trans (Kept.trans (Kept.trans (Kept.trans (Kept.trans (Kept.of_below B2.out (by have s1 := S1.out; have s2 := S2.out; have s3 := S3.out; have s4 := S4.out; have s5 := S5.out; have s6 := S6.out; have s7 := S7.out; have s8 := S8.out; omega)) (Kept.of_below B3.out (by have s1 := S1.out; have s2 := S2.out; have s3 := S3.out; have s4 := S4.out; have s5 := S5.out; have s6 := S6.out; have s7 := S7.out; have s8 := S8.out; omega))) (Kept.of_below B4.out (by have s1 := S1.out; have s2 := S2.out; have s3 := S3.out; have s4 := S4.out; have s5 := S5.out; have s6 := S6.out; have s7 := S7.out; have s8 := S8.out; omega))) (Kept.of_below B5.out (by have s1 := S1.out; have s2 := S2.out; have s3 := S3.out; have s4 := S4.out; have s5 := S5.out; have s6 := S6.out; have s7 := S7.out; have s8 := S8.out; omega))) (Kept.of_below B6.out (by have s1 := S1.out; have s2 := S2.out; have s3 := S3.out; have s4 := S4.out; have s5 := S5.out; have s6 := S6.out; have s7 := S7.out; have s8 := S8.out; omega))) (Kept.of_below B7.out (by have s1 := S1.out; have s2 := S2.out; have s3 := S3.out; have s4 := S4.out; have s5 := S5.out; have s6 := S6.out; have s7 := S7.out; have s8 := S8.out; omega))) (Kept.of_below B8.out (by have s1 := S1.out; have s2 := S2.out; have s3 := S3.out; have s4 := S4.out; have s5 := S5.out; have s6 := S6.out; have s7 := S7.out; have s8 := S8.out; omega))))
  refine hK.out _ _ ⟨q3.1, q4.1⟩ (fun hHeld => ?_)
  clear hK K
  try simp only [Act.put, List.setIfInBounds_toArray, List.set_cons_zero, List.set_cons_succ]
  refine wpAnyH_ready (rs := [3]) (by kernel_rfl) (by simp) ?_
  refine AllReadyH.cons rfl (fun K hK => ?_) AllReadyH.nil
  go_simp
  refine (eqB _ _ z0 w8 ((O5.out.kept (Kept.trans (Kept.trans (Kept.of_below B6.out (by have s1 := S1.out; have s2 := S2.out; have s3 := S3.out; have s4 := S4.out; have s5 := S5.out; have s6 := S6.out; have s7 := S7.out; have s8 := S8.out; omega)) (Kept.of_below B7.out (by have s1 := S1.out; have s2 := S2.out; have s3 := S3.out; have s4 := S4.out; have s5 := S5.out; have s6 := S6.out; have s7 := S7.out; have s8 := S8.out; omega))) (Kept.of_below B8.out (by have s1 := S1.out; have s2 := S2.out; have s3 := S3.out; have s4 := S4.out; have s5 := S5.out; have s6 := S6.out; have s7 := S7.out; have s8 := S8.out; omega)))).reads) (O8.out.reads) (by omega)).mono ?_
  rintro e w9 ⟨rfl, hb⟩
  have B9 := Lib.hid hb; have S9 : Hid (w8.heap.size ≤ w9.heap.size) := Lib.hid (by exact hb.size); clear hb
  have C9 := Lib.hid (C8.out.trans (B9.out.mono C8.out.size))
  have q5 := (O6.out.kept (Kept.trans (Kept.trans (Kept.of_below B7.out (by have s1 := S1.out; have s2 := S2.out; have s3 := S3.out; have s4 := S4.out; have s5 := S5.out; have s6 := S6.out; have s7 := S7.out; have s8 := S8.out; have s9 := S9.out; omega)) (Kept.of_below B8.out (by have s1 := S1.out; have s2 := S2.out; have s3 := S3.out; have s4 := S4.out; have s5 := S5.out; have s6 := S6.out; have s7 := S7.out; have s8 := S8.out; have s9 := S9.out; omega))) (Kept.of_below B9.out (by have s1 := S1.out; have s2 := S2.out; have s3 := S3.out; have s4 := S4.out; have s5 := S5.out; have s6 := S6.out; have s7 := S7.out; have s8 := S8.out; have s9 := S9.out; omega)))); have q6 := (O1.out.kept (Kept.trans (Kept.trans (Kept.trans (Kept.trans (Kept.trans (Kept.trans (Kept.trans (Kept.of_below B2.out (by have s1 := S1.out; have s2 := S2.out; have s3 := S3.out; have s4 := S4.out; have s5 := S5.out; have s6 := S6.out; have s7 := S7.out; have s8 := S8.out; have s9 := S9.out; omega)) (Kept.of_below B3.out (by have s1 := S1.out; have s2 := S2.out; have s3 := S3.out; have s4 := S4.out; have s5 := S5.out; have s6 := S6.out; have s7 := S7.out; have s8 := S8.out; have s9 := S9.out; omega))) (Kept.of_below B4.out (by have s1 := S1.out; have s2 := S2.out; have s3 := S3.out; have s4 := S4.out; have s5 := S5.out; have s6 := S6.out; have s7 := S7.out; have s8 := S8.out; have s9 := S9.out; omega))) (Kept.of_below B5.out (by have s1 := S1.out; have s2 := S2.out; have s3 := S3.out; have s4 := S4.out; have s5 := S5.out; have s6 := S6.out; have s7 := S7.out; have s8 := S8.out; have s9 := S9.out; omega))) (Kept.of_below B6.out (by have s1 := S1.out; have s2 := S2.out; have s3 := S3.out; have s4 := S4.out; have s5 := S5.out; have s6 := S6.out; have s7 := S7.out; have s8 := S8.out; have s9 := S9.out; omega))) (Kept.of_below B7.out (by have s1 := S1.out; have s2 := S2.out; have s3 := S3.out; have s4 := S4.out; have s5 := S5.out; have s6 := S6.out; have s7 := S7.out; have s8 := S8.out; have s9 := S9.out; omega))) (Kept.of_below B8.out (by have s1 := S1.out; have s2 := S2.out; have s3 := S3.out; have s4 := S4.out; have s5 := S5.out; have s6 := S6.out; have s7 := S7.out; have s8 := S8.out; have s9 := S9.out; omega))) (Kept.of_below B9.out (by have s1 := S1.out; have s2 := S2.out; have s3 := S3.out; have s4 := S4.out; have s5 := S5.out; have s6 := S6.out; have s7 := S7.out; have s8 := S8.out; have s9 := S9.out; omega))))
  refine hK.out _ _ ⟨q5.1, q6.1⟩ (fun hHeld => ?_)
  clear hK K
  try simp only [Act.put, List.setIfInBounds_toArray, List.set_cons_zero, List.set_cons_succ]
  refine takeY 4 _ (v := ?_) rfl rfl (by kernel_rfl) (by kernel_rfl) (by kernel_rfl) (fun _ _ _ h => h) (by kernel_rfl) ?_ (by assumption) ?_
  rotate_left 1
  · intro w hSw; (try dsimp only at hSw); go_simp; (try with_reducible rfl)
  try simp only [Act.put, List.setIfInBounds_toArray, List.set_cons_zero, List.set_cons_succ]
  refine wpAnyH_done (by kernel_rfl) ?_ _
  clear q1 q2 q3 q4 q5 q6 hHeld RR
  go_wp2_with fail
  go_ret
  exact ⟨rfl, C9.out⟩


theorem cellsPow : Tryd.prog.cellsOf 139 = 20 := by kernel_rfl
theorem cellsU64 : Tryd.prog.cellsOf 97 = 1 := by kernel_rfl
theorem gPowType : (Tryd.prog.globals[3]?).map (·.type) = some 139 := by kernel_rfl
/-- What the row's list gives: the table of powers of ten. -/
theorem tab_of {W : World} (h : laidMetH Tryd.prog Rows.fnExactBranchTextRow.laid W) : Tab W := by
  have h1 := laidMetH.filter (fun x => x.1 == "internal/strconv.uint64pow10") h
  have e : Rows.fnExactBranchTextRow.laid.filter (fun x => x.1 == "internal/strconv.uint64pow10") = [("internal/strconv.uint64pow10", Lib.tabData .u64 Lib.pow10Tab)] := by kernel_rfl
  rw [e] at h1
  exact Lib.tabIs_of_head (rest := []) gPow gPowType Tryd.underlying139 Tryd.underlying97 cellsU64 cellsPow h1

set_option maxRecDepth 100000 in
theorem FnExactBranchText_contract (H : Type) (enc : TypeId × Value → H) (W : World) (base : Nat) (args : Array Value) (ds gs : List (DataW H)) (before : List MemPlace)
    (hval : ∀ (j : Nat) t v, Tryd.f5.params[j]? = some t → args[j]? = some v → Value.okWide Tryd.prog W .any base t v)
    (hW : DataW.Whole enc Tryd.prog Tryd.f5.params.toList Rows.fnExactBranchTextSpec.vars false W args.toList ds gs before) (hL : laidMetH Tryd.prog Rows.fnExactBranchTextRow.laid W) (hS : W.ShapedOpen Tryd.prog) :
    Calls Tryd.prog 5 args W fun e W' => ∃ v, e = .returned v ∧ Rows.fnExactBranchTextSpec.post enc Tryd.prog Tryd.f5 false true false false W args v W' := by
  have hW' := hW
  obtain ⟨p, q, hA0, hV, rfl, hfz, hnd⟩ := hW
  have hA : DataW.TrodAll enc Tryd.prog W 0 (fun _ => true) true Tryd.f5.params.toList args.toList ds p := hA0
  rw [Tryd.params5] at hA hval
  obtain ⟨v0, vs0, d0, ds0, p0, q0, hargs, rfl, rfl, h0, r0⟩ := trodAll_cons hA
  obtain ⟨rfl, rfl, rfl⟩ := trodAll_nil r0
  obtain rfl : args = #[v0] := by cases args; simp_all
  obtain ⟨rfl, rfl⟩ := trodVars_none hV
  obtain ⟨A0, n0, c0, z0, rfl, hr0, hn0, hw0⟩ := open_branch (B := W.heap.size) Tryd.underlying48 (by kernel_rfl) (by kernel_rfl) rfl (hval 0 48 v0 rfl rfl) h0 (fun x hx => hW'.lt x (by simp [hx]))
  refine (FnExactBranchText_walk W A0 n0 c0 z0 hr0 hn0 hw0 (tab_of hL)).mono fun e W' ⟨he, hb⟩ => ?_
  subst he
  exact ⟨_, rfl, law_post (tb := 4) Tryd.laidOut (by kernel_rfl) rfl Tryd.underlying4 rfl rfl hW' hb⟩

/-- The cells that a list of literals stands for. -/
def litCells : DataW Unit → Array Value
  | .agg l => (l.map fun | .lit (.int k n) => Value.int k n | _ => undef).toArray
  | _ => #[]
/-- For the witness's world: the settled one, the three tables holding what their initialisers lay. -/
def putLits (d : DataW Unit) : Obj → Obj
  | .cells _ t frozen => .cells (litCells d) t frozen
  | o => o
noncomputable def laidWorld (os : Os) : World :=
  { World.holding Tryd.prog os ⟨#[], #[], []⟩ with heap := (((World.holding Tryd.prog os ⟨#[], #[], []⟩).heap.modify 3 (putLits Rows.laid_internal_strconv_uint64pow10)).modify 4 (putLits Rows.laid_math_bits_deBruijn32tab)).modify 5 (putLits Rows.laid_math_bits_deBruijn64tab) }
set_option maxRecDepth 100000 in
theorem laid_met (os : Os) : laidMet Tryd.prog Rows.fnExactBranchTextRow.laid ((laidWorld os).forCall (fun _ _ => 0) ⟨#[], #[.agg #[.slice none 0 0]], []⟩).memory :=
  laidMet_of_run' 8 (by kernel_rfl) (by kernel_rfl)
set_option maxRecDepth 100000 in
theorem reads (os : Os) {H : Type} (enc : TypeId × Value → H) : ∃ places, DataW.whole enc Tryd.prog ((laidWorld os).forCall (fun _ _ => 0) ⟨#[], #[.agg #[.slice none 0 0]], []⟩).memory Tryd.f5.params.toList Rows.fnExactBranchTextSpec.vars false #[(.agg #[.slice none 0 0] : Value)].toList 8 = some ([.agg [.nil]], [], places) :=
  ⟨[], by kernel_rfl⟩

set_option maxRecDepth 100000 in
theorem FnExactBranchText_lifted (os : Os) (started : os.Started) (H : Type) (enc : TypeId × Value → H) (F : Stop.Interp) :
    ReturnsInHanded {} Tryd.checked os 5 .any ((OpenSpec.ofChange Rows.fnExactBranchTextSpec).preRow enc Tryd.prog Tryd.f5 Rows.fnExactBranchTextRow.domain false Rows.fnExactBranchTextRow.laid) (((OpenSpec.ofChange Rows.fnExactBranchTextSpec).at F).post enc Tryd.prog Tryd.f5 false true false false) := by
  obtain ⟨places, hx⟩ := reads os enc
  refine returnsInHanded_of_row (C := Tryd.checked) (s := OpenSpec.ofChange Rows.fnExactBranchTextSpec) Tryd.own started (by kernel_rfl) Tryd.func5
    (witness_row_at (enc := enc) (C := Tryd.checked) false (laidWorld os) #[.agg #[.slice none 0 0]] rfl (by kernel_rfl) (by kernel_rfl) (by kernel_rfl)
      (OpenSpec.preRow_of_cond 8 hx (by kernel_rfl) (fun k hk => by cases hk) (by kernel_rfl) (laid_met os))) ?_
  intro W base args ds gs before hval hW _ _ _ hL hS _
  exact FnExactBranchText_contract H enc W base args ds gs before hval hW hL hS

set_option maxRecDepth 100000 in
theorem fnExactBranchText_said : Rows.FnExactBranchTextSaid :=
  OpenClaim.holds_of_cond 5 Tryd.f5 rfl rfl rfl rfl rfl rfl rfl ⟨rfl, rfl, rfl, rfl, rfl⟩ rfl rfl rfl rfl rfl (by kernel_rfl) Tryd.func5 (by kernel_rfl)
    (of_decide_eq_true (by kernel_rfl)) (by unfold Func.isWrapper; first | (rw [if_pos (by decide +kernel)]; kernel_rfl) | (rw [if_neg (by decide +kernel)]; exact ⟨rfl, rfl⟩))
    (fun os started H enc _ F => by rw [OpenClaim.pre_eq_preRow]; exact FnExactBranchText_lifted os started H enc F)

theorem fnExactBranchText_plain (g : FuncId) (fn : Func) (hf : Tryd.pinned.checked.prog.funcNamed "loop.example/g01140/laws.FnExactBranchText" = some g) (hfn : Tryd.pinned.checked.prog.funcs[g]? = some fn) :
    false = Tryd.pinned.checked.prog.looks [] ∧ ∀ (j : Nat) t, fn.params[j]? = some t → Tryd.pinned.checked.prog.wantsStandIn t = false := by
  obtain rfl : g = 5 := Option.some.inj ((show Tryd.prog.funcNamed "loop.example/g01140/laws.FnExactBranchText" = some 5 by kernel_rfl).symm.trans hf) |>.symm
  obtain rfl : fn = Tryd.f5 := (Option.some.inj (Tryd.func5.symm.trans hfn)).symm
  refine ⟨by kernel_rfl, fun j t ht => ?_⟩
  rw [Tryd.params5] at ht
  obtain rfl : t = 48 := by simpa using Array.mem_of_getElem? ht
  exact (show Tryd.prog.wantsStandIn 48 = false by kernel_rfl)

/-- The card: the given statement. -/
theorem fnExactBranchText_proved : Rows.FnExactBranchTextCardSaid :=
  Claim7.holds_tied_plain_at .later [] _ _ _ _ fnExactBranchText_said (fun _ h => by cases h) (by kernel_rfl) (fun _ h => by cases h) fnExactBranchText_row_tie rfl ⟨rfl, rfl⟩ (by kernel_rfl) rfl fnExactBranchText_plain (by kernel_rfl)
end Go.Proofs.YtlidleaigjemnaaDoor
