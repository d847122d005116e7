/- For all arguments, impl.MeetCurvette answers as spec.MeetCurvette does, leaves its arguments alone and answers in memory of its own: laws.FnExactMeetCurvette returns true. No condition. -/
import Derived.Test.YtohbgfmjnanlkaaCvD
import Derived.Test.YtohbgfmjnanlkaaZA
import Derived.Test.YtohbgfmjnanlkaaZB
namespace Go.Proofs.Ytohbgfmjnanlkaa
open Go.ChangeShapes Go.WideShapes Go.ChangeAt Go.RowKit
set_option linter.unusedVariables false
set_option linter.unusedSimpArgs false

set_option maxHeartbeats 1000000 in
theorem FnExactMeetCurvette_walk (w : World) (A0 : Option Addr) (n0 c0 : Nat) (z0 : List Int) (hr0 : RI w w.heap.size A0 n0 z0) (hn0 : n0 ≤ 9223372036854775807) (hw0 : ∀ z ∈ z0, (Lit.int .i64 z).wf = true) (a1 : Int) (hw1 : (Lit.int .i64 a1).wf = true) :
    Calls Try.prog 3 #[.agg #[.slice A0 n0 c0], .int .i64 a1] w fun e w' => e = .returned (.bool true) ∧ Below w.heap.size w w' := by
  obtain rfl : z0.length = n0 := hr0.1
  by_cases hb0 : 1048576 < z0.length
  · clear hr0 hw0 hw1
    have hx : (1048576 : Int) < (z0.length : Int) := by omega
    go_enter Try.func3, Try.ntmps3
    go_wp2_with fail
    refine (szB_no _ _ _ _ _ hx (by omega) (by omega) hn0).mono ?_
    rintro e w' ⟨rfl, hb⟩
    go_wp2_with fail
    go_ret
    exact ⟨rfl, (below_box2 _ _).trans (hb.mono (by simp))⟩
  have hq0 : z0.length ≤ 1048576 := by omega
  clear hb0 hn0
  have R0 : Hid (ReadW w w.heap.size (.slice A0 z0.length c0) z0) := Lib.hid (ReadW.mk' hr0)
  clear hr0
  have HW0 := Lib.hid hw0
  clear hw0
  have HW1 := Lib.hid hw1
  clear hw1
  have HS := fun (W : World) (v0 : Value) (h0 : ReadI W W.heap.size v0 z0) => hid_in (specMeetCurvette_any v0 z0 a1 W h0 hq0 HW0.out HW1.out)
  have HI := fun (W : World) (v0 : Value) (h0 : ReadI W W.heap.size v0 z0) => hid_in (implMeetCurvette_any v0 z0 a1 W h0 hq0 HW0.out HW1.out)
  generalize (mcA z0 a1) = K0 at *
  generalize (mcC z0 a1) = K1 at *
  obtain ⟨w1, HE1⟩ : ∃ W, W = w.alloc (.cells #[.slice A0 z0.length c0] 24) := ⟨_, rfl⟩
  have hb : Below w.heap.size w w1 := by rw [HE1]; exact below_box2 _ _
  have hq : BoxI w1 w.heap.size (.slice A0 z0.length c0) := by rw [HE1]; exact BoxI.new _ _ _
  have hsz : w.heap.size + 1 ≤ w1.heap.size := by rw [HE1]; simp
  have O1 := Lib.hid hq; clear hq
  have HEQ1 := Lib.hid HE1; clear HE1
  have B1 := Lib.hid hb; have S1 : Hid (w.heap.size + 1 ≤ w1.heap.size) := Lib.hid (by exact hsz); clear hb
  clear hsz
  have C1 := Lib.hid B1.out
  go_enter Try.func3, Try.ntmps3
  go_wp2_with fail
  rw [← HEQ1.out]
  refine (szB_yes _ _ _ _ w1 (by omega) (by omega)).mono ?_
  rintro e w2 ⟨rfl, hb⟩
  have B2 := Lib.hid hb; have S2 : Hid (w1.heap.size ≤ w2.heap.size) := Lib.hid (by exact hb.size); clear hb
  have C2 := Lib.hid (C1.out.trans (B2.out.mono C1.out.size))
  have hsl0 : (0 : Int) ≤ 1048576 - (z0.length : Int) := by omega
  have q_P0 := (O1.out.kept (Kept.of_below B2.out (by have s1 := S1.out; have s2 := S2.out; omega)))
  have qc_P0 := q_P0.1; have qs_P0 := q_P0.2; clear q_P0
  go_wp2_with fail
  clear qc_P0 qs_P0
  refine (toB _ z0 w2 ((R0.out.below C2.out).more C2.out.size) hq0).mono ?_
  rintro e w3 ⟨x3, rfl, ho, hb⟩
  obtain ⟨xa3, xc3, rfl⟩ := own_form ho.1
  have O3 := Lib.hid ho; clear ho
  have B3 := Lib.hid hb; have S3 : Hid (w2.heap.size ≤ w3.heap.size) := Lib.hid (by exact hb.size); clear hb
  have C3 := Lib.hid (C2.out.trans (B3.out.mono C2.out.size))
  have q_P0 := (O1.out.kept (Kept.trans (Kept.of_below B2.out (by have s1 := S1.out; have s2 := S2.out; have s3 := S3.out; omega)) (Kept.of_below B3.out (by have s1 := S1.out; have s2 := S2.out; have s3 := S3.out; omega))))
  have qc_P0 := q_P0.1; have qs_P0 := q_P0.2; clear q_P0
  go_wp2_with fail
  clear qc_P0 qs_P0
  refine (hid_out (HS w3 (.slice xa3 z0.length xc3) (O3.out.reads))).mono ?_
  rintro e w4 ⟨rfl, hb⟩
  have B4 := Lib.hid hb; have S4 : Hid (w3.heap.size ≤ w4.heap.size) := Lib.hid (by exact hb.size); clear hb
  have C4 := Lib.hid (C3.out.trans (B4.out.mono C3.out.size))
  have q_P0 := (O1.out.kept (Kept.trans (Kept.trans (Kept.of_below B2.out (by have s1 := S1.out; have s2 := S2.out; have s3 := S3.out; have s4 := S4.out; omega)) (Kept.of_below B3.out (by have s1 := S1.out; have s2 := S2.out; have s3 := S3.out; have s4 := S4.out; omega))) (Kept.of_below B4.out (by have s1 := S1.out; have s2 := S2.out; have s3 := S3.out; have s4 := S4.out; omega))))
  have qc_P0 := q_P0.1; have qs_P0 := q_P0.2; clear q_P0
  go_wp2_with fail
  clear qc_P0 qs_P0
  refine (toB _ z0 w4 ((R0.out.below C4.out).more C4.out.size) hq0).mono ?_
  rintro e w5 ⟨x5, rfl, ho, hb⟩
  obtain ⟨xa5, xc5, rfl⟩ := own_form ho.1
  have O5 := Lib.hid ho; clear ho
  have B5 := Lib.hid hb; have S5 : Hid (w4.heap.size ≤ w5.heap.size) := Lib.hid (by exact hb.size); clear hb
  have C5 := Lib.hid (C4.out.trans (B5.out.mono C4.out.size))
  obtain ⟨w6, HE6⟩ : ∃ W, W = w5.alloc (.cells #[(.slice xa5 z0.length xc5)] 28) := ⟨_, rfl⟩
  have hb : Below w5.heap.size w5 w6 := by rw [HE6]; exact below_box2 _ _
  have hq : BoxI w6 w5.heap.size ((.slice xa5 z0.length xc5)) := by rw [HE6]; exact BoxI.new _ _ _
  have hsz : w5.heap.size + 1 ≤ w6.heap.size := by rw [HE6]; simp
  have O6 := Lib.hid hq; clear hq
  have HEQ6 := Lib.hid HE6; clear HE6
  have B6 := Lib.hid hb; have S6 : Hid (w5.heap.size + 1 ≤ w6.heap.size) := Lib.hid (by exact hsz); clear hb
  clear hsz
  have C6 := Lib.hid (C5.out.trans (B6.out.mono C5.out.size))
  have q_P0 := (O1.out.kept (Kept.trans (Kept.trans (Kept.trans (Kept.of_below B2.out (by have s1 := S1.out; have s2 := S2.out; have s3 := S3.out; have s4 := S4.out; have s5 := S5.out; have s6 := S6.out; omega)) (Kept.of_below B3.out (by have s1 := S1.out; have s2 := S2.out; have s3 := S3.out; have s4 := S4.out; have s5 := S5.out; have s6 := S6.out; omega))) (Kept.of_below B4.out (by have s1 := S1.out; have s2 := S2.out; have s3 := S3.out; have s4 := S4.out; have s5 := S5.out; have s6 := S6.out; omega))) (Kept.of_below B5.out (by have s1 := S1.out; have s2 := S2.out; have s3 := S3.out; have s4 := S4.out; have s5 := S5.out; have s6 := S6.out; omega))))
  have qc_P0 := q_P0.1; have qs_P0 := q_P0.2; clear q_P0
  go_wp2_with fail
  rw [← HEQ6.out]
  clear qc_P0 qs_P0
  refine (hid_out (HI w6 (.slice xa5 z0.length xc5) ((O5.out.kept (Kept.of_below B6.out (by have s1 := S1.out; have s2 := S2.out; have s3 := S3.out; have s4 := S4.out; have s5 := S5.out; have s6 := S6.out; omega))).reads))).mono ?_
  rintro e w7 ⟨rfl, hb⟩
  have B7 := Lib.hid hb; have S7 : Hid (w6.heap.size ≤ w7.heap.size) := Lib.hid (by exact hb.size); clear hb
  have C7 := Lib.hid (C6.out.trans (B7.out.mono C6.out.size))
  go_wp2_with fail
  have q1 := (O6.out.kept (Kept.of_below B7.out (by have s1 := S1.out; have s2 := S2.out; have s3 := S3.out; have s4 := S4.out; have s5 := S5.out; have s6 := S6.out; have s7 := S7.out; omega))); have q2 := (O1.out.kept (Kept.trans (Kept.trans (Kept.trans (Kept.trans (Kept.trans (Kept.of_below B2.out (by have s1 := S1.out; have s2 := S2.out; have s3 := S3.out; have s4 := S4.out; have s5 := S5.out; have s6 := S6.out; have s7 := S7.out; omega)) (Kept.of_below B3.out (by have s1 := S1.out; have s2 := S2.out; have s3 := S3.out; have s4 := S4.out; have s5 := S5.out; have s6 := S6.out; have s7 := S7.out; omega))) (Kept.of_below B4.out (by have s1 := S1.out; have s2 := S2.out; have s3 := S3.out; have s4 := S4.out; have s5 := S5.out; have s6 := S6.out; have s7 := S7.out; omega))) (Kept.of_below B5.out (by have s1 := S1.out; have s2 := S2.out; have s3 := S3.out; have s4 := S4.out; have s5 := S5.out; have s6 := S6.out; have s7 := S7.out; omega))) (Kept.of_below B6.out (by have s1 := S1.out; have s2 := S2.out; have s3 := S3.out; have s4 := S4.out; have s5 := S5.out; have s6 := S6.out; have s7 := S7.out; omega))) (Kept.of_below B7.out (by have s1 := S1.out; have s2 := S2.out; have s3 := S3.out; have s4 := S4.out; have s5 := S5.out; have s6 := S6.out; have s7 := S7.out; omega))))
  have RR : Hid (ReadW w7 w7.heap.size (.slice A0 z0.length c0) z0) := Lib.hid ((R0.out.below C7.out).more C7.out.size)
  refine wp_region_held_drew (S := fun w' => w'.cell? ⟨w5.heap.size, 0, none⟩ = some ((.slice xa5 z0.length xc5)) ∧ w'.cell? ⟨w.heap.size, 0, none⟩ = some (.slice A0 z0.length c0)) (by kernel_rfl) ⟨q1.1, q2.1⟩ (fun hHeld => ?_)
  refine takeY 0 _ (v := ?_) rfl rfl (by kernel_rfl) (by kernel_rfl) (by kernel_rfl) (fun _ _ _ h => h) (by kernel_rfl) ?_ (by assumption) ?_
  rotate_left 1
  · intro w hSw; (try dsimp only at hSw); go_simp; (try with_reducible rfl)
  try simp only [Act.put, List.setIfInBounds_toArray, List.set_cons_zero, List.set_cons_succ]
  refine takeY 1 _ (v := ?_) rfl rfl (by kernel_rfl) (by kernel_rfl) (by kernel_rfl) (fun _ _ _ h => h) (by kernel_rfl) ?_ (by assumption) ?_
  rotate_left 1
  · intro w hSw; (try dsimp only at hSw); go_simp; (try with_reducible rfl)
  try simp only [Act.put, List.setIfInBounds_toArray, List.set_cons_zero, List.set_cons_succ]
  refine wpAnyH_ready (rs := [2]) (by kernel_rfl) (by simp) ?_
  refine AllReadyH.cons rfl (fun K hK => ?_) AllReadyH.nil
  go_simp
  refine (toB_drew _ z0 w7 RR.out hq0).mono ?_
  rintro e w8 ⟨x8, rfl, ho, hb⟩
  obtain ⟨xa8, xc8, rfl⟩ := own_form ho.1
  have O8 := Lib.hid ho; clear ho
  have B8 := Lib.hid hb; have S8 : Hid (w7.heap.size ≤ w8.heap.size) := Lib.hid (by exact hb.size); clear hb
  have C8 := Lib.hid (C7.out.trans (B8.out.mono C7.out.size))
  have q3 := (O6.out.kept (Kept.trans (Kept.of_below B7.out (by have s1 := S1.out; have s2 := S2.out; have s3 := S3.out; have s4 := S4.out; have s5 := S5.out; have s6 := S6.out; have s7 := S7.out; have s8 := S8.out; omega)) (Kept.of_below B8.out (by have s1 := S1.out; have s2 := S2.out; have s3 := S3.out; have s4 := S4.out; have s5 := S5.out; have s6 := S6.out; have s7 := S7.out; have s8 := S8.out; omega)))); have q4 := (O1.out.kept (Kept.trans (Kept.trans (Kept.trans (Kept.trans (Kept.trans (Kept.trans (Kept.of_below B2.out (by have s1 := S1.out; have s2 := S2.out; have s3 := S3.out; have s4 := S4.out; have s5 := S5.out; have s6 := S6.out; have s7 := S7.out; have s8 := S8.out; omega)) (Kept.of_below B3.out (by have s1 := S1.out; have s2 := S2.out; have s3 := S3.out; have s4 := S4.out; have s5 := S5.out; have s6 := S6.out; have s7 := S7.out; have s8 := S8.out; omega))) (Kept.of_below B4.out (by have s1 := S1.out; have s2 := S2.out; have s3 := S3.out; have s4 := S4.out; have s5 := S5.out; have s6 := S6.out; have s7 := S7.out; have s8 := S8.out; omega))) (Kept.of_below B5.out (by have s1 := S1.out; have s2 := S2.out; have s3 := S3.out; have s4 := S4.out; have s5 := S5.out; have s6 := S6.out; have s7 := S7.out; have s8 := S8.out; omega))) (Kept.of_below B6.out (by have s1 := S1.out; have s2 := S2.out; have s3 := S3.out; have s4 := S4.out; have s5 := S5.out; have s6 := S6.out; have s7 := S7.out; have s8 := S8.out; omega))) (Kept.of_below B7.out (by have s1 := S1.out; have s2 := S2.out; have s3 := S3.out; have s4 := S4.out; have s5 := S5.out; have s6 := S6.out; have s7 := S7.out; have s8 := S8.out; omega))) (Kept.of_below B8.out (by have s1 := S1.out; have s2 := S2.out; have s3 := S3.out; have s4 := S4.out; have s5 := S5.out; have s6 := S6.out; have s7 := S7.out; have s8 := S8.out; omega))))
  refine hK.out _ _ ⟨q3.1, q4.1⟩ (fun hHeld => ?_)
  clear hK K
  try simp only [Act.put, List.setIfInBounds_toArray, List.set_cons_zero, List.set_cons_succ]
  refine wpAnyH_ready (rs := [3]) (by kernel_rfl) (by simp) ?_
  refine AllReadyH.cons rfl (fun K hK => ?_) AllReadyH.nil
  go_simp
  refine (eqB _ _ z0 w8 ((O5.out.kept (Kept.trans (Kept.trans (Kept.of_below B6.out (by have s1 := S1.out; have s2 := S2.out; have s3 := S3.out; have s4 := S4.out; have s5 := S5.out; have s6 := S6.out; have s7 := S7.out; have s8 := S8.out; omega)) (Kept.of_below B7.out (by have s1 := S1.out; have s2 := S2.out; have s3 := S3.out; have s4 := S4.out; have s5 := S5.out; have s6 := S6.out; have s7 := S7.out; have s8 := S8.out; omega))) (Kept.of_below B8.out (by have s1 := S1.out; have s2 := S2.out; have s3 := S3.out; have s4 := S4.out; have s5 := S5.out; have s6 := S6.out; have s7 := S7.out; have s8 := S8.out; omega)))).reads) (O8.out.reads) (by omega)).mono ?_
  rintro e w9 ⟨rfl, hb⟩
  have B9 := Lib.hid hb; have S9 : Hid (w8.heap.size ≤ w9.heap.size) := Lib.hid (by exact hb.size); clear hb
  have C9 := Lib.hid (C8.out.trans (B9.out.mono C8.out.size))
  have q5 := (O6.out.kept (Kept.trans (Kept.trans (Kept.of_below B7.out (by have s1 := S1.out; have s2 := S2.out; have s3 := S3.out; have s4 := S4.out; have s5 := S5.out; have s6 := S6.out; have s7 := S7.out; have s8 := S8.out; have s9 := S9.out; omega)) (Kept.of_below B8.out (by have s1 := S1.out; have s2 := S2.out; have s3 := S3.out; have s4 := S4.out; have s5 := S5.out; have s6 := S6.out; have s7 := S7.out; have s8 := S8.out; have s9 := S9.out; omega))) (Kept.of_below B9.out (by have s1 := S1.out; have s2 := S2.out; have s3 := S3.out; have s4 := S4.out; have s5 := S5.out; have s6 := S6.out; have s7 := S7.out; have s8 := S8.out; have s9 := S9.out; omega)))); have q6 := (O1.out.kept (Kept.trans (Kept.trans (Kept.trans (Kept.trans (Kept.trans (Kept.trans (Kept.trans (Kept.of_below B2.out (by have s1 := S1.out; have s2 := S2.out; have s3 := S3.out; have s4 := S4.out; have s5 := S5.out; have s6 := S6.out; have s7 := S7.out; have s8 := S8.out; have s9 := S9.out; omega)) (Kept.of_below B3.out (by have s1 := S1.out; have s2 := S2.out; have s3 := S3.out; have s4 := S4.out; have s5 := S5.out; have s6 := S6.out; have s7 := S7.out; have s8 := S8.out; have s9 := S9.out; omega))) (Kept.of_below B4.out (by have s1 := S1.out; have s2 := S2.out; have s3 := S3.out; have s4 := S4.out; have s5 := S5.out; have s6 := S6.out; have s7 := S7.out; have s8 := S8.out; have s9 := S9.out; omega))) (Kept.of_below B5.out (by have s1 := S1.out; have s2 := S2.out; have s3 := S3.out; have s4 := S4.out; have s5 := S5.out; have s6 := S6.out; have s7 := S7.out; have s8 := S8.out; have s9 := S9.out; omega))) (Kept.of_below B6.out (by have s1 := S1.out; have s2 := S2.out; have s3 := S3.out; have s4 := S4.out; have s5 := S5.out; have s6 := S6.out; have s7 := S7.out; have s8 := S8.out; have s9 := S9.out; omega))) (Kept.of_below B7.out (by have s1 := S1.out; have s2 := S2.out; have s3 := S3.out; have s4 := S4.out; have s5 := S5.out; have s6 := S6.out; have s7 := S7.out; have s8 := S8.out; have s9 := S9.out; omega))) (Kept.of_below B8.out (by have s1 := S1.out; have s2 := S2.out; have s3 := S3.out; have s4 := S4.out; have s5 := S5.out; have s6 := S6.out; have s7 := S7.out; have s8 := S8.out; have s9 := S9.out; omega))) (Kept.of_below B9.out (by have s1 := S1.out; have s2 := S2.out; have s3 := S3.out; have s4 := S4.out; have s5 := S5.out; have s6 := S6.out; have s7 := S7.out; have s8 := S8.out; have s9 := S9.out; omega))))
  refine hK.out _ _ ⟨q5.1, q6.1⟩ (fun hHeld => ?_)
  clear hK K
  try simp only [Act.put, List.setIfInBounds_toArray, List.set_cons_zero, List.set_cons_succ]
  refine takeY 4 _ (v := ?_) rfl rfl (by kernel_rfl) (by kernel_rfl) (by kernel_rfl) (fun _ _ _ h => h) (by kernel_rfl) ?_ (by assumption) ?_
  rotate_left 1
  · intro w hSw; (try dsimp only at hSw); go_simp; (try with_reducible rfl)
  try simp only [Act.put, List.setIfInBounds_toArray, List.set_cons_zero, List.set_cons_succ]
  refine wpAnyH_done (by kernel_rfl) ?_ _
  clear q1 q2 q3 q4 q5 q6 hHeld RR
  go_wp2_with fail
  go_ret
  exact ⟨rfl, C9.out⟩
end Go.Proofs.Ytohbgfmjnanlkaa
