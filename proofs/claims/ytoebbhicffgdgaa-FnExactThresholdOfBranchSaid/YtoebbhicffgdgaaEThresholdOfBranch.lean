/- For all arguments, impl.ThresholdOfBranch answers as spec.ThresholdOfBranch does, leaves its arguments alone and answers in memory of its own: laws.FnExactThresholdOfBranch returns true. No condition. -/
import Derived.Test.YtoebbhicffgdgaaThS
import Derived.Test.YtoebbhicffgdgaaZA
import Derived.Test.YtoebbhicffgdgaaZB
namespace Go.Proofs.Ytoebbhicffgdgaa
open Go.ChangeShapes Go.WideShapes Go.ChangeAt Go.RowKit
set_option linter.unusedVariables false
set_option linter.unusedSimpArgs false

set_option maxHeartbeats 1000000 in
theorem FnExactThresholdOfBranch_walk (w : World) (A0 : Option Addr) (n0 c0 : Nat) (z0 : List Int) (hr0 : RI w w.heap.size A0 n0 z0) (hn0 : n0 ≤ 9223372036854775807) (hw0 : ∀ z ∈ z0, (Lit.int .i64 z).wf = true) :
    Calls Try.prog 16 #[.agg #[.slice A0 n0 c0]] w fun e w' => e = .returned (.bool true) ∧ Below w.heap.size w w' := by
  obtain rfl : z0.length = n0 := hr0.1
  by_cases hb0 : 1048576 < z0.length
  · clear hr0 hw0
    have hx : (1048576 : Int) < (z0.length : Int) := by omega
    go_enter Try.func16, Try.ntmps16
    go_wp2_with fail
    refine (szB_no _ _ _ _ _ hx (by omega) (by omega) hn0).mono ?_
    rintro e w' ⟨rfl, hb⟩
    go_wp2_with fail
    go_ret
    exact ⟨rfl, (below_box2 _ _).trans (hb.mono (by simp))⟩
  have hq0 : z0.length ≤ 1048576 := by omega
  clear hb0 hn0
  have R0 : Hid (ReadW w w.heap.size (.slice A0 z0.length c0) z0) := Lib.hid (ReadW.mk' hr0)
  clear hr0
  have HW0 := Lib.hid hw0
  clear hw0
  have HS := fun (W : World) (v0 : Value) (h0 : ReadI W W.heap.size v0 z0) => hid_in (specThresholdOfBranch_any v0 z0 W h0 hq0 HW0.out)
  have HI := fun (W : World) (v0 : Value) (h0 : ReadI W W.heap.size v0 z0) => hid_in (implThresholdOfBranch_any v0 z0 W h0 hq0 HW0.out)
  generalize (thT z0) = KT0 at *
  generalize (thB z0) = KB0 at *
  generalize (thC z0) = K1 at *
  obtain ⟨w1, HE1⟩ : ∃ W, W = w.alloc (.cells #[.slice A0 z0.length c0] 48) := ⟨_, rfl⟩
  have hb : Below w.heap.size w w1 := by rw [HE1]; exact below_box2 _ _
  have hq : BoxI w1 w.heap.size (.slice A0 z0.length c0) := by rw [HE1]; exact BoxI.new _ _ _
  have hsz : w.heap.size + 1 ≤ w1.heap.size := by rw [HE1]; simp
  have O1 := Lib.hid hq; clear hq
  have HEQ1 := Lib.hid HE1; clear HE1
  have B1 := Lib.hid hb; have S1 : Hid (w.heap.size + 1 ≤ w1.heap.size) := Lib.hid (by exact hsz); clear hb
  clear hsz
  have C1 := Lib.hid B1.out
  go_enter Try.func16, Try.ntmps16
  go_wp2_with fail
  rw [← HEQ1.out]
  refine (szB_yes _ _ _ _ w1 (by omega) (by omega)).mono ?_
  rintro e w2 ⟨rfl, hb⟩
  have B2 := Lib.hid hb; have S2 : Hid (w1.heap.size ≤ w2.heap.size) := Lib.hid (by exact hb.size); clear hb
  have C2 := Lib.hid (C1.out.trans (B2.out.mono C1.out.size))
  have hsl0 : (0 : Int) ≤ 1048576 - (z0.length : Int) := by omega
  have q_P0 := (O1.out.kept (Kept.of_below B2.out (by have s1 := S1.out; have s2 := S2.out; omega)))
  have qc_P0 := q_P0.1; have qs_P0 := q_P0.2; clear q_P0
  go_wp2_with fail
  clear qc_P0 qs_P0
  refine (toB _ z0 w2 ((R0.out.below C2.out).more C2.out.size) hq0).mono ?_
  rintro e w3 ⟨x3, rfl, ho, hb⟩
  obtain ⟨xa3, xc3, rfl⟩ := own_form ho.1
  have O3 := Lib.hid ho; clear ho
  have B3 := Lib.hid hb; have S3 : Hid (w2.heap.size ≤ w3.heap.size) := Lib.hid (by exact hb.size); clear hb
  have C3 := Lib.hid (C2.out.trans (B3.out.mono C2.out.size))
  have q_P0 := (O1.out.kept (Kept.trans (Kept.of_below B2.out (by have s1 := S1.out; have s2 := S2.out; have s3 := S3.out; omega)) (Kept.of_below B3.out (by have s1 := S1.out; have s2 := S2.out; have s3 := S3.out; omega))))
  have qc_P0 := q_P0.1; have qs_P0 := q_P0.2; clear q_P0
  go_wp2_with fail
  clear qc_P0 qs_P0
  refine (hid_out (HS w3 (.slice xa3 z0.length xc3) (O3.out.reads))).mono ?_
  rintro e w4 ⟨rfl, hb⟩
  have B4 := Lib.hid hb; have S4 : Hid (w3.heap.size ≤ w4.heap.size) := Lib.hid (by exact hb.size); clear hb
  have C4 := Lib.hid (C3.out.trans (B4.out.mono C3.out.size))
  obtain ⟨w5, HE5⟩ : ∃ W, W = w4.alloc (.cells #[.int .i64 KT0, .int .i64 KB0] 45) := ⟨_, rfl⟩
  have hb : Below w4.heap.size w4 w5 := by rw [HE5]; exact below_box2 _ _
  have hq : BoxF w5 w4.heap.size KT0 KB0 := by rw [HE5]; exact BoxF.new _ _ _ _
  have hsz : w4.heap.size + 1 ≤ w5.heap.size := by rw [HE5]; simp
  have O5 := Lib.hid hq; clear hq
  have HEQ5 := Lib.hid HE5; clear HE5
  have B5 := Lib.hid hb; have S5 : Hid (w4.heap.size + 1 ≤ w5.heap.size) := Lib.hid (by exact hsz); clear hb
  clear hsz
  have C5 := Lib.hid (C4.out.trans (B5.out.mono C4.out.size))
  have q_P0 := (O1.out.kept (Kept.trans (Kept.trans (Kept.of_below B2.out (by have s1 := S1.out; have s2 := S2.out; have s3 := S3.out; have s4 := S4.out; have s5 := S5.out; omega)) (Kept.of_below B3.out (by have s1 := S1.out; have s2 := S2.out; have s3 := S3.out; have s4 := S4.out; have s5 := S5.out; omega))) (Kept.of_below B4.out (by have s1 := S1.out; have s2 := S2.out; have s3 := S3.out; have s4 := S4.out; have s5 := S5.out; omega))))
  have qc_P0 := q_P0.1; have qs_P0 := q_P0.2; clear q_P0
  go_wp2_with fail
  rw [← HEQ5.out]
  clear qc_P0 qs_P0
  refine (toB _ z0 w5 ((R0.out.below C5.out).more C5.out.size) hq0).mono ?_
  rintro e w6 ⟨x6, rfl, ho, hb⟩
  obtain ⟨xa6, xc6, rfl⟩ := own_form ho.1
  have O6 := Lib.hid ho; clear ho
  have B6 := Lib.hid hb; have S6 : Hid (w5.heap.size ≤ w6.heap.size) := Lib.hid (by exact hb.size); clear hb
  have C6 := Lib.hid (C5.out.trans (B6.out.mono C5.out.size))
  obtain ⟨w7, HE7⟩ : ∃ W, W = w6.alloc (.cells #[(.slice xa6 z0.length xc6)] 26) := ⟨_, rfl⟩
  have hb : Below w6.heap.size w6 w7 := by rw [HE7]; exact below_box2 _ _
  have hq : BoxI w7 w6.heap.size ((.slice xa6 z0.length xc6)) := by rw [HE7]; exact BoxI.new _ _ _
  have hsz : w6.heap.size + 1 ≤ w7.heap.size := by rw [HE7]; simp
  have O7 := Lib.hid hq; clear hq
  have HEQ7 := Lib.hid HE7; clear HE7
  have B7 := Lib.hid hb; have S7 : Hid (w6.heap.size + 1 ≤ w7.heap.size) := Lib.hid (by exact hsz); clear hb
  clear hsz
  have C7 := Lib.hid (C6.out.trans (B7.out.mono C6.out.size))
  have q_P0 := (O1.out.kept (Kept.trans (Kept.trans (Kept.trans (Kept.trans (Kept.of_below B2.out (by have s1 := S1.out; have s2 := S2.out; have s3 := S3.out; have s4 := S4.out; have s5 := S5.out; have s6 := S6.out; have s7 := S7.out; omega)) (Kept.of_below B3.out (by have s1 := S1.out; have s2 := S2.out; have s3 := S3.out; have s4 := S4.out; have s5 := S5.out; have s6 := S6.out; have s7 := S7.out; omega))) (Kept.of_below B4.out (by have s1 := S1.out; have s2 := S2.out; have s3 := S3.out; have s4 := S4.out; have s5 := S5.out; have s6 := S6.out; have s7 := S7.out; omega))) (Kept.of_below B5.out (by have s1 := S1.out; have s2 := S2.out; have s3 := S3.out; have s4 := S4.out; have s5 := S5.out; have s6 := S6.out; have s7 := S7.out; omega))) (Kept.of_below B6.out (by have s1 := S1.out; have s2 := S2.out; have s3 := S3.out; have s4 := S4.out; have s5 := S5.out; have s6 := S6.out; have s7 := S7.out; omega))))
  have qc_P0 := q_P0.1; have qs_P0 := q_P0.2; clear q_P0
  have q_F4_0 := (O5.out.kept (Kept.of_below B6.out (by have s1 := S1.out; have s2 := S2.out; have s3 := S3.out; have s4 := S4.out; have s5 := S5.out; have s6 := S6.out; have s7 := S7.out; omega)))
  have qc_F4_0 := q_F4_0.1; have qd_F4_0 := q_F4_0.2.1; have qs_F4_0 := q_F4_0.2.2; clear q_F4_0
  go_wp2_with fail
  rw [← HEQ7.out]
  clear qc_P0 qs_P0 qc_F4_0 qd_F4_0 qs_F4_0
  refine (hid_out (HI w7 (.slice xa6 z0.length xc6) ((O6.out.kept (Kept.of_below B7.out (by have s1 := S1.out; have s2 := S2.out; have s3 := S3.out; have s4 := S4.out; have s5 := S5.out; have s6 := S6.out; have s7 := S7.out; omega))).reads))).mono ?_
  rintro e w8 ⟨rfl, hb⟩
  have B8 := Lib.hid hb; have S8 : Hid (w7.heap.size ≤ w8.heap.size) := Lib.hid (by exact hb.size); clear hb
  have C8 := Lib.hid (C7.out.trans (B8.out.mono C7.out.size))
  obtain ⟨w9, HE9⟩ : ∃ W, W = w8.alloc (.cells #[.int .i64 KT0, .int .i64 KB0] 45) := ⟨_, rfl⟩
  have hb : Below w8.heap.size w8 w9 := by rw [HE9]; exact below_box2 _ _
  have hq : BoxF w9 w8.heap.size KT0 KB0 := by rw [HE9]; exact BoxF.new _ _ _ _
  have hsz : w8.heap.size + 1 ≤ w9.heap.size := by rw [HE9]; simp
  have O9 := Lib.hid hq; clear hq
  have HEQ9 := Lib.hid HE9; clear HE9
  have B9 := Lib.hid hb; have S9 : Hid (w8.heap.size + 1 ≤ w9.heap.size) := Lib.hid (by exact hsz); clear hb
  clear hsz
  have C9 := Lib.hid (C8.out.trans (B9.out.mono C8.out.size))
  have q_P0 := (O1.out.kept (Kept.trans (Kept.trans (Kept.trans (Kept.trans (Kept.trans (Kept.trans (Kept.of_below B2.out (by have s1 := S1.out; have s2 := S2.out; have s3 := S3.out; have s4 := S4.out; have s5 := S5.out; have s6 := S6.out; have s7 := S7.out; have s8 := S8.out; have s9 := S9.out; omega)) (Kept.of_below B3.out (by have s1 := S1.out; have s2 := S2.out; have s3 := S3.out; have s4 := S4.out; have s5 := S5.out; have s6 := S6.out; have s7 := S7.out; have s8 := S8.out; have s9 := S9.out; omega))) (Kept.of_below B4.out (by have s1 := S1.out; have s2 := S2.out; have s3 := S3.out; have s4 := S4.out; have s5 := S5.out; have s6 := S6.out; have s7 := S7.out; have s8 := S8.out; have s9 := S9.out; omega))) (Kept.of_below B5.out (by have s1 := S1.out; have s2 := S2.out; have s3 := S3.out; have s4 := S4.out; have s5 := S5.out; have s6 := S6.out; have s7 := S7.out; have s8 := S8.out; have s9 := S9.out; omega))) (Kept.of_below B6.out (by have s1 := S1.out; have s2 := S2.out; have s3 := S3.out; have s4 := S4.out; have s5 := S5.out; have s6 := S6.out; have s7 := S7.out; have s8 := S8.out; have s9 := S9.out; omega))) (Kept.of_below B7.out (by have s1 := S1.out; have s2 := S2.out; have s3 := S3.out; have s4 := S4.out; have s5 := S5.out; have s6 := S6.out; have s7 := S7.out; have s8 := S8.out; have s9 := S9.out; omega))) (Kept.of_below B8.out (by have s1 := S1.out; have s2 := S2.out; have s3 := S3.out; have s4 := S4.out; have s5 := S5.out; have s6 := S6.out; have s7 := S7.out; have s8 := S8.out; have s9 := S9.out; omega))))
  have qc_P0 := q_P0.1; have qs_P0 := q_P0.2; clear q_P0
  have q_F4_0 := (O5.out.kept (Kept.trans (Kept.trans (Kept.of_below B6.out (by have s1 := S1.out; have s2 := S2.out; have s3 := S3.out; have s4 := S4.out; have s5 := S5.out; have s6 := S6.out; have s7 := S7.out; have s8 := S8.out; have s9 := S9.out; omega)) (Kept.of_below B7.out (by have s1 := S1.out; have s2 := S2.out; have s3 := S3.out; have s4 := S4.out; have s5 := S5.out; have s6 := S6.out; have s7 := S7.out; have s8 := S8.out; have s9 := S9.out; omega))) (Kept.of_below B8.out (by have s1 := S1.out; have s2 := S2.out; have s3 := S3.out; have s4 := S4.out; have s5 := S5.out; have s6 := S6.out; have s7 := S7.out; have s8 := S8.out; have s9 := S9.out; omega))))
  have qc_F4_0 := q_F4_0.1; have qd_F4_0 := q_F4_0.2.1; have qs_F4_0 := q_F4_0.2.2; clear q_F4_0
  have q_bX6 := (O7.out.kept (Kept.of_below B8.out (by have s1 := S1.out; have s2 := S2.out; have s3 := S3.out; have s4 := S4.out; have s5 := S5.out; have s6 := S6.out; have s7 := S7.out; have s8 := S8.out; have s9 := S9.out; omega)))
  have qc_bX6 := q_bX6.1; have qs_bX6 := q_bX6.2; clear q_bX6
  go_wp2_with fail
  rw [← HEQ9.out]
  clear qc_P0 qs_P0 qc_F4_0 qd_F4_0 qs_F4_0 qc_bX6 qs_bX6
  refine (eqFraction_same KT0 KB0 w9).mono ?_
  rintro e w10 ⟨rfl, hb⟩
  have B10 := Lib.hid hb; have S10 : Hid (w9.heap.size ≤ w10.heap.size) := Lib.hid (by exact hb.size); clear hb
  have C10 := Lib.hid (C9.out.trans (B10.out.mono C9.out.size))
  go_wp2_with fail
  have q1 := (O7.out.kept (Kept.trans (Kept.trans (Kept.of_below B8.out (by have s1 := S1.out; have s2 := S2.out; have s3 := S3.out; have s4 := S4.out; have s5 := S5.out; have s6 := S6.out; have s7 := S7.out; have s8 := S8.out; have s9 := S9.out; have s10 := S10.out; omega)) (Kept.of_below B9.out (by have s1 := S1.out; have s2 := S2.out; have s3 := S3.out; have s4 := S4.out; have s5 := S5.out; have s6 := S6.out; have s7 := S7.out; have s8 := S8.out; have s9 := S9.out; have s10 := S10.out; omega))) (Kept.of_below B10.out (by have s1 := S1.out; have s2 := S2.out; have s3 := S3.out; have s4 := S4.out; have s5 := S5.out; have s6 := S6.out; have s7 := S7.out; have s8 := S8.out; have s9 := S9.out; have s10 := S10.out; omega)))); have q2 := (O1.out.kept (Kept.trans (Kept.trans (Kept.trans (Kept.trans (Kept.trans (Kept.trans (Kept.trans (Kept.trans (Kept.of_below B2.out (by have s1 := S1.out; have s2 := S2.out; have s3 := S3.out; have s4 := S4.out; have s5 := S5.out; have s6 := S6.out; have s7 := S7.out; have s8 := S8.out; have s9 := S9.out; have s10 := S10.out; omega)) (Kept.of_below B3.out (by have s1 := S1.out; have s2 := S2.out; have s3 := S3.out; have s4 := S4.out; have s5 := S5.out; have s6 := S6.out; have s7 := S7.out; have s8 := S8.out; have s9 := S9.out; have s10 := S10.out; omega))) (Kept.of_below B4.out (by have s1 := S1.out; have s2 := S2.out; have s3 := S3.out; have s4 := S4.out; have s5 := S5.out; have s6 := S6.out; have s7 := S7.out; have s8 := S8.out; have s9 := S9.out; have s10 := S10.out; omega))) (Kept.of_below B5.out (by have s1 := S1.out; have s2 := S2.out; have s3 := S3.out; have s4 := S4.out; have s5 := S5.out; have s6 := S6.out; have s7 := S7.out; have s8 := S8.out; have s9 := S9.out; have s10 := S10.out; omega))) (Kept.of_below B6.out (by have s1 := S1.out; have s2 := S2.out; have s3 := S3.out; have s4 := S4.out; have s5 := S5.out; have s6 := S6.out; have s7 := S7.out; have s8 := S8.out; have s9 := S9.out; have s10 := S10.out; omega))) (Kept.of_below B7.out (by have s1 := S1.out; have s2 := S2.out; have s3 := S3.out; have s4 := S4.out; have s5 := S5.out; have s6 := S6.out; have s7 := S7.out; have s8 := S8.out; have s9 := S9.out; have s10 := S10.out; omega))) (Kept.of_below B8.out (by have s1 := S1.out; have s2 := S2.out; have s3 := S3.out; have s4 := S4.out; have s5 := S5.out; have s6 := S6.out; have s7 := S7.out; have s8 := S8.out; have s9 := S9.out; have s10 := S10.out; omega))) (Kept.of_below B9.out (by have s1 := S1.out; have s2 := S2.out; have s3 := S3.out; have s4 := S4.out; have s5 := S5.out; have s6 := S6.out; have s7 := S7.out; have s8 := S8.out; have s9 := S9.out; have s10 := S10.out; omega))) (Kept.of_below B10.out (by have s1 := S1.out; have s2 := S2.out; have s3 := S3.out; have s4 := S4.out; have s5 := S5.out; have s6 := S6.out; have s7 := S7.out; have s8 := S8.out; have s9 := S9.out; have s10 := S10.out; omega))))
  have RR : Hid (ReadW w10 w10.heap.size (.slice A0 z0.length c0) z0) := Lib.hid ((R0.out.below C10.out).more C10.out.size)
  refine wp_region_held_drew (S := fun w' => w'.cell? ⟨w6.heap.size, 0, none⟩ = some ((.slice xa6 z0.length xc6)) ∧ w'.cell? ⟨w.heap.size, 0, none⟩ = some (.slice A0 z0.length c0)) (by kernel_rfl) ⟨q1.1, q2.1⟩ (fun hHeld => ?_)
  refine takeY 0 _ (v := ?_) rfl rfl (by kernel_rfl) (by kernel_rfl) (by kernel_rfl) (fun _ _ _ h => h) (by kernel_rfl) ?_ (by assumption) ?_
  rotate_left 1
  · intro w hSw; (try dsimp only at hSw); go_simp; (try with_reducible rfl)
  try simp only [Act.put, List.setIfInBounds_toArray, List.set_cons_zero, List.set_cons_succ]
  refine takeY 1 _ (v := ?_) rfl rfl (by kernel_rfl) (by kernel_rfl) (by kernel_rfl) (fun _ _ _ h => h) (by kernel_rfl) ?_ (by assumption) ?_
  rotate_left 1
  · intro w hSw; (try dsimp only at hSw); go_simp; (try with_reducible rfl)
  try simp only [Act.put, List.setIfInBounds_toArray, List.set_cons_zero, List.set_cons_succ]
  refine wpAnyH_ready (rs := [2]) (by kernel_rfl) (by simp) ?_
  refine AllReadyH.cons rfl (fun K hK => ?_) AllReadyH.nil
  go_simp
  refine (toB_drew _ z0 w10 RR.out hq0).mono ?_
  rintro e w11 ⟨x11, rfl, ho, hb⟩
  obtain ⟨xa11, xc11, rfl⟩ := own_form ho.1
  have O11 := Lib.hid ho; clear ho
  have B11 := Lib.hid hb; have S11 : Hid (w10.heap.size ≤ w11.heap.size) := Lib.hid (by exact hb.size); clear hb
  have C11 := Lib.hid (C10.out.trans (B11.out.mono C10.out.size))
  have q3 := (O7.out.kept (Kept.trans (Kept.trans (Kept.trans (Kept.of_below B8.out (by have s1 := S1.out; have s2 := S2.out; have s3 := S3.out; have s4 := S4.out; have s5 := S5.out; have s6 := S6.out; have s7 := S7.out; have s8 := S8.out; have s9 := S9.out; have s10 := S10.out; have s11 := S11.out; omega)) (Kept.of_below B9.out (by have s1 := S1.out; have s2 := S2.out; have s3 := S3.out; have s4 := S4.out; have s5 := S5.out; have s6 := S6.out; have s7 := S7.out; have s8 := S8.out; have s9 := S9.out; have s10 := S10.out; have s11 := S11.out; omega))) (Kept.of_below B10.out (by have s1 := S1.out; have s2 := S2.out; have s3 := S3.out; have s4 := S4.out; have s5 := S5.out; have s6 := S6.out; have s7 := S7.out; have s8 := S8.out; have s9 := S9.out; have s10 := S10.out; have s11 := S11.out; omega))) (Kept.of_below B11.out (by have s1 := S1.out; have s2 := S2.out; have s3 := S3.out; have s4 := S4.out; have s5 := S5.out; have s6 := S6.out; have s7 := S7.out; have s8 := S8.out; have s9 := S9.out; have s10 := S10.out; have s11 := S11.out; omega)))); have q4 := (O1.out.kept (Kept.trans (Kept.trans (Kept.trans (Kept.trans (Kept.trans (Kept.trans (Kept.trans (Kept.trans (Kept.trans (Kept.of_below B2.out (by have s1 := S1.out; have s2 := S2.out; have s3 := S3.out; have s4 := S4.out; have s5 := S5.out; have s6 := S6.out; have s7 := S7.out; have s8 := S8.out; have s9 := S9.out; have s10 := S10.out; have s11 := S11.out; omega)) (Kept.of_below B3.out (by have s1 := S1.out; have s2 := S2.out; have s3 := S3.out; have s4 := S4.out; have s5 := S5.out; have s6 := S6.out; have s7 := S7.out; have s8 := S8.out; have s9 := S9.out; have s10 := S10.out; have s11 := S11.out; omega))) (Kept.of_below B4.out (by have s1 := S1.out; have s2 := S2.out; have s3 := S3.out; have s4 := S4.out; have s5 := S5.out; have s6 := S6.out; have s7 := S7.out; have s8 := S8.out; have s9 := S9.out; have s10 := S10.out; have s11 := S11.out; omega))) (Kept.of_below B5.out (by have s1 := S1.out; have s2 := S2.out; have s3 := S3.out; have s4 := S4.out; have s5 := S5.out; have s6 := S6.out; have s7 := S7.out; have s8 := S8.out; have s9 := S9.out; have s10 := S10.out; have s11 := S11.out; omega))) (Kept.of_below B6.out (by have s1 := S1.out; have s2 := S2.out; have s3 := S3.out; have s4 := S4.out; have s5 := S5.out; have s6 := S6.out; have s7 := S7.out; have s8 := S8.out; have s9 := S9.out; have s10 := S10.out; have s11 := S11.out; omega))) (Kept.of_below B7.out (by have s1 := S1.out; have s2 := S2.out; have s3 := S3.out; have s4 := S4.out; have s5 := S5.out; have s6 := S6.out; have s7 := S7.out; have s8 := S8.out; have s9 := S9.out; have s10 := S10.out; have s11 := S11.out; omega))) (Kept.of_below B8.out (by have s1 := S1.out; have s2 := S2.out; have s3 := S3.out; have s4 := S4.out; have s5 := S5.out; have s6 := S6.out; have s7 := S7.out; have s8 := S8.out; have s9 := S9.out; have s10 := S10.out; have s11 := S11.out; omega))) (Kept.of_below B9.out (by have s1 := S1.out; have s2 := S2.out; have s3 := S3.out; have s4 := S4.out; have s5 := S5.out; have s6 := S6.out; have s7 := S7.out; have s8 := S8.out; have s9 := S9.out; have s10 := S10.out; have s11 := S11.out; omega))) (Kept.of_below B10.out (by have s1 := S1.out; have s2 := S2.out; have s3 := S3.out; have s4 := S4.out; have s5 := S5.out; have s6 := S6.out; have s7 := S7.out; have s8 := S8.out; have s9 := S9.out; have s10 := S10.out; have s11 := S11.out; omega))) (Kept.of_below B11.out (by have s1 := S1.out; have s2 := S2.out; have s3 := S3.out; have s4 := S4.out; have s5 := S5.out; have s6 := S6.out; have s7 := S7.out; have s8 := S8.out; have s9 := S9.out; have s10 := S10.out; have s11 := S11.out; omega))))
  refine hK.out _ _ ⟨q3.1, q4.1⟩ (fun hHeld => ?_)
  clear hK K
  try simp only [Act.put, List.setIfInBounds_toArray, List.set_cons_zero, List.set_cons_succ]
  refine wpAnyH_ready (rs := [3]) (by kernel_rfl) (by simp) ?_
  refine AllReadyH.cons rfl (fun K hK => ?_) AllReadyH.nil
  go_simp
  refine (eqB _ _ z0 w11 ((O6.out.kept (Kept.trans (Kept.trans (Kept.trans (Kept.trans (Kept.of_below B7.out (by have s1 := S1.out; have s2 := S2.out; have s3 := S3.out; have s4 := S4.out; have s5 := S5.out; have s6 := S6.out; have s7 := S7.out; have s8 := S8.out; have s9 := S9.out; have s10 := S10.out; have s11 := S11.out; omega)) (Kept.of_below B8.out (by have s1 := S1.out; have s2 := S2.out; have s3 := S3.out; have s4 := S4.out; have s5 := S5.out; have s6 := S6.out; have s7 := S7.out; have s8 := S8.out; have s9 := S9.out; have s10 := S10.out; have s11 := S11.out; omega))) (Kept.of_below B9.out (by have s1 := S1.out; have s2 := S2.out; have s3 := S3.out; have s4 := S4.out; have s5 := S5.out; have s6 := S6.out; have s7 := S7.out; have s8 := S8.out; have s9 := S9.out; have s10 := S10.out; have s11 := S11.out; omega))) (Kept.of_below B10.out (by have s1 := S1.out; have s2 := S2.out; have s3 := S3.out; have s4 := S4.out; have s5 := S5.out; have s6 := S6.out; have s7 := S7.out; have s8 := S8.out; have s9 := S9.out; have s10 := S10.out; have s11 := S11.out; omega))) (Kept.of_below B11.out (by have s1 := S1.out; have s2 := S2.out; have s3 := S3.out; have s4 := S4.out; have s5 := S5.out; have s6 := S6.out; have s7 := S7.out; have s8 := S8.out; have s9 := S9.out; have s10 := S10.out; have s11 := S11.out; omega)))).reads) (O11.out.reads) (by omega)).mono ?_
  rintro e w12 ⟨rfl, hb⟩
  have B12 := Lib.hid hb; have S12 : Hid (w11.heap.size ≤ w12.heap.size) := Lib.hid (by exact hb.size); clear hb
  have C12 := Lib.hid (C11.out.trans (B12.out.mono C11.out.size))
  have q5 := (O7.out.kept (Kept.trans (Kept.trans (Kept.trans (Kept.trans (Kept.of_below B8.out (by have s1 := S1.out; have s2 := S2.out; have s3 := S3.out; have s4 := S4.out; have s5 := S5.out; have s6 := S6.out; have s7 := S7.out; have s8 := S8.out; have s9 := S9.out; have s10 := S10.out; have s11 := S11.out; have s12 := S12.out; omega)) (Kept.of_below B9.out (by have s1 := S1.out; have s2 := S2.out; have s3 := S3.out; have s4 := S4.out; have s5 := S5.out; have s6 := S6.out; have s7 := S7.out; have s8 := S8.out; have s9 := S9.out; have s10 := S10.out; have s11 := S11.out; have s12 := S12.out; omega))) (Kept.of_below B10.out (by have s1 := S1.out; have s2 := S2.out; have s3 := S3.out; have s4 := S4.out; have s5 := S5.out; have s6 := S6.out; have s7 := S7.out; have s8 := S8.out; have s9 := S9.out; have s10 := S10.out; have s11 := S11.out; have s12 := S12.out; omega))) (Kept.of_below B11.out (by have s1 := S1.out; have s2 := S2.out; have s3 := S3.out; have s4 := S4.out; have s5 := S5.out; have s6 := S6.out; have s7 := S7.out; have s8 := S8.out; have s9 := S9.out; have s10 := S10.out; have s11 := S11.out; have s12 := S12.out; omega))) (Kept.of_below B12.out (by have s1 := S1.out; have s2 := S2.out; have s3 := S3.out; have s4 := S4.out; have s5 := S5.out; have s6 := S6.out; have s7 := S7.out; have s8 := S8.out; have s9 := S9.out; have s10 := S10.out; have s11 := S11.out; have s12 := S12.out; omega)))); have q6 := (O1.out.kept (Kept.trans (Kept.trans (Kept.trans (Kept.trans (Kept.trans (Kept.trans (Kept.trans (Kept.trans (Kept.trans (Kept.trans (Kept.of_below B2.out (by have s1 := S1.out; have s2 := S2.out; have s3 := S3.out; have s4 := S4.out; have s5 := S5.out; have s6 := S6.out; have s7 := S7.out; have s8 := S8.out; have s9 := S9.out; have s10 := S10.out; have s11 := S11.out; have s12 := S12.out; omega)) (Kept.of_below B3.out (by have s1 := S1.out; have s2 := S2.out; have s3 := S3.out; have s4 := S4.out; have s5 := S5.out; have s6 := S6.out; have s7 := S7.out; have s8 := S8.out; have s9 := S9.out; have s10 := S10.out; have s11 := S11.out; have s12 := S12.out; omega))) (Kept.of_below B4.out (by have s1 := S1.out; have s2 := S2.out; have s3 := S3.out; have s4 := S4.out; have s5 := S5.out; have s6 := S6.out; have s7 := S7.out; have s8 := S8.out; have s9 := S9.out; have s10 := S10.out; have s11 := S11.out; have s12 := S12.out; omega))) (Kept.of_below B5.out (by have s1 := S1.out; have s2 := S2.out; have s3 := S3.out; have s4 := S4.out; have s5 := S5.out; have s6 := S6.out; have s7 := S7.out; have s8 := S8.out; have s9 := S9.out; have s10 := S10.out; have s11 := S11.out; have s12 := S12.out; omega))) (Kept.of_below B6.out (by have s1 := S1.out; have s2 := S2.out; have s3 := S3.out; have s4 := S4.out; have s5 := S5.out; have s6 := S6.out; have s7 := S7.out; have s8 := S8.out; have s9 := S9.out; have s10 := S10.out; have s11 := S11.out; have s12 := S12.out; omega))) (Kept.of_below B7.out (by have s1 := S1.out; have s2 := S2.out; have s3 := S3.out; have s4 := S4.out; have s5 := S5.out; have s6 := S6.out; have s7 := S7.out; have s8 := S8.out; have s9 := S9.out; have s10 := S10.out; have s11 := S11.out; have s12 := S12.out; omega))) (Kept.of_below B8.out (by have s1 := S1.out; have s2 := S2.out; have s3 := S3.out; have s4 := S4.out; have s5 := S5.out; have s6 := S6.out; have s7 := S7.out; have s8 := S8.out; have s9 := S9.out; have s10 := S10.out; have s11 := S11.out; have s12 := S12.out; omega))) (Kept.of_below B9.out (by have s1 := S1.out; have s2 := S2.out; have s3 := S3.out; have s4 := S4.out; have s5 := S5.out; have s6 := S6.out; have s7 := S7.out; have s8 := S8.out; have s9 := S9.out; have s10 := S10.out; have s11 := S11.out; have s12 := S12.out; omega))) (Kept.of_below B10.out (by have s1 := S1.out; have s2 := S2.out; have s3 := S3.out; have s4 := S4.out; have s5 := S5.out; have s6 := S6.out; have s7 := S7.out; have s8 := S8.out; have s9 := S9.out; have s10 := S10.out; have s11 := S11.out; have s12 := S12.out; omega))) (Kept.of_below B11.out (by have s1 := S1.out; have s2 := S2.out; have s3 := S3.out; have s4 := S4.out; have s5 := S5.out; have s6 := S6.out; have s7 := S7.out; have s8 := S8.out; have s9 := S9.out; have s10 := S10.out; have s11 := S11.out; have s12 := S12.out; omega))) (Kept.of_below B12.out (by have s1 := S1.out; have s2 := S2.out; have s3 := S3.out; have s4 := S4.out; have s5 := S5.out; have s6 := S6.out; have s7 := S7.out; have s8 := S8.out; have s9 := S9.out; have s10 := S10.out; have s11 := S11.out; have s12 := S12.out; omega))))
  refine hK.out _ _ ⟨q5.1, q6.1⟩ (fun hHeld => ?_)
  clear hK K
  try simp only [Act.put, List.setIfInBounds_toArray, List.set_cons_zero, List.set_cons_succ]
  refine takeY 4 _ (v := ?_) rfl rfl (by kernel_rfl) (by kernel_rfl) (by kernel_rfl) (fun _ _ _ h => h) (by kernel_rfl) ?_ (by assumption) ?_
  rotate_left 1
  · intro w hSw; (try dsimp only at hSw); go_simp; (try with_reducible rfl)
  try simp only [Act.put, List.setIfInBounds_toArray, List.set_cons_zero, List.set_cons_succ]
  refine wpAnyH_done (by kernel_rfl) ?_ _
  clear q1 q2 q3 q4 q5 q6 hHeld RR
  go_wp2_with fail
  go_ret
  exact ⟨rfl, C12.out⟩
end Go.Proofs.Ytoebbhicffgdgaa
