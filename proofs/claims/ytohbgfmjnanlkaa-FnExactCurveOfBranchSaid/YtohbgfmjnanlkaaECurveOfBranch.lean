/- For all arguments, impl.CurveOfBranch answers as spec.CurveOfBranch does, leaves its arguments alone and answers in memory of its own: laws.FnExactCurveOfBranch returns true. No condition. -/
import Derived.Test.YtohbgfmjnanlkaaCuZ
import Derived.Test.YtohbgfmjnanlkaaClX
namespace Go.Proofs.Ytohbgfmjnanlkaa
open Go.ChangeShapes Go.WideShapes Go.ChangeAt Go.RowKit
set_option linter.unusedVariables false
set_option linter.unusedSimpArgs false

set_option maxRecDepth 100000 in
set_option maxHeartbeats 2000000 in
theorem FnExactCurveOfBranch_walk (w : World) (A0 : Option Addr) (n0 c0 : Nat) (z0 : List Int) (hr0 : RI w w.heap.size A0 n0 z0) (hn0 : n0 ≤ 9223372036854775807) (hw0 : ∀ z ∈ z0, (Lit.int .i64 z).wf = true) :
    Calls Try.prog 7 #[.agg #[.slice A0 n0 c0]] w fun e w' => e = .returned (.bool true) ∧ Below w.heap.size w w' := by
  obtain rfl : z0.length = n0 := hr0.1
  by_cases hb0 : 1048576 < (z0.length : Int)
  · clear hr0 hw0
    go_enter Try.func7, Try.ntmps7
    go_wp2_with fail
    refine (szB_no _ _ _ _ _ hb0 (by omega) (by omega) hn0).mono ?_
    rintro e w' ⟨rfl, hb⟩
    go_wp2_with fail
    go_ret
    exact ⟨rfl, (below_box2 _ _).trans (hb.mono (by simp))⟩
  have hq0 : z0.length ≤ 1048576 := by omega
  have R0 : Hid (ReadW w w.heap.size (.slice A0 z0.length c0) z0) := Lib.hid (ReadW.mk' hr0)
  clear hr0 hn0
  have HW0 := Lib.hid hw0
  clear hw0
  have HS := fun (W : World) (v0 : Value) (h0 : ReadI W W.heap.size v0 z0) => hid_in (specCurveOfBranch_any v0 z0 W h0 hq0 HW0.out)
  have HI := fun (W : World) (v0 : Value) (h0 : ReadI W W.heap.size v0 z0) => hid_in (implCurveOfBranch_any v0 z0 W h0 hq0 HW0.out)
  have hl0b := obZ_bd z0 hq0
  have hl0m := obM_bd z0
  generalize (obZ z0) = L0b at *
  generalize (obM z0) = L0m at *
  generalize (obC z0) = K1_ at *
  have HU0b := Lib.hid hl0b
  have hLs0b : sumTo (lens L0b) L0b.length ≤ 1099511627 := (szTot_facts hl0b.2.2).2.2
  have hLn0b : L0b.length ≤ 1048576 := hl0b.1
  clear hl0b
  have HU0m := Lib.hid hl0m
  have hLs0m : sumTo (lens L0m) L0m.length ≤ 1099511627 := (szTot_facts hl0m.2.2).2.2
  have hLn0m : L0m.length ≤ 1048576 := hl0m.1
  clear hl0m
  have C : Hid (Below w.heap.size w w) := Lib.hid (Below.refl _ _)
  obtain ⟨w1, HE1⟩ : ∃ W, W = w.alloc (.cells #[.slice A0 z0.length c0] 24) := ⟨_, rfl⟩
  have hb : Below w.heap.size w w1 := by rw [HE1]; exact below_box2 _ _
  have hq : BoxI w1 w.heap.size (.slice A0 z0.length c0) := by rw [HE1]; exact BoxI.new _ _ _
  have hz : w.heap.size + 1 ≤ w1.heap.size := by rw [HE1]; simp
  replace C := Lib.hid (C.out.trans (hb.mono C.out.size))
  have S0 : Hid (w.heap.size ≤ w1.heap.size) := Lib.hid hb.size
  have Z1 : Hid (w.heap.size + 1 ≤ w1.heap.size) := Lib.hid hz
  have K1 := Lib.hid hq; have HEQ1 := Lib.hid HE1; clear hq HE1 hb hz
  go_enter Try.func7, Try.ntmps7
  go_wp2_with fail
  rw [← HEQ1.out]
  refine (szB_yes _ _ _ (1048576) w1 (by omega) (by omega)).mono ?_
  rintro e w2 ⟨rfl, hb⟩
  replace K1 := Lib.hid (K1.out.stay hb)
  replace C := Lib.hid (C.out.trans (hb.mono C.out.size))
  have S2 : Hid (w1.heap.size ≤ w2.heap.size) := Lib.hid hb.size
  clear hb
  have hy0 : ¬ 1048576 - (z0.length : Int) < 0 := by omega
  have hx0 : (0 : Int) ≤ 1048576 - (z0.length : Int) := by omega
  have q0K1 := K1.out.1; have qlK1 := K1.out.2
  go_wp2_with fail
  clear q0K1 qlK1
  refine (toB _ z0 w2 ((R0.out.below C.out).more C.out.size) hq0).mono ?_
  rintro e w3 ⟨x3, rfl, ho, hb⟩
  obtain ⟨xa3, xc3, rfl⟩ := own_form ho.1
  replace K1 := Lib.hid (K1.out.stay hb)
  replace C := Lib.hid (C.out.trans (hb.mono C.out.size))
  have S3 : Hid (w2.heap.size ≤ w3.heap.size) := Lib.hid hb.size
  have OX3 := Lib.hid ho; clear ho
  clear hb
  have q0K1 := K1.out.1; have qlK1 := K1.out.2
  go_wp2_with fail
  clear q0K1 qlK1
  refine (hid_out (HS w3 (.slice xa3 z0.length xc3) (OX3.out.reads))).mono ?_
  rintro e w4 ⟨r4_0b, r4_0m, rfl, ho0, hb⟩
  obtain ⟨ra4_0b, rc4_0b, ra4_0m, rc4_0m, rfl, rfl⟩ := ho0.form
  replace K1 := Lib.hid (K1.out.stay hb)
  replace OX3 := Lib.hid (OX3.out.stay hb)
  replace C := Lib.hid (C.out.trans (hb.mono C.out.size))
  have S4 : Hid (w3.heap.size ≤ w4.heap.size) := Lib.hid hb.size
  have OR4_0 := Lib.hid ho0; clear ho0
  clear hb
  have q0K1 := K1.out.1; have qlK1 := K1.out.2
  obtain ⟨w5, HE5⟩ : ∃ W, W = w4.alloc (.cells #[(.slice ra4_0b L0b.length rc4_0b), (.slice ra4_0m L0m.length rc4_0m)] 56) := ⟨_, rfl⟩
  have hb : Below w4.heap.size w4 w5 := by rw [HE5]; exact below_box2 _ _
  have hq : UBox w5 w4.heap.size ((.slice ra4_0b L0b.length rc4_0b)) ((.slice ra4_0m L0m.length rc4_0m)) := by rw [HE5]; exact UBox.new _ _ _ _
  have hz : w4.heap.size + 1 ≤ w5.heap.size := by rw [HE5]; simp
  replace K1 := Lib.hid (K1.out.stay hb)
  replace OX3 := Lib.hid (OX3.out.stay hb)
  replace OR4_0 := Lib.hid (OR4_0.out.stay hb)
  replace C := Lib.hid (C.out.trans (hb.mono C.out.size))
  have S5 : Hid (w4.heap.size ≤ w5.heap.size) := Lib.hid hb.size
  have Z5 : Hid (w4.heap.size + 1 ≤ w5.heap.size) := Lib.hid hz
  have K5 := Lib.hid hq; have HEQ5 := Lib.hid HE5; clear hq HE5 hb hz
  go_wp2_with fail
  rw [← HEQ5.out]
  clear q0K1 qlK1
  refine (toB _ z0 w5 ((R0.out.below C.out).more C.out.size) hq0).mono ?_
  rintro e w6 ⟨x6, rfl, ho, hb⟩
  obtain ⟨xa6, xc6, rfl⟩ := own_form ho.1
  replace K1 := Lib.hid (K1.out.stay hb)
  replace OX3 := Lib.hid (OX3.out.stay hb)
  replace OR4_0 := Lib.hid (OR4_0.out.stay hb)
  replace K5 := Lib.hid (K5.out.stay hb)
  replace C := Lib.hid (C.out.trans (hb.mono C.out.size))
  have S7 : Hid (w5.heap.size ≤ w6.heap.size) := Lib.hid hb.size
  have OX6 := Lib.hid ho; clear ho
  clear hb
  have q0K1 := K1.out.1; have qlK1 := K1.out.2
  have q0K5 := K5.out.c0; have q1K5 := K5.out.c1; have qlK5 := K5.out.lt
  obtain ⟨w7, HE7⟩ : ∃ W, W = w6.alloc (.cells #[(.slice xa6 z0.length xc6)] 28) := ⟨_, rfl⟩
  have hb : Below w6.heap.size w6 w7 := by rw [HE7]; exact below_box2 _ _
  have hq : BoxI w7 w6.heap.size ((.slice xa6 z0.length xc6)) := by rw [HE7]; exact BoxI.new _ _ _
  have hz : w6.heap.size + 1 ≤ w7.heap.size := by rw [HE7]; simp
  replace K1 := Lib.hid (K1.out.stay hb)
  replace OX3 := Lib.hid (OX3.out.stay hb)
  replace OR4_0 := Lib.hid (OR4_0.out.stay hb)
  replace K5 := Lib.hid (K5.out.stay hb)
  replace OX6 := Lib.hid (OX6.out.stay hb)
  replace C := Lib.hid (C.out.trans (hb.mono C.out.size))
  have S8 : Hid (w6.heap.size ≤ w7.heap.size) := Lib.hid hb.size
  have Z7 : Hid (w6.heap.size + 1 ≤ w7.heap.size) := Lib.hid hz
  have K7 := Lib.hid hq; have HEQ7 := Lib.hid HE7; clear hq HE7 hb hz
  go_wp2_with fail
  rw [← HEQ7.out]
  clear q0K1 qlK1 q0K5 q1K5 qlK5
  refine (hid_out (HI w7 (.slice xa6 z0.length xc6) (OX6.out.reads))).mono ?_
  rintro e w8 ⟨r8_0b, r8_0m, rfl, ho0, hb⟩
  obtain ⟨ra8_0b, rc8_0b, ra8_0m, rc8_0m, rfl, rfl⟩ := ho0.form
  replace K1 := Lib.hid (K1.out.stay hb)
  replace OX3 := Lib.hid (OX3.out.stay hb)
  replace OR4_0 := Lib.hid (OR4_0.out.stay hb)
  replace K5 := Lib.hid (K5.out.stay hb)
  replace OX6 := Lib.hid (OX6.out.stay hb)
  replace K7 := Lib.hid (K7.out.stay hb)
  replace C := Lib.hid (C.out.trans (hb.mono C.out.size))
  have S10 : Hid (w7.heap.size ≤ w8.heap.size) := Lib.hid hb.size
  have OR8_0 := Lib.hid ho0; clear ho0
  clear hb
  have q0K1 := K1.out.1; have qlK1 := K1.out.2
  have q0K5 := K5.out.c0; have q1K5 := K5.out.c1; have qlK5 := K5.out.lt
  have q0K7 := K7.out.1; have qlK7 := K7.out.2
  obtain ⟨w9, HE9⟩ : ∃ W, W = w8.alloc (.cells #[(.slice ra8_0b L0b.length rc8_0b), (.slice ra8_0m L0m.length rc8_0m)] 56) := ⟨_, rfl⟩
  have hb : Below w8.heap.size w8 w9 := by rw [HE9]; exact below_box2 _ _
  have hq : UBox w9 w8.heap.size ((.slice ra8_0b L0b.length rc8_0b)) ((.slice ra8_0m L0m.length rc8_0m)) := by rw [HE9]; exact UBox.new _ _ _ _
  have hz : w8.heap.size + 1 ≤ w9.heap.size := by rw [HE9]; simp
  replace K1 := Lib.hid (K1.out.stay hb)
  replace OX3 := Lib.hid (OX3.out.stay hb)
  replace OR4_0 := Lib.hid (OR4_0.out.stay hb)
  replace K5 := Lib.hid (K5.out.stay hb)
  replace OX6 := Lib.hid (OX6.out.stay hb)
  replace K7 := Lib.hid (K7.out.stay hb)
  replace OR8_0 := Lib.hid (OR8_0.out.stay hb)
  replace C := Lib.hid (C.out.trans (hb.mono C.out.size))
  have S11 : Hid (w8.heap.size ≤ w9.heap.size) := Lib.hid hb.size
  have Z9 : Hid (w8.heap.size + 1 ≤ w9.heap.size) := Lib.hid hz
  have K9 := Lib.hid hq; have HEQ9 := Lib.hid HE9; clear hq HE9 hb hz
  go_wp2_with fail
  rw [← HEQ9.out]
  clear q0K1 qlK1 q0K5 q1K5 qlK5 q0K7 qlK7
  refine (eqU _ _ _ _ L0b L0m w9 (OR8_0.out.reads) (OR4_0.out.reads) HU0b.out.1 HU0b.out.2.1 HU0m.out.1 HU0m.out.2.1).mono ?_
  rintro e w10 ⟨rfl, hb⟩
  replace K1 := Lib.hid (K1.out.stay hb)
  replace OX3 := Lib.hid (OX3.out.stay hb)
  replace OR4_0 := Lib.hid (OR4_0.out.stay hb)
  replace K5 := Lib.hid (K5.out.stay hb)
  replace OX6 := Lib.hid (OX6.out.stay hb)
  replace K7 := Lib.hid (K7.out.stay hb)
  replace OR8_0 := Lib.hid (OR8_0.out.stay hb)
  replace K9 := Lib.hid (K9.out.stay hb)
  replace C := Lib.hid (C.out.trans (hb.mono C.out.size))
  have S13 : Hid (w9.heap.size ≤ w10.heap.size) := Lib.hid hb.size
  clear hb
  have q0K1 := K1.out.1; have qlK1 := K1.out.2
  have q0K5 := K5.out.c0; have q1K5 := K5.out.c1; have qlK5 := K5.out.lt
  have q0K7 := K7.out.1; have qlK7 := K7.out.2
  have q0K9 := K9.out.c0; have q1K9 := K9.out.c1; have qlK9 := K9.out.lt
  go_wp2_with fail
  clear q0K1 qlK1 q0K5 q1K5 qlK5 q0K7 qlK7 q0K9 q1K9 qlK9
  have RR := Lib.hid ((R0.out.below C.out).more C.out.size)
  refine wp_region_held_drew (S := fun w' => w'.cell? ⟨w6.heap.size, 0, none⟩ = some ((.slice xa6 z0.length xc6)) ∧ w'.cell? ⟨w.heap.size, 0, none⟩ = some (.slice A0 z0.length c0)) (by kernel_rfl) ⟨K7.out.1, K1.out.1⟩ (fun hHeld => ?_)
  refine takeY 0 _ (v := ?_) rfl rfl (by kernel_rfl) (by kernel_rfl) (by kernel_rfl) (fun _ _ _ h => h) (by kernel_rfl) ?_ (by assumption) ?_
  rotate_left 1
  · intro w hSw; (try dsimp only at hSw); go_simp; (try with_reducible rfl)
  try simp only [Act.put, List.setIfInBounds_toArray, List.set_cons_zero, List.set_cons_succ]
  refine takeY 1 _ (v := ?_) rfl rfl (by kernel_rfl) (by kernel_rfl) (by kernel_rfl) (fun _ _ _ h => h) (by kernel_rfl) ?_ (by assumption) ?_
  rotate_left 1
  · intro w hSw; (try dsimp only at hSw); go_simp; (try with_reducible rfl)
  try simp only [Act.put, List.setIfInBounds_toArray, List.set_cons_zero, List.set_cons_succ]
  refine wpAnyH_ready (rs := [2]) (by kernel_rfl) (by simp) ?_
  refine AllReadyH.cons rfl (fun K hK => ?_) AllReadyH.nil
  go_simp
  refine (toB_drew _ z0 w10 RR.out hq0).mono ?_
  rintro e w11 ⟨x11, rfl, ho, hb⟩
  obtain ⟨xa11, xc11, rfl⟩ := own_form ho.1
  replace K1 := Lib.hid (K1.out.stay hb)
  replace OX3 := Lib.hid (OX3.out.stay hb)
  replace OR4_0 := Lib.hid (OR4_0.out.stay hb)
  replace K5 := Lib.hid (K5.out.stay hb)
  replace OX6 := Lib.hid (OX6.out.stay hb)
  replace K7 := Lib.hid (K7.out.stay hb)
  replace OR8_0 := Lib.hid (OR8_0.out.stay hb)
  replace K9 := Lib.hid (K9.out.stay hb)
  replace C := Lib.hid (C.out.trans (hb.mono C.out.size))
  have S14 : Hid (w10.heap.size ≤ w11.heap.size) := Lib.hid hb.size
  have OX11 := Lib.hid ho; clear ho
  clear hb
  refine hK.out _ _ ⟨K7.out.1, K1.out.1⟩ (fun hHeld => ?_)
  clear hK K
  try simp only [Act.put, List.setIfInBounds_toArray, List.set_cons_zero, List.set_cons_succ]
  refine wpAnyH_ready (rs := [3]) (by kernel_rfl) (by simp) ?_
  refine AllReadyH.cons rfl (fun K hK => ?_) AllReadyH.nil
  go_simp
  refine (eqB _ _ z0 w11 (OX6.out.reads) (OX11.out.reads) (by omega)).mono ?_
  rintro e w12 ⟨rfl, hb⟩
  replace K1 := Lib.hid (K1.out.stay hb)
  replace OX3 := Lib.hid (OX3.out.stay hb)
  replace OR4_0 := Lib.hid (OR4_0.out.stay hb)
  replace K5 := Lib.hid (K5.out.stay hb)
  replace OX6 := Lib.hid (OX6.out.stay hb)
  replace K7 := Lib.hid (K7.out.stay hb)
  replace OR8_0 := Lib.hid (OR8_0.out.stay hb)
  replace K9 := Lib.hid (K9.out.stay hb)
  replace OX11 := Lib.hid (OX11.out.stay hb)
  replace C := Lib.hid (C.out.trans (hb.mono C.out.size))
  have S15 : Hid (w11.heap.size ≤ w12.heap.size) := Lib.hid hb.size
  clear hb
  refine hK.out _ _ ⟨K7.out.1, K1.out.1⟩ (fun hHeld => ?_)
  clear hK K
  try simp only [Act.put, List.setIfInBounds_toArray, List.set_cons_zero, List.set_cons_succ]
  refine takeY 4 _ (v := ?_) rfl rfl (by kernel_rfl) (by kernel_rfl) (by kernel_rfl) (fun _ _ _ h => h) (by kernel_rfl) ?_ (by assumption) ?_
  rotate_left 1
  · intro w hSw; (try dsimp only at hSw); go_simp; (try with_reducible rfl)
  try simp only [Act.put, List.setIfInBounds_toArray, List.set_cons_zero, List.set_cons_succ]
  refine wpAnyH_done (by kernel_rfl) ?_ _
  clear hHeld RR
  have q0K1 := K1.out.1; have qlK1 := K1.out.2
  have q0K5 := K5.out.c0; have q1K5 := K5.out.c1; have qlK5 := K5.out.lt
  have q0K7 := K7.out.1; have qlK7 := K7.out.2
  have q0K9 := K9.out.c0; have q1K9 := K9.out.c1; have qlK9 := K9.out.lt
  go_wp2_with fail
  clear q0K1 qlK1 q0K5 q1K5 qlK5 q0K7 qlK7 q0K9 q1K9 qlK9
  refine (markB _ _ _ z0 1 w12 OX6.out (by omega) (by omega)).mono ?_
  rintro e w13 ⟨rfl, hm, hb⟩
  replace K1 := Lib.hid (K1.out.kept (hb.kept (by have s0o := S0.out; have z1o := Z1.out; have s2o := S2.out; have s3o := S3.out; have s4o := S4.out; have s5o := S5.out; have z5o := Z5.out; have s7o := S7.out; have s8o := S8.out; have z7o := Z7.out; have s10o := S10.out; have s11o := S11.out; have z9o := Z9.out; have s13o := S13.out; have s14o := S14.out; have s15o := S15.out; omega) (by have s0o := S0.out; have z1o := Z1.out; have s2o := S2.out; have s3o := S3.out; have s4o := S4.out; have s5o := S5.out; have z5o := Z5.out; have s7o := S7.out; have s8o := S8.out; have z7o := Z7.out; have s10o := S10.out; have s11o := S11.out; have z9o := Z9.out; have s13o := S13.out; have s14o := S14.out; have s15o := S15.out; omega)))
  replace OX3 := Lib.hid (OX3.out.kept (hb.kept (by have s0o := S0.out; have z1o := Z1.out; have s2o := S2.out; have s3o := S3.out; have s4o := S4.out; have s5o := S5.out; have z5o := Z5.out; have s7o := S7.out; have s8o := S8.out; have z7o := Z7.out; have s10o := S10.out; have s11o := S11.out; have z9o := Z9.out; have s13o := S13.out; have s14o := S14.out; have s15o := S15.out; omega) (by have s0o := S0.out; have z1o := Z1.out; have s2o := S2.out; have s3o := S3.out; have s4o := S4.out; have s5o := S5.out; have z5o := Z5.out; have s7o := S7.out; have s8o := S8.out; have z7o := Z7.out; have s10o := S10.out; have s11o := S11.out; have z9o := Z9.out; have s13o := S13.out; have s14o := S14.out; have s15o := S15.out; omega)))
  replace OR4_0 := Lib.hid (OR4_0.out.kept (hb.kept (by have s0o := S0.out; have z1o := Z1.out; have s2o := S2.out; have s3o := S3.out; have s4o := S4.out; have s5o := S5.out; have z5o := Z5.out; have s7o := S7.out; have s8o := S8.out; have z7o := Z7.out; have s10o := S10.out; have s11o := S11.out; have z9o := Z9.out; have s13o := S13.out; have s14o := S14.out; have s15o := S15.out; omega) (by have s0o := S0.out; have z1o := Z1.out; have s2o := S2.out; have s3o := S3.out; have s4o := S4.out; have s5o := S5.out; have z5o := Z5.out; have s7o := S7.out; have s8o := S8.out; have z7o := Z7.out; have s10o := S10.out; have s11o := S11.out; have z9o := Z9.out; have s13o := S13.out; have s14o := S14.out; have s15o := S15.out; omega)))
  replace K5 := Lib.hid (K5.out.kept (hb.kept (by have s0o := S0.out; have z1o := Z1.out; have s2o := S2.out; have s3o := S3.out; have s4o := S4.out; have s5o := S5.out; have z5o := Z5.out; have s7o := S7.out; have s8o := S8.out; have z7o := Z7.out; have s10o := S10.out; have s11o := S11.out; have z9o := Z9.out; have s13o := S13.out; have s14o := S14.out; have s15o := S15.out; omega) (by have s0o := S0.out; have z1o := Z1.out; have s2o := S2.out; have s3o := S3.out; have s4o := S4.out; have s5o := S5.out; have z5o := Z5.out; have s7o := S7.out; have s8o := S8.out; have z7o := Z7.out; have s10o := S10.out; have s11o := S11.out; have z9o := Z9.out; have s13o := S13.out; have s14o := S14.out; have s15o := S15.out; omega)))
  replace K7 := Lib.hid (K7.out.kept (hb.kept (by have s0o := S0.out; have z1o := Z1.out; have s2o := S2.out; have s3o := S3.out; have s4o := S4.out; have s5o := S5.out; have z5o := Z5.out; have s7o := S7.out; have s8o := S8.out; have z7o := Z7.out; have s10o := S10.out; have s11o := S11.out; have z9o := Z9.out; have s13o := S13.out; have s14o := S14.out; have s15o := S15.out; omega) (by have s0o := S0.out; have z1o := Z1.out; have s2o := S2.out; have s3o := S3.out; have s4o := S4.out; have s5o := S5.out; have z5o := Z5.out; have s7o := S7.out; have s8o := S8.out; have z7o := Z7.out; have s10o := S10.out; have s11o := S11.out; have z9o := Z9.out; have s13o := S13.out; have s14o := S14.out; have s15o := S15.out; omega)))
  replace OR8_0 := Lib.hid (OR8_0.out.kept (hb.kept (by have s0o := S0.out; have z1o := Z1.out; have s2o := S2.out; have s3o := S3.out; have s4o := S4.out; have s5o := S5.out; have z5o := Z5.out; have s7o := S7.out; have s8o := S8.out; have z7o := Z7.out; have s10o := S10.out; have s11o := S11.out; have z9o := Z9.out; have s13o := S13.out; have s14o := S14.out; have s15o := S15.out; omega) (by have s0o := S0.out; have z1o := Z1.out; have s2o := S2.out; have s3o := S3.out; have s4o := S4.out; have s5o := S5.out; have z5o := Z5.out; have s7o := S7.out; have s8o := S8.out; have z7o := Z7.out; have s10o := S10.out; have s11o := S11.out; have z9o := Z9.out; have s13o := S13.out; have s14o := S14.out; have s15o := S15.out; omega)))
  replace K9 := Lib.hid (K9.out.kept (hb.kept (by have s0o := S0.out; have z1o := Z1.out; have s2o := S2.out; have s3o := S3.out; have s4o := S4.out; have s5o := S5.out; have z5o := Z5.out; have s7o := S7.out; have s8o := S8.out; have z7o := Z7.out; have s10o := S10.out; have s11o := S11.out; have z9o := Z9.out; have s13o := S13.out; have s14o := S14.out; have s15o := S15.out; omega) (by have s0o := S0.out; have z1o := Z1.out; have s2o := S2.out; have s3o := S3.out; have s4o := S4.out; have s5o := S5.out; have z5o := Z5.out; have s7o := S7.out; have s8o := S8.out; have z7o := Z7.out; have s10o := S10.out; have s11o := S11.out; have z9o := Z9.out; have s13o := S13.out; have s14o := S14.out; have s15o := S15.out; omega)))
  replace OX11 := Lib.hid (OX11.out.kept (hb.kept (by have s0o := S0.out; have z1o := Z1.out; have s2o := S2.out; have s3o := S3.out; have s4o := S4.out; have s5o := S5.out; have z5o := Z5.out; have s7o := S7.out; have s8o := S8.out; have z7o := Z7.out; have s10o := S10.out; have s11o := S11.out; have z9o := Z9.out; have s13o := S13.out; have s14o := S14.out; have s15o := S15.out; omega) (by have s0o := S0.out; have z1o := Z1.out; have s2o := S2.out; have s3o := S3.out; have s4o := S4.out; have s5o := S5.out; have z5o := Z5.out; have s7o := S7.out; have s8o := S8.out; have z7o := Z7.out; have s10o := S10.out; have s11o := S11.out; have z9o := Z9.out; have s13o := S13.out; have s14o := S14.out; have s15o := S15.out; omega)))
  replace C := Lib.hid (C.out.trans (Only.below hb (by have s0o := S0.out; have z1o := Z1.out; have s2o := S2.out; have s3o := S3.out; have s4o := S4.out; have s5o := S5.out; have z5o := Z5.out; have s7o := S7.out; have s8o := S8.out; have z7o := Z7.out; have s10o := S10.out; have s11o := S11.out; have z9o := Z9.out; have s13o := S13.out; have s14o := S14.out; have s15o := S15.out; omega) C.out.size))
  have S16 : Hid (w12.heap.size ≤ w13.heap.size) := Lib.hid hb.size
  have M13 := Lib.hid hm; clear hm hb
  have q0K1 := K1.out.1; have qlK1 := K1.out.2
  have q0K5 := K5.out.c0; have q1K5 := K5.out.c1; have qlK5 := K5.out.lt
  have q0K7 := K7.out.1; have qlK7 := K7.out.2
  have q0K9 := K9.out.c0; have q1K9 := K9.out.c1; have qlK9 := K9.out.lt
  go_wp2_with fail
  clear q0K1 qlK1 q0K5 q1K5 qlK5 q0K7 qlK7 q0K9 q1K9 qlK9
  refine (eqU _ _ _ _ L0b L0m w13 (OR8_0.out.reads) (OR4_0.out.reads) HU0b.out.1 HU0b.out.2.1 HU0m.out.1 HU0m.out.2.1).mono ?_
  rintro e w14 ⟨rfl, hb⟩
  replace K1 := Lib.hid (K1.out.stay hb)
  replace OX3 := Lib.hid (OX3.out.stay hb)
  replace OR4_0 := Lib.hid (OR4_0.out.stay hb)
  replace K5 := Lib.hid (K5.out.stay hb)
  replace K7 := Lib.hid (K7.out.stay hb)
  replace OR8_0 := Lib.hid (OR8_0.out.stay hb)
  replace K9 := Lib.hid (K9.out.stay hb)
  replace OX11 := Lib.hid (OX11.out.stay hb)
  replace M13 := Lib.hid (M13.out.stay hb)
  replace C := Lib.hid (C.out.trans (hb.mono C.out.size))
  have S17 : Hid (w13.heap.size ≤ w14.heap.size) := Lib.hid hb.size
  clear hb
  have q0K1 := K1.out.1; have qlK1 := K1.out.2
  have q0K5 := K5.out.c0; have q1K5 := K5.out.c1; have qlK5 := K5.out.lt
  have q0K7 := K7.out.1; have qlK7 := K7.out.2
  have q0K9 := K9.out.c0; have q1K9 := K9.out.c1; have qlK9 := K9.out.lt
  go_wp2_with fail
  clear q0K1 qlK1 q0K5 q1K5 qlK5 q0K7 qlK7 q0K9 q1K9 qlK9
  refine (markU _ _ _ _ L0b L0m 1 w14 OR8_0.out HU0b.out.2.2 HU0m.out.2.2 (by omega)).mono ?_
  rintro e w15 ⟨rfl, hm, hb⟩
  replace K1 := Lib.hid (K1.out.kept (hb.kept (by have s0o := S0.out; have z1o := Z1.out; have s2o := S2.out; have s3o := S3.out; have s4o := S4.out; have s5o := S5.out; have z5o := Z5.out; have s7o := S7.out; have s8o := S8.out; have z7o := Z7.out; have s10o := S10.out; have s11o := S11.out; have z9o := Z9.out; have s13o := S13.out; have s14o := S14.out; have s15o := S15.out; have s16o := S16.out; have s17o := S17.out; omega) (by have s0o := S0.out; have z1o := Z1.out; have s2o := S2.out; have s3o := S3.out; have s4o := S4.out; have s5o := S5.out; have z5o := Z5.out; have s7o := S7.out; have s8o := S8.out; have z7o := Z7.out; have s10o := S10.out; have s11o := S11.out; have z9o := Z9.out; have s13o := S13.out; have s14o := S14.out; have s15o := S15.out; have s16o := S16.out; have s17o := S17.out; omega)))
  replace OX3 := Lib.hid (OX3.out.kept (hb.kept (by have s0o := S0.out; have z1o := Z1.out; have s2o := S2.out; have s3o := S3.out; have s4o := S4.out; have s5o := S5.out; have z5o := Z5.out; have s7o := S7.out; have s8o := S8.out; have z7o := Z7.out; have s10o := S10.out; have s11o := S11.out; have z9o := Z9.out; have s13o := S13.out; have s14o := S14.out; have s15o := S15.out; have s16o := S16.out; have s17o := S17.out; omega) (by have s0o := S0.out; have z1o := Z1.out; have s2o := S2.out; have s3o := S3.out; have s4o := S4.out; have s5o := S5.out; have z5o := Z5.out; have s7o := S7.out; have s8o := S8.out; have z7o := Z7.out; have s10o := S10.out; have s11o := S11.out; have z9o := Z9.out; have s13o := S13.out; have s14o := S14.out; have s15o := S15.out; have s16o := S16.out; have s17o := S17.out; omega)))
  replace OR4_0 := Lib.hid (OR4_0.out.kept (hb.kept (by have s0o := S0.out; have z1o := Z1.out; have s2o := S2.out; have s3o := S3.out; have s4o := S4.out; have s5o := S5.out; have z5o := Z5.out; have s7o := S7.out; have s8o := S8.out; have z7o := Z7.out; have s10o := S10.out; have s11o := S11.out; have z9o := Z9.out; have s13o := S13.out; have s14o := S14.out; have s15o := S15.out; have s16o := S16.out; have s17o := S17.out; omega) (by have s0o := S0.out; have z1o := Z1.out; have s2o := S2.out; have s3o := S3.out; have s4o := S4.out; have s5o := S5.out; have z5o := Z5.out; have s7o := S7.out; have s8o := S8.out; have z7o := Z7.out; have s10o := S10.out; have s11o := S11.out; have z9o := Z9.out; have s13o := S13.out; have s14o := S14.out; have s15o := S15.out; have s16o := S16.out; have s17o := S17.out; omega)))
  replace K5 := Lib.hid (K5.out.kept (hb.kept (by have s0o := S0.out; have z1o := Z1.out; have s2o := S2.out; have s3o := S3.out; have s4o := S4.out; have s5o := S5.out; have z5o := Z5.out; have s7o := S7.out; have s8o := S8.out; have z7o := Z7.out; have s10o := S10.out; have s11o := S11.out; have z9o := Z9.out; have s13o := S13.out; have s14o := S14.out; have s15o := S15.out; have s16o := S16.out; have s17o := S17.out; omega) (by have s0o := S0.out; have z1o := Z1.out; have s2o := S2.out; have s3o := S3.out; have s4o := S4.out; have s5o := S5.out; have z5o := Z5.out; have s7o := S7.out; have s8o := S8.out; have z7o := Z7.out; have s10o := S10.out; have s11o := S11.out; have z9o := Z9.out; have s13o := S13.out; have s14o := S14.out; have s15o := S15.out; have s16o := S16.out; have s17o := S17.out; omega)))
  replace K7 := Lib.hid (K7.out.kept (hb.kept (by have s0o := S0.out; have z1o := Z1.out; have s2o := S2.out; have s3o := S3.out; have s4o := S4.out; have s5o := S5.out; have z5o := Z5.out; have s7o := S7.out; have s8o := S8.out; have z7o := Z7.out; have s10o := S10.out; have s11o := S11.out; have z9o := Z9.out; have s13o := S13.out; have s14o := S14.out; have s15o := S15.out; have s16o := S16.out; have s17o := S17.out; omega) (by have s0o := S0.out; have z1o := Z1.out; have s2o := S2.out; have s3o := S3.out; have s4o := S4.out; have s5o := S5.out; have z5o := Z5.out; have s7o := S7.out; have s8o := S8.out; have z7o := Z7.out; have s10o := S10.out; have s11o := S11.out; have z9o := Z9.out; have s13o := S13.out; have s14o := S14.out; have s15o := S15.out; have s16o := S16.out; have s17o := S17.out; omega)))
  replace K9 := Lib.hid (K9.out.kept (hb.kept (by have s0o := S0.out; have z1o := Z1.out; have s2o := S2.out; have s3o := S3.out; have s4o := S4.out; have s5o := S5.out; have z5o := Z5.out; have s7o := S7.out; have s8o := S8.out; have z7o := Z7.out; have s10o := S10.out; have s11o := S11.out; have z9o := Z9.out; have s13o := S13.out; have s14o := S14.out; have s15o := S15.out; have s16o := S16.out; have s17o := S17.out; omega) (by have s0o := S0.out; have z1o := Z1.out; have s2o := S2.out; have s3o := S3.out; have s4o := S4.out; have s5o := S5.out; have z5o := Z5.out; have s7o := S7.out; have s8o := S8.out; have z7o := Z7.out; have s10o := S10.out; have s11o := S11.out; have z9o := Z9.out; have s13o := S13.out; have s14o := S14.out; have s15o := S15.out; have s16o := S16.out; have s17o := S17.out; omega)))
  replace OX11 := Lib.hid (OX11.out.kept (hb.kept (by have s0o := S0.out; have z1o := Z1.out; have s2o := S2.out; have s3o := S3.out; have s4o := S4.out; have s5o := S5.out; have z5o := Z5.out; have s7o := S7.out; have s8o := S8.out; have z7o := Z7.out; have s10o := S10.out; have s11o := S11.out; have z9o := Z9.out; have s13o := S13.out; have s14o := S14.out; have s15o := S15.out; have s16o := S16.out; have s17o := S17.out; omega) (by have s0o := S0.out; have z1o := Z1.out; have s2o := S2.out; have s3o := S3.out; have s4o := S4.out; have s5o := S5.out; have z5o := Z5.out; have s7o := S7.out; have s8o := S8.out; have z7o := Z7.out; have s10o := S10.out; have s11o := S11.out; have z9o := Z9.out; have s13o := S13.out; have s14o := S14.out; have s15o := S15.out; have s16o := S16.out; have s17o := S17.out; omega)))
  replace M13 := Lib.hid (M13.out.kept (hb.kept (by have s0o := S0.out; have z1o := Z1.out; have s2o := S2.out; have s3o := S3.out; have s4o := S4.out; have s5o := S5.out; have z5o := Z5.out; have s7o := S7.out; have s8o := S8.out; have z7o := Z7.out; have s10o := S10.out; have s11o := S11.out; have z9o := Z9.out; have s13o := S13.out; have s14o := S14.out; have s15o := S15.out; have s16o := S16.out; have s17o := S17.out; omega) (by have s0o := S0.out; have z1o := Z1.out; have s2o := S2.out; have s3o := S3.out; have s4o := S4.out; have s5o := S5.out; have z5o := Z5.out; have s7o := S7.out; have s8o := S8.out; have z7o := Z7.out; have s10o := S10.out; have s11o := S11.out; have z9o := Z9.out; have s13o := S13.out; have s14o := S14.out; have s15o := S15.out; have s16o := S16.out; have s17o := S17.out; omega)))
  replace C := Lib.hid (C.out.trans (Only.below hb (by have s0o := S0.out; have z1o := Z1.out; have s2o := S2.out; have s3o := S3.out; have s4o := S4.out; have s5o := S5.out; have z5o := Z5.out; have s7o := S7.out; have s8o := S8.out; have z7o := Z7.out; have s10o := S10.out; have s11o := S11.out; have z9o := Z9.out; have s13o := S13.out; have s14o := S14.out; have s15o := S15.out; have s16o := S16.out; have s17o := S17.out; omega) C.out.size))
  have S18 : Hid (w14.heap.size ≤ w15.heap.size) := Lib.hid hb.size
  have M15 := Lib.hid hm; clear hm hb
  have q0K1 := K1.out.1; have qlK1 := K1.out.2
  have q0K5 := K5.out.c0; have q1K5 := K5.out.c1; have qlK5 := K5.out.lt
  have q0K7 := K7.out.1; have qlK7 := K7.out.2
  have q0K9 := K9.out.c0; have q1K9 := K9.out.c1; have qlK9 := K9.out.lt
  go_wp2_with fail
  clear q0K1 qlK1 q0K5 q1K5 qlK5 q0K7 qlK7 q0K9 q1K9 qlK9
  refine (heldU _ _ _ _ L0b.length L0m.length (lens L0b) (lens L0m) 1 w15 M15.out (by omega) (by omega) (by omega) (by omega) (by omega)).mono ?_
  rintro e w16 ⟨rfl, hb⟩
  replace K1 := Lib.hid (K1.out.stay hb)
  replace OX3 := Lib.hid (OX3.out.stay hb)
  replace OR4_0 := Lib.hid (OR4_0.out.stay hb)
  replace K5 := Lib.hid (K5.out.stay hb)
  replace K7 := Lib.hid (K7.out.stay hb)
  replace K9 := Lib.hid (K9.out.stay hb)
  replace OX11 := Lib.hid (OX11.out.stay hb)
  replace M13 := Lib.hid (M13.out.stay hb)
  replace M15 := Lib.hid (M15.out.stay hb)
  replace C := Lib.hid (C.out.trans (hb.mono C.out.size))
  have S19 : Hid (w15.heap.size ≤ w16.heap.size) := Lib.hid hb.size
  clear hb
  have q0K1 := K1.out.1; have qlK1 := K1.out.2
  have q0K5 := K5.out.c0; have q1K5 := K5.out.c1; have qlK5 := K5.out.lt
  have q0K7 := K7.out.1; have qlK7 := K7.out.2
  have q0K9 := K9.out.c0; have q1K9 := K9.out.c1; have qlK9 := K9.out.lt
  go_wp2_with fail
  clear q0K1 qlK1 q0K5 q1K5 qlK5 q0K7 qlK7 q0K9 q1K9 qlK9
  refine (toB _ z0 w16 ((R0.out.below C.out).more C.out.size) hq0).mono ?_
  rintro e w17 ⟨x17, rfl, ho, hb⟩
  obtain ⟨xa17, xc17, rfl⟩ := own_form ho.1
  replace K1 := Lib.hid (K1.out.stay hb)
  replace OX3 := Lib.hid (OX3.out.stay hb)
  replace OR4_0 := Lib.hid (OR4_0.out.stay hb)
  replace K5 := Lib.hid (K5.out.stay hb)
  replace K7 := Lib.hid (K7.out.stay hb)
  replace K9 := Lib.hid (K9.out.stay hb)
  replace OX11 := Lib.hid (OX11.out.stay hb)
  replace M13 := Lib.hid (M13.out.stay hb)
  replace M15 := Lib.hid (M15.out.stay hb)
  replace C := Lib.hid (C.out.trans (hb.mono C.out.size))
  have S20 : Hid (w16.heap.size ≤ w17.heap.size) := Lib.hid hb.size
  have OX17 := Lib.hid ho; clear ho
  clear hb
  have q0K1 := K1.out.1; have qlK1 := K1.out.2
  have q0K5 := K5.out.c0; have q1K5 := K5.out.c1; have qlK5 := K5.out.lt
  have q0K7 := K7.out.1; have qlK7 := K7.out.2
  have q0K9 := K9.out.c0; have q1K9 := K9.out.c1; have qlK9 := K9.out.lt
  go_wp2_with fail
  clear q0K1 qlK1 q0K5 q1K5 qlK5 q0K7 qlK7 q0K9 q1K9 qlK9
  refine (hid_out (HI w17 (.slice xa17 z0.length xc17) (OX17.out.reads))).mono ?_
  rintro e w18 ⟨r18_0b, r18_0m, rfl, ho0, hb⟩
  obtain ⟨ra18_0b, rc18_0b, ra18_0m, rc18_0m, rfl, rfl⟩ := ho0.form
  replace K1 := Lib.hid (K1.out.stay hb)
  replace OX3 := Lib.hid (OX3.out.stay hb)
  replace OR4_0 := Lib.hid (OR4_0.out.stay hb)
  replace K5 := Lib.hid (K5.out.stay hb)
  replace K7 := Lib.hid (K7.out.stay hb)
  replace K9 := Lib.hid (K9.out.stay hb)
  replace OX11 := Lib.hid (OX11.out.stay hb)
  replace M13 := Lib.hid (M13.out.stay hb)
  replace M15 := Lib.hid (M15.out.stay hb)
  replace OX17 := Lib.hid (OX17.out.stay hb)
  replace C := Lib.hid (C.out.trans (hb.mono C.out.size))
  have S21 : Hid (w17.heap.size ≤ w18.heap.size) := Lib.hid hb.size
  have OR18_0 := Lib.hid ho0; clear ho0
  clear hb
  have q0K1 := K1.out.1; have qlK1 := K1.out.2
  have q0K5 := K5.out.c0; have q1K5 := K5.out.c1; have qlK5 := K5.out.lt
  have q0K7 := K7.out.1; have qlK7 := K7.out.2
  have q0K9 := K9.out.c0; have q1K9 := K9.out.c1; have qlK9 := K9.out.lt
  obtain ⟨w19, HE19⟩ : ∃ W, W = w18.alloc (.cells #[(.slice ra18_0b L0b.length rc18_0b), (.slice ra18_0m L0m.length rc18_0m)] 56) := ⟨_, rfl⟩
  have hb : Below w18.heap.size w18 w19 := by rw [HE19]; exact below_box2 _ _
  have hq : UBox w19 w18.heap.size ((.slice ra18_0b L0b.length rc18_0b)) ((.slice ra18_0m L0m.length rc18_0m)) := by rw [HE19]; exact UBox.new _ _ _ _
  have hz : w18.heap.size + 1 ≤ w19.heap.size := by rw [HE19]; simp
  replace K1 := Lib.hid (K1.out.stay hb)
  replace OX3 := Lib.hid (OX3.out.stay hb)
  replace OR4_0 := Lib.hid (OR4_0.out.stay hb)
  replace K5 := Lib.hid (K5.out.stay hb)
  replace K7 := Lib.hid (K7.out.stay hb)
  replace K9 := Lib.hid (K9.out.stay hb)
  replace OX11 := Lib.hid (OX11.out.stay hb)
  replace M13 := Lib.hid (M13.out.stay hb)
  replace M15 := Lib.hid (M15.out.stay hb)
  replace OX17 := Lib.hid (OX17.out.stay hb)
  replace OR18_0 := Lib.hid (OR18_0.out.stay hb)
  replace C := Lib.hid (C.out.trans (hb.mono C.out.size))
  have S22 : Hid (w18.heap.size ≤ w19.heap.size) := Lib.hid hb.size
  have Z19 : Hid (w18.heap.size + 1 ≤ w19.heap.size) := Lib.hid hz
  have K19 := Lib.hid hq; have HEQ19 := Lib.hid HE19; clear hq HE19 hb hz
  go_wp2_with fail
  rw [← HEQ19.out]
  clear q0K1 qlK1 q0K5 q1K5 qlK5 q0K7 qlK7 q0K9 q1K9 qlK9
  refine (eqU _ _ _ _ L0b L0m w19 (OR18_0.out.reads) (OR4_0.out.reads) HU0b.out.1 HU0b.out.2.1 HU0m.out.1 HU0m.out.2.1).mono ?_
  rintro e w20 ⟨rfl, hb⟩
  replace K1 := Lib.hid (K1.out.stay hb)
  replace OX3 := Lib.hid (OX3.out.stay hb)
  replace OR4_0 := Lib.hid (OR4_0.out.stay hb)
  replace K5 := Lib.hid (K5.out.stay hb)
  replace K7 := Lib.hid (K7.out.stay hb)
  replace K9 := Lib.hid (K9.out.stay hb)
  replace OX11 := Lib.hid (OX11.out.stay hb)
  replace M13 := Lib.hid (M13.out.stay hb)
  replace M15 := Lib.hid (M15.out.stay hb)
  replace OX17 := Lib.hid (OX17.out.stay hb)
  replace OR18_0 := Lib.hid (OR18_0.out.stay hb)
  replace K19 := Lib.hid (K19.out.stay hb)
  replace C := Lib.hid (C.out.trans (hb.mono C.out.size))
  have S24 : Hid (w19.heap.size ≤ w20.heap.size) := Lib.hid hb.size
  clear hb
  have q0K1 := K1.out.1; have qlK1 := K1.out.2
  have q0K5 := K5.out.c0; have q1K5 := K5.out.c1; have qlK5 := K5.out.lt
  have q0K7 := K7.out.1; have qlK7 := K7.out.2
  have q0K9 := K9.out.c0; have q1K9 := K9.out.c1; have qlK9 := K9.out.lt
  have q0K19 := K19.out.c0; have q1K19 := K19.out.c1; have qlK19 := K19.out.lt
  go_wp2_with fail
  clear q0K1 qlK1 q0K5 q1K5 qlK5 q0K7 qlK7 q0K9 q1K9 qlK9 q0K19 q1K19 qlK19
  refine (heldU _ _ _ _ L0b.length L0m.length (lens L0b) (lens L0m) 1 w20 M15.out (by omega) (by omega) (by omega) (by omega) (by omega)).mono ?_
  rintro e w21 ⟨rfl, hb⟩
  replace K1 := Lib.hid (K1.out.stay hb)
  replace OX3 := Lib.hid (OX3.out.stay hb)
  replace OR4_0 := Lib.hid (OR4_0.out.stay hb)
  replace K5 := Lib.hid (K5.out.stay hb)
  replace K7 := Lib.hid (K7.out.stay hb)
  replace K9 := Lib.hid (K9.out.stay hb)
  replace OX11 := Lib.hid (OX11.out.stay hb)
  replace M13 := Lib.hid (M13.out.stay hb)
  replace M15 := Lib.hid (M15.out.stay hb)
  replace OX17 := Lib.hid (OX17.out.stay hb)
  replace OR18_0 := Lib.hid (OR18_0.out.stay hb)
  replace K19 := Lib.hid (K19.out.stay hb)
  replace C := Lib.hid (C.out.trans (hb.mono C.out.size))
  have S25 : Hid (w20.heap.size ≤ w21.heap.size) := Lib.hid hb.size
  clear hb
  have q0K1 := K1.out.1; have qlK1 := K1.out.2
  have q0K5 := K5.out.c0; have q1K5 := K5.out.c1; have qlK5 := K5.out.lt
  have q0K7 := K7.out.1; have qlK7 := K7.out.2
  have q0K9 := K9.out.c0; have q1K9 := K9.out.c1; have qlK9 := K9.out.lt
  have q0K19 := K19.out.c0; have q1K19 := K19.out.c1; have qlK19 := K19.out.lt
  go_wp2_with fail
  clear q0K1 qlK1 q0K5 q1K5 qlK5 q0K7 qlK7 q0K9 q1K9 qlK9 q0K19 q1K19 qlK19
  go_ret
  exact ⟨rfl, C.out⟩
end Go.Proofs.Ytohbgfmjnanlkaa
