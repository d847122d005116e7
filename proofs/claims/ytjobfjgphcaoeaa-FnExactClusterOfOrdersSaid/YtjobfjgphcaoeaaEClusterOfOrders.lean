/- For all arguments, impl.ClusterOfOrders answers as spec.ClusterOfOrders does, leaves its arguments alone and answers in memory of its own: laws.FnExactClusterOfOrders returns true. No condition. -/
import Derived.Test.YtjobfjgphcaoeaaUn3
namespace Go.Proofs.Ytjobfjgphcaoeaa
open Go.ChangeShapes Go.WideShapes Go.ChangeAt Go.RowKit
set_option linter.unusedVariables false
set_option linter.unusedSimpArgs false

set_option maxRecDepth 100000 in
set_option maxHeartbeats 2000000 in
theorem FnExactClusterOfOrders_walk (w : World) (A0p : Option Addr) (n0p c0p : Nat) (z0p : List Int) (hr0p : RI w w.heap.size A0p n0p z0p) (hn0p : n0p ≤ 9223372036854775807) (hw0p : ∀ z ∈ z0p, (Lit.int .i64 z).wf = true) (A0s : Option Addr) (n0s c0s : Nat) (z0s : List Int) (hr0s : RI w w.heap.size A0s n0s z0s) (hn0s : n0s ≤ 9223372036854775807) (hw0s : ∀ z ∈ z0s, (Lit.int .i64 z).wf = true) (A0w : Option Addr) (n0w c0w : Nat) (z0w : List Int) (hr0w : RI w w.heap.size A0w n0w z0w) (hn0w : n0w ≤ 9223372036854775807) (hw0w : ∀ z ∈ z0w, (Lit.int .i64 z).wf = true) (A1 : Option Addr) (n1 c1 : Nat) (z1 : List Int) (hr1 : RI w w.heap.size A1 n1 z1) (hn1 : n1 ≤ 9223372036854775807) (hw1 : ∀ z ∈ z1, (Lit.int .i64 z).wf = true) :
    Calls Try.prog 7 #[.agg #[.slice A0p n0p c0p, .slice A0s n0s c0s, .slice A0w n0w c0w], .slice A1 n1 c1] w fun e w' => e = .returned (.bool true) ∧ Below w.heap.size w w' := by
  obtain rfl : z0p.length = n0p := hr0p.1
  obtain rfl : z0s.length = n0s := hr0s.1
  obtain rfl : z0w.length = n0w := hr0w.1
  obtain rfl : z1.length = n1 := hr1.1
  by_cases hb1 : 1048576 < z1.length
  · clear hr0p hw0p hr0s hw0s hr0w hw0w hr1 hw1
    go_enter Try.func7, Try.ntmps7
    go_wp2
    go_ret
    exact ⟨rfl, below_box2 _ _⟩
  by_cases hb0 : 1048576 < (z0p.length : Int) + (z0s.length : Int) + (z0w.length : Int)
  · clear hr0p hw0p hr0s hw0s hr0w hw0w hr1 hw1
    have hq1 : ¬ (1048576 : Int) < (z1.length : Int) := by omega
    go_enter Try.func7, Try.ntmps7
    go_wp2_with fail
    refine (szC_no _ _ _ _ _ _ _ _ _ _ _ hb0 (by omega) (by omega) hn0p hn0s hn0w).mono ?_
    rintro e w' ⟨rfl, hb⟩
    go_wp2_with fail
    go_ret
    exact ⟨rfl, (below_box2 _ _).trans (hb.mono (by simp))⟩
  have hq0p : z0p.length ≤ 1048576 := by omega
  have hq0s : z0s.length ≤ 1048576 := by omega
  have hq0w : z0w.length ≤ 1048576 := by omega
  have hq1 : z1.length ≤ 1048576 := by omega
  have R0 : Hid (ReadCW w w.heap.size (.slice A0p z0p.length c0p) (.slice A0s z0s.length c0s) (.slice A0w z0w.length c0w) z0p z0s z0w) := Lib.hid ⟨ReadW.mk' hr0p, ReadW.mk' hr0s, ReadW.mk' hr0w⟩
  clear hr0p hn0p hr0s hn0s hr0w hn0w
  have R1 : Hid (ReadW w w.heap.size (.slice A1 z1.length c1) z1) := Lib.hid (ReadW.mk' hr1)
  clear hr1 hn1
  have HW0p := Lib.hid hw0p
  have HW0s := Lib.hid hw0s
  have HW0w := Lib.hid hw0w
  have HW1 := Lib.hid hw1
  clear hw0p hw0s hw0w hw1
  have HS := fun (W : World) (v0p v0s v0w : Value) (v1 : Value) (h0 : ReadC W W.heap.size v0p v0s v0w z0p z0s z0w) (h1 : ReadI W W.heap.size v1 z1) => hid_in (specClusterOfOrders_any v0p v0s v0w z0p z0s z0w v1 z1 W h0 hq0p hq0s hq0w HW0p.out HW0s.out HW0w.out h1 hq1 HW1.out)
  have HI := fun (W : World) (v0p v0s v0w : Value) (v1 : Value) (h0 : ReadC W W.heap.size v0p v0s v0w z0p z0s z0w) (h1 : ReadI W W.heap.size v1 z1) => hid_in (implClusterOfOrders_any v0p v0s v0w z0p z0s z0w v1 z1 W h0 hq0p hq0s hq0w HW0p.out HW0s.out HW0w.out h1 hq1 HW1.out)
  have hl0p := (zo_len z0p z0s z0w z1).1
  have hl0s := (zo_len z0p z0s z0w z1).2.1
  have hl0w := (zo_len z0p z0s z0w z1).2.2
  generalize (zoP z0p z0s z0w z1) = L0p at *
  generalize (zoS z0p z0s z0w z1) = L0s at *
  generalize (zoW z0p z0s z0w z1) = L0w at *
  generalize (zoC z0p z0s z0w z1) = K1_ at *
  have C : Hid (Below w.heap.size w w) := Lib.hid (Below.refl _ _)
  obtain ⟨w1, HE1⟩ : ∃ W, W = w.alloc (.cells #[.slice A0p z0p.length c0p, .slice A0s z0s.length c0s, .slice A0w z0w.length c0w] 24) := ⟨_, rfl⟩
  have hb : Below w.heap.size w w1 := by rw [HE1]; exact below_box2 _ _
  have hq : CBox w1 w.heap.size (.slice A0p z0p.length c0p) (.slice A0s z0s.length c0s) (.slice A0w z0w.length c0w) := by rw [HE1]; exact CBox.new _ _ _ _ _
  have hz : w.heap.size + 1 ≤ w1.heap.size := by rw [HE1]; simp
  replace C := Lib.hid (C.out.trans (hb.mono C.out.size))
  have S0 : Hid (w.heap.size ≤ w1.heap.size) := Lib.hid hb.size
  have Z1 : Hid (w.heap.size + 1 ≤ w1.heap.size) := Lib.hid hz
  have K1 := Lib.hid hq; have HEQ1 := Lib.hid HE1; clear hq HE1 hb hz
  go_enter Try.func7, Try.ntmps7
  go_wp2_with fail
  rw [← HEQ1.out]
  refine (szC_yes _ _ _ _ _ _ _ _ _ (1048576) w1 (by omega) (by omega)).mono ?_
  rintro e w2 ⟨rfl, hb⟩
  replace K1 := Lib.hid (K1.out.stay hb)
  replace C := Lib.hid (C.out.trans (hb.mono C.out.size))
  have S2 : Hid (w1.heap.size ≤ w2.heap.size) := Lib.hid hb.size
  clear hb
  have hy0 : ¬ 1048576 - (z0p.length : Int) - (z0s.length : Int) - (z0w.length : Int) < 0 := by omega
  have hx0 : (0 : Int) ≤ 1048576 - (z0p.length : Int) - (z0s.length : Int) - (z0w.length : Int) := by omega
  have q0K1 := K1.out.c0; have q1K1 := K1.out.c1; have q2K1 := K1.out.c2; have qlK1 := K1.out.lt
  go_wp2_with fail
  clear q0K1 q1K1 q2K1 qlK1
  refine (toC _ _ _ z0p z0s z0w w2 ((R0.out.below C.out).more C.out.size) hq0p hq0s hq0w).mono ?_
  rintro e w3 ⟨x3p, x3s, x3w, rfl, ho, hb⟩
  obtain ⟨xa3p, xc3p, xa3s, xc3s, xa3w, xc3w, rfl, rfl, rfl⟩ := ho.form
  replace K1 := Lib.hid (K1.out.stay hb)
  replace C := Lib.hid (C.out.trans (hb.mono C.out.size))
  have S3 : Hid (w2.heap.size ≤ w3.heap.size) := Lib.hid hb.size
  have OX3 := Lib.hid ho; clear ho
  clear hb
  have q0K1 := K1.out.c0; have q1K1 := K1.out.c1; have q2K1 := K1.out.c2; have qlK1 := K1.out.lt
  go_wp2_with fail
  clear q0K1 q1K1 q2K1 qlK1
  refine (toI _ z1 w3 ((R1.out.below C.out).more C.out.size) hq1).mono ?_
  rintro e w4 ⟨x4, rfl, ho, hb⟩
  obtain ⟨xa4, xc4, rfl⟩ := own_form ho.1
  replace K1 := Lib.hid (K1.out.stay hb)
  replace OX3 := Lib.hid (OX3.out.stay hb)
  replace C := Lib.hid (C.out.trans (hb.mono C.out.size))
  have S4 : Hid (w3.heap.size ≤ w4.heap.size) := Lib.hid hb.size
  have OX4 := Lib.hid ho; clear ho
  clear hb
  have q0K1 := K1.out.c0; have q1K1 := K1.out.c1; have q2K1 := K1.out.c2; have qlK1 := K1.out.lt
  go_wp2_with fail
  clear q0K1 q1K1 q2K1 qlK1
  refine (hid_out (HS w4 (.slice xa3p z0p.length xc3p) (.slice xa3s z0s.length xc3s) (.slice xa3w z0w.length xc3w) (.slice xa4 z1.length xc4) (OX3.out.reads) (OX4.out.reads))).mono ?_
  rintro e w5 ⟨r5_0p, r5_0s, r5_0w, rfl, ho0, hb⟩
  obtain ⟨ra5_0p, rc5_0p, ra5_0s, rc5_0s, ra5_0w, rc5_0w, rfl, rfl, rfl⟩ := ho0.form
  replace K1 := Lib.hid (K1.out.stay hb)
  replace OX3 := Lib.hid (OX3.out.stay hb)
  replace OX4 := Lib.hid (OX4.out.stay hb)
  replace C := Lib.hid (C.out.trans (hb.mono C.out.size))
  have S5 : Hid (w4.heap.size ≤ w5.heap.size) := Lib.hid hb.size
  have OR5_0 := Lib.hid ho0; clear ho0
  clear hb
  have q0K1 := K1.out.c0; have q1K1 := K1.out.c1; have q2K1 := K1.out.c2; have qlK1 := K1.out.lt
  obtain ⟨w6, HE6⟩ : ∃ W, W = w5.alloc (.cells #[(.slice ra5_0p L0p.length rc5_0p), (.slice ra5_0s L0s.length rc5_0s), (.slice ra5_0w L0w.length rc5_0w)] 28) := ⟨_, rfl⟩
  have hb : Below w5.heap.size w5 w6 := by rw [HE6]; exact below_box2 _ _
  have hq : CBox w6 w5.heap.size ((.slice ra5_0p L0p.length rc5_0p)) ((.slice ra5_0s L0s.length rc5_0s)) ((.slice ra5_0w L0w.length rc5_0w)) := by rw [HE6]; exact CBox.new _ _ _ _ _
  have hz : w5.heap.size + 1 ≤ w6.heap.size := by rw [HE6]; simp
  replace K1 := Lib.hid (K1.out.stay hb)
  replace OX3 := Lib.hid (OX3.out.stay hb)
  replace OX4 := Lib.hid (OX4.out.stay hb)
  replace OR5_0 := Lib.hid (OR5_0.out.stay hb)
  replace C := Lib.hid (C.out.trans (hb.mono C.out.size))
  have S6 : Hid (w5.heap.size ≤ w6.heap.size) := Lib.hid hb.size
  have Z6 : Hid (w5.heap.size + 1 ≤ w6.heap.size) := Lib.hid hz
  have K6 := Lib.hid hq; have HEQ6 := Lib.hid HE6; clear hq HE6 hb hz
  go_wp2_with fail
  rw [← HEQ6.out]
  clear q0K1 q1K1 q2K1 qlK1
  refine (toC _ _ _ z0p z0s z0w w6 ((R0.out.below C.out).more C.out.size) hq0p hq0s hq0w).mono ?_
  rintro e w7 ⟨x7p, x7s, x7w, rfl, ho, hb⟩
  obtain ⟨xa7p, xc7p, xa7s, xc7s, xa7w, xc7w, rfl, rfl, rfl⟩ := ho.form
  replace K1 := Lib.hid (K1.out.stay hb)
  replace OX3 := Lib.hid (OX3.out.stay hb)
  replace OX4 := Lib.hid (OX4.out.stay hb)
  replace OR5_0 := Lib.hid (OR5_0.out.stay hb)
  replace K6 := Lib.hid (K6.out.stay hb)
  replace C := Lib.hid (C.out.trans (hb.mono C.out.size))
  have S8 : Hid (w6.heap.size ≤ w7.heap.size) := Lib.hid hb.size
  have OX7 := Lib.hid ho; clear ho
  clear hb
  have q0K1 := K1.out.c0; have q1K1 := K1.out.c1; have q2K1 := K1.out.c2; have qlK1 := K1.out.lt
  have q0K6 := K6.out.c0; have q1K6 := K6.out.c1; have q2K6 := K6.out.c2; have qlK6 := K6.out.lt
  obtain ⟨w8, HE8⟩ : ∃ W, W = w7.alloc (.cells #[(.slice xa7p z0p.length xc7p), (.slice xa7s z0s.length xc7s), (.slice xa7w z0w.length xc7w)] 28) := ⟨_, rfl⟩
  have hb : Below w7.heap.size w7 w8 := by rw [HE8]; exact below_box2 _ _
  have hq : CBox w8 w7.heap.size ((.slice xa7p z0p.length xc7p)) ((.slice xa7s z0s.length xc7s)) ((.slice xa7w z0w.length xc7w)) := by rw [HE8]; exact CBox.new _ _ _ _ _
  have hz : w7.heap.size + 1 ≤ w8.heap.size := by rw [HE8]; simp
  replace K1 := Lib.hid (K1.out.stay hb)
  replace OX3 := Lib.hid (OX3.out.stay hb)
  replace OX4 := Lib.hid (OX4.out.stay hb)
  replace OR5_0 := Lib.hid (OR5_0.out.stay hb)
  replace K6 := Lib.hid (K6.out.stay hb)
  replace OX7 := Lib.hid (OX7.out.stay hb)
  replace C := Lib.hid (C.out.trans (hb.mono C.out.size))
  have S9 : Hid (w7.heap.size ≤ w8.heap.size) := Lib.hid hb.size
  have Z8 : Hid (w7.heap.size + 1 ≤ w8.heap.size) := Lib.hid hz
  have K8 := Lib.hid hq; have HEQ8 := Lib.hid HE8; clear hq HE8 hb hz
  go_wp2_with fail
  rw [← HEQ8.out]
  clear q0K1 q1K1 q2K1 qlK1 q0K6 q1K6 q2K6 qlK6
  refine (toI _ z1 w8 ((R1.out.below C.out).more C.out.size) hq1).mono ?_
  rintro e w9 ⟨x9, rfl, ho, hb⟩
  obtain ⟨xa9, xc9, rfl⟩ := own_form ho.1
  replace K1 := Lib.hid (K1.out.stay hb)
  replace OX3 := Lib.hid (OX3.out.stay hb)
  replace OX4 := Lib.hid (OX4.out.stay hb)
  replace OR5_0 := Lib.hid (OR5_0.out.stay hb)
  replace K6 := Lib.hid (K6.out.stay hb)
  replace OX7 := Lib.hid (OX7.out.stay hb)
  replace K8 := Lib.hid (K8.out.stay hb)
  replace C := Lib.hid (C.out.trans (hb.mono C.out.size))
  have S11 : Hid (w8.heap.size ≤ w9.heap.size) := Lib.hid hb.size
  have OX9 := Lib.hid ho; clear ho
  clear hb
  have q0K1 := K1.out.c0; have q1K1 := K1.out.c1; have q2K1 := K1.out.c2; have qlK1 := K1.out.lt
  have q0K6 := K6.out.c0; have q1K6 := K6.out.c1; have q2K6 := K6.out.c2; have qlK6 := K6.out.lt
  have q0K8 := K8.out.c0; have q1K8 := K8.out.c1; have q2K8 := K8.out.c2; have qlK8 := K8.out.lt
  go_wp2_with fail
  clear q0K1 q1K1 q2K1 qlK1 q0K6 q1K6 q2K6 qlK6 q0K8 q1K8 q2K8 qlK8
  refine (hid_out (HI w9 (.slice xa7p z0p.length xc7p) (.slice xa7s z0s.length xc7s) (.slice xa7w z0w.length xc7w) (.slice xa9 z1.length xc9) (OX7.out.reads) (OX9.out.reads))).mono ?_
  rintro e w10 ⟨r10_0p, r10_0s, r10_0w, rfl, ho0, hb⟩
  obtain ⟨ra10_0p, rc10_0p, ra10_0s, rc10_0s, ra10_0w, rc10_0w, rfl, rfl, rfl⟩ := ho0.form
  replace K1 := Lib.hid (K1.out.stay hb)
  replace OX3 := Lib.hid (OX3.out.stay hb)
  replace OX4 := Lib.hid (OX4.out.stay hb)
  replace OR5_0 := Lib.hid (OR5_0.out.stay hb)
  replace K6 := Lib.hid (K6.out.stay hb)
  replace OX7 := Lib.hid (OX7.out.stay hb)
  replace K8 := Lib.hid (K8.out.stay hb)
  replace OX9 := Lib.hid (OX9.out.stay hb)
  replace C := Lib.hid (C.out.trans (hb.mono C.out.size))
  have S12 : Hid (w9.heap.size ≤ w10.heap.size) := Lib.hid hb.size
  have OR10_0 := Lib.hid ho0; clear ho0
  clear hb
  have q0K1 := K1.out.c0; have q1K1 := K1.out.c1; have q2K1 := K1.out.c2; have qlK1 := K1.out.lt
  have q0K6 := K6.out.c0; have q1K6 := K6.out.c1; have q2K6 := K6.out.c2; have qlK6 := K6.out.lt
  have q0K8 := K8.out.c0; have q1K8 := K8.out.c1; have q2K8 := K8.out.c2; have qlK8 := K8.out.lt
  obtain ⟨w11, HE11⟩ : ∃ W, W = w10.alloc (.cells #[(.slice ra10_0p L0p.length rc10_0p), (.slice ra10_0s L0s.length rc10_0s), (.slice ra10_0w L0w.length rc10_0w)] 28) := ⟨_, rfl⟩
  have hb : Below w10.heap.size w10 w11 := by rw [HE11]; exact below_box2 _ _
  have hq : CBox w11 w10.heap.size ((.slice ra10_0p L0p.length rc10_0p)) ((.slice ra10_0s L0s.length rc10_0s)) ((.slice ra10_0w L0w.length rc10_0w)) := by rw [HE11]; exact CBox.new _ _ _ _ _
  have hz : w10.heap.size + 1 ≤ w11.heap.size := by rw [HE11]; simp
  replace K1 := Lib.hid (K1.out.stay hb)
  replace OX3 := Lib.hid (OX3.out.stay hb)
  replace OX4 := Lib.hid (OX4.out.stay hb)
  replace OR5_0 := Lib.hid (OR5_0.out.stay hb)
  replace K6 := Lib.hid (K6.out.stay hb)
  replace OX7 := Lib.hid (OX7.out.stay hb)
  replace K8 := Lib.hid (K8.out.stay hb)
  replace OX9 := Lib.hid (OX9.out.stay hb)
  replace OR10_0 := Lib.hid (OR10_0.out.stay hb)
  replace C := Lib.hid (C.out.trans (hb.mono C.out.size))
  have S13 : Hid (w10.heap.size ≤ w11.heap.size) := Lib.hid hb.size
  have Z11 : Hid (w10.heap.size + 1 ≤ w11.heap.size) := Lib.hid hz
  have K11 := Lib.hid hq; have HEQ11 := Lib.hid HE11; clear hq HE11 hb hz
  go_wp2_with fail
  rw [← HEQ11.out]
  clear q0K1 q1K1 q2K1 qlK1 q0K6 q1K6 q2K6 qlK6 q0K8 q1K8 q2K8 qlK8
  refine (eqC _ _ _ _ _ _ L0p L0s L0w w11 (OR10_0.out.reads) (OR5_0.out.reads) (by omega) (by omega) (by omega)).mono ?_
  rintro e w12 ⟨rfl, hb⟩
  replace K1 := Lib.hid (K1.out.stay hb)
  replace OX3 := Lib.hid (OX3.out.stay hb)
  replace OX4 := Lib.hid (OX4.out.stay hb)
  replace OR5_0 := Lib.hid (OR5_0.out.stay hb)
  replace K6 := Lib.hid (K6.out.stay hb)
  replace OX7 := Lib.hid (OX7.out.stay hb)
  replace K8 := Lib.hid (K8.out.stay hb)
  replace OX9 := Lib.hid (OX9.out.stay hb)
  replace OR10_0 := Lib.hid (OR10_0.out.stay hb)
  replace K11 := Lib.hid (K11.out.stay hb)
  replace C := Lib.hid (C.out.trans (hb.mono C.out.size))
  have S15 : Hid (w11.heap.size ≤ w12.heap.size) := Lib.hid hb.size
  clear hb
  have q0K1 := K1.out.c0; have q1K1 := K1.out.c1; have q2K1 := K1.out.c2; have qlK1 := K1.out.lt
  have q0K6 := K6.out.c0; have q1K6 := K6.out.c1; have q2K6 := K6.out.c2; have qlK6 := K6.out.lt
  have q0K8 := K8.out.c0; have q1K8 := K8.out.c1; have q2K8 := K8.out.c2; have qlK8 := K8.out.lt
  have q0K11 := K11.out.c0; have q1K11 := K11.out.c1; have q2K11 := K11.out.c2; have qlK11 := K11.out.lt
  go_wp2_with fail
  clear q0K1 q1K1 q2K1 qlK1 q0K6 q1K6 q2K6 qlK6 q0K8 q1K8 q2K8 qlK8 q0K11 q1K11 q2K11 qlK11
  have RR := Lib.hid ((R0.out.below C.out).more C.out.size)
  refine wp_region_held_drew (S := fun w' => w'.cell? ⟨w7.heap.size, 0, none⟩ = some ((.slice xa7p z0p.length xc7p)) ∧ w'.cell? ⟨w7.heap.size, 1, none⟩ = some ((.slice xa7s z0s.length xc7s)) ∧ w'.cell? ⟨w7.heap.size, 2, none⟩ = some ((.slice xa7w z0w.length xc7w)) ∧ w'.cell? ⟨w.heap.size, 0, none⟩ = some (.slice A0p z0p.length c0p) ∧ w'.cell? ⟨w.heap.size, 1, none⟩ = some (.slice A0s z0s.length c0s) ∧ w'.cell? ⟨w.heap.size, 2, none⟩ = some (.slice A0w z0w.length c0w)) (by kernel_rfl) ⟨K8.out.c0, K8.out.c1, K8.out.c2, K1.out.c0, K1.out.c1, K1.out.c2⟩ (fun hHeld => ?_)
  refine takeY 0 _ (v := ?_) rfl rfl (by kernel_rfl) (by kernel_rfl) (by kernel_rfl) (fun _ _ _ h => h) (by kernel_rfl) ?_ (by assumption) ?_
  rotate_left 1
  · intro w hSw; (try dsimp only at hSw); go_simp; (try with_reducible rfl)
  try simp only [Act.put, List.setIfInBounds_toArray, List.set_cons_zero, List.set_cons_succ]
  refine takeY 1 _ (v := ?_) rfl rfl (by kernel_rfl) (by kernel_rfl) (by kernel_rfl) (fun _ _ _ h => h) (by kernel_rfl) ?_ (by assumption) ?_
  rotate_left 1
  · intro w hSw; (try dsimp only at hSw); go_simp; (try with_reducible rfl)
  try simp only [Act.put, List.setIfInBounds_toArray, List.set_cons_zero, List.set_cons_succ]
  refine wpAnyH_ready (rs := [2]) (by kernel_rfl) (by simp) ?_
  refine AllReadyH.cons rfl (fun K hK => ?_) AllReadyH.nil
  go_simp
  refine (toC_drew _ _ _ z0p z0s z0w w12 RR.out hq0p hq0s hq0w).mono ?_
  rintro e w13 ⟨x13p, x13s, x13w, rfl, ho, hb⟩
  obtain ⟨xa13p, xc13p, xa13s, xc13s, xa13w, xc13w, rfl, rfl, rfl⟩ := ho.form
  replace K1 := Lib.hid (K1.out.stay hb)
  replace OX3 := Lib.hid (OX3.out.stay hb)
  replace OX4 := Lib.hid (OX4.out.stay hb)
  replace OR5_0 := Lib.hid (OR5_0.out.stay hb)
  replace K6 := Lib.hid (K6.out.stay hb)
  replace OX7 := Lib.hid (OX7.out.stay hb)
  replace K8 := Lib.hid (K8.out.stay hb)
  replace OX9 := Lib.hid (OX9.out.stay hb)
  replace OR10_0 := Lib.hid (OR10_0.out.stay hb)
  replace K11 := Lib.hid (K11.out.stay hb)
  replace C := Lib.hid (C.out.trans (hb.mono C.out.size))
  have S16 : Hid (w12.heap.size ≤ w13.heap.size) := Lib.hid hb.size
  have OX13 := Lib.hid ho; clear ho
  clear hb
  refine hK.out _ _ ⟨K8.out.c0, K8.out.c1, K8.out.c2, K1.out.c0, K1.out.c1, K1.out.c2⟩ (fun hHeld => ?_)
  clear hK K
  try simp only [Act.put, List.setIfInBounds_toArray, List.set_cons_zero, List.set_cons_succ]
  refine wpAnyH_ready (rs := [3]) (by kernel_rfl) (by simp) ?_
  refine AllReadyH.cons rfl (fun K hK => ?_) AllReadyH.nil
  go_simp
  refine (eqC _ _ _ _ _ _ z0p z0s z0w w13 (OX7.out.reads) (OX13.out.reads) (by omega) (by omega) (by omega)).mono ?_
  rintro e w14 ⟨rfl, hb⟩
  replace K1 := Lib.hid (K1.out.stay hb)
  replace OX3 := Lib.hid (OX3.out.stay hb)
  replace OX4 := Lib.hid (OX4.out.stay hb)
  replace OR5_0 := Lib.hid (OR5_0.out.stay hb)
  replace K6 := Lib.hid (K6.out.stay hb)
  replace OX7 := Lib.hid (OX7.out.stay hb)
  replace K8 := Lib.hid (K8.out.stay hb)
  replace OX9 := Lib.hid (OX9.out.stay hb)
  replace OR10_0 := Lib.hid (OR10_0.out.stay hb)
  replace K11 := Lib.hid (K11.out.stay hb)
  replace OX13 := Lib.hid (OX13.out.stay hb)
  replace C := Lib.hid (C.out.trans (hb.mono C.out.size))
  have S17 : Hid (w13.heap.size ≤ w14.heap.size) := Lib.hid hb.size
  clear hb
  refine hK.out _ _ ⟨K8.out.c0, K8.out.c1, K8.out.c2, K1.out.c0, K1.out.c1, K1.out.c2⟩ (fun hHeld => ?_)
  clear hK K
  try simp only [Act.put, List.setIfInBounds_toArray, List.set_cons_zero, List.set_cons_succ]
  refine takeY 4 _ (v := ?_) rfl rfl (by kernel_rfl) (by kernel_rfl) (by kernel_rfl) (fun _ _ _ h => h) (by kernel_rfl) ?_ (by assumption) ?_
  rotate_left 1
  · intro w hSw; (try dsimp only at hSw); go_simp; (try with_reducible rfl)
  try simp only [Act.put, List.setIfInBounds_toArray, List.set_cons_zero, List.set_cons_succ]
  refine wpAnyH_done (by kernel_rfl) ?_ _
  clear hHeld RR
  have q0K1 := K1.out.c0; have q1K1 := K1.out.c1; have q2K1 := K1.out.c2; have qlK1 := K1.out.lt
  have q0K6 := K6.out.c0; have q1K6 := K6.out.c1; have q2K6 := K6.out.c2; have qlK6 := K6.out.lt
  have q0K8 := K8.out.c0; have q1K8 := K8.out.c1; have q2K8 := K8.out.c2; have qlK8 := K8.out.lt
  have q0K11 := K11.out.c0; have q1K11 := K11.out.c1; have q2K11 := K11.out.c2; have qlK11 := K11.out.lt
  go_wp2_with fail
  clear q0K1 q1K1 q2K1 qlK1 q0K6 q1K6 q2K6 qlK6 q0K8 q1K8 q2K8 qlK8 q0K11 q1K11 q2K11 qlK11
  refine (toI _ z1 w14 ((R1.out.below C.out).more C.out.size) hq1).mono ?_
  rintro e w15 ⟨x15, rfl, ho, hb⟩
  obtain ⟨xa15, xc15, rfl⟩ := own_form ho.1
  replace K1 := Lib.hid (K1.out.stay hb)
  replace OX3 := Lib.hid (OX3.out.stay hb)
  replace OX4 := Lib.hid (OX4.out.stay hb)
  replace OR5_0 := Lib.hid (OR5_0.out.stay hb)
  replace K6 := Lib.hid (K6.out.stay hb)
  replace OX7 := Lib.hid (OX7.out.stay hb)
  replace K8 := Lib.hid (K8.out.stay hb)
  replace OX9 := Lib.hid (OX9.out.stay hb)
  replace OR10_0 := Lib.hid (OR10_0.out.stay hb)
  replace K11 := Lib.hid (K11.out.stay hb)
  replace OX13 := Lib.hid (OX13.out.stay hb)
  replace C := Lib.hid (C.out.trans (hb.mono C.out.size))
  have S18 : Hid (w14.heap.size ≤ w15.heap.size) := Lib.hid hb.size
  have OX15 := Lib.hid ho; clear ho
  clear hb
  have q0K1 := K1.out.c0; have q1K1 := K1.out.c1; have q2K1 := K1.out.c2; have qlK1 := K1.out.lt
  have q0K6 := K6.out.c0; have q1K6 := K6.out.c1; have q2K6 := K6.out.c2; have qlK6 := K6.out.lt
  have q0K8 := K8.out.c0; have q1K8 := K8.out.c1; have q2K8 := K8.out.c2; have qlK8 := K8.out.lt
  have q0K11 := K11.out.c0; have q1K11 := K11.out.c1; have q2K11 := K11.out.c2; have qlK11 := K11.out.lt
  go_wp2_with fail
  clear q0K1 q1K1 q2K1 qlK1 q0K6 q1K6 q2K6 qlK6 q0K8 q1K8 q2K8 qlK8 q0K11 q1K11 q2K11 qlK11
  refine (eqI' _ _ z1 w15 w15.heap.size (OX9.out.reads) (OX15.out.reads) (by omega)).mono ?_
  rintro e w16 ⟨rfl, hb⟩
  replace K1 := Lib.hid (K1.out.stay hb)
  replace OX3 := Lib.hid (OX3.out.stay hb)
  replace OX4 := Lib.hid (OX4.out.stay hb)
  replace OR5_0 := Lib.hid (OR5_0.out.stay hb)
  replace K6 := Lib.hid (K6.out.stay hb)
  replace OX7 := Lib.hid (OX7.out.stay hb)
  replace K8 := Lib.hid (K8.out.stay hb)
  replace OX9 := Lib.hid (OX9.out.stay hb)
  replace OR10_0 := Lib.hid (OR10_0.out.stay hb)
  replace K11 := Lib.hid (K11.out.stay hb)
  replace OX13 := Lib.hid (OX13.out.stay hb)
  replace OX15 := Lib.hid (OX15.out.stay hb)
  replace C := Lib.hid (C.out.trans (hb.mono C.out.size))
  have S19 : Hid (w15.heap.size ≤ w16.heap.size) := Lib.hid hb.size
  clear hb
  have q0K1 := K1.out.c0; have q1K1 := K1.out.c1; have q2K1 := K1.out.c2; have qlK1 := K1.out.lt
  have q0K6 := K6.out.c0; have q1K6 := K6.out.c1; have q2K6 := K6.out.c2; have qlK6 := K6.out.lt
  have q0K8 := K8.out.c0; have q1K8 := K8.out.c1; have q2K8 := K8.out.c2; have qlK8 := K8.out.lt
  have q0K11 := K11.out.c0; have q1K11 := K11.out.c1; have q2K11 := K11.out.c2; have qlK11 := K11.out.lt
  go_wp2_with fail
  clear q0K1 q1K1 q2K1 qlK1 q0K6 q1K6 q2K6 qlK6 q0K8 q1K8 q2K8 qlK8 q0K11 q1K11 q2K11 qlK11
  refine (markC _ _ _ _ _ z0p z0s z0w 1 w16 OX7.out (by omega) (by omega) (by omega) (by omega)).mono ?_
  rintro e w17 ⟨rfl, hm, hb⟩
  replace K1 := Lib.hid (K1.out.kept (hb.kept (by have s0o := S0.out; have z1o := Z1.out; have s2o := S2.out; have s3o := S3.out; have s4o := S4.out; have s5o := S5.out; have s6o := S6.out; have z6o := Z6.out; have s8o := S8.out; have s9o := S9.out; have z8o := Z8.out; have s11o := S11.out; have s12o := S12.out; have s13o := S13.out; have z11o := Z11.out; have s15o := S15.out; have s16o := S16.out; have s17o := S17.out; have s18o := S18.out; have s19o := S19.out; omega) (by have s0o := S0.out; have z1o := Z1.out; have s2o := S2.out; have s3o := S3.out; have s4o := S4.out; have s5o := S5.out; have s6o := S6.out; have z6o := Z6.out; have s8o := S8.out; have s9o := S9.out; have z8o := Z8.out; have s11o := S11.out; have s12o := S12.out; have s13o := S13.out; have z11o := Z11.out; have s15o := S15.out; have s16o := S16.out; have s17o := S17.out; have s18o := S18.out; have s19o := S19.out; omega)))
  replace OX3 := Lib.hid (OX3.out.kept (hb.kept (by have s0o := S0.out; have z1o := Z1.out; have s2o := S2.out; have s3o := S3.out; have s4o := S4.out; have s5o := S5.out; have s6o := S6.out; have z6o := Z6.out; have s8o := S8.out; have s9o := S9.out; have z8o := Z8.out; have s11o := S11.out; have s12o := S12.out; have s13o := S13.out; have z11o := Z11.out; have s15o := S15.out; have s16o := S16.out; have s17o := S17.out; have s18o := S18.out; have s19o := S19.out; omega) (by have s0o := S0.out; have z1o := Z1.out; have s2o := S2.out; have s3o := S3.out; have s4o := S4.out; have s5o := S5.out; have s6o := S6.out; have z6o := Z6.out; have s8o := S8.out; have s9o := S9.out; have z8o := Z8.out; have s11o := S11.out; have s12o := S12.out; have s13o := S13.out; have z11o := Z11.out; have s15o := S15.out; have s16o := S16.out; have s17o := S17.out; have s18o := S18.out; have s19o := S19.out; omega)))
  replace OX4 := Lib.hid (OX4.out.kept (hb.kept (by have s0o := S0.out; have z1o := Z1.out; have s2o := S2.out; have s3o := S3.out; have s4o := S4.out; have s5o := S5.out; have s6o := S6.out; have z6o := Z6.out; have s8o := S8.out; have s9o := S9.out; have z8o := Z8.out; have s11o := S11.out; have s12o := S12.out; have s13o := S13.out; have z11o := Z11.out; have s15o := S15.out; have s16o := S16.out; have s17o := S17.out; have s18o := S18.out; have s19o := S19.out; omega) (by have s0o := S0.out; have z1o := Z1.out; have s2o := S2.out; have s3o := S3.out; have s4o := S4.out; have s5o := S5.out; have s6o := S6.out; have z6o := Z6.out; have s8o := S8.out; have s9o := S9.out; have z8o := Z8.out; have s11o := S11.out; have s12o := S12.out; have s13o := S13.out; have z11o := Z11.out; have s15o := S15.out; have s16o := S16.out; have s17o := S17.out; have s18o := S18.out; have s19o := S19.out; omega)))
  replace OR5_0 := Lib.hid (OR5_0.out.kept (hb.kept (by have s0o := S0.out; have z1o := Z1.out; have s2o := S2.out; have s3o := S3.out; have s4o := S4.out; have s5o := S5.out; have s6o := S6.out; have z6o := Z6.out; have s8o := S8.out; have s9o := S9.out; have z8o := Z8.out; have s11o := S11.out; have s12o := S12.out; have s13o := S13.out; have z11o := Z11.out; have s15o := S15.out; have s16o := S16.out; have s17o := S17.out; have s18o := S18.out; have s19o := S19.out; omega) (by have s0o := S0.out; have z1o := Z1.out; have s2o := S2.out; have s3o := S3.out; have s4o := S4.out; have s5o := S5.out; have s6o := S6.out; have z6o := Z6.out; have s8o := S8.out; have s9o := S9.out; have z8o := Z8.out; have s11o := S11.out; have s12o := S12.out; have s13o := S13.out; have z11o := Z11.out; have s15o := S15.out; have s16o := S16.out; have s17o := S17.out; have s18o := S18.out; have s19o := S19.out; omega)))
  replace K6 := Lib.hid (K6.out.kept (hb.kept (by have s0o := S0.out; have z1o := Z1.out; have s2o := S2.out; have s3o := S3.out; have s4o := S4.out; have s5o := S5.out; have s6o := S6.out; have z6o := Z6.out; have s8o := S8.out; have s9o := S9.out; have z8o := Z8.out; have s11o := S11.out; have s12o := S12.out; have s13o := S13.out; have z11o := Z11.out; have s15o := S15.out; have s16o := S16.out; have s17o := S17.out; have s18o := S18.out; have s19o := S19.out; omega) (by have s0o := S0.out; have z1o := Z1.out; have s2o := S2.out; have s3o := S3.out; have s4o := S4.out; have s5o := S5.out; have s6o := S6.out; have z6o := Z6.out; have s8o := S8.out; have s9o := S9.out; have z8o := Z8.out; have s11o := S11.out; have s12o := S12.out; have s13o := S13.out; have z11o := Z11.out; have s15o := S15.out; have s16o := S16.out; have s17o := S17.out; have s18o := S18.out; have s19o := S19.out; omega)))
  replace K8 := Lib.hid (K8.out.kept (hb.kept (by have s0o := S0.out; have z1o := Z1.out; have s2o := S2.out; have s3o := S3.out; have s4o := S4.out; have s5o := S5.out; have s6o := S6.out; have z6o := Z6.out; have s8o := S8.out; have s9o := S9.out; have z8o := Z8.out; have s11o := S11.out; have s12o := S12.out; have s13o := S13.out; have z11o := Z11.out; have s15o := S15.out; have s16o := S16.out; have s17o := S17.out; have s18o := S18.out; have s19o := S19.out; omega) (by have s0o := S0.out; have z1o := Z1.out; have s2o := S2.out; have s3o := S3.out; have s4o := S4.out; have s5o := S5.out; have s6o := S6.out; have z6o := Z6.out; have s8o := S8.out; have s9o := S9.out; have z8o := Z8.out; have s11o := S11.out; have s12o := S12.out; have s13o := S13.out; have z11o := Z11.out; have s15o := S15.out; have s16o := S16.out; have s17o := S17.out; have s18o := S18.out; have s19o := S19.out; omega)))
  replace OX9 := Lib.hid (OX9.out.kept (hb.kept (by have s0o := S0.out; have z1o := Z1.out; have s2o := S2.out; have s3o := S3.out; have s4o := S4.out; have s5o := S5.out; have s6o := S6.out; have z6o := Z6.out; have s8o := S8.out; have s9o := S9.out; have z8o := Z8.out; have s11o := S11.out; have s12o := S12.out; have s13o := S13.out; have z11o := Z11.out; have s15o := S15.out; have s16o := S16.out; have s17o := S17.out; have s18o := S18.out; have s19o := S19.out; omega) (by have s0o := S0.out; have z1o := Z1.out; have s2o := S2.out; have s3o := S3.out; have s4o := S4.out; have s5o := S5.out; have s6o := S6.out; have z6o := Z6.out; have s8o := S8.out; have s9o := S9.out; have z8o := Z8.out; have s11o := S11.out; have s12o := S12.out; have s13o := S13.out; have z11o := Z11.out; have s15o := S15.out; have s16o := S16.out; have s17o := S17.out; have s18o := S18.out; have s19o := S19.out; omega)))
  replace OR10_0 := Lib.hid (OR10_0.out.kept (hb.kept (by have s0o := S0.out; have z1o := Z1.out; have s2o := S2.out; have s3o := S3.out; have s4o := S4.out; have s5o := S5.out; have s6o := S6.out; have z6o := Z6.out; have s8o := S8.out; have s9o := S9.out; have z8o := Z8.out; have s11o := S11.out; have s12o := S12.out; have s13o := S13.out; have z11o := Z11.out; have s15o := S15.out; have s16o := S16.out; have s17o := S17.out; have s18o := S18.out; have s19o := S19.out; omega) (by have s0o := S0.out; have z1o := Z1.out; have s2o := S2.out; have s3o := S3.out; have s4o := S4.out; have s5o := S5.out; have s6o := S6.out; have z6o := Z6.out; have s8o := S8.out; have s9o := S9.out; have z8o := Z8.out; have s11o := S11.out; have s12o := S12.out; have s13o := S13.out; have z11o := Z11.out; have s15o := S15.out; have s16o := S16.out; have s17o := S17.out; have s18o := S18.out; have s19o := S19.out; omega)))
  replace K11 := Lib.hid (K11.out.kept (hb.kept (by have s0o := S0.out; have z1o := Z1.out; have s2o := S2.out; have s3o := S3.out; have s4o := S4.out; have s5o := S5.out; have s6o := S6.out; have z6o := Z6.out; have s8o := S8.out; have s9o := S9.out; have z8o := Z8.out; have s11o := S11.out; have s12o := S12.out; have s13o := S13.out; have z11o := Z11.out; have s15o := S15.out; have s16o := S16.out; have s17o := S17.out; have s18o := S18.out; have s19o := S19.out; omega) (by have s0o := S0.out; have z1o := Z1.out; have s2o := S2.out; have s3o := S3.out; have s4o := S4.out; have s5o := S5.out; have s6o := S6.out; have z6o := Z6.out; have s8o := S8.out; have s9o := S9.out; have z8o := Z8.out; have s11o := S11.out; have s12o := S12.out; have s13o := S13.out; have z11o := Z11.out; have s15o := S15.out; have s16o := S16.out; have s17o := S17.out; have s18o := S18.out; have s19o := S19.out; omega)))
  replace OX13 := Lib.hid (OX13.out.kept (hb.kept (by have s0o := S0.out; have z1o := Z1.out; have s2o := S2.out; have s3o := S3.out; have s4o := S4.out; have s5o := S5.out; have s6o := S6.out; have z6o := Z6.out; have s8o := S8.out; have s9o := S9.out; have z8o := Z8.out; have s11o := S11.out; have s12o := S12.out; have s13o := S13.out; have z11o := Z11.out; have s15o := S15.out; have s16o := S16.out; have s17o := S17.out; have s18o := S18.out; have s19o := S19.out; omega) (by have s0o := S0.out; have z1o := Z1.out; have s2o := S2.out; have s3o := S3.out; have s4o := S4.out; have s5o := S5.out; have s6o := S6.out; have z6o := Z6.out; have s8o := S8.out; have s9o := S9.out; have z8o := Z8.out; have s11o := S11.out; have s12o := S12.out; have s13o := S13.out; have z11o := Z11.out; have s15o := S15.out; have s16o := S16.out; have s17o := S17.out; have s18o := S18.out; have s19o := S19.out; omega)))
  replace OX15 := Lib.hid (OX15.out.kept (hb.kept (by have s0o := S0.out; have z1o := Z1.out; have s2o := S2.out; have s3o := S3.out; have s4o := S4.out; have s5o := S5.out; have s6o := S6.out; have z6o := Z6.out; have s8o := S8.out; have s9o := S9.out; have z8o := Z8.out; have s11o := S11.out; have s12o := S12.out; have s13o := S13.out; have z11o := Z11.out; have s15o := S15.out; have s16o := S16.out; have s17o := S17.out; have s18o := S18.out; have s19o := S19.out; omega) (by have s0o := S0.out; have z1o := Z1.out; have s2o := S2.out; have s3o := S3.out; have s4o := S4.out; have s5o := S5.out; have s6o := S6.out; have z6o := Z6.out; have s8o := S8.out; have s9o := S9.out; have z8o := Z8.out; have s11o := S11.out; have s12o := S12.out; have s13o := S13.out; have z11o := Z11.out; have s15o := S15.out; have s16o := S16.out; have s17o := S17.out; have s18o := S18.out; have s19o := S19.out; omega)))
  replace C := Lib.hid (C.out.trans (Only.below hb (by have s0o := S0.out; have z1o := Z1.out; have s2o := S2.out; have s3o := S3.out; have s4o := S4.out; have s5o := S5.out; have s6o := S6.out; have z6o := Z6.out; have s8o := S8.out; have s9o := S9.out; have z8o := Z8.out; have s11o := S11.out; have s12o := S12.out; have s13o := S13.out; have z11o := Z11.out; have s15o := S15.out; have s16o := S16.out; have s17o := S17.out; have s18o := S18.out; have s19o := S19.out; omega) C.out.size))
  have S20 : Hid (w16.heap.size ≤ w17.heap.size) := Lib.hid hb.size
  have M17 := Lib.hid hm; clear hm hb
  have q0K1 := K1.out.c0; have q1K1 := K1.out.c1; have q2K1 := K1.out.c2; have qlK1 := K1.out.lt
  have q0K6 := K6.out.c0; have q1K6 := K6.out.c1; have q2K6 := K6.out.c2; have qlK6 := K6.out.lt
  have q0K8 := K8.out.c0; have q1K8 := K8.out.c1; have q2K8 := K8.out.c2; have qlK8 := K8.out.lt
  have q0K11 := K11.out.c0; have q1K11 := K11.out.c1; have q2K11 := K11.out.c2; have qlK11 := K11.out.lt
  go_wp2_with fail
  clear q0K1 q1K1 q2K1 qlK1 q0K6 q1K6 q2K6 qlK6 q0K8 q1K8 q2K8 qlK8 q0K11 q1K11 q2K11 qlK11
  refine (markI' _ _ _ z1 (1 + ((z0p.length + z0s.length + z0w.length : Nat) : Int)) w17 OX9.out (by omega) (by omega)).mono ?_
  rintro e w18 ⟨rfl, hm, hb⟩
  replace K1 := Lib.hid (K1.out.kept (hb.kept (by have s0o := S0.out; have z1o := Z1.out; have s2o := S2.out; have s3o := S3.out; have s4o := S4.out; have s5o := S5.out; have s6o := S6.out; have z6o := Z6.out; have s8o := S8.out; have s9o := S9.out; have z8o := Z8.out; have s11o := S11.out; have s12o := S12.out; have s13o := S13.out; have z11o := Z11.out; have s15o := S15.out; have s16o := S16.out; have s17o := S17.out; have s18o := S18.out; have s19o := S19.out; have s20o := S20.out; omega) (by have s0o := S0.out; have z1o := Z1.out; have s2o := S2.out; have s3o := S3.out; have s4o := S4.out; have s5o := S5.out; have s6o := S6.out; have z6o := Z6.out; have s8o := S8.out; have s9o := S9.out; have z8o := Z8.out; have s11o := S11.out; have s12o := S12.out; have s13o := S13.out; have z11o := Z11.out; have s15o := S15.out; have s16o := S16.out; have s17o := S17.out; have s18o := S18.out; have s19o := S19.out; have s20o := S20.out; omega)))
  replace OX3 := Lib.hid (OX3.out.kept (hb.kept (by have s0o := S0.out; have z1o := Z1.out; have s2o := S2.out; have s3o := S3.out; have s4o := S4.out; have s5o := S5.out; have s6o := S6.out; have z6o := Z6.out; have s8o := S8.out; have s9o := S9.out; have z8o := Z8.out; have s11o := S11.out; have s12o := S12.out; have s13o := S13.out; have z11o := Z11.out; have s15o := S15.out; have s16o := S16.out; have s17o := S17.out; have s18o := S18.out; have s19o := S19.out; have s20o := S20.out; omega) (by have s0o := S0.out; have z1o := Z1.out; have s2o := S2.out; have s3o := S3.out; have s4o := S4.out; have s5o := S5.out; have s6o := S6.out; have z6o := Z6.out; have s8o := S8.out; have s9o := S9.out; have z8o := Z8.out; have s11o := S11.out; have s12o := S12.out; have s13o := S13.out; have z11o := Z11.out; have s15o := S15.out; have s16o := S16.out; have s17o := S17.out; have s18o := S18.out; have s19o := S19.out; have s20o := S20.out; omega)))
  replace OX4 := Lib.hid (OX4.out.kept (hb.kept (by have s0o := S0.out; have z1o := Z1.out; have s2o := S2.out; have s3o := S3.out; have s4o := S4.out; have s5o := S5.out; have s6o := S6.out; have z6o := Z6.out; have s8o := S8.out; have s9o := S9.out; have z8o := Z8.out; have s11o := S11.out; have s12o := S12.out; have s13o := S13.out; have z11o := Z11.out; have s15o := S15.out; have s16o := S16.out; have s17o := S17.out; have s18o := S18.out; have s19o := S19.out; have s20o := S20.out; omega) (by have s0o := S0.out; have z1o := Z1.out; have s2o := S2.out; have s3o := S3.out; have s4o := S4.out; have s5o := S5.out; have s6o := S6.out; have z6o := Z6.out; have s8o := S8.out; have s9o := S9.out; have z8o := Z8.out; have s11o := S11.out; have s12o := S12.out; have s13o := S13.out; have z11o := Z11.out; have s15o := S15.out; have s16o := S16.out; have s17o := S17.out; have s18o := S18.out; have s19o := S19.out; have s20o := S20.out; omega)))
  replace OR5_0 := Lib.hid (OR5_0.out.kept (hb.kept (by have s0o := S0.out; have z1o := Z1.out; have s2o := S2.out; have s3o := S3.out; have s4o := S4.out; have s5o := S5.out; have s6o := S6.out; have z6o := Z6.out; have s8o := S8.out; have s9o := S9.out; have z8o := Z8.out; have s11o := S11.out; have s12o := S12.out; have s13o := S13.out; have z11o := Z11.out; have s15o := S15.out; have s16o := S16.out; have s17o := S17.out; have s18o := S18.out; have s19o := S19.out; have s20o := S20.out; omega) (by have s0o := S0.out; have z1o := Z1.out; have s2o := S2.out; have s3o := S3.out; have s4o := S4.out; have s5o := S5.out; have s6o := S6.out; have z6o := Z6.out; have s8o := S8.out; have s9o := S9.out; have z8o := Z8.out; have s11o := S11.out; have s12o := S12.out; have s13o := S13.out; have z11o := Z11.out; have s15o := S15.out; have s16o := S16.out; have s17o := S17.out; have s18o := S18.out; have s19o := S19.out; have s20o := S20.out; omega)))
  replace K6 := Lib.hid (K6.out.kept (hb.kept (by have s0o := S0.out; have z1o := Z1.out; have s2o := S2.out; have s3o := S3.out; have s4o := S4.out; have s5o := S5.out; have s6o := S6.out; have z6o := Z6.out; have s8o := S8.out; have s9o := S9.out; have z8o := Z8.out; have s11o := S11.out; have s12o := S12.out; have s13o := S13.out; have z11o := Z11.out; have s15o := S15.out; have s16o := S16.out; have s17o := S17.out; have s18o := S18.out; have s19o := S19.out; have s20o := S20.out; omega) (by have s0o := S0.out; have z1o := Z1.out; have s2o := S2.out; have s3o := S3.out; have s4o := S4.out; have s5o := S5.out; have s6o := S6.out; have z6o := Z6.out; have s8o := S8.out; have s9o := S9.out; have z8o := Z8.out; have s11o := S11.out; have s12o := S12.out; have s13o := S13.out; have z11o := Z11.out; have s15o := S15.out; have s16o := S16.out; have s17o := S17.out; have s18o := S18.out; have s19o := S19.out; have s20o := S20.out; omega)))
  replace K8 := Lib.hid (K8.out.kept (hb.kept (by have s0o := S0.out; have z1o := Z1.out; have s2o := S2.out; have s3o := S3.out; have s4o := S4.out; have s5o := S5.out; have s6o := S6.out; have z6o := Z6.out; have s8o := S8.out; have s9o := S9.out; have z8o := Z8.out; have s11o := S11.out; have s12o := S12.out; have s13o := S13.out; have z11o := Z11.out; have s15o := S15.out; have s16o := S16.out; have s17o := S17.out; have s18o := S18.out; have s19o := S19.out; have s20o := S20.out; omega) (by have s0o := S0.out; have z1o := Z1.out; have s2o := S2.out; have s3o := S3.out; have s4o := S4.out; have s5o := S5.out; have s6o := S6.out; have z6o := Z6.out; have s8o := S8.out; have s9o := S9.out; have z8o := Z8.out; have s11o := S11.out; have s12o := S12.out; have s13o := S13.out; have z11o := Z11.out; have s15o := S15.out; have s16o := S16.out; have s17o := S17.out; have s18o := S18.out; have s19o := S19.out; have s20o := S20.out; omega)))
  replace OR10_0 := Lib.hid (OR10_0.out.kept (hb.kept (by have s0o := S0.out; have z1o := Z1.out; have s2o := S2.out; have s3o := S3.out; have s4o := S4.out; have s5o := S5.out; have s6o := S6.out; have z6o := Z6.out; have s8o := S8.out; have s9o := S9.out; have z8o := Z8.out; have s11o := S11.out; have s12o := S12.out; have s13o := S13.out; have z11o := Z11.out; have s15o := S15.out; have s16o := S16.out; have s17o := S17.out; have s18o := S18.out; have s19o := S19.out; have s20o := S20.out; omega) (by have s0o := S0.out; have z1o := Z1.out; have s2o := S2.out; have s3o := S3.out; have s4o := S4.out; have s5o := S5.out; have s6o := S6.out; have z6o := Z6.out; have s8o := S8.out; have s9o := S9.out; have z8o := Z8.out; have s11o := S11.out; have s12o := S12.out; have s13o := S13.out; have z11o := Z11.out; have s15o := S15.out; have s16o := S16.out; have s17o := S17.out; have s18o := S18.out; have s19o := S19.out; have s20o := S20.out; omega)))
  replace K11 := Lib.hid (K11.out.kept (hb.kept (by have s0o := S0.out; have z1o := Z1.out; have s2o := S2.out; have s3o := S3.out; have s4o := S4.out; have s5o := S5.out; have s6o := S6.out; have z6o := Z6.out; have s8o := S8.out; have s9o := S9.out; have z8o := Z8.out; have s11o := S11.out; have s12o := S12.out; have s13o := S13.out; have z11o := Z11.out; have s15o := S15.out; have s16o := S16.out; have s17o := S17.out; have s18o := S18.out; have s19o := S19.out; have s20o := S20.out; omega) (by have s0o := S0.out; have z1o := Z1.out; have s2o := S2.out; have s3o := S3.out; have s4o := S4.out; have s5o := S5.out; have s6o := S6.out; have z6o := Z6.out; have s8o := S8.out; have s9o := S9.out; have z8o := Z8.out; have s11o := S11.out; have s12o := S12.out; have s13o := S13.out; have z11o := Z11.out; have s15o := S15.out; have s16o := S16.out; have s17o := S17.out; have s18o := S18.out; have s19o := S19.out; have s20o := S20.out; omega)))
  replace OX13 := Lib.hid (OX13.out.kept (hb.kept (by have s0o := S0.out; have z1o := Z1.out; have s2o := S2.out; have s3o := S3.out; have s4o := S4.out; have s5o := S5.out; have s6o := S6.out; have z6o := Z6.out; have s8o := S8.out; have s9o := S9.out; have z8o := Z8.out; have s11o := S11.out; have s12o := S12.out; have s13o := S13.out; have z11o := Z11.out; have s15o := S15.out; have s16o := S16.out; have s17o := S17.out; have s18o := S18.out; have s19o := S19.out; have s20o := S20.out; omega) (by have s0o := S0.out; have z1o := Z1.out; have s2o := S2.out; have s3o := S3.out; have s4o := S4.out; have s5o := S5.out; have s6o := S6.out; have z6o := Z6.out; have s8o := S8.out; have s9o := S9.out; have z8o := Z8.out; have s11o := S11.out; have s12o := S12.out; have s13o := S13.out; have z11o := Z11.out; have s15o := S15.out; have s16o := S16.out; have s17o := S17.out; have s18o := S18.out; have s19o := S19.out; have s20o := S20.out; omega)))
  replace OX15 := Lib.hid (OX15.out.kept (hb.kept (by have s0o := S0.out; have z1o := Z1.out; have s2o := S2.out; have s3o := S3.out; have s4o := S4.out; have s5o := S5.out; have s6o := S6.out; have z6o := Z6.out; have s8o := S8.out; have s9o := S9.out; have z8o := Z8.out; have s11o := S11.out; have s12o := S12.out; have s13o := S13.out; have z11o := Z11.out; have s15o := S15.out; have s16o := S16.out; have s17o := S17.out; have s18o := S18.out; have s19o := S19.out; have s20o := S20.out; omega) (by have s0o := S0.out; have z1o := Z1.out; have s2o := S2.out; have s3o := S3.out; have s4o := S4.out; have s5o := S5.out; have s6o := S6.out; have z6o := Z6.out; have s8o := S8.out; have s9o := S9.out; have z8o := Z8.out; have s11o := S11.out; have s12o := S12.out; have s13o := S13.out; have z11o := Z11.out; have s15o := S15.out; have s16o := S16.out; have s17o := S17.out; have s18o := S18.out; have s19o := S19.out; have s20o := S20.out; omega)))
  replace M17 := Lib.hid (M17.out.kept (hb.kept (by have s0o := S0.out; have z1o := Z1.out; have s2o := S2.out; have s3o := S3.out; have s4o := S4.out; have s5o := S5.out; have s6o := S6.out; have z6o := Z6.out; have s8o := S8.out; have s9o := S9.out; have z8o := Z8.out; have s11o := S11.out; have s12o := S12.out; have s13o := S13.out; have z11o := Z11.out; have s15o := S15.out; have s16o := S16.out; have s17o := S17.out; have s18o := S18.out; have s19o := S19.out; have s20o := S20.out; omega) (by have s0o := S0.out; have z1o := Z1.out; have s2o := S2.out; have s3o := S3.out; have s4o := S4.out; have s5o := S5.out; have s6o := S6.out; have z6o := Z6.out; have s8o := S8.out; have s9o := S9.out; have z8o := Z8.out; have s11o := S11.out; have s12o := S12.out; have s13o := S13.out; have z11o := Z11.out; have s15o := S15.out; have s16o := S16.out; have s17o := S17.out; have s18o := S18.out; have s19o := S19.out; have s20o := S20.out; omega)))
  replace C := Lib.hid (C.out.trans (Only.below hb (by have s0o := S0.out; have z1o := Z1.out; have s2o := S2.out; have s3o := S3.out; have s4o := S4.out; have s5o := S5.out; have s6o := S6.out; have z6o := Z6.out; have s8o := S8.out; have s9o := S9.out; have z8o := Z8.out; have s11o := S11.out; have s12o := S12.out; have s13o := S13.out; have z11o := Z11.out; have s15o := S15.out; have s16o := S16.out; have s17o := S17.out; have s18o := S18.out; have s19o := S19.out; have s20o := S20.out; omega) C.out.size))
  have S21 : Hid (w17.heap.size ≤ w18.heap.size) := Lib.hid hb.size
  have M18 := Lib.hid hm; clear hm hb
  have q0K1 := K1.out.c0; have q1K1 := K1.out.c1; have q2K1 := K1.out.c2; have qlK1 := K1.out.lt
  have q0K6 := K6.out.c0; have q1K6 := K6.out.c1; have q2K6 := K6.out.c2; have qlK6 := K6.out.lt
  have q0K8 := K8.out.c0; have q1K8 := K8.out.c1; have q2K8 := K8.out.c2; have qlK8 := K8.out.lt
  have q0K11 := K11.out.c0; have q1K11 := K11.out.c1; have q2K11 := K11.out.c2; have qlK11 := K11.out.lt
  go_wp2_with fail
  clear q0K1 q1K1 q2K1 qlK1 q0K6 q1K6 q2K6 qlK6 q0K8 q1K8 q2K8 qlK8 q0K11 q1K11 q2K11 qlK11
  refine (eqC _ _ _ _ _ _ L0p L0s L0w w18 (OR10_0.out.reads) (OR5_0.out.reads) (by omega) (by omega) (by omega)).mono ?_
  rintro e w19 ⟨rfl, hb⟩
  replace K1 := Lib.hid (K1.out.stay hb)
  replace OX3 := Lib.hid (OX3.out.stay hb)
  replace OX4 := Lib.hid (OX4.out.stay hb)
  replace OR5_0 := Lib.hid (OR5_0.out.stay hb)
  replace K6 := Lib.hid (K6.out.stay hb)
  replace K8 := Lib.hid (K8.out.stay hb)
  replace OR10_0 := Lib.hid (OR10_0.out.stay hb)
  replace K11 := Lib.hid (K11.out.stay hb)
  replace OX13 := Lib.hid (OX13.out.stay hb)
  replace OX15 := Lib.hid (OX15.out.stay hb)
  replace M17 := Lib.hid (M17.out.stay hb)
  replace M18 := Lib.hid (M18.out.stay hb)
  replace C := Lib.hid (C.out.trans (hb.mono C.out.size))
  have S22 : Hid (w18.heap.size ≤ w19.heap.size) := Lib.hid hb.size
  clear hb
  have q0K1 := K1.out.c0; have q1K1 := K1.out.c1; have q2K1 := K1.out.c2; have qlK1 := K1.out.lt
  have q0K6 := K6.out.c0; have q1K6 := K6.out.c1; have q2K6 := K6.out.c2; have qlK6 := K6.out.lt
  have q0K8 := K8.out.c0; have q1K8 := K8.out.c1; have q2K8 := K8.out.c2; have qlK8 := K8.out.lt
  have q0K11 := K11.out.c0; have q1K11 := K11.out.c1; have q2K11 := K11.out.c2; have qlK11 := K11.out.lt
  go_wp2_with fail
  clear q0K1 q1K1 q2K1 qlK1 q0K6 q1K6 q2K6 qlK6 q0K8 q1K8 q2K8 qlK8 q0K11 q1K11 q2K11 qlK11
  refine (markC _ _ _ _ _ L0p L0s L0w 1 w19 OR10_0.out (by omega) (by omega) (by omega) (by omega)).mono ?_
  rintro e w20 ⟨rfl, hm, hb⟩
  replace K1 := Lib.hid (K1.out.kept (hb.kept (by have s0o := S0.out; have z1o := Z1.out; have s2o := S2.out; have s3o := S3.out; have s4o := S4.out; have s5o := S5.out; have s6o := S6.out; have z6o := Z6.out; have s8o := S8.out; have s9o := S9.out; have z8o := Z8.out; have s11o := S11.out; have s12o := S12.out; have s13o := S13.out; have z11o := Z11.out; have s15o := S15.out; have s16o := S16.out; have s17o := S17.out; have s18o := S18.out; have s19o := S19.out; have s20o := S20.out; have s21o := S21.out; have s22o := S22.out; omega) (by have s0o := S0.out; have z1o := Z1.out; have s2o := S2.out; have s3o := S3.out; have s4o := S4.out; have s5o := S5.out; have s6o := S6.out; have z6o := Z6.out; have s8o := S8.out; have s9o := S9.out; have z8o := Z8.out; have s11o := S11.out; have s12o := S12.out; have s13o := S13.out; have z11o := Z11.out; have s15o := S15.out; have s16o := S16.out; have s17o := S17.out; have s18o := S18.out; have s19o := S19.out; have s20o := S20.out; have s21o := S21.out; have s22o := S22.out; omega)))
  replace OX3 := Lib.hid (OX3.out.kept (hb.kept (by have s0o := S0.out; have z1o := Z1.out; have s2o := S2.out; have s3o := S3.out; have s4o := S4.out; have s5o := S5.out; have s6o := S6.out; have z6o := Z6.out; have s8o := S8.out; have s9o := S9.out; have z8o := Z8.out; have s11o := S11.out; have s12o := S12.out; have s13o := S13.out; have z11o := Z11.out; have s15o := S15.out; have s16o := S16.out; have s17o := S17.out; have s18o := S18.out; have s19o := S19.out; have s20o := S20.out; have s21o := S21.out; have s22o := S22.out; omega) (by have s0o := S0.out; have z1o := Z1.out; have s2o := S2.out; have s3o := S3.out; have s4o := S4.out; have s5o := S5.out; have s6o := S6.out; have z6o := Z6.out; have s8o := S8.out; have s9o := S9.out; have z8o := Z8.out; have s11o := S11.out; have s12o := S12.out; have s13o := S13.out; have z11o := Z11.out; have s15o := S15.out; have s16o := S16.out; have s17o := S17.out; have s18o := S18.out; have s19o := S19.out; have s20o := S20.out; have s21o := S21.out; have s22o := S22.out; omega)))
  replace OX4 := Lib.hid (OX4.out.kept (hb.kept (by have s0o := S0.out; have z1o := Z1.out; have s2o := S2.out; have s3o := S3.out; have s4o := S4.out; have s5o := S5.out; have s6o := S6.out; have z6o := Z6.out; have s8o := S8.out; have s9o := S9.out; have z8o := Z8.out; have s11o := S11.out; have s12o := S12.out; have s13o := S13.out; have z11o := Z11.out; have s15o := S15.out; have s16o := S16.out; have s17o := S17.out; have s18o := S18.out; have s19o := S19.out; have s20o := S20.out; have s21o := S21.out; have s22o := S22.out; omega) (by have s0o := S0.out; have z1o := Z1.out; have s2o := S2.out; have s3o := S3.out; have s4o := S4.out; have s5o := S5.out; have s6o := S6.out; have z6o := Z6.out; have s8o := S8.out; have s9o := S9.out; have z8o := Z8.out; have s11o := S11.out; have s12o := S12.out; have s13o := S13.out; have z11o := Z11.out; have s15o := S15.out; have s16o := S16.out; have s17o := S17.out; have s18o := S18.out; have s19o := S19.out; have s20o := S20.out; have s21o := S21.out; have s22o := S22.out; omega)))
  replace OR5_0 := Lib.hid (OR5_0.out.kept (hb.kept (by have s0o := S0.out; have z1o := Z1.out; have s2o := S2.out; have s3o := S3.out; have s4o := S4.out; have s5o := S5.out; have s6o := S6.out; have z6o := Z6.out; have s8o := S8.out; have s9o := S9.out; have z8o := Z8.out; have s11o := S11.out; have s12o := S12.out; have s13o := S13.out; have z11o := Z11.out; have s15o := S15.out; have s16o := S16.out; have s17o := S17.out; have s18o := S18.out; have s19o := S19.out; have s20o := S20.out; have s21o := S21.out; have s22o := S22.out; omega) (by have s0o := S0.out; have z1o := Z1.out; have s2o := S2.out; have s3o := S3.out; have s4o := S4.out; have s5o := S5.out; have s6o := S6.out; have z6o := Z6.out; have s8o := S8.out; have s9o := S9.out; have z8o := Z8.out; have s11o := S11.out; have s12o := S12.out; have s13o := S13.out; have z11o := Z11.out; have s15o := S15.out; have s16o := S16.out; have s17o := S17.out; have s18o := S18.out; have s19o := S19.out; have s20o := S20.out; have s21o := S21.out; have s22o := S22.out; omega)))
  replace K6 := Lib.hid (K6.out.kept (hb.kept (by have s0o := S0.out; have z1o := Z1.out; have s2o := S2.out; have s3o := S3.out; have s4o := S4.out; have s5o := S5.out; have s6o := S6.out; have z6o := Z6.out; have s8o := S8.out; have s9o := S9.out; have z8o := Z8.out; have s11o := S11.out; have s12o := S12.out; have s13o := S13.out; have z11o := Z11.out; have s15o := S15.out; have s16o := S16.out; have s17o := S17.out; have s18o := S18.out; have s19o := S19.out; have s20o := S20.out; have s21o := S21.out; have s22o := S22.out; omega) (by have s0o := S0.out; have z1o := Z1.out; have s2o := S2.out; have s3o := S3.out; have s4o := S4.out; have s5o := S5.out; have s6o := S6.out; have z6o := Z6.out; have s8o := S8.out; have s9o := S9.out; have z8o := Z8.out; have s11o := S11.out; have s12o := S12.out; have s13o := S13.out; have z11o := Z11.out; have s15o := S15.out; have s16o := S16.out; have s17o := S17.out; have s18o := S18.out; have s19o := S19.out; have s20o := S20.out; have s21o := S21.out; have s22o := S22.out; omega)))
  replace K8 := Lib.hid (K8.out.kept (hb.kept (by have s0o := S0.out; have z1o := Z1.out; have s2o := S2.out; have s3o := S3.out; have s4o := S4.out; have s5o := S5.out; have s6o := S6.out; have z6o := Z6.out; have s8o := S8.out; have s9o := S9.out; have z8o := Z8.out; have s11o := S11.out; have s12o := S12.out; have s13o := S13.out; have z11o := Z11.out; have s15o := S15.out; have s16o := S16.out; have s17o := S17.out; have s18o := S18.out; have s19o := S19.out; have s20o := S20.out; have s21o := S21.out; have s22o := S22.out; omega) (by have s0o := S0.out; have z1o := Z1.out; have s2o := S2.out; have s3o := S3.out; have s4o := S4.out; have s5o := S5.out; have s6o := S6.out; have z6o := Z6.out; have s8o := S8.out; have s9o := S9.out; have z8o := Z8.out; have s11o := S11.out; have s12o := S12.out; have s13o := S13.out; have z11o := Z11.out; have s15o := S15.out; have s16o := S16.out; have s17o := S17.out; have s18o := S18.out; have s19o := S19.out; have s20o := S20.out; have s21o := S21.out; have s22o := S22.out; omega)))
  replace K11 := Lib.hid (K11.out.kept (hb.kept (by have s0o := S0.out; have z1o := Z1.out; have s2o := S2.out; have s3o := S3.out; have s4o := S4.out; have s5o := S5.out; have s6o := S6.out; have z6o := Z6.out; have s8o := S8.out; have s9o := S9.out; have z8o := Z8.out; have s11o := S11.out; have s12o := S12.out; have s13o := S13.out; have z11o := Z11.out; have s15o := S15.out; have s16o := S16.out; have s17o := S17.out; have s18o := S18.out; have s19o := S19.out; have s20o := S20.out; have s21o := S21.out; have s22o := S22.out; omega) (by have s0o := S0.out; have z1o := Z1.out; have s2o := S2.out; have s3o := S3.out; have s4o := S4.out; have s5o := S5.out; have s6o := S6.out; have z6o := Z6.out; have s8o := S8.out; have s9o := S9.out; have z8o := Z8.out; have s11o := S11.out; have s12o := S12.out; have s13o := S13.out; have z11o := Z11.out; have s15o := S15.out; have s16o := S16.out; have s17o := S17.out; have s18o := S18.out; have s19o := S19.out; have s20o := S20.out; have s21o := S21.out; have s22o := S22.out; omega)))
  replace OX13 := Lib.hid (OX13.out.kept (hb.kept (by have s0o := S0.out; have z1o := Z1.out; have s2o := S2.out; have s3o := S3.out; have s4o := S4.out; have s5o := S5.out; have s6o := S6.out; have z6o := Z6.out; have s8o := S8.out; have s9o := S9.out; have z8o := Z8.out; have s11o := S11.out; have s12o := S12.out; have s13o := S13.out; have z11o := Z11.out; have s15o := S15.out; have s16o := S16.out; have s17o := S17.out; have s18o := S18.out; have s19o := S19.out; have s20o := S20.out; have s21o := S21.out; have s22o := S22.out; omega) (by have s0o := S0.out; have z1o := Z1.out; have s2o := S2.out; have s3o := S3.out; have s4o := S4.out; have s5o := S5.out; have s6o := S6.out; have z6o := Z6.out; have s8o := S8.out; have s9o := S9.out; have z8o := Z8.out; have s11o := S11.out; have s12o := S12.out; have s13o := S13.out; have z11o := Z11.out; have s15o := S15.out; have s16o := S16.out; have s17o := S17.out; have s18o := S18.out; have s19o := S19.out; have s20o := S20.out; have s21o := S21.out; have s22o := S22.out; omega)))
  replace OX15 := Lib.hid (OX15.out.kept (hb.kept (by have s0o := S0.out; have z1o := Z1.out; have s2o := S2.out; have s3o := S3.out; have s4o := S4.out; have s5o := S5.out; have s6o := S6.out; have z6o := Z6.out; have s8o := S8.out; have s9o := S9.out; have z8o := Z8.out; have s11o := S11.out; have s12o := S12.out; have s13o := S13.out; have z11o := Z11.out; have s15o := S15.out; have s16o := S16.out; have s17o := S17.out; have s18o := S18.out; have s19o := S19.out; have s20o := S20.out; have s21o := S21.out; have s22o := S22.out; omega) (by have s0o := S0.out; have z1o := Z1.out; have s2o := S2.out; have s3o := S3.out; have s4o := S4.out; have s5o := S5.out; have s6o := S6.out; have z6o := Z6.out; have s8o := S8.out; have s9o := S9.out; have z8o := Z8.out; have s11o := S11.out; have s12o := S12.out; have s13o := S13.out; have z11o := Z11.out; have s15o := S15.out; have s16o := S16.out; have s17o := S17.out; have s18o := S18.out; have s19o := S19.out; have s20o := S20.out; have s21o := S21.out; have s22o := S22.out; omega)))
  replace M17 := Lib.hid (M17.out.kept (hb.kept (by have s0o := S0.out; have z1o := Z1.out; have s2o := S2.out; have s3o := S3.out; have s4o := S4.out; have s5o := S5.out; have s6o := S6.out; have z6o := Z6.out; have s8o := S8.out; have s9o := S9.out; have z8o := Z8.out; have s11o := S11.out; have s12o := S12.out; have s13o := S13.out; have z11o := Z11.out; have s15o := S15.out; have s16o := S16.out; have s17o := S17.out; have s18o := S18.out; have s19o := S19.out; have s20o := S20.out; have s21o := S21.out; have s22o := S22.out; omega) (by have s0o := S0.out; have z1o := Z1.out; have s2o := S2.out; have s3o := S3.out; have s4o := S4.out; have s5o := S5.out; have s6o := S6.out; have z6o := Z6.out; have s8o := S8.out; have s9o := S9.out; have z8o := Z8.out; have s11o := S11.out; have s12o := S12.out; have s13o := S13.out; have z11o := Z11.out; have s15o := S15.out; have s16o := S16.out; have s17o := S17.out; have s18o := S18.out; have s19o := S19.out; have s20o := S20.out; have s21o := S21.out; have s22o := S22.out; omega)))
  replace M18 := Lib.hid (M18.out.kept (hb.kept (by have s0o := S0.out; have z1o := Z1.out; have s2o := S2.out; have s3o := S3.out; have s4o := S4.out; have s5o := S5.out; have s6o := S6.out; have z6o := Z6.out; have s8o := S8.out; have s9o := S9.out; have z8o := Z8.out; have s11o := S11.out; have s12o := S12.out; have s13o := S13.out; have z11o := Z11.out; have s15o := S15.out; have s16o := S16.out; have s17o := S17.out; have s18o := S18.out; have s19o := S19.out; have s20o := S20.out; have s21o := S21.out; have s22o := S22.out; omega) (by have s0o := S0.out; have z1o := Z1.out; have s2o := S2.out; have s3o := S3.out; have s4o := S4.out; have s5o := S5.out; have s6o := S6.out; have z6o := Z6.out; have s8o := S8.out; have s9o := S9.out; have z8o := Z8.out; have s11o := S11.out; have s12o := S12.out; have s13o := S13.out; have z11o := Z11.out; have s15o := S15.out; have s16o := S16.out; have s17o := S17.out; have s18o := S18.out; have s19o := S19.out; have s20o := S20.out; have s21o := S21.out; have s22o := S22.out; omega)))
  replace C := Lib.hid (C.out.trans (Only.below hb (by have s0o := S0.out; have z1o := Z1.out; have s2o := S2.out; have s3o := S3.out; have s4o := S4.out; have s5o := S5.out; have s6o := S6.out; have z6o := Z6.out; have s8o := S8.out; have s9o := S9.out; have z8o := Z8.out; have s11o := S11.out; have s12o := S12.out; have s13o := S13.out; have z11o := Z11.out; have s15o := S15.out; have s16o := S16.out; have s17o := S17.out; have s18o := S18.out; have s19o := S19.out; have s20o := S20.out; have s21o := S21.out; have s22o := S22.out; omega) C.out.size))
  have S23 : Hid (w19.heap.size ≤ w20.heap.size) := Lib.hid hb.size
  have M20 := Lib.hid hm; clear hm hb
  have q0K1 := K1.out.c0; have q1K1 := K1.out.c1; have q2K1 := K1.out.c2; have qlK1 := K1.out.lt
  have q0K6 := K6.out.c0; have q1K6 := K6.out.c1; have q2K6 := K6.out.c2; have qlK6 := K6.out.lt
  have q0K8 := K8.out.c0; have q1K8 := K8.out.c1; have q2K8 := K8.out.c2; have qlK8 := K8.out.lt
  have q0K11 := K11.out.c0; have q1K11 := K11.out.c1; have q2K11 := K11.out.c2; have qlK11 := K11.out.lt
  go_wp2_with fail
  clear q0K1 q1K1 q2K1 qlK1 q0K6 q1K6 q2K6 qlK6 q0K8 q1K8 q2K8 qlK8 q0K11 q1K11 q2K11 qlK11
  refine (heldC _ _ _ _ _ L0p.length L0s.length L0w.length 1 w20 M20.out (by omega) (by omega) (by omega) (by omega)).mono ?_
  rintro e w21 ⟨rfl, hb⟩
  replace K1 := Lib.hid (K1.out.stay hb)
  replace OX3 := Lib.hid (OX3.out.stay hb)
  replace OX4 := Lib.hid (OX4.out.stay hb)
  replace OR5_0 := Lib.hid (OR5_0.out.stay hb)
  replace K6 := Lib.hid (K6.out.stay hb)
  replace K8 := Lib.hid (K8.out.stay hb)
  replace K11 := Lib.hid (K11.out.stay hb)
  replace OX13 := Lib.hid (OX13.out.stay hb)
  replace OX15 := Lib.hid (OX15.out.stay hb)
  replace M17 := Lib.hid (M17.out.stay hb)
  replace M18 := Lib.hid (M18.out.stay hb)
  replace M20 := Lib.hid (M20.out.stay hb)
  replace C := Lib.hid (C.out.trans (hb.mono C.out.size))
  have S24 : Hid (w20.heap.size ≤ w21.heap.size) := Lib.hid hb.size
  clear hb
  have q0K1 := K1.out.c0; have q1K1 := K1.out.c1; have q2K1 := K1.out.c2; have qlK1 := K1.out.lt
  have q0K6 := K6.out.c0; have q1K6 := K6.out.c1; have q2K6 := K6.out.c2; have qlK6 := K6.out.lt
  have q0K8 := K8.out.c0; have q1K8 := K8.out.c1; have q2K8 := K8.out.c2; have qlK8 := K8.out.lt
  have q0K11 := K11.out.c0; have q1K11 := K11.out.c1; have q2K11 := K11.out.c2; have qlK11 := K11.out.lt
  go_wp2_with fail
  clear q0K1 q1K1 q2K1 qlK1 q0K6 q1K6 q2K6 qlK6 q0K8 q1K8 q2K8 qlK8 q0K11 q1K11 q2K11 qlK11
  refine (toC _ _ _ z0p z0s z0w w21 ((R0.out.below C.out).more C.out.size) hq0p hq0s hq0w).mono ?_
  rintro e w22 ⟨x22p, x22s, x22w, rfl, ho, hb⟩
  obtain ⟨xa22p, xc22p, xa22s, xc22s, xa22w, xc22w, rfl, rfl, rfl⟩ := ho.form
  replace K1 := Lib.hid (K1.out.stay hb)
  replace OX3 := Lib.hid (OX3.out.stay hb)
  replace OX4 := Lib.hid (OX4.out.stay hb)
  replace OR5_0 := Lib.hid (OR5_0.out.stay hb)
  replace K6 := Lib.hid (K6.out.stay hb)
  replace K8 := Lib.hid (K8.out.stay hb)
  replace K11 := Lib.hid (K11.out.stay hb)
  replace OX13 := Lib.hid (OX13.out.stay hb)
  replace OX15 := Lib.hid (OX15.out.stay hb)
  replace M17 := Lib.hid (M17.out.stay hb)
  replace M18 := Lib.hid (M18.out.stay hb)
  replace M20 := Lib.hid (M20.out.stay hb)
  replace C := Lib.hid (C.out.trans (hb.mono C.out.size))
  have S25 : Hid (w21.heap.size ≤ w22.heap.size) := Lib.hid hb.size
  have OX22 := Lib.hid ho; clear ho
  clear hb
  have q0K1 := K1.out.c0; have q1K1 := K1.out.c1; have q2K1 := K1.out.c2; have qlK1 := K1.out.lt
  have q0K6 := K6.out.c0; have q1K6 := K6.out.c1; have q2K6 := K6.out.c2; have qlK6 := K6.out.lt
  have q0K8 := K8.out.c0; have q1K8 := K8.out.c1; have q2K8 := K8.out.c2; have qlK8 := K8.out.lt
  have q0K11 := K11.out.c0; have q1K11 := K11.out.c1; have q2K11 := K11.out.c2; have qlK11 := K11.out.lt
  go_wp2_with fail
  clear q0K1 q1K1 q2K1 qlK1 q0K6 q1K6 q2K6 qlK6 q0K8 q1K8 q2K8 qlK8 q0K11 q1K11 q2K11 qlK11
  refine (toI _ z1 w22 ((R1.out.below C.out).more C.out.size) hq1).mono ?_
  rintro e w23 ⟨x23, rfl, ho, hb⟩
  obtain ⟨xa23, xc23, rfl⟩ := own_form ho.1
  replace K1 := Lib.hid (K1.out.stay hb)
  replace OX3 := Lib.hid (OX3.out.stay hb)
  replace OX4 := Lib.hid (OX4.out.stay hb)
  replace OR5_0 := Lib.hid (OR5_0.out.stay hb)
  replace K6 := Lib.hid (K6.out.stay hb)
  replace K8 := Lib.hid (K8.out.stay hb)
  replace K11 := Lib.hid (K11.out.stay hb)
  replace OX13 := Lib.hid (OX13.out.stay hb)
  replace OX15 := Lib.hid (OX15.out.stay hb)
  replace M17 := Lib.hid (M17.out.stay hb)
  replace M18 := Lib.hid (M18.out.stay hb)
  replace M20 := Lib.hid (M20.out.stay hb)
  replace OX22 := Lib.hid (OX22.out.stay hb)
  replace C := Lib.hid (C.out.trans (hb.mono C.out.size))
  have S26 : Hid (w22.heap.size ≤ w23.heap.size) := Lib.hid hb.size
  have OX23 := Lib.hid ho; clear ho
  clear hb
  have q0K1 := K1.out.c0; have q1K1 := K1.out.c1; have q2K1 := K1.out.c2; have qlK1 := K1.out.lt
  have q0K6 := K6.out.c0; have q1K6 := K6.out.c1; have q2K6 := K6.out.c2; have qlK6 := K6.out.lt
  have q0K8 := K8.out.c0; have q1K8 := K8.out.c1; have q2K8 := K8.out.c2; have qlK8 := K8.out.lt
  have q0K11 := K11.out.c0; have q1K11 := K11.out.c1; have q2K11 := K11.out.c2; have qlK11 := K11.out.lt
  go_wp2_with fail
  clear q0K1 q1K1 q2K1 qlK1 q0K6 q1K6 q2K6 qlK6 q0K8 q1K8 q2K8 qlK8 q0K11 q1K11 q2K11 qlK11
  refine (hid_out (HI w23 (.slice xa22p z0p.length xc22p) (.slice xa22s z0s.length xc22s) (.slice xa22w z0w.length xc22w) (.slice xa23 z1.length xc23) (OX22.out.reads) (OX23.out.reads))).mono ?_
  rintro e w24 ⟨r24_0p, r24_0s, r24_0w, rfl, ho0, hb⟩
  obtain ⟨ra24_0p, rc24_0p, ra24_0s, rc24_0s, ra24_0w, rc24_0w, rfl, rfl, rfl⟩ := ho0.form
  replace K1 := Lib.hid (K1.out.stay hb)
  replace OX3 := Lib.hid (OX3.out.stay hb)
  replace OX4 := Lib.hid (OX4.out.stay hb)
  replace OR5_0 := Lib.hid (OR5_0.out.stay hb)
  replace K6 := Lib.hid (K6.out.stay hb)
  replace K8 := Lib.hid (K8.out.stay hb)
  replace K11 := Lib.hid (K11.out.stay hb)
  replace OX13 := Lib.hid (OX13.out.stay hb)
  replace OX15 := Lib.hid (OX15.out.stay hb)
  replace M17 := Lib.hid (M17.out.stay hb)
  replace M18 := Lib.hid (M18.out.stay hb)
  replace M20 := Lib.hid (M20.out.stay hb)
  replace OX22 := Lib.hid (OX22.out.stay hb)
  replace OX23 := Lib.hid (OX23.out.stay hb)
  replace C := Lib.hid (C.out.trans (hb.mono C.out.size))
  have S27 : Hid (w23.heap.size ≤ w24.heap.size) := Lib.hid hb.size
  have OR24_0 := Lib.hid ho0; clear ho0
  clear hb
  have q0K1 := K1.out.c0; have q1K1 := K1.out.c1; have q2K1 := K1.out.c2; have qlK1 := K1.out.lt
  have q0K6 := K6.out.c0; have q1K6 := K6.out.c1; have q2K6 := K6.out.c2; have qlK6 := K6.out.lt
  have q0K8 := K8.out.c0; have q1K8 := K8.out.c1; have q2K8 := K8.out.c2; have qlK8 := K8.out.lt
  have q0K11 := K11.out.c0; have q1K11 := K11.out.c1; have q2K11 := K11.out.c2; have qlK11 := K11.out.lt
  obtain ⟨w25, HE25⟩ : ∃ W, W = w24.alloc (.cells #[(.slice ra24_0p L0p.length rc24_0p), (.slice ra24_0s L0s.length rc24_0s), (.slice ra24_0w L0w.length rc24_0w)] 28) := ⟨_, rfl⟩
  have hb : Below w24.heap.size w24 w25 := by rw [HE25]; exact below_box2 _ _
  have hq : CBox w25 w24.heap.size ((.slice ra24_0p L0p.length rc24_0p)) ((.slice ra24_0s L0s.length rc24_0s)) ((.slice ra24_0w L0w.length rc24_0w)) := by rw [HE25]; exact CBox.new _ _ _ _ _
  have hz : w24.heap.size + 1 ≤ w25.heap.size := by rw [HE25]; simp
  replace K1 := Lib.hid (K1.out.stay hb)
  replace OX3 := Lib.hid (OX3.out.stay hb)
  replace OX4 := Lib.hid (OX4.out.stay hb)
  replace OR5_0 := Lib.hid (OR5_0.out.stay hb)
  replace K6 := Lib.hid (K6.out.stay hb)
  replace K8 := Lib.hid (K8.out.stay hb)
  replace K11 := Lib.hid (K11.out.stay hb)
  replace OX13 := Lib.hid (OX13.out.stay hb)
  replace OX15 := Lib.hid (OX15.out.stay hb)
  replace M17 := Lib.hid (M17.out.stay hb)
  replace M18 := Lib.hid (M18.out.stay hb)
  replace M20 := Lib.hid (M20.out.stay hb)
  replace OX22 := Lib.hid (OX22.out.stay hb)
  replace OX23 := Lib.hid (OX23.out.stay hb)
  replace OR24_0 := Lib.hid (OR24_0.out.stay hb)
  replace C := Lib.hid (C.out.trans (hb.mono C.out.size))
  have S28 : Hid (w24.heap.size ≤ w25.heap.size) := Lib.hid hb.size
  have Z25 : Hid (w24.heap.size + 1 ≤ w25.heap.size) := Lib.hid hz
  have K25 := Lib.hid hq; have HEQ25 := Lib.hid HE25; clear hq HE25 hb hz
  go_wp2_with fail
  rw [← HEQ25.out]
  clear q0K1 q1K1 q2K1 qlK1 q0K6 q1K6 q2K6 qlK6 q0K8 q1K8 q2K8 qlK8 q0K11 q1K11 q2K11 qlK11
  refine (eqC _ _ _ _ _ _ L0p L0s L0w w25 (OR24_0.out.reads) (OR5_0.out.reads) (by omega) (by omega) (by omega)).mono ?_
  rintro e w26 ⟨rfl, hb⟩
  replace K1 := Lib.hid (K1.out.stay hb)
  replace OX3 := Lib.hid (OX3.out.stay hb)
  replace OX4 := Lib.hid (OX4.out.stay hb)
  replace OR5_0 := Lib.hid (OR5_0.out.stay hb)
  replace K6 := Lib.hid (K6.out.stay hb)
  replace K8 := Lib.hid (K8.out.stay hb)
  replace K11 := Lib.hid (K11.out.stay hb)
  replace OX13 := Lib.hid (OX13.out.stay hb)
  replace OX15 := Lib.hid (OX15.out.stay hb)
  replace M17 := Lib.hid (M17.out.stay hb)
  replace M18 := Lib.hid (M18.out.stay hb)
  replace M20 := Lib.hid (M20.out.stay hb)
  replace OX22 := Lib.hid (OX22.out.stay hb)
  replace OX23 := Lib.hid (OX23.out.stay hb)
  replace OR24_0 := Lib.hid (OR24_0.out.stay hb)
  replace K25 := Lib.hid (K25.out.stay hb)
  replace C := Lib.hid (C.out.trans (hb.mono C.out.size))
  have S30 : Hid (w25.heap.size ≤ w26.heap.size) := Lib.hid hb.size
  clear hb
  have q0K1 := K1.out.c0; have q1K1 := K1.out.c1; have q2K1 := K1.out.c2; have qlK1 := K1.out.lt
  have q0K6 := K6.out.c0; have q1K6 := K6.out.c1; have q2K6 := K6.out.c2; have qlK6 := K6.out.lt
  have q0K8 := K8.out.c0; have q1K8 := K8.out.c1; have q2K8 := K8.out.c2; have qlK8 := K8.out.lt
  have q0K11 := K11.out.c0; have q1K11 := K11.out.c1; have q2K11 := K11.out.c2; have qlK11 := K11.out.lt
  have q0K25 := K25.out.c0; have q1K25 := K25.out.c1; have q2K25 := K25.out.c2; have qlK25 := K25.out.lt
  go_wp2_with fail
  clear q0K1 q1K1 q2K1 qlK1 q0K6 q1K6 q2K6 qlK6 q0K8 q1K8 q2K8 qlK8 q0K11 q1K11 q2K11 qlK11 q0K25 q1K25 q2K25 qlK25
  refine (heldC _ _ _ _ _ L0p.length L0s.length L0w.length 1 w26 M20.out (by omega) (by omega) (by omega) (by omega)).mono ?_
  rintro e w27 ⟨rfl, hb⟩
  replace K1 := Lib.hid (K1.out.stay hb)
  replace OX3 := Lib.hid (OX3.out.stay hb)
  replace OX4 := Lib.hid (OX4.out.stay hb)
  replace OR5_0 := Lib.hid (OR5_0.out.stay hb)
  replace K6 := Lib.hid (K6.out.stay hb)
  replace K8 := Lib.hid (K8.out.stay hb)
  replace K11 := Lib.hid (K11.out.stay hb)
  replace OX13 := Lib.hid (OX13.out.stay hb)
  replace OX15 := Lib.hid (OX15.out.stay hb)
  replace M17 := Lib.hid (M17.out.stay hb)
  replace M18 := Lib.hid (M18.out.stay hb)
  replace M20 := Lib.hid (M20.out.stay hb)
  replace OX22 := Lib.hid (OX22.out.stay hb)
  replace OX23 := Lib.hid (OX23.out.stay hb)
  replace OR24_0 := Lib.hid (OR24_0.out.stay hb)
  replace K25 := Lib.hid (K25.out.stay hb)
  replace C := Lib.hid (C.out.trans (hb.mono C.out.size))
  have S31 : Hid (w26.heap.size ≤ w27.heap.size) := Lib.hid hb.size
  clear hb
  have q0K1 := K1.out.c0; have q1K1 := K1.out.c1; have q2K1 := K1.out.c2; have qlK1 := K1.out.lt
  have q0K6 := K6.out.c0; have q1K6 := K6.out.c1; have q2K6 := K6.out.c2; have qlK6 := K6.out.lt
  have q0K8 := K8.out.c0; have q1K8 := K8.out.c1; have q2K8 := K8.out.c2; have qlK8 := K8.out.lt
  have q0K11 := K11.out.c0; have q1K11 := K11.out.c1; have q2K11 := K11.out.c2; have qlK11 := K11.out.lt
  have q0K25 := K25.out.c0; have q1K25 := K25.out.c1; have q2K25 := K25.out.c2; have qlK25 := K25.out.lt
  go_wp2_with fail
  clear q0K1 q1K1 q2K1 qlK1 q0K6 q1K6 q2K6 qlK6 q0K8 q1K8 q2K8 qlK8 q0K11 q1K11 q2K11 qlK11 q0K25 q1K25 q2K25 qlK25
  go_ret
  exact ⟨rfl, C.out⟩
end Go.Proofs.Ytjobfjgphcaoeaa
