/- For all arguments, impl.CodimensionOf answers as spec.CodimensionOf does, leaves its arguments alone and answers in memory of its own: laws.FnExactCodimensionOf returns true. No condition. -/
import Derived.Test.YtjobfjgphcaoeaaCdm
namespace Go.Proofs.Ytjobfjgphcaoeaa
open Go.ChangeShapes Go.WideShapes Go.ChangeAt Go.RowKit
set_option linter.unusedVariables false
set_option linter.unusedSimpArgs false

set_option maxRecDepth 100000 in
set_option maxHeartbeats 2000000 in
theorem FnExactCodimensionOf_walk (w : World) (A0p : Option Addr) (n0p c0p : Nat) (z0p : List Int) (hr0p : RI w w.heap.size A0p n0p z0p) (hn0p : n0p ≤ 9223372036854775807) (hw0p : ∀ z ∈ z0p, (Lit.int .i64 z).wf = true) (A0s : Option Addr) (n0s c0s : Nat) (z0s : List Int) (hr0s : RI w w.heap.size A0s n0s z0s) (hn0s : n0s ≤ 9223372036854775807) (hw0s : ∀ z ∈ z0s, (Lit.int .i64 z).wf = true) (A0w : Option Addr) (n0w c0w : Nat) (z0w : List Int) (hr0w : RI w w.heap.size A0w n0w z0w) (hn0w : n0w ≤ 9223372036854775807) (hw0w : ∀ z ∈ z0w, (Lit.int .i64 z).wf = true) :
    Calls Try.prog 10 #[.agg #[.slice A0p n0p c0p, .slice A0s n0s c0s, .slice A0w n0w c0w]] w fun e w' => e = .returned (.bool true) ∧ Below w.heap.size w w' := by
  obtain rfl : z0p.length = n0p := hr0p.1
  obtain rfl : z0s.length = n0s := hr0s.1
  obtain rfl : z0w.length = n0w := hr0w.1
  by_cases hb0 : 1048576 < (z0p.length : Int) + (z0s.length : Int) + (z0w.length : Int)
  · clear hr0p hw0p hr0s hw0s hr0w hw0w
    go_enter Try.func10, Try.ntmps10
    go_wp2_with fail
    refine (szC_no _ _ _ _ _ _ _ _ _ _ _ hb0 (by omega) (by omega) hn0p hn0s hn0w).mono ?_
    rintro e w' ⟨rfl, hb⟩
    go_wp2_with fail
    go_ret
    exact ⟨rfl, (below_box2 _ _).trans (hb.mono (by simp))⟩
  have hq0p : z0p.length ≤ 1048576 := by omega
  have hq0s : z0s.length ≤ 1048576 := by omega
  have hq0w : z0w.length ≤ 1048576 := by omega
  have R0 : Hid (ReadCW w w.heap.size (.slice A0p z0p.length c0p) (.slice A0s z0s.length c0s) (.slice A0w z0w.length c0w) z0p z0s z0w) := Lib.hid ⟨ReadW.mk' hr0p, ReadW.mk' hr0s, ReadW.mk' hr0w⟩
  clear hr0p hn0p hr0s hn0s hr0w hn0w
  have HW0p := Lib.hid hw0p
  have HW0s := Lib.hid hw0s
  have HW0w := Lib.hid hw0w
  clear hw0p hw0s hw0w
  have HS := fun (W : World) (v0p v0s v0w : Value) (h0 : ReadC W W.heap.size v0p v0s v0w z0p z0s z0w) => hid_in (specCodimensionOf_any v0p v0s v0w z0p z0s z0w W h0 hq0p hq0s hq0w HW0p.out HW0s.out HW0w.out)
  have HI := fun (W : World) (v0p v0s v0w : Value) (h0 : ReadC W W.heap.size v0p v0s v0w z0p z0s z0w) => hid_in (implCodimensionOf_any v0p v0s v0w z0p z0s z0w W h0 hq0p hq0s hq0w HW0p.out HW0s.out HW0w.out)
  generalize (cmA z0p z0s z0w) = K0_ at *
  generalize (ulC z0p z0s z0w) = K1_ at *
  have C : Hid (Below w.heap.size w w) := Lib.hid (Below.refl _ _)
  obtain ⟨w1, HE1⟩ : ∃ W, W = w.alloc (.cells #[.slice A0p z0p.length c0p, .slice A0s z0s.length c0s, .slice A0w z0w.length c0w] 24) := ⟨_, rfl⟩
  have hb : Below w.heap.size w w1 := by rw [HE1]; exact below_box2 _ _
  have hq : CBox w1 w.heap.size (.slice A0p z0p.length c0p) (.slice A0s z0s.length c0s) (.slice A0w z0w.length c0w) := by rw [HE1]; exact CBox.new _ _ _ _ _
  have hz : w.heap.size + 1 ≤ w1.heap.size := by rw [HE1]; simp
  replace C := Lib.hid (C.out.trans (hb.mono C.out.size))
  have S0 : Hid (w.heap.size ≤ w1.heap.size) := Lib.hid hb.size
  have Z1 : Hid (w.heap.size + 1 ≤ w1.heap.size) := Lib.hid hz
  have K1 := Lib.hid hq; have HEQ1 := Lib.hid HE1; clear hq HE1 hb hz
  go_enter Try.func10, Try.ntmps10
  go_wp2_with fail
  rw [← HEQ1.out]
  refine (szC_yes _ _ _ _ _ _ _ _ _ (1048576) w1 (by omega) (by omega)).mono ?_
  rintro e w2 ⟨rfl, hb⟩
  replace K1 := Lib.hid (K1.out.stay hb)
  replace C := Lib.hid (C.out.trans (hb.mono C.out.size))
  have S2 : Hid (w1.heap.size ≤ w2.heap.size) := Lib.hid hb.size
  clear hb
  have hy0 : ¬ 1048576 - (z0p.length : Int) - (z0s.length : Int) - (z0w.length : Int) < 0 := by omega
  have hx0 : (0 : Int) ≤ 1048576 - (z0p.length : Int) - (z0s.length : Int) - (z0w.length : Int) := by omega
  have q0K1 := K1.out.c0; have q1K1 := K1.out.c1; have q2K1 := K1.out.c2; have qlK1 := K1.out.lt
  go_wp2_with fail
  clear q0K1 q1K1 q2K1 qlK1
  refine (toC _ _ _ z0p z0s z0w w2 ((R0.out.below C.out).more C.out.size) hq0p hq0s hq0w).mono ?_
  rintro e w3 ⟨x3p, x3s, x3w, rfl, ho, hb⟩
  obtain ⟨xa3p, xc3p, xa3s, xc3s, xa3w, xc3w, rfl, rfl, rfl⟩ := ho.form
  replace K1 := Lib.hid (K1.out.stay hb)
  replace C := Lib.hid (C.out.trans (hb.mono C.out.size))
  have S3 : Hid (w2.heap.size ≤ w3.heap.size) := Lib.hid hb.size
  have OX3 := Lib.hid ho; clear ho
  clear hb
  have q0K1 := K1.out.c0; have q1K1 := K1.out.c1; have q2K1 := K1.out.c2; have qlK1 := K1.out.lt
  go_wp2_with fail
  clear q0K1 q1K1 q2K1 qlK1
  refine (hid_out (HS w3 (.slice xa3p z0p.length xc3p) (.slice xa3s z0s.length xc3s) (.slice xa3w z0w.length xc3w) (OX3.out.reads))).mono ?_
  rintro e w4 ⟨rfl, hb⟩
  replace K1 := Lib.hid (K1.out.stay hb)
  replace OX3 := Lib.hid (OX3.out.stay hb)
  replace C := Lib.hid (C.out.trans (hb.mono C.out.size))
  have S4 : Hid (w3.heap.size ≤ w4.heap.size) := Lib.hid hb.size
  clear hb
  have q0K1 := K1.out.c0; have q1K1 := K1.out.c1; have q2K1 := K1.out.c2; have qlK1 := K1.out.lt
  go_wp2_with fail
  clear q0K1 q1K1 q2K1 qlK1
  refine (toC _ _ _ z0p z0s z0w w4 ((R0.out.below C.out).more C.out.size) hq0p hq0s hq0w).mono ?_
  rintro e w5 ⟨x5p, x5s, x5w, rfl, ho, hb⟩
  obtain ⟨xa5p, xc5p, xa5s, xc5s, xa5w, xc5w, rfl, rfl, rfl⟩ := ho.form
  replace K1 := Lib.hid (K1.out.stay hb)
  replace OX3 := Lib.hid (OX3.out.stay hb)
  replace C := Lib.hid (C.out.trans (hb.mono C.out.size))
  have S5 : Hid (w4.heap.size ≤ w5.heap.size) := Lib.hid hb.size
  have OX5 := Lib.hid ho; clear ho
  clear hb
  have q0K1 := K1.out.c0; have q1K1 := K1.out.c1; have q2K1 := K1.out.c2; have qlK1 := K1.out.lt
  obtain ⟨w6, HE6⟩ : ∃ W, W = w5.alloc (.cells #[(.slice xa5p z0p.length xc5p), (.slice xa5s z0s.length xc5s), (.slice xa5w z0w.length xc5w)] 28) := ⟨_, rfl⟩
  have hb : Below w5.heap.size w5 w6 := by rw [HE6]; exact below_box2 _ _
  have hq : CBox w6 w5.heap.size ((.slice xa5p z0p.length xc5p)) ((.slice xa5s z0s.length xc5s)) ((.slice xa5w z0w.length xc5w)) := by rw [HE6]; exact CBox.new _ _ _ _ _
  have hz : w5.heap.size + 1 ≤ w6.heap.size := by rw [HE6]; simp
  replace K1 := Lib.hid (K1.out.stay hb)
  replace OX3 := Lib.hid (OX3.out.stay hb)
  replace OX5 := Lib.hid (OX5.out.stay hb)
  replace C := Lib.hid (C.out.trans (hb.mono C.out.size))
  have S6 : Hid (w5.heap.size ≤ w6.heap.size) := Lib.hid hb.size
  have Z6 : Hid (w5.heap.size + 1 ≤ w6.heap.size) := Lib.hid hz
  have K6 := Lib.hid hq; have HEQ6 := Lib.hid HE6; clear hq HE6 hb hz
  go_wp2_with fail
  rw [← HEQ6.out]
  clear q0K1 q1K1 q2K1 qlK1
  refine (hid_out (HI w6 (.slice xa5p z0p.length xc5p) (.slice xa5s z0s.length xc5s) (.slice xa5w z0w.length xc5w) (OX5.out.reads))).mono ?_
  rintro e w7 ⟨rfl, hb⟩
  replace K1 := Lib.hid (K1.out.stay hb)
  replace OX3 := Lib.hid (OX3.out.stay hb)
  replace OX5 := Lib.hid (OX5.out.stay hb)
  replace K6 := Lib.hid (K6.out.stay hb)
  replace C := Lib.hid (C.out.trans (hb.mono C.out.size))
  have S8 : Hid (w6.heap.size ≤ w7.heap.size) := Lib.hid hb.size
  clear hb
  have q0K1 := K1.out.c0; have q1K1 := K1.out.c1; have q2K1 := K1.out.c2; have qlK1 := K1.out.lt
  have q0K6 := K6.out.c0; have q1K6 := K6.out.c1; have q2K6 := K6.out.c2; have qlK6 := K6.out.lt
  go_wp2_with fail
  clear q0K1 q1K1 q2K1 qlK1 q0K6 q1K6 q2K6 qlK6
  have RR := Lib.hid ((R0.out.below C.out).more C.out.size)
  refine wp_region_held_drew (S := fun w' => w'.cell? ⟨w5.heap.size, 0, none⟩ = some ((.slice xa5p z0p.length xc5p)) ∧ w'.cell? ⟨w5.heap.size, 1, none⟩ = some ((.slice xa5s z0s.length xc5s)) ∧ w'.cell? ⟨w5.heap.size, 2, none⟩ = some ((.slice xa5w z0w.length xc5w)) ∧ w'.cell? ⟨w.heap.size, 0, none⟩ = some (.slice A0p z0p.length c0p) ∧ w'.cell? ⟨w.heap.size, 1, none⟩ = some (.slice A0s z0s.length c0s) ∧ w'.cell? ⟨w.heap.size, 2, none⟩ = some (.slice A0w z0w.length c0w)) (by kernel_rfl) ⟨K6.out.c0, K6.out.c1, K6.out.c2, K1.out.c0, K1.out.c1, K1.out.c2⟩ (fun hHeld => ?_)
  refine takeY 0 _ (v := ?_) rfl rfl (by kernel_rfl) (by kernel_rfl) (by kernel_rfl) (fun _ _ _ h => h) (by kernel_rfl) ?_ (by assumption) ?_
  rotate_left 1
  · intro w hSw; (try dsimp only at hSw); go_simp; (try with_reducible rfl)
  try simp only [Act.put, List.setIfInBounds_toArray, List.set_cons_zero, List.set_cons_succ]
  refine takeY 1 _ (v := ?_) rfl rfl (by kernel_rfl) (by kernel_rfl) (by kernel_rfl) (fun _ _ _ h => h) (by kernel_rfl) ?_ (by assumption) ?_
  rotate_left 1
  · intro w hSw; (try dsimp only at hSw); go_simp; (try with_reducible rfl)
  try simp only [Act.put, List.setIfInBounds_toArray, List.set_cons_zero, List.set_cons_succ]
  refine wpAnyH_ready (rs := [2]) (by kernel_rfl) (by simp) ?_
  refine AllReadyH.cons rfl (fun K hK => ?_) AllReadyH.nil
  go_simp
  refine (toC_drew _ _ _ z0p z0s z0w w7 RR.out hq0p hq0s hq0w).mono ?_
  rintro e w8 ⟨x8p, x8s, x8w, rfl, ho, hb⟩
  obtain ⟨xa8p, xc8p, xa8s, xc8s, xa8w, xc8w, rfl, rfl, rfl⟩ := ho.form
  replace K1 := Lib.hid (K1.out.stay hb)
  replace OX3 := Lib.hid (OX3.out.stay hb)
  replace OX5 := Lib.hid (OX5.out.stay hb)
  replace K6 := Lib.hid (K6.out.stay hb)
  replace C := Lib.hid (C.out.trans (hb.mono C.out.size))
  have S9 : Hid (w7.heap.size ≤ w8.heap.size) := Lib.hid hb.size
  have OX8 := Lib.hid ho; clear ho
  clear hb
  refine hK.out _ _ ⟨K6.out.c0, K6.out.c1, K6.out.c2, K1.out.c0, K1.out.c1, K1.out.c2⟩ (fun hHeld => ?_)
  clear hK K
  try simp only [Act.put, List.setIfInBounds_toArray, List.set_cons_zero, List.set_cons_succ]
  refine wpAnyH_ready (rs := [3]) (by kernel_rfl) (by simp) ?_
  refine AllReadyH.cons rfl (fun K hK => ?_) AllReadyH.nil
  go_simp
  refine (eqC _ _ _ _ _ _ z0p z0s z0w w8 (OX5.out.reads) (OX8.out.reads) (by omega) (by omega) (by omega)).mono ?_
  rintro e w9 ⟨rfl, hb⟩
  replace K1 := Lib.hid (K1.out.stay hb)
  replace OX3 := Lib.hid (OX3.out.stay hb)
  replace OX5 := Lib.hid (OX5.out.stay hb)
  replace K6 := Lib.hid (K6.out.stay hb)
  replace OX8 := Lib.hid (OX8.out.stay hb)
  replace C := Lib.hid (C.out.trans (hb.mono C.out.size))
  have S10 : Hid (w8.heap.size ≤ w9.heap.size) := Lib.hid hb.size
  clear hb
  refine hK.out _ _ ⟨K6.out.c0, K6.out.c1, K6.out.c2, K1.out.c0, K1.out.c1, K1.out.c2⟩ (fun hHeld => ?_)
  clear hK K
  try simp only [Act.put, List.setIfInBounds_toArray, List.set_cons_zero, List.set_cons_succ]
  refine takeY 4 _ (v := ?_) rfl rfl (by kernel_rfl) (by kernel_rfl) (by kernel_rfl) (fun _ _ _ h => h) (by kernel_rfl) ?_ (by assumption) ?_
  rotate_left 1
  · intro w hSw; (try dsimp only at hSw); go_simp; (try with_reducible rfl)
  try simp only [Act.put, List.setIfInBounds_toArray, List.set_cons_zero, List.set_cons_succ]
  refine wpAnyH_done (by kernel_rfl) ?_ _
  clear hHeld RR
  have q0K1 := K1.out.c0; have q1K1 := K1.out.c1; have q2K1 := K1.out.c2; have qlK1 := K1.out.lt
  have q0K6 := K6.out.c0; have q1K6 := K6.out.c1; have q2K6 := K6.out.c2; have qlK6 := K6.out.lt
  go_wp2_with fail
  clear q0K1 q1K1 q2K1 qlK1 q0K6 q1K6 q2K6 qlK6
  go_ret
  exact ⟨rfl, C.out⟩
end Go.Proofs.Ytjobfjgphcaoeaa
