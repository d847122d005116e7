/- For all arguments, impl.LengthsOf answers as spec.LengthsOf does, leaves its arguments alone and answers in memory of its own: laws.FnExactLengthsOf returns true. No condition. -/
import Derived.Test.YtohbgfmjnanlkaaCuE
import Derived.Test.YtohbgfmjnanlkaaClX
namespace Go.Proofs.Ytohbgfmjnanlkaa
open Go.ChangeShapes Go.WideShapes Go.ChangeAt Go.RowKit
set_option linter.unusedVariables false
set_option linter.unusedSimpArgs false

set_option maxRecDepth 100000 in
set_option maxHeartbeats 2000000 in
theorem FnExactLengthsOf_walk (w : World) (v0b v0m : Value) (z0b z0m : List (List Int)) (hr0 : ReadUW w w.heap.size v0b v0m z0b z0m) (hn0b : z0b.length ≤ 9223372036854775807) (hw0b : ∀ zs ∈ z0b, zs.length ≤ 9223372036854775807 ∧ ∀ z ∈ zs, (Lit.int .i64 z).wf = true) (hn0m : z0m.length ≤ 9223372036854775807) (hw0m : ∀ zs ∈ z0m, zs.length ≤ 9223372036854775807 ∧ ∀ z ∈ zs, (Lit.int .i64 z).wf = true) :
    Calls Try.prog 12 #[.agg #[v0b, v0m]] w fun e w' => e = .returned (.bool true) ∧ Below w.heap.size w w' := by
  by_cases hb0 : 1048576 < (szTot z0b : Int) + (szTot z0m : Int)
  · have hl0b : ∀ k, lens z0b k ≤ 9223372036854775807 := lens_all (fun zs h => (hw0b zs h).1)
    have hl0m : ∀ k, lens z0m k ≤ 9223372036854775807 := lens_all (fun zs h => (hw0m zs h).1)
    obtain ⟨w1, HE1⟩ : ∃ W, W = w.alloc (.cells #[v0b, v0m] 51) := ⟨_, rfl⟩
    have hbb : Below w.heap.size w w1 := by rw [HE1]; exact below_box2 _ _
    have hxx : UBox w1 w.heap.size v0b v0m := by rw [HE1]; exact UBox.new _ _ _ _
    have hrr := (hr0.below hbb).more hbb.size
    have q0 := hxx.c0; have q1 := hxx.c1; have q2 := hxx.lt
    have HRR := Lib.hid hrr; have HLB := Lib.hid hl0b; have HLM := Lib.hid hl0m
    clear hrr hl0b hl0m hr0 hw0b hw0m
    go_enter Try.func12, Try.ntmps12
    go_wp2_with fail
    rw [← HE1]
    refine (szU_no _ _ z0b z0m (1048576) w1 HRR.out hb0 (by omega) (by omega) hn0b HLB.out hn0m HLM.out).mono ?_
    rintro e w' ⟨rfl, hb⟩
    go_wp2_with fail
    go_ret
    exact ⟨rfl, hbb.trans (hb.mono hbb.size)⟩
  have hq0b : szTot z0b ≤ 1048576 := by omega
  have hq0m : szTot z0m ≤ 1048576 := by omega
  have R0 := Lib.hid hr0
  have hin0 : CuIn z0b z0m := ⟨(szTot_facts hq0b).1, (szTot_facts hq0b).2.1, fun zs h => (hw0b zs h).2, (szTot_facts hq0m).1, (szTot_facts hq0m).2.1, fun zs h => (hw0m zs h).2⟩
  have HIN0 := Lib.hid hin0
  clear hin0 hr0 hn0b hn0m
  have HW0b := Lib.hid hw0b
  have HW0m := Lib.hid hw0m
  clear hw0b hw0m
  have HS := fun (W : World) (v0b v0m : Value) (h0 : ReadU W W.heap.size v0b v0m z0b z0m) => hid_in (specLengthsOf_any v0b v0m z0b z0m W h0 HIN0.out)
  have HI := fun (W : World) (v0b v0m : Value) (h0 : ReadU W W.heap.size v0b v0m z0b z0m) => hid_in (implLengthsOf_any v0b v0m z0b z0m W h0 HIN0.out)
  have hl0 := lnA_len z0b z0m
  generalize (lnA z0b z0m) = L0 at *
  generalize (cuC9 z0b z0m) = K1_ at *
  have C : Hid (Below w.heap.size w w) := Lib.hid (Below.refl _ _)
  obtain ⟨w1, HE1⟩ : ∃ W, W = w.alloc (.cells #[v0b, v0m] 51) := ⟨_, rfl⟩
  have hb : Below w.heap.size w w1 := by rw [HE1]; exact below_box2 _ _
  have hq : UBox w1 w.heap.size (v0b) (v0m) := by rw [HE1]; exact UBox.new _ _ _ _
  have hz : w.heap.size + 1 ≤ w1.heap.size := by rw [HE1]; simp
  replace C := Lib.hid (C.out.trans (hb.mono C.out.size))
  have S0 : Hid (w.heap.size ≤ w1.heap.size) := Lib.hid hb.size
  have Z1 : Hid (w.heap.size + 1 ≤ w1.heap.size) := Lib.hid hz
  have K1 := Lib.hid hq; have HEQ1 := Lib.hid HE1; clear hq HE1 hb hz
  go_enter Try.func12, Try.ntmps12
  go_wp2_with fail
  rw [← HEQ1.out]
  refine (szU_yes _ _ z0b z0m (1048576) w1 ((R0.out.below C.out).more C.out.size) (by omega) (by omega)).mono ?_
  rintro e w2 ⟨rfl, hb⟩
  replace K1 := Lib.hid (K1.out.stay hb)
  replace C := Lib.hid (C.out.trans (hb.mono C.out.size))
  have S2 : Hid (w1.heap.size ≤ w2.heap.size) := Lib.hid hb.size
  clear hb
  have hy0 : ¬ 1048576 - (szTot z0b : Int) - (szTot z0m : Int) < 0 := by omega
  have hx0 : (0 : Int) ≤ 1048576 - (szTot z0b : Int) - (szTot z0m : Int) := by omega
  have q0K1 := K1.out.c0; have q1K1 := K1.out.c1; have qlK1 := K1.out.lt
  go_wp2_with fail
  clear q0K1 q1K1 qlK1
  refine (toU _ _ z0b z0m w2 ((R0.out.below C.out).more C.out.size) hq0b hq0m).mono ?_
  rintro e w3 ⟨x3b, x3m, rfl, ho, hb⟩
  obtain ⟨xa3b, xc3b, xa3m, xc3m, rfl, rfl⟩ := ho.form
  replace K1 := Lib.hid (K1.out.stay hb)
  replace C := Lib.hid (C.out.trans (hb.mono C.out.size))
  have S3 : Hid (w2.heap.size ≤ w3.heap.size) := Lib.hid hb.size
  have OX3 := Lib.hid ho; clear ho
  clear hb
  have q0K1 := K1.out.c0; have q1K1 := K1.out.c1; have qlK1 := K1.out.lt
  go_wp2_with fail
  clear q0K1 q1K1 qlK1
  refine (hid_out (HS w3 (.slice xa3b z0b.length xc3b) (.slice xa3m z0m.length xc3m) (OX3.out.reads))).mono ?_
  rintro e w4 ⟨r4_0, rfl, ho0, hb⟩
  replace K1 := Lib.hid (K1.out.stay hb)
  replace OX3 := Lib.hid (OX3.out.stay hb)
  replace C := Lib.hid (C.out.trans (hb.mono C.out.size))
  have S4 : Hid (w3.heap.size ≤ w4.heap.size) := Lib.hid hb.size
  have OR4_0 := Lib.hid ho0; clear ho0
  clear hb
  have q0K1 := K1.out.c0; have q1K1 := K1.out.c1; have qlK1 := K1.out.lt
  go_wp2_with fail
  clear q0K1 q1K1 qlK1
  refine (toU _ _ z0b z0m w4 ((R0.out.below C.out).more C.out.size) hq0b hq0m).mono ?_
  rintro e w5 ⟨x5b, x5m, rfl, ho, hb⟩
  obtain ⟨xa5b, xc5b, xa5m, xc5m, rfl, rfl⟩ := ho.form
  replace K1 := Lib.hid (K1.out.stay hb)
  replace OX3 := Lib.hid (OX3.out.stay hb)
  replace OR4_0 := Lib.hid (OR4_0.out.stay hb)
  replace C := Lib.hid (C.out.trans (hb.mono C.out.size))
  have S5 : Hid (w4.heap.size ≤ w5.heap.size) := Lib.hid hb.size
  have OX5 := Lib.hid ho; clear ho
  clear hb
  have q0K1 := K1.out.c0; have q1K1 := K1.out.c1; have qlK1 := K1.out.lt
  obtain ⟨w6, HE6⟩ : ∃ W, W = w5.alloc (.cells #[(.slice xa5b z0b.length xc5b), (.slice xa5m z0m.length xc5m)] 56) := ⟨_, rfl⟩
  have hb : Below w5.heap.size w5 w6 := by rw [HE6]; exact below_box2 _ _
  have hq : UBox w6 w5.heap.size ((.slice xa5b z0b.length xc5b)) ((.slice xa5m z0m.length xc5m)) := by rw [HE6]; exact UBox.new _ _ _ _
  have hz : w5.heap.size + 1 ≤ w6.heap.size := by rw [HE6]; simp
  replace K1 := Lib.hid (K1.out.stay hb)
  replace OX3 := Lib.hid (OX3.out.stay hb)
  replace OR4_0 := Lib.hid (OR4_0.out.stay hb)
  replace OX5 := Lib.hid (OX5.out.stay hb)
  replace C := Lib.hid (C.out.trans (hb.mono C.out.size))
  have S6 : Hid (w5.heap.size ≤ w6.heap.size) := Lib.hid hb.size
  have Z6 : Hid (w5.heap.size + 1 ≤ w6.heap.size) := Lib.hid hz
  have K6 := Lib.hid hq; have HEQ6 := Lib.hid HE6; clear hq HE6 hb hz
  go_wp2_with fail
  rw [← HEQ6.out]
  clear q0K1 q1K1 qlK1
  refine (hid_out (HI w6 (.slice xa5b z0b.length xc5b) (.slice xa5m z0m.length xc5m) (OX5.out.reads))).mono ?_
  rintro e w7 ⟨r7_0, rfl, ho0, hb⟩
  replace K1 := Lib.hid (K1.out.stay hb)
  replace OX3 := Lib.hid (OX3.out.stay hb)
  replace OR4_0 := Lib.hid (OR4_0.out.stay hb)
  replace OX5 := Lib.hid (OX5.out.stay hb)
  replace K6 := Lib.hid (K6.out.stay hb)
  replace C := Lib.hid (C.out.trans (hb.mono C.out.size))
  have S8 : Hid (w6.heap.size ≤ w7.heap.size) := Lib.hid hb.size
  have OR7_0 := Lib.hid ho0; clear ho0
  clear hb
  have q0K1 := K1.out.c0; have q1K1 := K1.out.c1; have qlK1 := K1.out.lt
  have q0K6 := K6.out.c0; have q1K6 := K6.out.c1; have qlK6 := K6.out.lt
  go_wp2_with fail
  clear q0K1 q1K1 qlK1 q0K6 q1K6 qlK6
  refine (eqI' _ _ L0 w7 w7.heap.size (OR7_0.out.reads) (OR4_0.out.reads) (by omega)).mono ?_
  rintro e w8 ⟨rfl, hb⟩
  replace K1 := Lib.hid (K1.out.stay hb)
  replace OX3 := Lib.hid (OX3.out.stay hb)
  replace OR4_0 := Lib.hid (OR4_0.out.stay hb)
  replace OX5 := Lib.hid (OX5.out.stay hb)
  replace K6 := Lib.hid (K6.out.stay hb)
  replace OR7_0 := Lib.hid (OR7_0.out.stay hb)
  replace C := Lib.hid (C.out.trans (hb.mono C.out.size))
  have S9 : Hid (w7.heap.size ≤ w8.heap.size) := Lib.hid hb.size
  clear hb
  have q0K1 := K1.out.c0; have q1K1 := K1.out.c1; have qlK1 := K1.out.lt
  have q0K6 := K6.out.c0; have q1K6 := K6.out.c1; have qlK6 := K6.out.lt
  go_wp2_with fail
  clear q0K1 q1K1 qlK1 q0K6 q1K6 qlK6
  have RR := Lib.hid ((R0.out.below C.out).more C.out.size)
  refine wp_region_held_drew (S := fun w' => w'.cell? ⟨w5.heap.size, 0, none⟩ = some ((.slice xa5b z0b.length xc5b)) ∧ w'.cell? ⟨w5.heap.size, 1, none⟩ = some ((.slice xa5m z0m.length xc5m)) ∧ w'.cell? ⟨w.heap.size, 0, none⟩ = some (v0b) ∧ w'.cell? ⟨w.heap.size, 1, none⟩ = some (v0m)) (by kernel_rfl) ⟨K6.out.c0, K6.out.c1, K1.out.c0, K1.out.c1⟩ (fun hHeld => ?_)
  refine takeY 0 _ (v := ?_) rfl rfl (by kernel_rfl) (by kernel_rfl) (by kernel_rfl) (fun _ _ _ h => h) (by kernel_rfl) ?_ (by assumption) ?_
  rotate_left 1
  · intro w hSw; (try dsimp only at hSw); go_simp; (try with_reducible rfl)
  try simp only [Act.put, List.setIfInBounds_toArray, List.set_cons_zero, List.set_cons_succ]
  refine takeY 1 _ (v := ?_) rfl rfl (by kernel_rfl) (by kernel_rfl) (by kernel_rfl) (fun _ _ _ h => h) (by kernel_rfl) ?_ (by assumption) ?_
  rotate_left 1
  · intro w hSw; (try dsimp only at hSw); go_simp; (try with_reducible rfl)
  try simp only [Act.put, List.setIfInBounds_toArray, List.set_cons_zero, List.set_cons_succ]
  refine wpAnyH_ready (rs := [2]) (by kernel_rfl) (by simp) ?_
  refine AllReadyH.cons rfl (fun K hK => ?_) AllReadyH.nil
  go_simp
  refine (toU_drew _ _ z0b z0m w8 RR.out hq0b hq0m).mono ?_
  rintro e w9 ⟨x9b, x9m, rfl, ho, hb⟩
  obtain ⟨xa9b, xc9b, xa9m, xc9m, rfl, rfl⟩ := ho.form
  replace K1 := Lib.hid (K1.out.stay hb)
  replace OX3 := Lib.hid (OX3.out.stay hb)
  replace OR4_0 := Lib.hid (OR4_0.out.stay hb)
  replace OX5 := Lib.hid (OX5.out.stay hb)
  replace K6 := Lib.hid (K6.out.stay hb)
  replace OR7_0 := Lib.hid (OR7_0.out.stay hb)
  replace C := Lib.hid (C.out.trans (hb.mono C.out.size))
  have S10 : Hid (w8.heap.size ≤ w9.heap.size) := Lib.hid hb.size
  have OX9 := Lib.hid ho; clear ho
  clear hb
  refine hK.out _ _ ⟨K6.out.c0, K6.out.c1, K1.out.c0, K1.out.c1⟩ (fun hHeld => ?_)
  clear hK K
  try simp only [Act.put, List.setIfInBounds_toArray, List.set_cons_zero, List.set_cons_succ]
  refine wpAnyH_ready (rs := [3]) (by kernel_rfl) (by simp) ?_
  refine AllReadyH.cons rfl (fun K hK => ?_) AllReadyH.nil
  go_simp
  refine (eqU _ _ _ _ z0b z0m w9 (OX5.out.reads) (OX9.out.reads) (szTot_facts hq0b).1 (szTot_facts hq0b).2.1 (szTot_facts hq0m).1 (szTot_facts hq0m).2.1).mono ?_
  rintro e w10 ⟨rfl, hb⟩
  replace K1 := Lib.hid (K1.out.stay hb)
  replace OX3 := Lib.hid (OX3.out.stay hb)
  replace OR4_0 := Lib.hid (OR4_0.out.stay hb)
  replace OX5 := Lib.hid (OX5.out.stay hb)
  replace K6 := Lib.hid (K6.out.stay hb)
  replace OR7_0 := Lib.hid (OR7_0.out.stay hb)
  replace OX9 := Lib.hid (OX9.out.stay hb)
  replace C := Lib.hid (C.out.trans (hb.mono C.out.size))
  have S11 : Hid (w9.heap.size ≤ w10.heap.size) := Lib.hid hb.size
  clear hb
  refine hK.out _ _ ⟨K6.out.c0, K6.out.c1, K1.out.c0, K1.out.c1⟩ (fun hHeld => ?_)
  clear hK K
  try simp only [Act.put, List.setIfInBounds_toArray, List.set_cons_zero, List.set_cons_succ]
  refine takeY 4 _ (v := ?_) rfl rfl (by kernel_rfl) (by kernel_rfl) (by kernel_rfl) (fun _ _ _ h => h) (by kernel_rfl) ?_ (by assumption) ?_
  rotate_left 1
  · intro w hSw; (try dsimp only at hSw); go_simp; (try with_reducible rfl)
  try simp only [Act.put, List.setIfInBounds_toArray, List.set_cons_zero, List.set_cons_succ]
  refine wpAnyH_done (by kernel_rfl) ?_ _
  clear hHeld RR
  have q0K1 := K1.out.c0; have q1K1 := K1.out.c1; have qlK1 := K1.out.lt
  have q0K6 := K6.out.c0; have q1K6 := K6.out.c1; have qlK6 := K6.out.lt
  go_wp2_with fail
  clear q0K1 q1K1 qlK1 q0K6 q1K6 qlK6
  refine (markU _ _ _ _ z0b z0m 1 w10 OX5.out (by omega) (by omega) (by omega)).mono ?_
  rintro e w11 ⟨rfl, hm, hb⟩
  replace K1 := Lib.hid (K1.out.kept (hb.kept (by have s0o := S0.out; have z1o := Z1.out; have s2o := S2.out; have s3o := S3.out; have s4o := S4.out; have s5o := S5.out; have s6o := S6.out; have z6o := Z6.out; have s8o := S8.out; have s9o := S9.out; have s10o := S10.out; have s11o := S11.out; omega) (by have s0o := S0.out; have z1o := Z1.out; have s2o := S2.out; have s3o := S3.out; have s4o := S4.out; have s5o := S5.out; have s6o := S6.out; have z6o := Z6.out; have s8o := S8.out; have s9o := S9.out; have s10o := S10.out; have s11o := S11.out; omega)))
  replace OX3 := Lib.hid (OX3.out.kept (hb.kept (by have s0o := S0.out; have z1o := Z1.out; have s2o := S2.out; have s3o := S3.out; have s4o := S4.out; have s5o := S5.out; have s6o := S6.out; have z6o := Z6.out; have s8o := S8.out; have s9o := S9.out; have s10o := S10.out; have s11o := S11.out; omega) (by have s0o := S0.out; have z1o := Z1.out; have s2o := S2.out; have s3o := S3.out; have s4o := S4.out; have s5o := S5.out; have s6o := S6.out; have z6o := Z6.out; have s8o := S8.out; have s9o := S9.out; have s10o := S10.out; have s11o := S11.out; omega)))
  replace OR4_0 := Lib.hid (OR4_0.out.kept (hb.kept (by have s0o := S0.out; have z1o := Z1.out; have s2o := S2.out; have s3o := S3.out; have s4o := S4.out; have s5o := S5.out; have s6o := S6.out; have z6o := Z6.out; have s8o := S8.out; have s9o := S9.out; have s10o := S10.out; have s11o := S11.out; omega) (by have s0o := S0.out; have z1o := Z1.out; have s2o := S2.out; have s3o := S3.out; have s4o := S4.out; have s5o := S5.out; have s6o := S6.out; have z6o := Z6.out; have s8o := S8.out; have s9o := S9.out; have s10o := S10.out; have s11o := S11.out; omega)))
  replace K6 := Lib.hid (K6.out.kept (hb.kept (by have s0o := S0.out; have z1o := Z1.out; have s2o := S2.out; have s3o := S3.out; have s4o := S4.out; have s5o := S5.out; have s6o := S6.out; have z6o := Z6.out; have s8o := S8.out; have s9o := S9.out; have s10o := S10.out; have s11o := S11.out; omega) (by have s0o := S0.out; have z1o := Z1.out; have s2o := S2.out; have s3o := S3.out; have s4o := S4.out; have s5o := S5.out; have s6o := S6.out; have z6o := Z6.out; have s8o := S8.out; have s9o := S9.out; have s10o := S10.out; have s11o := S11.out; omega)))
  replace OR7_0 := Lib.hid (OR7_0.out.kept (hb.kept (by have s0o := S0.out; have z1o := Z1.out; have s2o := S2.out; have s3o := S3.out; have s4o := S4.out; have s5o := S5.out; have s6o := S6.out; have z6o := Z6.out; have s8o := S8.out; have s9o := S9.out; have s10o := S10.out; have s11o := S11.out; omega) (by have s0o := S0.out; have z1o := Z1.out; have s2o := S2.out; have s3o := S3.out; have s4o := S4.out; have s5o := S5.out; have s6o := S6.out; have z6o := Z6.out; have s8o := S8.out; have s9o := S9.out; have s10o := S10.out; have s11o := S11.out; omega)))
  replace OX9 := Lib.hid (OX9.out.kept (hb.kept (by have s0o := S0.out; have z1o := Z1.out; have s2o := S2.out; have s3o := S3.out; have s4o := S4.out; have s5o := S5.out; have s6o := S6.out; have z6o := Z6.out; have s8o := S8.out; have s9o := S9.out; have s10o := S10.out; have s11o := S11.out; omega) (by have s0o := S0.out; have z1o := Z1.out; have s2o := S2.out; have s3o := S3.out; have s4o := S4.out; have s5o := S5.out; have s6o := S6.out; have z6o := Z6.out; have s8o := S8.out; have s9o := S9.out; have s10o := S10.out; have s11o := S11.out; omega)))
  replace C := Lib.hid (C.out.trans (Only.below hb (by have s0o := S0.out; have z1o := Z1.out; have s2o := S2.out; have s3o := S3.out; have s4o := S4.out; have s5o := S5.out; have s6o := S6.out; have z6o := Z6.out; have s8o := S8.out; have s9o := S9.out; have s10o := S10.out; have s11o := S11.out; omega) C.out.size))
  have S12 : Hid (w10.heap.size ≤ w11.heap.size) := Lib.hid hb.size
  have M11 := Lib.hid hm; clear hm hb
  have q0K1 := K1.out.c0; have q1K1 := K1.out.c1; have qlK1 := K1.out.lt
  have q0K6 := K6.out.c0; have q1K6 := K6.out.c1; have qlK6 := K6.out.lt
  go_wp2_with fail
  clear q0K1 q1K1 qlK1 q0K6 q1K6 qlK6
  refine (eqI' _ _ L0 w11 w11.heap.size (OR7_0.out.reads) (OR4_0.out.reads) (by omega)).mono ?_
  rintro e w12 ⟨rfl, hb⟩
  replace K1 := Lib.hid (K1.out.stay hb)
  replace OX3 := Lib.hid (OX3.out.stay hb)
  replace OR4_0 := Lib.hid (OR4_0.out.stay hb)
  replace K6 := Lib.hid (K6.out.stay hb)
  replace OR7_0 := Lib.hid (OR7_0.out.stay hb)
  replace OX9 := Lib.hid (OX9.out.stay hb)
  replace M11 := Lib.hid (M11.out.stay hb)
  replace C := Lib.hid (C.out.trans (hb.mono C.out.size))
  have S13 : Hid (w11.heap.size ≤ w12.heap.size) := Lib.hid hb.size
  clear hb
  have q0K1 := K1.out.c0; have q1K1 := K1.out.c1; have qlK1 := K1.out.lt
  have q0K6 := K6.out.c0; have q1K6 := K6.out.c1; have qlK6 := K6.out.lt
  go_wp2_with fail
  clear q0K1 q1K1 qlK1 q0K6 q1K6 qlK6
  refine (markI' _ _ _ L0 1 w12 OR7_0.out (by omega) (by omega)).mono ?_
  rintro e w13 ⟨rfl, hm, hb⟩
  replace K1 := Lib.hid (K1.out.kept (hb.kept (by have s0o := S0.out; have z1o := Z1.out; have s2o := S2.out; have s3o := S3.out; have s4o := S4.out; have s5o := S5.out; have s6o := S6.out; have z6o := Z6.out; have s8o := S8.out; have s9o := S9.out; have s10o := S10.out; have s11o := S11.out; have s12o := S12.out; have s13o := S13.out; omega) (by have s0o := S0.out; have z1o := Z1.out; have s2o := S2.out; have s3o := S3.out; have s4o := S4.out; have s5o := S5.out; have s6o := S6.out; have z6o := Z6.out; have s8o := S8.out; have s9o := S9.out; have s10o := S10.out; have s11o := S11.out; have s12o := S12.out; have s13o := S13.out; omega)))
  replace OX3 := Lib.hid (OX3.out.kept (hb.kept (by have s0o := S0.out; have z1o := Z1.out; have s2o := S2.out; have s3o := S3.out; have s4o := S4.out; have s5o := S5.out; have s6o := S6.out; have z6o := Z6.out; have s8o := S8.out; have s9o := S9.out; have s10o := S10.out; have s11o := S11.out; have s12o := S12.out; have s13o := S13.out; omega) (by have s0o := S0.out; have z1o := Z1.out; have s2o := S2.out; have s3o := S3.out; have s4o := S4.out; have s5o := S5.out; have s6o := S6.out; have z6o := Z6.out; have s8o := S8.out; have s9o := S9.out; have s10o := S10.out; have s11o := S11.out; have s12o := S12.out; have s13o := S13.out; omega)))
  replace OR4_0 := Lib.hid (OR4_0.out.kept (hb.kept (by have s0o := S0.out; have z1o := Z1.out; have s2o := S2.out; have s3o := S3.out; have s4o := S4.out; have s5o := S5.out; have s6o := S6.out; have z6o := Z6.out; have s8o := S8.out; have s9o := S9.out; have s10o := S10.out; have s11o := S11.out; have s12o := S12.out; have s13o := S13.out; omega) (by have s0o := S0.out; have z1o := Z1.out; have s2o := S2.out; have s3o := S3.out; have s4o := S4.out; have s5o := S5.out; have s6o := S6.out; have z6o := Z6.out; have s8o := S8.out; have s9o := S9.out; have s10o := S10.out; have s11o := S11.out; have s12o := S12.out; have s13o := S13.out; omega)))
  replace K6 := Lib.hid (K6.out.kept (hb.kept (by have s0o := S0.out; have z1o := Z1.out; have s2o := S2.out; have s3o := S3.out; have s4o := S4.out; have s5o := S5.out; have s6o := S6.out; have z6o := Z6.out; have s8o := S8.out; have s9o := S9.out; have s10o := S10.out; have s11o := S11.out; have s12o := S12.out; have s13o := S13.out; omega) (by have s0o := S0.out; have z1o := Z1.out; have s2o := S2.out; have s3o := S3.out; have s4o := S4.out; have s5o := S5.out; have s6o := S6.out; have z6o := Z6.out; have s8o := S8.out; have s9o := S9.out; have s10o := S10.out; have s11o := S11.out; have s12o := S12.out; have s13o := S13.out; omega)))
  replace OX9 := Lib.hid (OX9.out.kept (hb.kept (by have s0o := S0.out; have z1o := Z1.out; have s2o := S2.out; have s3o := S3.out; have s4o := S4.out; have s5o := S5.out; have s6o := S6.out; have z6o := Z6.out; have s8o := S8.out; have s9o := S9.out; have s10o := S10.out; have s11o := S11.out; have s12o := S12.out; have s13o := S13.out; omega) (by have s0o := S0.out; have z1o := Z1.out; have s2o := S2.out; have s3o := S3.out; have s4o := S4.out; have s5o := S5.out; have s6o := S6.out; have z6o := Z6.out; have s8o := S8.out; have s9o := S9.out; have s10o := S10.out; have s11o := S11.out; have s12o := S12.out; have s13o := S13.out; omega)))
  replace M11 := Lib.hid (M11.out.kept (hb.kept (by have s0o := S0.out; have z1o := Z1.out; have s2o := S2.out; have s3o := S3.out; have s4o := S4.out; have s5o := S5.out; have s6o := S6.out; have z6o := Z6.out; have s8o := S8.out; have s9o := S9.out; have s10o := S10.out; have s11o := S11.out; have s12o := S12.out; have s13o := S13.out; omega) (by have s0o := S0.out; have z1o := Z1.out; have s2o := S2.out; have s3o := S3.out; have s4o := S4.out; have s5o := S5.out; have s6o := S6.out; have z6o := Z6.out; have s8o := S8.out; have s9o := S9.out; have s10o := S10.out; have s11o := S11.out; have s12o := S12.out; have s13o := S13.out; omega)))
  replace C := Lib.hid (C.out.trans (Only.below hb (by have s0o := S0.out; have z1o := Z1.out; have s2o := S2.out; have s3o := S3.out; have s4o := S4.out; have s5o := S5.out; have s6o := S6.out; have z6o := Z6.out; have s8o := S8.out; have s9o := S9.out; have s10o := S10.out; have s11o := S11.out; have s12o := S12.out; have s13o := S13.out; omega) C.out.size))
  have S14 : Hid (w12.heap.size ≤ w13.heap.size) := Lib.hid hb.size
  have M13 := Lib.hid hm; clear hm hb
  have q0K1 := K1.out.c0; have q1K1 := K1.out.c1; have qlK1 := K1.out.lt
  have q0K6 := K6.out.c0; have q1K6 := K6.out.c1; have qlK6 := K6.out.lt
  go_wp2_with fail
  clear q0K1 q1K1 qlK1 q0K6 q1K6 qlK6
  refine (heldI' _ _ _ L0.length 1 w13 M13.out (by omega) (by omega)).mono ?_
  rintro e w' ⟨rfl, rfl⟩
  have q0K1 := K1.out.c0; have q1K1 := K1.out.c1; have qlK1 := K1.out.lt
  have q0K6 := K6.out.c0; have q1K6 := K6.out.c1; have qlK6 := K6.out.lt
  go_wp2_with fail
  clear q0K1 q1K1 qlK1 q0K6 q1K6 qlK6
  refine (toU _ _ z0b z0m w13 ((R0.out.below C.out).more C.out.size) hq0b hq0m).mono ?_
  rintro e w14 ⟨x14b, x14m, rfl, ho, hb⟩
  obtain ⟨xa14b, xc14b, xa14m, xc14m, rfl, rfl⟩ := ho.form
  replace K1 := Lib.hid (K1.out.stay hb)
  replace OX3 := Lib.hid (OX3.out.stay hb)
  replace OR4_0 := Lib.hid (OR4_0.out.stay hb)
  replace K6 := Lib.hid (K6.out.stay hb)
  replace OX9 := Lib.hid (OX9.out.stay hb)
  replace M11 := Lib.hid (M11.out.stay hb)
  replace M13 := Lib.hid (M13.out.stay hb)
  replace C := Lib.hid (C.out.trans (hb.mono C.out.size))
  have S15 : Hid (w13.heap.size ≤ w14.heap.size) := Lib.hid hb.size
  have OX14 := Lib.hid ho; clear ho
  clear hb
  have q0K1 := K1.out.c0; have q1K1 := K1.out.c1; have qlK1 := K1.out.lt
  have q0K6 := K6.out.c0; have q1K6 := K6.out.c1; have qlK6 := K6.out.lt
  go_wp2_with fail
  clear q0K1 q1K1 qlK1 q0K6 q1K6 qlK6
  refine (hid_out (HI w14 (.slice xa14b z0b.length xc14b) (.slice xa14m z0m.length xc14m) (OX14.out.reads))).mono ?_
  rintro e w15 ⟨r15_0, rfl, ho0, hb⟩
  replace K1 := Lib.hid (K1.out.stay hb)
  replace OX3 := Lib.hid (OX3.out.stay hb)
  replace OR4_0 := Lib.hid (OR4_0.out.stay hb)
  replace K6 := Lib.hid (K6.out.stay hb)
  replace OX9 := Lib.hid (OX9.out.stay hb)
  replace M11 := Lib.hid (M11.out.stay hb)
  replace M13 := Lib.hid (M13.out.stay hb)
  replace OX14 := Lib.hid (OX14.out.stay hb)
  replace C := Lib.hid (C.out.trans (hb.mono C.out.size))
  have S16 : Hid (w14.heap.size ≤ w15.heap.size) := Lib.hid hb.size
  have OR15_0 := Lib.hid ho0; clear ho0
  clear hb
  have q0K1 := K1.out.c0; have q1K1 := K1.out.c1; have qlK1 := K1.out.lt
  have q0K6 := K6.out.c0; have q1K6 := K6.out.c1; have qlK6 := K6.out.lt
  go_wp2_with fail
  clear q0K1 q1K1 qlK1 q0K6 q1K6 qlK6
  refine (eqI' _ _ L0 w15 w15.heap.size (OR15_0.out.reads) (OR4_0.out.reads) (by omega)).mono ?_
  rintro e w16 ⟨rfl, hb⟩
  replace K1 := Lib.hid (K1.out.stay hb)
  replace OX3 := Lib.hid (OX3.out.stay hb)
  replace OR4_0 := Lib.hid (OR4_0.out.stay hb)
  replace K6 := Lib.hid (K6.out.stay hb)
  replace OX9 := Lib.hid (OX9.out.stay hb)
  replace M11 := Lib.hid (M11.out.stay hb)
  replace M13 := Lib.hid (M13.out.stay hb)
  replace OX14 := Lib.hid (OX14.out.stay hb)
  replace OR15_0 := Lib.hid (OR15_0.out.stay hb)
  replace C := Lib.hid (C.out.trans (hb.mono C.out.size))
  have S17 : Hid (w15.heap.size ≤ w16.heap.size) := Lib.hid hb.size
  clear hb
  have q0K1 := K1.out.c0; have q1K1 := K1.out.c1; have qlK1 := K1.out.lt
  have q0K6 := K6.out.c0; have q1K6 := K6.out.c1; have qlK6 := K6.out.lt
  go_wp2_with fail
  clear q0K1 q1K1 qlK1 q0K6 q1K6 qlK6
  refine (heldI' _ _ _ L0.length 1 w16 M13.out (by omega) (by omega)).mono ?_
  rintro e w' ⟨rfl, rfl⟩
  have q0K1 := K1.out.c0; have q1K1 := K1.out.c1; have qlK1 := K1.out.lt
  have q0K6 := K6.out.c0; have q1K6 := K6.out.c1; have qlK6 := K6.out.lt
  go_wp2_with fail
  clear q0K1 q1K1 qlK1 q0K6 q1K6 qlK6
  go_ret
  exact ⟨rfl, C.out⟩
end Go.Proofs.Ytohbgfmjnanlkaa
