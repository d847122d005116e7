/- For all arguments, impl.CurveMilnor answers as spec.CurveMilnor does, leaves its arguments alone and answers in memory of its own: laws.FnExactCurveMilnor returns true. No condition. -/
import Derived.Test.YtohbgfmjnanlkaaCuC
namespace Go.Proofs.Ytohbgfmjnanlkaa
open Go.ChangeShapes Go.WideShapes Go.ChangeAt Go.RowKit
set_option linter.unusedVariables false
set_option linter.unusedSimpArgs false

set_option maxRecDepth 100000 in
set_option maxHeartbeats 2000000 in
theorem FnExactCurveMilnor_walk (w : World) (v0b v0m : Value) (z0b z0m : List (List Int)) (hr0 : ReadUW w w.heap.size v0b v0m z0b z0m) (hn0b : z0b.length ≤ 9223372036854775807) (hw0b : ∀ zs ∈ z0b, zs.length ≤ 9223372036854775807 ∧ ∀ z ∈ zs, (Lit.int .i64 z).wf = true) (hn0m : z0m.length ≤ 9223372036854775807) (hw0m : ∀ zs ∈ z0m, zs.length ≤ 9223372036854775807 ∧ ∀ z ∈ zs, (Lit.int .i64 z).wf = true) :
    Calls Try.prog 11 #[.agg #[v0b, v0m]] w fun e w' => e = .returned (.bool true) ∧ Below w.heap.size w w' := by
  by_cases hb0 : 1048576 < (szTot z0b : Int) + (szTot z0m : Int)
  · have hl0b : ∀ k, lens z0b k ≤ 9223372036854775807 := lens_all (fun zs h => (hw0b zs h).1)
    have hl0m : ∀ k, lens z0m k ≤ 9223372036854775807 := lens_all (fun zs h => (hw0m zs h).1)
    obtain ⟨w1, HE1⟩ : ∃ W, W = w.alloc (.cells #[v0b, v0m] 51) := ⟨_, rfl⟩
    have hbb : Below w.heap.size w w1 := by rw [HE1]; exact below_box2 _ _
    have hxx : UBox w1 w.heap.size v0b v0m := by rw [HE1]; exact UBox.new _ _ _ _
    have hrr := (hr0.below hbb).more hbb.size
    have q0 := hxx.c0; have q1 := hxx.c1; have q2 := hxx.lt
    have HRR := Lib.hid hrr; have HLB := Lib.hid hl0b; have HLM := Lib.hid hl0m
    clear hrr hl0b hl0m hr0 hw0b hw0m
    go_enter Try.func11, Try.ntmps11
    go_wp2_with fail
    rw [← HE1]
    refine (szU_no _ _ z0b z0m (1048576) w1 HRR.out hb0 (by omega) (by omega) hn0b HLB.out hn0m HLM.out).mono ?_
    rintro e w' ⟨rfl, hb⟩
    go_wp2_with fail
    go_ret
    exact ⟨rfl, hbb.trans (hb.mono hbb.size)⟩
  have hq0b : szTot z0b ≤ 1048576 := by omega
  have hq0m : szTot z0m ≤ 1048576 := by omega
  have R0 := Lib.hid hr0
  have hin0 : CuIn z0b z0m := ⟨(szTot_facts hq0b).1, (szTot_facts hq0b).2.1, fun zs h => (hw0b zs h).2, (szTot_facts hq0m).1, (szTot_facts hq0m).2.1, fun zs h => (hw0m zs h).2⟩
  have HIN0 := Lib.hid hin0
  clear hin0 hr0 hn0b hn0m
  have HW0b := Lib.hid hw0b
  have HW0m := Lib.hid hw0m
  clear hw0b hw0m
  have HS := fun (W : World) (v0b v0m : Value) (h0 : ReadU W W.heap.size v0b v0m z0b z0m) => hid_in (specCurveMilnor_any v0b v0m z0b z0m W h0 HIN0.out)
  have HI := fun (W : World) (v0b v0m : Value) (h0 : ReadU W W.heap.size v0b v0m z0b z0m) => hid_in (implCurveMilnor_any v0b v0m z0b z0m W h0 HIN0.out)
  generalize (cmiA z0b z0m) = K0_ at *
  generalize (cuC z0b z0m) = K1_ at *
  have C : Hid (Below w.heap.size w w) := Lib.hid (Below.refl _ _)
  obtain ⟨w1, HE1⟩ : ∃ W, W = w.alloc (.cells #[v0b, v0m] 51) := ⟨_, rfl⟩
  have hb : Below w.heap.size w w1 := by rw [HE1]; exact below_box2 _ _
  have hq : UBox w1 w.heap.size (v0b) (v0m) := by rw [HE1]; exact UBox.new _ _ _ _
  have hz : w.heap.size + 1 ≤ w1.heap.size := by rw [HE1]; simp
  replace C := Lib.hid (C.out.trans (hb.mono C.out.size))
  have S0 : Hid (w.heap.size ≤ w1.heap.size) := Lib.hid hb.size
  have Z1 : Hid (w.heap.size + 1 ≤ w1.heap.size) := Lib.hid hz
  have K1 := Lib.hid hq; have HEQ1 := Lib.hid HE1; clear hq HE1 hb hz
  go_enter Try.func11, Try.ntmps11
  go_wp2_with fail
  rw [← HEQ1.out]
  refine (szU_yes _ _ z0b z0m (1048576) w1 ((R0.out.below C.out).more C.out.size) (by omega) (by omega)).mono ?_
  rintro e w2 ⟨rfl, hb⟩
  replace K1 := Lib.hid (K1.out.stay hb)
  replace C := Lib.hid (C.out.trans (hb.mono C.out.size))
  have S2 : Hid (w1.heap.size ≤ w2.heap.size) := Lib.hid hb.size
  clear hb
  have hy0 : ¬ 1048576 - (szTot z0b : Int) - (szTot z0m : Int) < 0 := by omega
  have hx0 : (0 : Int) ≤ 1048576 - (szTot z0b : Int) - (szTot z0m : Int) := by omega
  have q0K1 := K1.out.c0; have q1K1 := K1.out.c1; have qlK1 := K1.out.lt
  go_wp2_with fail
  clear q0K1 q1K1 qlK1
  refine (toU _ _ z0b z0m w2 ((R0.out.below C.out).more C.out.size) hq0b hq0m).mono ?_
  rintro e w3 ⟨x3b, x3m, rfl, ho, hb⟩
  obtain ⟨xa3b, xc3b, xa3m, xc3m, rfl, rfl⟩ := ho.form
  replace K1 := Lib.hid (K1.out.stay hb)
  replace C := Lib.hid (C.out.trans (hb.mono C.out.size))
  have S3 : Hid (w2.heap.size ≤ w3.heap.size) := Lib.hid hb.size
  have OX3 := Lib.hid ho; clear ho
  clear hb
  have q0K1 := K1.out.c0; have q1K1 := K1.out.c1; have qlK1 := K1.out.lt
  go_wp2_with fail
  clear q0K1 q1K1 qlK1
  refine (hid_out (HS w3 (.slice xa3b z0b.length xc3b) (.slice xa3m z0m.length xc3m) (OX3.out.reads))).mono ?_
  rintro e w4 ⟨rfl, hb⟩
  replace K1 := Lib.hid (K1.out.stay hb)
  replace OX3 := Lib.hid (OX3.out.stay hb)
  replace C := Lib.hid (C.out.trans (hb.mono C.out.size))
  have S4 : Hid (w3.heap.size ≤ w4.heap.size) := Lib.hid hb.size
  clear hb
  have q0K1 := K1.out.c0; have q1K1 := K1.out.c1; have qlK1 := K1.out.lt
  go_wp2_with fail
  clear q0K1 q1K1 qlK1
  refine (toU _ _ z0b z0m w4 ((R0.out.below C.out).more C.out.size) hq0b hq0m).mono ?_
  rintro e w5 ⟨x5b, x5m, rfl, ho, hb⟩
  obtain ⟨xa5b, xc5b, xa5m, xc5m, rfl, rfl⟩ := ho.form
  replace K1 := Lib.hid (K1.out.stay hb)
  replace OX3 := Lib.hid (OX3.out.stay hb)
  replace C := Lib.hid (C.out.trans (hb.mono C.out.size))
  have S5 : Hid (w4.heap.size ≤ w5.heap.size) := Lib.hid hb.size
  have OX5 := Lib.hid ho; clear ho
  clear hb
  have q0K1 := K1.out.c0; have q1K1 := K1.out.c1; have qlK1 := K1.out.lt
  obtain ⟨w6, HE6⟩ : ∃ W, W = w5.alloc (.cells #[(.slice xa5b z0b.length xc5b), (.slice xa5m z0m.length xc5m)] 56) := ⟨_, rfl⟩
  have hb : Below w5.heap.size w5 w6 := by rw [HE6]; exact below_box2 _ _
  have hq : UBox w6 w5.heap.size ((.slice xa5b z0b.length xc5b)) ((.slice xa5m z0m.length xc5m)) := by rw [HE6]; exact UBox.new _ _ _ _
  have hz : w5.heap.size + 1 ≤ w6.heap.size := by rw [HE6]; simp
  replace K1 := Lib.hid (K1.out.stay hb)
  replace OX3 := Lib.hid (OX3.out.stay hb)
  replace OX5 := Lib.hid (OX5.out.stay hb)
  replace C := Lib.hid (C.out.trans (hb.mono C.out.size))
  have S6 : Hid (w5.heap.size ≤ w6.heap.size) := Lib.hid hb.size
  have Z6 : Hid (w5.heap.size + 1 ≤ w6.heap.size) := Lib.hid hz
  have K6 := Lib.hid hq; have HEQ6 := Lib.hid HE6; clear hq HE6 hb hz
  go_wp2_with fail
  rw [← HEQ6.out]
  clear q0K1 q1K1 qlK1
  refine (hid_out (HI w6 (.slice xa5b z0b.length xc5b) (.slice xa5m z0m.length xc5m) (OX5.out.reads))).mono ?_
  rintro e w7 ⟨rfl, hb⟩
  replace K1 := Lib.hid (K1.out.stay hb)
  replace OX3 := Lib.hid (OX3.out.stay hb)
  replace OX5 := Lib.hid (OX5.out.stay hb)
  replace K6 := Lib.hid (K6.out.stay hb)
  replace C := Lib.hid (C.out.trans (hb.mono C.out.size))
  have S8 : Hid (w6.heap.size ≤ w7.heap.size) := Lib.hid hb.size
  clear hb
  have q0K1 := K1.out.c0; have q1K1 := K1.out.c1; have qlK1 := K1.out.lt
  have q0K6 := K6.out.c0; have q1K6 := K6.out.c1; have qlK6 := K6.out.lt
  go_wp2_with fail
  clear q0K1 q1K1 qlK1 q0K6 q1K6 qlK6
  have RR := Lib.hid ((R0.out.below C.out).more C.out.size)
  refine wp_region_held_drew (S := fun w' => w'.cell? ⟨w5.heap.size, 0, none⟩ = some ((.slice xa5b z0b.length xc5b)) ∧ w'.cell? ⟨w5.heap.size, 1, none⟩ = some ((.slice xa5m z0m.length xc5m)) ∧ w'.cell? ⟨w.heap.size, 0, none⟩ = some (v0b) ∧ w'.cell? ⟨w.heap.size, 1, none⟩ = some (v0m)) (by kernel_rfl) ⟨K6.out.c0, K6.out.c1, K1.out.c0, K1.out.c1⟩ (fun hHeld => ?_)
  refine takeY 0 _ (v := ?_) rfl rfl (by kernel_rfl) (by kernel_rfl) (by kernel_rfl) (fun _ _ _ h => h) (by kernel_rfl) ?_ (by assumption) ?_
  rotate_left 1
  · intro w hSw; (try dsimp only at hSw); go_simp; (try with_reducible rfl)
  try simp only [Act.put, List.setIfInBounds_toArray, List.set_cons_zero, List.set_cons_succ]
  refine takeY 1 _ (v := ?_) rfl rfl (by kernel_rfl) (by kernel_rfl) (by kernel_rfl) (fun _ _ _ h => h) (by kernel_rfl) ?_ (by assumption) ?_
  rotate_left 1
  · intro w hSw; (try dsimp only at hSw); go_simp; (try with_reducible rfl)
  try simp only [Act.put, List.setIfInBounds_toArray, List.set_cons_zero, List.set_cons_succ]
  refine wpAnyH_ready (rs := [2]) (by kernel_rfl) (by simp) ?_
  refine AllReadyH.cons rfl (fun K hK => ?_) AllReadyH.nil
  go_simp
  refine (toU_drew _ _ z0b z0m w7 RR.out hq0b hq0m).mono ?_
  rintro e w8 ⟨x8b, x8m, rfl, ho, hb⟩
  obtain ⟨xa8b, xc8b, xa8m, xc8m, rfl, rfl⟩ := ho.form
  replace K1 := Lib.hid (K1.out.stay hb)
  replace OX3 := Lib.hid (OX3.out.stay hb)
  replace OX5 := Lib.hid (OX5.out.stay hb)
  replace K6 := Lib.hid (K6.out.stay hb)
  replace C := Lib.hid (C.out.trans (hb.mono C.out.size))
  have S9 : Hid (w7.heap.size ≤ w8.heap.size) := Lib.hid hb.size
  have OX8 := Lib.hid ho; clear ho
  clear hb
  refine hK.out _ _ ⟨K6.out.c0, K6.out.c1, K1.out.c0, K1.out.c1⟩ (fun hHeld => ?_)
  clear hK K
  try simp only [Act.put, List.setIfInBounds_toArray, List.set_cons_zero, List.set_cons_succ]
  refine wpAnyH_ready (rs := [3]) (by kernel_rfl) (by simp) ?_
  refine AllReadyH.cons rfl (fun K hK => ?_) AllReadyH.nil
  go_simp
  refine (eqU _ _ _ _ z0b z0m w8 (OX5.out.reads) (OX8.out.reads) (szTot_facts hq0b).1 (szTot_facts hq0b).2.1 (szTot_facts hq0m).1 (szTot_facts hq0m).2.1).mono ?_
  rintro e w9 ⟨rfl, hb⟩
  replace K1 := Lib.hid (K1.out.stay hb)
  replace OX3 := Lib.hid (OX3.out.stay hb)
  replace OX5 := Lib.hid (OX5.out.stay hb)
  replace K6 := Lib.hid (K6.out.stay hb)
  replace OX8 := Lib.hid (OX8.out.stay hb)
  replace C := Lib.hid (C.out.trans (hb.mono C.out.size))
  have S10 : Hid (w8.heap.size ≤ w9.heap.size) := Lib.hid hb.size
  clear hb
  refine hK.out _ _ ⟨K6.out.c0, K6.out.c1, K1.out.c0, K1.out.c1⟩ (fun hHeld => ?_)
  clear hK K
  try simp only [Act.put, List.setIfInBounds_toArray, List.set_cons_zero, List.set_cons_succ]
  refine takeY 4 _ (v := ?_) rfl rfl (by kernel_rfl) (by kernel_rfl) (by kernel_rfl) (fun _ _ _ h => h) (by kernel_rfl) ?_ (by assumption) ?_
  rotate_left 1
  · intro w hSw; (try dsimp only at hSw); go_simp; (try with_reducible rfl)
  try simp only [Act.put, List.setIfInBounds_toArray, List.set_cons_zero, List.set_cons_succ]
  refine wpAnyH_done (by kernel_rfl) ?_ _
  clear hHeld RR
  have q0K1 := K1.out.c0; have q1K1 := K1.out.c1; have qlK1 := K1.out.lt
  have q0K6 := K6.out.c0; have q1K6 := K6.out.c1; have qlK6 := K6.out.lt
  go_wp2_with fail
  clear q0K1 q1K1 qlK1 q0K6 q1K6 qlK6
  go_ret
  exact ⟨rfl, C.out⟩
end Go.Proofs.Ytohbgfmjnanlkaa
