/- For all arguments, impl.MixedProduct answers as spec.MixedProduct does, leaves its arguments alone and answers in memory of its own: laws.FnExactMixedProduct returns true. No condition. -/
import Derived.Test.YtohbgfmjnanlkaaMx
namespace Go.Proofs.Ytohbgfmjnanlkaa
open Go.ChangeShapes Go.WideShapes Go.ChangeAt Go.RowKit
set_option linter.unusedVariables false
set_option linter.unusedSimpArgs false

set_option maxRecDepth 100000 in
set_option maxHeartbeats 2000000 in
theorem FnExactMixedProduct_walk (w : World) (A0p : Option Addr) (n0p c0p : Nat) (z0p : List Int) (hr0p : RI w w.heap.size A0p n0p z0p) (hn0p : n0p ≤ 9223372036854775807) (hw0p : ∀ z ∈ z0p, (Lit.int .i64 z).wf = true) (A0s : Option Addr) (n0s c0s : Nat) (z0s : List Int) (hr0s : RI w w.heap.size A0s n0s z0s) (hn0s : n0s ≤ 9223372036854775807) (hw0s : ∀ z ∈ z0s, (Lit.int .i64 z).wf = true) (A0w : Option Addr) (n0w c0w : Nat) (z0w : List Int) (hr0w : RI w w.heap.size A0w n0w z0w) (hn0w : n0w ≤ 9223372036854775807) (hw0w : ∀ z ∈ z0w, (Lit.int .i64 z).wf = true) (A1p : Option Addr) (n1p c1p : Nat) (z1p : List Int) (hr1p : RI w w.heap.size A1p n1p z1p) (hn1p : n1p ≤ 9223372036854775807) (hw1p : ∀ z ∈ z1p, (Lit.int .i64 z).wf = true) (A1s : Option Addr) (n1s c1s : Nat) (z1s : List Int) (hr1s : RI w w.heap.size A1s n1s z1s) (hn1s : n1s ≤ 9223372036854775807) (hw1s : ∀ z ∈ z1s, (Lit.int .i64 z).wf = true) (A1w : Option Addr) (n1w c1w : Nat) (z1w : List Int) (hr1w : RI w w.heap.size A1w n1w z1w) (hn1w : n1w ≤ 9223372036854775807) (hw1w : ∀ z ∈ z1w, (Lit.int .i64 z).wf = true) :
    Calls Try.prog 4 #[.agg #[.slice A0p n0p c0p, .slice A0s n0s c0s, .slice A0w n0w c0w], .agg #[.slice A1p n1p c1p, .slice A1s n1s c1s, .slice A1w n1w c1w]] w fun e w' => e = .returned (.bool true) ∧ Below w.heap.size w w' := by
  obtain rfl : z0p.length = n0p := hr0p.1
  obtain rfl : z0s.length = n0s := hr0s.1
  obtain rfl : z0w.length = n0w := hr0w.1
  obtain rfl : z1p.length = n1p := hr1p.1
  obtain rfl : z1s.length = n1s := hr1s.1
  obtain rfl : z1w.length = n1w := hr1w.1
  by_cases hb0 : 1048576 < (z0p.length : Int) + (z0s.length : Int) + (z0w.length : Int)
  · clear hr0p hw0p hr0s hw0s hr0w hw0w hr1p hw1p hr1s hw1s hr1w hw1w
    go_enter Try.func4, Try.ntmps4
    go_wp2_with fail
    refine (szC_no _ _ _ _ _ _ _ _ _ _ _ hb0 (by omega) (by omega) hn0p hn0s hn0w).mono ?_
    rintro e w' ⟨rfl, hb⟩
    go_wp2_with fail
    go_ret
    exact ⟨rfl, ((below_box2 _ _).alloc (by simp) _).trans (hb.mono (by simp <;> omega))⟩
  by_cases hb1 : 1048576 - (z0p.length : Int) - (z0s.length : Int) - (z0w.length : Int) < (z1p.length : Int) + (z1s.length : Int) + (z1w.length : Int)
  · clear hr0p hw0p hr0s hw0s hr0w hw0w hr1p hw1p hr1s hw1s hr1w hw1w
    obtain ⟨w1, HE1⟩ : ∃ W, W = (w.alloc (.cells #[.slice A0p z0p.length c0p, .slice A0s z0s.length c0s, .slice A0w z0w.length c0w] 33)).alloc (.cells #[.slice A1p z1p.length c1p, .slice A1s z1s.length c1s, .slice A1w z1w.length c1w] 33) := ⟨_, rfl⟩
    have hbb : Below w.heap.size w w1 := by rw [HE1]; exact (below_box2 _ _).alloc (by simp) _
    have hxx : CBox w1 w.heap.size (.slice A0p z0p.length c0p) (.slice A0s z0s.length c0s) (.slice A0w z0w.length c0w) := by rw [HE1]; exact (CBox.new w _ _ _ _).alloc _
    have hyy : CBox w1 (w.heap.size + 1) (.slice A1p z1p.length c1p) (.slice A1s z1s.length c1s) (.slice A1w z1w.length c1w) := by
      have := CBox.new (w.alloc (.cells #[.slice A0p z0p.length c0p, .slice A0s z0s.length c0s, .slice A0w z0w.length c0w] 33)) (.slice A1p z1p.length c1p) (.slice A1s z1s.length c1s) (.slice A1w z1w.length c1w) 33
      rw [World.size_alloc] at this
      rw [HE1]; exact this
    have q0 := hxx.c0; have q1 := hxx.c1; have q2 := hxx.c2; have q3 := hxx.lt; have q4 := hyy.c0; have q5 := hyy.c1; have q6 := hyy.c2; have q7 := hyy.lt
    go_enter Try.func4, Try.ntmps4
    go_wp2_with fail
    rw [← HE1]
    refine (szC_yes _ _ _ _ _ _ _ _ _ (1048576) w1 (by omega) (by omega)).mono ?_
    rintro e u0 ⟨rfl, hu0⟩
    have hX := hxx.below hu0; have hY := hyy.below hu0
    clear q0 q1 q2 q3 q4 q5 q6 q7
    have q0 := hX.c0; have q1 := hX.c1; have q2 := hX.c2; have q3 := hX.lt; have q4 := hY.c0; have q5 := hY.c1; have q6 := hY.c2; have q7 := hY.lt
    have hy0 : ¬ 1048576 - (z0p.length : Int) - (z0s.length : Int) - (z0w.length : Int) < 0 := by omega
    clear hX hY
    go_wp2_with fail
    refine (szC_no _ _ _ _ _ _ _ _ _ (1048576 - (z0p.length : Int) - (z0s.length : Int) - (z0w.length : Int)) u0 hb1 (by omega) (by omega) hn1p hn1s hn1w).mono ?_
    rintro e w' ⟨rfl, hb2⟩
    go_wp2_with fail
    go_ret
    exact ⟨rfl, (hbb.trans (hu0.mono hbb.size)).trans (hb2.mono (Nat.le_trans hbb.size hu0.size))⟩
  have hq0p : z0p.length ≤ 1048576 := by omega
  have hq0s : z0s.length ≤ 1048576 := by omega
  have hq0w : z0w.length ≤ 1048576 := by omega
  have hq1p : z1p.length ≤ 1048576 := by omega
  have hq1s : z1s.length ≤ 1048576 := by omega
  have hq1w : z1w.length ≤ 1048576 := by omega
  have R0 : Hid (ReadCW w w.heap.size (.slice A0p z0p.length c0p) (.slice A0s z0s.length c0s) (.slice A0w z0w.length c0w) z0p z0s z0w) := Lib.hid ⟨ReadW.mk' hr0p, ReadW.mk' hr0s, ReadW.mk' hr0w⟩
  clear hr0p hn0p hr0s hn0s hr0w hn0w
  have R1 : Hid (ReadCW w w.heap.size (.slice A1p z1p.length c1p) (.slice A1s z1s.length c1s) (.slice A1w z1w.length c1w) z1p z1s z1w) := Lib.hid ⟨ReadW.mk' hr1p, ReadW.mk' hr1s, ReadW.mk' hr1w⟩
  clear hr1p hn1p hr1s hn1s hr1w hn1w
  have HW0p := Lib.hid hw0p
  have HW0s := Lib.hid hw0s
  have HW0w := Lib.hid hw0w
  have HW1p := Lib.hid hw1p
  have HW1s := Lib.hid hw1s
  have HW1w := Lib.hid hw1w
  clear hw0p hw0s hw0w hw1p hw1s hw1w
  have HS := fun (W : World) (v0p v0s v0w : Value) (v1p v1s v1w : Value) (h0 : ReadC W W.heap.size v0p v0s v0w z0p z0s z0w) (h1 : ReadC W W.heap.size v1p v1s v1w z1p z1s z1w) => hid_in (specMixedProduct_any v0p v0s v0w z0p z0s z0w v1p v1s v1w z1p z1s z1w W h0 hq0p hq0s hq0w HW0p.out HW0s.out HW0w.out h1 hq1p hq1s hq1w HW1p.out HW1s.out HW1w.out)
  have HI := fun (W : World) (v0p v0s v0w : Value) (v1p v1s v1w : Value) (h0 : ReadC W W.heap.size v0p v0s v0w z0p z0s z0w) (h1 : ReadC W W.heap.size v1p v1s v1w z1p z1s z1w) => hid_in (implMixedProduct_any v0p v0s v0w z0p z0s z0w v1p v1s v1w z1p z1s z1w W h0 hq0p hq0s hq0w HW0p.out HW0s.out HW0w.out h1 hq1p hq1s hq1w HW1p.out HW1s.out HW1w.out)
  generalize (mxA z0p z0s z0w z1p z1s z1w) = K0_ at *
  generalize (mxC z0p z0s z0w z1p z1s z1w) = K1_ at *
  have C : Hid (Below w.heap.size w w) := Lib.hid (Below.refl _ _)
  obtain ⟨w1, HE1⟩ : ∃ W, W = w.alloc (.cells #[.slice A0p z0p.length c0p, .slice A0s z0s.length c0s, .slice A0w z0w.length c0w] 33) := ⟨_, rfl⟩
  have hb : Below w.heap.size w w1 := by rw [HE1]; exact below_box2 _ _
  have hq : CBox w1 w.heap.size (.slice A0p z0p.length c0p) (.slice A0s z0s.length c0s) (.slice A0w z0w.length c0w) := by rw [HE1]; exact CBox.new _ _ _ _ _
  have hz : w.heap.size + 1 ≤ w1.heap.size := by rw [HE1]; simp
  replace C := Lib.hid (C.out.trans (hb.mono C.out.size))
  have S0 : Hid (w.heap.size ≤ w1.heap.size) := Lib.hid hb.size
  have Z1 : Hid (w.heap.size + 1 ≤ w1.heap.size) := Lib.hid hz
  have K1 := Lib.hid hq; have HEQ1 := Lib.hid HE1; clear hq HE1 hb hz
  obtain ⟨w2, HE2⟩ : ∃ W, W = w1.alloc (.cells #[.slice A1p z1p.length c1p, .slice A1s z1s.length c1s, .slice A1w z1w.length c1w] 33) := ⟨_, rfl⟩
  have hb : Below w1.heap.size w1 w2 := by rw [HE2]; exact below_box2 _ _
  have hq : CBox w2 w1.heap.size (.slice A1p z1p.length c1p) (.slice A1s z1s.length c1s) (.slice A1w z1w.length c1w) := by rw [HE2]; exact CBox.new _ _ _ _ _
  have hz : w1.heap.size + 1 ≤ w2.heap.size := by rw [HE2]; simp
  rw [show w1.heap.size = w.heap.size + 1 from by rw [HEQ1.out]; simp] at hq
  replace K1 := Lib.hid (K1.out.stay hb)
  replace C := Lib.hid (C.out.trans (hb.mono C.out.size))
  have S2 : Hid (w1.heap.size ≤ w2.heap.size) := Lib.hid hb.size
  have Z2 : Hid (w1.heap.size + 1 ≤ w2.heap.size) := Lib.hid hz
  have K2 := Lib.hid hq; have HEQ2 := Lib.hid HE2; clear hq HE2 hb hz
  go_enter Try.func4, Try.ntmps4
  go_wp2_with fail
  rw [← HEQ1.out]
  rw [← HEQ2.out]
  refine (szC_yes _ _ _ _ _ _ _ _ _ (1048576) w2 (by omega) (by omega)).mono ?_
  rintro e w3 ⟨rfl, hb⟩
  replace K1 := Lib.hid (K1.out.stay hb)
  replace K2 := Lib.hid (K2.out.stay hb)
  replace C := Lib.hid (C.out.trans (hb.mono C.out.size))
  have S4 : Hid (w2.heap.size ≤ w3.heap.size) := Lib.hid hb.size
  clear hb
  have hy0 : ¬ 1048576 - (z0p.length : Int) - (z0s.length : Int) - (z0w.length : Int) < 0 := by omega
  have hx0 : (0 : Int) ≤ 1048576 - (z0p.length : Int) - (z0s.length : Int) - (z0w.length : Int) := by omega
  have q0K1 := K1.out.c0; have q1K1 := K1.out.c1; have q2K1 := K1.out.c2; have qlK1 := K1.out.lt
  have q0K2 := K2.out.c0; have q1K2 := K2.out.c1; have q2K2 := K2.out.c2; have qlK2 := K2.out.lt
  go_wp2_with fail
  clear q0K1 q1K1 q2K1 qlK1 q0K2 q1K2 q2K2 qlK2
  refine (szC_yes _ _ _ _ _ _ _ _ _ (1048576 - (z0p.length : Int) - (z0s.length : Int) - (z0w.length : Int)) w3 (by omega) (by omega)).mono ?_
  rintro e w4 ⟨rfl, hb⟩
  replace K1 := Lib.hid (K1.out.stay hb)
  replace K2 := Lib.hid (K2.out.stay hb)
  replace C := Lib.hid (C.out.trans (hb.mono C.out.size))
  have S5 : Hid (w3.heap.size ≤ w4.heap.size) := Lib.hid hb.size
  clear hb
  have hy1 : ¬ 1048576 - (z0p.length : Int) - (z0s.length : Int) - (z0w.length : Int) - (z1p.length : Int) - (z1s.length : Int) - (z1w.length : Int) < 0 := by omega
  have hx1 : (0 : Int) ≤ 1048576 - (z0p.length : Int) - (z0s.length : Int) - (z0w.length : Int) - (z1p.length : Int) - (z1s.length : Int) - (z1w.length : Int) := by omega
  have q0K1 := K1.out.c0; have q1K1 := K1.out.c1; have q2K1 := K1.out.c2; have qlK1 := K1.out.lt
  have q0K2 := K2.out.c0; have q1K2 := K2.out.c1; have q2K2 := K2.out.c2; have qlK2 := K2.out.lt
  go_wp2_with fail
  clear q0K1 q1K1 q2K1 qlK1 q0K2 q1K2 q2K2 qlK2
  have RR := Lib.hid ((R0.out.below C.out).more C.out.size)
  refine wp_region_held_drew (S := fun w' => w'.cell? ⟨w.heap.size, 0, none⟩ = some (.slice A0p z0p.length c0p) ∧ w'.cell? ⟨w.heap.size, 1, none⟩ = some (.slice A0s z0s.length c0s) ∧ w'.cell? ⟨w.heap.size, 2, none⟩ = some (.slice A0w z0w.length c0w) ∧ w'.cell? ⟨w.heap.size + 1, 0, none⟩ = some (.slice A1p z1p.length c1p) ∧ w'.cell? ⟨w.heap.size + 1, 1, none⟩ = some (.slice A1s z1s.length c1s) ∧ w'.cell? ⟨w.heap.size + 1, 2, none⟩ = some (.slice A1w z1w.length c1w)) (by kernel_rfl) ⟨K1.out.c0, K1.out.c1, K1.out.c2, K2.out.c0, K2.out.c1, K2.out.c2⟩ (fun hHeld => ?_)
  refine takeY 0 _ (v := ?_) rfl rfl (by kernel_rfl) (by kernel_rfl) (by kernel_rfl) (fun _ _ _ h => h) (by kernel_rfl) ?_ (by assumption) ?_
  rotate_left 1
  · intro w hSw; (try dsimp only at hSw); go_simp; (try with_reducible rfl)
  try simp only [Act.put, List.setIfInBounds_toArray, List.set_cons_zero, List.set_cons_succ]
  refine takeY 2 _ (v := ?_) rfl rfl (by kernel_rfl) (by kernel_rfl) (by kernel_rfl) (fun _ _ _ h => h) (by kernel_rfl) ?_ (by assumption) ?_
  rotate_left 1
  · intro w hSw; (try dsimp only at hSw); go_simp; (try with_reducible rfl)
  try simp only [Act.put, List.setIfInBounds_toArray, List.set_cons_zero, List.set_cons_succ]
  refine wpAnyH_ready (rs := [1]) (by kernel_rfl) (by simp) ?_
  refine AllReadyH.cons rfl (fun K hK => ?_) AllReadyH.nil
  go_simp
  refine (toC_drew _ _ _ z0p z0s z0w w4 RR.out hq0p hq0s hq0w).mono ?_
  rintro e w5 ⟨x5p, x5s, x5w, rfl, ho, hb⟩
  obtain ⟨xa5p, xc5p, xa5s, xc5s, xa5w, xc5w, rfl, rfl, rfl⟩ := ho.form
  replace K1 := Lib.hid (K1.out.stay hb)
  replace K2 := Lib.hid (K2.out.stay hb)
  replace C := Lib.hid (C.out.trans (hb.mono C.out.size))
  have S6 : Hid (w4.heap.size ≤ w5.heap.size) := Lib.hid hb.size
  have OX5 := Lib.hid ho; clear ho
  clear hb
  refine hK.out _ _ ⟨K1.out.c0, K1.out.c1, K1.out.c2, K2.out.c0, K2.out.c1, K2.out.c2⟩ (fun hHeld => ?_)
  clear hK K
  try simp only [Act.put, List.setIfInBounds_toArray, List.set_cons_zero, List.set_cons_succ]
  refine wpAnyH_ready (rs := [3]) (by kernel_rfl) (by simp) ?_
  refine AllReadyH.cons rfl (fun K hK => ?_) AllReadyH.nil
  go_simp
  refine (toC _ _ _ z1p z1s z1w w5 ((R1.out.below C.out).more C.out.size) hq1p hq1s hq1w).mono ?_
  rintro e w6 ⟨x6p, x6s, x6w, rfl, ho, hb⟩
  obtain ⟨xa6p, xc6p, xa6s, xc6s, xa6w, xc6w, rfl, rfl, rfl⟩ := ho.form
  replace K1 := Lib.hid (K1.out.stay hb)
  replace K2 := Lib.hid (K2.out.stay hb)
  replace OX5 := Lib.hid (OX5.out.stay hb)
  replace C := Lib.hid (C.out.trans (hb.mono C.out.size))
  have S7 : Hid (w5.heap.size ≤ w6.heap.size) := Lib.hid hb.size
  have OX6 := Lib.hid ho; clear ho
  clear hb
  refine hK.out _ _ ⟨K1.out.c0, K1.out.c1, K1.out.c2, K2.out.c0, K2.out.c1, K2.out.c2⟩ (fun hHeld => ?_)
  clear hK K
  try simp only [Act.put, List.setIfInBounds_toArray, List.set_cons_zero, List.set_cons_succ]
  refine wpAnyH_ready (rs := [4]) (by kernel_rfl) (by simp) ?_
  refine AllReadyH.cons rfl (fun K hK => ?_) AllReadyH.nil
  go_simp
  refine (hid_out (HS w6 (.slice xa5p z0p.length xc5p) (.slice xa5s z0s.length xc5s) (.slice xa5w z0w.length xc5w) (.slice xa6p z1p.length xc6p) (.slice xa6s z1s.length xc6s) (.slice xa6w z1w.length xc6w) (OX5.out.reads) (OX6.out.reads))).mono ?_
  rintro e w7 ⟨rfl, hb⟩
  replace K1 := Lib.hid (K1.out.stay hb)
  replace K2 := Lib.hid (K2.out.stay hb)
  replace OX5 := Lib.hid (OX5.out.stay hb)
  replace OX6 := Lib.hid (OX6.out.stay hb)
  replace C := Lib.hid (C.out.trans (hb.mono C.out.size))
  have S8 : Hid (w6.heap.size ≤ w7.heap.size) := Lib.hid hb.size
  clear hb
  refine hK.out _ _ ⟨K1.out.c0, K1.out.c1, K1.out.c2, K2.out.c0, K2.out.c1, K2.out.c2⟩ (fun hHeld => ?_)
  clear hK K
  try simp only [Act.put, List.setIfInBounds_toArray, List.set_cons_zero, List.set_cons_succ]
  refine takeY 5 _ (v := ?_) rfl rfl (by kernel_rfl) (by kernel_rfl) (by kernel_rfl) (fun _ _ _ h => h) (by kernel_rfl) ?_ (by assumption) ?_
  rotate_left 1
  · intro w hSw; (try dsimp only at hSw); go_simp; (try with_reducible rfl)
  try simp only [Act.put, List.setIfInBounds_toArray, List.set_cons_zero, List.set_cons_succ]
  refine takeY 6 _ (v := ?_) rfl rfl (by kernel_rfl) (by kernel_rfl) (by kernel_rfl) (fun _ _ _ h => h) (by kernel_rfl) ?_ (by assumption) ?_
  rotate_left 1
  · intro w hSw; (try dsimp only at hSw); go_simp; (try with_reducible rfl)
  try simp only [Act.put, List.setIfInBounds_toArray, List.set_cons_zero, List.set_cons_succ]
  refine takeY 7 _ (v := ?_) rfl rfl (by kernel_rfl) (by kernel_rfl) (by kernel_rfl) (fun _ _ _ h => h) (by kernel_rfl) ?_ (by assumption) ?_
  rotate_left 1
  · intro w hSw; (try dsimp only at hSw); go_simp; (try with_reducible rfl)
  try simp only [Act.put, List.setIfInBounds_toArray, List.set_cons_zero, List.set_cons_succ]
  refine takeY 8 _ (v := ?_) rfl rfl (by kernel_rfl) (by kernel_rfl) (by kernel_rfl) (fun _ _ _ h => h) (by kernel_rfl) ?_ (by assumption) ?_
  rotate_left 1
  · intro w hSw; (try dsimp only at hSw); go_simp; (try with_reducible rfl)
  try simp only [Act.put, List.setIfInBounds_toArray, List.set_cons_zero, List.set_cons_succ]
  refine takeY 9 _ (v := ?_) rfl rfl (by kernel_rfl) (by kernel_rfl) (by kernel_rfl) (fun _ _ _ h => h) (by kernel_rfl) ?_ (by assumption) ?_
  rotate_left 1
  · intro w hSw; (try dsimp only at hSw); go_simp; (try with_reducible rfl)
  try simp only [Act.put, List.setIfInBounds_toArray, List.set_cons_zero, List.set_cons_succ]
  refine wpAnyH_done (by kernel_rfl) ?_ _
  clear hHeld RR
  have q0K1 := K1.out.c0; have q1K1 := K1.out.c1; have q2K1 := K1.out.c2; have qlK1 := K1.out.lt
  have q0K2 := K2.out.c0; have q1K2 := K2.out.c1; have q2K2 := K2.out.c2; have qlK2 := K2.out.lt
  go_wp2_with fail
  clear q0K1 q1K1 q2K1 qlK1 q0K2 q1K2 q2K2 qlK2
  refine (toC _ _ _ z0p z0s z0w w7 ((R0.out.below C.out).more C.out.size) hq0p hq0s hq0w).mono ?_
  rintro e w8 ⟨x8p, x8s, x8w, rfl, ho, hb⟩
  obtain ⟨xa8p, xc8p, xa8s, xc8s, xa8w, xc8w, rfl, rfl, rfl⟩ := ho.form
  replace K1 := Lib.hid (K1.out.stay hb)
  replace K2 := Lib.hid (K2.out.stay hb)
  replace OX5 := Lib.hid (OX5.out.stay hb)
  replace OX6 := Lib.hid (OX6.out.stay hb)
  replace C := Lib.hid (C.out.trans (hb.mono C.out.size))
  have S9 : Hid (w7.heap.size ≤ w8.heap.size) := Lib.hid hb.size
  have OX8 := Lib.hid ho; clear ho
  clear hb
  have q0K1 := K1.out.c0; have q1K1 := K1.out.c1; have q2K1 := K1.out.c2; have qlK1 := K1.out.lt
  have q0K2 := K2.out.c0; have q1K2 := K2.out.c1; have q2K2 := K2.out.c2; have qlK2 := K2.out.lt
  obtain ⟨w9, HE9⟩ : ∃ W, W = w8.alloc (.cells #[(.slice xa8p z0p.length xc8p), (.slice xa8s z0s.length xc8s), (.slice xa8w z0w.length xc8w)] 36) := ⟨_, rfl⟩
  have hb : Below w8.heap.size w8 w9 := by rw [HE9]; exact below_box2 _ _
  have hq : CBox w9 w8.heap.size ((.slice xa8p z0p.length xc8p)) ((.slice xa8s z0s.length xc8s)) ((.slice xa8w z0w.length xc8w)) := by rw [HE9]; exact CBox.new _ _ _ _ _
  have hz : w8.heap.size + 1 ≤ w9.heap.size := by rw [HE9]; simp
  replace K1 := Lib.hid (K1.out.stay hb)
  replace K2 := Lib.hid (K2.out.stay hb)
  replace OX5 := Lib.hid (OX5.out.stay hb)
  replace OX6 := Lib.hid (OX6.out.stay hb)
  replace OX8 := Lib.hid (OX8.out.stay hb)
  replace C := Lib.hid (C.out.trans (hb.mono C.out.size))
  have S10 : Hid (w8.heap.size ≤ w9.heap.size) := Lib.hid hb.size
  have Z9 : Hid (w8.heap.size + 1 ≤ w9.heap.size) := Lib.hid hz
  have K9 := Lib.hid hq; have HEQ9 := Lib.hid HE9; clear hq HE9 hb hz
  go_wp2_with fail
  rw [← HEQ9.out]
  clear q0K1 q1K1 q2K1 qlK1 q0K2 q1K2 q2K2 qlK2
  refine (toC _ _ _ z1p z1s z1w w9 ((R1.out.below C.out).more C.out.size) hq1p hq1s hq1w).mono ?_
  rintro e w10 ⟨x10p, x10s, x10w, rfl, ho, hb⟩
  obtain ⟨xa10p, xc10p, xa10s, xc10s, xa10w, xc10w, rfl, rfl, rfl⟩ := ho.form
  replace K1 := Lib.hid (K1.out.stay hb)
  replace K2 := Lib.hid (K2.out.stay hb)
  replace OX5 := Lib.hid (OX5.out.stay hb)
  replace OX6 := Lib.hid (OX6.out.stay hb)
  replace OX8 := Lib.hid (OX8.out.stay hb)
  replace K9 := Lib.hid (K9.out.stay hb)
  replace C := Lib.hid (C.out.trans (hb.mono C.out.size))
  have S12 : Hid (w9.heap.size ≤ w10.heap.size) := Lib.hid hb.size
  have OX10 := Lib.hid ho; clear ho
  clear hb
  have q0K1 := K1.out.c0; have q1K1 := K1.out.c1; have q2K1 := K1.out.c2; have qlK1 := K1.out.lt
  have q0K2 := K2.out.c0; have q1K2 := K2.out.c1; have q2K2 := K2.out.c2; have qlK2 := K2.out.lt
  have q0K9 := K9.out.c0; have q1K9 := K9.out.c1; have q2K9 := K9.out.c2; have qlK9 := K9.out.lt
  obtain ⟨w11, HE11⟩ : ∃ W, W = w10.alloc (.cells #[(.slice xa10p z1p.length xc10p), (.slice xa10s z1s.length xc10s), (.slice xa10w z1w.length xc10w)] 36) := ⟨_, rfl⟩
  have hb : Below w10.heap.size w10 w11 := by rw [HE11]; exact below_box2 _ _
  have hq : CBox w11 w10.heap.size ((.slice xa10p z1p.length xc10p)) ((.slice xa10s z1s.length xc10s)) ((.slice xa10w z1w.length xc10w)) := by rw [HE11]; exact CBox.new _ _ _ _ _
  have hz : w10.heap.size + 1 ≤ w11.heap.size := by rw [HE11]; simp
  replace K1 := Lib.hid (K1.out.stay hb)
  replace K2 := Lib.hid (K2.out.stay hb)
  replace OX5 := Lib.hid (OX5.out.stay hb)
  replace OX6 := Lib.hid (OX6.out.stay hb)
  replace OX8 := Lib.hid (OX8.out.stay hb)
  replace K9 := Lib.hid (K9.out.stay hb)
  replace OX10 := Lib.hid (OX10.out.stay hb)
  replace C := Lib.hid (C.out.trans (hb.mono C.out.size))
  have S13 : Hid (w10.heap.size ≤ w11.heap.size) := Lib.hid hb.size
  have Z11 : Hid (w10.heap.size + 1 ≤ w11.heap.size) := Lib.hid hz
  have K11 := Lib.hid hq; have HEQ11 := Lib.hid HE11; clear hq HE11 hb hz
  go_wp2_with fail
  rw [← HEQ11.out]
  clear q0K1 q1K1 q2K1 qlK1 q0K2 q1K2 q2K2 qlK2 q0K9 q1K9 q2K9 qlK9
  refine (hid_out (HI w11 (.slice xa8p z0p.length xc8p) (.slice xa8s z0s.length xc8s) (.slice xa8w z0w.length xc8w) (.slice xa10p z1p.length xc10p) (.slice xa10s z1s.length xc10s) (.slice xa10w z1w.length xc10w) (OX8.out.reads) (OX10.out.reads))).mono ?_
  rintro e w12 ⟨rfl, hb⟩
  replace K1 := Lib.hid (K1.out.stay hb)
  replace K2 := Lib.hid (K2.out.stay hb)
  replace OX5 := Lib.hid (OX5.out.stay hb)
  replace OX6 := Lib.hid (OX6.out.stay hb)
  replace OX8 := Lib.hid (OX8.out.stay hb)
  replace K9 := Lib.hid (K9.out.stay hb)
  replace OX10 := Lib.hid (OX10.out.stay hb)
  replace K11 := Lib.hid (K11.out.stay hb)
  replace C := Lib.hid (C.out.trans (hb.mono C.out.size))
  have S15 : Hid (w11.heap.size ≤ w12.heap.size) := Lib.hid hb.size
  clear hb
  have q0K1 := K1.out.c0; have q1K1 := K1.out.c1; have q2K1 := K1.out.c2; have qlK1 := K1.out.lt
  have q0K2 := K2.out.c0; have q1K2 := K2.out.c1; have q2K2 := K2.out.c2; have qlK2 := K2.out.lt
  have q0K9 := K9.out.c0; have q1K9 := K9.out.c1; have q2K9 := K9.out.c2; have qlK9 := K9.out.lt
  have q0K11 := K11.out.c0; have q1K11 := K11.out.c1; have q2K11 := K11.out.c2; have qlK11 := K11.out.lt
  go_wp2_with fail
  clear q0K1 q1K1 q2K1 qlK1 q0K2 q1K2 q2K2 qlK2 q0K9 q1K9 q2K9 qlK9 q0K11 q1K11 q2K11 qlK11
  have RR := Lib.hid ((R0.out.below C.out).more C.out.size)
  refine wp_region_held_drew (S := fun w' => w'.cell? ⟨w8.heap.size, 0, none⟩ = some ((.slice xa8p z0p.length xc8p)) ∧ w'.cell? ⟨w8.heap.size, 1, none⟩ = some ((.slice xa8s z0s.length xc8s)) ∧ w'.cell? ⟨w8.heap.size, 2, none⟩ = some ((.slice xa8w z0w.length xc8w)) ∧ w'.cell? ⟨w.heap.size, 0, none⟩ = some (.slice A0p z0p.length c0p) ∧ w'.cell? ⟨w.heap.size, 1, none⟩ = some (.slice A0s z0s.length c0s) ∧ w'.cell? ⟨w.heap.size, 2, none⟩ = some (.slice A0w z0w.length c0w)) (by kernel_rfl) ⟨K9.out.c0, K9.out.c1, K9.out.c2, K1.out.c0, K1.out.c1, K1.out.c2⟩ (fun hHeld => ?_)
  refine takeY 0 _ (v := ?_) rfl rfl (by kernel_rfl) (by kernel_rfl) (by kernel_rfl) (fun _ _ _ h => h) (by kernel_rfl) ?_ (by assumption) ?_
  rotate_left 1
  · intro w hSw; (try dsimp only at hSw); go_simp; (try with_reducible rfl)
  try simp only [Act.put, List.setIfInBounds_toArray, List.set_cons_zero, List.set_cons_succ]
  refine takeY 1 _ (v := ?_) rfl rfl (by kernel_rfl) (by kernel_rfl) (by kernel_rfl) (fun _ _ _ h => h) (by kernel_rfl) ?_ (by assumption) ?_
  rotate_left 1
  · intro w hSw; (try dsimp only at hSw); go_simp; (try with_reducible rfl)
  try simp only [Act.put, List.setIfInBounds_toArray, List.set_cons_zero, List.set_cons_succ]
  refine wpAnyH_ready (rs := [2]) (by kernel_rfl) (by simp) ?_
  refine AllReadyH.cons rfl (fun K hK => ?_) AllReadyH.nil
  go_simp
  refine (toC_drew _ _ _ z0p z0s z0w w12 RR.out hq0p hq0s hq0w).mono ?_
  rintro e w13 ⟨x13p, x13s, x13w, rfl, ho, hb⟩
  obtain ⟨xa13p, xc13p, xa13s, xc13s, xa13w, xc13w, rfl, rfl, rfl⟩ := ho.form
  replace K1 := Lib.hid (K1.out.stay hb)
  replace K2 := Lib.hid (K2.out.stay hb)
  replace OX5 := Lib.hid (OX5.out.stay hb)
  replace OX6 := Lib.hid (OX6.out.stay hb)
  replace OX8 := Lib.hid (OX8.out.stay hb)
  replace K9 := Lib.hid (K9.out.stay hb)
  replace OX10 := Lib.hid (OX10.out.stay hb)
  replace K11 := Lib.hid (K11.out.stay hb)
  replace C := Lib.hid (C.out.trans (hb.mono C.out.size))
  have S16 : Hid (w12.heap.size ≤ w13.heap.size) := Lib.hid hb.size
  have OX13 := Lib.hid ho; clear ho
  clear hb
  refine hK.out _ _ ⟨K9.out.c0, K9.out.c1, K9.out.c2, K1.out.c0, K1.out.c1, K1.out.c2⟩ (fun hHeld => ?_)
  clear hK K
  try simp only [Act.put, List.setIfInBounds_toArray, List.set_cons_zero, List.set_cons_succ]
  refine wpAnyH_ready (rs := [3]) (by kernel_rfl) (by simp) ?_
  refine AllReadyH.cons rfl (fun K hK => ?_) AllReadyH.nil
  go_simp
  refine (eqC _ _ _ _ _ _ z0p z0s z0w w13 (OX8.out.reads) (OX13.out.reads) (by omega) (by omega) (by omega)).mono ?_
  rintro e w14 ⟨rfl, hb⟩
  replace K1 := Lib.hid (K1.out.stay hb)
  replace K2 := Lib.hid (K2.out.stay hb)
  replace OX5 := Lib.hid (OX5.out.stay hb)
  replace OX6 := Lib.hid (OX6.out.stay hb)
  replace OX8 := Lib.hid (OX8.out.stay hb)
  replace K9 := Lib.hid (K9.out.stay hb)
  replace OX10 := Lib.hid (OX10.out.stay hb)
  replace K11 := Lib.hid (K11.out.stay hb)
  replace OX13 := Lib.hid (OX13.out.stay hb)
  replace C := Lib.hid (C.out.trans (hb.mono C.out.size))
  have S17 : Hid (w13.heap.size ≤ w14.heap.size) := Lib.hid hb.size
  clear hb
  refine hK.out _ _ ⟨K9.out.c0, K9.out.c1, K9.out.c2, K1.out.c0, K1.out.c1, K1.out.c2⟩ (fun hHeld => ?_)
  clear hK K
  try simp only [Act.put, List.setIfInBounds_toArray, List.set_cons_zero, List.set_cons_succ]
  refine takeY 4 _ (v := ?_) rfl rfl (by kernel_rfl) (by kernel_rfl) (by kernel_rfl) (fun _ _ _ h => h) (by kernel_rfl) ?_ (by assumption) ?_
  rotate_left 1
  · intro w hSw; (try dsimp only at hSw); go_simp; (try with_reducible rfl)
  try simp only [Act.put, List.setIfInBounds_toArray, List.set_cons_zero, List.set_cons_succ]
  refine wpAnyH_done (by kernel_rfl) ?_ _
  clear hHeld RR
  have q0K1 := K1.out.c0; have q1K1 := K1.out.c1; have q2K1 := K1.out.c2; have qlK1 := K1.out.lt
  have q0K2 := K2.out.c0; have q1K2 := K2.out.c1; have q2K2 := K2.out.c2; have qlK2 := K2.out.lt
  have q0K9 := K9.out.c0; have q1K9 := K9.out.c1; have q2K9 := K9.out.c2; have qlK9 := K9.out.lt
  have q0K11 := K11.out.c0; have q1K11 := K11.out.c1; have q2K11 := K11.out.c2; have qlK11 := K11.out.lt
  go_wp2_with fail
  clear q0K1 q1K1 q2K1 qlK1 q0K2 q1K2 q2K2 qlK2 q0K9 q1K9 q2K9 qlK9 q0K11 q1K11 q2K11 qlK11
  have RR := Lib.hid ((R1.out.below C.out).more C.out.size)
  refine wp_region_held_drew (S := fun w' => w'.cell? ⟨w10.heap.size, 0, none⟩ = some ((.slice xa10p z1p.length xc10p)) ∧ w'.cell? ⟨w10.heap.size, 1, none⟩ = some ((.slice xa10s z1s.length xc10s)) ∧ w'.cell? ⟨w10.heap.size, 2, none⟩ = some ((.slice xa10w z1w.length xc10w)) ∧ w'.cell? ⟨w.heap.size + 1, 0, none⟩ = some (.slice A1p z1p.length c1p) ∧ w'.cell? ⟨w.heap.size + 1, 1, none⟩ = some (.slice A1s z1s.length c1s) ∧ w'.cell? ⟨w.heap.size + 1, 2, none⟩ = some (.slice A1w z1w.length c1w)) (by kernel_rfl) ⟨K11.out.c0, K11.out.c1, K11.out.c2, K2.out.c0, K2.out.c1, K2.out.c2⟩ (fun hHeld => ?_)
  refine takeY 0 _ (v := ?_) rfl rfl (by kernel_rfl) (by kernel_rfl) (by kernel_rfl) (fun _ _ _ h => h) (by kernel_rfl) ?_ (by assumption) ?_
  rotate_left 1
  · intro w hSw; (try dsimp only at hSw); go_simp; (try with_reducible rfl)
  try simp only [Act.put, List.setIfInBounds_toArray, List.set_cons_zero, List.set_cons_succ]
  refine takeY 1 _ (v := ?_) rfl rfl (by kernel_rfl) (by kernel_rfl) (by kernel_rfl) (fun _ _ _ h => h) (by kernel_rfl) ?_ (by assumption) ?_
  rotate_left 1
  · intro w hSw; (try dsimp only at hSw); go_simp; (try with_reducible rfl)
  try simp only [Act.put, List.setIfInBounds_toArray, List.set_cons_zero, List.set_cons_succ]
  refine wpAnyH_ready (rs := [2]) (by kernel_rfl) (by simp) ?_
  refine AllReadyH.cons rfl (fun K hK => ?_) AllReadyH.nil
  go_simp
  refine (toC_drew _ _ _ z1p z1s z1w w14 RR.out hq1p hq1s hq1w).mono ?_
  rintro e w15 ⟨x15p, x15s, x15w, rfl, ho, hb⟩
  obtain ⟨xa15p, xc15p, xa15s, xc15s, xa15w, xc15w, rfl, rfl, rfl⟩ := ho.form
  replace K1 := Lib.hid (K1.out.stay hb)
  replace K2 := Lib.hid (K2.out.stay hb)
  replace OX5 := Lib.hid (OX5.out.stay hb)
  replace OX6 := Lib.hid (OX6.out.stay hb)
  replace OX8 := Lib.hid (OX8.out.stay hb)
  replace K9 := Lib.hid (K9.out.stay hb)
  replace OX10 := Lib.hid (OX10.out.stay hb)
  replace K11 := Lib.hid (K11.out.stay hb)
  replace OX13 := Lib.hid (OX13.out.stay hb)
  replace C := Lib.hid (C.out.trans (hb.mono C.out.size))
  have S18 : Hid (w14.heap.size ≤ w15.heap.size) := Lib.hid hb.size
  have OX15 := Lib.hid ho; clear ho
  clear hb
  refine hK.out _ _ ⟨K11.out.c0, K11.out.c1, K11.out.c2, K2.out.c0, K2.out.c1, K2.out.c2⟩ (fun hHeld => ?_)
  clear hK K
  try simp only [Act.put, List.setIfInBounds_toArray, List.set_cons_zero, List.set_cons_succ]
  refine wpAnyH_ready (rs := [3]) (by kernel_rfl) (by simp) ?_
  refine AllReadyH.cons rfl (fun K hK => ?_) AllReadyH.nil
  go_simp
  refine (eqC _ _ _ _ _ _ z1p z1s z1w w15 (OX10.out.reads) (OX15.out.reads) (by omega) (by omega) (by omega)).mono ?_
  rintro e w16 ⟨rfl, hb⟩
  replace K1 := Lib.hid (K1.out.stay hb)
  replace K2 := Lib.hid (K2.out.stay hb)
  replace OX5 := Lib.hid (OX5.out.stay hb)
  replace OX6 := Lib.hid (OX6.out.stay hb)
  replace OX8 := Lib.hid (OX8.out.stay hb)
  replace K9 := Lib.hid (K9.out.stay hb)
  replace OX10 := Lib.hid (OX10.out.stay hb)
  replace K11 := Lib.hid (K11.out.stay hb)
  replace OX13 := Lib.hid (OX13.out.stay hb)
  replace OX15 := Lib.hid (OX15.out.stay hb)
  replace C := Lib.hid (C.out.trans (hb.mono C.out.size))
  have S19 : Hid (w15.heap.size ≤ w16.heap.size) := Lib.hid hb.size
  clear hb
  refine hK.out _ _ ⟨K11.out.c0, K11.out.c1, K11.out.c2, K2.out.c0, K2.out.c1, K2.out.c2⟩ (fun hHeld => ?_)
  clear hK K
  try simp only [Act.put, List.setIfInBounds_toArray, List.set_cons_zero, List.set_cons_succ]
  refine takeY 4 _ (v := ?_) rfl rfl (by kernel_rfl) (by kernel_rfl) (by kernel_rfl) (fun _ _ _ h => h) (by kernel_rfl) ?_ (by assumption) ?_
  rotate_left 1
  · intro w hSw; (try dsimp only at hSw); go_simp; (try with_reducible rfl)
  try simp only [Act.put, List.setIfInBounds_toArray, List.set_cons_zero, List.set_cons_succ]
  refine wpAnyH_done (by kernel_rfl) ?_ _
  clear hHeld RR
  have q0K1 := K1.out.c0; have q1K1 := K1.out.c1; have q2K1 := K1.out.c2; have qlK1 := K1.out.lt
  have q0K2 := K2.out.c0; have q1K2 := K2.out.c1; have q2K2 := K2.out.c2; have qlK2 := K2.out.lt
  have q0K9 := K9.out.c0; have q1K9 := K9.out.c1; have q2K9 := K9.out.c2; have qlK9 := K9.out.lt
  have q0K11 := K11.out.c0; have q1K11 := K11.out.c1; have q2K11 := K11.out.c2; have qlK11 := K11.out.lt
  go_wp2_with fail
  clear q0K1 q1K1 q2K1 qlK1 q0K2 q1K2 q2K2 qlK2 q0K9 q1K9 q2K9 qlK9 q0K11 q1K11 q2K11 qlK11
  go_ret
  exact ⟨rfl, C.out⟩
end Go.Proofs.Ytohbgfmjnanlkaa
