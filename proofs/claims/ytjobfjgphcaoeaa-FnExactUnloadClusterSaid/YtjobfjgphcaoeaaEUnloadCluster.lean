/- For all arguments, impl.UnloadCluster answers as spec.UnloadCluster does, leaves its arguments alone and answers in memory of its own: laws.FnExactUnloadCluster returns true. No condition. -/
import Derived.Test.YtjobfjgphcaoeaaUn17
namespace Go.Proofs.Ytjobfjgphcaoeaa
open Go.ChangeShapes Go.WideShapes Go.ChangeAt Go.RowKit
set_option linter.unusedVariables false
set_option linter.unusedSimpArgs false

set_option maxRecDepth 100000 in
set_option maxHeartbeats 2000000 in
theorem FnExactUnloadCluster_walk (w : World) (A0p : Option Addr) (n0p c0p : Nat) (z0p : List Int) (hr0p : RI w w.heap.size A0p n0p z0p) (hn0p : n0p ≤ 9223372036854775807) (hw0p : ∀ z ∈ z0p, (Lit.int .i64 z).wf = true) (A0s : Option Addr) (n0s c0s : Nat) (z0s : List Int) (hr0s : RI w w.heap.size A0s n0s z0s) (hn0s : n0s ≤ 9223372036854775807) (hw0s : ∀ z ∈ z0s, (Lit.int .i64 z).wf = true) (A0w : Option Addr) (n0w c0w : Nat) (z0w : List Int) (hr0w : RI w w.heap.size A0w n0w z0w) (hn0w : n0w ≤ 9223372036854775807) (hw0w : ∀ z ∈ z0w, (Lit.int .i64 z).wf = true) :
    Calls Try.prog 9 #[.agg #[.slice A0p n0p c0p, .slice A0s n0s c0s, .slice A0w n0w c0w]] w fun e w' => e = .returned (.bool true) ∧ Below w.heap.size w w' := by
  obtain rfl : z0p.length = n0p := hr0p.1
  obtain rfl : z0s.length = n0s := hr0s.1
  obtain rfl : z0w.length = n0w := hr0w.1
  by_cases hb0 : 1048576 < (z0p.length : Int) + (z0s.length : Int) + (z0w.length : Int)
  · clear hr0p hw0p hr0s hw0s hr0w hw0w
    go_enter Try.func9, Try.ntmps9
    go_wp2_with fail
    refine (szC_no _ _ _ _ _ _ _ _ _ _ _ hb0 (by omega) (by omega) hn0p hn0s hn0w).mono ?_
    rintro e w' ⟨rfl, hb⟩
    go_wp2_with fail
    go_ret
    exact ⟨rfl, (below_box2 _ _).trans (hb.mono (by simp))⟩
  have hq0p : z0p.length ≤ 1048576 := by omega
  have hq0s : z0s.length ≤ 1048576 := by omega
  have hq0w : z0w.length ≤ 1048576 := by omega
  have R0 : Hid (ReadCW w w.heap.size (.slice A0p z0p.length c0p) (.slice A0s z0s.length c0s) (.slice A0w z0w.length c0w) z0p z0s z0w) := Lib.hid ⟨ReadW.mk' hr0p, ReadW.mk' hr0s, ReadW.mk' hr0w⟩
  clear hr0p hn0p hr0s hn0s hr0w hn0w
  have HW0p := Lib.hid hw0p
  have HW0s := Lib.hid hw0s
  have HW0w := Lib.hid hw0w
  clear hw0p hw0s hw0w
  have HS := fun (W : World) (v0p v0s v0w : Value) (h0 : ReadC W W.heap.size v0p v0s v0w z0p z0s z0w) => hid_in (specUnloadCluster_any v0p v0s v0w z0p z0s z0w W h0 hq0p hq0s hq0w HW0p.out HW0s.out HW0w.out)
  have HI := fun (W : World) (v0p v0s v0w : Value) (h0 : ReadC W W.heap.size v0p v0s v0w z0p z0s z0w) => hid_in (implUnloadCluster_any v0p v0s v0w z0p z0s z0w W h0 hq0p hq0s hq0w HW0p.out HW0s.out HW0w.out)
  have hl0p := (ul_len z0p z0s z0w).1
  have hl0s := (ul_len z0p z0s z0w).2.1
  have hl0w := (ul_len z0p z0s z0w).2.2
  generalize (ulPA z0p z0s z0w) = L0p at *
  generalize (ulSA z0p z0s z0w) = L0s at *
  generalize (ulWA z0p z0s z0w) = L0w at *
  generalize (ulC z0p z0s z0w) = K1_ at *
  have C : Hid (Below w.heap.size w w) := Lib.hid (Below.refl _ _)
  obtain ⟨w1, HE1⟩ : ∃ W, W = w.alloc (.cells #[.slice A0p z0p.length c0p, .slice A0s z0s.length c0s, .slice A0w z0w.length c0w] 24) := ⟨_, rfl⟩
  have hb : Below w.heap.size w w1 := by rw [HE1]; exact below_box2 _ _
  have hq : CBox w1 w.heap.size (.slice A0p z0p.length c0p) (.slice A0s z0s.length c0s) (.slice A0w z0w.length c0w) := by rw [HE1]; exact CBox.new _ _ _ _ _
  have hz : w.heap.size + 1 ≤ w1.heap.size := by rw [HE1]; simp
  replace C := Lib.hid (C.out.trans (hb.mono C.out.size))
  have S0 : Hid (w.heap.size ≤ w1.heap.size) := Lib.hid hb.size
  have Z1 : Hid (w.heap.size + 1 ≤ w1.heap.size) := Lib.hid hz
  have K1 := Lib.hid hq; have HEQ1 := Lib.hid HE1; clear hq HE1 hb hz
  go_enter Try.func9, Try.ntmps9
  go_wp2_with fail
  rw [← HEQ1.out]
  refine (szC_yes _ _ _ _ _ _ _ _ _ (1048576) w1 (by omega) (by omega)).mono ?_
  rintro e w2 ⟨rfl, hb⟩
  replace K1 := Lib.hid (K1.out.stay hb)
  replace C := Lib.hid (C.out.trans (hb.mono C.out.size))
  have S2 : Hid (w1.heap.size ≤ w2.heap.size) := Lib.hid hb.size
  clear hb
  have hy0 : ¬ 1048576 - (z0p.length : Int) - (z0s.length : Int) - (z0w.length : Int) < 0 := by omega
  have hx0 : (0 : Int) ≤ 1048576 - (z0p.length : Int) - (z0s.length : Int) - (z0w.length : Int) := by omega
  have q0K1 := K1.out.c0; have q1K1 := K1.out.c1; have q2K1 := K1.out.c2; have qlK1 := K1.out.lt
  go_wp2_with fail
  clear q0K1 q1K1 q2K1 qlK1
  refine (toC _ _ _ z0p z0s z0w w2 ((R0.out.below C.out).more C.out.size) hq0p hq0s hq0w).mono ?_
  rintro e w3 ⟨x3p, x3s, x3w, rfl, ho, hb⟩
  obtain ⟨xa3p, xc3p, xa3s, xc3s, xa3w, xc3w, rfl, rfl, rfl⟩ := ho.form
  replace K1 := Lib.hid (K1.out.stay hb)
  replace C := Lib.hid (C.out.trans (hb.mono C.out.size))
  have S3 : Hid (w2.heap.size ≤ w3.heap.size) := Lib.hid hb.size
  have OX3 := Lib.hid ho; clear ho
  clear hb
  have q0K1 := K1.out.c0; have q1K1 := K1.out.c1; have q2K1 := K1.out.c2; have qlK1 := K1.out.lt
  go_wp2_with fail
  clear q0K1 q1K1 q2K1 qlK1
  refine (hid_out (HS w3 (.slice xa3p z0p.length xc3p) (.slice xa3s z0s.length xc3s) (.slice xa3w z0w.length xc3w) (OX3.out.reads))).mono ?_
  rintro e w4 ⟨r4_0p, r4_0s, r4_0w, rfl, ho0, hb⟩
  obtain ⟨ra4_0p, rc4_0p, ra4_0s, rc4_0s, ra4_0w, rc4_0w, rfl, rfl, rfl⟩ := ho0.form
  replace K1 := Lib.hid (K1.out.stay hb)
  replace OX3 := Lib.hid (OX3.out.stay hb)
  replace C := Lib.hid (C.out.trans (hb.mono C.out.size))
  have S4 : Hid (w3.heap.size ≤ w4.heap.size) := Lib.hid hb.size
  have OR4_0 := Lib.hid ho0; clear ho0
  clear hb
  have q0K1 := K1.out.c0; have q1K1 := K1.out.c1; have q2K1 := K1.out.c2; have qlK1 := K1.out.lt
  obtain ⟨w5, HE5⟩ : ∃ W, W = w4.alloc (.cells #[(.slice ra4_0p L0p.length rc4_0p), (.slice ra4_0s L0s.length rc4_0s), (.slice ra4_0w L0w.length rc4_0w)] 28) := ⟨_, rfl⟩
  have hb : Below w4.heap.size w4 w5 := by rw [HE5]; exact below_box2 _ _
  have hq : CBox w5 w4.heap.size ((.slice ra4_0p L0p.length rc4_0p)) ((.slice ra4_0s L0s.length rc4_0s)) ((.slice ra4_0w L0w.length rc4_0w)) := by rw [HE5]; exact CBox.new _ _ _ _ _
  have hz : w4.heap.size + 1 ≤ w5.heap.size := by rw [HE5]; simp
  replace K1 := Lib.hid (K1.out.stay hb)
  replace OX3 := Lib.hid (OX3.out.stay hb)
  replace OR4_0 := Lib.hid (OR4_0.out.stay hb)
  replace C := Lib.hid (C.out.trans (hb.mono C.out.size))
  have S5 : Hid (w4.heap.size ≤ w5.heap.size) := Lib.hid hb.size
  have Z5 : Hid (w4.heap.size + 1 ≤ w5.heap.size) := Lib.hid hz
  have K5 := Lib.hid hq; have HEQ5 := Lib.hid HE5; clear hq HE5 hb hz
  go_wp2_with fail
  rw [← HEQ5.out]
  clear q0K1 q1K1 q2K1 qlK1
  refine (toC _ _ _ z0p z0s z0w w5 ((R0.out.below C.out).more C.out.size) hq0p hq0s hq0w).mono ?_
  rintro e w6 ⟨x6p, x6s, x6w, rfl, ho, hb⟩
  obtain ⟨xa6p, xc6p, xa6s, xc6s, xa6w, xc6w, rfl, rfl, rfl⟩ := ho.form
  replace K1 := Lib.hid (K1.out.stay hb)
  replace OX3 := Lib.hid (OX3.out.stay hb)
  replace OR4_0 := Lib.hid (OR4_0.out.stay hb)
  replace K5 := Lib.hid (K5.out.stay hb)
  replace C := Lib.hid (C.out.trans (hb.mono C.out.size))
  have S7 : Hid (w5.heap.size ≤ w6.heap.size) := Lib.hid hb.size
  have OX6 := Lib.hid ho; clear ho
  clear hb
  have q0K1 := K1.out.c0; have q1K1 := K1.out.c1; have q2K1 := K1.out.c2; have qlK1 := K1.out.lt
  have q0K5 := K5.out.c0; have q1K5 := K5.out.c1; have q2K5 := K5.out.c2; have qlK5 := K5.out.lt
  obtain ⟨w7, HE7⟩ : ∃ W, W = w6.alloc (.cells #[(.slice xa6p z0p.length xc6p), (.slice xa6s z0s.length xc6s), (.slice xa6w z0w.length xc6w)] 28) := ⟨_, rfl⟩
  have hb : Below w6.heap.size w6 w7 := by rw [HE7]; exact below_box2 _ _
  have hq : CBox w7 w6.heap.size ((.slice xa6p z0p.length xc6p)) ((.slice xa6s z0s.length xc6s)) ((.slice xa6w z0w.length xc6w)) := by rw [HE7]; exact CBox.new _ _ _ _ _
  have hz : w6.heap.size + 1 ≤ w7.heap.size := by rw [HE7]; simp
  replace K1 := Lib.hid (K1.out.stay hb)
  replace OX3 := Lib.hid (OX3.out.stay hb)
  replace OR4_0 := Lib.hid (OR4_0.out.stay hb)
  replace K5 := Lib.hid (K5.out.stay hb)
  replace OX6 := Lib.hid (OX6.out.stay hb)
  replace C := Lib.hid (C.out.trans (hb.mono C.out.size))
  have S8 : Hid (w6.heap.size ≤ w7.heap.size) := Lib.hid hb.size
  have Z7 : Hid (w6.heap.size + 1 ≤ w7.heap.size) := Lib.hid hz
  have K7 := Lib.hid hq; have HEQ7 := Lib.hid HE7; clear hq HE7 hb hz
  go_wp2_with fail
  rw [← HEQ7.out]
  clear q0K1 q1K1 q2K1 qlK1 q0K5 q1K5 q2K5 qlK5
  refine (hid_out (HI w7 (.slice xa6p z0p.length xc6p) (.slice xa6s z0s.length xc6s) (.slice xa6w z0w.length xc6w) (OX6.out.reads))).mono ?_
  rintro e w8 ⟨r8_0p, r8_0s, r8_0w, rfl, ho0, hb⟩
  obtain ⟨ra8_0p, rc8_0p, ra8_0s, rc8_0s, ra8_0w, rc8_0w, rfl, rfl, rfl⟩ := ho0.form
  replace K1 := Lib.hid (K1.out.stay hb)
  replace OX3 := Lib.hid (OX3.out.stay hb)
  replace OR4_0 := Lib.hid (OR4_0.out.stay hb)
  replace K5 := Lib.hid (K5.out.stay hb)
  replace OX6 := Lib.hid (OX6.out.stay hb)
  replace K7 := Lib.hid (K7.out.stay hb)
  replace C := Lib.hid (C.out.trans (hb.mono C.out.size))
  have S10 : Hid (w7.heap.size ≤ w8.heap.size) := Lib.hid hb.size
  have OR8_0 := Lib.hid ho0; clear ho0
  clear hb
  have q0K1 := K1.out.c0; have q1K1 := K1.out.c1; have q2K1 := K1.out.c2; have qlK1 := K1.out.lt
  have q0K5 := K5.out.c0; have q1K5 := K5.out.c1; have q2K5 := K5.out.c2; have qlK5 := K5.out.lt
  have q0K7 := K7.out.c0; have q1K7 := K7.out.c1; have q2K7 := K7.out.c2; have qlK7 := K7.out.lt
  obtain ⟨w9, HE9⟩ : ∃ W, W = w8.alloc (.cells #[(.slice ra8_0p L0p.length rc8_0p), (.slice ra8_0s L0s.length rc8_0s), (.slice ra8_0w L0w.length rc8_0w)] 28) := ⟨_, rfl⟩
  have hb : Below w8.heap.size w8 w9 := by rw [HE9]; exact below_box2 _ _
  have hq : CBox w9 w8.heap.size ((.slice ra8_0p L0p.length rc8_0p)) ((.slice ra8_0s L0s.length rc8_0s)) ((.slice ra8_0w L0w.length rc8_0w)) := by rw [HE9]; exact CBox.new _ _ _ _ _
  have hz : w8.heap.size + 1 ≤ w9.heap.size := by rw [HE9]; simp
  replace K1 := Lib.hid (K1.out.stay hb)
  replace OX3 := Lib.hid (OX3.out.stay hb)
  replace OR4_0 := Lib.hid (OR4_0.out.stay hb)
  replace K5 := Lib.hid (K5.out.stay hb)
  replace OX6 := Lib.hid (OX6.out.stay hb)
  replace K7 := Lib.hid (K7.out.stay hb)
  replace OR8_0 := Lib.hid (OR8_0.out.stay hb)
  replace C := Lib.hid (C.out.trans (hb.mono C.out.size))
  have S11 : Hid (w8.heap.size ≤ w9.heap.size) := Lib.hid hb.size
  have Z9 : Hid (w8.heap.size + 1 ≤ w9.heap.size) := Lib.hid hz
  have K9 := Lib.hid hq; have HEQ9 := Lib.hid HE9; clear hq HE9 hb hz
  go_wp2_with fail
  rw [← HEQ9.out]
  clear q0K1 q1K1 q2K1 qlK1 q0K5 q1K5 q2K5 qlK5 q0K7 q1K7 q2K7 qlK7
  refine (eqC _ _ _ _ _ _ L0p L0s L0w w9 (OR8_0.out.reads) (OR4_0.out.reads) (by omega) (by omega) (by omega)).mono ?_
  rintro e w10 ⟨rfl, hb⟩
  replace K1 := Lib.hid (K1.out.stay hb)
  replace OX3 := Lib.hid (OX3.out.stay hb)
  replace OR4_0 := Lib.hid (OR4_0.out.stay hb)
  replace K5 := Lib.hid (K5.out.stay hb)
  replace OX6 := Lib.hid (OX6.out.stay hb)
  replace K7 := Lib.hid (K7.out.stay hb)
  replace OR8_0 := Lib.hid (OR8_0.out.stay hb)
  replace K9 := Lib.hid (K9.out.stay hb)
  replace C := Lib.hid (C.out.trans (hb.mono C.out.size))
  have S13 : Hid (w9.heap.size ≤ w10.heap.size) := Lib.hid hb.size
  clear hb
  have q0K1 := K1.out.c0; have q1K1 := K1.out.c1; have q2K1 := K1.out.c2; have qlK1 := K1.out.lt
  have q0K5 := K5.out.c0; have q1K5 := K5.out.c1; have q2K5 := K5.out.c2; have qlK5 := K5.out.lt
  have q0K7 := K7.out.c0; have q1K7 := K7.out.c1; have q2K7 := K7.out.c2; have qlK7 := K7.out.lt
  have q0K9 := K9.out.c0; have q1K9 := K9.out.c1; have q2K9 := K9.out.c2; have qlK9 := K9.out.lt
  go_wp2_with fail
  clear q0K1 q1K1 q2K1 qlK1 q0K5 q1K5 q2K5 qlK5 q0K7 q1K7 q2K7 qlK7 q0K9 q1K9 q2K9 qlK9
  have RR := Lib.hid ((R0.out.below C.out).more C.out.size)
  refine wp_region_held_drew (S := fun w' => w'.cell? ⟨w6.heap.size, 0, none⟩ = some ((.slice xa6p z0p.length xc6p)) ∧ w'.cell? ⟨w6.heap.size, 1, none⟩ = some ((.slice xa6s z0s.length xc6s)) ∧ w'.cell? ⟨w6.heap.size, 2, none⟩ = some ((.slice xa6w z0w.length xc6w)) ∧ w'.cell? ⟨w.heap.size, 0, none⟩ = some (.slice A0p z0p.length c0p) ∧ w'.cell? ⟨w.heap.size, 1, none⟩ = some (.slice A0s z0s.length c0s) ∧ w'.cell? ⟨w.heap.size, 2, none⟩ = some (.slice A0w z0w.length c0w)) (by kernel_rfl) ⟨K7.out.c0, K7.out.c1, K7.out.c2, K1.out.c0, K1.out.c1, K1.out.c2⟩ (fun hHeld => ?_)
  refine takeY 0 _ (v := ?_) rfl rfl (by kernel_rfl) (by kernel_rfl) (by kernel_rfl) (fun _ _ _ h => h) (by kernel_rfl) ?_ (by assumption) ?_
  rotate_left 1
  · intro w hSw; (try dsimp only at hSw); go_simp; (try with_reducible rfl)
  try simp only [Act.put, List.setIfInBounds_toArray, List.set_cons_zero, List.set_cons_succ]
  refine takeY 1 _ (v := ?_) rfl rfl (by kernel_rfl) (by kernel_rfl) (by kernel_rfl) (fun _ _ _ h => h) (by kernel_rfl) ?_ (by assumption) ?_
  rotate_left 1
  · intro w hSw; (try dsimp only at hSw); go_simp; (try with_reducible rfl)
  try simp only [Act.put, List.setIfInBounds_toArray, List.set_cons_zero, List.set_cons_succ]
  refine wpAnyH_ready (rs := [2]) (by kernel_rfl) (by simp) ?_
  refine AllReadyH.cons rfl (fun K hK => ?_) AllReadyH.nil
  go_simp
  refine (toC_drew _ _ _ z0p z0s z0w w10 RR.out hq0p hq0s hq0w).mono ?_
  rintro e w11 ⟨x11p, x11s, x11w, rfl, ho, hb⟩
  obtain ⟨xa11p, xc11p, xa11s, xc11s, xa11w, xc11w, rfl, rfl, rfl⟩ := ho.form
  replace K1 := Lib.hid (K1.out.stay hb)
  replace OX3 := Lib.hid (OX3.out.stay hb)
  replace OR4_0 := Lib.hid (OR4_0.out.stay hb)
  replace K5 := Lib.hid (K5.out.stay hb)
  replace OX6 := Lib.hid (OX6.out.stay hb)
  replace K7 := Lib.hid (K7.out.stay hb)
  replace OR8_0 := Lib.hid (OR8_0.out.stay hb)
  replace K9 := Lib.hid (K9.out.stay hb)
  replace C := Lib.hid (C.out.trans (hb.mono C.out.size))
  have S14 : Hid (w10.heap.size ≤ w11.heap.size) := Lib.hid hb.size
  have OX11 := Lib.hid ho; clear ho
  clear hb
  refine hK.out _ _ ⟨K7.out.c0, K7.out.c1, K7.out.c2, K1.out.c0, K1.out.c1, K1.out.c2⟩ (fun hHeld => ?_)
  clear hK K
  try simp only [Act.put, List.setIfInBounds_toArray, List.set_cons_zero, List.set_cons_succ]
  refine wpAnyH_ready (rs := [3]) (by kernel_rfl) (by simp) ?_
  refine AllReadyH.cons rfl (fun K hK => ?_) AllReadyH.nil
  go_simp
  refine (eqC _ _ _ _ _ _ z0p z0s z0w w11 (OX6.out.reads) (OX11.out.reads) (by omega) (by omega) (by omega)).mono ?_
  rintro e w12 ⟨rfl, hb⟩
  replace K1 := Lib.hid (K1.out.stay hb)
  replace OX3 := Lib.hid (OX3.out.stay hb)
  replace OR4_0 := Lib.hid (OR4_0.out.stay hb)
  replace K5 := Lib.hid (K5.out.stay hb)
  replace OX6 := Lib.hid (OX6.out.stay hb)
  replace K7 := Lib.hid (K7.out.stay hb)
  replace OR8_0 := Lib.hid (OR8_0.out.stay hb)
  replace K9 := Lib.hid (K9.out.stay hb)
  replace OX11 := Lib.hid (OX11.out.stay hb)
  replace C := Lib.hid (C.out.trans (hb.mono C.out.size))
  have S15 : Hid (w11.heap.size ≤ w12.heap.size) := Lib.hid hb.size
  clear hb
  refine hK.out _ _ ⟨K7.out.c0, K7.out.c1, K7.out.c2, K1.out.c0, K1.out.c1, K1.out.c2⟩ (fun hHeld => ?_)
  clear hK K
  try simp only [Act.put, List.setIfInBounds_toArray, List.set_cons_zero, List.set_cons_succ]
  refine takeY 4 _ (v := ?_) rfl rfl (by kernel_rfl) (by kernel_rfl) (by kernel_rfl) (fun _ _ _ h => h) (by kernel_rfl) ?_ (by assumption) ?_
  rotate_left 1
  · intro w hSw; (try dsimp only at hSw); go_simp; (try with_reducible rfl)
  try simp only [Act.put, List.setIfInBounds_toArray, List.set_cons_zero, List.set_cons_succ]
  refine wpAnyH_done (by kernel_rfl) ?_ _
  clear hHeld RR
  have q0K1 := K1.out.c0; have q1K1 := K1.out.c1; have q2K1 := K1.out.c2; have qlK1 := K1.out.lt
  have q0K5 := K5.out.c0; have q1K5 := K5.out.c1; have q2K5 := K5.out.c2; have qlK5 := K5.out.lt
  have q0K7 := K7.out.c0; have q1K7 := K7.out.c1; have q2K7 := K7.out.c2; have qlK7 := K7.out.lt
  have q0K9 := K9.out.c0; have q1K9 := K9.out.c1; have q2K9 := K9.out.c2; have qlK9 := K9.out.lt
  go_wp2_with fail
  clear q0K1 q1K1 q2K1 qlK1 q0K5 q1K5 q2K5 qlK5 q0K7 q1K7 q2K7 qlK7 q0K9 q1K9 q2K9 qlK9
  refine (markC _ _ _ _ _ z0p z0s z0w 1 w12 OX6.out (by omega) (by omega) (by omega) (by omega)).mono ?_
  rintro e w13 ⟨rfl, hm, hb⟩
  replace K1 := Lib.hid (K1.out.kept (hb.kept (by have s0o := S0.out; have z1o := Z1.out; have s2o := S2.out; have s3o := S3.out; have s4o := S4.out; have s5o := S5.out; have z5o := Z5.out; have s7o := S7.out; have s8o := S8.out; have z7o := Z7.out; have s10o := S10.out; have s11o := S11.out; have z9o := Z9.out; have s13o := S13.out; have s14o := S14.out; have s15o := S15.out; omega) (by have s0o := S0.out; have z1o := Z1.out; have s2o := S2.out; have s3o := S3.out; have s4o := S4.out; have s5o := S5.out; have z5o := Z5.out; have s7o := S7.out; have s8o := S8.out; have z7o := Z7.out; have s10o := S10.out; have s11o := S11.out; have z9o := Z9.out; have s13o := S13.out; have s14o := S14.out; have s15o := S15.out; omega)))
  replace OX3 := Lib.hid (OX3.out.kept (hb.kept (by have s0o := S0.out; have z1o := Z1.out; have s2o := S2.out; have s3o := S3.out; have s4o := S4.out; have s5o := S5.out; have z5o := Z5.out; have s7o := S7.out; have s8o := S8.out; have z7o := Z7.out; have s10o := S10.out; have s11o := S11.out; have z9o := Z9.out; have s13o := S13.out; have s14o := S14.out; have s15o := S15.out; omega) (by have s0o := S0.out; have z1o := Z1.out; have s2o := S2.out; have s3o := S3.out; have s4o := S4.out; have s5o := S5.out; have z5o := Z5.out; have s7o := S7.out; have s8o := S8.out; have z7o := Z7.out; have s10o := S10.out; have s11o := S11.out; have z9o := Z9.out; have s13o := S13.out; have s14o := S14.out; have s15o := S15.out; omega)))
  replace OR4_0 := Lib.hid (OR4_0.out.kept (hb.kept (by have s0o := S0.out; have z1o := Z1.out; have s2o := S2.out; have s3o := S3.out; have s4o := S4.out; have s5o := S5.out; have z5o := Z5.out; have s7o := S7.out; have s8o := S8.out; have z7o := Z7.out; have s10o := S10.out; have s11o := S11.out; have z9o := Z9.out; have s13o := S13.out; have s14o := S14.out; have s15o := S15.out; omega) (by have s0o := S0.out; have z1o := Z1.out; have s2o := S2.out; have s3o := S3.out; have s4o := S4.out; have s5o := S5.out; have z5o := Z5.out; have s7o := S7.out; have s8o := S8.out; have z7o := Z7.out; have s10o := S10.out; have s11o := S11.out; have z9o := Z9.out; have s13o := S13.out; have s14o := S14.out; have s15o := S15.out; omega)))
  replace K5 := Lib.hid (K5.out.kept (hb.kept (by have s0o := S0.out; have z1o := Z1.out; have s2o := S2.out; have s3o := S3.out; have s4o := S4.out; have s5o := S5.out; have z5o := Z5.out; have s7o := S7.out; have s8o := S8.out; have z7o := Z7.out; have s10o := S10.out; have s11o := S11.out; have z9o := Z9.out; have s13o := S13.out; have s14o := S14.out; have s15o := S15.out; omega) (by have s0o := S0.out; have z1o := Z1.out; have s2o := S2.out; have s3o := S3.out; have s4o := S4.out; have s5o := S5.out; have z5o := Z5.out; have s7o := S7.out; have s8o := S8.out; have z7o := Z7.out; have s10o := S10.out; have s11o := S11.out; have z9o := Z9.out; have s13o := S13.out; have s14o := S14.out; have s15o := S15.out; omega)))
  replace K7 := Lib.hid (K7.out.kept (hb.kept (by have s0o := S0.out; have z1o := Z1.out; have s2o := S2.out; have s3o := S3.out; have s4o := S4.out; have s5o := S5.out; have z5o := Z5.out; have s7o := S7.out; have s8o := S8.out; have z7o := Z7.out; have s10o := S10.out; have s11o := S11.out; have z9o := Z9.out; have s13o := S13.out; have s14o := S14.out; have s15o := S15.out; omega) (by have s0o := S0.out; have z1o := Z1.out; have s2o := S2.out; have s3o := S3.out; have s4o := S4.out; have s5o := S5.out; have z5o := Z5.out; have s7o := S7.out; have s8o := S8.out; have z7o := Z7.out; have s10o := S10.out; have s11o := S11.out; have z9o := Z9.out; have s13o := S13.out; have s14o := S14.out; have s15o := S15.out; omega)))
  replace OR8_0 := Lib.hid (OR8_0.out.kept (hb.kept (by have s0o := S0.out; have z1o := Z1.out; have s2o := S2.out; have s3o := S3.out; have s4o := S4.out; have s5o := S5.out; have z5o := Z5.out; have s7o := S7.out; have s8o := S8.out; have z7o := Z7.out; have s10o := S10.out; have s11o := S11.out; have z9o := Z9.out; have s13o := S13.out; have s14o := S14.out; have s15o := S15.out; omega) (by have s0o := S0.out; have z1o := Z1.out; have s2o := S2.out; have s3o := S3.out; have s4o := S4.out; have s5o := S5.out; have z5o := Z5.out; have s7o := S7.out; have s8o := S8.out; have z7o := Z7.out; have s10o := S10.out; have s11o := S11.out; have z9o := Z9.out; have s13o := S13.out; have s14o := S14.out; have s15o := S15.out; omega)))
  replace K9 := Lib.hid (K9.out.kept (hb.kept (by have s0o := S0.out; have z1o := Z1.out; have s2o := S2.out; have s3o := S3.out; have s4o := S4.out; have s5o := S5.out; have z5o := Z5.out; have s7o := S7.out; have s8o := S8.out; have z7o := Z7.out; have s10o := S10.out; have s11o := S11.out; have z9o := Z9.out; have s13o := S13.out; have s14o := S14.out; have s15o := S15.out; omega) (by have s0o := S0.out; have z1o := Z1.out; have s2o := S2.out; have s3o := S3.out; have s4o := S4.out; have s5o := S5.out; have z5o := Z5.out; have s7o := S7.out; have s8o := S8.out; have z7o := Z7.out; have s10o := S10.out; have s11o := S11.out; have z9o := Z9.out; have s13o := S13.out; have s14o := S14.out; have s15o := S15.out; omega)))
  replace OX11 := Lib.hid (OX11.out.kept (hb.kept (by have s0o := S0.out; have z1o := Z1.out; have s2o := S2.out; have s3o := S3.out; have s4o := S4.out; have s5o := S5.out; have z5o := Z5.out; have s7o := S7.out; have s8o := S8.out; have z7o := Z7.out; have s10o := S10.out; have s11o := S11.out; have z9o := Z9.out; have s13o := S13.out; have s14o := S14.out; have s15o := S15.out; omega) (by have s0o := S0.out; have z1o := Z1.out; have s2o := S2.out; have s3o := S3.out; have s4o := S4.out; have s5o := S5.out; have z5o := Z5.out; have s7o := S7.out; have s8o := S8.out; have z7o := Z7.out; have s10o := S10.out; have s11o := S11.out; have z9o := Z9.out; have s13o := S13.out; have s14o := S14.out; have s15o := S15.out; omega)))
  replace C := Lib.hid (C.out.trans (Only.below hb (by have s0o := S0.out; have z1o := Z1.out; have s2o := S2.out; have s3o := S3.out; have s4o := S4.out; have s5o := S5.out; have z5o := Z5.out; have s7o := S7.out; have s8o := S8.out; have z7o := Z7.out; have s10o := S10.out; have s11o := S11.out; have z9o := Z9.out; have s13o := S13.out; have s14o := S14.out; have s15o := S15.out; omega) C.out.size))
  have S16 : Hid (w12.heap.size ≤ w13.heap.size) := Lib.hid hb.size
  have M13 := Lib.hid hm; clear hm hb
  have q0K1 := K1.out.c0; have q1K1 := K1.out.c1; have q2K1 := K1.out.c2; have qlK1 := K1.out.lt
  have q0K5 := K5.out.c0; have q1K5 := K5.out.c1; have q2K5 := K5.out.c2; have qlK5 := K5.out.lt
  have q0K7 := K7.out.c0; have q1K7 := K7.out.c1; have q2K7 := K7.out.c2; have qlK7 := K7.out.lt
  have q0K9 := K9.out.c0; have q1K9 := K9.out.c1; have q2K9 := K9.out.c2; have qlK9 := K9.out.lt
  go_wp2_with fail
  clear q0K1 q1K1 q2K1 qlK1 q0K5 q1K5 q2K5 qlK5 q0K7 q1K7 q2K7 qlK7 q0K9 q1K9 q2K9 qlK9
  refine (eqC _ _ _ _ _ _ L0p L0s L0w w13 (OR8_0.out.reads) (OR4_0.out.reads) (by omega) (by omega) (by omega)).mono ?_
  rintro e w14 ⟨rfl, hb⟩
  replace K1 := Lib.hid (K1.out.stay hb)
  replace OX3 := Lib.hid (OX3.out.stay hb)
  replace OR4_0 := Lib.hid (OR4_0.out.stay hb)
  replace K5 := Lib.hid (K5.out.stay hb)
  replace K7 := Lib.hid (K7.out.stay hb)
  replace OR8_0 := Lib.hid (OR8_0.out.stay hb)
  replace K9 := Lib.hid (K9.out.stay hb)
  replace OX11 := Lib.hid (OX11.out.stay hb)
  replace M13 := Lib.hid (M13.out.stay hb)
  replace C := Lib.hid (C.out.trans (hb.mono C.out.size))
  have S17 : Hid (w13.heap.size ≤ w14.heap.size) := Lib.hid hb.size
  clear hb
  have q0K1 := K1.out.c0; have q1K1 := K1.out.c1; have q2K1 := K1.out.c2; have qlK1 := K1.out.lt
  have q0K5 := K5.out.c0; have q1K5 := K5.out.c1; have q2K5 := K5.out.c2; have qlK5 := K5.out.lt
  have q0K7 := K7.out.c0; have q1K7 := K7.out.c1; have q2K7 := K7.out.c2; have qlK7 := K7.out.lt
  have q0K9 := K9.out.c0; have q1K9 := K9.out.c1; have q2K9 := K9.out.c2; have qlK9 := K9.out.lt
  go_wp2_with fail
  clear q0K1 q1K1 q2K1 qlK1 q0K5 q1K5 q2K5 qlK5 q0K7 q1K7 q2K7 qlK7 q0K9 q1K9 q2K9 qlK9
  refine (markC _ _ _ _ _ L0p L0s L0w 1 w14 OR8_0.out (by omega) (by omega) (by omega) (by omega)).mono ?_
  rintro e w15 ⟨rfl, hm, hb⟩
  replace K1 := Lib.hid (K1.out.kept (hb.kept (by have s0o := S0.out; have z1o := Z1.out; have s2o := S2.out; have s3o := S3.out; have s4o := S4.out; have s5o := S5.out; have z5o := Z5.out; have s7o := S7.out; have s8o := S8.out; have z7o := Z7.out; have s10o := S10.out; have s11o := S11.out; have z9o := Z9.out; have s13o := S13.out; have s14o := S14.out; have s15o := S15.out; have s16o := S16.out; have s17o := S17.out; omega) (by have s0o := S0.out; have z1o := Z1.out; have s2o := S2.out; have s3o := S3.out; have s4o := S4.out; have s5o := S5.out; have z5o := Z5.out; have s7o := S7.out; have s8o := S8.out; have z7o := Z7.out; have s10o := S10.out; have s11o := S11.out; have z9o := Z9.out; have s13o := S13.out; have s14o := S14.out; have s15o := S15.out; have s16o := S16.out; have s17o := S17.out; omega)))
  replace OX3 := Lib.hid (OX3.out.kept (hb.kept (by have s0o := S0.out; have z1o := Z1.out; have s2o := S2.out; have s3o := S3.out; have s4o := S4.out; have s5o := S5.out; have z5o := Z5.out; have s7o := S7.out; have s8o := S8.out; have z7o := Z7.out; have s10o := S10.out; have s11o := S11.out; have z9o := Z9.out; have s13o := S13.out; have s14o := S14.out; have s15o := S15.out; have s16o := S16.out; have s17o := S17.out; omega) (by have s0o := S0.out; have z1o := Z1.out; have s2o := S2.out; have s3o := S3.out; have s4o := S4.out; have s5o := S5.out; have z5o := Z5.out; have s7o := S7.out; have s8o := S8.out; have z7o := Z7.out; have s10o := S10.out; have s11o := S11.out; have z9o := Z9.out; have s13o := S13.out; have s14o := S14.out; have s15o := S15.out; have s16o := S16.out; have s17o := S17.out; omega)))
  replace OR4_0 := Lib.hid (OR4_0.out.kept (hb.kept (by have s0o := S0.out; have z1o := Z1.out; have s2o := S2.out; have s3o := S3.out; have s4o := S4.out; have s5o := S5.out; have z5o := Z5.out; have s7o := S7.out; have s8o := S8.out; have z7o := Z7.out; have s10o := S10.out; have s11o := S11.out; have z9o := Z9.out; have s13o := S13.out; have s14o := S14.out; have s15o := S15.out; have s16o := S16.out; have s17o := S17.out; omega) (by have s0o := S0.out; have z1o := Z1.out; have s2o := S2.out; have s3o := S3.out; have s4o := S4.out; have s5o := S5.out; have z5o := Z5.out; have s7o := S7.out; have s8o := S8.out; have z7o := Z7.out; have s10o := S10.out; have s11o := S11.out; have z9o := Z9.out; have s13o := S13.out; have s14o := S14.out; have s15o := S15.out; have s16o := S16.out; have s17o := S17.out; omega)))
  replace K5 := Lib.hid (K5.out.kept (hb.kept (by have s0o := S0.out; have z1o := Z1.out; have s2o := S2.out; have s3o := S3.out; have s4o := S4.out; have s5o := S5.out; have z5o := Z5.out; have s7o := S7.out; have s8o := S8.out; have z7o := Z7.out; have s10o := S10.out; have s11o := S11.out; have z9o := Z9.out; have s13o := S13.out; have s14o := S14.out; have s15o := S15.out; have s16o := S16.out; have s17o := S17.out; omega) (by have s0o := S0.out; have z1o := Z1.out; have s2o := S2.out; have s3o := S3.out; have s4o := S4.out; have s5o := S5.out; have z5o := Z5.out; have s7o := S7.out; have s8o := S8.out; have z7o := Z7.out; have s10o := S10.out; have s11o := S11.out; have z9o := Z9.out; have s13o := S13.out; have s14o := S14.out; have s15o := S15.out; have s16o := S16.out; have s17o := S17.out; omega)))
  replace K7 := Lib.hid (K7.out.kept (hb.kept (by have s0o := S0.out; have z1o := Z1.out; have s2o := S2.out; have s3o := S3.out; have s4o := S4.out; have s5o := S5.out; have z5o := Z5.out; have s7o := S7.out; have s8o := S8.out; have z7o := Z7.out; have s10o := S10.out; have s11o := S11.out; have z9o := Z9.out; have s13o := S13.out; have s14o := S14.out; have s15o := S15.out; have s16o := S16.out; have s17o := S17.out; omega) (by have s0o := S0.out; have z1o := Z1.out; have s2o := S2.out; have s3o := S3.out; have s4o := S4.out; have s5o := S5.out; have z5o := Z5.out; have s7o := S7.out; have s8o := S8.out; have z7o := Z7.out; have s10o := S10.out; have s11o := S11.out; have z9o := Z9.out; have s13o := S13.out; have s14o := S14.out; have s15o := S15.out; have s16o := S16.out; have s17o := S17.out; omega)))
  replace K9 := Lib.hid (K9.out.kept (hb.kept (by have s0o := S0.out; have z1o := Z1.out; have s2o := S2.out; have s3o := S3.out; have s4o := S4.out; have s5o := S5.out; have z5o := Z5.out; have s7o := S7.out; have s8o := S8.out; have z7o := Z7.out; have s10o := S10.out; have s11o := S11.out; have z9o := Z9.out; have s13o := S13.out; have s14o := S14.out; have s15o := S15.out; have s16o := S16.out; have s17o := S17.out; omega) (by have s0o := S0.out; have z1o := Z1.out; have s2o := S2.out; have s3o := S3.out; have s4o := S4.out; have s5o := S5.out; have z5o := Z5.out; have s7o := S7.out; have s8o := S8.out; have z7o := Z7.out; have s10o := S10.out; have s11o := S11.out; have z9o := Z9.out; have s13o := S13.out; have s14o := S14.out; have s15o := S15.out; have s16o := S16.out; have s17o := S17.out; omega)))
  replace OX11 := Lib.hid (OX11.out.kept (hb.kept (by have s0o := S0.out; have z1o := Z1.out; have s2o := S2.out; have s3o := S3.out; have s4o := S4.out; have s5o := S5.out; have z5o := Z5.out; have s7o := S7.out; have s8o := S8.out; have z7o := Z7.out; have s10o := S10.out; have s11o := S11.out; have z9o := Z9.out; have s13o := S13.out; have s14o := S14.out; have s15o := S15.out; have s16o := S16.out; have s17o := S17.out; omega) (by have s0o := S0.out; have z1o := Z1.out; have s2o := S2.out; have s3o := S3.out; have s4o := S4.out; have s5o := S5.out; have z5o := Z5.out; have s7o := S7.out; have s8o := S8.out; have z7o := Z7.out; have s10o := S10.out; have s11o := S11.out; have z9o := Z9.out; have s13o := S13.out; have s14o := S14.out; have s15o := S15.out; have s16o := S16.out; have s17o := S17.out; omega)))
  replace M13 := Lib.hid (M13.out.kept (hb.kept (by have s0o := S0.out; have z1o := Z1.out; have s2o := S2.out; have s3o := S3.out; have s4o := S4.out; have s5o := S5.out; have z5o := Z5.out; have s7o := S7.out; have s8o := S8.out; have z7o := Z7.out; have s10o := S10.out; have s11o := S11.out; have z9o := Z9.out; have s13o := S13.out; have s14o := S14.out; have s15o := S15.out; have s16o := S16.out; have s17o := S17.out; omega) (by have s0o := S0.out; have z1o := Z1.out; have s2o := S2.out; have s3o := S3.out; have s4o := S4.out; have s5o := S5.out; have z5o := Z5.out; have s7o := S7.out; have s8o := S8.out; have z7o := Z7.out; have s10o := S10.out; have s11o := S11.out; have z9o := Z9.out; have s13o := S13.out; have s14o := S14.out; have s15o := S15.out; have s16o := S16.out; have s17o := S17.out; omega)))
  replace C := Lib.hid (C.out.trans (Only.below hb (by have s0o := S0.out; have z1o := Z1.out; have s2o := S2.out; have s3o := S3.out; have s4o := S4.out; have s5o := S5.out; have z5o := Z5.out; have s7o := S7.out; have s8o := S8.out; have z7o := Z7.out; have s10o := S10.out; have s11o := S11.out; have z9o := Z9.out; have s13o := S13.out; have s14o := S14.out; have s15o := S15.out; have s16o := S16.out; have s17o := S17.out; omega) C.out.size))
  have S18 : Hid (w14.heap.size ≤ w15.heap.size) := Lib.hid hb.size
  have M15 := Lib.hid hm; clear hm hb
  have q0K1 := K1.out.c0; have q1K1 := K1.out.c1; have q2K1 := K1.out.c2; have qlK1 := K1.out.lt
  have q0K5 := K5.out.c0; have q1K5 := K5.out.c1; have q2K5 := K5.out.c2; have qlK5 := K5.out.lt
  have q0K7 := K7.out.c0; have q1K7 := K7.out.c1; have q2K7 := K7.out.c2; have qlK7 := K7.out.lt
  have q0K9 := K9.out.c0; have q1K9 := K9.out.c1; have q2K9 := K9.out.c2; have qlK9 := K9.out.lt
  go_wp2_with fail
  clear q0K1 q1K1 q2K1 qlK1 q0K5 q1K5 q2K5 qlK5 q0K7 q1K7 q2K7 qlK7 q0K9 q1K9 q2K9 qlK9
  refine (heldC _ _ _ _ _ L0p.length L0s.length L0w.length 1 w15 M15.out (by omega) (by omega) (by omega) (by omega)).mono ?_
  rintro e w16 ⟨rfl, hb⟩
  replace K1 := Lib.hid (K1.out.stay hb)
  replace OX3 := Lib.hid (OX3.out.stay hb)
  replace OR4_0 := Lib.hid (OR4_0.out.stay hb)
  replace K5 := Lib.hid (K5.out.stay hb)
  replace K7 := Lib.hid (K7.out.stay hb)
  replace K9 := Lib.hid (K9.out.stay hb)
  replace OX11 := Lib.hid (OX11.out.stay hb)
  replace M13 := Lib.hid (M13.out.stay hb)
  replace M15 := Lib.hid (M15.out.stay hb)
  replace C := Lib.hid (C.out.trans (hb.mono C.out.size))
  have S19 : Hid (w15.heap.size ≤ w16.heap.size) := Lib.hid hb.size
  clear hb
  have q0K1 := K1.out.c0; have q1K1 := K1.out.c1; have q2K1 := K1.out.c2; have qlK1 := K1.out.lt
  have q0K5 := K5.out.c0; have q1K5 := K5.out.c1; have q2K5 := K5.out.c2; have qlK5 := K5.out.lt
  have q0K7 := K7.out.c0; have q1K7 := K7.out.c1; have q2K7 := K7.out.c2; have qlK7 := K7.out.lt
  have q0K9 := K9.out.c0; have q1K9 := K9.out.c1; have q2K9 := K9.out.c2; have qlK9 := K9.out.lt
  go_wp2_with fail
  clear q0K1 q1K1 q2K1 qlK1 q0K5 q1K5 q2K5 qlK5 q0K7 q1K7 q2K7 qlK7 q0K9 q1K9 q2K9 qlK9
  refine (toC _ _ _ z0p z0s z0w w16 ((R0.out.below C.out).more C.out.size) hq0p hq0s hq0w).mono ?_
  rintro e w17 ⟨x17p, x17s, x17w, rfl, ho, hb⟩
  obtain ⟨xa17p, xc17p, xa17s, xc17s, xa17w, xc17w, rfl, rfl, rfl⟩ := ho.form
  replace K1 := Lib.hid (K1.out.stay hb)
  replace OX3 := Lib.hid (OX3.out.stay hb)
  replace OR4_0 := Lib.hid (OR4_0.out.stay hb)
  replace K5 := Lib.hid (K5.out.stay hb)
  replace K7 := Lib.hid (K7.out.stay hb)
  replace K9 := Lib.hid (K9.out.stay hb)
  replace OX11 := Lib.hid (OX11.out.stay hb)
  replace M13 := Lib.hid (M13.out.stay hb)
  replace M15 := Lib.hid (M15.out.stay hb)
  replace C := Lib.hid (C.out.trans (hb.mono C.out.size))
  have S20 : Hid (w16.heap.size ≤ w17.heap.size) := Lib.hid hb.size
  have OX17 := Lib.hid ho; clear ho
  clear hb
  have q0K1 := K1.out.c0; have q1K1 := K1.out.c1; have q2K1 := K1.out.c2; have qlK1 := K1.out.lt
  have q0K5 := K5.out.c0; have q1K5 := K5.out.c1; have q2K5 := K5.out.c2; have qlK5 := K5.out.lt
  have q0K7 := K7.out.c0; have q1K7 := K7.out.c1; have q2K7 := K7.out.c2; have qlK7 := K7.out.lt
  have q0K9 := K9.out.c0; have q1K9 := K9.out.c1; have q2K9 := K9.out.c2; have qlK9 := K9.out.lt
  go_wp2_with fail
  clear q0K1 q1K1 q2K1 qlK1 q0K5 q1K5 q2K5 qlK5 q0K7 q1K7 q2K7 qlK7 q0K9 q1K9 q2K9 qlK9
  refine (hid_out (HI w17 (.slice xa17p z0p.length xc17p) (.slice xa17s z0s.length xc17s) (.slice xa17w z0w.length xc17w) (OX17.out.reads))).mono ?_
  rintro e w18 ⟨r18_0p, r18_0s, r18_0w, rfl, ho0, hb⟩
  obtain ⟨ra18_0p, rc18_0p, ra18_0s, rc18_0s, ra18_0w, rc18_0w, rfl, rfl, rfl⟩ := ho0.form
  replace K1 := Lib.hid (K1.out.stay hb)
  replace OX3 := Lib.hid (OX3.out.stay hb)
  replace OR4_0 := Lib.hid (OR4_0.out.stay hb)
  replace K5 := Lib.hid (K5.out.stay hb)
  replace K7 := Lib.hid (K7.out.stay hb)
  replace K9 := Lib.hid (K9.out.stay hb)
  replace OX11 := Lib.hid (OX11.out.stay hb)
  replace M13 := Lib.hid (M13.out.stay hb)
  replace M15 := Lib.hid (M15.out.stay hb)
  replace OX17 := Lib.hid (OX17.out.stay hb)
  replace C := Lib.hid (C.out.trans (hb.mono C.out.size))
  have S21 : Hid (w17.heap.size ≤ w18.heap.size) := Lib.hid hb.size
  have OR18_0 := Lib.hid ho0; clear ho0
  clear hb
  have q0K1 := K1.out.c0; have q1K1 := K1.out.c1; have q2K1 := K1.out.c2; have qlK1 := K1.out.lt
  have q0K5 := K5.out.c0; have q1K5 := K5.out.c1; have q2K5 := K5.out.c2; have qlK5 := K5.out.lt
  have q0K7 := K7.out.c0; have q1K7 := K7.out.c1; have q2K7 := K7.out.c2; have qlK7 := K7.out.lt
  have q0K9 := K9.out.c0; have q1K9 := K9.out.c1; have q2K9 := K9.out.c2; have qlK9 := K9.out.lt
  obtain ⟨w19, HE19⟩ : ∃ W, W = w18.alloc (.cells #[(.slice ra18_0p L0p.length rc18_0p), (.slice ra18_0s L0s.length rc18_0s), (.slice ra18_0w L0w.length rc18_0w)] 28) := ⟨_, rfl⟩
  have hb : Below w18.heap.size w18 w19 := by rw [HE19]; exact below_box2 _ _
  have hq : CBox w19 w18.heap.size ((.slice ra18_0p L0p.length rc18_0p)) ((.slice ra18_0s L0s.length rc18_0s)) ((.slice ra18_0w L0w.length rc18_0w)) := by rw [HE19]; exact CBox.new _ _ _ _ _
  have hz : w18.heap.size + 1 ≤ w19.heap.size := by rw [HE19]; simp
  replace K1 := Lib.hid (K1.out.stay hb)
  replace OX3 := Lib.hid (OX3.out.stay hb)
  replace OR4_0 := Lib.hid (OR4_0.out.stay hb)
  replace K5 := Lib.hid (K5.out.stay hb)
  replace K7 := Lib.hid (K7.out.stay hb)
  replace K9 := Lib.hid (K9.out.stay hb)
  replace OX11 := Lib.hid (OX11.out.stay hb)
  replace M13 := Lib.hid (M13.out.stay hb)
  replace M15 := Lib.hid (M15.out.stay hb)
  replace OX17 := Lib.hid (OX17.out.stay hb)
  replace OR18_0 := Lib.hid (OR18_0.out.stay hb)
  replace C := Lib.hid (C.out.trans (hb.mono C.out.size))
  have S22 : Hid (w18.heap.size ≤ w19.heap.size) := Lib.hid hb.size
  have Z19 : Hid (w18.heap.size + 1 ≤ w19.heap.size) := Lib.hid hz
  have K19 := Lib.hid hq; have HEQ19 := Lib.hid HE19; clear hq HE19 hb hz
  go_wp2_with fail
  rw [← HEQ19.out]
  clear q0K1 q1K1 q2K1 qlK1 q0K5 q1K5 q2K5 qlK5 q0K7 q1K7 q2K7 qlK7 q0K9 q1K9 q2K9 qlK9
  refine (eqC _ _ _ _ _ _ L0p L0s L0w w19 (OR18_0.out.reads) (OR4_0.out.reads) (by omega) (by omega) (by omega)).mono ?_
  rintro e w20 ⟨rfl, hb⟩
  replace K1 := Lib.hid (K1.out.stay hb)
  replace OX3 := Lib.hid (OX3.out.stay hb)
  replace OR4_0 := Lib.hid (OR4_0.out.stay hb)
  replace K5 := Lib.hid (K5.out.stay hb)
  replace K7 := Lib.hid (K7.out.stay hb)
  replace K9 := Lib.hid (K9.out.stay hb)
  replace OX11 := Lib.hid (OX11.out.stay hb)
  replace M13 := Lib.hid (M13.out.stay hb)
  replace M15 := Lib.hid (M15.out.stay hb)
  replace OX17 := Lib.hid (OX17.out.stay hb)
  replace OR18_0 := Lib.hid (OR18_0.out.stay hb)
  replace K19 := Lib.hid (K19.out.stay hb)
  replace C := Lib.hid (C.out.trans (hb.mono C.out.size))
  have S24 : Hid (w19.heap.size ≤ w20.heap.size) := Lib.hid hb.size
  clear hb
  have q0K1 := K1.out.c0; have q1K1 := K1.out.c1; have q2K1 := K1.out.c2; have qlK1 := K1.out.lt
  have q0K5 := K5.out.c0; have q1K5 := K5.out.c1; have q2K5 := K5.out.c2; have qlK5 := K5.out.lt
  have q0K7 := K7.out.c0; have q1K7 := K7.out.c1; have q2K7 := K7.out.c2; have qlK7 := K7.out.lt
  have q0K9 := K9.out.c0; have q1K9 := K9.out.c1; have q2K9 := K9.out.c2; have qlK9 := K9.out.lt
  have q0K19 := K19.out.c0; have q1K19 := K19.out.c1; have q2K19 := K19.out.c2; have qlK19 := K19.out.lt
  go_wp2_with fail
  clear q0K1 q1K1 q2K1 qlK1 q0K5 q1K5 q2K5 qlK5 q0K7 q1K7 q2K7 qlK7 q0K9 q1K9 q2K9 qlK9 q0K19 q1K19 q2K19 qlK19
  refine (heldC _ _ _ _ _ L0p.length L0s.length L0w.length 1 w20 M15.out (by omega) (by omega) (by omega) (by omega)).mono ?_
  rintro e w21 ⟨rfl, hb⟩
  replace K1 := Lib.hid (K1.out.stay hb)
  replace OX3 := Lib.hid (OX3.out.stay hb)
  replace OR4_0 := Lib.hid (OR4_0.out.stay hb)
  replace K5 := Lib.hid (K5.out.stay hb)
  replace K7 := Lib.hid (K7.out.stay hb)
  replace K9 := Lib.hid (K9.out.stay hb)
  replace OX11 := Lib.hid (OX11.out.stay hb)
  replace M13 := Lib.hid (M13.out.stay hb)
  replace M15 := Lib.hid (M15.out.stay hb)
  replace OX17 := Lib.hid (OX17.out.stay hb)
  replace OR18_0 := Lib.hid (OR18_0.out.stay hb)
  replace K19 := Lib.hid (K19.out.stay hb)
  replace C := Lib.hid (C.out.trans (hb.mono C.out.size))
  have S25 : Hid (w20.heap.size ≤ w21.heap.size) := Lib.hid hb.size
  clear hb
  have q0K1 := K1.out.c0; have q1K1 := K1.out.c1; have q2K1 := K1.out.c2; have qlK1 := K1.out.lt
  have q0K5 := K5.out.c0; have q1K5 := K5.out.c1; have q2K5 := K5.out.c2; have qlK5 := K5.out.lt
  have q0K7 := K7.out.c0; have q1K7 := K7.out.c1; have q2K7 := K7.out.c2; have qlK7 := K7.out.lt
  have q0K9 := K9.out.c0; have q1K9 := K9.out.c1; have q2K9 := K9.out.c2; have qlK9 := K9.out.lt
  have q0K19 := K19.out.c0; have q1K19 := K19.out.c1; have q2K19 := K19.out.c2; have qlK19 := K19.out.lt
  go_wp2_with fail
  clear q0K1 q1K1 q2K1 qlK1 q0K5 q1K5 q2K5 qlK5 q0K7 q1K7 q2K7 qlK7 q0K9 q1K9 q2K9 qlK9 q0K19 q1K19 q2K19 qlK19
  go_ret
  exact ⟨rfl, C.out⟩
end Go.Proofs.Ytjobfjgphcaoeaa
