/- For all arguments, impl.AddClusters answers as spec.AddClusters does, leaves its arguments alone and answers in memory of its own: laws.FnExactAddClusters returns true. No condition. -/
import Derived.Test.YtjobfjgphcaoeaaClAd
import Derived.Deep.DeepCutAuto
namespace Go.Proofs.Ytjobfjgphcaoeaa
open Go.ChangeShapes Go.WideShapes Go.ChangeAt Go.RowKit
set_option linter.unusedVariables false
set_option linter.unusedSimpArgs false

set_option maxRecDepth 100000 in
set_option maxHeartbeats 2000000 in
theorem FnExactAddClusters_walk (w : World) (A0p : Option Addr) (n0p c0p : Nat) (z0p : List Int) (hr0p : RI w w.heap.size A0p n0p z0p) (hn0p : n0p ≤ 9223372036854775807) (hw0p : ∀ z ∈ z0p, (Lit.int .i64 z).wf = true) (A0s : Option Addr) (n0s c0s : Nat) (z0s : List Int) (hr0s : RI w w.heap.size A0s n0s z0s) (hn0s : n0s ≤ 9223372036854775807) (hw0s : ∀ z ∈ z0s, (Lit.int .i64 z).wf = true) (A0w : Option Addr) (n0w c0w : Nat) (z0w : List Int) (hr0w : RI w w.heap.size A0w n0w z0w) (hn0w : n0w ≤ 9223372036854775807) (hw0w : ∀ z ∈ z0w, (Lit.int .i64 z).wf = true) (A1p : Option Addr) (n1p c1p : Nat) (z1p : List Int) (hr1p : RI w w.heap.size A1p n1p z1p) (hn1p : n1p ≤ 9223372036854775807) (hw1p : ∀ z ∈ z1p, (Lit.int .i64 z).wf = true) (A1s : Option Addr) (n1s c1s : Nat) (z1s : List Int) (hr1s : RI w w.heap.size A1s n1s z1s) (hn1s : n1s ≤ 9223372036854775807) (hw1s : ∀ z ∈ z1s, (Lit.int .i64 z).wf = true) (A1w : Option Addr) (n1w c1w : Nat) (z1w : List Int) (hr1w : RI w w.heap.size A1w n1w z1w) (hn1w : n1w ≤ 9223372036854775807) (hw1w : ∀ z ∈ z1w, (Lit.int .i64 z).wf = true) :
    Calls Try.prog 5 #[.agg #[.slice A0p n0p c0p, .slice A0s n0s c0s, .slice A0w n0w c0w], .agg #[.slice A1p n1p c1p, .slice A1s n1s c1s, .slice A1w n1w c1w]] w fun e w' => e = .returned (.bool true) ∧ Below w.heap.size w w' := by
  obtain rfl : z0p.length = n0p := hr0p.1
  obtain rfl : z0s.length = n0s := hr0s.1
  obtain rfl : z0w.length = n0w := hr0w.1
  obtain rfl : z1p.length = n1p := hr1p.1
  obtain rfl : z1s.length = n1s := hr1s.1
  obtain rfl : z1w.length = n1w := hr1w.1
  by_cases hb0 : 1048576 < (z0p.length : Int) + (z0s.length : Int) + (z0w.length : Int)
  · clear hr0p hw0p hr0s hw0s hr0w hw0w hr1p hw1p hr1s hw1s hr1w hw1w
    go_enter Try.func5, Try.ntmps5
    go_wp2_with fail
    refine (szC_no _ _ _ _ _ _ _ _ _ _ _ hb0 (by omega) (by omega) hn0p hn0s hn0w).mono ?_
    rintro e w' ⟨rfl, hb⟩
    go_wp2_with fail
    go_ret
    exact ⟨rfl, ((below_box2 _ _).alloc (by simp) _).trans (hb.mono (by simp <;> omega))⟩
  by_cases hb1 : 1048576 - (z0p.length : Int) - (z0s.length : Int) - (z0w.length : Int) < (z1p.length : Int) + (z1s.length : Int) + (z1w.length : Int)
  · clear hr0p hw0p hr0s hw0s hr0w hw0w hr1p hw1p hr1s hw1s hr1w hw1w
    obtain ⟨w1, HE1⟩ : ∃ W, W = (w.alloc (.cells #[.slice A0p z0p.length c0p, .slice A0s z0s.length c0s, .slice A0w z0w.length c0w] 24)).alloc (.cells #[.slice A1p z1p.length c1p, .slice A1s z1s.length c1s, .slice A1w z1w.length c1w] 24) := ⟨_, rfl⟩
    have hbb : Below w.heap.size w w1 := by rw [HE1]; exact (below_box2 _ _).alloc (by simp) _
    have hxx : CBox w1 w.heap.size (.slice A0p z0p.length c0p) (.slice A0s z0s.length c0s) (.slice A0w z0w.length c0w) := by rw [HE1]; exact (CBox.new w _ _ _ _).alloc _
    have hyy : CBox w1 (w.heap.size + 1) (.slice A1p z1p.length c1p) (.slice A1s z1s.length c1s) (.slice A1w z1w.length c1w) := by
      have := CBox.new (w.alloc (.cells #[.slice A0p z0p.length c0p, .slice A0s z0s.length c0s, .slice A0w z0w.length c0w] 24)) (.slice A1p z1p.length c1p) (.slice A1s z1s.length c1s) (.slice A1w z1w.length c1w) 24
      rw [World.size_alloc] at this
      rw [HE1]; exact this
    have q0 := hxx.c0; have q1 := hxx.c1; have q2 := hxx.c2; have q3 := hxx.lt; have q4 := hyy.c0; have q5 := hyy.c1; have q6 := hyy.c2; have q7 := hyy.lt
    go_enter Try.func5, Try.ntmps5
    go_wp2_with fail
    rw [← HE1]
    refine (szC_yes _ _ _ _ _ _ _ _ _ (1048576) w1 (by omega) (by omega)).mono ?_
    rintro e u0 ⟨rfl, hu0⟩
    have hX := hxx.below hu0; have hY := hyy.below hu0
    clear q0 q1 q2 q3 q4 q5 q6 q7
    have q0 := hX.c0; have q1 := hX.c1; have q2 := hX.c2; have q3 := hX.lt; have q4 := hY.c0; have q5 := hY.c1; have q6 := hY.c2; have q7 := hY.lt
    have hy0 : ¬ 1048576 - (z0p.length : Int) - (z0s.length : Int) - (z0w.length : Int) < 0 := by omega
    clear hX hY
    go_wp2_with fail
    refine (szC_no _ _ _ _ _ _ _ _ _ (1048576 - (z0p.length : Int) - (z0s.length : Int) - (z0w.length : Int)) u0 hb1 (by omega) (by omega) hn1p hn1s hn1w).mono ?_
    rintro e w' ⟨rfl, hb2⟩
    go_wp2_with fail
    go_ret
    exact ⟨rfl, (hbb.trans (hu0.mono hbb.size)).trans (hb2.mono (Nat.le_trans hbb.size hu0.size))⟩
  have hq0p : z0p.length ≤ 1048576 := by omega
  have hq0s : z0s.length ≤ 1048576 := by omega
  have hq0w : z0w.length ≤ 1048576 := by omega
  have hq1p : z1p.length ≤ 1048576 := by omega
  have hq1s : z1s.length ≤ 1048576 := by omega
  have hq1w : z1w.length ≤ 1048576 := by omega
  have R0 : Hid (ReadCW w w.heap.size (.slice A0p z0p.length c0p) (.slice A0s z0s.length c0s) (.slice A0w z0w.length c0w) z0p z0s z0w) := Lib.hid ⟨ReadW.mk' hr0p, ReadW.mk' hr0s, ReadW.mk' hr0w⟩
  clear hr0p hn0p hr0s hn0s hr0w hn0w
  have R1 : Hid (ReadCW w w.heap.size (.slice A1p z1p.length c1p) (.slice A1s z1s.length c1s) (.slice A1w z1w.length c1w) z1p z1s z1w) := Lib.hid ⟨ReadW.mk' hr1p, ReadW.mk' hr1s, ReadW.mk' hr1w⟩
  clear hr1p hn1p hr1s hn1s hr1w hn1w
  have HW0p := Lib.hid hw0p
  have HW0s := Lib.hid hw0s
  have HW0w := Lib.hid hw0w
  have HW1p := Lib.hid hw1p
  have HW1s := Lib.hid hw1s
  have HW1w := Lib.hid hw1w
  clear hw0p hw0s hw0w hw1p hw1s hw1w
  have HS := fun (W : World) (v0p v0s v0w : Value) (v1p v1s v1w : Value) (h0 : ReadC W W.heap.size v0p v0s v0w z0p z0s z0w) (h1 : ReadC W W.heap.size v1p v1s v1w z1p z1s z1w) => hid_in (specAddClusters_any v0p v0s v0w z0p z0s z0w v1p v1s v1w z1p z1s z1w W h0 hq0p hq0s hq0w HW0p.out HW0s.out HW0w.out h1 hq1p hq1s hq1w HW1p.out HW1s.out HW1w.out)
  have HI := fun (W : World) (v0p v0s v0w : Value) (v1p v1s v1w : Value) (h0 : ReadC W W.heap.size v0p v0s v0w z0p z0s z0w) (h1 : ReadC W W.heap.size v1p v1s v1w z1p z1s z1w) => hid_in (implAddClusters_any v0p v0s v0w z0p z0s z0w v1p v1s v1w z1p z1s z1w W h0 hq0p hq0s hq0w HW0p.out HW0s.out HW0w.out h1 hq1p hq1s hq1w HW1p.out HW1s.out HW1w.out)
  have hl0p := (ac_len z0p z0s z0w z1p z1s z1w).1
  have hl0s := (ac_len z0p z0s z0w z1p z1s z1w).2.1
  have hl0w := (ac_len z0p z0s z0w z1p z1s z1w).2.2
  generalize (acP z0p z0s z0w z1p z1s z1w) = L0p at *
  generalize (acS z0p z0s z0w z1p z1s z1w) = L0s at *
  generalize (acW z0p z0s z0w z1p z1s z1w) = L0w at *
  generalize (acC z0p z0s z0w z1p z1s z1w) = K1_ at *
  have C : Hid (Below w.heap.size w w) := Lib.hid (Below.refl _ _)
  obtain ⟨w1, HE1⟩ : ∃ W, W = w.alloc (.cells #[.slice A0p z0p.length c0p, .slice A0s z0s.length c0s, .slice A0w z0w.length c0w] 24) := ⟨_, rfl⟩
  have hb : Below w.heap.size w w1 := by rw [HE1]; exact below_box2 _ _
  have hq : CBox w1 w.heap.size (.slice A0p z0p.length c0p) (.slice A0s z0s.length c0s) (.slice A0w z0w.length c0w) := by rw [HE1]; exact CBox.new _ _ _ _ _
  have hz : w.heap.size + 1 ≤ w1.heap.size := by rw [HE1]; simp
  replace C := Lib.hid (C.out.trans (hb.mono C.out.size))
  have S0 : Hid (w.heap.size ≤ w1.heap.size) := Lib.hid hb.size
  have Z1 : Hid (w.heap.size + 1 ≤ w1.heap.size) := Lib.hid hz
  have K1 := Lib.hid hq; have HEQ1 := Lib.hid HE1; clear hq HE1 hb hz
  obtain ⟨w2, HE2⟩ : ∃ W, W = w1.alloc (.cells #[.slice A1p z1p.length c1p, .slice A1s z1s.length c1s, .slice A1w z1w.length c1w] 24) := ⟨_, rfl⟩
  have hb : Below w1.heap.size w1 w2 := by rw [HE2]; exact below_box2 _ _
  have hq : CBox w2 w1.heap.size (.slice A1p z1p.length c1p) (.slice A1s z1s.length c1s) (.slice A1w z1w.length c1w) := by rw [HE2]; exact CBox.new _ _ _ _ _
  have hz : w1.heap.size + 1 ≤ w2.heap.size := by rw [HE2]; simp
  rw [show w1.heap.size = w.heap.size + 1 from by rw [HEQ1.out]; simp] at hq
  replace K1 := Lib.hid (K1.out.stay hb)
  replace C := Lib.hid (C.out.trans (hb.mono C.out.size))
  have S2 : Hid (w1.heap.size ≤ w2.heap.size) := Lib.hid hb.size
  have Z2 : Hid (w1.heap.size + 1 ≤ w2.heap.size) := Lib.hid hz
  have K2 := Lib.hid hq; have HEQ2 := Lib.hid HE2; clear hq HE2 hb hz
  go_enter Try.func5, Try.ntmps5
  go_wp2_with fail
  rw [← HEQ1.out]
  rw [← HEQ2.out]
  refine (szC_yes _ _ _ _ _ _ _ _ _ (1048576) w2 (by omega) (by omega)).mono ?_
  rintro e w3 ⟨rfl, hb⟩
  replace K1 := Lib.hid (K1.out.stay hb)
  replace K2 := Lib.hid (K2.out.stay hb)
  replace C := Lib.hid (C.out.trans (hb.mono C.out.size))
  have S4 : Hid (w2.heap.size ≤ w3.heap.size) := Lib.hid hb.size
  clear hb
  have hy0 : ¬ 1048576 - (z0p.length : Int) - (z0s.length : Int) - (z0w.length : Int) < 0 := by omega
  have hx0 : (0 : Int) ≤ 1048576 - (z0p.length : Int) - (z0s.length : Int) - (z0w.length : Int) := by omega
  have q0K1 := K1.out.c0; have q1K1 := K1.out.c1; have q2K1 := K1.out.c2; have qlK1 := K1.out.lt
  have q0K2 := K2.out.c0; have q1K2 := K2.out.c1; have q2K2 := K2.out.c2; have qlK2 := K2.out.lt
  go_wp2_with fail
  clear q0K1 q1K1 q2K1 qlK1 q0K2 q1K2 q2K2 qlK2
  refine (szC_yes _ _ _ _ _ _ _ _ _ (1048576 - (z0p.length : Int) - (z0s.length : Int) - (z0w.length : Int)) w3 (by omega) (by omega)).mono ?_
  rintro e w4 ⟨rfl, hb⟩
  replace K1 := Lib.hid (K1.out.stay hb)
  replace K2 := Lib.hid (K2.out.stay hb)
  replace C := Lib.hid (C.out.trans (hb.mono C.out.size))
  have S5 : Hid (w3.heap.size ≤ w4.heap.size) := Lib.hid hb.size
  clear hb
  have hy1 : ¬ 1048576 - (z0p.length : Int) - (z0s.length : Int) - (z0w.length : Int) - (z1p.length : Int) - (z1s.length : Int) - (z1w.length : Int) < 0 := by omega
  have hx1 : (0 : Int) ≤ 1048576 - (z0p.length : Int) - (z0s.length : Int) - (z0w.length : Int) - (z1p.length : Int) - (z1s.length : Int) - (z1w.length : Int) := by omega
  have q0K1 := K1.out.c0; have q1K1 := K1.out.c1; have q2K1 := K1.out.c2; have qlK1 := K1.out.lt
  have q0K2 := K2.out.c0; have q1K2 := K2.out.c1; have q2K2 := K2.out.c2; have qlK2 := K2.out.lt
  go_wp2_with fail
  clear q0K1 q1K1 q2K1 qlK1 q0K2 q1K2 q2K2 qlK2
  have RR := Lib.hid ((R0.out.below C.out).more C.out.size)
  go_cut [6, 7] (fun s6 s7 wx => ∃ (g lo : Nat) (aa0 aa1 aa2 : Option Addr) (cc0 cc1 cc2 : Nat), s6 = .pointer (some ⟨g, 0, none⟩) ∧ s7 = .int .i64 K1_ ∧ Hid (CBox wx g (.slice aa0 L0p.length cc0) (.slice aa1 L0s.length cc1) (.slice aa2 L0w.length cc2)) ∧ Hid (OwnC wx lo wx.heap.size (.slice aa0 L0p.length cc0) (.slice aa1 L0s.length cc1) (.slice aa2 L0w.length cc2) L0p L0s L0w) ∧ Hid (CBox wx w.heap.size (.slice A0p z0p.length c0p) (.slice A0s z0s.length c0s) (.slice A0w z0w.length c0w)) ∧ Hid (CBox wx (w.heap.size + 1) (.slice A1p z1p.length c1p) (.slice A1s z1s.length c1s) (.slice A1w z1w.length c1w)) ∧ Hid (Below w.heap.size w wx) ∧ Hid (w.heap.size ≤ lo))
  case first =>
    refine wp_region_held_drew (S := fun w' => w'.cell? ⟨w.heap.size, 0, none⟩ = some (.slice A0p z0p.length c0p) ∧ w'.cell? ⟨w.heap.size, 1, none⟩ = some (.slice A0s z0s.length c0s) ∧ w'.cell? ⟨w.heap.size, 2, none⟩ = some (.slice A0w z0w.length c0w) ∧ w'.cell? ⟨w.heap.size + 1, 0, none⟩ = some (.slice A1p z1p.length c1p) ∧ w'.cell? ⟨w.heap.size + 1, 1, none⟩ = some (.slice A1s z1s.length c1s) ∧ w'.cell? ⟨w.heap.size + 1, 2, none⟩ = some (.slice A1w z1w.length c1w)) (by kernel_rfl) ⟨K1.out.c0, K1.out.c1, K1.out.c2, K2.out.c0, K2.out.c1, K2.out.c2⟩ (fun hHeld => ?_)
    refine takeY 0 _ (v := ?_) rfl rfl (by kernel_rfl) (by kernel_rfl) (by kernel_rfl) (fun _ _ _ h => h) (by kernel_rfl) ?_ (by assumption) ?_
    rotate_left 1
    · intro w hSw; (try dsimp only at hSw); go_simp; (try with_reducible rfl)
    try simp only [Act.put, List.setIfInBounds_toArray, List.set_cons_zero, List.set_cons_succ]
    refine takeY 2 _ (v := ?_) rfl rfl (by kernel_rfl) (by kernel_rfl) (by kernel_rfl) (fun _ _ _ h => h) (by kernel_rfl) ?_ (by assumption) ?_
    rotate_left 1
    · intro w hSw; (try dsimp only at hSw); go_simp; (try with_reducible rfl)
    try simp only [Act.put, List.setIfInBounds_toArray, List.set_cons_zero, List.set_cons_succ]
    refine wpAnyH_ready (rs := [1, 8]) (by kernel_rfl) (by simp) ?_
    refine AllReadyH.cons rfl (fun K hK => ?_) (AllReadyH.cons rfl (fun K hK => ?_) AllReadyH.nil)
    · go_simp
      refine (toC_drew _ _ _ z0p z0s z0w w4 RR.out hq0p hq0s hq0w).mono ?_
      rintro e w5 ⟨x5p, x5s, x5w, rfl, ho, hb⟩
      obtain ⟨xa5p, xc5p, xa5s, xc5s, xa5w, xc5w, rfl, rfl, rfl⟩ := ho.form
      replace K1 := Lib.hid (K1.out.stay hb)
      replace K2 := Lib.hid (K2.out.stay hb)
      replace C := Lib.hid (C.out.trans (hb.mono C.out.size))
      have S6 : Hid (w4.heap.size ≤ w5.heap.size) := Lib.hid hb.size
      have OX5 := Lib.hid ho; clear ho
      clear hb
      refine hK.out _ _ ⟨K1.out.c0, K1.out.c1, K1.out.c2, K2.out.c0, K2.out.c1, K2.out.c2⟩ (fun hHeld => ?_)
      clear hK K
      try simp only [Act.put, List.setIfInBounds_toArray, List.set_cons_zero, List.set_cons_succ]
      refine wpAnyH_ready (rs := [3, 8]) (by kernel_rfl) (by simp) ?_
      refine AllReadyH.cons rfl (fun K hK => ?_) (AllReadyH.cons rfl (fun K hK => ?_) AllReadyH.nil)
      · go_simp
        refine (toC _ _ _ z1p z1s z1w w5 ((R1.out.below C.out).more C.out.size) hq1p hq1s hq1w).mono ?_
        rintro e w6 ⟨x6p, x6s, x6w, rfl, ho, hb⟩
        obtain ⟨xa6p, xc6p, xa6s, xc6s, xa6w, xc6w, rfl, rfl, rfl⟩ := ho.form
        replace K1 := Lib.hid (K1.out.stay hb)
        replace K2 := Lib.hid (K2.out.stay hb)
        replace OX5 := Lib.hid (OX5.out.stay hb)
        replace C := Lib.hid (C.out.trans (hb.mono C.out.size))
        have S7 : Hid (w5.heap.size ≤ w6.heap.size) := Lib.hid hb.size
        have OX6 := Lib.hid ho; clear ho
        clear hb
        refine hK.out _ _ ⟨K1.out.c0, K1.out.c1, K1.out.c2, K2.out.c0, K2.out.c1, K2.out.c2⟩ (fun hHeld => ?_)
        clear hK K
        try simp only [Act.put, List.setIfInBounds_toArray, List.set_cons_zero, List.set_cons_succ]
        refine wpAnyH_ready (rs := [4, 8]) (by kernel_rfl) (by simp) ?_
        refine AllReadyH.cons rfl (fun K hK => ?_) (AllReadyH.cons rfl (fun K hK => ?_) AllReadyH.nil)
        · go_simp
          refine (hid_out (HS w6 (.slice xa5p z0p.length xc5p) (.slice xa5s z0s.length xc5s) (.slice xa5w z0w.length xc5w) (.slice xa6p z1p.length xc6p) (.slice xa6s z1s.length xc6s) (.slice xa6w z1w.length xc6w) (OX5.out.reads) (OX6.out.reads))).mono ?_
          rintro e w7 ⟨r7_0p, r7_0s, r7_0w, rfl, ho0, hb⟩
          obtain ⟨ra7_0p, rc7_0p, ra7_0s, rc7_0s, ra7_0w, rc7_0w, rfl, rfl, rfl⟩ := ho0.form
          replace K1 := Lib.hid (K1.out.stay hb)
          replace K2 := Lib.hid (K2.out.stay hb)
          replace OX5 := Lib.hid (OX5.out.stay hb)
          replace OX6 := Lib.hid (OX6.out.stay hb)
          replace C := Lib.hid (C.out.trans (hb.mono C.out.size))
          have S8 : Hid (w6.heap.size ≤ w7.heap.size) := Lib.hid hb.size
          have OR7_0 := Lib.hid ho0; clear ho0
          clear hb
          refine hK.out _ _ ⟨K1.out.c0, K1.out.c1, K1.out.c2, K2.out.c0, K2.out.c1, K2.out.c2⟩ (fun hHeld => ?_)
          clear hK K
          try simp only [Act.put, List.setIfInBounds_toArray, List.set_cons_zero, List.set_cons_succ]
          refine takeY 5 _ (v := ?_) rfl rfl (by kernel_rfl) (by kernel_rfl) (by kernel_rfl) (fun _ _ _ h => h) (by kernel_rfl) ?_ (by assumption) ?_
          rotate_left 1
          · intro w hSw; (try dsimp only at hSw); go_simp; (try with_reducible rfl)
          try simp only [Act.put, List.setIfInBounds_toArray, List.set_cons_zero, List.set_cons_succ]
          refine takeY 6 _ (v := ?_) rfl rfl (by kernel_rfl) (by kernel_rfl) (by kernel_rfl) (fun _ _ _ h => h) (by kernel_rfl) ?_ (by assumption) ?_
          rotate_left 1
          · intro w hSw; (try dsimp only at hSw); go_simp; (try with_reducible rfl)
          try simp only [Act.put, List.setIfInBounds_toArray, List.set_cons_zero, List.set_cons_succ]
          refine takeY 7 _ (v := ?_) rfl rfl (by kernel_rfl) (by kernel_rfl) (by kernel_rfl) (fun _ _ _ h => h) (by kernel_rfl) ?_ (by assumption) ?_
          rotate_left 1
          · intro w hSw; (try dsimp only at hSw); go_simp; (try with_reducible rfl)
          try simp only [Act.put, List.setIfInBounds_toArray, List.set_cons_zero, List.set_cons_succ]
          refine wpAnyH_ready (rs := [8]) (by kernel_rfl) (by simp) ?_
          refine AllReadyH.cons rfl (fun K hK => ?_) AllReadyH.nil
          go_simp
          obtain ⟨w8, HE8⟩ : ∃ W, W = ((w7).alloc (.cells #[.slice none 0 0, .slice none 0 0, .slice none 0 0] 28)) := ⟨_, rfl⟩
          rw [← HE8]
          have hb : Below w7.heap.size w7 w8 := by rw [HE8]; exact below_box2 _ _
          have hq : CBox w8 w7.heap.size (.slice none 0 0) (.slice none 0 0) (.slice none 0 0) := by rw [HE8]; exact CBox.new _ _ _ _ _
          have hz : w7.heap.size + 1 ≤ w8.heap.size := by rw [HE8]; simp
          replace K1 := Lib.hid (K1.out.stay hb)
          replace K2 := Lib.hid (K2.out.stay hb)
          replace OX5 := Lib.hid (OX5.out.stay hb)
          replace OX6 := Lib.hid (OX6.out.stay hb)
          replace OR7_0 := Lib.hid (OR7_0.out.stay hb)
          replace C := Lib.hid (C.out.trans (hb.mono C.out.size))
          have S9 : Hid (w7.heap.size ≤ w8.heap.size) := Lib.hid hb.size
          have Z8 : Hid (w7.heap.size + 1 ≤ w8.heap.size) := Lib.hid hz
          have KB := Lib.hid hq; clear hq hb hz HE8
          refine hK.out _ _ ⟨K1.out.c0, K1.out.c1, K1.out.c2, K2.out.c0, K2.out.c1, K2.out.c2⟩ (fun hHeld => ?_)
          clear hK K
          try simp only [Act.put, List.setIfInBounds_toArray, List.set_cons_zero, List.set_cons_succ]
          have y0 := KB.out.c0; have y1 := KB.out.c1; have y2 := KB.out.c2; have y3 := KB.out.f0; have y4 := KB.out.f1; have y5 := KB.out.f2; have y6 := KB.out.lt
          refine wpAnyH_ready (rs := [9]) (by kernel_rfl) (by simp) ?_
          refine AllReadyH.cons rfl (fun K hK => ?_) AllReadyH.nil
          go_simp
          obtain ⟨w9, HE9⟩ : ∃ W, W = ((w8.setCell ⟨w7.heap.size, 0, none⟩ (.slice ra7_0p L0p.length rc7_0p)).setCell ⟨w7.heap.size, 1, none⟩ (.slice ra7_0s L0s.length rc7_0s)).setCell ⟨w7.heap.size, 2, none⟩ (.slice ra7_0w L0w.length rc7_0w) := ⟨_, rfl⟩
          rw [← HE9]
          have KB2 : Hid (CBox w9 (w7.heap.size) (.slice ra7_0p L0p.length rc7_0p) (.slice ra7_0s L0s.length rc7_0s) (.slice ra7_0w L0w.length rc7_0w)) := Lib.hid (by rw [HE9]; exact CBox.set3 KB.out _ _ _)
          replace K1 := Lib.hid (K1.out.other3 (g := w7.heap.size) (by have s0o := S0.out; have z1o := Z1.out; have s2o := S2.out; have z2o := Z2.out; have s4o := S4.out; have s5o := S5.out; have s6o := S6.out; have s7o := S7.out; have s8o := S8.out; have s9o := S9.out; have z8o := Z8.out; omega) (.slice ra7_0p L0p.length rc7_0p) (.slice ra7_0s L0s.length rc7_0s) (.slice ra7_0w L0w.length rc7_0w)); rw [← HE9] at K1
          replace K2 := Lib.hid (K2.out.other3 (g := w7.heap.size) (by have s0o := S0.out; have z1o := Z1.out; have s2o := S2.out; have z2o := Z2.out; have s4o := S4.out; have s5o := S5.out; have s6o := S6.out; have s7o := S7.out; have s8o := S8.out; have s9o := S9.out; have z8o := Z8.out; omega) (.slice ra7_0p L0p.length rc7_0p) (.slice ra7_0s L0s.length rc7_0s) (.slice ra7_0w L0w.length rc7_0w)); rw [← HE9] at K2
          have OW := Lib.hid (OR7_0.out.kept (Kept.set3 (g := w7.heap.size) (by have s0o := S0.out; have z1o := Z1.out; have s2o := S2.out; have z2o := Z2.out; have s4o := S4.out; have s5o := S5.out; have s6o := S6.out; have s7o := S7.out; have s8o := S8.out; have s9o := S9.out; have z8o := Z8.out; omega) (.slice ra7_0p L0p.length rc7_0p) (.slice ra7_0s L0s.length rc7_0s) (.slice ra7_0w L0w.length rc7_0w))).wide; rw [← HE9] at OW
          replace C := Lib.hid (Below.set3 (g := w7.heap.size) C.out (by have s0o := S0.out; have z1o := Z1.out; have s2o := S2.out; have z2o := Z2.out; have s4o := S4.out; have s5o := S5.out; have s6o := S6.out; have s7o := S7.out; have s8o := S8.out; have s9o := S9.out; have z8o := Z8.out; omega) (.slice ra7_0p L0p.length rc7_0p) (.slice ra7_0s L0s.length rc7_0s) (.slice ra7_0w L0w.length rc7_0w)); rw [← HE9] at C
          clear y0 y1 y2 y3 y4 y5 y6
          refine hK.out _ _ ⟨K1.out.c0, K1.out.c1, K1.out.c2, K2.out.c0, K2.out.c1, K2.out.c2⟩ (fun hHeld => ?_)
          clear hK K
          try simp only [Act.put, List.setIfInBounds_toArray, List.set_cons_zero, List.set_cons_succ]
          refine takeY 10 _ (v := ?_) rfl rfl (by kernel_rfl) (by kernel_rfl) (by kernel_rfl) (fun _ _ _ h => h) (by kernel_rfl) ?_ (by assumption) ?_
          rotate_left 1
          · intro w hSw; (try dsimp only at hSw); go_simp; (try with_reducible rfl)
          try simp only [Act.put, List.setIfInBounds_toArray, List.set_cons_zero, List.set_cons_succ]
          refine wpAnyH_done (by kernel_rfl) ?_ _
          go_wp2_with fail
          go_meet
          exact ⟨w7.heap.size, w6.heap.size, _, _, _, _, _, _, rfl, rfl, KB2, OW, K1, K2, C, Lib.hid (by have s0o := S0.out; have z1o := Z1.out; have s2o := S2.out; have z2o := Z2.out; have s4o := S4.out; have s5o := S5.out; have s6o := S6.out; have s7o := S7.out; have s8o := S8.out; have s9o := S9.out; have z8o := Z8.out; omega)⟩
        · go_simp
          obtain ⟨w7, HE7⟩ : ∃ W, W = ((w6).alloc (.cells #[.slice none 0 0, .slice none 0 0, .slice none 0 0] 28)) := ⟨_, rfl⟩
          rw [← HE7]
          have hb : Below w6.heap.size w6 w7 := by rw [HE7]; exact below_box2 _ _
          have hq : CBox w7 w6.heap.size (.slice none 0 0) (.slice none 0 0) (.slice none 0 0) := by rw [HE7]; exact CBox.new _ _ _ _ _
          have hz : w6.heap.size + 1 ≤ w7.heap.size := by rw [HE7]; simp
          replace K1 := Lib.hid (K1.out.stay hb)
          replace K2 := Lib.hid (K2.out.stay hb)
          replace OX5 := Lib.hid (OX5.out.stay hb)
          replace OX6 := Lib.hid (OX6.out.stay hb)
          replace C := Lib.hid (C.out.trans (hb.mono C.out.size))
          have S8 : Hid (w6.heap.size ≤ w7.heap.size) := Lib.hid hb.size
          have Z7 : Hid (w6.heap.size + 1 ≤ w7.heap.size) := Lib.hid hz
          have KB := Lib.hid hq; clear hq hb hz HE7
          refine hK.out _ _ ⟨K1.out.c0, K1.out.c1, K1.out.c2, K2.out.c0, K2.out.c1, K2.out.c2⟩ (fun hHeld => ?_)
          clear hK K
          try simp only [Act.put, List.setIfInBounds_toArray, List.set_cons_zero, List.set_cons_succ]
          refine wpAnyH_ready (rs := [4]) (by kernel_rfl) (by simp) ?_
          refine AllReadyH.cons rfl (fun K hK => ?_) AllReadyH.nil
          go_simp
          refine (hid_out (HS w7 (.slice xa5p z0p.length xc5p) (.slice xa5s z0s.length xc5s) (.slice xa5w z0w.length xc5w) (.slice xa6p z1p.length xc6p) (.slice xa6s z1s.length xc6s) (.slice xa6w z1w.length xc6w) (OX5.out.reads) (OX6.out.reads))).mono ?_
          rintro e w8 ⟨r8_0p, r8_0s, r8_0w, rfl, ho0, hb⟩
          obtain ⟨ra8_0p, rc8_0p, ra8_0s, rc8_0s, ra8_0w, rc8_0w, rfl, rfl, rfl⟩ := ho0.form
          replace K1 := Lib.hid (K1.out.stay hb)
          replace K2 := Lib.hid (K2.out.stay hb)
          replace OX5 := Lib.hid (OX5.out.stay hb)
          replace OX6 := Lib.hid (OX6.out.stay hb)
          replace KB := Lib.hid (KB.out.stay hb)
          replace C := Lib.hid (C.out.trans (hb.mono C.out.size))
          have S10 : Hid (w7.heap.size ≤ w8.heap.size) := Lib.hid hb.size
          have OR8_0 := Lib.hid ho0; clear ho0
          clear hb
          refine hK.out _ _ ⟨K1.out.c0, K1.out.c1, K1.out.c2, K2.out.c0, K2.out.c1, K2.out.c2⟩ (fun hHeld => ?_)
          clear hK K
          try simp only [Act.put, List.setIfInBounds_toArray, List.set_cons_zero, List.set_cons_succ]
          refine takeY 5 _ (v := ?_) rfl rfl (by kernel_rfl) (by kernel_rfl) (by kernel_rfl) (fun _ _ _ h => h) (by kernel_rfl) ?_ (by assumption) ?_
          rotate_left 1
          · intro w hSw; (try dsimp only at hSw); go_simp; (try with_reducible rfl)
          try simp only [Act.put, List.setIfInBounds_toArray, List.set_cons_zero, List.set_cons_succ]
          refine takeY 6 _ (v := ?_) rfl rfl (by kernel_rfl) (by kernel_rfl) (by kernel_rfl) (fun _ _ _ h => h) (by kernel_rfl) ?_ (by assumption) ?_
          rotate_left 1
          · intro w hSw; (try dsimp only at hSw); go_simp; (try with_reducible rfl)
          try simp only [Act.put, List.setIfInBounds_toArray, List.set_cons_zero, List.set_cons_succ]
          refine takeY 7 _ (v := ?_) rfl rfl (by kernel_rfl) (by kernel_rfl) (by kernel_rfl) (fun _ _ _ h => h) (by kernel_rfl) ?_ (by assumption) ?_
          rotate_left 1
          · intro w hSw; (try dsimp only at hSw); go_simp; (try with_reducible rfl)
          try simp only [Act.put, List.setIfInBounds_toArray, List.set_cons_zero, List.set_cons_succ]
          have y0 := KB.out.c0; have y1 := KB.out.c1; have y2 := KB.out.c2; have y3 := KB.out.f0; have y4 := KB.out.f1; have y5 := KB.out.f2; have y6 := KB.out.lt
          refine wpAnyH_ready (rs := [9]) (by kernel_rfl) (by simp) ?_
          refine AllReadyH.cons rfl (fun K hK => ?_) AllReadyH.nil
          go_simp
          obtain ⟨w9, HE9⟩ : ∃ W, W = ((w8.setCell ⟨w6.heap.size, 0, none⟩ (.slice ra8_0p L0p.length rc8_0p)).setCell ⟨w6.heap.size, 1, none⟩ (.slice ra8_0s L0s.length rc8_0s)).setCell ⟨w6.heap.size, 2, none⟩ (.slice ra8_0w L0w.length rc8_0w) := ⟨_, rfl⟩
          rw [← HE9]
          have KB2 : Hid (CBox w9 (w6.heap.size) (.slice ra8_0p L0p.length rc8_0p) (.slice ra8_0s L0s.length rc8_0s) (.slice ra8_0w L0w.length rc8_0w)) := Lib.hid (by rw [HE9]; exact CBox.set3 KB.out _ _ _)
          replace K1 := Lib.hid (K1.out.other3 (g := w6.heap.size) (by have s0o := S0.out; have z1o := Z1.out; have s2o := S2.out; have z2o := Z2.out; have s4o := S4.out; have s5o := S5.out; have s6o := S6.out; have s7o := S7.out; have s8o := S8.out; have z7o := Z7.out; have s10o := S10.out; omega) (.slice ra8_0p L0p.length rc8_0p) (.slice ra8_0s L0s.length rc8_0s) (.slice ra8_0w L0w.length rc8_0w)); rw [← HE9] at K1
          replace K2 := Lib.hid (K2.out.other3 (g := w6.heap.size) (by have s0o := S0.out; have z1o := Z1.out; have s2o := S2.out; have z2o := Z2.out; have s4o := S4.out; have s5o := S5.out; have s6o := S6.out; have s7o := S7.out; have s8o := S8.out; have z7o := Z7.out; have s10o := S10.out; omega) (.slice ra8_0p L0p.length rc8_0p) (.slice ra8_0s L0s.length rc8_0s) (.slice ra8_0w L0w.length rc8_0w)); rw [← HE9] at K2
          have OW := Lib.hid (OR8_0.out.kept (Kept.set3 (g := w6.heap.size) (by have s0o := S0.out; have z1o := Z1.out; have s2o := S2.out; have z2o := Z2.out; have s4o := S4.out; have s5o := S5.out; have s6o := S6.out; have s7o := S7.out; have s8o := S8.out; have z7o := Z7.out; have s10o := S10.out; omega) (.slice ra8_0p L0p.length rc8_0p) (.slice ra8_0s L0s.length rc8_0s) (.slice ra8_0w L0w.length rc8_0w))).wide; rw [← HE9] at OW
          replace C := Lib.hid (Below.set3 (g := w6.heap.size) C.out (by have s0o := S0.out; have z1o := Z1.out; have s2o := S2.out; have z2o := Z2.out; have s4o := S4.out; have s5o := S5.out; have s6o := S6.out; have s7o := S7.out; have s8o := S8.out; have z7o := Z7.out; have s10o := S10.out; omega) (.slice ra8_0p L0p.length rc8_0p) (.slice ra8_0s L0s.length rc8_0s) (.slice ra8_0w L0w.length rc8_0w)); rw [← HE9] at C
          clear y0 y1 y2 y3 y4 y5 y6
          refine hK.out _ _ ⟨K1.out.c0, K1.out.c1, K1.out.c2, K2.out.c0, K2.out.c1, K2.out.c2⟩ (fun hHeld => ?_)
          clear hK K
          try simp only [Act.put, List.setIfInBounds_toArray, List.set_cons_zero, List.set_cons_succ]
          refine takeY 10 _ (v := ?_) rfl rfl (by kernel_rfl) (by kernel_rfl) (by kernel_rfl) (fun _ _ _ h => h) (by kernel_rfl) ?_ (by assumption) ?_
          rotate_left 1
          · intro w hSw; (try dsimp only at hSw); go_simp; (try with_reducible rfl)
          try simp only [Act.put, List.setIfInBounds_toArray, List.set_cons_zero, List.set_cons_succ]
          refine wpAnyH_done (by kernel_rfl) ?_ _
          go_wp2_with fail
          go_meet
          exact ⟨w6.heap.size, w7.heap.size, _, _, _, _, _, _, rfl, rfl, KB2, OW, K1, K2, C, Lib.hid (by have s0o := S0.out; have z1o := Z1.out; have s2o := S2.out; have z2o := Z2.out; have s4o := S4.out; have s5o := S5.out; have s6o := S6.out; have s7o := S7.out; have s8o := S8.out; have z7o := Z7.out; have s10o := S10.out; omega)⟩
      · go_simp
        obtain ⟨w6, HE6⟩ : ∃ W, W = ((w5).alloc (.cells #[.slice none 0 0, .slice none 0 0, .slice none 0 0] 28)) := ⟨_, rfl⟩
        rw [← HE6]
        have hb : Below w5.heap.size w5 w6 := by rw [HE6]; exact below_box2 _ _
        have hq : CBox w6 w5.heap.size (.slice none 0 0) (.slice none 0 0) (.slice none 0 0) := by rw [HE6]; exact CBox.new _ _ _ _ _
        have hz : w5.heap.size + 1 ≤ w6.heap.size := by rw [HE6]; simp
        replace K1 := Lib.hid (K1.out.stay hb)
        replace K2 := Lib.hid (K2.out.stay hb)
        replace OX5 := Lib.hid (OX5.out.stay hb)
        replace C := Lib.hid (C.out.trans (hb.mono C.out.size))
        have S7 : Hid (w5.heap.size ≤ w6.heap.size) := Lib.hid hb.size
        have Z6 : Hid (w5.heap.size + 1 ≤ w6.heap.size) := Lib.hid hz
        have KB := Lib.hid hq; clear hq hb hz HE6
        refine hK.out _ _ ⟨K1.out.c0, K1.out.c1, K1.out.c2, K2.out.c0, K2.out.c1, K2.out.c2⟩ (fun hHeld => ?_)
        clear hK K
        try simp only [Act.put, List.setIfInBounds_toArray, List.set_cons_zero, List.set_cons_succ]
        refine wpAnyH_ready (rs := [3]) (by kernel_rfl) (by simp) ?_
        refine AllReadyH.cons rfl (fun K hK => ?_) AllReadyH.nil
        go_simp
        refine (toC _ _ _ z1p z1s z1w w6 ((R1.out.below C.out).more C.out.size) hq1p hq1s hq1w).mono ?_
        rintro e w7 ⟨x7p, x7s, x7w, rfl, ho, hb⟩
        obtain ⟨xa7p, xc7p, xa7s, xc7s, xa7w, xc7w, rfl, rfl, rfl⟩ := ho.form
        replace K1 := Lib.hid (K1.out.stay hb)
        replace K2 := Lib.hid (K2.out.stay hb)
        replace OX5 := Lib.hid (OX5.out.stay hb)
        replace KB := Lib.hid (KB.out.stay hb)
        replace C := Lib.hid (C.out.trans (hb.mono C.out.size))
        have S9 : Hid (w6.heap.size ≤ w7.heap.size) := Lib.hid hb.size
        have OX7 := Lib.hid ho; clear ho
        clear hb
        refine hK.out _ _ ⟨K1.out.c0, K1.out.c1, K1.out.c2, K2.out.c0, K2.out.c1, K2.out.c2⟩ (fun hHeld => ?_)
        clear hK K
        try simp only [Act.put, List.setIfInBounds_toArray, List.set_cons_zero, List.set_cons_succ]
        refine wpAnyH_ready (rs := [4]) (by kernel_rfl) (by simp) ?_
        refine AllReadyH.cons rfl (fun K hK => ?_) AllReadyH.nil
        go_simp
        refine (hid_out (HS w7 (.slice xa5p z0p.length xc5p) (.slice xa5s z0s.length xc5s) (.slice xa5w z0w.length xc5w) (.slice xa7p z1p.length xc7p) (.slice xa7s z1s.length xc7s) (.slice xa7w z1w.length xc7w) (OX5.out.reads) (OX7.out.reads))).mono ?_
        rintro e w8 ⟨r8_0p, r8_0s, r8_0w, rfl, ho0, hb⟩
        obtain ⟨ra8_0p, rc8_0p, ra8_0s, rc8_0s, ra8_0w, rc8_0w, rfl, rfl, rfl⟩ := ho0.form
        replace K1 := Lib.hid (K1.out.stay hb)
        replace K2 := Lib.hid (K2.out.stay hb)
        replace OX5 := Lib.hid (OX5.out.stay hb)
        replace KB := Lib.hid (KB.out.stay hb)
        replace OX7 := Lib.hid (OX7.out.stay hb)
        replace C := Lib.hid (C.out.trans (hb.mono C.out.size))
        have S10 : Hid (w7.heap.size ≤ w8.heap.size) := Lib.hid hb.size
        have OR8_0 := Lib.hid ho0; clear ho0
        clear hb
        refine hK.out _ _ ⟨K1.out.c0, K1.out.c1, K1.out.c2, K2.out.c0, K2.out.c1, K2.out.c2⟩ (fun hHeld => ?_)
        clear hK K
        try simp only [Act.put, List.setIfInBounds_toArray, List.set_cons_zero, List.set_cons_succ]
        refine takeY 5 _ (v := ?_) rfl rfl (by kernel_rfl) (by kernel_rfl) (by kernel_rfl) (fun _ _ _ h => h) (by kernel_rfl) ?_ (by assumption) ?_
        rotate_left 1
        · intro w hSw; (try dsimp only at hSw); go_simp; (try with_reducible rfl)
        try simp only [Act.put, List.setIfInBounds_toArray, List.set_cons_zero, List.set_cons_succ]
        refine takeY 6 _ (v := ?_) rfl rfl (by kernel_rfl) (by kernel_rfl) (by kernel_rfl) (fun _ _ _ h => h) (by kernel_rfl) ?_ (by assumption) ?_
        rotate_left 1
        · intro w hSw; (try dsimp only at hSw); go_simp; (try with_reducible rfl)
        try simp only [Act.put, List.setIfInBounds_toArray, List.set_cons_zero, List.set_cons_succ]
        refine takeY 7 _ (v := ?_) rfl rfl (by kernel_rfl) (by kernel_rfl) (by kernel_rfl) (fun _ _ _ h => h) (by kernel_rfl) ?_ (by assumption) ?_
        rotate_left 1
        · intro w hSw; (try dsimp only at hSw); go_simp; (try with_reducible rfl)
        try simp only [Act.put, List.setIfInBounds_toArray, List.set_cons_zero, List.set_cons_succ]
        have y0 := KB.out.c0; have y1 := KB.out.c1; have y2 := KB.out.c2; have y3 := KB.out.f0; have y4 := KB.out.f1; have y5 := KB.out.f2; have y6 := KB.out.lt
        refine wpAnyH_ready (rs := [9]) (by kernel_rfl) (by simp) ?_
        refine AllReadyH.cons rfl (fun K hK => ?_) AllReadyH.nil
        go_simp
        obtain ⟨w9, HE9⟩ : ∃ W, W = ((w8.setCell ⟨w5.heap.size, 0, none⟩ (.slice ra8_0p L0p.length rc8_0p)).setCell ⟨w5.heap.size, 1, none⟩ (.slice ra8_0s L0s.length rc8_0s)).setCell ⟨w5.heap.size, 2, none⟩ (.slice ra8_0w L0w.length rc8_0w) := ⟨_, rfl⟩
        rw [← HE9]
        have KB2 : Hid (CBox w9 (w5.heap.size) (.slice ra8_0p L0p.length rc8_0p) (.slice ra8_0s L0s.length rc8_0s) (.slice ra8_0w L0w.length rc8_0w)) := Lib.hid (by rw [HE9]; exact CBox.set3 KB.out _ _ _)
        replace K1 := Lib.hid (K1.out.other3 (g := w5.heap.size) (by have s0o := S0.out; have z1o := Z1.out; have s2o := S2.out; have z2o := Z2.out; have s4o := S4.out; have s5o := S5.out; have s6o := S6.out; have s7o := S7.out; have z6o := Z6.out; have s9o := S9.out; have s10o := S10.out; omega) (.slice ra8_0p L0p.length rc8_0p) (.slice ra8_0s L0s.length rc8_0s) (.slice ra8_0w L0w.length rc8_0w)); rw [← HE9] at K1
        replace K2 := Lib.hid (K2.out.other3 (g := w5.heap.size) (by have s0o := S0.out; have z1o := Z1.out; have s2o := S2.out; have z2o := Z2.out; have s4o := S4.out; have s5o := S5.out; have s6o := S6.out; have s7o := S7.out; have z6o := Z6.out; have s9o := S9.out; have s10o := S10.out; omega) (.slice ra8_0p L0p.length rc8_0p) (.slice ra8_0s L0s.length rc8_0s) (.slice ra8_0w L0w.length rc8_0w)); rw [← HE9] at K2
        have OW := Lib.hid (OR8_0.out.kept (Kept.set3 (g := w5.heap.size) (by have s0o := S0.out; have z1o := Z1.out; have s2o := S2.out; have z2o := Z2.out; have s4o := S4.out; have s5o := S5.out; have s6o := S6.out; have s7o := S7.out; have z6o := Z6.out; have s9o := S9.out; have s10o := S10.out; omega) (.slice ra8_0p L0p.length rc8_0p) (.slice ra8_0s L0s.length rc8_0s) (.slice ra8_0w L0w.length rc8_0w))).wide; rw [← HE9] at OW
        replace C := Lib.hid (Below.set3 (g := w5.heap.size) C.out (by have s0o := S0.out; have z1o := Z1.out; have s2o := S2.out; have z2o := Z2.out; have s4o := S4.out; have s5o := S5.out; have s6o := S6.out; have s7o := S7.out; have z6o := Z6.out; have s9o := S9.out; have s10o := S10.out; omega) (.slice ra8_0p L0p.length rc8_0p) (.slice ra8_0s L0s.length rc8_0s) (.slice ra8_0w L0w.length rc8_0w)); rw [← HE9] at C
        clear y0 y1 y2 y3 y4 y5 y6
        refine hK.out _ _ ⟨K1.out.c0, K1.out.c1, K1.out.c2, K2.out.c0, K2.out.c1, K2.out.c2⟩ (fun hHeld => ?_)
        clear hK K
        try simp only [Act.put, List.setIfInBounds_toArray, List.set_cons_zero, List.set_cons_succ]
        refine takeY 10 _ (v := ?_) rfl rfl (by kernel_rfl) (by kernel_rfl) (by kernel_rfl) (fun _ _ _ h => h) (by kernel_rfl) ?_ (by assumption) ?_
        rotate_left 1
        · intro w hSw; (try dsimp only at hSw); go_simp; (try with_reducible rfl)
        try simp only [Act.put, List.setIfInBounds_toArray, List.set_cons_zero, List.set_cons_succ]
        refine wpAnyH_done (by kernel_rfl) ?_ _
        go_wp2_with fail
        go_meet
        exact ⟨w5.heap.size, w7.heap.size, _, _, _, _, _, _, rfl, rfl, KB2, OW, K1, K2, C, Lib.hid (by have s0o := S0.out; have z1o := Z1.out; have s2o := S2.out; have z2o := Z2.out; have s4o := S4.out; have s5o := S5.out; have s6o := S6.out; have s7o := S7.out; have z6o := Z6.out; have s9o := S9.out; have s10o := S10.out; omega)⟩
    · go_simp
      obtain ⟨w5, HE5⟩ : ∃ W, W = ((w4).alloc (.cells #[.slice none 0 0, .slice none 0 0, .slice none 0 0] 28)).drew := ⟨_, rfl⟩
      rw [← HE5]
      have hb : Below w4.heap.size w4 w5 := by rw [HE5]; exact (below_box2 _ _).drew
      have hq0 : CBox ((w4).alloc (.cells #[.slice none 0 0, .slice none 0 0, .slice none 0 0] 28)) w4.heap.size (.slice none 0 0) (.slice none 0 0) (.slice none 0 0) := CBox.new _ _ _ _ _
      have hq : CBox w5 w4.heap.size (.slice none 0 0) (.slice none 0 0) (.slice none 0 0) := by rw [HE5]; exact hq0.below (Below.refl _ _).drew
      have hz : w4.heap.size + 1 ≤ w5.heap.size := by rw [HE5]; show w4.heap.size + 1 ≤ ((w4).alloc (.cells #[.slice none 0 0, .slice none 0 0, .slice none 0 0] 28)).heap.size; simp
      replace K1 := Lib.hid (K1.out.stay hb)
      replace K2 := Lib.hid (K2.out.stay hb)
      replace C := Lib.hid (C.out.trans (hb.mono C.out.size))
      have S6 : Hid (w4.heap.size ≤ w5.heap.size) := Lib.hid hb.size
      have Z5 : Hid (w4.heap.size + 1 ≤ w5.heap.size) := Lib.hid hz
      have KB := Lib.hid hq; clear hq hb hz HE5
      refine hK.out _ _ ⟨K1.out.c0, K1.out.c1, K1.out.c2, K2.out.c0, K2.out.c1, K2.out.c2⟩ (fun hHeld => ?_)
      clear hK K
      try simp only [Act.put, List.setIfInBounds_toArray, List.set_cons_zero, List.set_cons_succ]
      refine wpAnyH_ready (rs := [1]) (by kernel_rfl) (by simp) ?_
      refine AllReadyH.cons rfl (fun K hK => ?_) AllReadyH.nil
      go_simp
      refine (toC _ _ _ z0p z0s z0w w5 ((R0.out.below C.out).more C.out.size) hq0p hq0s hq0w).mono ?_
      rintro e w6 ⟨x6p, x6s, x6w, rfl, ho, hb⟩
      obtain ⟨xa6p, xc6p, xa6s, xc6s, xa6w, xc6w, rfl, rfl, rfl⟩ := ho.form
      replace K1 := Lib.hid (K1.out.stay hb)
      replace K2 := Lib.hid (K2.out.stay hb)
      replace KB := Lib.hid (KB.out.stay hb)
      replace C := Lib.hid (C.out.trans (hb.mono C.out.size))
      have S8 : Hid (w5.heap.size ≤ w6.heap.size) := Lib.hid hb.size
      have OX6 := Lib.hid ho; clear ho
      clear hb
      refine hK.out _ _ ⟨K1.out.c0, K1.out.c1, K1.out.c2, K2.out.c0, K2.out.c1, K2.out.c2⟩ (fun hHeld => ?_)
      clear hK K
      try simp only [Act.put, List.setIfInBounds_toArray, List.set_cons_zero, List.set_cons_succ]
      refine wpAnyH_ready (rs := [3]) (by kernel_rfl) (by simp) ?_
      refine AllReadyH.cons rfl (fun K hK => ?_) AllReadyH.nil
      go_simp
      refine (toC _ _ _ z1p z1s z1w w6 ((R1.out.below C.out).more C.out.size) hq1p hq1s hq1w).mono ?_
      rintro e w7 ⟨x7p, x7s, x7w, rfl, ho, hb⟩
      obtain ⟨xa7p, xc7p, xa7s, xc7s, xa7w, xc7w, rfl, rfl, rfl⟩ := ho.form
      replace K1 := Lib.hid (K1.out.stay hb)
      replace K2 := Lib.hid (K2.out.stay hb)
      replace KB := Lib.hid (KB.out.stay hb)
      replace OX6 := Lib.hid (OX6.out.stay hb)
      replace C := Lib.hid (C.out.trans (hb.mono C.out.size))
      have S9 : Hid (w6.heap.size ≤ w7.heap.size) := Lib.hid hb.size
      have OX7 := Lib.hid ho; clear ho
      clear hb
      refine hK.out _ _ ⟨K1.out.c0, K1.out.c1, K1.out.c2, K2.out.c0, K2.out.c1, K2.out.c2⟩ (fun hHeld => ?_)
      clear hK K
      try simp only [Act.put, List.setIfInBounds_toArray, List.set_cons_zero, List.set_cons_succ]
      refine wpAnyH_ready (rs := [4]) (by kernel_rfl) (by simp) ?_
      refine AllReadyH.cons rfl (fun K hK => ?_) AllReadyH.nil
      go_simp
      refine (hid_out (HS w7 (.slice xa6p z0p.length xc6p) (.slice xa6s z0s.length xc6s) (.slice xa6w z0w.length xc6w) (.slice xa7p z1p.length xc7p) (.slice xa7s z1s.length xc7s) (.slice xa7w z1w.length xc7w) (OX6.out.reads) (OX7.out.reads))).mono ?_
      rintro e w8 ⟨r8_0p, r8_0s, r8_0w, rfl, ho0, hb⟩
      obtain ⟨ra8_0p, rc8_0p, ra8_0s, rc8_0s, ra8_0w, rc8_0w, rfl, rfl, rfl⟩ := ho0.form
      replace K1 := Lib.hid (K1.out.stay hb)
      replace K2 := Lib.hid (K2.out.stay hb)
      replace KB := Lib.hid (KB.out.stay hb)
      replace OX6 := Lib.hid (OX6.out.stay hb)
      replace OX7 := Lib.hid (OX7.out.stay hb)
      replace C := Lib.hid (C.out.trans (hb.mono C.out.size))
      have S10 : Hid (w7.heap.size ≤ w8.heap.size) := Lib.hid hb.size
      have OR8_0 := Lib.hid ho0; clear ho0
      clear hb
      refine hK.out _ _ ⟨K1.out.c0, K1.out.c1, K1.out.c2, K2.out.c0, K2.out.c1, K2.out.c2⟩ (fun hHeld => ?_)
      clear hK K
      try simp only [Act.put, List.setIfInBounds_toArray, List.set_cons_zero, List.set_cons_succ]
      refine takeY 5 _ (v := ?_) rfl rfl (by kernel_rfl) (by kernel_rfl) (by kernel_rfl) (fun _ _ _ h => h) (by kernel_rfl) ?_ (by assumption) ?_
      rotate_left 1
      · intro w hSw; (try dsimp only at hSw); go_simp; (try with_reducible rfl)
      try simp only [Act.put, List.setIfInBounds_toArray, List.set_cons_zero, List.set_cons_succ]
      refine takeY 6 _ (v := ?_) rfl rfl (by kernel_rfl) (by kernel_rfl) (by kernel_rfl) (fun _ _ _ h => h) (by kernel_rfl) ?_ (by assumption) ?_
      rotate_left 1
      · intro w hSw; (try dsimp only at hSw); go_simp; (try with_reducible rfl)
      try simp only [Act.put, List.setIfInBounds_toArray, List.set_cons_zero, List.set_cons_succ]
      refine takeY 7 _ (v := ?_) rfl rfl (by kernel_rfl) (by kernel_rfl) (by kernel_rfl) (fun _ _ _ h => h) (by kernel_rfl) ?_ (by assumption) ?_
      rotate_left 1
      · intro w hSw; (try dsimp only at hSw); go_simp; (try with_reducible rfl)
      try simp only [Act.put, List.setIfInBounds_toArray, List.set_cons_zero, List.set_cons_succ]
      have y0 := KB.out.c0; have y1 := KB.out.c1; have y2 := KB.out.c2; have y3 := KB.out.f0; have y4 := KB.out.f1; have y5 := KB.out.f2; have y6 := KB.out.lt
      refine wpAnyH_ready (rs := [9]) (by kernel_rfl) (by simp) ?_
      refine AllReadyH.cons rfl (fun K hK => ?_) AllReadyH.nil
      go_simp
      obtain ⟨w9, HE9⟩ : ∃ W, W = ((w8.setCell ⟨w4.heap.size, 0, none⟩ (.slice ra8_0p L0p.length rc8_0p)).setCell ⟨w4.heap.size, 1, none⟩ (.slice ra8_0s L0s.length rc8_0s)).setCell ⟨w4.heap.size, 2, none⟩ (.slice ra8_0w L0w.length rc8_0w) := ⟨_, rfl⟩
      rw [← HE9]
      have KB2 : Hid (CBox w9 (w4.heap.size) (.slice ra8_0p L0p.length rc8_0p) (.slice ra8_0s L0s.length rc8_0s) (.slice ra8_0w L0w.length rc8_0w)) := Lib.hid (by rw [HE9]; exact CBox.set3 KB.out _ _ _)
      replace K1 := Lib.hid (K1.out.other3 (g := w4.heap.size) (by have s0o := S0.out; have z1o := Z1.out; have s2o := S2.out; have z2o := Z2.out; have s4o := S4.out; have s5o := S5.out; have s6o := S6.out; have z5o := Z5.out; have s8o := S8.out; have s9o := S9.out; have s10o := S10.out; omega) (.slice ra8_0p L0p.length rc8_0p) (.slice ra8_0s L0s.length rc8_0s) (.slice ra8_0w L0w.length rc8_0w)); rw [← HE9] at K1
      replace K2 := Lib.hid (K2.out.other3 (g := w4.heap.size) (by have s0o := S0.out; have z1o := Z1.out; have s2o := S2.out; have z2o := Z2.out; have s4o := S4.out; have s5o := S5.out; have s6o := S6.out; have z5o := Z5.out; have s8o := S8.out; have s9o := S9.out; have s10o := S10.out; omega) (.slice ra8_0p L0p.length rc8_0p) (.slice ra8_0s L0s.length rc8_0s) (.slice ra8_0w L0w.length rc8_0w)); rw [← HE9] at K2
      have OW := Lib.hid (OR8_0.out.kept (Kept.set3 (g := w4.heap.size) (by have s0o := S0.out; have z1o := Z1.out; have s2o := S2.out; have z2o := Z2.out; have s4o := S4.out; have s5o := S5.out; have s6o := S6.out; have z5o := Z5.out; have s8o := S8.out; have s9o := S9.out; have s10o := S10.out; omega) (.slice ra8_0p L0p.length rc8_0p) (.slice ra8_0s L0s.length rc8_0s) (.slice ra8_0w L0w.length rc8_0w))).wide; rw [← HE9] at OW
      replace C := Lib.hid (Below.set3 (g := w4.heap.size) C.out (by have s0o := S0.out; have z1o := Z1.out; have s2o := S2.out; have z2o := Z2.out; have s4o := S4.out; have s5o := S5.out; have s6o := S6.out; have z5o := Z5.out; have s8o := S8.out; have s9o := S9.out; have s10o := S10.out; omega) (.slice ra8_0p L0p.length rc8_0p) (.slice ra8_0s L0s.length rc8_0s) (.slice ra8_0w L0w.length rc8_0w)); rw [← HE9] at C
      clear y0 y1 y2 y3 y4 y5 y6
      refine hK.out _ _ ⟨K1.out.c0, K1.out.c1, K1.out.c2, K2.out.c0, K2.out.c1, K2.out.c2⟩ (fun hHeld => ?_)
      clear hK K
      try simp only [Act.put, List.setIfInBounds_toArray, List.set_cons_zero, List.set_cons_succ]
      refine takeY 10 _ (v := ?_) rfl rfl (by kernel_rfl) (by kernel_rfl) (by kernel_rfl) (fun _ _ _ h => h) (by kernel_rfl) ?_ (by assumption) ?_
      rotate_left 1
      · intro w hSw; (try dsimp only at hSw); go_simp; (try with_reducible rfl)
      try simp only [Act.put, List.setIfInBounds_toArray, List.set_cons_zero, List.set_cons_succ]
      refine wpAnyH_done (by kernel_rfl) ?_ _
      go_wp2_with fail
      go_meet
      exact ⟨w4.heap.size, w7.heap.size, _, _, _, _, _, _, rfl, rfl, KB2, OW, K1, K2, C, Lib.hid (by have s0o := S0.out; have z1o := Z1.out; have s2o := S2.out; have z2o := Z2.out; have s4o := S4.out; have s5o := S5.out; have s6o := S6.out; have z5o := Z5.out; have s8o := S8.out; have s9o := S9.out; have s10o := S10.out; omega)⟩
  case rest =>
    obtain ⟨g, lo, aa0, aa1, aa2, cc0, cc1, cc2, rfl, rfl, KB, OW, K1, K2, C, hlo⟩ := hcut
    clear RR
    have SZ0 : Hid (g + 1 ≤ wc.heap.size) := Lib.hid KB.out.lt; have SZ1 : Hid (w.heap.size + 2 ≤ wc.heap.size) := Lib.hid K2.out.lt
    have q0K1 := K1.out.c0; have q1K1 := K1.out.c1; have q2K1 := K1.out.c2; have qlK1 := K1.out.lt
    have q0K2 := K2.out.c0; have q1K2 := K2.out.c1; have q2K2 := K2.out.c2; have qlK2 := K2.out.lt
    have q0KB := KB.out.c0; have q1KB := KB.out.c1; have q2KB := KB.out.c2; have qlKB := KB.out.lt
    go_wp2_with fail
    clear q0K1 q1K1 q2K1 qlK1 q0K2 q1K2 q2K2 qlK2 q0KB q1KB q2KB qlKB
    refine (toC _ _ _ z0p z0s z0w wc ((R0.out.below C.out).more C.out.size) hq0p hq0s hq0w).mono ?_
    rintro e w5 ⟨x5p, x5s, x5w, rfl, ho, hb⟩
    obtain ⟨xa5p, xc5p, xa5s, xc5s, xa5w, xc5w, rfl, rfl, rfl⟩ := ho.form
    replace K1 := Lib.hid (K1.out.stay hb)
    replace K2 := Lib.hid (K2.out.stay hb)
    replace KB := Lib.hid (KB.out.stay hb)
    replace OW := Lib.hid (OW.out.stay hb)
    replace C := Lib.hid (C.out.trans (hb.mono C.out.size))
    have S3 : Hid (wc.heap.size ≤ w5.heap.size) := Lib.hid hb.size
    have OX5 := Lib.hid ho; clear ho
    clear hb
    have q0K1 := K1.out.c0; have q1K1 := K1.out.c1; have q2K1 := K1.out.c2; have qlK1 := K1.out.lt
    have q0K2 := K2.out.c0; have q1K2 := K2.out.c1; have q2K2 := K2.out.c2; have qlK2 := K2.out.lt
    have q0KB := KB.out.c0; have q1KB := KB.out.c1; have q2KB := KB.out.c2; have qlKB := KB.out.lt
    obtain ⟨w6, HE6⟩ : ∃ W, W = w5.alloc (.cells #[(.slice xa5p z0p.length xc5p), (.slice xa5s z0s.length xc5s), (.slice xa5w z0w.length xc5w)] 28) := ⟨_, rfl⟩
    have hb : Below w5.heap.size w5 w6 := by rw [HE6]; exact below_box2 _ _
    have hq : CBox w6 w5.heap.size ((.slice xa5p z0p.length xc5p)) ((.slice xa5s z0s.length xc5s)) ((.slice xa5w z0w.length xc5w)) := by rw [HE6]; exact CBox.new _ _ _ _ _
    have hz : w5.heap.size + 1 ≤ w6.heap.size := by rw [HE6]; simp
    replace K1 := Lib.hid (K1.out.stay hb)
    replace K2 := Lib.hid (K2.out.stay hb)
    replace KB := Lib.hid (KB.out.stay hb)
    replace OW := Lib.hid (OW.out.stay hb)
    replace OX5 := Lib.hid (OX5.out.stay hb)
    replace C := Lib.hid (C.out.trans (hb.mono C.out.size))
    have S4 : Hid (w5.heap.size ≤ w6.heap.size) := Lib.hid hb.size
    have Z6 : Hid (w5.heap.size + 1 ≤ w6.heap.size) := Lib.hid hz
    have K6 := Lib.hid hq; have HEQ6 := Lib.hid HE6; clear hq HE6 hb hz
    go_wp2_with fail
    rw [← HEQ6.out]
    clear q0K1 q1K1 q2K1 qlK1 q0K2 q1K2 q2K2 qlK2 q0KB q1KB q2KB qlKB
    refine (toC _ _ _ z1p z1s z1w w6 ((R1.out.below C.out).more C.out.size) hq1p hq1s hq1w).mono ?_
    rintro e w7 ⟨x7p, x7s, x7w, rfl, ho, hb⟩
    obtain ⟨xa7p, xc7p, xa7s, xc7s, xa7w, xc7w, rfl, rfl, rfl⟩ := ho.form
    replace K1 := Lib.hid (K1.out.stay hb)
    replace K2 := Lib.hid (K2.out.stay hb)
    replace KB := Lib.hid (KB.out.stay hb)
    replace OW := Lib.hid (OW.out.stay hb)
    replace OX5 := Lib.hid (OX5.out.stay hb)
    replace K6 := Lib.hid (K6.out.stay hb)
    replace C := Lib.hid (C.out.trans (hb.mono C.out.size))
    have S6 : Hid (w6.heap.size ≤ w7.heap.size) := Lib.hid hb.size
    have OX7 := Lib.hid ho; clear ho
    clear hb
    have q0K1 := K1.out.c0; have q1K1 := K1.out.c1; have q2K1 := K1.out.c2; have qlK1 := K1.out.lt
    have q0K2 := K2.out.c0; have q1K2 := K2.out.c1; have q2K2 := K2.out.c2; have qlK2 := K2.out.lt
    have q0KB := KB.out.c0; have q1KB := KB.out.c1; have q2KB := KB.out.c2; have qlKB := KB.out.lt
    have q0K6 := K6.out.c0; have q1K6 := K6.out.c1; have q2K6 := K6.out.c2; have qlK6 := K6.out.lt
    obtain ⟨w8, HE8⟩ : ∃ W, W = w7.alloc (.cells #[(.slice xa7p z1p.length xc7p), (.slice xa7s z1s.length xc7s), (.slice xa7w z1w.length xc7w)] 28) := ⟨_, rfl⟩
    have hb : Below w7.heap.size w7 w8 := by rw [HE8]; exact below_box2 _ _
    have hq : CBox w8 w7.heap.size ((.slice xa7p z1p.length xc7p)) ((.slice xa7s z1s.length xc7s)) ((.slice xa7w z1w.length xc7w)) := by rw [HE8]; exact CBox.new _ _ _ _ _
    have hz : w7.heap.size + 1 ≤ w8.heap.size := by rw [HE8]; simp
    replace K1 := Lib.hid (K1.out.stay hb)
    replace K2 := Lib.hid (K2.out.stay hb)
    replace KB := Lib.hid (KB.out.stay hb)
    replace OW := Lib.hid (OW.out.stay hb)
    replace OX5 := Lib.hid (OX5.out.stay hb)
    replace K6 := Lib.hid (K6.out.stay hb)
    replace OX7 := Lib.hid (OX7.out.stay hb)
    replace C := Lib.hid (C.out.trans (hb.mono C.out.size))
    have S7 : Hid (w7.heap.size ≤ w8.heap.size) := Lib.hid hb.size
    have Z8 : Hid (w7.heap.size + 1 ≤ w8.heap.size) := Lib.hid hz
    have K8 := Lib.hid hq; have HEQ8 := Lib.hid HE8; clear hq HE8 hb hz
    go_wp2_with fail
    rw [← HEQ8.out]
    clear q0K1 q1K1 q2K1 qlK1 q0K2 q1K2 q2K2 qlK2 q0KB q1KB q2KB qlKB q0K6 q1K6 q2K6 qlK6
    refine (hid_out (HI w8 (.slice xa5p z0p.length xc5p) (.slice xa5s z0s.length xc5s) (.slice xa5w z0w.length xc5w) (.slice xa7p z1p.length xc7p) (.slice xa7s z1s.length xc7s) (.slice xa7w z1w.length xc7w) (OX5.out.reads) (OX7.out.reads))).mono ?_
    rintro e w9 ⟨r9_0p, r9_0s, r9_0w, rfl, ho0, hb⟩
    obtain ⟨ra9_0p, rc9_0p, ra9_0s, rc9_0s, ra9_0w, rc9_0w, rfl, rfl, rfl⟩ := ho0.form
    replace K1 := Lib.hid (K1.out.stay hb)
    replace K2 := Lib.hid (K2.out.stay hb)
    replace KB := Lib.hid (KB.out.stay hb)
    replace OW := Lib.hid (OW.out.stay hb)
    replace OX5 := Lib.hid (OX5.out.stay hb)
    replace K6 := Lib.hid (K6.out.stay hb)
    replace OX7 := Lib.hid (OX7.out.stay hb)
    replace K8 := Lib.hid (K8.out.stay hb)
    replace C := Lib.hid (C.out.trans (hb.mono C.out.size))
    have S9 : Hid (w8.heap.size ≤ w9.heap.size) := Lib.hid hb.size
    have OR9_0 := Lib.hid ho0; clear ho0
    clear hb
    have q0K1 := K1.out.c0; have q1K1 := K1.out.c1; have q2K1 := K1.out.c2; have qlK1 := K1.out.lt
    have q0K2 := K2.out.c0; have q1K2 := K2.out.c1; have q2K2 := K2.out.c2; have qlK2 := K2.out.lt
    have q0KB := KB.out.c0; have q1KB := KB.out.c1; have q2KB := KB.out.c2; have qlKB := KB.out.lt
    have q0K6 := K6.out.c0; have q1K6 := K6.out.c1; have q2K6 := K6.out.c2; have qlK6 := K6.out.lt
    have q0K8 := K8.out.c0; have q1K8 := K8.out.c1; have q2K8 := K8.out.c2; have qlK8 := K8.out.lt
    obtain ⟨w10, HE10⟩ : ∃ W, W = w9.alloc (.cells #[(.slice ra9_0p L0p.length rc9_0p), (.slice ra9_0s L0s.length rc9_0s), (.slice ra9_0w L0w.length rc9_0w)] 28) := ⟨_, rfl⟩
    have hb : Below w9.heap.size w9 w10 := by rw [HE10]; exact below_box2 _ _
    have hq : CBox w10 w9.heap.size ((.slice ra9_0p L0p.length rc9_0p)) ((.slice ra9_0s L0s.length rc9_0s)) ((.slice ra9_0w L0w.length rc9_0w)) := by rw [HE10]; exact CBox.new _ _ _ _ _
    have hz : w9.heap.size + 1 ≤ w10.heap.size := by rw [HE10]; simp
    replace K1 := Lib.hid (K1.out.stay hb)
    replace K2 := Lib.hid (K2.out.stay hb)
    replace KB := Lib.hid (KB.out.stay hb)
    replace OW := Lib.hid (OW.out.stay hb)
    replace OX5 := Lib.hid (OX5.out.stay hb)
    replace K6 := Lib.hid (K6.out.stay hb)
    replace OX7 := Lib.hid (OX7.out.stay hb)
    replace K8 := Lib.hid (K8.out.stay hb)
    replace OR9_0 := Lib.hid (OR9_0.out.stay hb)
    replace C := Lib.hid (C.out.trans (hb.mono C.out.size))
    have S10 : Hid (w9.heap.size ≤ w10.heap.size) := Lib.hid hb.size
    have Z10 : Hid (w9.heap.size + 1 ≤ w10.heap.size) := Lib.hid hz
    have K10 := Lib.hid hq; have HEQ10 := Lib.hid HE10; clear hq HE10 hb hz
    go_wp2_with fail
    rw [← HEQ10.out]
    clear q0K1 q1K1 q2K1 qlK1 q0K2 q1K2 q2K2 qlK2 q0KB q1KB q2KB qlKB q0K6 q1K6 q2K6 qlK6 q0K8 q1K8 q2K8 qlK8
    refine (eqC _ _ _ _ _ _ L0p L0s L0w w10 (OR9_0.out.reads) (OW.out.reads) (by omega) (by omega) (by omega)).mono ?_
    rintro e w11 ⟨rfl, hb⟩
    replace K1 := Lib.hid (K1.out.stay hb)
    replace K2 := Lib.hid (K2.out.stay hb)
    replace KB := Lib.hid (KB.out.stay hb)
    replace OW := Lib.hid (OW.out.stay hb)
    replace OX5 := Lib.hid (OX5.out.stay hb)
    replace K6 := Lib.hid (K6.out.stay hb)
    replace OX7 := Lib.hid (OX7.out.stay hb)
    replace K8 := Lib.hid (K8.out.stay hb)
    replace OR9_0 := Lib.hid (OR9_0.out.stay hb)
    replace K10 := Lib.hid (K10.out.stay hb)
    replace C := Lib.hid (C.out.trans (hb.mono C.out.size))
    have S12 : Hid (w10.heap.size ≤ w11.heap.size) := Lib.hid hb.size
    clear hb
    have q0K1 := K1.out.c0; have q1K1 := K1.out.c1; have q2K1 := K1.out.c2; have qlK1 := K1.out.lt
    have q0K2 := K2.out.c0; have q1K2 := K2.out.c1; have q2K2 := K2.out.c2; have qlK2 := K2.out.lt
    have q0KB := KB.out.c0; have q1KB := KB.out.c1; have q2KB := KB.out.c2; have qlKB := KB.out.lt
    have q0K6 := K6.out.c0; have q1K6 := K6.out.c1; have q2K6 := K6.out.c2; have qlK6 := K6.out.lt
    have q0K8 := K8.out.c0; have q1K8 := K8.out.c1; have q2K8 := K8.out.c2; have qlK8 := K8.out.lt
    have q0K10 := K10.out.c0; have q1K10 := K10.out.c1; have q2K10 := K10.out.c2; have qlK10 := K10.out.lt
    go_wp2_with fail
    clear q0K1 q1K1 q2K1 qlK1 q0K2 q1K2 q2K2 qlK2 q0KB q1KB q2KB qlKB q0K6 q1K6 q2K6 qlK6 q0K8 q1K8 q2K8 qlK8 q0K10 q1K10 q2K10 qlK10
    have RR := Lib.hid ((R0.out.below C.out).more C.out.size)
    refine wp_region_held_drew (S := fun w' => w'.cell? ⟨w5.heap.size, 0, none⟩ = some ((.slice xa5p z0p.length xc5p)) ∧ w'.cell? ⟨w5.heap.size, 1, none⟩ = some ((.slice xa5s z0s.length xc5s)) ∧ w'.cell? ⟨w5.heap.size, 2, none⟩ = some ((.slice xa5w z0w.length xc5w)) ∧ w'.cell? ⟨w.heap.size, 0, none⟩ = some (.slice A0p z0p.length c0p) ∧ w'.cell? ⟨w.heap.size, 1, none⟩ = some (.slice A0s z0s.length c0s) ∧ w'.cell? ⟨w.heap.size, 2, none⟩ = some (.slice A0w z0w.length c0w)) (by kernel_rfl) ⟨K6.out.c0, K6.out.c1, K6.out.c2, K1.out.c0, K1.out.c1, K1.out.c2⟩ (fun hHeld => ?_)
    refine takeY 0 _ (v := ?_) rfl rfl (by kernel_rfl) (by kernel_rfl) (by kernel_rfl) (fun _ _ _ h => h) (by kernel_rfl) ?_ (by assumption) ?_
    rotate_left 1
    · intro w hSw; (try dsimp only at hSw); go_simp; (try with_reducible rfl)
    try simp only [Act.put, List.setIfInBounds_toArray, List.set_cons_zero, List.set_cons_succ]
    refine takeY 1 _ (v := ?_) rfl rfl (by kernel_rfl) (by kernel_rfl) (by kernel_rfl) (fun _ _ _ h => h) (by kernel_rfl) ?_ (by assumption) ?_
    rotate_left 1
    · intro w hSw; (try dsimp only at hSw); go_simp; (try with_reducible rfl)
    try simp only [Act.put, List.setIfInBounds_toArray, List.set_cons_zero, List.set_cons_succ]
    refine wpAnyH_ready (rs := [2]) (by kernel_rfl) (by simp) ?_
    refine AllReadyH.cons rfl (fun K hK => ?_) AllReadyH.nil
    go_simp
    refine (toC_drew _ _ _ z0p z0s z0w w11 RR.out hq0p hq0s hq0w).mono ?_
    rintro e w12 ⟨x12p, x12s, x12w, rfl, ho, hb⟩
    obtain ⟨xa12p, xc12p, xa12s, xc12s, xa12w, xc12w, rfl, rfl, rfl⟩ := ho.form
    replace K1 := Lib.hid (K1.out.stay hb)
    replace K2 := Lib.hid (K2.out.stay hb)
    replace KB := Lib.hid (KB.out.stay hb)
    replace OW := Lib.hid (OW.out.stay hb)
    replace OX5 := Lib.hid (OX5.out.stay hb)
    replace K6 := Lib.hid (K6.out.stay hb)
    replace OX7 := Lib.hid (OX7.out.stay hb)
    replace K8 := Lib.hid (K8.out.stay hb)
    replace OR9_0 := Lib.hid (OR9_0.out.stay hb)
    replace K10 := Lib.hid (K10.out.stay hb)
    replace C := Lib.hid (C.out.trans (hb.mono C.out.size))
    have S13 : Hid (w11.heap.size ≤ w12.heap.size) := Lib.hid hb.size
    have OX12 := Lib.hid ho; clear ho
    clear hb
    refine hK.out _ _ ⟨K6.out.c0, K6.out.c1, K6.out.c2, K1.out.c0, K1.out.c1, K1.out.c2⟩ (fun hHeld => ?_)
    clear hK K
    try simp only [Act.put, List.setIfInBounds_toArray, List.set_cons_zero, List.set_cons_succ]
    refine wpAnyH_ready (rs := [3]) (by kernel_rfl) (by simp) ?_
    refine AllReadyH.cons rfl (fun K hK => ?_) AllReadyH.nil
    go_simp
    refine (eqC _ _ _ _ _ _ z0p z0s z0w w12 (OX5.out.reads) (OX12.out.reads) (by omega) (by omega) (by omega)).mono ?_
    rintro e w13 ⟨rfl, hb⟩
    replace K1 := Lib.hid (K1.out.stay hb)
    replace K2 := Lib.hid (K2.out.stay hb)
    replace KB := Lib.hid (KB.out.stay hb)
    replace OW := Lib.hid (OW.out.stay hb)
    replace OX5 := Lib.hid (OX5.out.stay hb)
    replace K6 := Lib.hid (K6.out.stay hb)
    replace OX7 := Lib.hid (OX7.out.stay hb)
    replace K8 := Lib.hid (K8.out.stay hb)
    replace OR9_0 := Lib.hid (OR9_0.out.stay hb)
    replace K10 := Lib.hid (K10.out.stay hb)
    replace OX12 := Lib.hid (OX12.out.stay hb)
    replace C := Lib.hid (C.out.trans (hb.mono C.out.size))
    have S14 : Hid (w12.heap.size ≤ w13.heap.size) := Lib.hid hb.size
    clear hb
    refine hK.out _ _ ⟨K6.out.c0, K6.out.c1, K6.out.c2, K1.out.c0, K1.out.c1, K1.out.c2⟩ (fun hHeld => ?_)
    clear hK K
    try simp only [Act.put, List.setIfInBounds_toArray, List.set_cons_zero, List.set_cons_succ]
    refine takeY 4 _ (v := ?_) rfl rfl (by kernel_rfl) (by kernel_rfl) (by kernel_rfl) (fun _ _ _ h => h) (by kernel_rfl) ?_ (by assumption) ?_
    rotate_left 1
    · intro w hSw; (try dsimp only at hSw); go_simp; (try with_reducible rfl)
    try simp only [Act.put, List.setIfInBounds_toArray, List.set_cons_zero, List.set_cons_succ]
    refine wpAnyH_done (by kernel_rfl) ?_ _
    clear hHeld RR
    have q0K1 := K1.out.c0; have q1K1 := K1.out.c1; have q2K1 := K1.out.c2; have qlK1 := K1.out.lt
    have q0K2 := K2.out.c0; have q1K2 := K2.out.c1; have q2K2 := K2.out.c2; have qlK2 := K2.out.lt
    have q0KB := KB.out.c0; have q1KB := KB.out.c1; have q2KB := KB.out.c2; have qlKB := KB.out.lt
    have q0K6 := K6.out.c0; have q1K6 := K6.out.c1; have q2K6 := K6.out.c2; have qlK6 := K6.out.lt
    have q0K8 := K8.out.c0; have q1K8 := K8.out.c1; have q2K8 := K8.out.c2; have qlK8 := K8.out.lt
    have q0K10 := K10.out.c0; have q1K10 := K10.out.c1; have q2K10 := K10.out.c2; have qlK10 := K10.out.lt
    go_wp2_with fail
    clear q0K1 q1K1 q2K1 qlK1 q0K2 q1K2 q2K2 qlK2 q0KB q1KB q2KB qlKB q0K6 q1K6 q2K6 qlK6 q0K8 q1K8 q2K8 qlK8 q0K10 q1K10 q2K10 qlK10
    have RR := Lib.hid ((R1.out.below C.out).more C.out.size)
    refine wp_region_held_drew (S := fun w' => w'.cell? ⟨w7.heap.size, 0, none⟩ = some ((.slice xa7p z1p.length xc7p)) ∧ w'.cell? ⟨w7.heap.size, 1, none⟩ = some ((.slice xa7s z1s.length xc7s)) ∧ w'.cell? ⟨w7.heap.size, 2, none⟩ = some ((.slice xa7w z1w.length xc7w)) ∧ w'.cell? ⟨w.heap.size + 1, 0, none⟩ = some (.slice A1p z1p.length c1p) ∧ w'.cell? ⟨w.heap.size + 1, 1, none⟩ = some (.slice A1s z1s.length c1s) ∧ w'.cell? ⟨w.heap.size + 1, 2, none⟩ = some (.slice A1w z1w.length c1w)) (by kernel_rfl) ⟨K8.out.c0, K8.out.c1, K8.out.c2, K2.out.c0, K2.out.c1, K2.out.c2⟩ (fun hHeld => ?_)
    refine takeY 0 _ (v := ?_) rfl rfl (by kernel_rfl) (by kernel_rfl) (by kernel_rfl) (fun _ _ _ h => h) (by kernel_rfl) ?_ (by assumption) ?_
    rotate_left 1
    · intro w hSw; (try dsimp only at hSw); go_simp; (try with_reducible rfl)
    try simp only [Act.put, List.setIfInBounds_toArray, List.set_cons_zero, List.set_cons_succ]
    refine takeY 1 _ (v := ?_) rfl rfl (by kernel_rfl) (by kernel_rfl) (by kernel_rfl) (fun _ _ _ h => h) (by kernel_rfl) ?_ (by assumption) ?_
    rotate_left 1
    · intro w hSw; (try dsimp only at hSw); go_simp; (try with_reducible rfl)
    try simp only [Act.put, List.setIfInBounds_toArray, List.set_cons_zero, List.set_cons_succ]
    refine wpAnyH_ready (rs := [2]) (by kernel_rfl) (by simp) ?_
    refine AllReadyH.cons rfl (fun K hK => ?_) AllReadyH.nil
    go_simp
    refine (toC_drew _ _ _ z1p z1s z1w w13 RR.out hq1p hq1s hq1w).mono ?_
    rintro e w14 ⟨x14p, x14s, x14w, rfl, ho, hb⟩
    obtain ⟨xa14p, xc14p, xa14s, xc14s, xa14w, xc14w, rfl, rfl, rfl⟩ := ho.form
    replace K1 := Lib.hid (K1.out.stay hb)
    replace K2 := Lib.hid (K2.out.stay hb)
    replace KB := Lib.hid (KB.out.stay hb)
    replace OW := Lib.hid (OW.out.stay hb)
    replace OX5 := Lib.hid (OX5.out.stay hb)
    replace K6 := Lib.hid (K6.out.stay hb)
    replace OX7 := Lib.hid (OX7.out.stay hb)
    replace K8 := Lib.hid (K8.out.stay hb)
    replace OR9_0 := Lib.hid (OR9_0.out.stay hb)
    replace K10 := Lib.hid (K10.out.stay hb)
    replace OX12 := Lib.hid (OX12.out.stay hb)
    replace C := Lib.hid (C.out.trans (hb.mono C.out.size))
    have S15 : Hid (w13.heap.size ≤ w14.heap.size) := Lib.hid hb.size
    have OX14 := Lib.hid ho; clear ho
    clear hb
    refine hK.out _ _ ⟨K8.out.c0, K8.out.c1, K8.out.c2, K2.out.c0, K2.out.c1, K2.out.c2⟩ (fun hHeld => ?_)
    clear hK K
    try simp only [Act.put, List.setIfInBounds_toArray, List.set_cons_zero, List.set_cons_succ]
    refine wpAnyH_ready (rs := [3]) (by kernel_rfl) (by simp) ?_
    refine AllReadyH.cons rfl (fun K hK => ?_) AllReadyH.nil
    go_simp
    refine (eqC _ _ _ _ _ _ z1p z1s z1w w14 (OX7.out.reads) (OX14.out.reads) (by omega) (by omega) (by omega)).mono ?_
    rintro e w15 ⟨rfl, hb⟩
    replace K1 := Lib.hid (K1.out.stay hb)
    replace K2 := Lib.hid (K2.out.stay hb)
    replace KB := Lib.hid (KB.out.stay hb)
    replace OW := Lib.hid (OW.out.stay hb)
    replace OX5 := Lib.hid (OX5.out.stay hb)
    replace K6 := Lib.hid (K6.out.stay hb)
    replace OX7 := Lib.hid (OX7.out.stay hb)
    replace K8 := Lib.hid (K8.out.stay hb)
    replace OR9_0 := Lib.hid (OR9_0.out.stay hb)
    replace K10 := Lib.hid (K10.out.stay hb)
    replace OX12 := Lib.hid (OX12.out.stay hb)
    replace OX14 := Lib.hid (OX14.out.stay hb)
    replace C := Lib.hid (C.out.trans (hb.mono C.out.size))
    have S16 : Hid (w14.heap.size ≤ w15.heap.size) := Lib.hid hb.size
    clear hb
    refine hK.out _ _ ⟨K8.out.c0, K8.out.c1, K8.out.c2, K2.out.c0, K2.out.c1, K2.out.c2⟩ (fun hHeld => ?_)
    clear hK K
    try simp only [Act.put, List.setIfInBounds_toArray, List.set_cons_zero, List.set_cons_succ]
    refine takeY 4 _ (v := ?_) rfl rfl (by kernel_rfl) (by kernel_rfl) (by kernel_rfl) (fun _ _ _ h => h) (by kernel_rfl) ?_ (by assumption) ?_
    rotate_left 1
    · intro w hSw; (try dsimp only at hSw); go_simp; (try with_reducible rfl)
    try simp only [Act.put, List.setIfInBounds_toArray, List.set_cons_zero, List.set_cons_succ]
    refine wpAnyH_done (by kernel_rfl) ?_ _
    clear hHeld RR
    have q0K1 := K1.out.c0; have q1K1 := K1.out.c1; have q2K1 := K1.out.c2; have qlK1 := K1.out.lt
    have q0K2 := K2.out.c0; have q1K2 := K2.out.c1; have q2K2 := K2.out.c2; have qlK2 := K2.out.lt
    have q0KB := KB.out.c0; have q1KB := KB.out.c1; have q2KB := KB.out.c2; have qlKB := KB.out.lt
    have q0K6 := K6.out.c0; have q1K6 := K6.out.c1; have q2K6 := K6.out.c2; have qlK6 := K6.out.lt
    have q0K8 := K8.out.c0; have q1K8 := K8.out.c1; have q2K8 := K8.out.c2; have qlK8 := K8.out.lt
    have q0K10 := K10.out.c0; have q1K10 := K10.out.c1; have q2K10 := K10.out.c2; have qlK10 := K10.out.lt
    go_wp2_with fail
    clear q0K1 q1K1 q2K1 qlK1 q0K2 q1K2 q2K2 qlK2 q0KB q1KB q2KB qlKB q0K6 q1K6 q2K6 qlK6 q0K8 q1K8 q2K8 qlK8 q0K10 q1K10 q2K10 qlK10
    refine (markC _ _ _ _ _ z0p z0s z0w 1 w15 OX5.out (by omega) (by omega) (by omega) (by omega)).mono ?_
    rintro e w16 ⟨rfl, hm, hb⟩
    replace K1 := Lib.hid (K1.out.kept (hb.kept (by have sz0o := SZ0.out; have sz1o := SZ1.out; have hloo := hlo.out; have s3o := S3.out; have s4o := S4.out; have z6o := Z6.out; have s6o := S6.out; have s7o := S7.out; have z8o := Z8.out; have s9o := S9.out; have s10o := S10.out; have z10o := Z10.out; have s12o := S12.out; have s13o := S13.out; have s14o := S14.out; have s15o := S15.out; have s16o := S16.out; omega) (by have sz0o := SZ0.out; have sz1o := SZ1.out; have hloo := hlo.out; have s3o := S3.out; have s4o := S4.out; have z6o := Z6.out; have s6o := S6.out; have s7o := S7.out; have z8o := Z8.out; have s9o := S9.out; have s10o := S10.out; have z10o := Z10.out; have s12o := S12.out; have s13o := S13.out; have s14o := S14.out; have s15o := S15.out; have s16o := S16.out; omega)))
    replace K2 := Lib.hid (K2.out.kept (hb.kept (by have sz0o := SZ0.out; have sz1o := SZ1.out; have hloo := hlo.out; have s3o := S3.out; have s4o := S4.out; have z6o := Z6.out; have s6o := S6.out; have s7o := S7.out; have z8o := Z8.out; have s9o := S9.out; have s10o := S10.out; have z10o := Z10.out; have s12o := S12.out; have s13o := S13.out; have s14o := S14.out; have s15o := S15.out; have s16o := S16.out; omega) (by have sz0o := SZ0.out; have sz1o := SZ1.out; have hloo := hlo.out; have s3o := S3.out; have s4o := S4.out; have z6o := Z6.out; have s6o := S6.out; have s7o := S7.out; have z8o := Z8.out; have s9o := S9.out; have s10o := S10.out; have z10o := Z10.out; have s12o := S12.out; have s13o := S13.out; have s14o := S14.out; have s15o := S15.out; have s16o := S16.out; omega)))
    replace KB := Lib.hid (KB.out.kept (hb.kept (by have sz0o := SZ0.out; have sz1o := SZ1.out; have hloo := hlo.out; have s3o := S3.out; have s4o := S4.out; have z6o := Z6.out; have s6o := S6.out; have s7o := S7.out; have z8o := Z8.out; have s9o := S9.out; have s10o := S10.out; have z10o := Z10.out; have s12o := S12.out; have s13o := S13.out; have s14o := S14.out; have s15o := S15.out; have s16o := S16.out; omega) (by have sz0o := SZ0.out; have sz1o := SZ1.out; have hloo := hlo.out; have s3o := S3.out; have s4o := S4.out; have z6o := Z6.out; have s6o := S6.out; have s7o := S7.out; have z8o := Z8.out; have s9o := S9.out; have s10o := S10.out; have z10o := Z10.out; have s12o := S12.out; have s13o := S13.out; have s14o := S14.out; have s15o := S15.out; have s16o := S16.out; omega)))
    replace OW := Lib.hid (OW.out.kept (hb.kept (by have sz0o := SZ0.out; have sz1o := SZ1.out; have hloo := hlo.out; have s3o := S3.out; have s4o := S4.out; have z6o := Z6.out; have s6o := S6.out; have s7o := S7.out; have z8o := Z8.out; have s9o := S9.out; have s10o := S10.out; have z10o := Z10.out; have s12o := S12.out; have s13o := S13.out; have s14o := S14.out; have s15o := S15.out; have s16o := S16.out; omega) (by have sz0o := SZ0.out; have sz1o := SZ1.out; have hloo := hlo.out; have s3o := S3.out; have s4o := S4.out; have z6o := Z6.out; have s6o := S6.out; have s7o := S7.out; have z8o := Z8.out; have s9o := S9.out; have s10o := S10.out; have z10o := Z10.out; have s12o := S12.out; have s13o := S13.out; have s14o := S14.out; have s15o := S15.out; have s16o := S16.out; omega)))
    replace K6 := Lib.hid (K6.out.kept (hb.kept (by have sz0o := SZ0.out; have sz1o := SZ1.out; have hloo := hlo.out; have s3o := S3.out; have s4o := S4.out; have z6o := Z6.out; have s6o := S6.out; have s7o := S7.out; have z8o := Z8.out; have s9o := S9.out; have s10o := S10.out; have z10o := Z10.out; have s12o := S12.out; have s13o := S13.out; have s14o := S14.out; have s15o := S15.out; have s16o := S16.out; omega) (by have sz0o := SZ0.out; have sz1o := SZ1.out; have hloo := hlo.out; have s3o := S3.out; have s4o := S4.out; have z6o := Z6.out; have s6o := S6.out; have s7o := S7.out; have z8o := Z8.out; have s9o := S9.out; have s10o := S10.out; have z10o := Z10.out; have s12o := S12.out; have s13o := S13.out; have s14o := S14.out; have s15o := S15.out; have s16o := S16.out; omega)))
    replace OX7 := Lib.hid (OX7.out.kept (hb.kept (by have sz0o := SZ0.out; have sz1o := SZ1.out; have hloo := hlo.out; have s3o := S3.out; have s4o := S4.out; have z6o := Z6.out; have s6o := S6.out; have s7o := S7.out; have z8o := Z8.out; have s9o := S9.out; have s10o := S10.out; have z10o := Z10.out; have s12o := S12.out; have s13o := S13.out; have s14o := S14.out; have s15o := S15.out; have s16o := S16.out; omega) (by have sz0o := SZ0.out; have sz1o := SZ1.out; have hloo := hlo.out; have s3o := S3.out; have s4o := S4.out; have z6o := Z6.out; have s6o := S6.out; have s7o := S7.out; have z8o := Z8.out; have s9o := S9.out; have s10o := S10.out; have z10o := Z10.out; have s12o := S12.out; have s13o := S13.out; have s14o := S14.out; have s15o := S15.out; have s16o := S16.out; omega)))
    replace K8 := Lib.hid (K8.out.kept (hb.kept (by have sz0o := SZ0.out; have sz1o := SZ1.out; have hloo := hlo.out; have s3o := S3.out; have s4o := S4.out; have z6o := Z6.out; have s6o := S6.out; have s7o := S7.out; have z8o := Z8.out; have s9o := S9.out; have s10o := S10.out; have z10o := Z10.out; have s12o := S12.out; have s13o := S13.out; have s14o := S14.out; have s15o := S15.out; have s16o := S16.out; omega) (by have sz0o := SZ0.out; have sz1o := SZ1.out; have hloo := hlo.out; have s3o := S3.out; have s4o := S4.out; have z6o := Z6.out; have s6o := S6.out; have s7o := S7.out; have z8o := Z8.out; have s9o := S9.out; have s10o := S10.out; have z10o := Z10.out; have s12o := S12.out; have s13o := S13.out; have s14o := S14.out; have s15o := S15.out; have s16o := S16.out; omega)))
    replace OR9_0 := Lib.hid (OR9_0.out.kept (hb.kept (by have sz0o := SZ0.out; have sz1o := SZ1.out; have hloo := hlo.out; have s3o := S3.out; have s4o := S4.out; have z6o := Z6.out; have s6o := S6.out; have s7o := S7.out; have z8o := Z8.out; have s9o := S9.out; have s10o := S10.out; have z10o := Z10.out; have s12o := S12.out; have s13o := S13.out; have s14o := S14.out; have s15o := S15.out; have s16o := S16.out; omega) (by have sz0o := SZ0.out; have sz1o := SZ1.out; have hloo := hlo.out; have s3o := S3.out; have s4o := S4.out; have z6o := Z6.out; have s6o := S6.out; have s7o := S7.out; have z8o := Z8.out; have s9o := S9.out; have s10o := S10.out; have z10o := Z10.out; have s12o := S12.out; have s13o := S13.out; have s14o := S14.out; have s15o := S15.out; have s16o := S16.out; omega)))
    replace K10 := Lib.hid (K10.out.kept (hb.kept (by have sz0o := SZ0.out; have sz1o := SZ1.out; have hloo := hlo.out; have s3o := S3.out; have s4o := S4.out; have z6o := Z6.out; have s6o := S6.out; have s7o := S7.out; have z8o := Z8.out; have s9o := S9.out; have s10o := S10.out; have z10o := Z10.out; have s12o := S12.out; have s13o := S13.out; have s14o := S14.out; have s15o := S15.out; have s16o := S16.out; omega) (by have sz0o := SZ0.out; have sz1o := SZ1.out; have hloo := hlo.out; have s3o := S3.out; have s4o := S4.out; have z6o := Z6.out; have s6o := S6.out; have s7o := S7.out; have z8o := Z8.out; have s9o := S9.out; have s10o := S10.out; have z10o := Z10.out; have s12o := S12.out; have s13o := S13.out; have s14o := S14.out; have s15o := S15.out; have s16o := S16.out; omega)))
    replace OX12 := Lib.hid (OX12.out.kept (hb.kept (by have sz0o := SZ0.out; have sz1o := SZ1.out; have hloo := hlo.out; have s3o := S3.out; have s4o := S4.out; have z6o := Z6.out; have s6o := S6.out; have s7o := S7.out; have z8o := Z8.out; have s9o := S9.out; have s10o := S10.out; have z10o := Z10.out; have s12o := S12.out; have s13o := S13.out; have s14o := S14.out; have s15o := S15.out; have s16o := S16.out; omega) (by have sz0o := SZ0.out; have sz1o := SZ1.out; have hloo := hlo.out; have s3o := S3.out; have s4o := S4.out; have z6o := Z6.out; have s6o := S6.out; have s7o := S7.out; have z8o := Z8.out; have s9o := S9.out; have s10o := S10.out; have z10o := Z10.out; have s12o := S12.out; have s13o := S13.out; have s14o := S14.out; have s15o := S15.out; have s16o := S16.out; omega)))
    replace OX14 := Lib.hid (OX14.out.kept (hb.kept (by have sz0o := SZ0.out; have sz1o := SZ1.out; have hloo := hlo.out; have s3o := S3.out; have s4o := S4.out; have z6o := Z6.out; have s6o := S6.out; have s7o := S7.out; have z8o := Z8.out; have s9o := S9.out; have s10o := S10.out; have z10o := Z10.out; have s12o := S12.out; have s13o := S13.out; have s14o := S14.out; have s15o := S15.out; have s16o := S16.out; omega) (by have sz0o := SZ0.out; have sz1o := SZ1.out; have hloo := hlo.out; have s3o := S3.out; have s4o := S4.out; have z6o := Z6.out; have s6o := S6.out; have s7o := S7.out; have z8o := Z8.out; have s9o := S9.out; have s10o := S10.out; have z10o := Z10.out; have s12o := S12.out; have s13o := S13.out; have s14o := S14.out; have s15o := S15.out; have s16o := S16.out; omega)))
    replace C := Lib.hid (C.out.trans (Only.below hb (by have sz0o := SZ0.out; have sz1o := SZ1.out; have hloo := hlo.out; have s3o := S3.out; have s4o := S4.out; have z6o := Z6.out; have s6o := S6.out; have s7o := S7.out; have z8o := Z8.out; have s9o := S9.out; have s10o := S10.out; have z10o := Z10.out; have s12o := S12.out; have s13o := S13.out; have s14o := S14.out; have s15o := S15.out; have s16o := S16.out; omega) C.out.size))
    have S17 : Hid (w15.heap.size ≤ w16.heap.size) := Lib.hid hb.size
    have M16 := Lib.hid hm; clear hm hb
    have q0K1 := K1.out.c0; have q1K1 := K1.out.c1; have q2K1 := K1.out.c2; have qlK1 := K1.out.lt
    have q0K2 := K2.out.c0; have q1K2 := K2.out.c1; have q2K2 := K2.out.c2; have qlK2 := K2.out.lt
    have q0KB := KB.out.c0; have q1KB := KB.out.c1; have q2KB := KB.out.c2; have qlKB := KB.out.lt
    have q0K6 := K6.out.c0; have q1K6 := K6.out.c1; have q2K6 := K6.out.c2; have qlK6 := K6.out.lt
    have q0K8 := K8.out.c0; have q1K8 := K8.out.c1; have q2K8 := K8.out.c2; have qlK8 := K8.out.lt
    have q0K10 := K10.out.c0; have q1K10 := K10.out.c1; have q2K10 := K10.out.c2; have qlK10 := K10.out.lt
    go_wp2_with fail
    clear q0K1 q1K1 q2K1 qlK1 q0K2 q1K2 q2K2 qlK2 q0KB q1KB q2KB qlKB q0K6 q1K6 q2K6 qlK6 q0K8 q1K8 q2K8 qlK8 q0K10 q1K10 q2K10 qlK10
    refine (markC _ _ _ _ _ z1p z1s z1w (1 + ((z0p.length + z0s.length + z0w.length : Nat) : Int)) w16 OX7.out (by omega) (by omega) (by omega) (by omega)).mono ?_
    rintro e w17 ⟨rfl, hm, hb⟩
    replace K1 := Lib.hid (K1.out.kept (hb.kept (by have sz0o := SZ0.out; have sz1o := SZ1.out; have hloo := hlo.out; have s3o := S3.out; have s4o := S4.out; have z6o := Z6.out; have s6o := S6.out; have s7o := S7.out; have z8o := Z8.out; have s9o := S9.out; have s10o := S10.out; have z10o := Z10.out; have s12o := S12.out; have s13o := S13.out; have s14o := S14.out; have s15o := S15.out; have s16o := S16.out; have s17o := S17.out; omega) (by have sz0o := SZ0.out; have sz1o := SZ1.out; have hloo := hlo.out; have s3o := S3.out; have s4o := S4.out; have z6o := Z6.out; have s6o := S6.out; have s7o := S7.out; have z8o := Z8.out; have s9o := S9.out; have s10o := S10.out; have z10o := Z10.out; have s12o := S12.out; have s13o := S13.out; have s14o := S14.out; have s15o := S15.out; have s16o := S16.out; have s17o := S17.out; omega)))
    replace K2 := Lib.hid (K2.out.kept (hb.kept (by have sz0o := SZ0.out; have sz1o := SZ1.out; have hloo := hlo.out; have s3o := S3.out; have s4o := S4.out; have z6o := Z6.out; have s6o := S6.out; have s7o := S7.out; have z8o := Z8.out; have s9o := S9.out; have s10o := S10.out; have z10o := Z10.out; have s12o := S12.out; have s13o := S13.out; have s14o := S14.out; have s15o := S15.out; have s16o := S16.out; have s17o := S17.out; omega) (by have sz0o := SZ0.out; have sz1o := SZ1.out; have hloo := hlo.out; have s3o := S3.out; have s4o := S4.out; have z6o := Z6.out; have s6o := S6.out; have s7o := S7.out; have z8o := Z8.out; have s9o := S9.out; have s10o := S10.out; have z10o := Z10.out; have s12o := S12.out; have s13o := S13.out; have s14o := S14.out; have s15o := S15.out; have s16o := S16.out; have s17o := S17.out; omega)))
    replace KB := Lib.hid (KB.out.kept (hb.kept (by have sz0o := SZ0.out; have sz1o := SZ1.out; have hloo := hlo.out; have s3o := S3.out; have s4o := S4.out; have z6o := Z6.out; have s6o := S6.out; have s7o := S7.out; have z8o := Z8.out; have s9o := S9.out; have s10o := S10.out; have z10o := Z10.out; have s12o := S12.out; have s13o := S13.out; have s14o := S14.out; have s15o := S15.out; have s16o := S16.out; have s17o := S17.out; omega) (by have sz0o := SZ0.out; have sz1o := SZ1.out; have hloo := hlo.out; have s3o := S3.out; have s4o := S4.out; have z6o := Z6.out; have s6o := S6.out; have s7o := S7.out; have z8o := Z8.out; have s9o := S9.out; have s10o := S10.out; have z10o := Z10.out; have s12o := S12.out; have s13o := S13.out; have s14o := S14.out; have s15o := S15.out; have s16o := S16.out; have s17o := S17.out; omega)))
    replace OW := Lib.hid (OW.out.kept (hb.kept (by have sz0o := SZ0.out; have sz1o := SZ1.out; have hloo := hlo.out; have s3o := S3.out; have s4o := S4.out; have z6o := Z6.out; have s6o := S6.out; have s7o := S7.out; have z8o := Z8.out; have s9o := S9.out; have s10o := S10.out; have z10o := Z10.out; have s12o := S12.out; have s13o := S13.out; have s14o := S14.out; have s15o := S15.out; have s16o := S16.out; have s17o := S17.out; omega) (by have sz0o := SZ0.out; have sz1o := SZ1.out; have hloo := hlo.out; have s3o := S3.out; have s4o := S4.out; have z6o := Z6.out; have s6o := S6.out; have s7o := S7.out; have z8o := Z8.out; have s9o := S9.out; have s10o := S10.out; have z10o := Z10.out; have s12o := S12.out; have s13o := S13.out; have s14o := S14.out; have s15o := S15.out; have s16o := S16.out; have s17o := S17.out; omega)))
    replace K6 := Lib.hid (K6.out.kept (hb.kept (by have sz0o := SZ0.out; have sz1o := SZ1.out; have hloo := hlo.out; have s3o := S3.out; have s4o := S4.out; have z6o := Z6.out; have s6o := S6.out; have s7o := S7.out; have z8o := Z8.out; have s9o := S9.out; have s10o := S10.out; have z10o := Z10.out; have s12o := S12.out; have s13o := S13.out; have s14o := S14.out; have s15o := S15.out; have s16o := S16.out; have s17o := S17.out; omega) (by have sz0o := SZ0.out; have sz1o := SZ1.out; have hloo := hlo.out; have s3o := S3.out; have s4o := S4.out; have z6o := Z6.out; have s6o := S6.out; have s7o := S7.out; have z8o := Z8.out; have s9o := S9.out; have s10o := S10.out; have z10o := Z10.out; have s12o := S12.out; have s13o := S13.out; have s14o := S14.out; have s15o := S15.out; have s16o := S16.out; have s17o := S17.out; omega)))
    replace K8 := Lib.hid (K8.out.kept (hb.kept (by have sz0o := SZ0.out; have sz1o := SZ1.out; have hloo := hlo.out; have s3o := S3.out; have s4o := S4.out; have z6o := Z6.out; have s6o := S6.out; have s7o := S7.out; have z8o := Z8.out; have s9o := S9.out; have s10o := S10.out; have z10o := Z10.out; have s12o := S12.out; have s13o := S13.out; have s14o := S14.out; have s15o := S15.out; have s16o := S16.out; have s17o := S17.out; omega) (by have sz0o := SZ0.out; have sz1o := SZ1.out; have hloo := hlo.out; have s3o := S3.out; have s4o := S4.out; have z6o := Z6.out; have s6o := S6.out; have s7o := S7.out; have z8o := Z8.out; have s9o := S9.out; have s10o := S10.out; have z10o := Z10.out; have s12o := S12.out; have s13o := S13.out; have s14o := S14.out; have s15o := S15.out; have s16o := S16.out; have s17o := S17.out; omega)))
    replace OR9_0 := Lib.hid (OR9_0.out.kept (hb.kept (by have sz0o := SZ0.out; have sz1o := SZ1.out; have hloo := hlo.out; have s3o := S3.out; have s4o := S4.out; have z6o := Z6.out; have s6o := S6.out; have s7o := S7.out; have z8o := Z8.out; have s9o := S9.out; have s10o := S10.out; have z10o := Z10.out; have s12o := S12.out; have s13o := S13.out; have s14o := S14.out; have s15o := S15.out; have s16o := S16.out; have s17o := S17.out; omega) (by have sz0o := SZ0.out; have sz1o := SZ1.out; have hloo := hlo.out; have s3o := S3.out; have s4o := S4.out; have z6o := Z6.out; have s6o := S6.out; have s7o := S7.out; have z8o := Z8.out; have s9o := S9.out; have s10o := S10.out; have z10o := Z10.out; have s12o := S12.out; have s13o := S13.out; have s14o := S14.out; have s15o := S15.out; have s16o := S16.out; have s17o := S17.out; omega)))
    replace K10 := Lib.hid (K10.out.kept (hb.kept (by have sz0o := SZ0.out; have sz1o := SZ1.out; have hloo := hlo.out; have s3o := S3.out; have s4o := S4.out; have z6o := Z6.out; have s6o := S6.out; have s7o := S7.out; have z8o := Z8.out; have s9o := S9.out; have s10o := S10.out; have z10o := Z10.out; have s12o := S12.out; have s13o := S13.out; have s14o := S14.out; have s15o := S15.out; have s16o := S16.out; have s17o := S17.out; omega) (by have sz0o := SZ0.out; have sz1o := SZ1.out; have hloo := hlo.out; have s3o := S3.out; have s4o := S4.out; have z6o := Z6.out; have s6o := S6.out; have s7o := S7.out; have z8o := Z8.out; have s9o := S9.out; have s10o := S10.out; have z10o := Z10.out; have s12o := S12.out; have s13o := S13.out; have s14o := S14.out; have s15o := S15.out; have s16o := S16.out; have s17o := S17.out; omega)))
    replace OX12 := Lib.hid (OX12.out.kept (hb.kept (by have sz0o := SZ0.out; have sz1o := SZ1.out; have hloo := hlo.out; have s3o := S3.out; have s4o := S4.out; have z6o := Z6.out; have s6o := S6.out; have s7o := S7.out; have z8o := Z8.out; have s9o := S9.out; have s10o := S10.out; have z10o := Z10.out; have s12o := S12.out; have s13o := S13.out; have s14o := S14.out; have s15o := S15.out; have s16o := S16.out; have s17o := S17.out; omega) (by have sz0o := SZ0.out; have sz1o := SZ1.out; have hloo := hlo.out; have s3o := S3.out; have s4o := S4.out; have z6o := Z6.out; have s6o := S6.out; have s7o := S7.out; have z8o := Z8.out; have s9o := S9.out; have s10o := S10.out; have z10o := Z10.out; have s12o := S12.out; have s13o := S13.out; have s14o := S14.out; have s15o := S15.out; have s16o := S16.out; have s17o := S17.out; omega)))
    replace OX14 := Lib.hid (OX14.out.kept (hb.kept (by have sz0o := SZ0.out; have sz1o := SZ1.out; have hloo := hlo.out; have s3o := S3.out; have s4o := S4.out; have z6o := Z6.out; have s6o := S6.out; have s7o := S7.out; have z8o := Z8.out; have s9o := S9.out; have s10o := S10.out; have z10o := Z10.out; have s12o := S12.out; have s13o := S13.out; have s14o := S14.out; have s15o := S15.out; have s16o := S16.out; have s17o := S17.out; omega) (by have sz0o := SZ0.out; have sz1o := SZ1.out; have hloo := hlo.out; have s3o := S3.out; have s4o := S4.out; have z6o := Z6.out; have s6o := S6.out; have s7o := S7.out; have z8o := Z8.out; have s9o := S9.out; have s10o := S10.out; have z10o := Z10.out; have s12o := S12.out; have s13o := S13.out; have s14o := S14.out; have s15o := S15.out; have s16o := S16.out; have s17o := S17.out; omega)))
    replace M16 := Lib.hid (M16.out.kept (hb.kept (by have sz0o := SZ0.out; have sz1o := SZ1.out; have hloo := hlo.out; have s3o := S3.out; have s4o := S4.out; have z6o := Z6.out; have s6o := S6.out; have s7o := S7.out; have z8o := Z8.out; have s9o := S9.out; have s10o := S10.out; have z10o := Z10.out; have s12o := S12.out; have s13o := S13.out; have s14o := S14.out; have s15o := S15.out; have s16o := S16.out; have s17o := S17.out; omega) (by have sz0o := SZ0.out; have sz1o := SZ1.out; have hloo := hlo.out; have s3o := S3.out; have s4o := S4.out; have z6o := Z6.out; have s6o := S6.out; have s7o := S7.out; have z8o := Z8.out; have s9o := S9.out; have s10o := S10.out; have z10o := Z10.out; have s12o := S12.out; have s13o := S13.out; have s14o := S14.out; have s15o := S15.out; have s16o := S16.out; have s17o := S17.out; omega)))
    replace C := Lib.hid (C.out.trans (Only.below hb (by have sz0o := SZ0.out; have sz1o := SZ1.out; have hloo := hlo.out; have s3o := S3.out; have s4o := S4.out; have z6o := Z6.out; have s6o := S6.out; have s7o := S7.out; have z8o := Z8.out; have s9o := S9.out; have s10o := S10.out; have z10o := Z10.out; have s12o := S12.out; have s13o := S13.out; have s14o := S14.out; have s15o := S15.out; have s16o := S16.out; have s17o := S17.out; omega) C.out.size))
    have S18 : Hid (w16.heap.size ≤ w17.heap.size) := Lib.hid hb.size
    have M17 := Lib.hid hm; clear hm hb
    have q0K1 := K1.out.c0; have q1K1 := K1.out.c1; have q2K1 := K1.out.c2; have qlK1 := K1.out.lt
    have q0K2 := K2.out.c0; have q1K2 := K2.out.c1; have q2K2 := K2.out.c2; have qlK2 := K2.out.lt
    have q0KB := KB.out.c0; have q1KB := KB.out.c1; have q2KB := KB.out.c2; have qlKB := KB.out.lt
    have q0K6 := K6.out.c0; have q1K6 := K6.out.c1; have q2K6 := K6.out.c2; have qlK6 := K6.out.lt
    have q0K8 := K8.out.c0; have q1K8 := K8.out.c1; have q2K8 := K8.out.c2; have qlK8 := K8.out.lt
    have q0K10 := K10.out.c0; have q1K10 := K10.out.c1; have q2K10 := K10.out.c2; have qlK10 := K10.out.lt
    go_wp2_with fail
    clear q0K1 q1K1 q2K1 qlK1 q0K2 q1K2 q2K2 qlK2 q0KB q1KB q2KB qlKB q0K6 q1K6 q2K6 qlK6 q0K8 q1K8 q2K8 qlK8 q0K10 q1K10 q2K10 qlK10
    refine (eqC _ _ _ _ _ _ L0p L0s L0w w17 (OR9_0.out.reads) (OW.out.reads) (by omega) (by omega) (by omega)).mono ?_
    rintro e w18 ⟨rfl, hb⟩
    replace K1 := Lib.hid (K1.out.stay hb)
    replace K2 := Lib.hid (K2.out.stay hb)
    replace KB := Lib.hid (KB.out.stay hb)
    replace OW := Lib.hid (OW.out.stay hb)
    replace K6 := Lib.hid (K6.out.stay hb)
    replace K8 := Lib.hid (K8.out.stay hb)
    replace OR9_0 := Lib.hid (OR9_0.out.stay hb)
    replace K10 := Lib.hid (K10.out.stay hb)
    replace OX12 := Lib.hid (OX12.out.stay hb)
    replace OX14 := Lib.hid (OX14.out.stay hb)
    replace M16 := Lib.hid (M16.out.stay hb)
    replace M17 := Lib.hid (M17.out.stay hb)
    replace C := Lib.hid (C.out.trans (hb.mono C.out.size))
    have S19 : Hid (w17.heap.size ≤ w18.heap.size) := Lib.hid hb.size
    clear hb
    have q0K1 := K1.out.c0; have q1K1 := K1.out.c1; have q2K1 := K1.out.c2; have qlK1 := K1.out.lt
    have q0K2 := K2.out.c0; have q1K2 := K2.out.c1; have q2K2 := K2.out.c2; have qlK2 := K2.out.lt
    have q0KB := KB.out.c0; have q1KB := KB.out.c1; have q2KB := KB.out.c2; have qlKB := KB.out.lt
    have q0K6 := K6.out.c0; have q1K6 := K6.out.c1; have q2K6 := K6.out.c2; have qlK6 := K6.out.lt
    have q0K8 := K8.out.c0; have q1K8 := K8.out.c1; have q2K8 := K8.out.c2; have qlK8 := K8.out.lt
    have q0K10 := K10.out.c0; have q1K10 := K10.out.c1; have q2K10 := K10.out.c2; have qlK10 := K10.out.lt
    go_wp2_with fail
    clear q0K1 q1K1 q2K1 qlK1 q0K2 q1K2 q2K2 qlK2 q0KB q1KB q2KB qlKB q0K6 q1K6 q2K6 qlK6 q0K8 q1K8 q2K8 qlK8 q0K10 q1K10 q2K10 qlK10
    refine (markC _ _ _ _ _ L0p L0s L0w 1 w18 OR9_0.out (by omega) (by omega) (by omega) (by omega)).mono ?_
    rintro e w19 ⟨rfl, hm, hb⟩
    replace K1 := Lib.hid (K1.out.kept (hb.kept (by have sz0o := SZ0.out; have sz1o := SZ1.out; have hloo := hlo.out; have s3o := S3.out; have s4o := S4.out; have z6o := Z6.out; have s6o := S6.out; have s7o := S7.out; have z8o := Z8.out; have s9o := S9.out; have s10o := S10.out; have z10o := Z10.out; have s12o := S12.out; have s13o := S13.out; have s14o := S14.out; have s15o := S15.out; have s16o := S16.out; have s17o := S17.out; have s18o := S18.out; have s19o := S19.out; omega) (by have sz0o := SZ0.out; have sz1o := SZ1.out; have hloo := hlo.out; have s3o := S3.out; have s4o := S4.out; have z6o := Z6.out; have s6o := S6.out; have s7o := S7.out; have z8o := Z8.out; have s9o := S9.out; have s10o := S10.out; have z10o := Z10.out; have s12o := S12.out; have s13o := S13.out; have s14o := S14.out; have s15o := S15.out; have s16o := S16.out; have s17o := S17.out; have s18o := S18.out; have s19o := S19.out; omega)))
    replace K2 := Lib.hid (K2.out.kept (hb.kept (by have sz0o := SZ0.out; have sz1o := SZ1.out; have hloo := hlo.out; have s3o := S3.out; have s4o := S4.out; have z6o := Z6.out; have s6o := S6.out; have s7o := S7.out; have z8o := Z8.out; have s9o := S9.out; have s10o := S10.out; have z10o := Z10.out; have s12o := S12.out; have s13o := S13.out; have s14o := S14.out; have s15o := S15.out; have s16o := S16.out; have s17o := S17.out; have s18o := S18.out; have s19o := S19.out; omega) (by have sz0o := SZ0.out; have sz1o := SZ1.out; have hloo := hlo.out; have s3o := S3.out; have s4o := S4.out; have z6o := Z6.out; have s6o := S6.out; have s7o := S7.out; have z8o := Z8.out; have s9o := S9.out; have s10o := S10.out; have z10o := Z10.out; have s12o := S12.out; have s13o := S13.out; have s14o := S14.out; have s15o := S15.out; have s16o := S16.out; have s17o := S17.out; have s18o := S18.out; have s19o := S19.out; omega)))
    replace KB := Lib.hid (KB.out.kept (hb.kept (by have sz0o := SZ0.out; have sz1o := SZ1.out; have hloo := hlo.out; have s3o := S3.out; have s4o := S4.out; have z6o := Z6.out; have s6o := S6.out; have s7o := S7.out; have z8o := Z8.out; have s9o := S9.out; have s10o := S10.out; have z10o := Z10.out; have s12o := S12.out; have s13o := S13.out; have s14o := S14.out; have s15o := S15.out; have s16o := S16.out; have s17o := S17.out; have s18o := S18.out; have s19o := S19.out; omega) (by have sz0o := SZ0.out; have sz1o := SZ1.out; have hloo := hlo.out; have s3o := S3.out; have s4o := S4.out; have z6o := Z6.out; have s6o := S6.out; have s7o := S7.out; have z8o := Z8.out; have s9o := S9.out; have s10o := S10.out; have z10o := Z10.out; have s12o := S12.out; have s13o := S13.out; have s14o := S14.out; have s15o := S15.out; have s16o := S16.out; have s17o := S17.out; have s18o := S18.out; have s19o := S19.out; omega)))
    replace OW := Lib.hid (OW.out.kept (hb.kept (by have sz0o := SZ0.out; have sz1o := SZ1.out; have hloo := hlo.out; have s3o := S3.out; have s4o := S4.out; have z6o := Z6.out; have s6o := S6.out; have s7o := S7.out; have z8o := Z8.out; have s9o := S9.out; have s10o := S10.out; have z10o := Z10.out; have s12o := S12.out; have s13o := S13.out; have s14o := S14.out; have s15o := S15.out; have s16o := S16.out; have s17o := S17.out; have s18o := S18.out; have s19o := S19.out; omega) (by have sz0o := SZ0.out; have sz1o := SZ1.out; have hloo := hlo.out; have s3o := S3.out; have s4o := S4.out; have z6o := Z6.out; have s6o := S6.out; have s7o := S7.out; have z8o := Z8.out; have s9o := S9.out; have s10o := S10.out; have z10o := Z10.out; have s12o := S12.out; have s13o := S13.out; have s14o := S14.out; have s15o := S15.out; have s16o := S16.out; have s17o := S17.out; have s18o := S18.out; have s19o := S19.out; omega)))
    replace K6 := Lib.hid (K6.out.kept (hb.kept (by have sz0o := SZ0.out; have sz1o := SZ1.out; have hloo := hlo.out; have s3o := S3.out; have s4o := S4.out; have z6o := Z6.out; have s6o := S6.out; have s7o := S7.out; have z8o := Z8.out; have s9o := S9.out; have s10o := S10.out; have z10o := Z10.out; have s12o := S12.out; have s13o := S13.out; have s14o := S14.out; have s15o := S15.out; have s16o := S16.out; have s17o := S17.out; have s18o := S18.out; have s19o := S19.out; omega) (by have sz0o := SZ0.out; have sz1o := SZ1.out; have hloo := hlo.out; have s3o := S3.out; have s4o := S4.out; have z6o := Z6.out; have s6o := S6.out; have s7o := S7.out; have z8o := Z8.out; have s9o := S9.out; have s10o := S10.out; have z10o := Z10.out; have s12o := S12.out; have s13o := S13.out; have s14o := S14.out; have s15o := S15.out; have s16o := S16.out; have s17o := S17.out; have s18o := S18.out; have s19o := S19.out; omega)))
    replace K8 := Lib.hid (K8.out.kept (hb.kept (by have sz0o := SZ0.out; have sz1o := SZ1.out; have hloo := hlo.out; have s3o := S3.out; have s4o := S4.out; have z6o := Z6.out; have s6o := S6.out; have s7o := S7.out; have z8o := Z8.out; have s9o := S9.out; have s10o := S10.out; have z10o := Z10.out; have s12o := S12.out; have s13o := S13.out; have s14o := S14.out; have s15o := S15.out; have s16o := S16.out; have s17o := S17.out; have s18o := S18.out; have s19o := S19.out; omega) (by have sz0o := SZ0.out; have sz1o := SZ1.out; have hloo := hlo.out; have s3o := S3.out; have s4o := S4.out; have z6o := Z6.out; have s6o := S6.out; have s7o := S7.out; have z8o := Z8.out; have s9o := S9.out; have s10o := S10.out; have z10o := Z10.out; have s12o := S12.out; have s13o := S13.out; have s14o := S14.out; have s15o := S15.out; have s16o := S16.out; have s17o := S17.out; have s18o := S18.out; have s19o := S19.out; omega)))
    replace K10 := Lib.hid (K10.out.kept (hb.kept (by have sz0o := SZ0.out; have sz1o := SZ1.out; have hloo := hlo.out; have s3o := S3.out; have s4o := S4.out; have z6o := Z6.out; have s6o := S6.out; have s7o := S7.out; have z8o := Z8.out; have s9o := S9.out; have s10o := S10.out; have z10o := Z10.out; have s12o := S12.out; have s13o := S13.out; have s14o := S14.out; have s15o := S15.out; have s16o := S16.out; have s17o := S17.out; have s18o := S18.out; have s19o := S19.out; omega) (by have sz0o := SZ0.out; have sz1o := SZ1.out; have hloo := hlo.out; have s3o := S3.out; have s4o := S4.out; have z6o := Z6.out; have s6o := S6.out; have s7o := S7.out; have z8o := Z8.out; have s9o := S9.out; have s10o := S10.out; have z10o := Z10.out; have s12o := S12.out; have s13o := S13.out; have s14o := S14.out; have s15o := S15.out; have s16o := S16.out; have s17o := S17.out; have s18o := S18.out; have s19o := S19.out; omega)))
    replace OX12 := Lib.hid (OX12.out.kept (hb.kept (by have sz0o := SZ0.out; have sz1o := SZ1.out; have hloo := hlo.out; have s3o := S3.out; have s4o := S4.out; have z6o := Z6.out; have s6o := S6.out; have s7o := S7.out; have z8o := Z8.out; have s9o := S9.out; have s10o := S10.out; have z10o := Z10.out; have s12o := S12.out; have s13o := S13.out; have s14o := S14.out; have s15o := S15.out; have s16o := S16.out; have s17o := S17.out; have s18o := S18.out; have s19o := S19.out; omega) (by have sz0o := SZ0.out; have sz1o := SZ1.out; have hloo := hlo.out; have s3o := S3.out; have s4o := S4.out; have z6o := Z6.out; have s6o := S6.out; have s7o := S7.out; have z8o := Z8.out; have s9o := S9.out; have s10o := S10.out; have z10o := Z10.out; have s12o := S12.out; have s13o := S13.out; have s14o := S14.out; have s15o := S15.out; have s16o := S16.out; have s17o := S17.out; have s18o := S18.out; have s19o := S19.out; omega)))
    replace OX14 := Lib.hid (OX14.out.kept (hb.kept (by have sz0o := SZ0.out; have sz1o := SZ1.out; have hloo := hlo.out; have s3o := S3.out; have s4o := S4.out; have z6o := Z6.out; have s6o := S6.out; have s7o := S7.out; have z8o := Z8.out; have s9o := S9.out; have s10o := S10.out; have z10o := Z10.out; have s12o := S12.out; have s13o := S13.out; have s14o := S14.out; have s15o := S15.out; have s16o := S16.out; have s17o := S17.out; have s18o := S18.out; have s19o := S19.out; omega) (by have sz0o := SZ0.out; have sz1o := SZ1.out; have hloo := hlo.out; have s3o := S3.out; have s4o := S4.out; have z6o := Z6.out; have s6o := S6.out; have s7o := S7.out; have z8o := Z8.out; have s9o := S9.out; have s10o := S10.out; have z10o := Z10.out; have s12o := S12.out; have s13o := S13.out; have s14o := S14.out; have s15o := S15.out; have s16o := S16.out; have s17o := S17.out; have s18o := S18.out; have s19o := S19.out; omega)))
    replace M16 := Lib.hid (M16.out.kept (hb.kept (by have sz0o := SZ0.out; have sz1o := SZ1.out; have hloo := hlo.out; have s3o := S3.out; have s4o := S4.out; have z6o := Z6.out; have s6o := S6.out; have s7o := S7.out; have z8o := Z8.out; have s9o := S9.out; have s10o := S10.out; have z10o := Z10.out; have s12o := S12.out; have s13o := S13.out; have s14o := S14.out; have s15o := S15.out; have s16o := S16.out; have s17o := S17.out; have s18o := S18.out; have s19o := S19.out; omega) (by have sz0o := SZ0.out; have sz1o := SZ1.out; have hloo := hlo.out; have s3o := S3.out; have s4o := S4.out; have z6o := Z6.out; have s6o := S6.out; have s7o := S7.out; have z8o := Z8.out; have s9o := S9.out; have s10o := S10.out; have z10o := Z10.out; have s12o := S12.out; have s13o := S13.out; have s14o := S14.out; have s15o := S15.out; have s16o := S16.out; have s17o := S17.out; have s18o := S18.out; have s19o := S19.out; omega)))
    replace M17 := Lib.hid (M17.out.kept (hb.kept (by have sz0o := SZ0.out; have sz1o := SZ1.out; have hloo := hlo.out; have s3o := S3.out; have s4o := S4.out; have z6o := Z6.out; have s6o := S6.out; have s7o := S7.out; have z8o := Z8.out; have s9o := S9.out; have s10o := S10.out; have z10o := Z10.out; have s12o := S12.out; have s13o := S13.out; have s14o := S14.out; have s15o := S15.out; have s16o := S16.out; have s17o := S17.out; have s18o := S18.out; have s19o := S19.out; omega) (by have sz0o := SZ0.out; have sz1o := SZ1.out; have hloo := hlo.out; have s3o := S3.out; have s4o := S4.out; have z6o := Z6.out; have s6o := S6.out; have s7o := S7.out; have z8o := Z8.out; have s9o := S9.out; have s10o := S10.out; have z10o := Z10.out; have s12o := S12.out; have s13o := S13.out; have s14o := S14.out; have s15o := S15.out; have s16o := S16.out; have s17o := S17.out; have s18o := S18.out; have s19o := S19.out; omega)))
    replace C := Lib.hid (C.out.trans (Only.below hb (by have sz0o := SZ0.out; have sz1o := SZ1.out; have hloo := hlo.out; have s3o := S3.out; have s4o := S4.out; have z6o := Z6.out; have s6o := S6.out; have s7o := S7.out; have z8o := Z8.out; have s9o := S9.out; have s10o := S10.out; have z10o := Z10.out; have s12o := S12.out; have s13o := S13.out; have s14o := S14.out; have s15o := S15.out; have s16o := S16.out; have s17o := S17.out; have s18o := S18.out; have s19o := S19.out; omega) C.out.size))
    have S20 : Hid (w18.heap.size ≤ w19.heap.size) := Lib.hid hb.size
    have M19 := Lib.hid hm; clear hm hb
    have q0K1 := K1.out.c0; have q1K1 := K1.out.c1; have q2K1 := K1.out.c2; have qlK1 := K1.out.lt
    have q0K2 := K2.out.c0; have q1K2 := K2.out.c1; have q2K2 := K2.out.c2; have qlK2 := K2.out.lt
    have q0KB := KB.out.c0; have q1KB := KB.out.c1; have q2KB := KB.out.c2; have qlKB := KB.out.lt
    have q0K6 := K6.out.c0; have q1K6 := K6.out.c1; have q2K6 := K6.out.c2; have qlK6 := K6.out.lt
    have q0K8 := K8.out.c0; have q1K8 := K8.out.c1; have q2K8 := K8.out.c2; have qlK8 := K8.out.lt
    have q0K10 := K10.out.c0; have q1K10 := K10.out.c1; have q2K10 := K10.out.c2; have qlK10 := K10.out.lt
    go_wp2_with fail
    clear q0K1 q1K1 q2K1 qlK1 q0K2 q1K2 q2K2 qlK2 q0KB q1KB q2KB qlKB q0K6 q1K6 q2K6 qlK6 q0K8 q1K8 q2K8 qlK8 q0K10 q1K10 q2K10 qlK10
    refine (heldC _ _ _ _ _ L0p.length L0s.length L0w.length 1 w19 M19.out (by omega) (by omega) (by omega) (by omega)).mono ?_
    rintro e w20 ⟨rfl, hb⟩
    replace K1 := Lib.hid (K1.out.stay hb)
    replace K2 := Lib.hid (K2.out.stay hb)
    replace KB := Lib.hid (KB.out.stay hb)
    replace OW := Lib.hid (OW.out.stay hb)
    replace K6 := Lib.hid (K6.out.stay hb)
    replace K8 := Lib.hid (K8.out.stay hb)
    replace K10 := Lib.hid (K10.out.stay hb)
    replace OX12 := Lib.hid (OX12.out.stay hb)
    replace OX14 := Lib.hid (OX14.out.stay hb)
    replace M16 := Lib.hid (M16.out.stay hb)
    replace M17 := Lib.hid (M17.out.stay hb)
    replace M19 := Lib.hid (M19.out.stay hb)
    replace C := Lib.hid (C.out.trans (hb.mono C.out.size))
    have S21 : Hid (w19.heap.size ≤ w20.heap.size) := Lib.hid hb.size
    clear hb
    have q0K1 := K1.out.c0; have q1K1 := K1.out.c1; have q2K1 := K1.out.c2; have qlK1 := K1.out.lt
    have q0K2 := K2.out.c0; have q1K2 := K2.out.c1; have q2K2 := K2.out.c2; have qlK2 := K2.out.lt
    have q0KB := KB.out.c0; have q1KB := KB.out.c1; have q2KB := KB.out.c2; have qlKB := KB.out.lt
    have q0K6 := K6.out.c0; have q1K6 := K6.out.c1; have q2K6 := K6.out.c2; have qlK6 := K6.out.lt
    have q0K8 := K8.out.c0; have q1K8 := K8.out.c1; have q2K8 := K8.out.c2; have qlK8 := K8.out.lt
    have q0K10 := K10.out.c0; have q1K10 := K10.out.c1; have q2K10 := K10.out.c2; have qlK10 := K10.out.lt
    go_wp2_with fail
    clear q0K1 q1K1 q2K1 qlK1 q0K2 q1K2 q2K2 qlK2 q0KB q1KB q2KB qlKB q0K6 q1K6 q2K6 qlK6 q0K8 q1K8 q2K8 qlK8 q0K10 q1K10 q2K10 qlK10
    have RR := Lib.hid ((R0.out.below C.out).more C.out.size)
    go_cut [15, 16] (fun s15 s16 wx => ∃ (g lo : Nat) (aa0 aa1 aa2 : Option Addr) (cc0 cc1 cc2 : Nat), s15 = .pointer (some ⟨g, 0, none⟩) ∧ s16 = .int .i64 K1_ ∧ Hid (CBox wx g (.slice aa0 L0p.length cc0) (.slice aa1 L0s.length cc1) (.slice aa2 L0w.length cc2)) ∧ Hid (OwnC wx lo wx.heap.size (.slice aa0 L0p.length cc0) (.slice aa1 L0s.length cc1) (.slice aa2 L0w.length cc2) L0p L0s L0w) ∧ Hid (Below w20.heap.size w20 wx) ∧ Hid (w20.heap.size ≤ lo))
    case first =>
      clear KB OW K6 K8 K10 OX12 OX14 M16 M17 M19
      have D : Hid (Below w20.heap.size w20 w20) := Lib.hid (Below.refl _ _)
      refine wp_region_held_drew (S := fun w' => w'.cell? ⟨w.heap.size, 0, none⟩ = some (.slice A0p z0p.length c0p) ∧ w'.cell? ⟨w.heap.size, 1, none⟩ = some (.slice A0s z0s.length c0s) ∧ w'.cell? ⟨w.heap.size, 2, none⟩ = some (.slice A0w z0w.length c0w) ∧ w'.cell? ⟨w.heap.size + 1, 0, none⟩ = some (.slice A1p z1p.length c1p) ∧ w'.cell? ⟨w.heap.size + 1, 1, none⟩ = some (.slice A1s z1s.length c1s) ∧ w'.cell? ⟨w.heap.size + 1, 2, none⟩ = some (.slice A1w z1w.length c1w)) (by kernel_rfl) ⟨K1.out.c0, K1.out.c1, K1.out.c2, K2.out.c0, K2.out.c1, K2.out.c2⟩ (fun hHeld => ?_)
      refine takeY 0 _ (v := ?_) rfl rfl (by kernel_rfl) (by kernel_rfl) (by kernel_rfl) (fun _ _ _ h => h) (by kernel_rfl) ?_ (by assumption) ?_
      rotate_left 1
      · intro w hSw; (try dsimp only at hSw); go_simp; (try with_reducible rfl)
      try simp only [Act.put, List.setIfInBounds_toArray, List.set_cons_zero, List.set_cons_succ]
      refine takeY 2 _ (v := ?_) rfl rfl (by kernel_rfl) (by kernel_rfl) (by kernel_rfl) (fun _ _ _ h => h) (by kernel_rfl) ?_ (by assumption) ?_
      rotate_left 1
      · intro w hSw; (try dsimp only at hSw); go_simp; (try with_reducible rfl)
      try simp only [Act.put, List.setIfInBounds_toArray, List.set_cons_zero, List.set_cons_succ]
      refine wpAnyH_ready (rs := [1, 8]) (by kernel_rfl) (by simp) ?_
      refine AllReadyH.cons rfl (fun K hK => ?_) (AllReadyH.cons rfl (fun K hK => ?_) AllReadyH.nil)
      · go_simp
        refine (toC_drew _ _ _ z0p z0s z0w w20 RR.out hq0p hq0s hq0w).mono ?_
        rintro e w21 ⟨x21p, x21s, x21w, rfl, ho, hb⟩
        obtain ⟨xa21p, xc21p, xa21s, xc21s, xa21w, xc21w, rfl, rfl, rfl⟩ := ho.form
        replace K1 := Lib.hid (K1.out.stay hb)
        replace K2 := Lib.hid (K2.out.stay hb)
        replace D := Lib.hid (D.out.trans (hb.mono D.out.size))
        replace C := Lib.hid (C.out.trans (hb.mono C.out.size))
        have S22 : Hid (w20.heap.size ≤ w21.heap.size) := Lib.hid hb.size
        have OX21 := Lib.hid ho; clear ho
        clear hb
        refine hK.out _ _ ⟨K1.out.c0, K1.out.c1, K1.out.c2, K2.out.c0, K2.out.c1, K2.out.c2⟩ (fun hHeld => ?_)
        clear hK K
        try simp only [Act.put, List.setIfInBounds_toArray, List.set_cons_zero, List.set_cons_succ]
        refine wpAnyH_ready (rs := [3, 8]) (by kernel_rfl) (by simp) ?_
        refine AllReadyH.cons rfl (fun K hK => ?_) (AllReadyH.cons rfl (fun K hK => ?_) AllReadyH.nil)
        · go_simp
          refine (toC _ _ _ z1p z1s z1w w21 ((R1.out.below C.out).more C.out.size) hq1p hq1s hq1w).mono ?_
          rintro e w22 ⟨x22p, x22s, x22w, rfl, ho, hb⟩
          obtain ⟨xa22p, xc22p, xa22s, xc22s, xa22w, xc22w, rfl, rfl, rfl⟩ := ho.form
          replace K1 := Lib.hid (K1.out.stay hb)
          replace K2 := Lib.hid (K2.out.stay hb)
          replace OX21 := Lib.hid (OX21.out.stay hb)
          replace D := Lib.hid (D.out.trans (hb.mono D.out.size))
          replace C := Lib.hid (C.out.trans (hb.mono C.out.size))
          have S23 : Hid (w21.heap.size ≤ w22.heap.size) := Lib.hid hb.size
          have OX22 := Lib.hid ho; clear ho
          clear hb
          refine hK.out _ _ ⟨K1.out.c0, K1.out.c1, K1.out.c2, K2.out.c0, K2.out.c1, K2.out.c2⟩ (fun hHeld => ?_)
          clear hK K
          try simp only [Act.put, List.setIfInBounds_toArray, List.set_cons_zero, List.set_cons_succ]
          refine wpAnyH_ready (rs := [4, 8]) (by kernel_rfl) (by simp) ?_
          refine AllReadyH.cons rfl (fun K hK => ?_) (AllReadyH.cons rfl (fun K hK => ?_) AllReadyH.nil)
          · go_simp
            refine (hid_out (HI w22 (.slice xa21p z0p.length xc21p) (.slice xa21s z0s.length xc21s) (.slice xa21w z0w.length xc21w) (.slice xa22p z1p.length xc22p) (.slice xa22s z1s.length xc22s) (.slice xa22w z1w.length xc22w) (OX21.out.reads) (OX22.out.reads))).mono ?_
            rintro e w23 ⟨r23_0p, r23_0s, r23_0w, rfl, ho0, hb⟩
            obtain ⟨ra23_0p, rc23_0p, ra23_0s, rc23_0s, ra23_0w, rc23_0w, rfl, rfl, rfl⟩ := ho0.form
            replace K1 := Lib.hid (K1.out.stay hb)
            replace K2 := Lib.hid (K2.out.stay hb)
            replace OX21 := Lib.hid (OX21.out.stay hb)
            replace OX22 := Lib.hid (OX22.out.stay hb)
            replace D := Lib.hid (D.out.trans (hb.mono D.out.size))
            replace C := Lib.hid (C.out.trans (hb.mono C.out.size))
            have S24 : Hid (w22.heap.size ≤ w23.heap.size) := Lib.hid hb.size
            have OR23_0 := Lib.hid ho0; clear ho0
            clear hb
            refine hK.out _ _ ⟨K1.out.c0, K1.out.c1, K1.out.c2, K2.out.c0, K2.out.c1, K2.out.c2⟩ (fun hHeld => ?_)
            clear hK K
            try simp only [Act.put, List.setIfInBounds_toArray, List.set_cons_zero, List.set_cons_succ]
            refine takeY 5 _ (v := ?_) rfl rfl (by kernel_rfl) (by kernel_rfl) (by kernel_rfl) (fun _ _ _ h => h) (by kernel_rfl) ?_ (by assumption) ?_
            rotate_left 1
            · intro w hSw; (try dsimp only at hSw); go_simp; (try with_reducible rfl)
            try simp only [Act.put, List.setIfInBounds_toArray, List.set_cons_zero, List.set_cons_succ]
            refine takeY 6 _ (v := ?_) rfl rfl (by kernel_rfl) (by kernel_rfl) (by kernel_rfl) (fun _ _ _ h => h) (by kernel_rfl) ?_ (by assumption) ?_
            rotate_left 1
            · intro w hSw; (try dsimp only at hSw); go_simp; (try with_reducible rfl)
            try simp only [Act.put, List.setIfInBounds_toArray, List.set_cons_zero, List.set_cons_succ]
            refine takeY 7 _ (v := ?_) rfl rfl (by kernel_rfl) (by kernel_rfl) (by kernel_rfl) (fun _ _ _ h => h) (by kernel_rfl) ?_ (by assumption) ?_
            rotate_left 1
            · intro w hSw; (try dsimp only at hSw); go_simp; (try with_reducible rfl)
            try simp only [Act.put, List.setIfInBounds_toArray, List.set_cons_zero, List.set_cons_succ]
            refine wpAnyH_ready (rs := [8]) (by kernel_rfl) (by simp) ?_
            refine AllReadyH.cons rfl (fun K hK => ?_) AllReadyH.nil
            go_simp
            obtain ⟨w24, HE24⟩ : ∃ W, W = ((w23).alloc (.cells #[.slice none 0 0, .slice none 0 0, .slice none 0 0] 28)) := ⟨_, rfl⟩
            rw [← HE24]
            have hb : Below w23.heap.size w23 w24 := by rw [HE24]; exact below_box2 _ _
            have hq : CBox w24 w23.heap.size (.slice none 0 0) (.slice none 0 0) (.slice none 0 0) := by rw [HE24]; exact CBox.new _ _ _ _ _
            have hz : w23.heap.size + 1 ≤ w24.heap.size := by rw [HE24]; simp
            replace K1 := Lib.hid (K1.out.stay hb)
            replace K2 := Lib.hid (K2.out.stay hb)
            replace OX21 := Lib.hid (OX21.out.stay hb)
            replace OX22 := Lib.hid (OX22.out.stay hb)
            replace OR23_0 := Lib.hid (OR23_0.out.stay hb)
            replace D := Lib.hid (D.out.trans (hb.mono D.out.size))
            replace C := Lib.hid (C.out.trans (hb.mono C.out.size))
            have S25 : Hid (w23.heap.size ≤ w24.heap.size) := Lib.hid hb.size
            have Z24 : Hid (w23.heap.size + 1 ≤ w24.heap.size) := Lib.hid hz
            have KB := Lib.hid hq; clear hq hb hz HE24
            refine hK.out _ _ ⟨K1.out.c0, K1.out.c1, K1.out.c2, K2.out.c0, K2.out.c1, K2.out.c2⟩ (fun hHeld => ?_)
            clear hK K
            try simp only [Act.put, List.setIfInBounds_toArray, List.set_cons_zero, List.set_cons_succ]
            have y0 := KB.out.c0; have y1 := KB.out.c1; have y2 := KB.out.c2; have y3 := KB.out.f0; have y4 := KB.out.f1; have y5 := KB.out.f2; have y6 := KB.out.lt
            refine wpAnyH_ready (rs := [9]) (by kernel_rfl) (by simp) ?_
            refine AllReadyH.cons rfl (fun K hK => ?_) AllReadyH.nil
            go_simp
            obtain ⟨w25, HE25⟩ : ∃ W, W = ((w24.setCell ⟨w23.heap.size, 0, none⟩ (.slice ra23_0p L0p.length rc23_0p)).setCell ⟨w23.heap.size, 1, none⟩ (.slice ra23_0s L0s.length rc23_0s)).setCell ⟨w23.heap.size, 2, none⟩ (.slice ra23_0w L0w.length rc23_0w) := ⟨_, rfl⟩
            rw [← HE25]
            have KB2 : Hid (CBox w25 (w23.heap.size) (.slice ra23_0p L0p.length rc23_0p) (.slice ra23_0s L0s.length rc23_0s) (.slice ra23_0w L0w.length rc23_0w)) := Lib.hid (by rw [HE25]; exact CBox.set3 KB.out _ _ _)
            replace K1 := Lib.hid (K1.out.other3 (g := w23.heap.size) (by have sz0o := SZ0.out; have sz1o := SZ1.out; have hloo := hlo.out; have s3o := S3.out; have s4o := S4.out; have z6o := Z6.out; have s6o := S6.out; have s7o := S7.out; have z8o := Z8.out; have s9o := S9.out; have s10o := S10.out; have z10o := Z10.out; have s12o := S12.out; have s13o := S13.out; have s14o := S14.out; have s15o := S15.out; have s16o := S16.out; have s17o := S17.out; have s18o := S18.out; have s19o := S19.out; have s20o := S20.out; have s21o := S21.out; have s22o := S22.out; have s23o := S23.out; have s24o := S24.out; have s25o := S25.out; have z24o := Z24.out; omega) (.slice ra23_0p L0p.length rc23_0p) (.slice ra23_0s L0s.length rc23_0s) (.slice ra23_0w L0w.length rc23_0w)); rw [← HE25] at K1
            replace K2 := Lib.hid (K2.out.other3 (g := w23.heap.size) (by have sz0o := SZ0.out; have sz1o := SZ1.out; have hloo := hlo.out; have s3o := S3.out; have s4o := S4.out; have z6o := Z6.out; have s6o := S6.out; have s7o := S7.out; have z8o := Z8.out; have s9o := S9.out; have s10o := S10.out; have z10o := Z10.out; have s12o := S12.out; have s13o := S13.out; have s14o := S14.out; have s15o := S15.out; have s16o := S16.out; have s17o := S17.out; have s18o := S18.out; have s19o := S19.out; have s20o := S20.out; have s21o := S21.out; have s22o := S22.out; have s23o := S23.out; have s24o := S24.out; have s25o := S25.out; have z24o := Z24.out; omega) (.slice ra23_0p L0p.length rc23_0p) (.slice ra23_0s L0s.length rc23_0s) (.slice ra23_0w L0w.length rc23_0w)); rw [← HE25] at K2
            have OW := Lib.hid (OR23_0.out.kept (Kept.set3 (g := w23.heap.size) (by have sz0o := SZ0.out; have sz1o := SZ1.out; have hloo := hlo.out; have s3o := S3.out; have s4o := S4.out; have z6o := Z6.out; have s6o := S6.out; have s7o := S7.out; have z8o := Z8.out; have s9o := S9.out; have s10o := S10.out; have z10o := Z10.out; have s12o := S12.out; have s13o := S13.out; have s14o := S14.out; have s15o := S15.out; have s16o := S16.out; have s17o := S17.out; have s18o := S18.out; have s19o := S19.out; have s20o := S20.out; have s21o := S21.out; have s22o := S22.out; have s23o := S23.out; have s24o := S24.out; have s25o := S25.out; have z24o := Z24.out; omega) (.slice ra23_0p L0p.length rc23_0p) (.slice ra23_0s L0s.length rc23_0s) (.slice ra23_0w L0w.length rc23_0w))).wide; rw [← HE25] at OW
            replace C := Lib.hid (Below.set3 (g := w23.heap.size) C.out (by have sz0o := SZ0.out; have sz1o := SZ1.out; have hloo := hlo.out; have s3o := S3.out; have s4o := S4.out; have z6o := Z6.out; have s6o := S6.out; have s7o := S7.out; have z8o := Z8.out; have s9o := S9.out; have s10o := S10.out; have z10o := Z10.out; have s12o := S12.out; have s13o := S13.out; have s14o := S14.out; have s15o := S15.out; have s16o := S16.out; have s17o := S17.out; have s18o := S18.out; have s19o := S19.out; have s20o := S20.out; have s21o := S21.out; have s22o := S22.out; have s23o := S23.out; have s24o := S24.out; have s25o := S25.out; have z24o := Z24.out; omega) (.slice ra23_0p L0p.length rc23_0p) (.slice ra23_0s L0s.length rc23_0s) (.slice ra23_0w L0w.length rc23_0w)); rw [← HE25] at C
            replace D := Lib.hid (Below.set3 (g := w23.heap.size) D.out (by have sz0o := SZ0.out; have sz1o := SZ1.out; have hloo := hlo.out; have s3o := S3.out; have s4o := S4.out; have z6o := Z6.out; have s6o := S6.out; have s7o := S7.out; have z8o := Z8.out; have s9o := S9.out; have s10o := S10.out; have z10o := Z10.out; have s12o := S12.out; have s13o := S13.out; have s14o := S14.out; have s15o := S15.out; have s16o := S16.out; have s17o := S17.out; have s18o := S18.out; have s19o := S19.out; have s20o := S20.out; have s21o := S21.out; have s22o := S22.out; have s23o := S23.out; have s24o := S24.out; have s25o := S25.out; have z24o := Z24.out; omega) (.slice ra23_0p L0p.length rc23_0p) (.slice ra23_0s L0s.length rc23_0s) (.slice ra23_0w L0w.length rc23_0w)); rw [← HE25] at D
            clear y0 y1 y2 y3 y4 y5 y6
            refine hK.out _ _ ⟨K1.out.c0, K1.out.c1, K1.out.c2, K2.out.c0, K2.out.c1, K2.out.c2⟩ (fun hHeld => ?_)
            clear hK K
            try simp only [Act.put, List.setIfInBounds_toArray, List.set_cons_zero, List.set_cons_succ]
            refine takeY 10 _ (v := ?_) rfl rfl (by kernel_rfl) (by kernel_rfl) (by kernel_rfl) (fun _ _ _ h => h) (by kernel_rfl) ?_ (by assumption) ?_
            rotate_left 1
            · intro w hSw; (try dsimp only at hSw); go_simp; (try with_reducible rfl)
            try simp only [Act.put, List.setIfInBounds_toArray, List.set_cons_zero, List.set_cons_succ]
            refine wpAnyH_done (by kernel_rfl) ?_ _
            go_wp2_with fail
            go_meet
            exact ⟨w23.heap.size, w22.heap.size, _, _, _, _, _, _, rfl, rfl, KB2, OW, D, Lib.hid (by have sz0o := SZ0.out; have sz1o := SZ1.out; have hloo := hlo.out; have s3o := S3.out; have s4o := S4.out; have z6o := Z6.out; have s6o := S6.out; have s7o := S7.out; have z8o := Z8.out; have s9o := S9.out; have s10o := S10.out; have z10o := Z10.out; have s12o := S12.out; have s13o := S13.out; have s14o := S14.out; have s15o := S15.out; have s16o := S16.out; have s17o := S17.out; have s18o := S18.out; have s19o := S19.out; have s20o := S20.out; have s21o := S21.out; have s22o := S22.out; have s23o := S23.out; have s24o := S24.out; have s25o := S25.out; have z24o := Z24.out; omega)⟩
          · go_simp
            obtain ⟨w23, HE23⟩ : ∃ W, W = ((w22).alloc (.cells #[.slice none 0 0, .slice none 0 0, .slice none 0 0] 28)) := ⟨_, rfl⟩
            rw [← HE23]
            have hb : Below w22.heap.size w22 w23 := by rw [HE23]; exact below_box2 _ _
            have hq : CBox w23 w22.heap.size (.slice none 0 0) (.slice none 0 0) (.slice none 0 0) := by rw [HE23]; exact CBox.new _ _ _ _ _
            have hz : w22.heap.size + 1 ≤ w23.heap.size := by rw [HE23]; simp
            replace K1 := Lib.hid (K1.out.stay hb)
            replace K2 := Lib.hid (K2.out.stay hb)
            replace OX21 := Lib.hid (OX21.out.stay hb)
            replace OX22 := Lib.hid (OX22.out.stay hb)
            replace D := Lib.hid (D.out.trans (hb.mono D.out.size))
            replace C := Lib.hid (C.out.trans (hb.mono C.out.size))
            have S24 : Hid (w22.heap.size ≤ w23.heap.size) := Lib.hid hb.size
            have Z23 : Hid (w22.heap.size + 1 ≤ w23.heap.size) := Lib.hid hz
            have KB := Lib.hid hq; clear hq hb hz HE23
            refine hK.out _ _ ⟨K1.out.c0, K1.out.c1, K1.out.c2, K2.out.c0, K2.out.c1, K2.out.c2⟩ (fun hHeld => ?_)
            clear hK K
            try simp only [Act.put, List.setIfInBounds_toArray, List.set_cons_zero, List.set_cons_succ]
            refine wpAnyH_ready (rs := [4]) (by kernel_rfl) (by simp) ?_
            refine AllReadyH.cons rfl (fun K hK => ?_) AllReadyH.nil
            go_simp
            refine (hid_out (HI w23 (.slice xa21p z0p.length xc21p) (.slice xa21s z0s.length xc21s) (.slice xa21w z0w.length xc21w) (.slice xa22p z1p.length xc22p) (.slice xa22s z1s.length xc22s) (.slice xa22w z1w.length xc22w) (OX21.out.reads) (OX22.out.reads))).mono ?_
            rintro e w24 ⟨r24_0p, r24_0s, r24_0w, rfl, ho0, hb⟩
            obtain ⟨ra24_0p, rc24_0p, ra24_0s, rc24_0s, ra24_0w, rc24_0w, rfl, rfl, rfl⟩ := ho0.form
            replace K1 := Lib.hid (K1.out.stay hb)
            replace K2 := Lib.hid (K2.out.stay hb)
            replace OX21 := Lib.hid (OX21.out.stay hb)
            replace OX22 := Lib.hid (OX22.out.stay hb)
            replace KB := Lib.hid (KB.out.stay hb)
            replace D := Lib.hid (D.out.trans (hb.mono D.out.size))
            replace C := Lib.hid (C.out.trans (hb.mono C.out.size))
            have S26 : Hid (w23.heap.size ≤ w24.heap.size) := Lib.hid hb.size
            have OR24_0 := Lib.hid ho0; clear ho0
            clear hb
            refine hK.out _ _ ⟨K1.out.c0, K1.out.c1, K1.out.c2, K2.out.c0, K2.out.c1, K2.out.c2⟩ (fun hHeld => ?_)
            clear hK K
            try simp only [Act.put, List.setIfInBounds_toArray, List.set_cons_zero, List.set_cons_succ]
            refine takeY 5 _ (v := ?_) rfl rfl (by kernel_rfl) (by kernel_rfl) (by kernel_rfl) (fun _ _ _ h => h) (by kernel_rfl) ?_ (by assumption) ?_
            rotate_left 1
            · intro w hSw; (try dsimp only at hSw); go_simp; (try with_reducible rfl)
            try simp only [Act.put, List.setIfInBounds_toArray, List.set_cons_zero, List.set_cons_succ]
            refine takeY 6 _ (v := ?_) rfl rfl (by kernel_rfl) (by kernel_rfl) (by kernel_rfl) (fun _ _ _ h => h) (by kernel_rfl) ?_ (by assumption) ?_
            rotate_left 1
            · intro w hSw; (try dsimp only at hSw); go_simp; (try with_reducible rfl)
            try simp only [Act.put, List.setIfInBounds_toArray, List.set_cons_zero, List.set_cons_succ]
            refine takeY 7 _ (v := ?_) rfl rfl (by kernel_rfl) (by kernel_rfl) (by kernel_rfl) (fun _ _ _ h => h) (by kernel_rfl) ?_ (by assumption) ?_
            rotate_left 1
            · intro w hSw; (try dsimp only at hSw); go_simp; (try with_reducible rfl)
            try simp only [Act.put, List.setIfInBounds_toArray, List.set_cons_zero, List.set_cons_succ]
            have y0 := KB.out.c0; have y1 := KB.out.c1; have y2 := KB.out.c2; have y3 := KB.out.f0; have y4 := KB.out.f1; have y5 := KB.out.f2; have y6 := KB.out.lt
            refine wpAnyH_ready (rs := [9]) (by kernel_rfl) (by simp) ?_
            refine AllReadyH.cons rfl (fun K hK => ?_) AllReadyH.nil
            go_simp
            obtain ⟨w25, HE25⟩ : ∃ W, W = ((w24.setCell ⟨w22.heap.size, 0, none⟩ (.slice ra24_0p L0p.length rc24_0p)).setCell ⟨w22.heap.size, 1, none⟩ (.slice ra24_0s L0s.length rc24_0s)).setCell ⟨w22.heap.size, 2, none⟩ (.slice ra24_0w L0w.length rc24_0w) := ⟨_, rfl⟩
            rw [← HE25]
            have KB2 : Hid (CBox w25 (w22.heap.size) (.slice ra24_0p L0p.length rc24_0p) (.slice ra24_0s L0s.length rc24_0s) (.slice ra24_0w L0w.length rc24_0w)) := Lib.hid (by rw [HE25]; exact CBox.set3 KB.out _ _ _)
            replace K1 := Lib.hid (K1.out.other3 (g := w22.heap.size) (by have sz0o := SZ0.out; have sz1o := SZ1.out; have hloo := hlo.out; have s3o := S3.out; have s4o := S4.out; have z6o := Z6.out; have s6o := S6.out; have s7o := S7.out; have z8o := Z8.out; have s9o := S9.out; have s10o := S10.out; have z10o := Z10.out; have s12o := S12.out; have s13o := S13.out; have s14o := S14.out; have s15o := S15.out; have s16o := S16.out; have s17o := S17.out; have s18o := S18.out; have s19o := S19.out; have s20o := S20.out; have s21o := S21.out; have s22o := S22.out; have s23o := S23.out; have s24o := S24.out; have z23o := Z23.out; have s26o := S26.out; omega) (.slice ra24_0p L0p.length rc24_0p) (.slice ra24_0s L0s.length rc24_0s) (.slice ra24_0w L0w.length rc24_0w)); rw [← HE25] at K1
            replace K2 := Lib.hid (K2.out.other3 (g := w22.heap.size) (by have sz0o := SZ0.out; have sz1o := SZ1.out; have hloo := hlo.out; have s3o := S3.out; have s4o := S4.out; have z6o := Z6.out; have s6o := S6.out; have s7o := S7.out; have z8o := Z8.out; have s9o := S9.out; have s10o := S10.out; have z10o := Z10.out; have s12o := S12.out; have s13o := S13.out; have s14o := S14.out; have s15o := S15.out; have s16o := S16.out; have s17o := S17.out; have s18o := S18.out; have s19o := S19.out; have s20o := S20.out; have s21o := S21.out; have s22o := S22.out; have s23o := S23.out; have s24o := S24.out; have z23o := Z23.out; have s26o := S26.out; omega) (.slice ra24_0p L0p.length rc24_0p) (.slice ra24_0s L0s.length rc24_0s) (.slice ra24_0w L0w.length rc24_0w)); rw [← HE25] at K2
            have OW := Lib.hid (OR24_0.out.kept (Kept.set3 (g := w22.heap.size) (by have sz0o := SZ0.out; have sz1o := SZ1.out; have hloo := hlo.out; have s3o := S3.out; have s4o := S4.out; have z6o := Z6.out; have s6o := S6.out; have s7o := S7.out; have z8o := Z8.out; have s9o := S9.out; have s10o := S10.out; have z10o := Z10.out; have s12o := S12.out; have s13o := S13.out; have s14o := S14.out; have s15o := S15.out; have s16o := S16.out; have s17o := S17.out; have s18o := S18.out; have s19o := S19.out; have s20o := S20.out; have s21o := S21.out; have s22o := S22.out; have s23o := S23.out; have s24o := S24.out; have z23o := Z23.out; have s26o := S26.out; omega) (.slice ra24_0p L0p.length rc24_0p) (.slice ra24_0s L0s.length rc24_0s) (.slice ra24_0w L0w.length rc24_0w))).wide; rw [← HE25] at OW
            replace C := Lib.hid (Below.set3 (g := w22.heap.size) C.out (by have sz0o := SZ0.out; have sz1o := SZ1.out; have hloo := hlo.out; have s3o := S3.out; have s4o := S4.out; have z6o := Z6.out; have s6o := S6.out; have s7o := S7.out; have z8o := Z8.out; have s9o := S9.out; have s10o := S10.out; have z10o := Z10.out; have s12o := S12.out; have s13o := S13.out; have s14o := S14.out; have s15o := S15.out; have s16o := S16.out; have s17o := S17.out; have s18o := S18.out; have s19o := S19.out; have s20o := S20.out; have s21o := S21.out; have s22o := S22.out; have s23o := S23.out; have s24o := S24.out; have z23o := Z23.out; have s26o := S26.out; omega) (.slice ra24_0p L0p.length rc24_0p) (.slice ra24_0s L0s.length rc24_0s) (.slice ra24_0w L0w.length rc24_0w)); rw [← HE25] at C
            replace D := Lib.hid (Below.set3 (g := w22.heap.size) D.out (by have sz0o := SZ0.out; have sz1o := SZ1.out; have hloo := hlo.out; have s3o := S3.out; have s4o := S4.out; have z6o := Z6.out; have s6o := S6.out; have s7o := S7.out; have z8o := Z8.out; have s9o := S9.out; have s10o := S10.out; have z10o := Z10.out; have s12o := S12.out; have s13o := S13.out; have s14o := S14.out; have s15o := S15.out; have s16o := S16.out; have s17o := S17.out; have s18o := S18.out; have s19o := S19.out; have s20o := S20.out; have s21o := S21.out; have s22o := S22.out; have s23o := S23.out; have s24o := S24.out; have z23o := Z23.out; have s26o := S26.out; omega) (.slice ra24_0p L0p.length rc24_0p) (.slice ra24_0s L0s.length rc24_0s) (.slice ra24_0w L0w.length rc24_0w)); rw [← HE25] at D
            clear y0 y1 y2 y3 y4 y5 y6
            refine hK.out _ _ ⟨K1.out.c0, K1.out.c1, K1.out.c2, K2.out.c0, K2.out.c1, K2.out.c2⟩ (fun hHeld => ?_)
            clear hK K
            try simp only [Act.put, List.setIfInBounds_toArray, List.set_cons_zero, List.set_cons_succ]
            refine takeY 10 _ (v := ?_) rfl rfl (by kernel_rfl) (by kernel_rfl) (by kernel_rfl) (fun _ _ _ h => h) (by kernel_rfl) ?_ (by assumption) ?_
            rotate_left 1
            · intro w hSw; (try dsimp only at hSw); go_simp; (try with_reducible rfl)
            try simp only [Act.put, List.setIfInBounds_toArray, List.set_cons_zero, List.set_cons_succ]
            refine wpAnyH_done (by kernel_rfl) ?_ _
            go_wp2_with fail
            go_meet
            exact ⟨w22.heap.size, w23.heap.size, _, _, _, _, _, _, rfl, rfl, KB2, OW, D, Lib.hid (by have sz0o := SZ0.out; have sz1o := SZ1.out; have hloo := hlo.out; have s3o := S3.out; have s4o := S4.out; have z6o := Z6.out; have s6o := S6.out; have s7o := S7.out; have z8o := Z8.out; have s9o := S9.out; have s10o := S10.out; have z10o := Z10.out; have s12o := S12.out; have s13o := S13.out; have s14o := S14.out; have s15o := S15.out; have s16o := S16.out; have s17o := S17.out; have s18o := S18.out; have s19o := S19.out; have s20o := S20.out; have s21o := S21.out; have s22o := S22.out; have s23o := S23.out; have s24o := S24.out; have z23o := Z23.out; have s26o := S26.out; omega)⟩
        · go_simp
          obtain ⟨w22, HE22⟩ : ∃ W, W = ((w21).alloc (.cells #[.slice none 0 0, .slice none 0 0, .slice none 0 0] 28)) := ⟨_, rfl⟩
          rw [← HE22]
          have hb : Below w21.heap.size w21 w22 := by rw [HE22]; exact below_box2 _ _
          have hq : CBox w22 w21.heap.size (.slice none 0 0) (.slice none 0 0) (.slice none 0 0) := by rw [HE22]; exact CBox.new _ _ _ _ _
          have hz : w21.heap.size + 1 ≤ w22.heap.size := by rw [HE22]; simp
          replace K1 := Lib.hid (K1.out.stay hb)
          replace K2 := Lib.hid (K2.out.stay hb)
          replace OX21 := Lib.hid (OX21.out.stay hb)
          replace D := Lib.hid (D.out.trans (hb.mono D.out.size))
          replace C := Lib.hid (C.out.trans (hb.mono C.out.size))
          have S23 : Hid (w21.heap.size ≤ w22.heap.size) := Lib.hid hb.size
          have Z22 : Hid (w21.heap.size + 1 ≤ w22.heap.size) := Lib.hid hz
          have KB := Lib.hid hq; clear hq hb hz HE22
          refine hK.out _ _ ⟨K1.out.c0, K1.out.c1, K1.out.c2, K2.out.c0, K2.out.c1, K2.out.c2⟩ (fun hHeld => ?_)
          clear hK K
          try simp only [Act.put, List.setIfInBounds_toArray, List.set_cons_zero, List.set_cons_succ]
          refine wpAnyH_ready (rs := [3]) (by kernel_rfl) (by simp) ?_
          refine AllReadyH.cons rfl (fun K hK => ?_) AllReadyH.nil
          go_simp
          refine (toC _ _ _ z1p z1s z1w w22 ((R1.out.below C.out).more C.out.size) hq1p hq1s hq1w).mono ?_
          rintro e w23 ⟨x23p, x23s, x23w, rfl, ho, hb⟩
          obtain ⟨xa23p, xc23p, xa23s, xc23s, xa23w, xc23w, rfl, rfl, rfl⟩ := ho.form
          replace K1 := Lib.hid (K1.out.stay hb)
          replace K2 := Lib.hid (K2.out.stay hb)
          replace OX21 := Lib.hid (OX21.out.stay hb)
          replace KB := Lib.hid (KB.out.stay hb)
          replace D := Lib.hid (D.out.trans (hb.mono D.out.size))
          replace C := Lib.hid (C.out.trans (hb.mono C.out.size))
          have S25 : Hid (w22.heap.size ≤ w23.heap.size) := Lib.hid hb.size
          have OX23 := Lib.hid ho; clear ho
          clear hb
          refine hK.out _ _ ⟨K1.out.c0, K1.out.c1, K1.out.c2, K2.out.c0, K2.out.c1, K2.out.c2⟩ (fun hHeld => ?_)
          clear hK K
          try simp only [Act.put, List.setIfInBounds_toArray, List.set_cons_zero, List.set_cons_succ]
          refine wpAnyH_ready (rs := [4]) (by kernel_rfl) (by simp) ?_
          refine AllReadyH.cons rfl (fun K hK => ?_) AllReadyH.nil
          go_simp
          refine (hid_out (HI w23 (.slice xa21p z0p.length xc21p) (.slice xa21s z0s.length xc21s) (.slice xa21w z0w.length xc21w) (.slice xa23p z1p.length xc23p) (.slice xa23s z1s.length xc23s) (.slice xa23w z1w.length xc23w) (OX21.out.reads) (OX23.out.reads))).mono ?_
          rintro e w24 ⟨r24_0p, r24_0s, r24_0w, rfl, ho0, hb⟩
          obtain ⟨ra24_0p, rc24_0p, ra24_0s, rc24_0s, ra24_0w, rc24_0w, rfl, rfl, rfl⟩ := ho0.form
          replace K1 := Lib.hid (K1.out.stay hb)
          replace K2 := Lib.hid (K2.out.stay hb)
          replace OX21 := Lib.hid (OX21.out.stay hb)
          replace KB := Lib.hid (KB.out.stay hb)
          replace OX23 := Lib.hid (OX23.out.stay hb)
          replace D := Lib.hid (D.out.trans (hb.mono D.out.size))
          replace C := Lib.hid (C.out.trans (hb.mono C.out.size))
          have S26 : Hid (w23.heap.size ≤ w24.heap.size) := Lib.hid hb.size
          have OR24_0 := Lib.hid ho0; clear ho0
          clear hb
          refine hK.out _ _ ⟨K1.out.c0, K1.out.c1, K1.out.c2, K2.out.c0, K2.out.c1, K2.out.c2⟩ (fun hHeld => ?_)
          clear hK K
          try simp only [Act.put, List.setIfInBounds_toArray, List.set_cons_zero, List.set_cons_succ]
          refine takeY 5 _ (v := ?_) rfl rfl (by kernel_rfl) (by kernel_rfl) (by kernel_rfl) (fun _ _ _ h => h) (by kernel_rfl) ?_ (by assumption) ?_
          rotate_left 1
          · intro w hSw; (try dsimp only at hSw); go_simp; (try with_reducible rfl)
          try simp only [Act.put, List.setIfInBounds_toArray, List.set_cons_zero, List.set_cons_succ]
          refine takeY 6 _ (v := ?_) rfl rfl (by kernel_rfl) (by kernel_rfl) (by kernel_rfl) (fun _ _ _ h => h) (by kernel_rfl) ?_ (by assumption) ?_
          rotate_left 1
          · intro w hSw; (try dsimp only at hSw); go_simp; (try with_reducible rfl)
          try simp only [Act.put, List.setIfInBounds_toArray, List.set_cons_zero, List.set_cons_succ]
          refine takeY 7 _ (v := ?_) rfl rfl (by kernel_rfl) (by kernel_rfl) (by kernel_rfl) (fun _ _ _ h => h) (by kernel_rfl) ?_ (by assumption) ?_
          rotate_left 1
          · intro w hSw; (try dsimp only at hSw); go_simp; (try with_reducible rfl)
          try simp only [Act.put, List.setIfInBounds_toArray, List.set_cons_zero, List.set_cons_succ]
          have y0 := KB.out.c0; have y1 := KB.out.c1; have y2 := KB.out.c2; have y3 := KB.out.f0; have y4 := KB.out.f1; have y5 := KB.out.f2; have y6 := KB.out.lt
          refine wpAnyH_ready (rs := [9]) (by kernel_rfl) (by simp) ?_
          refine AllReadyH.cons rfl (fun K hK => ?_) AllReadyH.nil
          go_simp
          obtain ⟨w25, HE25⟩ : ∃ W, W = ((w24.setCell ⟨w21.heap.size, 0, none⟩ (.slice ra24_0p L0p.length rc24_0p)).setCell ⟨w21.heap.size, 1, none⟩ (.slice ra24_0s L0s.length rc24_0s)).setCell ⟨w21.heap.size, 2, none⟩ (.slice ra24_0w L0w.length rc24_0w) := ⟨_, rfl⟩
          rw [← HE25]
          have KB2 : Hid (CBox w25 (w21.heap.size) (.slice ra24_0p L0p.length rc24_0p) (.slice ra24_0s L0s.length rc24_0s) (.slice ra24_0w L0w.length rc24_0w)) := Lib.hid (by rw [HE25]; exact CBox.set3 KB.out _ _ _)
          replace K1 := Lib.hid (K1.out.other3 (g := w21.heap.size) (by have sz0o := SZ0.out; have sz1o := SZ1.out; have hloo := hlo.out; have s3o := S3.out; have s4o := S4.out; have z6o := Z6.out; have s6o := S6.out; have s7o := S7.out; have z8o := Z8.out; have s9o := S9.out; have s10o := S10.out; have z10o := Z10.out; have s12o := S12.out; have s13o := S13.out; have s14o := S14.out; have s15o := S15.out; have s16o := S16.out; have s17o := S17.out; have s18o := S18.out; have s19o := S19.out; have s20o := S20.out; have s21o := S21.out; have s22o := S22.out; have s23o := S23.out; have z22o := Z22.out; have s25o := S25.out; have s26o := S26.out; omega) (.slice ra24_0p L0p.length rc24_0p) (.slice ra24_0s L0s.length rc24_0s) (.slice ra24_0w L0w.length rc24_0w)); rw [← HE25] at K1
          replace K2 := Lib.hid (K2.out.other3 (g := w21.heap.size) (by have sz0o := SZ0.out; have sz1o := SZ1.out; have hloo := hlo.out; have s3o := S3.out; have s4o := S4.out; have z6o := Z6.out; have s6o := S6.out; have s7o := S7.out; have z8o := Z8.out; have s9o := S9.out; have s10o := S10.out; have z10o := Z10.out; have s12o := S12.out; have s13o := S13.out; have s14o := S14.out; have s15o := S15.out; have s16o := S16.out; have s17o := S17.out; have s18o := S18.out; have s19o := S19.out; have s20o := S20.out; have s21o := S21.out; have s22o := S22.out; have s23o := S23.out; have z22o := Z22.out; have s25o := S25.out; have s26o := S26.out; omega) (.slice ra24_0p L0p.length rc24_0p) (.slice ra24_0s L0s.length rc24_0s) (.slice ra24_0w L0w.length rc24_0w)); rw [← HE25] at K2
          have OW := Lib.hid (OR24_0.out.kept (Kept.set3 (g := w21.heap.size) (by have sz0o := SZ0.out; have sz1o := SZ1.out; have hloo := hlo.out; have s3o := S3.out; have s4o := S4.out; have z6o := Z6.out; have s6o := S6.out; have s7o := S7.out; have z8o := Z8.out; have s9o := S9.out; have s10o := S10.out; have z10o := Z10.out; have s12o := S12.out; have s13o := S13.out; have s14o := S14.out; have s15o := S15.out; have s16o := S16.out; have s17o := S17.out; have s18o := S18.out; have s19o := S19.out; have s20o := S20.out; have s21o := S21.out; have s22o := S22.out; have s23o := S23.out; have z22o := Z22.out; have s25o := S25.out; have s26o := S26.out; omega) (.slice ra24_0p L0p.length rc24_0p) (.slice ra24_0s L0s.length rc24_0s) (.slice ra24_0w L0w.length rc24_0w))).wide; rw [← HE25] at OW
          replace C := Lib.hid (Below.set3 (g := w21.heap.size) C.out (by have sz0o := SZ0.out; have sz1o := SZ1.out; have hloo := hlo.out; have s3o := S3.out; have s4o := S4.out; have z6o := Z6.out; have s6o := S6.out; have s7o := S7.out; have z8o := Z8.out; have s9o := S9.out; have s10o := S10.out; have z10o := Z10.out; have s12o := S12.out; have s13o := S13.out; have s14o := S14.out; have s15o := S15.out; have s16o := S16.out; have s17o := S17.out; have s18o := S18.out; have s19o := S19.out; have s20o := S20.out; have s21o := S21.out; have s22o := S22.out; have s23o := S23.out; have z22o := Z22.out; have s25o := S25.out; have s26o := S26.out; omega) (.slice ra24_0p L0p.length rc24_0p) (.slice ra24_0s L0s.length rc24_0s) (.slice ra24_0w L0w.length rc24_0w)); rw [← HE25] at C
          replace D := Lib.hid (Below.set3 (g := w21.heap.size) D.out (by have sz0o := SZ0.out; have sz1o := SZ1.out; have hloo := hlo.out; have s3o := S3.out; have s4o := S4.out; have z6o := Z6.out; have s6o := S6.out; have s7o := S7.out; have z8o := Z8.out; have s9o := S9.out; have s10o := S10.out; have z10o := Z10.out; have s12o := S12.out; have s13o := S13.out; have s14o := S14.out; have s15o := S15.out; have s16o := S16.out; have s17o := S17.out; have s18o := S18.out; have s19o := S19.out; have s20o := S20.out; have s21o := S21.out; have s22o := S22.out; have s23o := S23.out; have z22o := Z22.out; have s25o := S25.out; have s26o := S26.out; omega) (.slice ra24_0p L0p.length rc24_0p) (.slice ra24_0s L0s.length rc24_0s) (.slice ra24_0w L0w.length rc24_0w)); rw [← HE25] at D
          clear y0 y1 y2 y3 y4 y5 y6
          refine hK.out _ _ ⟨K1.out.c0, K1.out.c1, K1.out.c2, K2.out.c0, K2.out.c1, K2.out.c2⟩ (fun hHeld => ?_)
          clear hK K
          try simp only [Act.put, List.setIfInBounds_toArray, List.set_cons_zero, List.set_cons_succ]
          refine takeY 10 _ (v := ?_) rfl rfl (by kernel_rfl) (by kernel_rfl) (by kernel_rfl) (fun _ _ _ h => h) (by kernel_rfl) ?_ (by assumption) ?_
          rotate_left 1
          · intro w hSw; (try dsimp only at hSw); go_simp; (try with_reducible rfl)
          try simp only [Act.put, List.setIfInBounds_toArray, List.set_cons_zero, List.set_cons_succ]
          refine wpAnyH_done (by kernel_rfl) ?_ _
          go_wp2_with fail
          go_meet
          exact ⟨w21.heap.size, w23.heap.size, _, _, _, _, _, _, rfl, rfl, KB2, OW, D, Lib.hid (by have sz0o := SZ0.out; have sz1o := SZ1.out; have hloo := hlo.out; have s3o := S3.out; have s4o := S4.out; have z6o := Z6.out; have s6o := S6.out; have s7o := S7.out; have z8o := Z8.out; have s9o := S9.out; have s10o := S10.out; have z10o := Z10.out; have s12o := S12.out; have s13o := S13.out; have s14o := S14.out; have s15o := S15.out; have s16o := S16.out; have s17o := S17.out; have s18o := S18.out; have s19o := S19.out; have s20o := S20.out; have s21o := S21.out; have s22o := S22.out; have s23o := S23.out; have z22o := Z22.out; have s25o := S25.out; have s26o := S26.out; omega)⟩
      · go_simp
        obtain ⟨w21, HE21⟩ : ∃ W, W = ((w20).alloc (.cells #[.slice none 0 0, .slice none 0 0, .slice none 0 0] 28)).drew := ⟨_, rfl⟩
        rw [← HE21]
        have hb : Below w20.heap.size w20 w21 := by rw [HE21]; exact (below_box2 _ _).drew
        have hq0 : CBox ((w20).alloc (.cells #[.slice none 0 0, .slice none 0 0, .slice none 0 0] 28)) w20.heap.size (.slice none 0 0) (.slice none 0 0) (.slice none 0 0) := CBox.new _ _ _ _ _
        have hq : CBox w21 w20.heap.size (.slice none 0 0) (.slice none 0 0) (.slice none 0 0) := by rw [HE21]; exact hq0.below (Below.refl _ _).drew
        have hz : w20.heap.size + 1 ≤ w21.heap.size := by rw [HE21]; show w20.heap.size + 1 ≤ ((w20).alloc (.cells #[.slice none 0 0, .slice none 0 0, .slice none 0 0] 28)).heap.size; simp
        replace K1 := Lib.hid (K1.out.stay hb)
        replace K2 := Lib.hid (K2.out.stay hb)
        replace D := Lib.hid (D.out.trans (hb.mono D.out.size))
        replace C := Lib.hid (C.out.trans (hb.mono C.out.size))
        have S22 : Hid (w20.heap.size ≤ w21.heap.size) := Lib.hid hb.size
        have Z21 : Hid (w20.heap.size + 1 ≤ w21.heap.size) := Lib.hid hz
        have KB := Lib.hid hq; clear hq hb hz HE21
        refine hK.out _ _ ⟨K1.out.c0, K1.out.c1, K1.out.c2, K2.out.c0, K2.out.c1, K2.out.c2⟩ (fun hHeld => ?_)
        clear hK K
        try simp only [Act.put, List.setIfInBounds_toArray, List.set_cons_zero, List.set_cons_succ]
        refine wpAnyH_ready (rs := [1]) (by kernel_rfl) (by simp) ?_
        refine AllReadyH.cons rfl (fun K hK => ?_) AllReadyH.nil
        go_simp
        refine (toC _ _ _ z0p z0s z0w w21 ((R0.out.below C.out).more C.out.size) hq0p hq0s hq0w).mono ?_
        rintro e w22 ⟨x22p, x22s, x22w, rfl, ho, hb⟩
        obtain ⟨xa22p, xc22p, xa22s, xc22s, xa22w, xc22w, rfl, rfl, rfl⟩ := ho.form
        replace K1 := Lib.hid (K1.out.stay hb)
        replace K2 := Lib.hid (K2.out.stay hb)
        replace KB := Lib.hid (KB.out.stay hb)
        replace D := Lib.hid (D.out.trans (hb.mono D.out.size))
        replace C := Lib.hid (C.out.trans (hb.mono C.out.size))
        have S24 : Hid (w21.heap.size ≤ w22.heap.size) := Lib.hid hb.size
        have OX22 := Lib.hid ho; clear ho
        clear hb
        refine hK.out _ _ ⟨K1.out.c0, K1.out.c1, K1.out.c2, K2.out.c0, K2.out.c1, K2.out.c2⟩ (fun hHeld => ?_)
        clear hK K
        try simp only [Act.put, List.setIfInBounds_toArray, List.set_cons_zero, List.set_cons_succ]
        refine wpAnyH_ready (rs := [3]) (by kernel_rfl) (by simp) ?_
        refine AllReadyH.cons rfl (fun K hK => ?_) AllReadyH.nil
        go_simp
        refine (toC _ _ _ z1p z1s z1w w22 ((R1.out.below C.out).more C.out.size) hq1p hq1s hq1w).mono ?_
        rintro e w23 ⟨x23p, x23s, x23w, rfl, ho, hb⟩
        obtain ⟨xa23p, xc23p, xa23s, xc23s, xa23w, xc23w, rfl, rfl, rfl⟩ := ho.form
        replace K1 := Lib.hid (K1.out.stay hb)
        replace K2 := Lib.hid (K2.out.stay hb)
        replace KB := Lib.hid (KB.out.stay hb)
        replace OX22 := Lib.hid (OX22.out.stay hb)
        replace D := Lib.hid (D.out.trans (hb.mono D.out.size))
        replace C := Lib.hid (C.out.trans (hb.mono C.out.size))
        have S25 : Hid (w22.heap.size ≤ w23.heap.size) := Lib.hid hb.size
        have OX23 := Lib.hid ho; clear ho
        clear hb
        refine hK.out _ _ ⟨K1.out.c0, K1.out.c1, K1.out.c2, K2.out.c0, K2.out.c1, K2.out.c2⟩ (fun hHeld => ?_)
        clear hK K
        try simp only [Act.put, List.setIfInBounds_toArray, List.set_cons_zero, List.set_cons_succ]
        refine wpAnyH_ready (rs := [4]) (by kernel_rfl) (by simp) ?_
        refine AllReadyH.cons rfl (fun K hK => ?_) AllReadyH.nil
        go_simp
        refine (hid_out (HI w23 (.slice xa22p z0p.length xc22p) (.slice xa22s z0s.length xc22s) (.slice xa22w z0w.length xc22w) (.slice xa23p z1p.length xc23p) (.slice xa23s z1s.length xc23s) (.slice xa23w z1w.length xc23w) (OX22.out.reads) (OX23.out.reads))).mono ?_
        rintro e w24 ⟨r24_0p, r24_0s, r24_0w, rfl, ho0, hb⟩
        obtain ⟨ra24_0p, rc24_0p, ra24_0s, rc24_0s, ra24_0w, rc24_0w, rfl, rfl, rfl⟩ := ho0.form
        replace K1 := Lib.hid (K1.out.stay hb)
        replace K2 := Lib.hid (K2.out.stay hb)
        replace KB := Lib.hid (KB.out.stay hb)
        replace OX22 := Lib.hid (OX22.out.stay hb)
        replace OX23 := Lib.hid (OX23.out.stay hb)
        replace D := Lib.hid (D.out.trans (hb.mono D.out.size))
        replace C := Lib.hid (C.out.trans (hb.mono C.out.size))
        have S26 : Hid (w23.heap.size ≤ w24.heap.size) := Lib.hid hb.size
        have OR24_0 := Lib.hid ho0; clear ho0
        clear hb
        refine hK.out _ _ ⟨K1.out.c0, K1.out.c1, K1.out.c2, K2.out.c0, K2.out.c1, K2.out.c2⟩ (fun hHeld => ?_)
        clear hK K
        try simp only [Act.put, List.setIfInBounds_toArray, List.set_cons_zero, List.set_cons_succ]
        refine takeY 5 _ (v := ?_) rfl rfl (by kernel_rfl) (by kernel_rfl) (by kernel_rfl) (fun _ _ _ h => h) (by kernel_rfl) ?_ (by assumption) ?_
        rotate_left 1
        · intro w hSw; (try dsimp only at hSw); go_simp; (try with_reducible rfl)
        try simp only [Act.put, List.setIfInBounds_toArray, List.set_cons_zero, List.set_cons_succ]
        refine takeY 6 _ (v := ?_) rfl rfl (by kernel_rfl) (by kernel_rfl) (by kernel_rfl) (fun _ _ _ h => h) (by kernel_rfl) ?_ (by assumption) ?_
        rotate_left 1
        · intro w hSw; (try dsimp only at hSw); go_simp; (try with_reducible rfl)
        try simp only [Act.put, List.setIfInBounds_toArray, List.set_cons_zero, List.set_cons_succ]
        refine takeY 7 _ (v := ?_) rfl rfl (by kernel_rfl) (by kernel_rfl) (by kernel_rfl) (fun _ _ _ h => h) (by kernel_rfl) ?_ (by assumption) ?_
        rotate_left 1
        · intro w hSw; (try dsimp only at hSw); go_simp; (try with_reducible rfl)
        try simp only [Act.put, List.setIfInBounds_toArray, List.set_cons_zero, List.set_cons_succ]
        have y0 := KB.out.c0; have y1 := KB.out.c1; have y2 := KB.out.c2; have y3 := KB.out.f0; have y4 := KB.out.f1; have y5 := KB.out.f2; have y6 := KB.out.lt
        refine wpAnyH_ready (rs := [9]) (by kernel_rfl) (by simp) ?_
        refine AllReadyH.cons rfl (fun K hK => ?_) AllReadyH.nil
        go_simp
        obtain ⟨w25, HE25⟩ : ∃ W, W = ((w24.setCell ⟨w20.heap.size, 0, none⟩ (.slice ra24_0p L0p.length rc24_0p)).setCell ⟨w20.heap.size, 1, none⟩ (.slice ra24_0s L0s.length rc24_0s)).setCell ⟨w20.heap.size, 2, none⟩ (.slice ra24_0w L0w.length rc24_0w) := ⟨_, rfl⟩
        rw [← HE25]
        have KB2 : Hid (CBox w25 (w20.heap.size) (.slice ra24_0p L0p.length rc24_0p) (.slice ra24_0s L0s.length rc24_0s) (.slice ra24_0w L0w.length rc24_0w)) := Lib.hid (by rw [HE25]; exact CBox.set3 KB.out _ _ _)
        replace K1 := Lib.hid (K1.out.other3 (g := w20.heap.size) (by have sz0o := SZ0.out; have sz1o := SZ1.out; have hloo := hlo.out; have s3o := S3.out; have s4o := S4.out; have z6o := Z6.out; have s6o := S6.out; have s7o := S7.out; have z8o := Z8.out; have s9o := S9.out; have s10o := S10.out; have z10o := Z10.out; have s12o := S12.out; have s13o := S13.out; have s14o := S14.out; have s15o := S15.out; have s16o := S16.out; have s17o := S17.out; have s18o := S18.out; have s19o := S19.out; have s20o := S20.out; have s21o := S21.out; have s22o := S22.out; have z21o := Z21.out; have s24o := S24.out; have s25o := S25.out; have s26o := S26.out; omega) (.slice ra24_0p L0p.length rc24_0p) (.slice ra24_0s L0s.length rc24_0s) (.slice ra24_0w L0w.length rc24_0w)); rw [← HE25] at K1
        replace K2 := Lib.hid (K2.out.other3 (g := w20.heap.size) (by have sz0o := SZ0.out; have sz1o := SZ1.out; have hloo := hlo.out; have s3o := S3.out; have s4o := S4.out; have z6o := Z6.out; have s6o := S6.out; have s7o := S7.out; have z8o := Z8.out; have s9o := S9.out; have s10o := S10.out; have z10o := Z10.out; have s12o := S12.out; have s13o := S13.out; have s14o := S14.out; have s15o := S15.out; have s16o := S16.out; have s17o := S17.out; have s18o := S18.out; have s19o := S19.out; have s20o := S20.out; have s21o := S21.out; have s22o := S22.out; have z21o := Z21.out; have s24o := S24.out; have s25o := S25.out; have s26o := S26.out; omega) (.slice ra24_0p L0p.length rc24_0p) (.slice ra24_0s L0s.length rc24_0s) (.slice ra24_0w L0w.length rc24_0w)); rw [← HE25] at K2
        have OW := Lib.hid (OR24_0.out.kept (Kept.set3 (g := w20.heap.size) (by have sz0o := SZ0.out; have sz1o := SZ1.out; have hloo := hlo.out; have s3o := S3.out; have s4o := S4.out; have z6o := Z6.out; have s6o := S6.out; have s7o := S7.out; have z8o := Z8.out; have s9o := S9.out; have s10o := S10.out; have z10o := Z10.out; have s12o := S12.out; have s13o := S13.out; have s14o := S14.out; have s15o := S15.out; have s16o := S16.out; have s17o := S17.out; have s18o := S18.out; have s19o := S19.out; have s20o := S20.out; have s21o := S21.out; have s22o := S22.out; have z21o := Z21.out; have s24o := S24.out; have s25o := S25.out; have s26o := S26.out; omega) (.slice ra24_0p L0p.length rc24_0p) (.slice ra24_0s L0s.length rc24_0s) (.slice ra24_0w L0w.length rc24_0w))).wide; rw [← HE25] at OW
        replace C := Lib.hid (Below.set3 (g := w20.heap.size) C.out (by have sz0o := SZ0.out; have sz1o := SZ1.out; have hloo := hlo.out; have s3o := S3.out; have s4o := S4.out; have z6o := Z6.out; have s6o := S6.out; have s7o := S7.out; have z8o := Z8.out; have s9o := S9.out; have s10o := S10.out; have z10o := Z10.out; have s12o := S12.out; have s13o := S13.out; have s14o := S14.out; have s15o := S15.out; have s16o := S16.out; have s17o := S17.out; have s18o := S18.out; have s19o := S19.out; have s20o := S20.out; have s21o := S21.out; have s22o := S22.out; have z21o := Z21.out; have s24o := S24.out; have s25o := S25.out; have s26o := S26.out; omega) (.slice ra24_0p L0p.length rc24_0p) (.slice ra24_0s L0s.length rc24_0s) (.slice ra24_0w L0w.length rc24_0w)); rw [← HE25] at C
        replace D := Lib.hid (Below.set3 (g := w20.heap.size) D.out (by have sz0o := SZ0.out; have sz1o := SZ1.out; have hloo := hlo.out; have s3o := S3.out; have s4o := S4.out; have z6o := Z6.out; have s6o := S6.out; have s7o := S7.out; have z8o := Z8.out; have s9o := S9.out; have s10o := S10.out; have z10o := Z10.out; have s12o := S12.out; have s13o := S13.out; have s14o := S14.out; have s15o := S15.out; have s16o := S16.out; have s17o := S17.out; have s18o := S18.out; have s19o := S19.out; have s20o := S20.out; have s21o := S21.out; have s22o := S22.out; have z21o := Z21.out; have s24o := S24.out; have s25o := S25.out; have s26o := S26.out; omega) (.slice ra24_0p L0p.length rc24_0p) (.slice ra24_0s L0s.length rc24_0s) (.slice ra24_0w L0w.length rc24_0w)); rw [← HE25] at D
        clear y0 y1 y2 y3 y4 y5 y6
        refine hK.out _ _ ⟨K1.out.c0, K1.out.c1, K1.out.c2, K2.out.c0, K2.out.c1, K2.out.c2⟩ (fun hHeld => ?_)
        clear hK K
        try simp only [Act.put, List.setIfInBounds_toArray, List.set_cons_zero, List.set_cons_succ]
        refine takeY 10 _ (v := ?_) rfl rfl (by kernel_rfl) (by kernel_rfl) (by kernel_rfl) (fun _ _ _ h => h) (by kernel_rfl) ?_ (by assumption) ?_
        rotate_left 1
        · intro w hSw; (try dsimp only at hSw); go_simp; (try with_reducible rfl)
        try simp only [Act.put, List.setIfInBounds_toArray, List.set_cons_zero, List.set_cons_succ]
        refine wpAnyH_done (by kernel_rfl) ?_ _
        go_wp2_with fail
        go_meet
        exact ⟨w20.heap.size, w23.heap.size, _, _, _, _, _, _, rfl, rfl, KB2, OW, D, Lib.hid (by have sz0o := SZ0.out; have sz1o := SZ1.out; have hloo := hlo.out; have s3o := S3.out; have s4o := S4.out; have z6o := Z6.out; have s6o := S6.out; have s7o := S7.out; have z8o := Z8.out; have s9o := S9.out; have s10o := S10.out; have z10o := Z10.out; have s12o := S12.out; have s13o := S13.out; have s14o := S14.out; have s15o := S15.out; have s16o := S16.out; have s17o := S17.out; have s18o := S18.out; have s19o := S19.out; have s20o := S20.out; have s21o := S21.out; have s22o := S22.out; have z21o := Z21.out; have s24o := S24.out; have s25o := S25.out; have s26o := S26.out; omega)⟩
    case rest =>
      obtain ⟨g', lo', ba0, ba1, ba2, dc0, dc1, dc2, rfl, rfl, KH, OH, D, hlo'⟩ := hcut
      have hb := D.out
      replace K1 := Lib.hid (K1.out.stay hb)
      replace K2 := Lib.hid (K2.out.stay hb)
      replace KB := Lib.hid (KB.out.stay hb)
      replace OW := Lib.hid (OW.out.stay hb)
      replace K6 := Lib.hid (K6.out.stay hb)
      replace K8 := Lib.hid (K8.out.stay hb)
      replace K10 := Lib.hid (K10.out.stay hb)
      replace OX12 := Lib.hid (OX12.out.stay hb)
      replace OX14 := Lib.hid (OX14.out.stay hb)
      replace M16 := Lib.hid (M16.out.stay hb)
      replace M17 := Lib.hid (M17.out.stay hb)
      replace M19 := Lib.hid (M19.out.stay hb)
      replace C := Lib.hid (C.out.trans (hb.mono C.out.size))
      have S22 : Hid (w20.heap.size ≤ wc.heap.size) := Lib.hid hb.size
      clear hb RR D
      have SH0 : Hid (g' + 1 ≤ wc.heap.size) := Lib.hid KH.out.lt
      have q0K1 := K1.out.c0; have q1K1 := K1.out.c1; have q2K1 := K1.out.c2; have qlK1 := K1.out.lt
      have q0K2 := K2.out.c0; have q1K2 := K2.out.c1; have q2K2 := K2.out.c2; have qlK2 := K2.out.lt
      have q0KB := KB.out.c0; have q1KB := KB.out.c1; have q2KB := KB.out.c2; have qlKB := KB.out.lt
      have q0K6 := K6.out.c0; have q1K6 := K6.out.c1; have q2K6 := K6.out.c2; have qlK6 := K6.out.lt
      have q0K8 := K8.out.c0; have q1K8 := K8.out.c1; have q2K8 := K8.out.c2; have qlK8 := K8.out.lt
      have q0K10 := K10.out.c0; have q1K10 := K10.out.c1; have q2K10 := K10.out.c2; have qlK10 := K10.out.lt
      have q0KH := KH.out.c0; have q1KH := KH.out.c1; have q2KH := KH.out.c2; have qlKH := KH.out.lt
      go_wp2_with fail
      clear q0K1 q1K1 q2K1 qlK1 q0K2 q1K2 q2K2 qlK2 q0KB q1KB q2KB qlKB q0K6 q1K6 q2K6 qlK6 q0K8 q1K8 q2K8 qlK8 q0K10 q1K10 q2K10 qlK10 q0KH q1KH q2KH qlKH
      refine (eqC _ _ _ _ _ _ L0p L0s L0w wc (OH.out.reads) (OW.out.reads) (by omega) (by omega) (by omega)).mono ?_
      rintro e w21 ⟨rfl, hb⟩
      replace K1 := Lib.hid (K1.out.stay hb)
      replace K2 := Lib.hid (K2.out.stay hb)
      replace KB := Lib.hid (KB.out.stay hb)
      replace OW := Lib.hid (OW.out.stay hb)
      replace K6 := Lib.hid (K6.out.stay hb)
      replace K8 := Lib.hid (K8.out.stay hb)
      replace K10 := Lib.hid (K10.out.stay hb)
      replace OX12 := Lib.hid (OX12.out.stay hb)
      replace OX14 := Lib.hid (OX14.out.stay hb)
      replace M16 := Lib.hid (M16.out.stay hb)
      replace M17 := Lib.hid (M17.out.stay hb)
      replace M19 := Lib.hid (M19.out.stay hb)
      replace KH := Lib.hid (KH.out.stay hb)
      replace OH := Lib.hid (OH.out.stay hb)
      replace C := Lib.hid (C.out.trans (hb.mono C.out.size))
      have S25 : Hid (wc.heap.size ≤ w21.heap.size) := Lib.hid hb.size
      clear hb
      have q0K1 := K1.out.c0; have q1K1 := K1.out.c1; have q2K1 := K1.out.c2; have qlK1 := K1.out.lt
      have q0K2 := K2.out.c0; have q1K2 := K2.out.c1; have q2K2 := K2.out.c2; have qlK2 := K2.out.lt
      have q0KB := KB.out.c0; have q1KB := KB.out.c1; have q2KB := KB.out.c2; have qlKB := KB.out.lt
      have q0K6 := K6.out.c0; have q1K6 := K6.out.c1; have q2K6 := K6.out.c2; have qlK6 := K6.out.lt
      have q0K8 := K8.out.c0; have q1K8 := K8.out.c1; have q2K8 := K8.out.c2; have qlK8 := K8.out.lt
      have q0K10 := K10.out.c0; have q1K10 := K10.out.c1; have q2K10 := K10.out.c2; have qlK10 := K10.out.lt
      have q0KH := KH.out.c0; have q1KH := KH.out.c1; have q2KH := KH.out.c2; have qlKH := KH.out.lt
      go_wp2_with fail
      clear q0K1 q1K1 q2K1 qlK1 q0K2 q1K2 q2K2 qlK2 q0KB q1KB q2KB qlKB q0K6 q1K6 q2K6 qlK6 q0K8 q1K8 q2K8 qlK8 q0K10 q1K10 q2K10 qlK10 q0KH q1KH q2KH qlKH
      refine (heldC _ _ _ _ _ L0p.length L0s.length L0w.length 1 w21 M19.out (by omega) (by omega) (by omega) (by omega)).mono ?_
      rintro e w22 ⟨rfl, hb⟩
      replace K1 := Lib.hid (K1.out.stay hb)
      replace K2 := Lib.hid (K2.out.stay hb)
      replace KB := Lib.hid (KB.out.stay hb)
      replace OW := Lib.hid (OW.out.stay hb)
      replace K6 := Lib.hid (K6.out.stay hb)
      replace K8 := Lib.hid (K8.out.stay hb)
      replace K10 := Lib.hid (K10.out.stay hb)
      replace OX12 := Lib.hid (OX12.out.stay hb)
      replace OX14 := Lib.hid (OX14.out.stay hb)
      replace M16 := Lib.hid (M16.out.stay hb)
      replace M17 := Lib.hid (M17.out.stay hb)
      replace M19 := Lib.hid (M19.out.stay hb)
      replace KH := Lib.hid (KH.out.stay hb)
      replace OH := Lib.hid (OH.out.stay hb)
      replace C := Lib.hid (C.out.trans (hb.mono C.out.size))
      have S26 : Hid (w21.heap.size ≤ w22.heap.size) := Lib.hid hb.size
      clear hb
      have q0K1 := K1.out.c0; have q1K1 := K1.out.c1; have q2K1 := K1.out.c2; have qlK1 := K1.out.lt
      have q0K2 := K2.out.c0; have q1K2 := K2.out.c1; have q2K2 := K2.out.c2; have qlK2 := K2.out.lt
      have q0KB := KB.out.c0; have q1KB := KB.out.c1; have q2KB := KB.out.c2; have qlKB := KB.out.lt
      have q0K6 := K6.out.c0; have q1K6 := K6.out.c1; have q2K6 := K6.out.c2; have qlK6 := K6.out.lt
      have q0K8 := K8.out.c0; have q1K8 := K8.out.c1; have q2K8 := K8.out.c2; have qlK8 := K8.out.lt
      have q0K10 := K10.out.c0; have q1K10 := K10.out.c1; have q2K10 := K10.out.c2; have qlK10 := K10.out.lt
      have q0KH := KH.out.c0; have q1KH := KH.out.c1; have q2KH := KH.out.c2; have qlKH := KH.out.lt
      go_wp2_with fail
      clear q0K1 q1K1 q2K1 qlK1 q0K2 q1K2 q2K2 qlK2 q0KB q1KB q2KB qlKB q0K6 q1K6 q2K6 qlK6 q0K8 q1K8 q2K8 qlK8 q0K10 q1K10 q2K10 qlK10 q0KH q1KH q2KH qlKH
      go_ret
      exact ⟨rfl, C.out⟩
end Go.Proofs.Ytjobfjgphcaoeaa
