/- The square of a cluster. Conditions: stated at each theorem. -/
import Derived.Test.YtjobfjgphcaoeaaUn17
import Derived.Test.YtjobfjgphcaoeaaClQ
namespace Go.Proofs.Ytjobfjgphcaoeaa
open Go.ChangeShapes Go.WideShapes Go.ChangeAt Go.RowKit Go.Deep
set_option linter.unusedVariables false
set_option linter.unusedSimpArgs false

theorem ul_cl {P S W : List Int} (h : ulC P S W = 0) : ∃ n, ClOK P S W n ∧ wtOK (ulL P S W n) = true := by
  have hb : clB P S W = true := by
    cases hb : clB P S W with
    | true => rfl
    | false => simp [ulC, hb] at h
  obtain ⟨n, hC⟩ := clB_true hb
  refine ⟨n, hC, ?_⟩
  rw [ul_mid hC] at h
  cases e : wtOK (ulL P S W n)
  · rw [e] at h; cases h
  · rfl
noncomputable def sqA (P S W : List Int) : Int := if ulC P S W = 0 then pdN (ulWA P S W) (ulWA P S W) P.length else 0

set_option maxRecDepth 100000 in
set_option maxHeartbeats 4000000 in
theorem product0_any (A A' : Option Addr) (c c' : Nat) (w : World) : Calls Try.prog 93 #[.slice A 0 c, .slice A' 0 c'] w fun e w' => e = .returned (.int .i64 0) ∧ ∃ m, w' = w.drewN m := by
  go_enter Try.func93, Try.ntmps93
  go_wp2_with fail
  go_loopw [5, 10] (fun vs vi wr => vs = .int .i64 0 ∧ vi = .int .i64 0 ∧ wr = w) (fun _ _ _ => 0)
  case atStart => exact ⟨rfl, rfl, rfl⟩
  case round =>
    obtain ⟨rfl, rfl, rfl⟩ := hrel
    go_wp2_with fail
    go_ret
    exact ⟨rfl, 0, rfl⟩

set_option maxRecDepth 100000 in
set_option maxHeartbeats 4000000 in
theorem specSquareOfCluster_any (a b c : Value) (P S W : List Int) (w : World) (h : ReadC w w.heap.size a b c P S W) (hP : P.length ≤ 1048576) (hS : S.length ≤ 1048576) (hW : W.length ≤ 1048576) (hwp : ∀ z ∈ P, (Lit.int .i64 z).wf = true) (hws : ∀ z ∈ S, (Lit.int .i64 z).wf = true) (hww : ∀ z ∈ W, (Lit.int .i64 z).wf = true) :
    Calls Try.prog 46 #[.agg #[a, b, c]] w (AnsII w (sqA P S W) (ulC P S W)) := by
  obtain ⟨W0, HE⟩ : ∃ V, V = w.alloc (.cells #[a, b, c] 28) := ⟨_, rfl⟩
  have hb0 : Below w.heap.size w W0 := by rw [HE]; exact below_box2 _ _
  have hx : CBox W0 w.heap.size a b c := by rw [HE]; exact CBox.new _ _ _ _ _
  have HB0 := Lib.hid hb0; have HEQ := Lib.hid HE
  have hun := specUnloadCluster_any a b c P S W W0 ((h.below hb0).more hb0.size) hP hS hW hwp hws hww
  have x0 := hx.c0; have x1 := hx.c1; have x2 := hx.c2
  clear h hb0 hx HE hwp hws hww
  by_cases hk : ulC P S W = 0
  · obtain ⟨n, hC, hw⟩ := ul_cl hk
    have hu := (ul_yes hC hw).2.2.2
    have hsq : sqA P S W = pdN (ulL P S W n) (ulL P S W n) n := by unfold sqA; rw [if_pos hk, hu, hC.p]
    rw [hsq, hk]
    rw [hk, hu] at hun
    have HUN := Lib.hid hun
    have HWT := Lib.hid hw
    have hn := hC.hi; have hn1 := hC.lo
    clear hun hu hsq hk hw hC
    go_enter Try.func46, Try.ntmps46
    go_wp2_with fail
    rw [← HEQ.out]
    go_wp2_with (go_at_call 42; refine HUN.out.mono ?_; rintro e w1 ⟨a1, b1, c1, rfl, ⟨hh, l0, h0, l1, h1, l2, h2, ap, o0, o1, o2⟩, hb⟩; obtain ⟨A1, k1, rfl⟩ := own_form o0.1; obtain ⟨A2, k2, rfl⟩ := own_form o1.1; obtain ⟨A3, k3, rfl⟩ := own_form o2.1; have HB := Lib.hid hb; have HO2 := Lib.hid o2; clear hb o0 o1 o2 ap hh)
    refine (specProduct_any _ _ (ulL P S W n) (ulL P S W n) n _ w1.heap.size w1.heap.size (HO2.out.reads.below (below_box2 _ _)) (HO2.out.reads.below (below_box2 _ _)) (ulL_len _ _ _ _) (ulL_len _ _ _ _) hn1 hn HWT.out HWT.out).mono ?_
    rintro e w2 ⟨rfl, d, rfl⟩
    go_wp2_with fail
    go_ret2
    exact ⟨rfl, (HB0.out.trans ((HB.out.mono HB0.out.size).alloc (by have := HB0.out.size; have := HB.out.size; omega) _)).trans (drewN_below _ d)⟩
  · obtain ⟨C, hC⟩ : ∃ C, ulC P S W = C := ⟨_, rfl⟩
    have h0 := (ul_no hC (by omega)).2.2
    rw [hC] at hun hk
    rw [h0] at hun
    have hsq : sqA P S W = 0 := by unfold sqA; rw [hC, if_neg hk]
    rw [hsq, hC]
    have HUN := Lib.hid hun
    have hne : (C == 0) = false := by simpa using hk
    clear hun h0 hC hsq
    go_enter Try.func46, Try.ntmps46
    go_wp2_with fail
    rw [← HEQ.out]
    go_wp2_with (go_at_call 42; refine HUN.out.mono ?_; rintro e w1 ⟨a1, b1, c1, rfl, ⟨hh, l0, h0, l1, h1, l2, h2, ap, o0, o1, o2⟩, hb⟩; obtain ⟨A1, k1, rfl⟩ := own_form o0.1; obtain ⟨A2, k2, rfl⟩ := own_form o1.1; obtain ⟨A3, k3, rfl⟩ := own_form o2.1; have HB := Lib.hid hb; clear hb o0 o1 o2 ap hh)
    go_ret2
    exact ⟨rfl, HB0.out.trans ((HB.out.mono HB0.out.size).alloc (by have := HB0.out.size; have := HB.out.size; omega) _)⟩

set_option maxRecDepth 100000 in
set_option maxHeartbeats 4000000 in
theorem implSquareOfCluster_any (a b c : Value) (P S W : List Int) (w : World) (h : ReadC w w.heap.size a b c P S W) (hP : P.length ≤ 1048576) (hS : S.length ≤ 1048576) (hW : W.length ≤ 1048576) (hwp : ∀ z ∈ P, (Lit.int .i64 z).wf = true) (hws : ∀ z ∈ S, (Lit.int .i64 z).wf = true) (hww : ∀ z ∈ W, (Lit.int .i64 z).wf = true) :
    Calls Try.prog 47 #[.agg #[a, b, c]] w (AnsII w (sqA P S W) (ulC P S W)) := by
  obtain ⟨W0, HE⟩ : ∃ V, V = w.alloc (.cells #[a, b, c] 28) := ⟨_, rfl⟩
  have hb0 : Below w.heap.size w W0 := by rw [HE]; exact below_box2 _ _
  have hx : CBox W0 w.heap.size a b c := by rw [HE]; exact CBox.new _ _ _ _ _
  have HB0 := Lib.hid hb0; have HEQ := Lib.hid HE
  have hun := implUnloadCluster_any a b c P S W W0 ((h.below hb0).more hb0.size) hP hS hW hwp hws hww
  have x0 := hx.c0; have x1 := hx.c1; have x2 := hx.c2
  clear h hb0 hx HE hwp hws hww
  by_cases hk : ulC P S W = 0
  · obtain ⟨n, hC, hw⟩ := ul_cl hk
    have hu := (ul_yes hC hw).2.2.2
    have hsq : sqA P S W = pdN (ulL P S W n) (ulL P S W n) n := by unfold sqA; rw [if_pos hk, hu, hC.p]
    rw [hsq, hk]
    rw [hk, hu] at hun
    have HUN := Lib.hid hun
    have HWT := Lib.hid hw
    have hn := hC.hi; have hn1 := hC.lo
    clear hun hu hsq hk hw hC
    go_enter Try.func47, Try.ntmps47
    go_wp2_with fail
    rw [← HEQ.out]
    go_wp2_with (go_at_call 43; refine HUN.out.mono ?_; rintro e w1 ⟨a1, b1, c1, rfl, ⟨hh, l0, h0, l1, h1, l2, h2, ap, o0, o1, o2⟩, hb⟩; obtain ⟨A1, k1, rfl⟩ := own_form o0.1; obtain ⟨A2, k2, rfl⟩ := own_form o1.1; obtain ⟨A3, k3, rfl⟩ := own_form o2.1; have HB := Lib.hid hb; have HO2 := Lib.hid o2; clear hb o0 o1 o2 ap hh)
    refine (implProduct_any _ _ (ulL P S W n) (ulL P S W n) n _ w1.heap.size w1.heap.size (HO2.out.reads.below (below_box2 _ _)) (HO2.out.reads.below (below_box2 _ _)) (ulL_len _ _ _ _) (ulL_len _ _ _ _) hn1 hn HWT.out HWT.out).mono ?_
    rintro e w2 ⟨rfl, d, rfl⟩
    go_wp2_with fail
    go_ret2
    exact ⟨rfl, (HB0.out.trans ((HB.out.mono HB0.out.size).alloc (by have := HB0.out.size; have := HB.out.size; omega) _)).trans (drewN_below _ d)⟩
  · obtain ⟨C, hC⟩ : ∃ C, ulC P S W = C := ⟨_, rfl⟩
    have h0 := (ul_no hC (by omega)).2.2
    rw [hC] at hun hk
    rw [h0] at hun
    have hsq : sqA P S W = 0 := by unfold sqA; rw [hC, if_neg hk]
    rw [hsq, hC]
    have HUN := Lib.hid hun
    have hne : (C == 0) = false := by simpa using hk
    clear hun h0 hC hsq
    go_enter Try.func47, Try.ntmps47
    go_wp2_with fail
    rw [← HEQ.out]
    go_wp2_with (go_at_call 43; refine HUN.out.mono ?_; rintro e w1 ⟨a1, b1, c1, rfl, ⟨hh, l0, h0, l1, h1, l2, h2, ap, o0, o1, o2⟩, hb⟩; obtain ⟨A1, k1, rfl⟩ := own_form o0.1; obtain ⟨A2, k2, rfl⟩ := own_form o1.1; obtain ⟨A3, k3, rfl⟩ := own_form o2.1; have HB := Lib.hid hb; clear hb o0 o1 o2 ap hh)
    refine (product0_any A3 A3 k3 k3 _).mono ?_
    rintro e w2 ⟨rfl, d, rfl⟩
    go_wp2_with fail
    go_ret2
    exact ⟨rfl, (HB0.out.trans ((HB.out.mono HB0.out.size).alloc (by have := HB0.out.size; have := HB.out.size; omega) _)).trans (drewN_below _ d)⟩

end Go.Proofs.Ytjobfjgphcaoeaa
