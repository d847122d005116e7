/- The codimension of a cluster. Conditions: stated at each theorem. -/
import Derived.Test.YtjobfjgphcaoeaaSq
namespace Go.Proofs.Ytjobfjgphcaoeaa
open Go.ChangeShapes Go.WideShapes Go.ChangeAt Go.RowKit Go.Deep
set_option linter.unusedVariables false
set_option linter.unusedSimpArgs false

def cdN (V : List Int) : Nat → Int
  | 0 => 0
  | n + 1 => cdN V n + Int.tdiv (V[n]?.getD 0 * (V[n]?.getD 0 + 1)) 2
theorem cd_one {x : Int} (h : -100000 ≤ x ∧ x ≤ 100000) : (0 ≤ x * (x + 1) ∧ x * (x + 1) ≤ 10000100000) ∧ 0 ≤ Int.tdiv (x * (x + 1)) 2 ∧ Int.tdiv (x * (x + 1)) 2 ≤ 10000100000 := by
  have h1 := mul_rngW h h
  have h2 : x * (x + 1) = x * x + x := by rw [Int.mul_add, Int.mul_one]
  have h3 : 0 ≤ x * (x + 1) := by
    by_cases hx : 0 ≤ x
    · exact Int.mul_nonneg hx (by omega)
    · have := Int.mul_nonneg (a := -x) (b := -(x + 1)) (by omega) (by omega)
      rwa [Int.neg_mul_neg] at this
  have h4 := Int.tdiv_eq_ediv_of_nonneg (b := 2) h3
  rw [h4]
  omega
theorem cd_rng {V : List Int} (h : wtOK V = true) : ∀ k : Nat, 0 ≤ cdN V k ∧ cdN V k ≤ 10000100000 * k
  | 0 => by show (0 : Int) ≤ 0 ∧ (0 : Int) ≤ 10000100000 * ((0 : Nat) : Int); omega
  | k + 1 => by
    have h1 := cd_rng h k
    have h2 := cd_one (wtOK_at (i := k) h)
    show 0 ≤ cdN V k + Int.tdiv (V[k]?.getD 0 * (V[k]?.getD 0 + 1)) 2 ∧ cdN V k + Int.tdiv (V[k]?.getD 0 * (V[k]?.getD 0 + 1)) 2 ≤ _
    omega
noncomputable def cmA (P S W : List Int) : Int := if ulC P S W = 0 then cdN (ulWA P S W) P.length else 0

set_option maxRecDepth 100000 in
set_option maxHeartbeats 4000000 in
theorem specCodimensionOf_any (a b c : Value) (P S W : List Int) (w : World) (h : ReadC w w.heap.size a b c P S W) (hP : P.length ≤ 1048576) (hS : S.length ≤ 1048576) (hW : W.length ≤ 1048576) (hwp : ∀ z ∈ P, (Lit.int .i64 z).wf = true) (hws : ∀ z ∈ S, (Lit.int .i64 z).wf = true) (hww : ∀ z ∈ W, (Lit.int .i64 z).wf = true) :
    Calls Try.prog 44 #[.agg #[a, b, c]] w (AnsII w (cmA P S W) (ulC P S W)) := by
  obtain ⟨W0, HE⟩ : ∃ V, V = w.alloc (.cells #[a, b, c] 28) := ⟨_, rfl⟩
  have hb0 : Below w.heap.size w W0 := by rw [HE]; exact below_box2 _ _
  have hx : CBox W0 w.heap.size a b c := by rw [HE]; exact CBox.new _ _ _ _ _
  have HB0 := Lib.hid hb0; have HEQ := Lib.hid HE
  have hun := specUnloadCluster_any a b c P S W W0 ((h.below hb0).more hb0.size) hP hS hW hwp hws hww
  have x0 := hx.c0; have x1 := hx.c1; have x2 := hx.c2
  clear h hb0 hx HE hwp hws hww
  by_cases hk : ulC P S W = 0
  · obtain ⟨m, hC, hw⟩ := ul_cl hk
    have hu := (ul_yes hC hw).2.2.2
    have hsq : cmA P S W = cdN (ulL P S W m) (ulL P S W m).length := by unfold cmA; rw [if_pos hk, hu, ulL_len, hC.p]
    have hln : 1 ≤ (ulL P S W m).length ∧ (ulL P S W m).length ≤ 24 := by rw [ulL_len]; exact ⟨hC.lo, hC.hi⟩
    rw [hsq, hk]
    rw [hk, hu] at hun
    generalize ulL P S W m = L at *
    have HUN := Lib.hid hun
    have HR := Lib.hid (cd_rng hw)
    have HWT := Lib.hid hw
    obtain ⟨hn1, hn⟩ := hln
    clear hun hu hsq hk hw hC
    go_enter Try.func44, Try.ntmps44
    go_wp2_with fail
    rw [← HEQ.out]
    go_wp2_with (go_at_call 42; refine HUN.out.mono ?_; rintro e w1 ⟨a1, b1, c1, rfl, ⟨hh, l0, h0, l1, h1, l2, h2, ap, o0, o1, o2⟩, hb⟩; obtain ⟨A1, k1, rfl⟩ := own_form o0.1; obtain ⟨A2, k2, rfl⟩ := own_form o1.1; obtain ⟨A3, k3, rfl⟩ := own_form o2.1; have HB := Lib.hid hb; have HO2 := Lib.hid o2; clear hb o0 o1 o2 ap hh; obtain ⟨W1, HW1⟩ : ∃ V, V = w1.alloc (.cells #[.slice A1 (ulPA P S W).length k1, .slice A2 (ulSA P S W).length k2, .slice A3 L.length k3] 28) := ⟨_, rfl⟩; obtain ⟨g3, o3, e3, H3, hg3⟩ := cells_of (HO2.out.reads.below (below_box2 w1 (.cells #[.slice A1 (ulPA P S W).length k1, .slice A2 (ulSA P S W).length k2, .slice A3 L.length k3] 28))) rfl hn1; subst e3; have HG3 := Lib.hid hg3; clear hg3)
    go_loopw [6, 7] (fun vs vi wr => ∃ (k : Nat), k ≤ L.length ∧ vs = .int .i64 (cdN L k) ∧ vi = .int .i64 k ∧ Hid (Below (w1.alloc (.cells #[.slice A1 (ulPA P S W).length k1, .slice A2 (ulSA P S W).length k2, .slice (some ⟨g3, o3, none⟩) L.length k3] 28)).heap.size (w1.alloc (.cells #[.slice A1 (ulPA P S W).length k1, .slice A2 (ulSA P S W).length k2, .slice (some ⟨g3, o3, none⟩) L.length k3] 28)) wr)) (fun _ vi _ => L.length - (intOf vi).toNat)
    case atStart => exact ⟨0, by omega, rfl, rfl, Lib.hid (Below.refl _ _)⟩
    case round =>
      obtain ⟨k, hk, rfl, rfl, hbw⟩ := hrel
      have hx2 : wr.cell? ⟨w1.heap.size, 2, none⟩ = some (.slice (some ⟨g3, o3, none⟩) L.length k3) := (hbw.out.cell (p := ⟨w1.heap.size, 2, none⟩) (by simp)).trans (CBox.new w1 _ _ _ _).c2
      by_cases hkn : k < L.length
      · have hkn2 : (k : Int) < (L.length : Int) := by omega
        have hg3 := HG3.out
        have d1 := (hbw.out.cell (p := ⟨g3, o3 + k, none⟩) (by simp; omega)).trans (H3.out k hkn)
        have hr := HR.out k
        have hp := cd_one (wtOK_at (i := k) HWT.out)
        have HNX : Hid (cdN L (k + 1) = cdN L k + Int.tdiv (L[k]?.getD 0 * (L[k]?.getD 0 + 1)) 2) := Lib.hid rfl
        have hx := wtOK_at (i := k) HWT.out
        obtain ⟨s, hs⟩ : ∃ s, cdN L k = s := ⟨_, rfl⟩
        obtain ⟨x, hxx⟩ : ∃ s, L[k]?.getD 0 = s := ⟨_, rfl⟩
        rw [hs] at hr HNX ⊢
        rw [hxx] at d1 hp HNX hx
        have p0 : IntKind.i64.wrap (x + 1) = x + 1 := IntWalk.i64_in _ (by omega)
        have p1 : IntKind.i64.wrap (x * (x + 1)) = x * (x + 1) := IntWalk.i64_in _ (by omega)
        have p2 : IntKind.i64.wrap (Int.tdiv (x * (x + 1)) 2) = Int.tdiv (x * (x + 1)) 2 := IntWalk.i64_in _ (by omega)
        have p3 : IntKind.i64.wrap (s + Int.tdiv (x * (x + 1)) 2) = s + Int.tdiv (x * (x + 1)) 2 := IntWalk.i64_in _ (by omega)
        clear hs hxx hr hp hx
        go_wp2_with fail
        go_quiet (fail)
        go_wp2_with fail
        go_roundw
        case rel => exact ⟨k + 1, by omega, by rw [HNX.out], by go_num, Lib.hid (hbw.out.trans (drewN_below _ _))⟩
        case measure => simp [intOf]; omega
      · obtain rfl : k = L.length := by omega
        go_wp2_with fail
        go_ret2
        exact ⟨rfl, (HB0.out.trans ((HB.out.mono HB0.out.size).alloc (by have := HB0.out.size; have := HB.out.size; omega) _)).trans (hbw.out.mono (by have := HB0.out.size; have := HB.out.size; simp; omega))⟩
  · obtain ⟨C, hC⟩ : ∃ C, ulC P S W = C := ⟨_, rfl⟩
    have h0 := (ul_no hC (by omega)).2.2
    rw [hC] at hun hk
    rw [h0] at hun
    have hsq : cmA P S W = 0 := by unfold cmA; rw [hC, if_neg hk]
    rw [hsq, hC]
    have HUN := Lib.hid hun
    have hne : (C == 0) = false := by simpa using hk
    clear hun h0 hC hsq
    go_enter Try.func44, Try.ntmps44
    go_wp2_with fail
    rw [← HEQ.out]
    go_wp2_with (go_at_call 42; refine HUN.out.mono ?_; rintro e w1 ⟨a1, b1, c1, rfl, ⟨hh, l0, h0, l1, h1, l2, h2, ap, o0, o1, o2⟩, hb⟩; obtain ⟨A1, k1, rfl⟩ := own_form o0.1; obtain ⟨A2, k2, rfl⟩ := own_form o1.1; obtain ⟨A3, k3, rfl⟩ := own_form o2.1; have HB := Lib.hid hb; have HO2 := Lib.hid o2; clear hb o0 o1 o2 ap hh)
    go_ret2
    exact ⟨rfl, HB0.out.trans ((HB.out.mono HB0.out.size).alloc (by have := HB0.out.size; have := HB.out.size; omega) _)⟩

set_option maxRecDepth 100000 in
set_option maxHeartbeats 4000000 in
theorem implCodimensionOf_any (a b c : Value) (P S W : List Int) (w : World) (h : ReadC w w.heap.size a b c P S W) (hP : P.length ≤ 1048576) (hS : S.length ≤ 1048576) (hW : W.length ≤ 1048576) (hwp : ∀ z ∈ P, (Lit.int .i64 z).wf = true) (hws : ∀ z ∈ S, (Lit.int .i64 z).wf = true) (hww : ∀ z ∈ W, (Lit.int .i64 z).wf = true) :
    Calls Try.prog 45 #[.agg #[a, b, c]] w (AnsII w (cmA P S W) (ulC P S W)) := by
  obtain ⟨W0, HE⟩ : ∃ V, V = w.alloc (.cells #[a, b, c] 28) := ⟨_, rfl⟩
  have hb0 : Below w.heap.size w W0 := by rw [HE]; exact below_box2 _ _
  have hx : CBox W0 w.heap.size a b c := by rw [HE]; exact CBox.new _ _ _ _ _
  have HB0 := Lib.hid hb0; have HEQ := Lib.hid HE
  have hun := implUnloadCluster_any a b c P S W W0 ((h.below hb0).more hb0.size) hP hS hW hwp hws hww
  have x0 := hx.c0; have x1 := hx.c1; have x2 := hx.c2
  clear h hb0 hx HE hwp hws hww
  by_cases hk : ulC P S W = 0
  · obtain ⟨m, hC, hw⟩ := ul_cl hk
    have hu := (ul_yes hC hw).2.2.2
    have hsq : cmA P S W = cdN (ulL P S W m) (ulL P S W m).length := by unfold cmA; rw [if_pos hk, hu, ulL_len, hC.p]
    have hln : 1 ≤ (ulL P S W m).length ∧ (ulL P S W m).length ≤ 24 := by rw [ulL_len]; exact ⟨hC.lo, hC.hi⟩
    rw [hsq, hk]
    rw [hk, hu] at hun
    generalize ulL P S W m = L at *
    have HUN := Lib.hid hun
    have HR := Lib.hid (cd_rng hw)
    have HWT := Lib.hid hw
    obtain ⟨hn1, hn⟩ := hln
    clear hun hu hsq hk hw hC
    go_enter Try.func45, Try.ntmps45
    go_wp2_with fail
    rw [← HEQ.out]
    go_wp2_with (go_at_call 43; refine HUN.out.mono ?_; rintro e w1 ⟨a1, b1, c1, rfl, ⟨hh, l0, h0, l1, h1, l2, h2, ap, o0, o1, o2⟩, hb⟩; obtain ⟨A1, k1, rfl⟩ := own_form o0.1; obtain ⟨A2, k2, rfl⟩ := own_form o1.1; obtain ⟨A3, k3, rfl⟩ := own_form o2.1; have HB := Lib.hid hb; have HO2 := Lib.hid o2; clear hb o0 o1 o2 ap hh; obtain ⟨W1, HW1⟩ : ∃ V, V = w1.alloc (.cells #[.slice A1 (ulPA P S W).length k1, .slice A2 (ulSA P S W).length k2, .slice A3 L.length k3] 28) := ⟨_, rfl⟩; obtain ⟨g3, o3, e3, H3, hg3⟩ := cells_of (HO2.out.reads.below (below_box2 w1 (.cells #[.slice A1 (ulPA P S W).length k1, .slice A2 (ulSA P S W).length k2, .slice A3 L.length k3] 28))) rfl hn1; subst e3; have HG3 := Lib.hid hg3; clear hg3)
    go_loopw [6, 17] (fun vs vi wr => ∃ (k d : Nat), k ≤ L.length ∧ vs = .int .i64 (cdN L k) ∧ vi = .int .i64 k ∧ wr = (w1.alloc (.cells #[.slice A1 (ulPA P S W).length k1, .slice A2 (ulSA P S W).length k2, .slice (some ⟨g3, o3, none⟩) L.length k3] 28)).drewN d) (fun _ vi _ => L.length - (intOf vi).toNat)
    case atStart => exact ⟨0, 0, by omega, rfl, rfl, rfl⟩
    case round =>
      obtain ⟨k, d, hk, rfl, rfl, rfl⟩ := hrel
      by_cases hkn : k < L.length
      · have hkn2 : (k : Int) < (L.length : Int) := by omega
        have d1 := H3.out k hkn
        have hr := HR.out k
        have hp := cd_one (wtOK_at (i := k) HWT.out)
        have HNX : Hid (cdN L (k + 1) = cdN L k + Int.tdiv (L[k]?.getD 0 * (L[k]?.getD 0 + 1)) 2) := Lib.hid rfl
        have hx := wtOK_at (i := k) HWT.out
        obtain ⟨s, hs⟩ : ∃ s, cdN L k = s := ⟨_, rfl⟩
        obtain ⟨x, hxx⟩ : ∃ s, L[k]?.getD 0 = s := ⟨_, rfl⟩
        rw [hs] at hr HNX ⊢
        rw [hxx] at d1 hp HNX hx
        have p0 : IntKind.i64.wrap (x + 1) = x + 1 := IntWalk.i64_in _ (by omega)
        have p1 : IntKind.i64.wrap (x * (x + 1)) = x * (x + 1) := IntWalk.i64_in _ (by omega)
        have p2 : IntKind.i64.wrap (Int.tdiv (x * (x + 1)) 2) = Int.tdiv (x * (x + 1)) 2 := IntWalk.i64_in _ (by omega)
        have p3 : IntKind.i64.wrap (s + Int.tdiv (x * (x + 1)) 2) = s + Int.tdiv (x * (x + 1)) 2 := IntWalk.i64_in _ (by omega)
        clear hs hxx hr hp hx
        go_wp2_with fail
        go_roundw
        case rel => exact ⟨k + 1, _, by omega, by rw [HNX.out], by go_num, rfl⟩
        case measure => simp [intOf]; omega
      · obtain rfl : k = L.length := by omega
        go_wp2_with fail
        go_ret2
        exact ⟨rfl, (HB0.out.trans ((HB.out.mono HB0.out.size).alloc (by have := HB0.out.size; have := HB.out.size; omega) _)).trans (drewN_below _ d)⟩
  · obtain ⟨C, hC⟩ : ∃ C, ulC P S W = C := ⟨_, rfl⟩
    have h0 := (ul_no hC (by omega)).2.2
    rw [hC] at hun hk
    rw [h0] at hun
    have hsq : cmA P S W = 0 := by unfold cmA; rw [hC, if_neg hk]
    rw [hsq, hC]
    have HUN := Lib.hid hun
    have hne : (C == 0) = false := by simpa using hk
    clear hun h0 hC hsq
    go_enter Try.func45, Try.ntmps45
    go_wp2_with fail
    rw [← HEQ.out]
    go_wp2_with (go_at_call 43; refine HUN.out.mono ?_; rintro e w1 ⟨a1, b1, c1, rfl, ⟨hh, l0, h0, l1, h1, l2, h2, ap, o0, o1, o2⟩, hb⟩; obtain ⟨A1, k1, rfl⟩ := own_form o0.1; obtain ⟨A2, k2, rfl⟩ := own_form o1.1; obtain ⟨A3, k3, rfl⟩ := own_form o2.1; have HB := Lib.hid hb; have HO2 := Lib.hid o2; clear hb o0 o1 o2 ap hh)
    go_loopw [6, 17] (fun vs vi wr => vs = .int .i64 0 ∧ vi = .int .i64 0 ∧ wr = w1.alloc (.cells #[.slice A1 (ulPA P S W).length k1, .slice A2 (ulSA P S W).length k2, .slice A3 0 k3] 28)) (fun _ _ _ => 0)
    case atStart => exact ⟨rfl, rfl, rfl⟩
    case round =>
      obtain ⟨rfl, rfl, rfl⟩ := hrel
      go_wp2_with fail
      go_ret2
      exact ⟨rfl, HB0.out.trans ((HB.out.mono HB0.out.size).alloc (by have := HB0.out.size; have := HB.out.size; omega) _)⟩

end Go.Proofs.Ytjobfjgphcaoeaa
