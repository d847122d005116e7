/- Clusters with given weights: contracts. Conditions: stated at each theorem. -/
import Derived.Test.YtohbgfmjnanlkaaClD
import Derived.Deep.RegionHeld3
namespace Go.Proofs.Ytohbgfmjnanlkaa
open Go.ChangeShapes Go.WideShapes Go.ChangeAt Go.RowKit Go.Deep
set_option linter.unusedVariables false
set_option linter.unusedSimpArgs false

theorem below_un {w w' : World} (h : Below w.drew.heap.size w.drew w') : Below w.heap.size w w' := ⟨h.os, h.tape, h.output, h.size, h.block⟩
/-- An answer: a cluster with the weights v, its other lists of the call's own, apart. -/
def WAns (w : World) (P S : List Int) (a b : Value) (w' : World) : Prop := ∃ m, w.heap.size ≤ m ∧ m ≤ w'.heap.size ∧ OwnI w' w.heap.size m a P ∧ OwnI w' m w'.heap.size b S

set_option maxRecDepth 100000 in
set_option maxHeartbeats 4000000 in
theorem l07With_any (a b c : Value) (A3 : Option Addr) (n3 c3 : Nat) (P S U : List Int) (w : World) (h : ReadC w w.heap.size a b c P S U) (hP : P.length ≤ 1048576) (hS : S.length ≤ 1048576) :
    Calls Try.prog 78 #[.agg #[a, b, c], .slice A3 n3 c3] w fun e w' => ∃ a' b', e = .returned (.agg #[a', b', .slice A3 n3 c3]) ∧ WAns w P S a' b' w' ∧ Below w.heap.size w w' := by
  obtain ⟨W0, HE⟩ : ∃ V, V = (w.alloc (.cells #[a, b, c] 36)).alloc (.cells #[.slice none 0 0, .slice none 0 0, .slice none 0 0] 36) := ⟨_, rfl⟩
  have hb0 : Below w.heap.size w W0 := by rw [HE]; exact (below_box2 _ _).alloc (by simp) _
  have hx : CBox W0 w.heap.size a b c := by rw [HE]; exact (CBox.new w a b c 36).alloc _
  have hy : CBox W0 (w.heap.size + 1) (.slice none 0 0) (.slice none 0 0) (.slice none 0 0) := by
    have := CBox.new (w.alloc (.cells #[a, b, c] 36)) (.slice none 0 0) (.slice none 0 0) (.slice none 0 0) 36
    rw [World.size_alloc] at this
    rw [HE]; exact this
  have HR := Lib.hid ((h.below hb0).more hb0.size)
  have HB0 := Lib.hid hb0
  have HEQ := Lib.hid HE
  have HZ0 : Hid (W0.heap.size = w.heap.size + 2) := Lib.hid (by rw [HE]; simp)
  have HX := Lib.hid hx
  have HY := Lib.hid hy
  have x0 := hx.c0; have x1 := hx.c1
  clear h hb0 hx hy HE
  go_enter Try.func78, Try.ntmps78
  go_wp2_with fail
  rw [← HEQ.out]
  have HC1 := Lib.hid (l01Own_any a P W0.drew W0.heap.size HR.out.1 (by omega) (Nat.le_refl _))
  have HC2 := fun (V : World) (hR : ReadC V V.heap.size a b c P S U) => hid_in (l01Own_any b S V V.heap.size hR.2.1 (by omega) (Nat.le_refl _))
  go_region_held3 (fun w' => w'.cell? ⟨w.heap.size, 0, none⟩ = some a ∧ w'.cell? ⟨w.heap.size, 1, none⟩ = some b) (first | exact ⟨x0, x1⟩ | exact ⟨y0, y1⟩ | exact ⟨z0, z1⟩ | (constructor <;> go_simp))
    (first
      | (go_at_call 123; (with_reducible refine (HC1.out).mono ?_); rintro e w1 ⟨v1, rfl, ho1, hb1⟩; obtain ⟨A4, c4, rfl⟩ := own_form ho1.1; have hb1' := below_un hb1; have hX1 := HX.out.below hb1'; have hY1 := HY.out.below hb1'; have HX1 := Lib.hid hX1; have HY1 := Lib.hid hY1; have y0 := hX1.c0; have y1 := hX1.c1; have HR1 := Lib.hid ((HR.out.below hb1').more hb1'.size); have HO1 := Lib.hid ho1; have HB1 := Lib.hid hb1'; clear ho1 hb1 hb1' hX1 hY1)
      | (go_at_call 123; (with_reducible refine (hid_out (HC2 w1 HR1.out)).mono ?_); rintro e w2 ⟨v2, rfl, ho2, hb2⟩; obtain ⟨A5, c5, rfl⟩ := own_form ho2.1; have hX2 := HX1.out.below hb2; have hY2 := HY1.out.below hb2; have z0 := hX2.c0; have z1 := hX2.c1; have HB2 := Lib.hid hb2; have HO2 := Lib.hid ho2; have HY2 := Lib.hid hY2; have k0 := hY2.c0; have k1 := hY2.c1; have k2 := hY2.c2; have k3 := hY2.f0; have k4 := hY2.f1; have k5 := hY2.f2; have k6 := hY2.lt; clear ho2 hb2 hX2 hY2))
  have cr : CBox (((w2.setCell ⟨w.heap.size + 1, 0, none⟩ (.slice A4 P.length c4)).setCell ⟨w.heap.size + 1, 1, none⟩ (.slice A5 S.length c5)).setCell ⟨w.heap.size + 1, 2, none⟩ (.slice A3 n3 c3)) (w.heap.size + 1) (.slice A4 P.length c4) (.slice A5 S.length c5) (.slice A3 n3 c3) := ((HY2.out.set0 _).set1 _).set2 _
  have cr0 := cr.c0; have cr1 := cr.c1; have cr2 := cr.c2
  go_wp2_with fail
  have hsz : (((w2.setCell ⟨w.heap.size + 1, 0, none⟩ (.slice A4 P.length c4)).setCell ⟨w.heap.size + 1, 1, none⟩ (.slice A5 S.length c5)).setCell ⟨w.heap.size + 1, 2, none⟩ (.slice A3 n3 c3)).heap.size = w2.heap.size := by rw [size_set, size_set, size_set]
  have hs1 := HB1.out.size; have hs2 := HB2.out.size; have hs0 := HZ0.out
  refine bodyPost_ret (v := .agg #[.slice A4 P.length c4, .slice A5 S.length c5, .slice A3 n3 c3]) (by simp [results, Try.results78, go_sem, cr0, cr1, cr2]) rfl ⟨_, _, rfl, ?_, ?_⟩
  · refine ⟨w1.heap.size, by omega, by rw [hsz]; exact hs2, ?_, ?_⟩
    · have hl0 : w.heap.size + 1 < W0.drew.heap.size := by show _ < W0.heap.size; omega
      exact own_less (OwnI.newC (OwnI.newC (OwnI.newC (HO1.out.stay HB2.out) hl0 _) hl0 _) hl0 _) (by omega)
    · have hl1 : w.heap.size + 1 < w1.heap.size := by omega
      rw [hsz]
      exact OwnI.newC (OwnI.newC (OwnI.newC HO2.out hl1 _) hl1 _) hl1 _
  · exact ((((HB0.out.trans (HB1.out.mono HB0.out.size)).trans (HB2.out.mono (by omega))).setCell (p := ⟨w.heap.size + 1, 0, none⟩) (by show w.heap.size ≤ w.heap.size + 1; omega) _).setCell (p := ⟨w.heap.size + 1, 1, none⟩) (by show w.heap.size ≤ w.heap.size + 1; omega) _).setCell (p := ⟨w.heap.size + 1, 2, none⟩) (by show w.heap.size ≤ w.heap.size + 1; omega) _
set_option maxRecDepth 100000 in
set_option maxHeartbeats 4000000 in
theorem withW_any (a b c : Value) (A3 : Option Addr) (n3 c3 : Nat) (P S U V : List Int) (w : World) (h : ReadC w w.heap.size a b c P S U) (hv : ReadI w w.heap.size (.slice A3 n3 c3) V) (hP : P.length ≤ 1048576) (hS : S.length ≤ 1048576) (hV : V.length ≤ 1048576) (bb : Bool) (hb : wtOK V = bb) :
    Calls Try.prog 87 #[.agg #[a, b, c], .slice A3 n3 c3] w fun e w' => (bb = true → ∃ a' b', e = .returned (.tuple #[.agg #[a', b', .slice A3 n3 c3], .int .i64 0]) ∧ WAns w P S a' b' w') ∧ (bb = false → e = .returned (.tuple #[.agg #[.slice none 0 0, .slice none 0 0, .slice none 0 0], .int .i64 3])) ∧ Below w.heap.size w w' := by
  obtain ⟨W0, HE⟩ : ∃ V, V = (w.alloc (.cells #[a, b, c] 36)).alloc (.cells #[.slice none 0 0, .slice none 0 0, .slice none 0 0] 36) := ⟨_, rfl⟩
  have hb0 : Below w.heap.size w W0 := by rw [HE]; exact (below_box2 _ _).alloc (by simp) _
  have hx : CBox W0 w.heap.size a b c := by rw [HE]; exact (CBox.new w a b c 36).alloc _
  have hy : CBox W0 (w.heap.size + 1) (.slice none 0 0) (.slice none 0 0) (.slice none 0 0) := by
    have := CBox.new (w.alloc (.cells #[a, b, c] 36)) (.slice none 0 0) (.slice none 0 0) (.slice none 0 0) 36
    rw [World.size_alloc] at this
    rw [HE]; exact this
  have HR := Lib.hid ((h.below hb0).more hb0.size)
  have HV := Lib.hid ((hv.below hb0).more hb0.size)
  have HB0 := Lib.hid hb0
  have HEQ := Lib.hid HE
  have HZ0 : Hid (W0.heap.size = w.heap.size + 2) := Lib.hid (by rw [HE]; simp)
  have HX := Lib.hid hx
  have HY := Lib.hid hy
  have HBB := Lib.hid hb
  have x0 := hx.c0; have x1 := hx.c1
  have k0 := hy.c0; have k1 := hy.c1; have k2 := hy.c2; have k3 := hy.f0; have k4 := hy.f1; have k5 := hy.f2; have k6 := hy.lt
  clear h hv hb0 hx hy HE hb
  cases bb
  · go_enter Try.func87, Try.ntmps87
    go_wp2_with fail
    rw [← HEQ.out]
    refine (areW_any _ V false W0 W0.heap.size HV.out hV HBB.out).mono ?_
    rintro e w' ⟨rfl, rfl⟩
    go_wp2_with fail
    have cr : CBox (((W0.setCell ⟨w.heap.size + 1, 0, none⟩ (.slice none 0 0)).setCell ⟨w.heap.size + 1, 1, none⟩ (.slice none 0 0)).setCell ⟨w.heap.size + 1, 2, none⟩ (.slice none 0 0)) (w.heap.size + 1) (.slice none 0 0) (.slice none 0 0) (.slice none 0 0) := ((HY.out.set0 _).set1 _).set2 _
    have cr0 := cr.c0; have cr1 := cr.c1; have cr2 := cr.c2
    refine bodyPost_ret (v := .tuple #[.agg #[.slice none 0 0, .slice none 0 0, .slice none 0 0], .int .i64 3]) (by simp [results, Try.results87, go_sem, cr0, cr1, cr2]) rfl ⟨fun h => (by cases h), fun _ => rfl, ?_⟩
    exact ((HB0.out.setCell (p := ⟨w.heap.size + 1, 0, none⟩) (by show w.heap.size ≤ w.heap.size + 1; omega) _).setCell (p := ⟨w.heap.size + 1, 1, none⟩) (by show w.heap.size ≤ w.heap.size + 1; omega) _).setCell (p := ⟨w.heap.size + 1, 2, none⟩) (by show w.heap.size ≤ w.heap.size + 1; omega) _
  clear k0 k1 k2 k3 k4 k5 k6
  go_enter Try.func87, Try.ntmps87
  go_wp2_with fail
  rw [← HEQ.out]
  refine (areW_any _ V true W0 W0.heap.size HV.out hV HBB.out).mono ?_
  rintro e w' ⟨rfl, rfl⟩
  go_wp2_with fail
  have HC1 := Lib.hid (clone_any a P W0.drew W0.heap.size HR.out.1 (by omega) (Nat.le_refl _))
  have HC2 := fun (V : World) (hR : ReadC V V.heap.size a b c P S U) => hid_in (clone_any b S V V.heap.size hR.2.1 (by omega) (Nat.le_refl _))
  go_region_held3 (fun w' => w'.cell? ⟨w.heap.size, 0, none⟩ = some a ∧ w'.cell? ⟨w.heap.size, 1, none⟩ = some b) (first | exact ⟨x0, x1⟩ | exact ⟨y0, y1⟩ | exact ⟨z0, z1⟩ | (constructor <;> go_simp))
    (first
      | (go_at_call 99; (with_reducible refine (HC1.out).mono ?_); rintro e w1 ⟨v1, rfl, ho1, hb1⟩; obtain ⟨A4, c4, rfl⟩ := own_form ho1.1; have hb1' := below_un hb1; have hX1 := HX.out.below hb1'; have hY1 := HY.out.below hb1'; have HX1 := Lib.hid hX1; have HY1 := Lib.hid hY1; have y0 := hX1.c0; have y1 := hX1.c1; have HR1 := Lib.hid ((HR.out.below hb1').more hb1'.size); have HO1 := Lib.hid ho1; have HB1 := Lib.hid hb1'; clear ho1 hb1 hb1' hX1 hY1)
      | (go_at_call 99; (with_reducible refine (hid_out (HC2 w1 HR1.out)).mono ?_); rintro e w2 ⟨v2, rfl, ho2, hb2⟩; obtain ⟨A5, c5, rfl⟩ := own_form ho2.1; have hX2 := HX1.out.below hb2; have hY2 := HY1.out.below hb2; have z0 := hX2.c0; have z1 := hX2.c1; have HB2 := Lib.hid hb2; have HO2 := Lib.hid ho2; have HY2 := Lib.hid hY2; have k0 := hY2.c0; have k1 := hY2.c1; have k2 := hY2.c2; have k3 := hY2.f0; have k4 := hY2.f1; have k5 := hY2.f2; have k6 := hY2.lt; clear ho2 hb2 hX2 hY2))
  have cr : CBox (((w2.setCell ⟨w.heap.size + 1, 0, none⟩ (.slice A4 P.length c4)).setCell ⟨w.heap.size + 1, 1, none⟩ (.slice A5 S.length c5)).setCell ⟨w.heap.size + 1, 2, none⟩ (.slice A3 n3 c3)) (w.heap.size + 1) (.slice A4 P.length c4) (.slice A5 S.length c5) (.slice A3 n3 c3) := ((HY2.out.set0 _).set1 _).set2 _
  have cr0 := cr.c0; have cr1 := cr.c1; have cr2 := cr.c2
  go_wp2_with fail
  have hsz : (((w2.setCell ⟨w.heap.size + 1, 0, none⟩ (.slice A4 P.length c4)).setCell ⟨w.heap.size + 1, 1, none⟩ (.slice A5 S.length c5)).setCell ⟨w.heap.size + 1, 2, none⟩ (.slice A3 n3 c3)).heap.size = w2.heap.size := by rw [size_set, size_set, size_set]
  have hs1 := HB1.out.size; have hs2 := HB2.out.size; have hs0 := HZ0.out
  refine bodyPost_ret (v := .tuple #[.agg #[.slice A4 P.length c4, .slice A5 S.length c5, .slice A3 n3 c3], .int .i64 0]) (by simp [results, Try.results87, go_sem, cr0, cr1, cr2]) rfl ⟨fun _ => ⟨_, _, rfl, ?_⟩, fun h => (by cases h), ?_⟩
  · refine ⟨w1.heap.size, by omega, by rw [hsz]; exact hs2, ?_, ?_⟩
    · have hl0 : w.heap.size + 1 < W0.drew.heap.size := by show _ < W0.heap.size; omega
      exact own_less (OwnI.newC (OwnI.newC (OwnI.newC (HO1.out.stay HB2.out) hl0 _) hl0 _) hl0 _) (by omega)
    · have hl1 : w.heap.size + 1 < w1.heap.size := by omega
      rw [hsz]
      exact OwnI.newC (OwnI.newC (OwnI.newC HO2.out hl1 _) hl1 _) hl1 _
  · exact ((((HB0.out.trans (HB1.out.mono HB0.out.size)).trans (HB2.out.mono (by omega))).setCell (p := ⟨w.heap.size + 1, 0, none⟩) (by show w.heap.size ≤ w.heap.size + 1; omega) _).setCell (p := ⟨w.heap.size + 1, 1, none⟩) (by show w.heap.size ≤ w.heap.size + 1; omega) _).setCell (p := ⟨w.heap.size + 1, 2, none⟩) (by show w.heap.size ≤ w.heap.size + 1; omega) _

set_option maxRecDepth 100000 in
set_option maxHeartbeats 4000000 in
theorem l07Fit_any (a b c : Value) (P S W : List Int) (w : World) (h : ReadC w w.heap.size a b c P S W) (hP : P.length ≤ 1048576) (hS : S.length ≤ 1048576) (hW : W.length ≤ 1048576) (bb : Bool) (hb : clB P S W = bb) :
    Calls Try.prog 77 #[.agg #[a, b, c]] w fun e w' => e = .returned (if bb then .tuple #[.agg #[a, b, c], .int .i64 0] else .tuple #[.agg #[.slice none 0 0, .slice none 0 0, .slice none 0 0], .int .i64 3]) ∧ Below w.heap.size w w' := by
  obtain ⟨W0, HE⟩ : ∃ V, V = (w.alloc (.cells #[a, b, c] 36)).alloc (.cells #[.slice none 0 0, .slice none 0 0, .slice none 0 0] 36) := ⟨_, rfl⟩
  have hb0 : Below w.heap.size w W0 := by rw [HE]; exact (below_box2 _ _).alloc (by simp) _
  have hx : CBox W0 w.heap.size a b c := by rw [HE]; exact (CBox.new w a b c 36).alloc _
  have hy : CBox W0 (w.heap.size + 1) (.slice none 0 0) (.slice none 0 0) (.slice none 0 0) := by
    have := CBox.new (w.alloc (.cells #[a, b, c] 36)) (.slice none 0 0) (.slice none 0 0) (.slice none 0 0) 36
    rw [World.size_alloc] at this
    rw [HE]; exact this
  have HR := Lib.hid ((h.below hb0).more hb0.size)
  have HB0 := Lib.hid hb0
  have HEQ := Lib.hid HE
  have HX := Lib.hid hx
  have HY := Lib.hid hy
  have x0 := hx.c0; have x1 := hx.c1; have x2 := hx.c2
  obtain ⟨A0, k0, rfl⟩ : ∃ A k, a = .slice A P.length k := by obtain ⟨A, k, e, _⟩ := h.1; exact ⟨A, k, e⟩
  obtain ⟨A1, k1, rfl⟩ : ∃ A k, b = .slice A S.length k := by obtain ⟨A, k, e, _⟩ := h.2.1; exact ⟨A, k, e⟩
  obtain ⟨A2, k2, rfl⟩ : ∃ A k, c = .slice A W.length k := by obtain ⟨A, k, e, _⟩ := h.2.2; exact ⟨A, k, e⟩
  clear h hb0 hx hy HE
  go_enter Try.func77, Try.ntmps77
  go_wp2_with fail
  rw [← HEQ.out]
  refine (l07Is_if _ _ _ P S W W0 HR.out hP hS hW bb hb).mono ?_
  rintro e w1 ⟨rfl, hb1⟩
  have hX1 := HX.out.below hb1; have hY1 := HY.out.below hb1
  have y0 := hX1.c0; have y1 := hX1.c1; have y2 := hX1.c2
  have p0 := hY1.c0; have p1 := hY1.c1; have p2 := hY1.c2; have p3 := hY1.f0; have p4 := hY1.f1; have p5 := hY1.f2; have p6 := hY1.lt
  have HB1 := Lib.hid (HB0.out.trans (hb1.mono HB0.out.size))
  have HY1 := Lib.hid hY1
  clear hb hb1 hX1 hY1
  cases bb
  · go_wp2_with fail
    have cr : CBox (((w1.setCell ⟨w.heap.size + 1, 0, none⟩ (.slice none 0 0)).setCell ⟨w.heap.size + 1, 1, none⟩ (.slice none 0 0)).setCell ⟨w.heap.size + 1, 2, none⟩ (.slice none 0 0)) (w.heap.size + 1) (.slice none 0 0) (.slice none 0 0) (.slice none 0 0) := ((HY1.out.set0 _).set1 _).set2 _
    have cr0 := cr.c0; have cr1 := cr.c1; have cr2 := cr.c2
    refine bodyPost_ret (v := .tuple #[.agg #[(.slice none 0 0), (.slice none 0 0), (.slice none 0 0)], .int .i64 3]) (by simp [results, Try.results77, go_sem, cr0, cr1, cr2]) rfl ⟨rfl, ?_⟩
    exact ((HB1.out.setCell (p := ⟨w.heap.size + 1, 0, none⟩) (by show w.heap.size ≤ w.heap.size + 1; omega) _).setCell (p := ⟨w.heap.size + 1, 1, none⟩) (by show w.heap.size ≤ w.heap.size + 1; omega) _).setCell (p := ⟨w.heap.size + 1, 2, none⟩) (by show w.heap.size ≤ w.heap.size + 1; omega) _
  · go_wp2_with fail
    have cr : CBox (((w1.setCell ⟨w.heap.size + 1, 0, none⟩ (.slice A0 P.length k0)).setCell ⟨w.heap.size + 1, 1, none⟩ (.slice A1 S.length k1)).setCell ⟨w.heap.size + 1, 2, none⟩ (.slice A2 W.length k2)) (w.heap.size + 1) (.slice A0 P.length k0) (.slice A1 S.length k1) (.slice A2 W.length k2) := ((HY1.out.set0 _).set1 _).set2 _
    have cr0 := cr.c0; have cr1 := cr.c1; have cr2 := cr.c2
    refine bodyPost_ret (v := .tuple #[.agg #[(.slice A0 P.length k0), (.slice A1 S.length k1), (.slice A2 W.length k2)], .int .i64 0]) (by simp [results, Try.results77, go_sem, cr0, cr1, cr2]) rfl ⟨rfl, ?_⟩
    exact ((HB1.out.setCell (p := ⟨w.heap.size + 1, 0, none⟩) (by show w.heap.size ≤ w.heap.size + 1; omega) _).setCell (p := ⟨w.heap.size + 1, 1, none⟩) (by show w.heap.size ≤ w.heap.size + 1; omega) _).setCell (p := ⟨w.heap.size + 1, 2, none⟩) (by show w.heap.size ≤ w.heap.size + 1; omega) _
end Go.Proofs.Ytohbgfmjnanlkaa
