/- The unloaded cluster, the program's. Conditions: stated at each theorem. -/
import Derived.Test.YtohbgfmjnanlkaaUn14
namespace Go.Proofs.Ytohbgfmjnanlkaa
open Go.ChangeShapes Go.WideShapes Go.ChangeAt Go.RowKit Go.Deep
set_option linter.unusedVariables false
set_option linter.unusedSimpArgs false

open Classical in
/-- The weights of the unloaded cluster. -/
noncomputable def ulL (P S W : List Int) (n : Nat) : List Int := if h : ∃ Q, Lst P S n (ofF P S W n) Q then fnL (woF P S (Classical.choose h)) n else fnL (fun _ => 0) n
theorem ulL_len (P S W : List Int) (n : Nat) : (ulL P S W n).length = n := by
  unfold ulL; split <;> exact fnL_len _ _
theorem ulL_eq {P S W : List Int} {n : Nat} {Q : Nat → Int} (h : okAll P S n = true) (k : Lst P S n (ofF P S W n) Q) : fnL (woF P S Q) n = ulL P S W n := by
  unfold ulL
  have he : ∃ Q, Lst P S n (ofF P S W n) Q := ⟨Q, k⟩
  rw [dif_pos he]
  exact fnL_congr fun x hx => wo_congr h hx fun y hy => k.uniq (Classical.choose_spec he) y hy
noncomputable def ulC (P S W : List Int) : Int := if clB P S W then (if wtOK (ulL P S W P.length) then 0 else 3) else 1
noncomputable def ulPA (P S W : List Int) : List Int := if ulC P S W = 0 then P else []
noncomputable def ulSA (P S W : List Int) : List Int := if ulC P S W = 0 then S else []
noncomputable def ulWA (P S W : List Int) : List Int := if ulC P S W = 0 then ulL P S W P.length else []
theorem ul_no {P S W : List Int} {C : Int} (h : ulC P S W = C) (hC : C ≠ 0) : ulPA P S W = [] ∧ ulSA P S W = [] ∧ ulWA P S W = [] := by
  subst h; exact ⟨if_neg hC, if_neg hC, if_neg hC⟩
theorem ul_mid {P S W : List Int} {n : Nat} (h : ClOK P S W n) : ulC P S W = if wtOK (ulL P S W n) then 0 else 3 := by
  unfold ulC; rw [if_pos h.b, h.p]
theorem ul_yes {P S W : List Int} {n : Nat} (h : ClOK P S W n) (hw : wtOK (ulL P S W n) = true) : ulC P S W = 0 ∧ ulPA P S W = P ∧ ulSA P S W = S ∧ ulWA P S W = ulL P S W n := by
  have h0 : ulC P S W = 0 := by rw [ul_mid h, hw]; rfl
  exact ⟨h0, if_pos h0, if_pos h0, by unfold ulWA; rw [if_pos h0, h.p]⟩
theorem ul_len (P S W : List Int) : (ulPA P S W).length ≤ 1048576 ∧ (ulSA P S W).length ≤ 1048576 ∧ (ulWA P S W).length ≤ 1048576 := by
  by_cases h : ulC P S W = 0
  · have hb : clB P S W = true := by
      cases hb : clB P S W with
      | true => rfl
      | false => simp [ulC, hb] at h
    obtain ⟨n, hC⟩ := clB_true hb
    have hn := hC.hi
    refine ⟨by rw [ulPA, if_pos h, hC.p]; omega, by rw [ulSA, if_pos h, hC.s]; omega, by rw [ulWA, if_pos h, ulL_len, hC.p]; omega⟩
  · have h2 := ul_no (C := ulC P S W) rfl h
    rw [h2.1, h2.2.1, h2.2.2]; simp
/-- What the rounds of raising ask of a cluster's orders. -/
theorem of_start {P S W : List Int} {n : Nat} (h : ClOK P S W n) : (∀ x, x < n → -13000000000 ≤ ofF P S W n x ∧ ofF P S W n x ≤ 13000000000) ∧ (∀ x, x < n → -(bdE P S n x) ≤ exU P S n (ofF P S W n) x ∧ exU P S n (ofF P S W n) x ≤ bdE P S n x) ∧ (∀ x, x < n → -2500000 ≤ xsF P S n (ofF P S W n) x) := by
  have hw : ∀ i, i < n → -100000 ≤ (fun x => W[x]?.getD 0) i ∧ (fun x => W[x]?.getD 0) i ≤ 100000 := fun i _ => wtOK_at h.wt
  have hex : ∀ x, x < n → exU P S n (ofF P S W n) x = exN P S (fun x => W[x]?.getD 0) n x := fun x hx => by
    unfold exU; rw [wo_back h.ok h.w]
  have hM := mx_cluster h.ok h.hi
  have hb : ∀ x, x < n → -(100000 * -(meE P S n x x)) ≤ exU P S n (ofF P S W n) x ∧ exU P S n (ofF P S W n) x ≤ 100000 * -(meE P S n x x) := fun x hx => by
    rw [hex x hx]; exact w_bd h.ok hx (by omega) hw
  refine ⟨fun x hx => ?_, fun x hx => ?_, fun x hx => ?_⟩
  · rw [ofF_at hx]
    have := oF_121 h.ok h.hi (by omega) hw x hx
    omega
  · have := hb x hx; have := hM.neg x hx
    unfold bdE; omega
  · rw [← exU_xs h.ok hx]
    have h1 := hb x hx
    have h2 := me_self h.ok hx
    have h3 : sgC (fun j => cnQ (nrC P S j) x) n ≤ 1 * n := (sgC_le (b := 1) (n := n) (fun i hi => by
      rw [cn_le h.ok hi]; split <;> omega)).2
    have := h.hi
    omega

set_option maxRecDepth 100000 in
set_option maxHeartbeats 4000000 in
theorem implUnloadCluster_any (a b c : Value) (P S W : List Int)  (w : World) (h : ReadC w w.heap.size a b c P S W) (hP : P.length ≤ 1048576) (hS : S.length ≤ 1048576) (hW : W.length ≤ 1048576) (hwp : ∀ z ∈ P, (Lit.int .i64 z).wf = true) (hws : ∀ z ∈ S, (Lit.int .i64 z).wf = true) (hww : ∀ z ∈ W, (Lit.int .i64 z).wf = true) :
    Calls Try.prog 73 #[.agg #[a, b, c]] w (AnsCC w (ulPA P S W) (ulSA P S W) (ulWA P S W) (ulC P S W)) := by
  obtain ⟨W0, HE⟩ : ∃ V, V = (w.alloc (.cells #[a, b, c] 36)).alloc (.cells #[.slice none 0 0, .slice none 0 0, .slice none 0 0] 36) := ⟨_, rfl⟩
  have hb0 : Below w.heap.size w W0 := by rw [HE]; exact (below_box2 _ _).alloc (by simp) _
  have hx : CBox W0 w.heap.size a b c := by rw [HE]; exact (CBox.new w a b c 36).alloc _
  have hy : CBox W0 (w.heap.size + 1) (.slice none 0 0) (.slice none 0 0) (.slice none 0 0) := by
    have := CBox.new (w.alloc (.cells #[a, b, c] 36)) (.slice none 0 0) (.slice none 0 0) (.slice none 0 0) 36
    rw [World.size_alloc] at this
    rw [HE]; exact this
  have HZ0 : Hid (W0.heap.size = w.heap.size + 2) := Lib.hid (by rw [HE]; simp)
  obtain ⟨A0, k0, rfl⟩ : ∃ A k, a = .slice A P.length k := by obtain ⟨A, k, e, _⟩ := h.1; exact ⟨A, k, e⟩
  obtain ⟨A1, k1, rfl⟩ : ∃ A k, b = .slice A S.length k := by obtain ⟨A, k, e, _⟩ := h.2.1; exact ⟨A, k, e⟩
  obtain ⟨A2, k2, rfl⟩ : ∃ A k, c = .slice A W.length k := by obtain ⟨A, k, e, _⟩ := h.2.2; exact ⟨A, k, e⟩
  have HR := Lib.hid ((h.below hb0).more hb0.size)
  have HB := Lib.hid hb0
  have HEQ := Lib.hid HE
  have HX := Lib.hid hx
  have HY := Lib.hid hy
  have x0 := hx.c0; have x1 := hx.c1; have x2 := hx.c2
  clear h hb0 hx hy HE hwp hws hww
  rcases bool_fs (clB P S W) with hp | hp
  · have HP := Lib.hid hp
    have hk : ulC P S W = 1 := by simp [ulC, hp]
    have HK := Lib.hid hk; have HN := Lib.hid (ul_no hk (by decide)); clear hk
    clear hp
    go_enter Try.func73, Try.ntmps73
    go_wp2_with fail
    rw [← HEQ.out]
    refine (linked_if _ _ _ P S W W0 HR.out hP hS hW false HP.out).mono ?_
    rintro e w1 ⟨g, A, na, ca, D, nd, cd, rfl, hb1, _⟩
    have hY1 := HY.out.below hb1
    have p0 := hY1.c0; have p1 := hY1.c1; have p2 := hY1.c2; have p3 := hY1.f0; have p4 := hY1.f1; have p5 := hY1.f2; have p6 := hY1.lt
    have HY1 := Lib.hid hY1
    have HB1 := Lib.hid (HB.out.trans (hb1.mono HB.out.size))
    have hbs := HB1.out.size
    clear hb1 hY1
    go_wp2_with fail
    have cr := (CBox.set3 (HY1.out) (.slice none 0 0) (.slice none 0 0) (.slice none 0 0)).alloc (.cells #[.slice A na ca, .slice D nd cd] 93)
    have cr0 := cr.c0; have cr1 := cr.c1; have cr2 := cr.c2
    refine bodyPost_ret (v := .tuple #[.agg #[.slice none 0 0, .slice none 0 0, .slice none 0 0], .int .i64 1]) (by simp [results, Try.results73, go_sem, cr0, cr1, cr2]) rfl ?_
    exact AnsCC.noneC (HN.out.1) (HN.out.2.1) (HN.out.2.2) (HK.out.symm) ((Below.set3 (HB1.out) (by omega) _ _ _).alloc (by rw [size_set3]; exact hbs) (.cells #[.slice A na ca, .slice D nd cd] 93))
  · obtain ⟨n, hC⟩ := clB_true hp
    have HPN := Lib.hid hC.p
    have hn : n ≤ 24 := hC.hi
    have hn1 : 1 ≤ n := hC.lo
    have HC := Lib.hid hC
    have HP := Lib.hid hp
    clear hp hC
    go_enter Try.func73, Try.ntmps73
    go_wp2_with fail
    rw [← HEQ.out]
    refine (linked_if _ _ _ P S W W0 HR.out hP hS hW true HP.out).mono ?_
    rintro e w1 ⟨g, A, na, ca, D, nd, cd, rfl, hb1, hyes⟩
    obtain ⟨e1, e2, hg0, hg1, hpt⟩ := hyes rfl
    rw [HPN.out] at e1 hpt
    simp only [Value.slice.injEq] at e1
    obtain ⟨rfl, e1b, e1c⟩ := e1
    replace e1b := e1b.symm
    replace e1c := e1c.symm
    subst e1b
    subst e1c
    have hX1 := HX.out.below hb1; have hY1 := HY.out.below hb1
    have y0 := hX1.c0; have y1 := hX1.c1; have y2 := hX1.c2; have y6 := hX1.lt
    have p0 := hY1.c0; have p1 := hY1.c1; have p2 := hY1.c2; have p3 := hY1.f0; have p4 := hY1.f1; have p5 := hY1.f2; have p6 := hY1.lt
    have HX1 := Lib.hid hX1
    have HY1 := Lib.hid hY1
    have HB1 := Lib.hid (HB.out.trans (hb1.mono HB.out.size))
    have HR1 := Lib.hid ((HR.out.below hb1).more hb1.size)
    have HPT := Lib.hid hpt
    have hz2 := (HB.out.trans (hb1.mono HB.out.size)).size
    have HS1 : Hid (w.heap.size + 2 ≤ w1.heap.size) := Lib.hid (by rw [← HZ0.out]; exact hb1.size)
    simp only [Value.slice.injEq] at e2
    obtain ⟨e2a, e2b, e2c⟩ := e2
    replace e2a := e2a.symm
    replace e2b := e2b.symm
    replace e2c := e2c.symm
    subst e2a
    subst e2b
    subst e2c
    clear hb1 hX1 hY1 hyes hpt x0 x1 x2
    have HRW0 := Lib.hid HR1.out.2.2
    obtain ⟨W1, HE1⟩ : ∃ V, V = w1.alloc (.cells #[.slice (some ⟨g, 0, none⟩) n n, .slice A2 W.length k2] 93) := ⟨_, rfl⟩
    have hb2 : Below w1.heap.size w1 W1 := by rw [HE1]; exact below_box2 _ _
    have z0 : W1.cell? ⟨w1.heap.size, 0, none⟩ = some (.slice (some ⟨g, 0, none⟩) n n) := by rw [HE1]; go_simp
    have z1 : W1.cell? ⟨w1.heap.size, 1, none⟩ = some (.slice A2 W.length k2) := by rw [HE1]; go_simp
    have hzl : w1.heap.size < W1.heap.size := by rw [HE1]; simp
    have hR1 := (HR1.out.below hb2).more hb2.size
    have hX2 := HX1.out.below hb2; have hY2 := HY1.out.below hb2
    have HPT2 : Hid (PtsAt W1 g n n P S) := Lib.hid (rowIs_below HPT.out hg1 hb2)
    have hg2 : g < W1.heap.size := by omega
    have HB2' := Lib.hid (HB1.out.trans (hb2.mono HB1.out.size))
    have HS2 : Hid (w.heap.size + 2 ≤ W1.heap.size) := Lib.hid (by have := HS1.out; omega)
    have hw12 : w.heap.size + 2 ≤ w1.heap.size := by have := HS1.out; omega
    have HRW : Hid (ReadI W1 W1.heap.size (.slice A2 W.length k2) W) := Lib.hid hR1.2.2
    have HEQ1 := Lib.hid HE1
    clear HE1
    go_wp2_with fail
    rw [← HEQ1.out]
    clear y0 y1 y2 y6 p0 p1 p2 p3 p4 p5 p6 HX1 HY1 HB1 HR1 HS1
    have HX1 := Lib.hid hX2; have HY1 := Lib.hid hY2; have HB1 := HB2'; have HR1 := Lib.hid hR1; have HS1 := HS2
    clear hX2 hY2 hR1 hb2 HEQ1 HEQ
    have v0 := HX1.out.c0; have v1 := HX1.out.c1; have v2 := HX1.out.c2
    rcases bool_fs (wtOK (ulL P S W n)) with hbb | hbb
    · have HBB := Lib.hid hbb
      have hk : ulC P S W = 3 := by rw [ul_mid HC.out, hbb]; rfl
      have HK := Lib.hid hk; have HN := Lib.hid (ul_no hk (by decide)); clear hk hbb
      refine wp_region_held_drew (S := fun w' => w'.cell? ⟨w.heap.size, 0, none⟩ = some (.slice A0 P.length k0) ∧ w'.cell? ⟨w.heap.size, 1, none⟩ = some (.slice A1 S.length k1) ∧ w'.cell? ⟨w.heap.size, 2, none⟩ = some (.slice A2 W.length k2) ∧ w'.cell? ⟨w1.heap.size, 0, none⟩ = some (.slice (some ⟨g, 0, none⟩) n n) ∧ w'.cell? ⟨w1.heap.size, 1, none⟩ = some (.slice A2 W.length k2)) (by kernel_rfl) ⟨v0, v1, v2, z0, z1⟩ (fun hHeld => ?_)
      refine takeY 0 _ (v := ?_) rfl rfl (by kernel_rfl) (by kernel_rfl) (by kernel_rfl) (fun _ _ _ h => h) (by kernel_rfl) ?_ (by assumption) ?_
      rotate_left 1
      · intro w hSw; (try dsimp only at hSw); go_simp; (try with_reducible rfl)
      try simp only [Act.put, List.setIfInBounds_toArray, List.set_cons_zero, List.set_cons_succ]
      refine takeY 1 _ (v := ?_) rfl rfl (by kernel_rfl) (by kernel_rfl) (by kernel_rfl) (fun _ _ _ h => h) (by kernel_rfl) ?_ (by assumption) ?_
      rotate_left 1
      · intro w hSw; (try dsimp only at hSw); go_simp; (try with_reducible rfl)
      try simp only [Act.put, List.setIfInBounds_toArray, List.set_cons_zero, List.set_cons_succ]
      refine takeY 2 _ (v := ?_) rfl rfl (by kernel_rfl) (by kernel_rfl) (by kernel_rfl) (fun _ _ _ h => h) (by kernel_rfl) ?_ (by assumption) ?_
      rotate_left 1
      · intro w hSw; (try dsimp only at hSw); go_simp; (try with_reducible rfl)
      try simp only [Act.put, List.setIfInBounds_toArray, List.set_cons_zero, List.set_cons_succ]
      refine takeY 3 _ (v := ?_) rfl rfl (by kernel_rfl) (by kernel_rfl) (by kernel_rfl) (fun _ _ _ h => h) (by kernel_rfl) ?_ (by assumption) ?_
      rotate_left 1
      · intro w hSw; (try dsimp only at hSw); go_simp; (try with_reducible rfl)
      try simp only [Act.put, List.setIfInBounds_toArray, List.set_cons_zero, List.set_cons_succ]
      refine takeY 4 _ (v := ?_) rfl rfl (by kernel_rfl) (by kernel_rfl) (by kernel_rfl) (fun _ _ _ h => h) (by kernel_rfl) ?_ (by assumption) ?_
      rotate_left 1
      · intro w hSw; (try dsimp only at hSw); go_simp; (try with_reducible rfl)
      try simp only [Act.put, List.setIfInBounds_toArray, List.set_cons_zero, List.set_cons_succ]
      refine takeY 5 _ (v := ?_) rfl rfl (by kernel_rfl) (by kernel_rfl) (by kernel_rfl) (fun _ _ _ h => h) (by kernel_rfl) ?_ (by assumption) ?_
      rotate_left 1
      · intro w hSw; (try dsimp only at hSw); go_simp; (try with_reducible rfl)
      try simp only [Act.put, List.setIfInBounds_toArray, List.set_cons_zero, List.set_cons_succ]
      refine wpAnyH_ready (rs := [6]) (by kernel_rfl) (by simp) ?_
      refine AllReadyH.cons rfl (fun K hK => ?_) AllReadyH.nil
      go_simp
      refine (ordersOf_any g n P S W (.slice A2 W.length k2) W1.drew HPT2.out hg2 HC.out HRW.out).mono ?_
      rintro e w2 kk
      obtain ⟨Ao, co, rfl, ho2, hb2d⟩ := kk.len (orL_len _ _ _ _)
      have hb2 := below_un hb2d
      rw [← ofF_list] at ho2
      obtain ⟨bo, rfl, hbo1, hbo2, _⟩ := own_at ho2 (fnL_len _ _) (show 0 < n by omega)
      have HO2 := Lib.hid (own_tightU ho2 hbo2)
      have HB2 := Lib.hid hb2
      have HPT3 : Hid (PtsAt w2 g n n P S) := Lib.hid (rowIs_below HPT2.out hg2 hb2)
      clear ho2 hb2 hb2d kk
      refine hK.out _ _ ⟨(HB2.out.cell (p := ⟨w.heap.size, 0, none⟩) (by show w.heap.size < _; omega)).trans v0, (HB2.out.cell (p := ⟨w.heap.size, 1, none⟩) (by show w.heap.size < _; omega)).trans v1, (HB2.out.cell (p := ⟨w.heap.size, 2, none⟩) (by show w.heap.size < _; omega)).trans v2, (HB2.out.cell (p := ⟨w1.heap.size, 0, none⟩) (by show w1.heap.size < _; omega)).trans z0, (HB2.out.cell (p := ⟨w1.heap.size, 1, none⟩) (by show w1.heap.size < _; omega)).trans z1⟩ (fun hHeld => ?_)
      clear hK K
      try simp only [Act.put, List.setIfInBounds_toArray, List.set_cons_zero, List.set_cons_succ]
      refine wpAnyH_ready (rs := [7]) (by kernel_rfl) (by simp) ?_
      refine AllReadyH.cons rfl (fun K hK => ?_) AllReadyH.nil
      go_simp
      refine (unloadedWeights_any g n W1.heap.size bo co P S (ofF P S W n) (.slice A2 W.length k2) w2 HPT3.out hg2 hbo1 hbo2 HC.out.toClP HO2.out (of_start HC.out).1 (of_start HC.out).2.1 (of_start HC.out).2.2).mono ?_
      rintro e w3 ⟨Q, A9, c9, l9, h9, rfl, hlst, ho9, hl9, hb3⟩
      rw [ulL_eq HC.out.ok hlst] at ho9
      have HO9 := Lib.hid ho9
      have HB3 := Lib.hid (HB2.out.trans hb3)
      have HL9 := Lib.hid hl9
      have HZ9 : Hid (l9 ≤ w3.heap.size) := Lib.hid (by obtain ⟨gg, _, h9a, h9b, _⟩ := own_at ho9 (ulL_len _ _ _ _) (show 0 < n by omega); have h9c := own_size ho9; omega)
      have HR3 := Lib.hid ((HR1.out.below HB3.out).more HB3.out.size)
      clear hlst ho9 hl9 hb3
      refine hK.out _ _ ⟨(HB3.out.cell (p := ⟨w.heap.size, 0, none⟩) (by show w.heap.size < _; omega)).trans v0, (HB3.out.cell (p := ⟨w.heap.size, 1, none⟩) (by show w.heap.size < _; omega)).trans v1, (HB3.out.cell (p := ⟨w.heap.size, 2, none⟩) (by show w.heap.size < _; omega)).trans v2, (HB3.out.cell (p := ⟨w1.heap.size, 0, none⟩) (by show w1.heap.size < _; omega)).trans z0, (HB3.out.cell (p := ⟨w1.heap.size, 1, none⟩) (by show w1.heap.size < _; omega)).trans z1⟩ (fun hHeld => ?_)
      clear hK K
      try simp only [Act.put, List.setIfInBounds_toArray, List.set_cons_zero, List.set_cons_succ]
      refine wpAnyH_ready (rs := [8]) (by kernel_rfl) (by simp) ?_
      refine AllReadyH.cons rfl (fun K hK => ?_) AllReadyH.nil
      go_simp
      refine (withW_any (.slice A0 P.length k0) (.slice A1 S.length k1) (.slice A2 W.length k2) A9 n c9 P S W (ulL P S W n) w3 HR3.out HO9.out.reads hP hS (by rw [ulL_len]; omega) false HBB.out).mono ?_
      rintro e w6 ⟨-, hnn, hb6⟩
      obtain rfl := hnn rfl
      have HB6a := Lib.hid hb6
      have HB6 := Lib.hid (HB3.out.trans (hb6.mono HB3.out.size))
      clear hb6
      have hY6 := HY1.out.below HB6.out
      have q0 := hY6.c0
      have q1 := hY6.c1
      have q2 := hY6.c2
      have q3 := hY6.f0
      have q4 := hY6.f1
      have q5 := hY6.f2
      have q6 := hY6.lt
      have HY6 := Lib.hid hY6
      have hne9 : w1.heap.size ≠ w.heap.size + 1 := by omega
      have hne8 : w.heap.size + 1 ≠ w1.heap.size := by omega
      have m0 := (HB6.out.cell (p := ⟨w.heap.size, 0, none⟩) (by show w.heap.size < _; omega)).trans v0
      have m1 := (HB6.out.cell (p := ⟨w.heap.size, 1, none⟩) (by show w.heap.size < _; omega)).trans v1
      have m2 := (HB6.out.cell (p := ⟨w.heap.size, 2, none⟩) (by show w.heap.size < _; omega)).trans v2
      have m3 := (HB6.out.cell (p := ⟨w1.heap.size, 0, none⟩) (by show w1.heap.size < _; omega)).trans z0
      have m4 := (HB6.out.cell (p := ⟨w1.heap.size, 1, none⟩) (by show w1.heap.size < _; omega)).trans z1
      refine hK.out _ w6 ⟨m0, m1, m2, m3, m4⟩ (fun hHeld => ?_)
      clear hK K hY6
      try simp only [Act.put, List.setIfInBounds_toArray, List.set_cons_zero, List.set_cons_succ]
      refine takeY 9 _ (v := ?_) rfl rfl (by kernel_rfl) (by kernel_rfl) (by kernel_rfl) (fun _ _ _ h => h) (by kernel_rfl) ?_ (by assumption) ?_
      rotate_left 1
      · intro w hSw; (try dsimp only at hSw); go_simp; (try with_reducible rfl)
      try simp only [Act.put, List.setIfInBounds_toArray, List.set_cons_zero, List.set_cons_succ]
      refine takeY 10 _ (v := ?_) rfl rfl (by kernel_rfl) (by kernel_rfl) (by kernel_rfl) (fun _ _ _ h => h) (by kernel_rfl) ?_ (by assumption) ?_
      rotate_left 1
      · intro w hSw; (try dsimp only at hSw); go_simp; (try with_reducible rfl)
      try simp only [Act.put, List.setIfInBounds_toArray, List.set_cons_zero, List.set_cons_succ]
      refine wpAnyH_ready (rs := [11]) (by kernel_rfl) (by simp) ?_
      refine AllReadyH.cons rfl (fun K hK => ?_) AllReadyH.nil
      go_simp
      refine hK.out _ (((w6.setCell ⟨w.heap.size + 1, 0, none⟩ (.slice none 0 0)).setCell ⟨w.heap.size + 1, 1, none⟩ (.slice none 0 0)).setCell ⟨w.heap.size + 1, 2, none⟩ (.slice none 0 0)) ⟨by go_simp, by go_simp, by go_simp, by go_simp, by go_simp⟩ (fun hHeld => ?_)
      clear hK K
      try simp only [Act.put, List.setIfInBounds_toArray, List.set_cons_zero, List.set_cons_succ]
      refine takeY 12 _ (v := ?_) rfl rfl (by kernel_rfl) (by kernel_rfl) (by kernel_rfl) (fun _ _ _ h => h) (by kernel_rfl) ?_ (by assumption) ?_
      rotate_left 1
      · intro w hSw; (try dsimp only at hSw); go_simp; (try with_reducible rfl)
      try simp only [Act.put, List.setIfInBounds_toArray, List.set_cons_zero, List.set_cons_succ]
      refine wpAnyH_done (by kernel_rfl) ?_ _
      have cr := CBox.set3 HY6.out (.slice none 0 0) (.slice none 0 0) (.slice none 0 0)
      have cr0 := cr.c0; have cr1 := cr.c1; have cr2 := cr.c2
      go_wp2_with fail
      have hs3 := HB3.out.size; have hs6 := HB6a.out.size; have hsw := HS1.out; have hz9 := HZ9.out; have hl9 := HL9.out
      refine bodyPost_ret (v := .tuple #[.agg #[.slice none 0 0, .slice none 0 0, .slice none 0 0], .int .i64 3]) (by simp [results, Try.results73, go_sem, cr0, cr1, cr2]) rfl ?_
      exact AnsCC.noneC (HN.out.1) (HN.out.2.1) (HN.out.2.2) (HK.out.symm) (Below.set3 (HB1.out.trans (HB6.out.mono (by omega))) (by omega) _ _ _)
    · have HBB := Lib.hid hbb
      have HY4 := Lib.hid (ul_yes HC.out hbb)
      clear hbb
      refine wp_region_held_drew (S := fun w' => w'.cell? ⟨w.heap.size, 0, none⟩ = some (.slice A0 P.length k0) ∧ w'.cell? ⟨w.heap.size, 1, none⟩ = some (.slice A1 S.length k1) ∧ w'.cell? ⟨w.heap.size, 2, none⟩ = some (.slice A2 W.length k2) ∧ w'.cell? ⟨w1.heap.size, 0, none⟩ = some (.slice (some ⟨g, 0, none⟩) n n) ∧ w'.cell? ⟨w1.heap.size, 1, none⟩ = some (.slice A2 W.length k2)) (by kernel_rfl) ⟨v0, v1, v2, z0, z1⟩ (fun hHeld => ?_)
      refine takeY 0 _ (v := ?_) rfl rfl (by kernel_rfl) (by kernel_rfl) (by kernel_rfl) (fun _ _ _ h => h) (by kernel_rfl) ?_ (by assumption) ?_
      rotate_left 1
      · intro w hSw; (try dsimp only at hSw); go_simp; (try with_reducible rfl)
      try simp only [Act.put, List.setIfInBounds_toArray, List.set_cons_zero, List.set_cons_succ]
      refine takeY 1 _ (v := ?_) rfl rfl (by kernel_rfl) (by kernel_rfl) (by kernel_rfl) (fun _ _ _ h => h) (by kernel_rfl) ?_ (by assumption) ?_
      rotate_left 1
      · intro w hSw; (try dsimp only at hSw); go_simp; (try with_reducible rfl)
      try simp only [Act.put, List.setIfInBounds_toArray, List.set_cons_zero, List.set_cons_succ]
      refine takeY 2 _ (v := ?_) rfl rfl (by kernel_rfl) (by kernel_rfl) (by kernel_rfl) (fun _ _ _ h => h) (by kernel_rfl) ?_ (by assumption) ?_
      rotate_left 1
      · intro w hSw; (try dsimp only at hSw); go_simp; (try with_reducible rfl)
      try simp only [Act.put, List.setIfInBounds_toArray, List.set_cons_zero, List.set_cons_succ]
      refine takeY 3 _ (v := ?_) rfl rfl (by kernel_rfl) (by kernel_rfl) (by kernel_rfl) (fun _ _ _ h => h) (by kernel_rfl) ?_ (by assumption) ?_
      rotate_left 1
      · intro w hSw; (try dsimp only at hSw); go_simp; (try with_reducible rfl)
      try simp only [Act.put, List.setIfInBounds_toArray, List.set_cons_zero, List.set_cons_succ]
      refine takeY 4 _ (v := ?_) rfl rfl (by kernel_rfl) (by kernel_rfl) (by kernel_rfl) (fun _ _ _ h => h) (by kernel_rfl) ?_ (by assumption) ?_
      rotate_left 1
      · intro w hSw; (try dsimp only at hSw); go_simp; (try with_reducible rfl)
      try simp only [Act.put, List.setIfInBounds_toArray, List.set_cons_zero, List.set_cons_succ]
      refine takeY 5 _ (v := ?_) rfl rfl (by kernel_rfl) (by kernel_rfl) (by kernel_rfl) (fun _ _ _ h => h) (by kernel_rfl) ?_ (by assumption) ?_
      rotate_left 1
      · intro w hSw; (try dsimp only at hSw); go_simp; (try with_reducible rfl)
      try simp only [Act.put, List.setIfInBounds_toArray, List.set_cons_zero, List.set_cons_succ]
      refine wpAnyH_ready (rs := [6]) (by kernel_rfl) (by simp) ?_
      refine AllReadyH.cons rfl (fun K hK => ?_) AllReadyH.nil
      go_simp
      refine (ordersOf_any g n P S W (.slice A2 W.length k2) W1.drew HPT2.out hg2 HC.out HRW.out).mono ?_
      rintro e w2 kk
      obtain ⟨Ao, co, rfl, ho2, hb2d⟩ := kk.len (orL_len _ _ _ _)
      have hb2 := below_un hb2d
      rw [← ofF_list] at ho2
      obtain ⟨bo, rfl, hbo1, hbo2, _⟩ := own_at ho2 (fnL_len _ _) (show 0 < n by omega)
      have HO2 := Lib.hid (own_tightU ho2 hbo2)
      have HB2 := Lib.hid hb2
      have HPT3 : Hid (PtsAt w2 g n n P S) := Lib.hid (rowIs_below HPT2.out hg2 hb2)
      clear ho2 hb2 hb2d kk
      refine hK.out _ _ ⟨(HB2.out.cell (p := ⟨w.heap.size, 0, none⟩) (by show w.heap.size < _; omega)).trans v0, (HB2.out.cell (p := ⟨w.heap.size, 1, none⟩) (by show w.heap.size < _; omega)).trans v1, (HB2.out.cell (p := ⟨w.heap.size, 2, none⟩) (by show w.heap.size < _; omega)).trans v2, (HB2.out.cell (p := ⟨w1.heap.size, 0, none⟩) (by show w1.heap.size < _; omega)).trans z0, (HB2.out.cell (p := ⟨w1.heap.size, 1, none⟩) (by show w1.heap.size < _; omega)).trans z1⟩ (fun hHeld => ?_)
      clear hK K
      try simp only [Act.put, List.setIfInBounds_toArray, List.set_cons_zero, List.set_cons_succ]
      refine wpAnyH_ready (rs := [7]) (by kernel_rfl) (by simp) ?_
      refine AllReadyH.cons rfl (fun K hK => ?_) AllReadyH.nil
      go_simp
      refine (unloadedWeights_any g n W1.heap.size bo co P S (ofF P S W n) (.slice A2 W.length k2) w2 HPT3.out hg2 hbo1 hbo2 HC.out.toClP HO2.out (of_start HC.out).1 (of_start HC.out).2.1 (of_start HC.out).2.2).mono ?_
      rintro e w3 ⟨Q, A9, c9, l9, h9, rfl, hlst, ho9, hl9, hb3⟩
      rw [ulL_eq HC.out.ok hlst] at ho9
      have HO9 := Lib.hid ho9
      have HB3 := Lib.hid (HB2.out.trans hb3)
      have HL9 := Lib.hid hl9
      have HZ9 : Hid (l9 ≤ w3.heap.size) := Lib.hid (by obtain ⟨gg, _, h9a, h9b, _⟩ := own_at ho9 (ulL_len _ _ _ _) (show 0 < n by omega); have h9c := own_size ho9; omega)
      have HR3 := Lib.hid ((HR1.out.below HB3.out).more HB3.out.size)
      clear hlst ho9 hl9 hb3
      refine hK.out _ _ ⟨(HB3.out.cell (p := ⟨w.heap.size, 0, none⟩) (by show w.heap.size < _; omega)).trans v0, (HB3.out.cell (p := ⟨w.heap.size, 1, none⟩) (by show w.heap.size < _; omega)).trans v1, (HB3.out.cell (p := ⟨w.heap.size, 2, none⟩) (by show w.heap.size < _; omega)).trans v2, (HB3.out.cell (p := ⟨w1.heap.size, 0, none⟩) (by show w1.heap.size < _; omega)).trans z0, (HB3.out.cell (p := ⟨w1.heap.size, 1, none⟩) (by show w1.heap.size < _; omega)).trans z1⟩ (fun hHeld => ?_)
      clear hK K
      try simp only [Act.put, List.setIfInBounds_toArray, List.set_cons_zero, List.set_cons_succ]
      refine wpAnyH_ready (rs := [8]) (by kernel_rfl) (by simp) ?_
      refine AllReadyH.cons rfl (fun K hK => ?_) AllReadyH.nil
      go_simp
      refine (withW_any (.slice A0 P.length k0) (.slice A1 S.length k1) (.slice A2 W.length k2) A9 n c9 P S W (ulL P S W n) w3 HR3.out HO9.out.reads hP hS (by rw [ulL_len]; omega) true HBB.out).mono ?_
      rintro e w6 ⟨hyy, -, hb6⟩
      obtain ⟨a', b', rfl, m, hm1, hm2, oa, ob⟩ := hyy rfl
      obtain ⟨A5, c5, rfl⟩ := own_form oa.1
      obtain ⟨A6, c6, rfl⟩ := own_form ob.1
      have OA := Lib.hid oa
      have OB := Lib.hid ob
      have HM := Lib.hid (And.intro hm1 hm2)
      clear oa ob hm1 hm2 hyy
      have HB6a := Lib.hid hb6
      have HB6 := Lib.hid (HB3.out.trans (hb6.mono HB3.out.size))
      clear hb6
      have hY6 := HY1.out.below HB6.out
      have q0 := hY6.c0
      have q1 := hY6.c1
      have q2 := hY6.c2
      have q3 := hY6.f0
      have q4 := hY6.f1
      have q5 := hY6.f2
      have q6 := hY6.lt
      have HY6 := Lib.hid hY6
      have hne9 : w1.heap.size ≠ w.heap.size + 1 := by omega
      have hne8 : w.heap.size + 1 ≠ w1.heap.size := by omega
      have m0 := (HB6.out.cell (p := ⟨w.heap.size, 0, none⟩) (by show w.heap.size < _; omega)).trans v0
      have m1 := (HB6.out.cell (p := ⟨w.heap.size, 1, none⟩) (by show w.heap.size < _; omega)).trans v1
      have m2 := (HB6.out.cell (p := ⟨w.heap.size, 2, none⟩) (by show w.heap.size < _; omega)).trans v2
      have m3 := (HB6.out.cell (p := ⟨w1.heap.size, 0, none⟩) (by show w1.heap.size < _; omega)).trans z0
      have m4 := (HB6.out.cell (p := ⟨w1.heap.size, 1, none⟩) (by show w1.heap.size < _; omega)).trans z1
      refine hK.out _ w6 ⟨m0, m1, m2, m3, m4⟩ (fun hHeld => ?_)
      clear hK K hY6
      try simp only [Act.put, List.setIfInBounds_toArray, List.set_cons_zero, List.set_cons_succ]
      refine takeY 9 _ (v := ?_) rfl rfl (by kernel_rfl) (by kernel_rfl) (by kernel_rfl) (fun _ _ _ h => h) (by kernel_rfl) ?_ (by assumption) ?_
      rotate_left 1
      · intro w hSw; (try dsimp only at hSw); go_simp; (try with_reducible rfl)
      try simp only [Act.put, List.setIfInBounds_toArray, List.set_cons_zero, List.set_cons_succ]
      refine takeY 10 _ (v := ?_) rfl rfl (by kernel_rfl) (by kernel_rfl) (by kernel_rfl) (fun _ _ _ h => h) (by kernel_rfl) ?_ (by assumption) ?_
      rotate_left 1
      · intro w hSw; (try dsimp only at hSw); go_simp; (try with_reducible rfl)
      try simp only [Act.put, List.setIfInBounds_toArray, List.set_cons_zero, List.set_cons_succ]
      refine wpAnyH_ready (rs := [11]) (by kernel_rfl) (by simp) ?_
      refine AllReadyH.cons rfl (fun K hK => ?_) AllReadyH.nil
      go_simp
      refine hK.out _ (((w6.setCell ⟨w.heap.size + 1, 0, none⟩ (.slice A5 P.length c5)).setCell ⟨w.heap.size + 1, 1, none⟩ (.slice A6 S.length c6)).setCell ⟨w.heap.size + 1, 2, none⟩ (.slice A9 n c9)) ⟨by go_simp, by go_simp, by go_simp, by go_simp, by go_simp⟩ (fun hHeld => ?_)
      clear hK K
      try simp only [Act.put, List.setIfInBounds_toArray, List.set_cons_zero, List.set_cons_succ]
      refine takeY 12 _ (v := ?_) rfl rfl (by kernel_rfl) (by kernel_rfl) (by kernel_rfl) (fun _ _ _ h => h) (by kernel_rfl) ?_ (by assumption) ?_
      rotate_left 1
      · intro w hSw; (try dsimp only at hSw); go_simp; (try with_reducible rfl)
      try simp only [Act.put, List.setIfInBounds_toArray, List.set_cons_zero, List.set_cons_succ]
      refine wpAnyH_done (by kernel_rfl) ?_ _
      have cr := CBox.set3 HY6.out (.slice A5 P.length c5) (.slice A6 S.length c6) (.slice A9 n c9)
      have cr0 := cr.c0; have cr1 := cr.c1; have cr2 := cr.c2
      go_wp2_with fail
      have hs3 := HB3.out.size; have hs6 := HB6a.out.size; have hsw := HS1.out; have hz9 := HZ9.out; have hl9 := HL9.out
      refine bodyPost_ret (v := .tuple #[.agg #[.slice A5 P.length c5, .slice A6 S.length c6, .slice A9 n c9], .int .i64 0]) (by simp [results, Try.results73, go_sem, cr0, cr1, cr2]) rfl ?_
      exact AnsCC.someC (l := l9) (k := w3.heap.size) (m := m) HY4.out.2.1.symm HY4.out.2.2.1.symm HY4.out.2.2.2.symm HY4.out.1.symm (by omega) (by omega) HM.out.1 (by rw [size_set3]; exact HM.out.2) (OwnI.newC3 OA.out (by omega) _ _ _) (by rw [size_set3]; exact OwnI.newC3 OB.out (by have h9 := HM.out.1; omega) _ _ _) (OwnI.newC3 ((HO9.out.raise (own_size HO9.out) (Nat.le_refl _)).stay HB6a.out) (by omega) _ _ _) (Below.set3 (HB1.out.trans (HB6.out.mono (by omega))) (by omega) _ _ _)

end Go.Proofs.Ytohbgfmjnanlkaa
