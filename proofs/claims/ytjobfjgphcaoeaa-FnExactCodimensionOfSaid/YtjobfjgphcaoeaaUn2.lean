/- Clusters of orders, the program's: contract. Conditions: stated at each theorem. -/
import Derived.Test.YtjobfjgphcaoeaaUn1
namespace Go.Proofs.Ytjobfjgphcaoeaa
open Go.ChangeShapes Go.WideShapes Go.ChangeAt Go.RowKit Go.Deep
set_option linter.unusedVariables false
set_option linter.unusedSimpArgs false

theorem zOK_at {E : List Int} (h : wtOK E = true) (i : Nat) : -100000 ≤ E[i]?.getD 0 ∧ E[i]?.getD 0 ≤ 100000 := wtOK_at h
theorem zOK_bad {E : List Int} {i : Nat} (hi : i < E.length) (h : ¬ (-100000 ≤ E[i]?.getD 0 ∧ E[i]?.getD 0 ≤ 100000)) : wtOK E = false := wtOK_bad hi h
theorem zOK_yes {E : List Int} {n : Nat} (hl : E.length = n) (h : ∀ i, i < n → -100000 ≤ E[i]?.getD 0 ∧ E[i]?.getD 0 ≤ 100000) : wtOK E = true := by
  rw [wtOK_iff hl, List.all_eq_true]
  intro i hi
  have := h i (List.mem_range.1 hi)
  simp only [Bool.and_eq_true, decide_eq_true_eq]; exact this
def zoC (P S W E : List Int) : Int := if clB P S W then (if E.length = P.length ∧ wtOK E = true then (if wtOK (woL P S E P.length) then 0 else 3) else 2) else 1
def zoP (P S W E : List Int) : List Int := if zoC P S W E = 0 then P else []
def zoS (P S W E : List Int) : List Int := if zoC P S W E = 0 then S else []
def zoW (P S W E : List Int) : List Int := if zoC P S W E = 0 then woL P S E P.length else []
theorem zo_no {P S W E : List Int} {C : Int} (h : zoC P S W E = C) (hC : C ≠ 0) : zoP P S W E = [] ∧ zoS P S W E = [] ∧ zoW P S W E = [] := by
  subst h; exact ⟨if_neg hC, if_neg hC, if_neg hC⟩
theorem zo_mid {P S W E : List Int} {n : Nat} (h : ClOK P S W n) (hE : E.length = n) (hx : wtOK E = true) : zoC P S W E = if wtOK (woL P S E n) then 0 else 3 := by
  unfold zoC; rw [if_pos h.b, if_pos ⟨by rw [hE, h.p], hx⟩, h.p]
theorem zo_yes {P S W E : List Int} {n : Nat} (h : ClOK P S W n) (hE : E.length = n) (hx : wtOK E = true) (hw : wtOK (woL P S E n) = true) : zoC P S W E = 0 ∧ zoP P S W E = P ∧ zoS P S W E = S ∧ zoW P S W E = woL P S E n := by
  have h0 : zoC P S W E = 0 := by rw [zo_mid h hE hx, hw]; rfl
  exact ⟨h0, if_pos h0, if_pos h0, by unfold zoW; rw [if_pos h0, h.p]⟩
theorem zo_range {P S W E : List Int} {n : Nat} (h : ClOK P S W n) (hx : ¬ (E.length = n ∧ wtOK E = true)) : zoC P S W E = 2 := by
  unfold zoC; rw [if_pos h.b, if_neg (by rw [h.p]; exact hx)]
theorem zo_len (P S W E : List Int) : (zoP P S W E).length ≤ 1048576 ∧ (zoS P S W E).length ≤ 1048576 ∧ (zoW P S W E).length ≤ 1048576 := by
  by_cases h : zoC P S W E = 0
  · have hb : clB P S W = true := by
      cases hb : clB P S W with
      | true => rfl
      | false => simp [zoC, hb] at h
    obtain ⟨n, hC⟩ := clB_true hb
    have hn := hC.hi
    refine ⟨by rw [zoP, if_pos h, hC.p]; omega, by rw [zoS, if_pos h, hC.s]; omega, by rw [zoW, if_pos h, woL_len, hC.p]; omega⟩
  · have h2 := zo_no (C := zoC P S W E) rfl h
    rw [h2.1, h2.2.1, h2.2.2]; simp

set_option maxRecDepth 100000 in
set_option maxHeartbeats 4000000 in
theorem implClusterOfOrders_any (a b c : Value) (P S W : List Int)  (v : Value) (E : List Int) (w : World) (h : ReadC w w.heap.size a b c P S W) (hP : P.length ≤ 1048576) (hS : S.length ≤ 1048576) (hW : W.length ≤ 1048576) (hwp : ∀ z ∈ P, (Lit.int .i64 z).wf = true) (hws : ∀ z ∈ S, (Lit.int .i64 z).wf = true) (hww : ∀ z ∈ W, (Lit.int .i64 z).wf = true) (hv : ReadI w w.heap.size v E) (hE : E.length ≤ 1048576) (hwe : ∀ z ∈ E, (Lit.int .i64 z).wf = true) :
    Calls Try.prog 39 #[.agg #[a, b, c], v] w (AnsCC w (zoP P S W E) (zoS P S W E) (zoW P S W E) (zoC P S W E)) := by
  obtain ⟨A9, c9, rfl, _⟩ := id hv
  obtain ⟨n9, hn9⟩ : ∃ x, E.length = x := ⟨_, rfl⟩
  rw [hn9] at hv hE ⊢
  have HV := Lib.hid hv
  have HL9 := Lib.hid hn9
  clear hv hwe hn9
  obtain ⟨W0, HE⟩ : ∃ V, V = (w.alloc (.cells #[a, b, c] 28)).alloc (.cells #[.slice none 0 0, .slice none 0 0, .slice none 0 0] 28) := ⟨_, rfl⟩
  have hb0 : Below w.heap.size w W0 := by rw [HE]; exact (below_box2 _ _).alloc (by simp) _
  have hx : CBox W0 w.heap.size a b c := by rw [HE]; exact (CBox.new w a b c 28).alloc _
  have hy : CBox W0 (w.heap.size + 1) (.slice none 0 0) (.slice none 0 0) (.slice none 0 0) := by
    have := CBox.new (w.alloc (.cells #[a, b, c] 28)) (.slice none 0 0) (.slice none 0 0) (.slice none 0 0) 28
    rw [World.size_alloc] at this
    rw [HE]; exact this
  have HZ0 : Hid (W0.heap.size = w.heap.size + 2) := Lib.hid (by rw [HE]; simp)
  obtain ⟨A0, k0, rfl⟩ : ∃ A k, a = .slice A P.length k := by obtain ⟨A, k, e, _⟩ := h.1; exact ⟨A, k, e⟩
  obtain ⟨A1, k1, rfl⟩ : ∃ A k, b = .slice A S.length k := by obtain ⟨A, k, e, _⟩ := h.2.1; exact ⟨A, k, e⟩
  obtain ⟨A2, k2, rfl⟩ : ∃ A k, c = .slice A W.length k := by obtain ⟨A, k, e, _⟩ := h.2.2; exact ⟨A, k, e⟩
  have HR := Lib.hid ((h.below hb0).more hb0.size)
  have HB := Lib.hid hb0
  have HEQ := Lib.hid HE
  have HX := Lib.hid hx
  have HY := Lib.hid hy
  have x0 := hx.c0; have x1 := hx.c1; have x2 := hx.c2
  clear h hb0 hx hy HE hwp hws hww
  rcases bool_fs (clB P S W) with hp | hp
  · have HP := Lib.hid hp
    have hk : zoC P S W E = 1 := by simp [zoC, hp]
    have HK := Lib.hid hk; have HN := Lib.hid (zo_no hk (by decide)); clear hk
    clear hp
    go_enter Try.func39, Try.ntmps39
    go_wp2_with fail
    rw [← HEQ.out]
    refine (linked_if _ _ _ P S W W0 HR.out hP hS hW false HP.out).mono ?_
    rintro e w1 ⟨g, A, na, ca, D, nd, cd, rfl, hb1, _⟩
    have hY1 := HY.out.below hb1
    have p0 := hY1.c0; have p1 := hY1.c1; have p2 := hY1.c2; have p3 := hY1.f0; have p4 := hY1.f1; have p5 := hY1.f2; have p6 := hY1.lt
    have HY1 := Lib.hid hY1
    have HB1 := Lib.hid (HB.out.trans (hb1.mono HB.out.size))
    have hbs := HB1.out.size
    clear hb1 hY1
    go_wp2_with fail
    have cr := (CBox.set3 (HY1.out) (.slice none 0 0) (.slice none 0 0) (.slice none 0 0)).alloc (.cells #[.slice A na ca, .slice D nd cd] 67)
    have cr0 := cr.c0; have cr1 := cr.c1; have cr2 := cr.c2
    refine bodyPost_ret (v := .tuple #[.agg #[.slice none 0 0, .slice none 0 0, .slice none 0 0], .int .i64 1]) (by simp [results, Try.results39, go_sem, cr0, cr1, cr2]) rfl ?_
    exact AnsCC.noneC (HN.out.1) (HN.out.2.1) (HN.out.2.2) (HK.out.symm) ((Below.set3 (HB1.out) (by omega) _ _ _).alloc (by rw [size_set3]; exact hbs) (.cells #[.slice A na ca, .slice D nd cd] 67))
  · obtain ⟨n, hC⟩ := clB_true hp
    have HPN := Lib.hid hC.p
    have hn : n ≤ 24 := hC.hi
    have hn1 : 1 ≤ n := hC.lo
    have HC := Lib.hid hC
    have HP := Lib.hid hp
    clear hp hC
    go_enter Try.func39, Try.ntmps39
    go_wp2_with fail
    rw [← HEQ.out]
    refine (linked_if _ _ _ P S W W0 HR.out hP hS hW true HP.out).mono ?_
    rintro e w1 ⟨g, A, na, ca, D, nd, cd, rfl, hb1, hyes⟩
    obtain ⟨e1, e2, hg0, hg1, hpt⟩ := hyes rfl
    rw [HPN.out] at e1 hpt
    simp only [Value.slice.injEq] at e1
    obtain ⟨rfl, e1b, e1c⟩ := e1
    replace e1b := e1b.symm
    replace e1c := e1c.symm
    subst e1b
    subst e1c
    have hX1 := HX.out.below hb1; have hY1 := HY.out.below hb1
    have y0 := hX1.c0; have y1 := hX1.c1; have y2 := hX1.c2; have y6 := hX1.lt
    have p0 := hY1.c0; have p1 := hY1.c1; have p2 := hY1.c2; have p3 := hY1.f0; have p4 := hY1.f1; have p5 := hY1.f2; have p6 := hY1.lt
    have HX1 := Lib.hid hX1
    have HY1 := Lib.hid hY1
    have HB1 := Lib.hid (HB.out.trans (hb1.mono HB.out.size))
    have HR1 := Lib.hid ((HR.out.below hb1).more hb1.size)
    have HPT := Lib.hid hpt
    have hz2 := (HB.out.trans (hb1.mono HB.out.size)).size
    have HS1 : Hid (w.heap.size + 2 ≤ w1.heap.size) := Lib.hid (by rw [← HZ0.out]; exact hb1.size)
    clear hb1 hX1 hY1 hyes hpt e2 x0 x1 x2
    by_cases hne : n9 = n
    · subst hne
      obtain ⟨g9, o9, rfl, HE9, hg9⟩ := cells_of HV.out HL9.out hn1
      obtain ⟨n, rfl⟩ : ∃ n, n = n9 := ⟨_, rfl⟩
      obtain ⟨W1, HE1⟩ : ∃ V, V = w1.alloc (.cells #[.slice (some ⟨g, 0, none⟩) n n, .slice D nd cd] 67) := ⟨_, rfl⟩
      have hb2 : Below w1.heap.size w1 W1 := by rw [HE1]; exact below_box2 _ _
      have e3 : W1.cell? ⟨w1.heap.size, 0, none⟩ = some (.slice (some ⟨g, 0, none⟩) n n) := by rw [HE1]; go_simp
      have hzl : w1.heap.size < W1.heap.size := by rw [HE1]; simp
      have hne1 : w1.heap.size ≠ w.heap.size + 1 := by have := HS1.out; omega
      have hne2 : w.heap.size + 1 ≠ w1.heap.size := fun e => hne1 e.symm
      have hR1 := (HR1.out.below hb2).more hb2.size
      have hX2 := HX1.out.below hb2; have hY2 := HY1.out.below hb2
      have HPT2 : Hid (PtsAt W1 g n n P S) := Lib.hid (rowIs_below HPT.out hg1 hb2)
      have hg2 : g < W1.heap.size := by omega
      have HB2' := Lib.hid (HB1.out.trans (hb2.mono HB1.out.size))
      have HS2 : Hid (w.heap.size + 2 ≤ W1.heap.size) := Lib.hid (by have := HS1.out; omega)
      have HV1 : Hid (ReadI W1 W1.heap.size (.slice (some ⟨g9, o9, none⟩) n c9) E) := Lib.hid ((HV.out.below HB2'.out).more HB2'.out.size)
      have HCE : Hid (∀ k, k < n → W1.cell? ⟨g9, o9 + k, none⟩ = some (.int .i64 (E[k]?.getD 0))) := Lib.hid fun k hk => by rw [HB2'.out.cell (p := ⟨g9, o9 + k, none⟩) hg9]; exact HE9.out k hk
      have HEQ1 := Lib.hid HE1
      have HA0 : Hid (∀ i, i < 0 → -100000 ≤ E[i]?.getD 0 ∧ E[i]?.getD 0 ≤ 100000) := Lib.hid fun i hi => by omega
      clear HE1
      go_wp2_with fail
      rw [← HEQ1.out]
      clear y0 y1 y2 y6 p0 p1 p2 p3 p4 p5 p6 HX1 HY1 HB1 HR1 HS1
      have y0 := hX2.c0; have y1 := hX2.c1; have y2 := hX2.c2; have y6 := hX2.lt; have y3 := e3
      have p0 := hY2.c0; have p1 := hY2.c1; have p2 := hY2.c2; have p3 := hY2.f0; have p4 := hY2.f1; have p5 := hY2.f2; have p6 := hY2.lt
      have HX1 := Lib.hid hX2; have HY1 := Lib.hid hY2; have HB1 := HB2'; have HR1 := Lib.hid hR1; have HS1 := HS2
      clear hX2 hY2 hR1 hb2 e3 HEQ1 HEQ
      go_loop [27] (fun vi => ∃ (j : Nat), j ≤ n ∧ vi = .int .i64 j ∧ Hid (∀ i, i < j → -100000 ≤ E[i]?.getD 0 ∧ E[i]?.getD 0 ≤ 100000)) (fun vi => n - (intOf vi).toNat)
      case atStart => exact ⟨0, by omega, rfl, HA0⟩
      case round =>
        obtain ⟨j, hj, rfl, HA⟩ := hrel
        by_cases hjn : j < n
        · have d1 := HCE.out j hjn
          obtain ⟨z, hz⟩ : ∃ z, E[j]?.getD 0 = z := ⟨_, rfl⟩
          have HZ := Lib.hid hz
          rw [hz] at d1
          have hjn2 : (j : Int) < (n : Int) := by omega
          clear hz
          by_cases hzz : -100000 ≤ z ∧ z ≤ 100000
          · have HA1 : Hid (∀ i, i < j + 1 → -100000 ≤ E[i]?.getD 0 ∧ E[i]?.getD 0 ≤ 100000) := Lib.hid fun i hi => by
              by_cases e : i = j
              · subst e; rw [HZ.out]; exact hzz
              · exact HA.out i (by omega)
            go_wp2_with (go_at_call 80; refine (withinY z _ _ (by omega) (by omega) (by omega) (by omega)).mono ?_; rintro e w' ⟨rfl, rfl⟩)
            go_round
            case rel => exact ⟨j + 1, by omega, by go_num, HA1⟩
            case measure => simp [intOf]; omega
          · have hk : zoC P S W E = 2 := zo_range HC.out (fun h => by
              have := zOK_bad (E := E) (i := j) (by rw [HL9.out]; exact hjn) (by rw [HZ.out]; exact hzz)
              rw [this] at h; exact absurd h.2 (by decide))
            have HK := Lib.hid hk; have HN := Lib.hid (zo_no hk (by decide)); clear hk
            go_wp2_with (go_at_call 80; refine (withinN z _ _ (by omega) (by omega) (by omega)).mono ?_; rintro e w' ⟨rfl, rfl⟩)
            have cr := CBox.set3 (HY1.out) (.slice none 0 0) (.slice none 0 0) (.slice none 0 0)
            have cr0 := cr.c0; have cr1 := cr.c1; have cr2 := cr.c2
            refine bodyPost_ret (v := .tuple #[.agg #[.slice none 0 0, .slice none 0 0, .slice none 0 0], .int .i64 2]) (by simp [results, Try.results39, go_sem, cr0, cr1, cr2]) rfl ?_
            exact AnsCC.noneC (HN.out.1) (HN.out.2.1) (HN.out.2.2) (HK.out.symm) (Below.set3 (HB1.out) (by omega) _ _ _)
        · obtain rfl : j = n := by omega
          have HXX : Hid (wtOK E = true) := Lib.hid (zOK_yes HL9.out HA.out)
          have hjj : ¬ (j : Int) < (j : Int) := by omega
          obtain ⟨n, rfl⟩ : ∃ n, n = j := ⟨_, rfl⟩
          have HC1 := Lib.hid (ls_drew (weightsOfOrders_any g n P S E (.slice (some ⟨g9, o9, none⟩) n c9) W1.drew HPT2.out hg2 HC.out.toClP HL9.out HV1.out (fun x => by have := zOK_at HXX.out x; omega)) (woL_len _ _ _ _))
          rcases bool_fs (wtOK (woL P S E n)) with hbb | hbb
          · have HBB := Lib.hid hbb
            have HC2 := fun (V : World) (hR : ReadC V V.heap.size (.slice A0 P.length k0) (.slice A1 S.length k1) (.slice A2 W.length k2) P S W) (A4 : Option Addr) (c4 : Nat) (hv : ReadI V V.heap.size (.slice A4 n c4) (woL P S E n)) => hid_in (withW_any (.slice A0 P.length k0) (.slice A1 S.length k1) (.slice A2 W.length k2) A4 n c4 P S W (woL P S E n) V hR hv hP hS (by rw [woL_len]; omega) false HBB.out)
            have hk : zoC P S W E = 3 := by rw [zo_mid HC.out HL9.out HXX.out, HBB.out]; rfl
            have HK := Lib.hid hk; have HN := Lib.hid (zo_no hk (by decide)); clear hk hbb
            go_wp2_with fail
            go_region_held3 (fun w' => w'.cell? ⟨w.heap.size, 0, none⟩ = some (.slice A0 P.length k0) ∧ w'.cell? ⟨w.heap.size, 1, none⟩ = some (.slice A1 S.length k1) ∧ w'.cell? ⟨w.heap.size, 2, none⟩ = some (.slice A2 W.length k2) ∧ w'.cell? ⟨w1.heap.size, 0, none⟩ = some (.slice (some ⟨g, 0, none⟩) n n)) (first | exact ⟨y0, y1, y2, y3⟩ | exact ⟨z0, z1, z2, z3⟩ | exact ⟨t0, t1, t2, t3⟩ | (repeat' constructor) <;> go_simp)
              (first
                | (go_at_call 81; (with_reducible refine (HC1.out).mono ?_); rintro e w2 ⟨A4, c4, rfl, ho2, hb2⟩; have hX2 := HX1.out.below hb2; have hY2 := HY1.out.below hb2; have HX2 := Lib.hid hX2; have HY2 := Lib.hid hY2; have z0 := hX2.c0; have z1 := hX2.c1; have z2 := hX2.c2; have z3 := (hb2.cell (p := ⟨w1.heap.size, 0, none⟩) hzl).trans y3; have hzl2 := Nat.lt_of_lt_of_le hzl hb2.size; have HR2 := Lib.hid ((HR1.out.below hb2).more hb2.size); have HO2 := Lib.hid ho2; have HB2 := Lib.hid hb2; clear ho2 hb2 hX2 hY2)
                | (go_at_call 71; (with_reducible refine (hid_out (HC2 w2 HR2.out A4 c4 HO2.out.reads)).mono ?_); rintro e w3 ⟨-, hnn, hb3⟩; obtain rfl := hnn (by first | exact rfl | trivial); have hX3 := HX2.out.below hb3; have hY3 := HY2.out.below hb3; have t0 := hX3.c0; have t1 := hX3.c1; have t2 := hX3.c2; have t3 := (hb3.cell (p := ⟨w1.heap.size, 0, none⟩) hzl2).trans z3; have q0 := hY3.c0; have q1 := hY3.c1; have q2 := hY3.c2; have q3 := hY3.f0; have q4 := hY3.f1; have q5 := hY3.f2; have q6 := hY3.lt; have HY3 := Lib.hid hY3; have HB3 := Lib.hid hb3; clear hb3 hX3 hY3))
            go_wp2_with fail
            have hs1 := HB1.out.size; have hs2 := HB2.out.size; have hs3 := HB3.out.size
            have cr := CBox.set3 (HY3.out) (.slice none 0 0) (.slice none 0 0) (.slice none 0 0)
            have cr0 := cr.c0; have cr1 := cr.c1; have cr2 := cr.c2
            refine bodyPost_ret (v := .tuple #[.agg #[.slice none 0 0, .slice none 0 0, .slice none 0 0], .int .i64 3]) (by simp [results, Try.results39, go_sem, cr0, cr1, cr2]) rfl ?_
            exact AnsCC.noneC (HN.out.1) (HN.out.2.1) (HN.out.2.2) (HK.out.symm) (Below.set3 ((HB1.out.trans (HB2.out.mono (by omega))).trans (HB3.out.mono (by omega))) (by omega) _ _ _)
          · have HBB := Lib.hid hbb
            have HC2 := fun (V : World) (hR : ReadC V V.heap.size (.slice A0 P.length k0) (.slice A1 S.length k1) (.slice A2 W.length k2) P S W) (A4 : Option Addr) (c4 : Nat) (hv : ReadI V V.heap.size (.slice A4 n c4) (woL P S E n)) => hid_in (withW_any (.slice A0 P.length k0) (.slice A1 S.length k1) (.slice A2 W.length k2) A4 n c4 P S W (woL P S E n) V hR hv hP hS (by rw [woL_len]; omega) true HBB.out)
            have HY4 := Lib.hid (zo_yes HC.out HL9.out HXX.out HBB.out)
            clear hbb
            go_wp2_with fail
            go_region_held3 (fun w' => w'.cell? ⟨w.heap.size, 0, none⟩ = some (.slice A0 P.length k0) ∧ w'.cell? ⟨w.heap.size, 1, none⟩ = some (.slice A1 S.length k1) ∧ w'.cell? ⟨w.heap.size, 2, none⟩ = some (.slice A2 W.length k2) ∧ w'.cell? ⟨w1.heap.size, 0, none⟩ = some (.slice (some ⟨g, 0, none⟩) n n)) (first | exact ⟨y0, y1, y2, y3⟩ | exact ⟨z0, z1, z2, z3⟩ | exact ⟨t0, t1, t2, t3⟩ | (repeat' constructor) <;> go_simp)
              (first
                | (go_at_call 81; (with_reducible refine (HC1.out).mono ?_); rintro e w2 ⟨A4, c4, rfl, ho2, hb2⟩; have hX2 := HX1.out.below hb2; have hY2 := HY1.out.below hb2; have HX2 := Lib.hid hX2; have HY2 := Lib.hid hY2; have z0 := hX2.c0; have z1 := hX2.c1; have z2 := hX2.c2; have z3 := (hb2.cell (p := ⟨w1.heap.size, 0, none⟩) hzl).trans y3; have hzl2 := Nat.lt_of_lt_of_le hzl hb2.size; have HR2 := Lib.hid ((HR1.out.below hb2).more hb2.size); have HO2 := Lib.hid ho2; have HB2 := Lib.hid hb2; clear ho2 hb2 hX2 hY2)
                | (go_at_call 71; (with_reducible refine (hid_out (HC2 w2 HR2.out A4 c4 HO2.out.reads)).mono ?_); rintro e w3 ⟨hyy, -, hb3⟩; obtain ⟨a', b', rfl, hw3⟩ := hyy (by first | exact rfl | trivial); obtain ⟨m, hm1, hm2, oa, ob⟩ := hw3; obtain ⟨A5, c5, rfl⟩ := own_form oa.1; obtain ⟨A6, c6, rfl⟩ := own_form ob.1; have hX3 := HX2.out.below hb3; have hY3 := HY2.out.below hb3; have t0 := hX3.c0; have t1 := hX3.c1; have t2 := hX3.c2; have t3 := (hb3.cell (p := ⟨w1.heap.size, 0, none⟩) hzl2).trans z3; have q0 := hY3.c0; have q1 := hY3.c1; have q2 := hY3.c2; have q3 := hY3.f0; have q4 := hY3.f1; have q5 := hY3.f2; have q6 := hY3.lt; have HM := Lib.hid (And.intro hm1 hm2); have OA := Lib.hid oa; have OB := Lib.hid ob; have HY3 := Lib.hid hY3; have HB3 := Lib.hid hb3; clear hb3 hm1 hm2 oa ob hX3 hY3))
            go_wp2_with fail
            have cr := CBox.set3 HY3.out (.slice A5 P.length c5) (.slice A6 S.length c6) (.slice A4 n c4)
            have cr0 := cr.c0; have cr1 := cr.c1; have cr2 := cr.c2
            have hs1 := HB1.out.size; have hs2 := HB2.out.size; have hs3 := HB3.out.size; have hsw := HS1.out
            refine bodyPost_ret (v := .tuple #[.agg #[.slice A5 P.length c5, .slice A6 S.length c6, .slice A4 n c4], .int .i64 0]) (by simp [results, Try.results39, go_sem, cr0, cr1, cr2]) rfl ?_
            exact AnsCC.someC (l := W1.heap.size) (k := w2.heap.size) (m := m) HY4.out.2.1.symm HY4.out.2.2.1.symm HY4.out.2.2.2.symm HY4.out.1.symm (by omega) (by omega) HM.out.1 (by rw [size_set3]; exact HM.out.2) (OwnI.newC3 OA.out (by omega) _ _ _) (by rw [size_set3]; exact OwnI.newC3 OB.out (by have := HM.out.1; omega) _ _ _) (OwnI.newC3 (HO2.out.stay HB3.out) (by omega) _ _ _) (Below.set3 ((HB1.out.trans (HB2.out.mono (by omega))).trans (HB3.out.mono (by omega))) (by omega) _ _ _)
    · have hk : zoC P S W E = 2 := zo_range HC.out (fun h => hne (HL9.out.symm.trans h.1))
      have HK := Lib.hid hk; have HN := Lib.hid (zo_no hk (by decide)); clear hk
      have hbs := HB1.out.size
      have hne3 : ¬ ((n9 : Int) = (n : Int)) := by omega
      clear hne
      go_wp2_with fail
      have cr := (CBox.set3 (HY1.out) (.slice none 0 0) (.slice none 0 0) (.slice none 0 0)).alloc (.cells #[.slice (some ⟨g, 0, none⟩) n n, .slice D nd cd] 67)
      have cr0 := cr.c0; have cr1 := cr.c1; have cr2 := cr.c2
      refine bodyPost_ret (v := .tuple #[.agg #[.slice none 0 0, .slice none 0 0, .slice none 0 0], .int .i64 2]) (by simp [results, Try.results39, go_sem, cr0, cr1, cr2]) rfl ?_
      exact AnsCC.noneC (HN.out.1) (HN.out.2.1) (HN.out.2.2) (HK.out.symm) ((Below.set3 (HB1.out) (by omega) _ _ _).alloc (by rw [size_set3]; exact hbs) (.cells #[.slice (some ⟨g, 0, none⟩) n n, .slice D nd cd] 67))

end Go.Proofs.Ytjobfjgphcaoeaa
