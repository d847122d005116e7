/- First points of branches and meetings, the program's. Conditions: stated at each theorem. -/
import Derived.Test.YtohbgfmjnanlkaaCuI
namespace Go.Proofs.Ytohbgfmjnanlkaa
open Go.ChangeShapes Go.WideShapes Go.ChangeAt Go.RowKit Go.Deep
set_option linter.unusedVariables false
set_option linter.unusedSimpArgs false

theorem ReadI.takeU {w : World} {B M k c : Nat} {A : Option Addr} {xs : List Int} (h : ReadI w B (.slice A M c) xs) (hM : xs.length = M) (hk : k ≤ M) : ReadI w B (.slice A k c) (xs.take k) := by
  have hd : (xs.take k).length = k := by rw [List.length_take]; omega
  obtain ⟨A', c', e7, h6, h4, h5, h7, h8⟩ := h
  rw [hM] at e7 h5 h6
  cases e7
  refine ⟨A, c, by rw [hd], ⟨rfl, fun j hj => ?_⟩, h4, by omega, h7, h8⟩
  rw [hd] at hj
  obtain ⟨a, e1, h9, h10⟩ := h6.2 j (by omega)
  refine ⟨a, e1, h9, ?_⟩
  rw [h10]
  simp [List.getD, List.getElem?_take, hj]
theorem OwnI.stayU {w w' : World} {lo hi : Nat} {v : Value} {zs : List Int} (h : OwnI w lo hi v zs) (hb : Below w.heap.size w w') : OwnI w' lo hi v zs := h.kept (Kept.of_below hb h.2.2)
theorem ReadI.capU {w : World} {B n c : Nat} {A : Option Addr} {L : List Int} (h : ReadI w B (.slice A n c) L) : n ≤ c ∧ c ≤ 9223372036854775807 := by
  obtain ⟨A', c', e, h1, h2, h3, h4, h5⟩ := h
  simp only [Value.slice.injEq] at e
  obtain ⟨rfl, h0, rfl⟩ := e
  omega
theorem some_getD {L : List Int} {i : Nat} (h : i < L.length) : L[i]? = some (L[i]?.getD 0) := by rw [List.getElem?_eq_getElem h]; rfl
theorem cd_take {xs ys : List Int} {N K l : Nat} (hN : l + 2 ≤ N) (hK : l + 2 ≤ K) : (cdL (mqL xs N) N).take l = (cdL (mqL ys K) K).take l ↔ ∀ j, j < l → cuD xs j = cuD ys j := by
  constructor
  · intro h j hj
    have e := congrArg (fun L : List Int => L[j]?.getD 0) h
    simp only [List.getElem?_take_of_lt hj] at e
    rwa [cdL_cuD (by omega), cdL_cuD (by omega)] at e
  · intro h
    apply List.ext_getElem?
    intro j
    by_cases hj : j < l
    · rw [List.getElem?_take_of_lt hj, List.getElem?_take_of_lt hj]
      have e1 : (cdL (mqL xs N) N)[j]? = some (cuD xs j) := by rw [some_getD (by rw [cdL_len]; omega), cdL_cuD (by omega)]
      have e2 : (cdL (mqL ys K) K)[j]? = some (cuD ys j) := by rw [some_getD (by rw [cdL_len]; omega), cdL_cuD (by omega)]
      rw [e1, e2, h j hj]
    · rw [List.getElem?_eq_none (by simp; omega), List.getElem?_eq_none (by simp; omega)]
theorem cd_wf {m : List Int} {n : Nat} (h : MQ m n) (hn : n ≤ 400) : ∀ z ∈ cdL m n, (Lit.int .i64 z).wf = true := fun z hz => by
  unfold cdL at hz
  obtain ⟨a, ha, rfl⟩ := List.mem_map.1 hz
  have h1 := List.mem_range.1 ha
  have h2 := (prx_near h (j := a + 1) (by omega)).2
  exact i64_wf (by omega) (by omega)
theorem cuD_rng {zs : List Int} (hp : brB zs = true) (j : Nat) : 0 ≤ cuD zs j ∧ cuD zs j ≤ (j : Int) + 1 := by
  have h := (prx_near (mq_ok hp (j + 2)) (j := j + 1) (by omega)).2
  have e := cdL_cuD (zs := zs) (n := j + 2) (a := j) (by omega)
  rw [cdL_at (by omega)] at e
  omega
open Classical in
noncomputable def mP (xs ys : List Int) (c : Nat) : Int := if CuPair xs ys c then (c : Int) else 0
open Classical in
noncomputable def mN (xs ys : List Int) (c : Nat) : Int := if CuPair xs ys c then dotN (mqL xs c) (mqL ys c) c else 0
theorem mP_no {xs ys : List Int} {c : Nat} (h : ¬ CuPair xs ys c) : mP xs ys c = 0 := by unfold mP; rw [if_neg h]
theorem mN_no {xs ys : List Int} {c : Nat} (h : ¬ CuPair xs ys c) : mN xs ys c = 0 := by unfold mN; rw [if_neg h]
theorem mP_yes {xs ys : List Int} {c : Nat} (h : CuPair xs ys c) : mP xs ys c = c := by unfold mP; rw [if_pos h]
theorem mN_yes {xs ys : List Int} {c : Nat} (h : CuPair xs ys c) : mN xs ys c = dotN (mqL xs c) (mqL ys c) c := by unfold mN; rw [if_pos h]
theorem mN_rng {xs ys : List Int} (hx : brB xs = true) (hy : brB ys = true) (c : Nat) : 0 ≤ mN xs ys c ∧ mN xs ys c ≤ 4096 * c := by
  by_cases h : CuPair xs ys c
  · rw [mN_yes h]
    exact dot_rng (n := c) (fun i hi => ⟨mq_at hx hi, mq_at hy hi⟩) c (Nat.le_refl _)
  · rw [mN_no h]; omega

set_option maxRecDepth 100000 in
set_option maxHeartbeats 800000 in
theorem firstPointsOf_any (v : Value) (zs : List Int) (m : Nat) (w : World) (h : ReadI w w.heap.size v zs) (hn : zs.length ≤ 1048576) (hw : ∀ z ∈ zs, (Lit.int .i64 z).wf = true) (hp : brB zs = true) (hm1 : 1 ≤ m) (hm : m ≤ 400) :
    Calls Try.prog 150 #[.agg #[v], .int .i64 m] w fun e w' => ∃ A c A' c', e = .returned (.agg #[.slice A m c, .slice A' (m - 1) c']) ∧ ReadI w' w'.heap.size (.slice A m c) (mqL zs m) ∧ ReadI w' w'.heap.size (.slice A' (m - 1) c') (cdL (mqL zs m) m) ∧ Below w.heap.size w w' := by
  obtain ⟨A0, n0, c0, e0⟩ : ∃ A n c, v = .slice A n c := by obtain ⟨A, c, rfl, _⟩ := h; exact ⟨A, _, c, rfl⟩
  subst e0
  obtain ⟨W0, HE⟩ : ∃ V, V = (w.alloc (.cells #[.slice A0 n0 c0] 28)).alloc (.cells #[.slice none 0 0, .slice none 0 0] 151) := ⟨_, rfl⟩
  have hb0 : Below w.heap.size w W0 := by rw [HE]; exact (below_box2 _ _).alloc (by simp) _
  have hx : BoxI W0 w.heap.size (.slice A0 n0 c0) := by rw [HE]; exact (BoxI.new w _ _).kept ⟨by simp, fun b h1 h2 => Below.heap_alloc _ _ _ (by simp; omega)⟩
  have hy : UBox W0 (w.heap.size + 1) (.slice none 0 0) (.slice none 0 0) := by
    have := UBox.new (w.alloc (.cells #[.slice A0 n0 c0] 28)) (.slice none 0 0) (.slice none 0 0) 151
    rw [HE]; simpa using this
  have HR := Lib.hid ((h.below hb0).more hb0.size)
  have HEQ := Lib.hid HE; have B := Lib.hid hb0; have HY := Lib.hid hy
  have HW := Lib.hid hw; have HP := Lib.hid hp
  have x0 := hx.1; have x4 := hx.2
  have y0 := hy.c0; have y1 := hy.c1; have y2 := hy.f0; have y3 := hy.f1; have y4 := hy.lt
  clear h hb0 hx hy HE hw
  go_enter Try.func150, Try.ntmps150
  go_wp2_with fail
  rw [← HEQ.out]
  refine (implMultiplicitiesAt_yes _ zs m W0 HR.out hn HW.out (i64_wf (by omega) (by omega)) (pt_yes hp ⟨by omega, by omega⟩)).mono ?_
  rintro e w1 ⟨A1, c1, rfl, ho1, hb1⟩
  clear x0 x4 y0 y1 y2 y3 y4
  replace HY := Lib.hid (HY.out.stay hb1); replace B := Lib.hid (B.out.trans (hb1.mono B.out.size))
  have HM := Lib.hid (mq_ok hp m)
  have HO1 := Lib.hid ho1
  have hs0 : w.heap.size + 2 = W0.heap.size := by rw [HEQ.out]; simp
  have hs1 := hb1.size
  clear ho1 hb1 hp
  go_wp2_with fail
  refine (proximatesAt_any _ (mqL zs m) m w1 HO1.out.reads HM.out hm).mono ?_
  rintro e w2 ⟨A2, c2, rfl, ho2, hb2⟩
  replace HY := Lib.hid (HY.out.stay hb2); replace B := Lib.hid (B.out.trans (hb2.mono B.out.size)); replace HO1 := Lib.hid (HO1.out.stayU hb2); have hs2 := hb2.size
  have HO2 := Lib.hid ho2.reads
  clear ho2 hb2
  go_wp2_with fail
  refine (codeAt_any _ (mqL zs m) m w2 HO2.out HM.out hm1 hm).mono ?_
  rintro e w3 ⟨A3, c3, rfl, ho3, hb3⟩
  replace HY := Lib.hid (HY.out.stay hb3); replace B := Lib.hid (B.out.trans (hb3.mono B.out.size)); replace HO1 := Lib.hid (HO1.out.stayU hb3); have hs3 := hb3.size
  have HO3 := Lib.hid ho3
  clear ho3 hb3
  have y0 := HY.out.c0; have y1 := HY.out.c1; have y2 := HY.out.f0; have y3 := HY.out.f1; have y4 := HY.out.lt
  have cr := (HY.out.set0 (.slice A1 m c1)).set1 (.slice A3 (m - 1) c3)
  have cr0 := cr.c0; have cr1 := cr.c1
  go_wp2_with fail
  have kq : ∀ lo hi, w.heap.size + 1 < lo → Kept lo hi w3 ((w3.setCell ⟨w.heap.size + 1, 0, none⟩ (.slice A1 m c1)).setCell ⟨w.heap.size + 1, 1, none⟩ (.slice A3 (m - 1) c3)) := fun lo hi h =>
    (kept_set w3 (p := ⟨w.heap.size + 1, 0, none⟩) (Or.inl (by show w.heap.size + 1 < _; omega)) _).trans (kept_set _ (p := ⟨w.heap.size + 1, 1, none⟩) (Or.inl (by show w.heap.size + 1 < _; omega)) _)
  refine bodyPost_ret (v := .agg #[.slice A1 m c1, .slice A3 (m - 1) c3]) (by simp [results, Try.results150, go_sem, cr0, cr1]) rfl ⟨_, _, _, _, rfl, (HO1.out.kept (kq _ _ (by omega))).reads, (HO3.out.kept (kq _ _ (by omega))).reads, ?_⟩
  exact (B.out.setCell (p := ⟨w.heap.size + 1, 0, none⟩) (by show w.heap.size ≤ w.heap.size + 1; omega) _).setCell (p := ⟨w.heap.size + 1, 1, none⟩) (by show w.heap.size ≤ w.heap.size + 1; omega) _

set_option maxRecDepth 100000 in
set_option maxHeartbeats 800000 in
theorem meet_any (A1 A2 B1 B2 : Option Addr) (N K c1 c2 d1 d2 l : Nat) (xs ys : List Int) (w : World) (h1 : ReadI w w.heap.size (.slice A1 N c1) (mqL xs N)) (h2 : ReadI w w.heap.size (.slice A2 (N - 1) c2) (cdL (mqL xs N) N)) (h3 : ReadI w w.heap.size (.slice B1 K d1) (mqL ys K)) (h4 : ReadI w w.heap.size (.slice B2 (K - 1) d2) (cdL (mqL ys K) K))
    (hx : brB xs = true) (hy : brB ys = true) (hN : l + 2 ≤ N) (hK : l + 2 ≤ K) (hN4 : N ≤ 400) (hK4 : K ≤ 400) :
    Calls Try.prog 153 #[.agg #[.slice A1 N c1, .slice A2 (N - 1) c2], .agg #[.slice B1 K d1, .slice B2 (K - 1) d2], .int .i64 ((l : Int) + 1)] w fun e w' => e = .returned (.agg #[.int .i64 (mP xs ys (l + 1)), .int .i64 (mN xs ys (l + 1))]) ∧ Below w.heap.size w w' := by
  obtain ⟨W0, HE⟩ : ∃ V, V = (((w.alloc (.cells #[.slice A1 N c1, .slice A2 (N - 1) c2] 151))).alloc (.cells #[.slice B1 K d1, .slice B2 (K - 1) d2] 151)).alloc (.cells #[.int .i64 0, .int .i64 0] 118) := ⟨_, rfl⟩
  have hb0 : Below w.heap.size w W0 := by rw [HE]; exact ((below_box2 _ _).alloc (by simp) _).alloc (by simp; omega) _
  have hp : UBox W0 w.heap.size (.slice A1 N c1) (.slice A2 (N - 1) c2) := by rw [HE]; exact ((UBox.new w _ _ _).alloc _).alloc _
  have hq : UBox W0 (w.heap.size + 1) (.slice B1 K d1) (.slice B2 (K - 1) d2) := by
    have := (UBox.new (w.alloc (.cells #[.slice A1 N c1, .slice A2 (N - 1) c2] 151)) (.slice B1 K d1) (.slice B2 (K - 1) d2) 151).alloc (.cells #[.int .i64 0, .int .i64 0] 118)
    rw [HE]; simpa using this
  have hz : UBox W0 (w.heap.size + 2) (.int .i64 0) (.int .i64 0) := by
    have := UBox.new ((w.alloc (.cells #[.slice A1 N c1, .slice A2 (N - 1) c2] 151)).alloc (.cells #[.slice B1 K d1, .slice B2 (K - 1) d2] 151)) (.int .i64 0) (.int .i64 0) 118
    rw [HE]; simpa using this
  have cc1 := h1.capU; have cc2 := h2.capU; have cc3 := h3.capU; have cc4 := h4.capU
  have L2 : (cdL (mqL xs N) N).length = N - 1 := cdL_len _ _
  have L4 : (cdL (mqL ys K) K).length = K - 1 := cdL_len _ _
  have R1 := Lib.hid ((h1.below hb0).more hb0.size); have R2 := Lib.hid ((h2.below hb0).more hb0.size); have R3 := Lib.hid ((h3.below hb0).more hb0.size); have R4 := Lib.hid ((h4.below hb0).more hb0.size)
  obtain ⟨g2, o2, e2, ee2, hg2, k2⟩ := row_cellsU h2 L2 (by omega)
  obtain ⟨g4, o4, e4, ee4, hg4, k4⟩ := row_cellsU h4 L4 (by omega)
  simp only [Value.slice.injEq] at ee2 ee4
  obtain ⟨rfl, _, rfl⟩ := ee2
  obtain ⟨rfl, _, rfl⟩ := ee4
  have q2 := k2 l (by omega)
  have q4 := k4 l (by omega)
  rw [List.getD_eq_getElem?_getD, cdL_cuD (by omega)] at q2 q4
  have q4W : W0.cell? ⟨g4, o4 + l, none⟩ = some (.int .i64 (cuD ys l)) := by rw [hb0.cell (p := ⟨g4, o4 + l, none⟩) hg4]; exact q4
  have q2L : W0.cell? ⟨g2, o2 + l, none⟩ = some (.int .i64 (cuD xs l)) := by rw [hb0.cell (p := ⟨g2, o2 + l, none⟩) hg2]; exact q2
  rw [HE] at q2L
  have HQ4 : Hid (W0.cell? ⟨g4, o4 + l, none⟩ = some (.int .i64 (cuD ys l))) := Lib.hid q4W
  have hrx := cuD_rng hx l; have hry := cuD_rng hy l
  obtain ⟨x, hxe⟩ : ∃ x, cuD xs l = x := ⟨_, rfl⟩
  obtain ⟨y, hye⟩ : ∃ y, cuD ys l = y := ⟨_, rfl⟩
  have HCP : Hid (CuPair xs ys (l + 1) ↔ (∀ j, j < l → cuD xs j = cuD ys j) ∧ (x ≠ y ∨ x = 0)) := Lib.hid (by
    unfold CuPair
    rw [show l + 1 - 1 = l by omega, hxe, hye]
    constructor
    · rintro ⟨a, b⟩; exact ⟨fun j hj => a j (by omega), b⟩
    · rintro ⟨a, b⟩; exact ⟨fun j hj => a j (by omega), b⟩)
  rw [hxe] at q2 hrx q2L
  rw [hye] at q4 hry q4W
  have HT := Lib.hid (cd_take (xs := xs) (ys := ys) hN hK)
  have HX := Lib.hid hx; have HY := Lib.hid hy
  have HB := Lib.hid hb0; have HEQ := Lib.hid HE; have UP := Lib.hid hp; have UQ := Lib.hid hq; have UZ := Lib.hid hz
  have z0 := hp.c0; have z1 := hp.c1; have z2 := hp.lt
  have y0 := hq.c0; have y1 := hq.c1; have y2 := hq.lt
  have v0 := hz.c0; have v1 := hz.c1; have v2 := hz.f0; have v3 := hz.f1; have v4 := hz.lt
  have RT2 := Lib.hid (R2.out.takeU L2 (show l ≤ N - 1 by omega))
  have RT4 := Lib.hid (R4.out.takeU L4 (show l ≤ K - 1 by omega))
  have WF2 := Lib.hid (cd_wf (mq_ok hx N) hN4); have WF4 := Lib.hid (cd_wf (mq_ok hy K) hK4)
  have RM1 := Lib.hid (R1.out.takeU (mq_len xs N) (show l + 1 ≤ N by omega))
  have RM3 := Lib.hid (R3.out.takeU (mq_len ys K) (show l + 1 ≤ K by omega))
  rw [mq_take (by omega)] at RM1 RM3
  have hlN : (l : Int) < ((N - 1 : Nat) : Int) := by omega
  have sl0 : (0 : Int) ≤ (l : Int) + 1 := by omega
  have sl1 : (l : Int) + 1 ≤ (c1 : Int) := by omega
  have sl3 : (l : Int) + 1 ≤ (d1 : Int) := by omega
  have HZ0 := Lib.hid (fun (m : Nat) (p q : Value) => ((UP.out.stay (drewN_below W0 m)).other (g := w.heap.size + 2) (o := 0) (by omega) p |>.other (g := w.heap.size + 2) (o := 1) (by omega) q).c0)
  have HY0 := Lib.hid (fun (m : Nat) (p q : Value) => ((UQ.out.stay (drewN_below W0 m)).other (g := w.heap.size + 2) (o := 0) (by omega) p |>.other (g := w.heap.size + 2) (o := 1) (by omega) q).c0)
  have hlK : (l : Int) < ((K - 1 : Nat) : Int) := by omega
  have p1 : IntKind.i64.wrap ((l : Int) + 1 - 1) = (l : Int) := by rw [IntWalk.i64_in _ (by omega)]; omega
  obtain ⟨bb, hbb⟩ : ∃ b, decide ((cdL (mqL xs N) N).take l = (cdL (mqL ys K) K).take l) = b := ⟨_, rfl⟩
  have HEC : Hid (∀ (m : Nat) (V : World), V = W0.drewN m → Calls Try.prog 126 #[.slice (some ⟨g2, o2, none⟩) l c2, .slice (some ⟨g4, o4, none⟩) l d2] V fun e w' => e = .returned (.bool bb) ∧ ∃ m, w' = V.drewN m) := Lib.hid (fun m V hV => by
    subst hV
    rw [← hbb]
    exact equalU_any _ _ ((cdL (mqL xs N) N).take l) ((cdL (mqL ys K) K).take l) (W0.drewN m) W0.heap.size W0.heap.size RT2.out RT4.out (by rw [List.length_take, L2]; omega) (by rw [List.length_take, L4]; omega) (fun z hz => WF2.out z (List.mem_of_mem_take hz)) (fun z hz => WF4.out z (List.mem_of_mem_take hz)))
  have HBB := Lib.hid hbb
  have L2h := Lib.hid L2; have L4h := Lib.hid L4
  clear h1 h2 h3 h4 hb0 hp hq hz HE k2 k4 hxe hye hx hy hbb L2 L4
  go_enter Try.func153, Try.ntmps153
  go_wp2_with fail
  rw [← HEQ.out]
  cases bb with
  | false =>
    have HNO : Hid (¬ CuPair xs ys (l + 1)) := Lib.hid (fun h => by
      have h1 := HT.out.2 (HCP.out.1 h).1
      have h2 := HBB.out
      rw [decide_eq_true h1] at h2
      cases h2)
    go_quiet ((go_at_call 126; first | exact Calls.quiet_of (HEC.out 0 _ rfl) | exact Calls.quiet_of (HEC.out _ _ rfl)))
    go_wp2_with fail
    have cr := (UZ.out.stay (drewN_below W0 nq)).set0 (.int .i64 0) |>.set1 (.int .i64 0)
    have cr0 := cr.c0; have cr1 := cr.c1
    refine bodyPost_ret (v := .agg #[.int .i64 0, .int .i64 0]) (by simp [results, Try.results153, go_sem, cr0, cr1]) rfl ⟨by rw [mP_no HNO.out, mN_no HNO.out], ?_⟩
    exact ((HB.out.trans (drewN_below _ _)).setCell (p := ⟨w.heap.size + 2, 0, none⟩) (by show w.heap.size ≤ w.heap.size + 2; omega) _).setCell (p := ⟨w.heap.size + 2, 1, none⟩) (by show w.heap.size ≤ w.heap.size + 2; omega) _
  | true =>
    have HALL := Lib.hid (HT.out.1 (of_decide_eq_true HBB.out))
    by_cases hx0 : x = 0
    · have HOR : Hid (x ≠ y ∨ x = 0) := Lib.hid (Or.inr hx0)
      have t1 : (x != 0) = false := by simp [hx0]
      have HYE := Lib.hid (HCP.out.2 ⟨HALL.out, HOR.out⟩)
      go_quiet ((go_at_call 126; first | exact Calls.quiet_of (HEC.out 0 _ rfl) | exact Calls.quiet_of (HEC.out _ _ rfl)))
      go_wp2_with fail
      refine wp_region_held_drew (S := fun w' => w'.cell? ⟨w.heap.size, 0, none⟩ = some (.slice A1 N c1) ∧ w'.cell? ⟨w.heap.size + 1, 0, none⟩ = some (.slice B1 K d1)) (by kernel_rfl) ⟨z0, y0⟩ (fun hHeld => ?_)
      refine takeY 0 _ (v := ?_) rfl rfl (by kernel_rfl) (by kernel_rfl) (by kernel_rfl) (fun _ _ _ h => h) (by kernel_rfl) ?_ (by assumption) ?_
      rotate_left 1
      · intro w hSw; (try dsimp only at hSw); go_simp; (try with_reducible rfl)
      try simp only [Act.put, List.setIfInBounds_toArray, List.set_cons_zero, List.set_cons_succ]
      refine takeY 1 _ (v := ?_) rfl rfl (by kernel_rfl) (by kernel_rfl) (by kernel_rfl) (fun _ _ _ h => h) (by kernel_rfl) ?_ (by assumption) ?_
      rotate_left 1
      · intro w hSw; (try dsimp only at hSw); go_simp; (try with_reducible rfl)
      try simp only [Act.put, List.setIfInBounds_toArray, List.set_cons_zero, List.set_cons_succ]
      refine takeY 2 _ (v := ?_) rfl rfl (by kernel_rfl) (by kernel_rfl) (by kernel_rfl) (fun _ _ _ h => h) (by kernel_rfl) ?_ (by assumption) ?_
      rotate_left 1
      · intro w hSw; (try dsimp only at hSw); go_simp; (try with_reducible rfl)
      try simp only [Act.put, List.setIfInBounds_toArray, List.set_cons_zero, List.set_cons_succ]
      refine takeY 3 _ (v := ?_) rfl rfl (by kernel_rfl) (by kernel_rfl) (by kernel_rfl) (fun _ _ _ h => h) (by kernel_rfl) ?_ (by assumption) ?_
      rotate_left 1
      · intro w hSw; (try dsimp only at hSw); go_simp; (try with_reducible rfl)
      try simp only [Act.put, List.setIfInBounds_toArray, List.set_cons_zero, List.set_cons_succ]
      refine takeY 4 _ (v := ?_) rfl rfl (by kernel_rfl) (by kernel_rfl) (by kernel_rfl) (fun _ _ _ h => h) (by kernel_rfl) ?_ (by assumption) ?_
      rotate_left 1
      · intro w hSw; (try dsimp only at hSw); go_simp; (try with_reducible rfl)
      try simp only [Act.put, List.setIfInBounds_toArray, List.set_cons_zero, List.set_cons_succ]
      refine takeY 5 _ (v := ?_) rfl rfl (by kernel_rfl) (by kernel_rfl) (by kernel_rfl) (fun _ _ _ h => h) (by kernel_rfl) ?_ (by assumption) ?_
      rotate_left 1
      · intro w hSw; (try dsimp only at hSw); go_simp; (try with_reducible rfl)
      try simp only [Act.put, List.setIfInBounds_toArray, List.set_cons_zero, List.set_cons_succ]
      refine takeY 6 _ (v := ?_) rfl rfl (by kernel_rfl) (by kernel_rfl) (by kernel_rfl) (fun _ _ _ h => h) (by kernel_rfl) ?_ (by assumption) ?_
      rotate_left 1
      · intro w hSw; (try dsimp only at hSw); go_simp; (try with_reducible rfl)
      try simp only [Act.put, List.setIfInBounds_toArray, List.set_cons_zero, List.set_cons_succ]
      refine takeY 7 _ (v := ?_) rfl rfl (by kernel_rfl) (by kernel_rfl) (by kernel_rfl) (fun _ _ _ h => h) (by kernel_rfl) ?_ (by assumption) ?_
      rotate_left 1
      · intro w hSw; (try dsimp only at hSw); go_simp; (try with_reducible rfl)
      try simp only [Act.put, List.setIfInBounds_toArray, List.set_cons_zero, List.set_cons_succ]
      refine takeY 8 _ (v := ?_) rfl rfl (by kernel_rfl) (by kernel_rfl) (by kernel_rfl) (fun _ _ _ h => h) (by kernel_rfl) ?_ (by assumption) ?_
      rotate_left 1
      · intro w hSw; (try dsimp only at hSw); go_simp; (try with_reducible rfl)
      try simp only [Act.put, List.setIfInBounds_toArray, List.set_cons_zero, List.set_cons_succ]
      refine wpAnyH_ready (rs := [9]) (by kernel_rfl) (by simp) ?_
      refine AllReadyH.cons rfl (fun K hK => ?_) AllReadyH.nil
      go_simp
      refine (implDot_any _ _ (mqL xs (l + 1)) (mqL ys (l + 1)) (l + 1) (W0.drewN nq).drew W0.heap.size W0.heap.size RM1.out RM3.out (mq_len _ _) (mq_len _ _) (by omega) (by omega) (fun i hi => ⟨mq_at HX.out hi, mq_at HY.out hi⟩)).mono ?_
      rintro e w2 ⟨rfl, m2, rfl⟩
      refine hK.out _ ((W0.drewN nq).drew.drewN m2) ⟨z0, y0⟩ (fun hHeld => ?_)
      clear hK K
      try simp only [Act.put, List.setIfInBounds_toArray, List.set_cons_zero, List.set_cons_succ]
      refine takeY 10 _ (v := ?_) rfl rfl (by kernel_rfl) (by kernel_rfl) (by kernel_rfl) (fun _ _ _ h => h) (by kernel_rfl) ?_ (by assumption) ?_
      rotate_left 1
      · intro w hSw; (try dsimp only at hSw); go_simp; (try with_reducible rfl)
      try simp only [Act.put, List.setIfInBounds_toArray, List.set_cons_zero, List.set_cons_succ]
      refine wpAnyH_ready (rs := [11]) (by kernel_rfl) (by simp) ?_
      refine AllReadyH.cons rfl (fun K hK => ?_) AllReadyH.nil
      go_simp
      refine hK.out _ _ ⟨HZ0.out _ _ _, HY0.out _ _ _⟩ (fun hHeld => ?_)
      clear hK K
      try simp only [Act.put, List.setIfInBounds_toArray, List.set_cons_zero, List.set_cons_succ]
      refine wpAnyH_done (by kernel_rfl) ?_ _
      go_wp2_with fail
      have cr := (UZ.out.stay (drewN_below W0 (nq + 1 + m2))).set0 (.int .i64 ((l : Int) + 1)) |>.set1 (.int .i64 (dotN (mqL xs (l + 1)) (mqL ys (l + 1)) (l + 1)))
      have cr0 := cr.c0; have cr1 := cr.c1
      refine bodyPost_ret (v := .agg #[.int .i64 ((l : Int) + 1), .int .i64 (dotN (mqL xs (l + 1)) (mqL ys (l + 1)) (l + 1))]) (by simp [results, Try.results153, go_sem, cr0, cr1]) rfl ⟨by rw [mP_yes HYE.out, mN_yes HYE.out]; push_cast; rfl, ?_⟩
      exact ((HB.out.trans (drewN_below _ _)).setCell (p := ⟨w.heap.size + 2, 0, none⟩) (by show w.heap.size ≤ w.heap.size + 2; omega) _).setCell (p := ⟨w.heap.size + 2, 1, none⟩) (by show w.heap.size ≤ w.heap.size + 2; omega) _
    · have t1 : (x != 0) = true := by simp [hx0]
      by_cases hxy : x = y
      · have HNO : Hid (¬ CuPair xs ys (l + 1)) := Lib.hid (fun h => by
          rcases (HCP.out.1 h).2 with h1 | h1
          · exact h1 hxy
          · exact hx0 h1)
        subst hxy
        have t2 : (x == x) = true := by simp
        go_quiet ((go_at_call 126; first | exact Calls.quiet_of (HEC.out 0 _ rfl) | exact Calls.quiet_of (HEC.out _ _ rfl)))
        go_wp2_with fail
        have cr := (UZ.out.stay (drewN_below W0 nq)).set0 (.int .i64 0) |>.set1 (.int .i64 0)
        have cr0 := cr.c0; have cr1 := cr.c1
        refine bodyPost_ret (v := .agg #[.int .i64 0, .int .i64 0]) (by simp [results, Try.results153, go_sem, cr0, cr1]) rfl ⟨by rw [mP_no HNO.out, mN_no HNO.out], ?_⟩
        exact ((HB.out.trans (drewN_below _ _)).setCell (p := ⟨w.heap.size + 2, 0, none⟩) (by show w.heap.size ≤ w.heap.size + 2; omega) _).setCell (p := ⟨w.heap.size + 2, 1, none⟩) (by show w.heap.size ≤ w.heap.size + 2; omega) _
      · have HOR : Hid (x ≠ y ∨ x = 0) := Lib.hid (Or.inl hxy)
        have t2 : (x == y) = false := by simp [hxy]
        have HYE := Lib.hid (HCP.out.2 ⟨HALL.out, HOR.out⟩)
        go_quiet ((go_at_call 126; first | exact Calls.quiet_of (HEC.out 0 _ rfl) | exact Calls.quiet_of (HEC.out _ _ rfl)))
        go_wp2_with fail
        refine wp_region_held_drew (S := fun w' => w'.cell? ⟨w.heap.size, 0, none⟩ = some (.slice A1 N c1) ∧ w'.cell? ⟨w.heap.size + 1, 0, none⟩ = some (.slice B1 K d1)) (by kernel_rfl) ⟨z0, y0⟩ (fun hHeld => ?_)
        refine takeY 0 _ (v := ?_) rfl rfl (by kernel_rfl) (by kernel_rfl) (by kernel_rfl) (fun _ _ _ h => h) (by kernel_rfl) ?_ (by assumption) ?_
        rotate_left 1
        · intro w hSw; (try dsimp only at hSw); go_simp; (try with_reducible rfl)
        try simp only [Act.put, List.setIfInBounds_toArray, List.set_cons_zero, List.set_cons_succ]
        refine takeY 1 _ (v := ?_) rfl rfl (by kernel_rfl) (by kernel_rfl) (by kernel_rfl) (fun _ _ _ h => h) (by kernel_rfl) ?_ (by assumption) ?_
        rotate_left 1
        · intro w hSw; (try dsimp only at hSw); go_simp; (try with_reducible rfl)
        try simp only [Act.put, List.setIfInBounds_toArray, List.set_cons_zero, List.set_cons_succ]
        refine takeY 2 _ (v := ?_) rfl rfl (by kernel_rfl) (by kernel_rfl) (by kernel_rfl) (fun _ _ _ h => h) (by kernel_rfl) ?_ (by assumption) ?_
        rotate_left 1
        · intro w hSw; (try dsimp only at hSw); go_simp; (try with_reducible rfl)
        try simp only [Act.put, List.setIfInBounds_toArray, List.set_cons_zero, List.set_cons_succ]
        refine takeY 3 _ (v := ?_) rfl rfl (by kernel_rfl) (by kernel_rfl) (by kernel_rfl) (fun _ _ _ h => h) (by kernel_rfl) ?_ (by assumption) ?_
        rotate_left 1
        · intro w hSw; (try dsimp only at hSw); go_simp; (try with_reducible rfl)
        try simp only [Act.put, List.setIfInBounds_toArray, List.set_cons_zero, List.set_cons_succ]
        refine takeY 4 _ (v := ?_) rfl rfl (by kernel_rfl) (by kernel_rfl) (by kernel_rfl) (fun _ _ _ h => h) (by kernel_rfl) ?_ (by assumption) ?_
        rotate_left 1
        · intro w hSw; (try dsimp only at hSw); go_simp; (try with_reducible rfl)
        try simp only [Act.put, List.setIfInBounds_toArray, List.set_cons_zero, List.set_cons_succ]
        refine takeY 5 _ (v := ?_) rfl rfl (by kernel_rfl) (by kernel_rfl) (by kernel_rfl) (fun _ _ _ h => h) (by kernel_rfl) ?_ (by assumption) ?_
        rotate_left 1
        · intro w hSw; (try dsimp only at hSw); go_simp; (try with_reducible rfl)
        try simp only [Act.put, List.setIfInBounds_toArray, List.set_cons_zero, List.set_cons_succ]
        refine takeY 6 _ (v := ?_) rfl rfl (by kernel_rfl) (by kernel_rfl) (by kernel_rfl) (fun _ _ _ h => h) (by kernel_rfl) ?_ (by assumption) ?_
        rotate_left 1
        · intro w hSw; (try dsimp only at hSw); go_simp; (try with_reducible rfl)
        try simp only [Act.put, List.setIfInBounds_toArray, List.set_cons_zero, List.set_cons_succ]
        refine takeY 7 _ (v := ?_) rfl rfl (by kernel_rfl) (by kernel_rfl) (by kernel_rfl) (fun _ _ _ h => h) (by kernel_rfl) ?_ (by assumption) ?_
        rotate_left 1
        · intro w hSw; (try dsimp only at hSw); go_simp; (try with_reducible rfl)
        try simp only [Act.put, List.setIfInBounds_toArray, List.set_cons_zero, List.set_cons_succ]
        refine takeY 8 _ (v := ?_) rfl rfl (by kernel_rfl) (by kernel_rfl) (by kernel_rfl) (fun _ _ _ h => h) (by kernel_rfl) ?_ (by assumption) ?_
        rotate_left 1
        · intro w hSw; (try dsimp only at hSw); go_simp; (try with_reducible rfl)
        try simp only [Act.put, List.setIfInBounds_toArray, List.set_cons_zero, List.set_cons_succ]
        refine wpAnyH_ready (rs := [9]) (by kernel_rfl) (by simp) ?_
        refine AllReadyH.cons rfl (fun K hK => ?_) AllReadyH.nil
        go_simp
        refine (implDot_any _ _ (mqL xs (l + 1)) (mqL ys (l + 1)) (l + 1) (W0.drewN nq).drew W0.heap.size W0.heap.size RM1.out RM3.out (mq_len _ _) (mq_len _ _) (by omega) (by omega) (fun i hi => ⟨mq_at HX.out hi, mq_at HY.out hi⟩)).mono ?_
        rintro e w2 ⟨rfl, m2, rfl⟩
        refine hK.out _ ((W0.drewN nq).drew.drewN m2) ⟨z0, y0⟩ (fun hHeld => ?_)
        clear hK K
        try simp only [Act.put, List.setIfInBounds_toArray, List.set_cons_zero, List.set_cons_succ]
        refine takeY 10 _ (v := ?_) rfl rfl (by kernel_rfl) (by kernel_rfl) (by kernel_rfl) (fun _ _ _ h => h) (by kernel_rfl) ?_ (by assumption) ?_
        rotate_left 1
        · intro w hSw; (try dsimp only at hSw); go_simp; (try with_reducible rfl)
        try simp only [Act.put, List.setIfInBounds_toArray, List.set_cons_zero, List.set_cons_succ]
        refine wpAnyH_ready (rs := [11]) (by kernel_rfl) (by simp) ?_
        refine AllReadyH.cons rfl (fun K hK => ?_) AllReadyH.nil
        go_simp
        refine hK.out _ _ ⟨HZ0.out _ _ _, HY0.out _ _ _⟩ (fun hHeld => ?_)
        clear hK K
        try simp only [Act.put, List.setIfInBounds_toArray, List.set_cons_zero, List.set_cons_succ]
        refine wpAnyH_done (by kernel_rfl) ?_ _
        go_wp2_with fail
        have cr := (UZ.out.stay (drewN_below W0 (nq + 1 + m2))).set0 (.int .i64 ((l : Int) + 1)) |>.set1 (.int .i64 (dotN (mqL xs (l + 1)) (mqL ys (l + 1)) (l + 1)))
        have cr0 := cr.c0; have cr1 := cr.c1
        refine bodyPost_ret (v := .agg #[.int .i64 ((l : Int) + 1), .int .i64 (dotN (mqL xs (l + 1)) (mqL ys (l + 1)) (l + 1))]) (by simp [results, Try.results153, go_sem, cr0, cr1]) rfl ⟨by rw [mP_yes HYE.out, mN_yes HYE.out]; push_cast; rfl, ?_⟩
        exact ((HB.out.trans (drewN_below _ _)).setCell (p := ⟨w.heap.size + 2, 0, none⟩) (by show w.heap.size ≤ w.heap.size + 2; omega) _).setCell (p := ⟨w.heap.size + 2, 1, none⟩) (by show w.heap.size ≤ w.heap.size + 2; omega) _
end Go.Proofs.Ytohbgfmjnanlkaa
