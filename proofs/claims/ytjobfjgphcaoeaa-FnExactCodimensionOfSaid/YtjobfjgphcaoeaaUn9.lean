/- A single step of unloading, the program's. Conditions: stated at each theorem. -/
import Derived.Test.YtjobfjgphcaoeaaUn8
namespace Go.Proofs.Ytjobfjgphcaoeaa
open Go.ChangeShapes Go.WideShapes Go.ChangeAt Go.RowKit Go.Deep
set_option linter.unusedVariables false
set_option linter.unusedSimpArgs false

theorem US.below {w w' : World} {lo ub bo bj g n mo bn co cm cn : Nat} {P S : List Int} {O : Nat → Int} {J : Nat → Bool} (h : US w lo ub bo bj g n mo bn co cm cn P S O J) (hb : Below w.heap.size w w') : US w' lo ub bo bj g n mo bn co cm cn P S O J := by
  obtain ⟨hsta, ⟨A1, c1, A4, c4, l1, h1, l4, h4, hux, ho1, ho4, hl1, hl4⟩, hord, hjoi⟩ := h
  exact ⟨hsta.keep (U3.ofBelow hb), ⟨A1, c1, A4, c4, l1, h1, l4, h4, hux.below hb, ho1.stay hb, ho4.stay hb, hl1, hl4⟩, hord.stay hb, hjoi.of_block (hb.block bj hsta.jlo.2)⟩
theorem me_rng {P S : List Int} {n p : Nat} (h : okAll P S n = true) (hp : p < n) (hn : n ≤ 24) : -100 ≤ meE P S n p p ∧ meE P S n p p ≤ -1 := by
  have h1 := me_self h hp
  have h2 : 0 ≤ sgC (fun j => cnQ (nrC P S j) p) n := sgC_nn fun i _ => cnQ_nn _ _
  have h3 : sgC (fun j => cnQ (nrC P S j) p) n ≤ 1 * n := (sgC_le (b := 1) (n := n) (fun i hi => by
    rw [cn_le h hi]; split <;> omega)).2
  omega
/-- The least point with a negative excess, or -1; the step there; the weights behind it. -/
def usP (P S W : List Int) (n : Nat) : Int := lsI (fun x => (ecL P S W n)[x]?.getD 0) n
def usS (P S W : List Int) (n p : Nat) : Int := qtI (-(exN P S (fun x => W[x]?.getD 0) n p)) (-(meE P S n p p))
def usL (P S W : List Int) (n p : Nat) : List Int := fnL (fun x => W[x]?.getD 0 + pfE P S x p * usS P S W n p) n
theorem usL_len (P S W : List Int) (n p : Nat) : (usL P S W n p).length = n := fnL_len _ _
def usC (P S W : List Int) : Int := if clB P S W then (if usP P S W P.length < 0 then 4 else if wtOK (usL P S W P.length (usP P S W P.length).toNat) then 0 else 3) else 1
def usPA (P S W : List Int) : List Int := if usC P S W = 0 then P else []
def usSA (P S W : List Int) : List Int := if usC P S W = 0 then S else []
def usWA (P S W : List Int) : List Int := if usC P S W = 0 then usL P S W P.length (usP P S W P.length).toNat else []
theorem us_no {P S W : List Int} {C : Int} (h : usC P S W = C) (hC : C ≠ 0) : usPA P S W = [] ∧ usSA P S W = [] ∧ usWA P S W = [] := by
  subst h; exact ⟨if_neg hC, if_neg hC, if_neg hC⟩
theorem us_none {P S W : List Int} {n : Nat} (h : ClOK P S W n) (hp : usP P S W n < 0) : usC P S W = 4 := by
  unfold usC; rw [if_pos h.b, h.p, if_pos hp]
theorem us_mid {P S W : List Int} {n p : Nat} (h : ClOK P S W n) (hp : usP P S W n = (p : Int)) : usC P S W = if wtOK (usL P S W n p) then 0 else 3 := by
  unfold usC; rw [if_pos h.b, h.p, hp, if_neg (by omega), Int.toNat_natCast]
theorem us_yes {P S W : List Int} {n p : Nat} (h : ClOK P S W n) (hp : usP P S W n = (p : Int)) (hw : wtOK (usL P S W n p) = true) : usC P S W = 0 ∧ usPA P S W = P ∧ usSA P S W = S ∧ usWA P S W = usL P S W n p := by
  have h0 : usC P S W = 0 := by rw [us_mid h hp, hw]; rfl
  exact ⟨h0, if_pos h0, if_pos h0, by unfold usWA; rw [if_pos h0, h.p, hp, Int.toNat_natCast]⟩
theorem us_len (P S W : List Int) : (usPA P S W).length ≤ 1048576 ∧ (usSA P S W).length ≤ 1048576 ∧ (usWA P S W).length ≤ 1048576 := by
  by_cases h : usC P S W = 0
  · have hb : clB P S W = true := by
      cases hb : clB P S W with
      | true => rfl
      | false => simp [usC, hb] at h
    obtain ⟨n, hC⟩ := clB_true hb
    have hn := hC.hi
    refine ⟨by rw [usPA, if_pos h, hC.p]; omega, by rw [usSA, if_pos h, hC.s]; omega, by rw [usWA, if_pos h, usL_len, hC.p]; omega⟩
  · have h2 := us_no (C := usC P S W) rfl h
    rw [h2.1, h2.2.1, h2.2.2]; simp
/-- The orders of a cluster as a function. -/
def ofF (P S W : List Int) (n : Nat) (x : Nat) : Int := (orL P S W n)[x]?.getD 0
theorem ofF_at {P S W : List Int} {n x : Nat} (h : x < n) : ofF P S W n x = oF P S (fun x => W[x]?.getD 0) x := orL_at h
theorem ofF_list (P S W : List Int) (n : Nat) : fnL (ofF P S W n) n = orL P S W n := fnL_self (orL_len _ _ _ _)
theorem fnL_back {W : List Int} {n : Nat} (h : W.length = n) : fnL (fun x => W[x]?.getD 0) n = W := fnL_self h
theorem woL_fn {P S : List Int} {n : Nat} (h : okAll P S n = true) (O : Nat → Int) : woL P S (fnL O n) n = fnL (woF P S O) n := fnL_congr fun x hx => wo_congr h hx fun y hy => fnL_at hy
theorem wo_back {P S W : List Int} {n : Nat} (h : okAll P S n = true) (hw : W.length = n) : woL P S (fnL (ofF P S W n) n) n = W := by
  rw [woL_fn h]
  refine Eq.trans (fnL_congr fun x hx => ?_) (fnL_back hw)
  rw [wo_congr h hx (O' := oF P S (fun x => W[x]?.getD 0)) (fun y hy => ofF_at hy), wo_oF h hx]
theorem of_rng {P S W : List Int} {n : Nat} (h : ClOK P S W n) : ∀ x, x < n → -30000000000000000 ≤ ofF P S W n x ∧ ofF P S W n x ≤ 30000000000000000 := fun x hx => by
  rw [ofF_at hx]; exact oF_rng h.ok h.hi (fun i _ => wtOK_at h.wt) hx
theorem wo_raise {P S W : List Int} {n p : Nat} (h : okAll P S n = true) (hw : W.length = n) (hp : p < n) (st : Nat → Int) (hst : st p = usS P S W n p) : woL P S (fnL (raF (ofF P S W n) st [p]) n) n = usL P S W n p := by
  rw [woL_fn h]
  refine fnL_congr fun x hx => ?_
  have e : raF (ofF P S W n) st [p] = fun x => ofF P S W n x + (if x = p then st p else 0) := by
    funext x
    show updF (ofF P S W n) p (st p) x = _
    unfold updF
    by_cases hxp : x = p
    · rw [if_pos hxp, if_pos hxp]
    · rw [if_neg hxp, if_neg hxp, Int.add_zero]
  rw [e, wo_add, wo_un h hx hp, wo_congr h hx (O' := oF P S (fun x => W[x]?.getD 0)) (fun y hy => ofF_at hy), wo_oF h hx, hst]
theorem qtI_rng {a b : Int} (ha : 0 < a) (hb : 0 < b) : 0 ≤ qtI a b ∧ qtI a b ≤ a := by
  have h1 := Int.ediv_nonneg (a := a + b - 1) (by omega) (Int.le_of_lt hb)
  refine ⟨h1, ?_⟩
  have h2 := Int.mul_le_mul_of_nonneg_left (show (1 : Int) ≤ b by omega) (show 0 ≤ a by omega)
  have h3 : (a + b - 1) / b ≤ (a * b + b - 1) / b := Int.ediv_le_ediv hb (by omega)
  have h4 : (a * b + b - 1) / b = a := by
    rw [show a * b + b - 1 = (b - 1) + b * a by rw [Int.mul_comm a b]; omega, Int.add_mul_ediv_left _ _ (by omega), Int.ediv_eq_zero_of_lt (by omega) (by omega)]; omega
  show (a + b - 1) / b ≤ a
  omega
theorem ec_at_ex {P S W : List Int} {n x : Nat} (hx : x < n) : (ecL P S W n)[x]?.getD 0 = exN P S (fun x => W[x]?.getD 0) n x := ecL_at hx

set_option maxRecDepth 100000 in
set_option maxHeartbeats 4000000 in
theorem implUnloadStep_any (a b c : Value) (P S W : List Int)  (w : World) (h : ReadC w w.heap.size a b c P S W) (hP : P.length ≤ 1048576) (hS : S.length ≤ 1048576) (hW : W.length ≤ 1048576) (hwp : ∀ z ∈ P, (Lit.int .i64 z).wf = true) (hws : ∀ z ∈ S, (Lit.int .i64 z).wf = true) (hww : ∀ z ∈ W, (Lit.int .i64 z).wf = true) :
    Calls Try.prog 41 #[.agg #[a, b, c]] w (AnsCC w (usPA P S W) (usSA P S W) (usWA P S W) (usC P S W)) := by
  obtain ⟨W0, HE⟩ : ∃ V, V = (w.alloc (.cells #[a, b, c] 28)).alloc (.cells #[.slice none 0 0, .slice none 0 0, .slice none 0 0] 28) := ⟨_, rfl⟩
  have hb0 : Below w.heap.size w W0 := by rw [HE]; exact (below_box2 _ _).alloc (by simp) _
  have hx : CBox W0 w.heap.size a b c := by rw [HE]; exact (CBox.new w a b c 28).alloc _
  have hy : CBox W0 (w.heap.size + 1) (.slice none 0 0) (.slice none 0 0) (.slice none 0 0) := by
    have := CBox.new (w.alloc (.cells #[a, b, c] 28)) (.slice none 0 0) (.slice none 0 0) (.slice none 0 0) 28
    rw [World.size_alloc] at this
    rw [HE]; exact this
  have HZ0 : Hid (W0.heap.size = w.heap.size + 2) := Lib.hid (by rw [HE]; simp)
  obtain ⟨A0, k0, rfl⟩ : ∃ A k, a = .slice A P.length k := by obtain ⟨A, k, e, _⟩ := h.1; exact ⟨A, k, e⟩
  obtain ⟨A1, k1, rfl⟩ : ∃ A k, b = .slice A S.length k := by obtain ⟨A, k, e, _⟩ := h.2.1; exact ⟨A, k, e⟩
  obtain ⟨A2, k2, rfl⟩ : ∃ A k, c = .slice A W.length k := by obtain ⟨A, k, e, _⟩ := h.2.2; exact ⟨A, k, e⟩
  have HR := Lib.hid ((h.below hb0).more hb0.size)
  have HB := Lib.hid hb0
  have HEQ := Lib.hid HE
  have HX := Lib.hid hx
  have HY := Lib.hid hy
  have x0 := hx.c0; have x1 := hx.c1; have x2 := hx.c2
  clear h hb0 hx hy HE hwp hws hww
  rcases bool_fs (clB P S W) with hp | hp
  · have HP := Lib.hid hp
    have hk : usC P S W = 1 := by simp [usC, hp]
    have HK := Lib.hid hk; have HN := Lib.hid (us_no hk (by decide)); clear hk
    clear hp
    go_enter Try.func41, Try.ntmps41
    go_wp2_with fail
    rw [← HEQ.out]
    refine (linked_if _ _ _ P S W W0 HR.out hP hS hW false HP.out).mono ?_
    rintro e w1 ⟨g, A, na, ca, D, nd, cd, rfl, hb1, _⟩
    have hY1 := HY.out.below hb1
    have p0 := hY1.c0; have p1 := hY1.c1; have p2 := hY1.c2; have p3 := hY1.f0; have p4 := hY1.f1; have p5 := hY1.f2; have p6 := hY1.lt
    have HY1 := Lib.hid hY1
    have HB1 := Lib.hid (HB.out.trans (hb1.mono HB.out.size))
    have hbs := HB1.out.size
    clear hb1 hY1
    go_wp2_with fail
    have cr := (CBox.set3 (HY1.out) (.slice none 0 0) (.slice none 0 0) (.slice none 0 0)).alloc (.cells #[.slice A na ca, .slice D nd cd] 67)
    have cr0 := cr.c0; have cr1 := cr.c1; have cr2 := cr.c2
    refine bodyPost_ret (v := .tuple #[.agg #[.slice none 0 0, .slice none 0 0, .slice none 0 0], .int .i64 1]) (by simp [results, Try.results41, go_sem, cr0, cr1, cr2]) rfl ?_
    exact AnsCC.noneC (HN.out.1) (HN.out.2.1) (HN.out.2.2) (HK.out.symm) ((Below.set3 (HB1.out) (by omega) _ _ _).alloc (by rw [size_set3]; exact hbs) (.cells #[.slice A na ca, .slice D nd cd] 67))
  · obtain ⟨n, hC⟩ := clB_true hp
    have HPN := Lib.hid hC.p
    have hn : n ≤ 24 := hC.hi
    have hn1 : 1 ≤ n := hC.lo
    have HC := Lib.hid hC
    have HP := Lib.hid hp
    clear hp hC
    go_enter Try.func41, Try.ntmps41
    go_wp2_with fail
    rw [← HEQ.out]
    refine (linked_if _ _ _ P S W W0 HR.out hP hS hW true HP.out).mono ?_
    rintro e w1 ⟨g, A, na, ca, D, nd, cd, rfl, hb1, hyes⟩
    obtain ⟨e1, e2, hg0, hg1, hpt⟩ := hyes rfl
    rw [HPN.out] at e1 hpt
    simp only [Value.slice.injEq] at e1
    obtain ⟨rfl, e1b, e1c⟩ := e1
    replace e1b := e1b.symm
    replace e1c := e1c.symm
    subst e1b
    subst e1c
    have hX1 := HX.out.below hb1; have hY1 := HY.out.below hb1
    have y0 := hX1.c0; have y1 := hX1.c1; have y2 := hX1.c2; have y6 := hX1.lt
    have p0 := hY1.c0; have p1 := hY1.c1; have p2 := hY1.c2; have p3 := hY1.f0; have p4 := hY1.f1; have p5 := hY1.f2; have p6 := hY1.lt
    have HX1 := Lib.hid hX1
    have HY1 := Lib.hid hY1
    have HB1 := Lib.hid (HB.out.trans (hb1.mono HB.out.size))
    have HR1 := Lib.hid ((HR.out.below hb1).more hb1.size)
    have HPT := Lib.hid hpt
    have hz2 := (HB.out.trans (hb1.mono HB.out.size)).size
    have HS1 : Hid (w.heap.size + 2 ≤ w1.heap.size) := Lib.hid (by rw [← HZ0.out]; exact hb1.size)
    simp only [Value.slice.injEq] at e2
    obtain ⟨e2a, e2b, e2c⟩ := e2
    replace e2a := e2a.symm
    replace e2b := e2b.symm
    replace e2c := e2c.symm
    subst e2a
    subst e2b
    subst e2c
    clear hb1 hX1 hY1 hyes hpt x0 x1 x2
    have HRW0 := Lib.hid HR1.out.2.2
    obtain ⟨W1, HE1⟩ : ∃ V, V = w1.alloc (.cells #[.slice (some ⟨g, 0, none⟩) n n, .slice A2 W.length k2] 67) := ⟨_, rfl⟩
    have hb2 : Below w1.heap.size w1 W1 := by rw [HE1]; exact below_box2 _ _
    have z0 : W1.cell? ⟨w1.heap.size, 0, none⟩ = some (.slice (some ⟨g, 0, none⟩) n n) := by rw [HE1]; go_simp
    have z1 : W1.cell? ⟨w1.heap.size, 1, none⟩ = some (.slice A2 W.length k2) := by rw [HE1]; go_simp
    have hzl : w1.heap.size < W1.heap.size := by rw [HE1]; simp
    have hR1 := (HR1.out.below hb2).more hb2.size
    have hX2 := HX1.out.below hb2; have hY2 := HY1.out.below hb2
    have HPT2 : Hid (PtsAt W1 g n n P S) := Lib.hid (rowIs_below HPT.out hg1 hb2)
    have hg2 : g < W1.heap.size := by omega
    have HB2' := Lib.hid (HB1.out.trans (hb2.mono HB1.out.size))
    have HS2 : Hid (w.heap.size + 2 ≤ W1.heap.size) := Lib.hid (by have := HS1.out; omega)
    have HRW : Hid (ReadI W1 W1.heap.size (.slice A2 W.length k2) W) := Lib.hid hR1.2.2
    have HEQ1 := Lib.hid HE1
    clear HE1
    go_wp2_with fail
    rw [← HEQ1.out]
    clear y0 y1 y2 y6 p0 p1 p2 p3 p4 p5 p6 HX1 HY1 HB1 HR1 HS1
    have HX1 := Lib.hid hX2; have HY1 := Lib.hid hY2; have HB1 := HB2'; have HR1 := Lib.hid hR1; have HS1 := HS2
    clear hX2 hY2 hR1 hb2 HEQ1 HEQ
    refine wp_region_held_drew (S := fun w' => w'.cell? ⟨w1.heap.size, 0, none⟩ = some (.slice (some ⟨g, 0, none⟩) n n) ∧ w'.cell? ⟨w1.heap.size, 1, none⟩ = some (.slice A2 W.length k2)) (by kernel_rfl) ⟨z0, z1⟩ (fun hHeld => ?_)
    refine takeY 0 _ (v := ?_) rfl rfl (by kernel_rfl) (by kernel_rfl) (by kernel_rfl) (fun _ _ _ h => h) (by kernel_rfl) ?_ (by assumption) ?_
    rotate_left 1
    · intro w hSw; (try dsimp only at hSw); go_simp; (try with_reducible rfl)
    try simp only [Act.put, List.setIfInBounds_toArray, List.set_cons_zero, List.set_cons_succ]
    refine takeY 1 _ (v := ?_) rfl rfl (by kernel_rfl) (by kernel_rfl) (by kernel_rfl) (fun _ _ _ h => h) (by kernel_rfl) ?_ (by assumption) ?_
    rotate_left 1
    · intro w hSw; (try dsimp only at hSw); go_simp; (try with_reducible rfl)
    try simp only [Act.put, List.setIfInBounds_toArray, List.set_cons_zero, List.set_cons_succ]
    refine takeY 2 _ (v := ?_) rfl rfl (by kernel_rfl) (by kernel_rfl) (by kernel_rfl) (fun _ _ _ h => h) (by kernel_rfl) ?_ (by assumption) ?_
    rotate_left 1
    · intro w hSw; (try dsimp only at hSw); go_simp; (try with_reducible rfl)
    try simp only [Act.put, List.setIfInBounds_toArray, List.set_cons_zero, List.set_cons_succ]
    refine takeY 3 _ (v := ?_) rfl rfl (by kernel_rfl) (by kernel_rfl) (by kernel_rfl) (fun _ _ _ h => h) (by kernel_rfl) ?_ (by assumption) ?_
    rotate_left 1
    · intro w hSw; (try dsimp only at hSw); go_simp; (try with_reducible rfl)
    try simp only [Act.put, List.setIfInBounds_toArray, List.set_cons_zero, List.set_cons_succ]
    refine takeY 4 _ (v := ?_) rfl rfl (by kernel_rfl) (by kernel_rfl) (by kernel_rfl) (fun _ _ _ h => h) (by kernel_rfl) ?_ (by assumption) ?_
    rotate_left 1
    · intro w hSw; (try dsimp only at hSw); go_simp; (try with_reducible rfl)
    try simp only [Act.put, List.setIfInBounds_toArray, List.set_cons_zero, List.set_cons_succ]
    refine wpAnyH_ready (rs := [5]) (by kernel_rfl) (by simp) ?_
    refine AllReadyH.cons rfl (fun K hK => ?_) AllReadyH.nil
    go_simp
    refine (ordersOf_any g n P S W (.slice A2 W.length k2) W1.drew HPT2.out hg2 HC.out HRW.out).mono ?_
    rintro e w2 kk
    obtain ⟨Ao, co, rfl, ho2, hb2d⟩ := kk.len (orL_len _ _ _ _)
    have hb2 := below_un hb2d
    rw [← ofF_list] at ho2
    obtain ⟨bo, rfl, hbo1, hbo2, _⟩ := own_at ho2 (fnL_len _ _) (show 0 < n by omega)
    have HO2 := Lib.hid (own_tightU ho2 hbo2)
    have HB2 := Lib.hid hb2
    have HPT3 : Hid (PtsAt w2 g n n P S) := Lib.hid (rowIs_below HPT2.out hg2 hb2)
    clear ho2 hb2 hb2d kk
    refine hK.out _ _ ⟨(HB2.out.cell (p := ⟨w1.heap.size, 0, none⟩) hzl).trans z0, (HB2.out.cell (p := ⟨w1.heap.size, 1, none⟩) hzl).trans z1⟩ (fun hHeld => ?_)
    clear hK K
    try simp only [Act.put, List.setIfInBounds_toArray, List.set_cons_zero, List.set_cons_succ]
    refine wpAnyH_ready (rs := [6]) (by kernel_rfl) (by simp) ?_
    refine AllReadyH.cons rfl (fun K hK => ?_) AllReadyH.nil
    go_simp
    refine (unloadingFrom_any g n W1.heap.size bo co P S (ofF P S W n) (.slice A2 W.length k2) w2 HPT3.out hg2 hbo1 hbo2 HC.out.toClP HO2.out (fun x hx => by have := of_rng HC.out x hx; omega)).mono ?_
    rintro e w3 ⟨ub, bj, mo, bn, cm, cn, rfl, hus, hb3, hub, hbj⟩
    have HUS := Lib.hid hus
    have HB3 := Lib.hid (HB2.out.trans (hb3.mono HB2.out.size))
    have HLU := Lib.hid (And.intro hub hbj)
    have HBOL := Lib.hid hbo1
    clear hus hb3 hub hbj hbo1
    refine hK.out _ _ ⟨(HB3.out.cell (p := ⟨w1.heap.size, 0, none⟩) hzl).trans z0, (HB3.out.cell (p := ⟨w1.heap.size, 1, none⟩) hzl).trans z1⟩ (fun hHeld => ?_)
    clear hK K
    try simp only [Act.put, List.setIfInBounds_toArray, List.set_cons_zero, List.set_cons_succ]
    refine takeY 7 _ (v := ?_) rfl rfl (by kernel_rfl) (by kernel_rfl) (by kernel_rfl) (fun _ _ _ h => h) (by kernel_rfl) ?_ (by assumption) ?_
    rotate_left 1
    · intro w hSw; (try dsimp only at hSw); go_simp; (try with_reducible rfl)
    try simp only [Act.put, List.setIfInBounds_toArray, List.set_cons_zero, List.set_cons_succ]
    refine wpAnyH_done (by kernel_rfl) ?_ _
    have hus := HUS.out
    obtain ⟨hsta, ⟨A1', c1', A4, c4, l1, h1, l4, h4, hux, ho1, ho4, hl1, hl4⟩, hord, hjoi⟩ := hus
    have HWB := Lib.hid (wo_back (P := P) (S := S) HC.out.ok HC.out.w)
    rw [HWB.out] at ho4
    have u4 := hux.c4
    have HO4 := Lib.hid ho4
    have HSTA := Lib.hid hsta
    clear hsta hux ho1 ho4 hl1 hl4 hord hjoi z0 z1
    go_wp2_with fail
    refine (index_any A4 n c4 (ecL P S W n) w3 HO4.out.reads (ecL_len _ _ _ _) ⟨hn1, hn⟩).mono ?_
    rintro e w' ⟨rfl, rfl⟩
    rcases lsI_cases (fun x => (ecL P S W n)[x]?.getD 0) n with ⟨hl, hall⟩ | ⟨p, hpn, hl, hneg, hfst⟩
    · have hk : usC P S W = 4 := us_none HC.out (by unfold usP; rw [hl]; omega)
      have HK := Lib.hid hk; have HN := Lib.hid (us_no hk (by decide)); clear hk hall u4
      rw [hl]
      have hY3 := HY1.out.below HB3.out
      have p0 := hY3.c0; have p1 := hY3.c1; have p2 := hY3.c2; have p3 := hY3.f0; have p4 := hY3.f1; have p5 := hY3.f2; have p6 := hY3.lt
      have HY3 := Lib.hid hY3
      have HB4 := Lib.hid (HB1.out.trans (HB3.out.mono HB1.out.size))
      have hbs := HB4.out.size
      clear hl hY3
      go_wp2_with fail
      have cr := CBox.set3 (HY3.out) (.slice none 0 0) (.slice none 0 0) (.slice none 0 0)
      have cr0 := cr.c0; have cr1 := cr.c1; have cr2 := cr.c2
      refine bodyPost_ret (v := .tuple #[.agg #[.slice none 0 0, .slice none 0 0, .slice none 0 0], .int .i64 4]) (by simp [results, Try.results41, go_sem, cr0, cr1, cr2]) rfl ?_
      exact AnsCC.noneC (HN.out.1) (HN.out.2.1) (HN.out.2.2) (HK.out.symm) (Below.set3 (HB4.out) (by omega) _ _ _)
    · have HUP : Hid (usP P S W n = (p : Int)) := Lib.hid hl
      rw [hl]
      rw [ec_at_ex hpn] at hneg
      have hex := ex_rng (P := P) (S := S) HC.out.wt hn p
      have hme := me_rng HC.out.ok hpn hn
      have hq := qtI_rng (a := -(exN P S (fun x => W[x]?.getD 0) n p)) (b := -(meE P S n p p)) (by omega) (by omega)
      have hpp : ¬ (p : Int) < 0 := by omega
      obtain ⟨w4, HE4⟩ : ∃ V, V = w3.alloc (.cells #[.int .i64 p] 3) := ⟨_, rfl⟩
      have hb4 : Below w3.heap.size w3 w4 := by rw [HE4]; exact below_box2 _ _
      have hbp : w4.cell? ⟨w3.heap.size, 0, none⟩ = some (.int .i64 p) := by rw [HE4]; go_simp
      have hbl : w3.heap.size < w4.heap.size := by rw [HE4]; simp
      have HUS4 := Lib.hid (HUS.out.below hb4)
      have HB4 := Lib.hid (HB3.out.trans (hb4.mono HB3.out.size))
      have HEQ4 := Lib.hid HE4
      have HRC := Lib.hid (raise1_any W1.heap.size ub bo bj g n mo bn co cm cn w3.heap.size 1 1 P S (ofF P S W n) (fun q => usS P S W n q) (fun _ => false) [p] w4 HUS4.out HC.out.toClP rfl (fun t q hq => by
        cases t with
        | zero => simp at hq; subst hq; exact ⟨hpn, hbp⟩
        | succ t => simp at hq) ⟨by have := HB3.out.size; omega, hbl, by have := HSTA.out.ulo; omega, by have := HSTA.out.olo; omega, by have := HSTA.out.jlo; omega⟩ (fun t x hx => by
        have h8 := of_rng HC.out x hx
        cases t with
        | zero => show _ ≤ ofF P S W n x ∧ ofF P S W n x ≤ _; omega
        | succ t =>
          rw [show [p].take (t + 1) = [p] from by simp]
          show _ ≤ updF (ofF P S W n) p (usS P S W n p) x ∧ updF (ofF P S W n) p (usS P S W n p) x ≤ _
          unfold updF usS
          split <;> omega) (by
        rintro q ⟨t, ht⟩
        have hqp : q = p := by
          cases t with
          | zero => simp at ht; exact ht.symm
          | succ t => simp at ht
        subst hqp
        rw [HWB.out]
        exact ⟨⟨by omega, hneg⟩, hme, rfl⟩) (by omega))
      clear HE4 hl hfst hb4 u4
      go_wp2_with fail
      rw [← HEQ4.out]
      refine HRC.out.mono ?_
      rintro e w5 ⟨rfl, hus5, hu35⟩
      have hb5 : Below W1.heap.size w4 w5 := hu35.below HSTA.out.ulo.1 HSTA.out.olo.1 HSTA.out.jlo.1 (by have := HB4.out.size; omega)
      have HBW5 : Hid (Below W1.heap.size W1 w5) := Lib.hid (HB4.out.trans hb5)
      obtain ⟨hsta5, ⟨A9, c9, A8, c8, l9, h9, l8, h8, hux5, ho9, ho8, hl9, hl8⟩, hord5, hjoi5⟩ := hus5
      rw [wo_raise HC.out.ok HC.out.w hpn _ rfl] at ho9
      have HO9 := Lib.hid ho9
      have HL9 : Hid (w.heap.size + 2 ≤ l9) := Lib.hid (by have := HS1.out; have := hl9.1; omega)
      have HZ5 : Hid (w.heap.size + 2 ≤ w5.heap.size ∧ l9 ≤ w5.heap.size) := Lib.hid (by
        obtain ⟨gg, _, h9a, h9b, _⟩ := own_at ho9 (usL_len _ _ _ _ _) (show 0 < n by omega)
        have h9c := own_size ho9
        have h9d := HBW5.out.size
        have h9e := HS1.out
        omega)
      have v3 := hux5.c1
      have HUL := Lib.hid hux5.lt
      have HNE : Hid (ub ≠ w.heap.size + 1) := Lib.hid (by have := HS1.out; have := HSTA.out.ulo.1; omega)
      have HX5 := Lib.hid (HX1.out.below HBW5.out); have HY5 := Lib.hid (HY1.out.below HBW5.out)
      have HR5 := Lib.hid ((HR1.out.below HBW5.out).more HBW5.out.size)
      have HB5 := Lib.hid (HB1.out.trans (HBW5.out.mono HB1.out.size))
      have v0 := HX5.out.c0; have v1 := HX5.out.c1; have v2 := HX5.out.c2
      clear hu35 hb5 hsta5 hux5 ho9 ho8 hl9 hl8 hord5 hjoi5 hbp hbl hex hme hq hneg
      rcases bool_fs (wtOK (usL P S W n p)) with hbb | hbb
      · have HBB := Lib.hid hbb
        have hk : usC P S W = 3 := by rw [us_mid HC.out HUP.out, hbb]; rfl
        have HK := Lib.hid hk; have HN := Lib.hid (us_no hk (by decide)); clear hk hbb
        go_wp2_with fail
        refine wp_region_held_drew (S := fun w' => w'.cell? ⟨w.heap.size, 0, none⟩ = some (.slice A0 P.length k0) ∧ w'.cell? ⟨w.heap.size, 1, none⟩ = some (.slice A1 S.length k1) ∧ w'.cell? ⟨w.heap.size, 2, none⟩ = some (.slice A2 W.length k2) ∧ w'.cell? ⟨ub, 1, none⟩ = some (.slice A9 n c9)) (by kernel_rfl) ⟨v0, v1, v2, v3⟩ (fun hHeld => ?_)
        refine takeY 0 _ (v := ?_) rfl rfl (by kernel_rfl) (by kernel_rfl) (by kernel_rfl) (fun _ _ _ h => h) (by kernel_rfl) ?_ (by assumption) ?_
        rotate_left 1
        · intro w hSw; (try dsimp only at hSw); go_simp; (try with_reducible rfl)
        try simp only [Act.put, List.setIfInBounds_toArray, List.set_cons_zero, List.set_cons_succ]
        refine takeY 1 _ (v := ?_) rfl rfl (by kernel_rfl) (by kernel_rfl) (by kernel_rfl) (fun _ _ _ h => h) (by kernel_rfl) ?_ (by assumption) ?_
        rotate_left 1
        · intro w hSw; (try dsimp only at hSw); go_simp; (try with_reducible rfl)
        try simp only [Act.put, List.setIfInBounds_toArray, List.set_cons_zero, List.set_cons_succ]
        refine takeY 2 _ (v := ?_) rfl rfl (by kernel_rfl) (by kernel_rfl) (by kernel_rfl) (fun _ _ _ h => h) (by kernel_rfl) ?_ (by assumption) ?_
        rotate_left 1
        · intro w hSw; (try dsimp only at hSw); go_simp; (try with_reducible rfl)
        try simp only [Act.put, List.setIfInBounds_toArray, List.set_cons_zero, List.set_cons_succ]
        refine takeY 3 _ (v := ?_) rfl rfl (by kernel_rfl) (by kernel_rfl) (by kernel_rfl) (fun _ _ _ h => h) (by kernel_rfl) ?_ (by assumption) ?_
        rotate_left 1
        · intro w hSw; (try dsimp only at hSw); go_simp; (try with_reducible rfl)
        try simp only [Act.put, List.setIfInBounds_toArray, List.set_cons_zero, List.set_cons_succ]
        refine takeY 4 _ (v := ?_) rfl rfl (by kernel_rfl) (by kernel_rfl) (by kernel_rfl) (fun _ _ _ h => h) (by kernel_rfl) ?_ (by assumption) ?_
        rotate_left 1
        · intro w hSw; (try dsimp only at hSw); go_simp; (try with_reducible rfl)
        try simp only [Act.put, List.setIfInBounds_toArray, List.set_cons_zero, List.set_cons_succ]
        refine takeY 5 _ (v := ?_) rfl rfl (by kernel_rfl) (by kernel_rfl) (by kernel_rfl) (fun _ _ _ h => h) (by kernel_rfl) ?_ (by assumption) ?_
        rotate_left 1
        · intro w hSw; (try dsimp only at hSw); go_simp; (try with_reducible rfl)
        try simp only [Act.put, List.setIfInBounds_toArray, List.set_cons_zero, List.set_cons_succ]
        refine wpAnyH_ready (rs := [6]) (by kernel_rfl) (by simp) ?_
        refine AllReadyH.cons rfl (fun K hK => ?_) AllReadyH.nil
        go_simp
        refine (withW_any (.slice A0 P.length k0) (.slice A1 S.length k1) (.slice A2 W.length k2) A9 n c9 P S W (usL P S W n p) w5.drew HR5.out HO9.out.reads hP hS (by rw [usL_len]; omega) false HBB.out).mono ?_
        rintro e w6 ⟨-, hnn, hb6d⟩
        obtain rfl := hnn rfl
        have HB6 := Lib.hid (below_un hb6d)
        clear hb6d
        have hX6 := HX5.out.below HB6.out
        have hY6 := HY5.out.below HB6.out
        have q0 := hY6.c0
        have q1 := hY6.c1
        have q2 := hY6.c2
        have q3 := hY6.f0
        have q4 := hY6.f1
        have q5 := hY6.f2
        have q6 := hY6.lt
        have HY6 := Lib.hid hY6
        have m0 := hX6.c0
        have m1 := hX6.c1
        have m2 := hX6.c2
        have m3 := (HB6.out.cell (p := ⟨ub, 1, none⟩) HUL.out).trans v3
        have hne9 : ub ≠ w.heap.size + 1 := HNE.out
        have hne8 : w.heap.size + 1 ≠ ub := fun e => hne9 e.symm
        refine hK.out _ w6 ⟨m0, m1, m2, m3⟩ (fun hHeld => ?_)
        clear hK K hX6 hY6
        try simp only [Act.put, List.setIfInBounds_toArray, List.set_cons_zero, List.set_cons_succ]
        refine takeY 7 _ (v := ?_) rfl rfl (by kernel_rfl) (by kernel_rfl) (by kernel_rfl) (fun _ _ _ h => h) (by kernel_rfl) ?_ (by assumption) ?_
        rotate_left 1
        · intro w hSw; (try dsimp only at hSw); go_simp; (try with_reducible rfl)
        try simp only [Act.put, List.setIfInBounds_toArray, List.set_cons_zero, List.set_cons_succ]
        refine takeY 8 _ (v := ?_) rfl rfl (by kernel_rfl) (by kernel_rfl) (by kernel_rfl) (fun _ _ _ h => h) (by kernel_rfl) ?_ (by assumption) ?_
        rotate_left 1
        · intro w hSw; (try dsimp only at hSw); go_simp; (try with_reducible rfl)
        try simp only [Act.put, List.setIfInBounds_toArray, List.set_cons_zero, List.set_cons_succ]
        refine wpAnyH_ready (rs := [9]) (by kernel_rfl) (by simp) ?_
        refine AllReadyH.cons rfl (fun K hK => ?_) AllReadyH.nil
        go_simp
        refine hK.out _ (((w6.setCell ⟨w.heap.size + 1, 0, none⟩ (.slice none 0 0)).setCell ⟨w.heap.size + 1, 1, none⟩ (.slice none 0 0)).setCell ⟨w.heap.size + 1, 2, none⟩ (.slice none 0 0)) ⟨by go_simp, by go_simp, by go_simp, by go_simp⟩ (fun hHeld => ?_)
        clear hK K
        try simp only [Act.put, List.setIfInBounds_toArray, List.set_cons_zero, List.set_cons_succ]
        refine takeY 10 _ (v := ?_) rfl rfl (by kernel_rfl) (by kernel_rfl) (by kernel_rfl) (fun _ _ _ h => h) (by kernel_rfl) ?_ (by assumption) ?_
        rotate_left 1
        · intro w hSw; (try dsimp only at hSw); go_simp; (try with_reducible rfl)
        try simp only [Act.put, List.setIfInBounds_toArray, List.set_cons_zero, List.set_cons_succ]
        refine wpAnyH_done (by kernel_rfl) ?_ _
        have cr := CBox.set3 HY6.out (.slice none 0 0) (.slice none 0 0) (.slice none 0 0)
        have cr0 := cr.c0; have cr1 := cr.c1; have cr2 := cr.c2
        go_wp2_with fail
        have hs5 := HB5.out.size; have hs6 := HB6.out.size; have hsw := HS1.out; have hz5 := HZ5.out
        refine bodyPost_ret (v := .tuple #[.agg #[.slice none 0 0, .slice none 0 0, .slice none 0 0], .int .i64 3]) (by simp [results, Try.results41, go_sem, cr0, cr1, cr2]) rfl ?_
        exact AnsCC.noneC (HN.out.1) (HN.out.2.1) (HN.out.2.2) (HK.out.symm) (Below.set3 (HB5.out.trans (HB6.out.mono (by omega))) (by omega) _ _ _)
      · have HBB := Lib.hid hbb
        have HY4 := Lib.hid (us_yes HC.out HUP.out hbb)
        clear hbb
        go_wp2_with fail
        refine wp_region_held_drew (S := fun w' => w'.cell? ⟨w.heap.size, 0, none⟩ = some (.slice A0 P.length k0) ∧ w'.cell? ⟨w.heap.size, 1, none⟩ = some (.slice A1 S.length k1) ∧ w'.cell? ⟨w.heap.size, 2, none⟩ = some (.slice A2 W.length k2) ∧ w'.cell? ⟨ub, 1, none⟩ = some (.slice A9 n c9)) (by kernel_rfl) ⟨v0, v1, v2, v3⟩ (fun hHeld => ?_)
        refine takeY 0 _ (v := ?_) rfl rfl (by kernel_rfl) (by kernel_rfl) (by kernel_rfl) (fun _ _ _ h => h) (by kernel_rfl) ?_ (by assumption) ?_
        rotate_left 1
        · intro w hSw; (try dsimp only at hSw); go_simp; (try with_reducible rfl)
        try simp only [Act.put, List.setIfInBounds_toArray, List.set_cons_zero, List.set_cons_succ]
        refine takeY 1 _ (v := ?_) rfl rfl (by kernel_rfl) (by kernel_rfl) (by kernel_rfl) (fun _ _ _ h => h) (by kernel_rfl) ?_ (by assumption) ?_
        rotate_left 1
        · intro w hSw; (try dsimp only at hSw); go_simp; (try with_reducible rfl)
        try simp only [Act.put, List.setIfInBounds_toArray, List.set_cons_zero, List.set_cons_succ]
        refine takeY 2 _ (v := ?_) rfl rfl (by kernel_rfl) (by kernel_rfl) (by kernel_rfl) (fun _ _ _ h => h) (by kernel_rfl) ?_ (by assumption) ?_
        rotate_left 1
        · intro w hSw; (try dsimp only at hSw); go_simp; (try with_reducible rfl)
        try simp only [Act.put, List.setIfInBounds_toArray, List.set_cons_zero, List.set_cons_succ]
        refine takeY 3 _ (v := ?_) rfl rfl (by kernel_rfl) (by kernel_rfl) (by kernel_rfl) (fun _ _ _ h => h) (by kernel_rfl) ?_ (by assumption) ?_
        rotate_left 1
        · intro w hSw; (try dsimp only at hSw); go_simp; (try with_reducible rfl)
        try simp only [Act.put, List.setIfInBounds_toArray, List.set_cons_zero, List.set_cons_succ]
        refine takeY 4 _ (v := ?_) rfl rfl (by kernel_rfl) (by kernel_rfl) (by kernel_rfl) (fun _ _ _ h => h) (by kernel_rfl) ?_ (by assumption) ?_
        rotate_left 1
        · intro w hSw; (try dsimp only at hSw); go_simp; (try with_reducible rfl)
        try simp only [Act.put, List.setIfInBounds_toArray, List.set_cons_zero, List.set_cons_succ]
        refine takeY 5 _ (v := ?_) rfl rfl (by kernel_rfl) (by kernel_rfl) (by kernel_rfl) (fun _ _ _ h => h) (by kernel_rfl) ?_ (by assumption) ?_
        rotate_left 1
        · intro w hSw; (try dsimp only at hSw); go_simp; (try with_reducible rfl)
        try simp only [Act.put, List.setIfInBounds_toArray, List.set_cons_zero, List.set_cons_succ]
        refine wpAnyH_ready (rs := [6]) (by kernel_rfl) (by simp) ?_
        refine AllReadyH.cons rfl (fun K hK => ?_) AllReadyH.nil
        go_simp
        refine (withW_any (.slice A0 P.length k0) (.slice A1 S.length k1) (.slice A2 W.length k2) A9 n c9 P S W (usL P S W n p) w5.drew HR5.out HO9.out.reads hP hS (by rw [usL_len]; omega) true HBB.out).mono ?_
        rintro e w6 ⟨hyy, -, hb6d⟩
        obtain ⟨a', b', rfl, m, hm1, hm2, oa, ob⟩ := hyy rfl
        obtain ⟨A5, c5, rfl⟩ := own_form oa.1
        obtain ⟨A6, c6, rfl⟩ := own_form ob.1
        have OA := Lib.hid oa
        have OB := Lib.hid ob
        have HM := Lib.hid (And.intro hm1 hm2)
        clear oa ob hm1 hm2 hyy
        have HB6 := Lib.hid (below_un hb6d)
        clear hb6d
        have hX6 := HX5.out.below HB6.out
        have hY6 := HY5.out.below HB6.out
        have q0 := hY6.c0
        have q1 := hY6.c1
        have q2 := hY6.c2
        have q3 := hY6.f0
        have q4 := hY6.f1
        have q5 := hY6.f2
        have q6 := hY6.lt
        have HY6 := Lib.hid hY6
        have m0 := hX6.c0
        have m1 := hX6.c1
        have m2 := hX6.c2
        have m3 := (HB6.out.cell (p := ⟨ub, 1, none⟩) HUL.out).trans v3
        have hne9 : ub ≠ w.heap.size + 1 := HNE.out
        have hne8 : w.heap.size + 1 ≠ ub := fun e => hne9 e.symm
        refine hK.out _ w6 ⟨m0, m1, m2, m3⟩ (fun hHeld => ?_)
        clear hK K hX6 hY6
        try simp only [Act.put, List.setIfInBounds_toArray, List.set_cons_zero, List.set_cons_succ]
        refine takeY 7 _ (v := ?_) rfl rfl (by kernel_rfl) (by kernel_rfl) (by kernel_rfl) (fun _ _ _ h => h) (by kernel_rfl) ?_ (by assumption) ?_
        rotate_left 1
        · intro w hSw; (try dsimp only at hSw); go_simp; (try with_reducible rfl)
        try simp only [Act.put, List.setIfInBounds_toArray, List.set_cons_zero, List.set_cons_succ]
        refine takeY 8 _ (v := ?_) rfl rfl (by kernel_rfl) (by kernel_rfl) (by kernel_rfl) (fun _ _ _ h => h) (by kernel_rfl) ?_ (by assumption) ?_
        rotate_left 1
        · intro w hSw; (try dsimp only at hSw); go_simp; (try with_reducible rfl)
        try simp only [Act.put, List.setIfInBounds_toArray, List.set_cons_zero, List.set_cons_succ]
        refine wpAnyH_ready (rs := [9]) (by kernel_rfl) (by simp) ?_
        refine AllReadyH.cons rfl (fun K hK => ?_) AllReadyH.nil
        go_simp
        refine hK.out _ (((w6.setCell ⟨w.heap.size + 1, 0, none⟩ (.slice A5 P.length c5)).setCell ⟨w.heap.size + 1, 1, none⟩ (.slice A6 S.length c6)).setCell ⟨w.heap.size + 1, 2, none⟩ (.slice A9 n c9)) ⟨by go_simp, by go_simp, by go_simp, by go_simp⟩ (fun hHeld => ?_)
        clear hK K
        try simp only [Act.put, List.setIfInBounds_toArray, List.set_cons_zero, List.set_cons_succ]
        refine takeY 10 _ (v := ?_) rfl rfl (by kernel_rfl) (by kernel_rfl) (by kernel_rfl) (fun _ _ _ h => h) (by kernel_rfl) ?_ (by assumption) ?_
        rotate_left 1
        · intro w hSw; (try dsimp only at hSw); go_simp; (try with_reducible rfl)
        try simp only [Act.put, List.setIfInBounds_toArray, List.set_cons_zero, List.set_cons_succ]
        refine wpAnyH_done (by kernel_rfl) ?_ _
        have cr := CBox.set3 HY6.out (.slice A5 P.length c5) (.slice A6 S.length c6) (.slice A9 n c9)
        have cr0 := cr.c0; have cr1 := cr.c1; have cr2 := cr.c2
        go_wp2_with fail
        have hs5 := HB5.out.size; have hs6 := HB6.out.size; have hsw := HS1.out; have hz5 := HZ5.out
        refine bodyPost_ret (v := .tuple #[.agg #[.slice A5 P.length c5, .slice A6 S.length c6, .slice A9 n c9], .int .i64 0]) (by simp [results, Try.results41, go_sem, cr0, cr1, cr2]) rfl ?_
        exact AnsCC.someC (l := l9) (k := w5.heap.size) (m := m) HY4.out.2.1.symm HY4.out.2.2.1.symm HY4.out.2.2.2.symm HY4.out.1.symm (by have := HL9.out; omega) (by omega) HM.out.1 (by rw [size_set3]; exact HM.out.2) (OwnI.newC3 OA.out (by show _ < w5.heap.size; omega) _ _ _) (by rw [size_set3]; exact OwnI.newC3 OB.out (by have h9 : w5.heap.size ≤ m := HM.out.1; omega) _ _ _) (OwnI.newC3 ((HO9.out.raise (own_size HO9.out) (Nat.le_refl _)).stay HB6.out) (by have := HL9.out; omega) _ _ _) (Below.set3 (HB5.out.trans (HB6.out.mono (by omega))) (by omega) _ _ _)

end Go.Proofs.Ytjobfjgphcaoeaa
