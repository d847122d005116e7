/- The meetings of a curve's branches; is it a curve, the program's. Conditions: stated at each theorem. -/
import Derived.Test.YtohbgfmjnanlkaaCuO
namespace Go.Proofs.Ytohbgfmjnanlkaa
open Go.ChangeShapes Go.WideShapes Go.ChangeAt Go.RowKit Go.Deep
set_option linter.unusedVariables false
set_option linter.unusedSimpArgs false

/-- The greatest number of common points of a branch. -/
noncomputable def mxI (M : List (List Int)) (r i : Nat) : Int := Classical.epsilon fun x => (∃ j, j < r ∧ x = mt M i j) ∧ ∀ j, j < r → mt M i j ≤ x
theorem mx_eq {M : List (List Int)} {r i : Nat} {x : Int} (h : (∃ j, j < r ∧ x = mt M i j) ∧ ∀ j, j < r → mt M i j ≤ x) : mxI M r i = x := by
  have h2 := Classical.epsilon_spec (p := fun x => (∃ j, j < r ∧ x = mt M i j) ∧ ∀ j, j < r → mt M i j ≤ x) ⟨x, h⟩
  obtain ⟨⟨j, hj, e⟩, h3⟩ := h2
  obtain ⟨⟨k, hk, e2⟩, h4⟩ := h
  have h5 := h3 k hk; have h6 := h4 j hj
  show mxI M r i = x
  unfold mxI
  omega
noncomputable def mxN (M : List (List Int)) (r i : Nat) : Nat := (mxI M r i).toNat + 1
/-- The first i points are made, in memory behind their list. -/
def FPs (w : World) (pg : Nat) (Z : List (List Int)) (N : Nat → Nat) (uf : Nat → Value) (i : Nat) : Prop := ∀ j, j < i → ∃ A c A' c' l h l' h', uf (j * 2) = .slice A (N j) c ∧ uf (j * 2 + 1) = .slice A' (N j - 1) c' ∧ pg < l ∧ pg < l' ∧ OwnI w l h (.slice A (N j) c) (mqL (bt Z j) (N j)) ∧ OwnI w l' h' (.slice A' (N j - 1) c') (cdL (mqL (bt Z j) (N j)) (N j))
theorem FPs.stay {w w' : World} {pg i : Nat} {Z : List (List Int)} {N : Nat → Nat} {uf : Nat → Value} (h : FPs w pg Z N uf i) (hb : Below w.heap.size w w') : FPs w' pg Z N uf i := fun j hj => by
  obtain ⟨A, c, A', c', l, hh, l', hh', e1, e2, hl1, hl2, ho1, ho2⟩ := h j hj
  exact ⟨A, c, A', c', l, hh, l', hh', e1, e2, hl1, hl2, ho1.stayU hb, ho2.stayU hb⟩
theorem mx_rng {M : List (List Int)} {r i : Nat} (h : CuCom M r) (hi : i < r) : mxN M r i ≤ 201 ∧ ∀ k, k < r → mt M i k + 1 ≤ (mxN M r i : Int) := by
  obtain ⟨x, hx⟩ : ∃ x, (∃ j, j < r ∧ x = mt M i j) ∧ ∀ j, j < r → mt M i j ≤ x := by
    have : ∀ n, 1 ≤ n → n ≤ r → ∃ x, (∃ j, j < r ∧ x = mt M i j) ∧ ∀ j, j < n → mt M i j ≤ x := by
      intro n
      induction n with
      | zero => intro h; omega
      | succ n ih =>
        intro _ hn
        by_cases h0 : n = 0
        · subst h0; exact ⟨mt M i 0, ⟨0, by omega, rfl⟩, fun j hj => by obtain rfl : j = 0 := (by omega); exact Int.le_refl _⟩
        · obtain ⟨x, ⟨j, hj, e⟩, h2⟩ := ih (by omega) (by omega)
          by_cases h3 : mt M i n ≤ x
          · exact ⟨x, ⟨j, hj, e⟩, fun k hk => by
              by_cases e2 : k = n
              · subst e2; exact h3
              · exact h2 k (by omega)⟩
          · exact ⟨mt M i n, ⟨n, by omega, rfl⟩, fun k hk => by
              by_cases e2 : k = n
              · subst e2; exact Int.le_refl _
              · have := h2 k (by omega); omega⟩
    exact this r (by omega) (Nat.le_refl _)
  have h2 := mx_eq hx
  obtain ⟨⟨j, hj, e⟩, h3⟩ := hx
  have h4 := mt_nn h hi hj
  unfold mxN
  rw [h2]
  exact ⟨by omega, fun k hk => by have := h3 k hk; omega⟩
theorem MtT.setU {w : World} {B T : Nat} {A : Option Addr} {P Q : Nat → Int} {p : Addr} (h : MtT w B A T P Q) (hA : ∀ x, A = some x → x.block ≠ p.block) (u : Value) : MtT (w.setCell p u) B A T P Q := fun t ht => by
  obtain ⟨g, e, hg, h1, h2⟩ := h t ht
  have hne : (w.setCell p u).heap[g]? = w.heap[g]? := Below.heap_setCell _ _ _ _ (by have := hA _ e; simpa using this)
  exact ⟨g, e, hg, by rw [World.cell?_of_block (a := ⟨g, t * 2, none⟩) hne]; exact h1, by rw [World.cell?_of_block (a := ⟨g, t * 2 + 1, none⟩) hne]; exact h2⟩
open Classical in
noncomputable def cellsBad (Z M : List (List Int)) (r : Nat) : Bool := decide (∃ t, t < tO r r ∧ cP Z M r t = 0 ∧ cN Z M r t = 0)
theorem cellsBad_true {Z M : List (List Int)} {r : Nat} : cellsBad Z M r = true ↔ ∃ t, t < tO r r ∧ cP Z M r t = 0 ∧ cN Z M r t = 0 := by unfold cellsBad; simp
theorem cells_good {Z M : List (List Int)} {r : Nat} (h : CuOK Z M) (hr : Z.length = r) : cellsBad Z M r = false := by
  unfold cellsBad
  rw [decide_eq_false_iff_not]
  rintro ⟨t, ht, h1, h2⟩
  have h6 : r ≤ 6 := by rw [← hr]; exact h.parts.hi
  rw [tO_end h6] at ht
  obtain ⟨a1, a2, a3⟩ := tI_ok h6 ht
  have hp := h.pair _ _ a1 (by rw [hr]; exact a2)
  have hc := h.com
  rw [hr] at hc
  have ho := hc.off _ _ (show (tI r t).1 < r by omega) a2 (by omega)
  unfold cP tP at h1
  rw [mP_yes hp] at h1
  omega
theorem cells_pairs {Z M : List (List Int)} {r : Nat} (h6 : r ≤ 6) (hc : CuCom M r) (h : cellsBad Z M r = false) : ∀ i k, i < k → k < r → CuPair (bt Z i) (bt Z k) (mt M i k).toNat := fun i k h1 h2 => by
  apply Classical.byContradiction
  intro hn
  have : cellsBad Z M r = true := cellsBad_true.2 ⟨tX r i k, by rw [tO_end h6]; exact tX_lt h6 h1 h2, by rw [cP_at h6 h1 h2]; exact mP_no hn, by rw [cN_at h6 h1 h2]; exact mN_no hn⟩
  rw [h] at this; cases this
theorem getD_mt (M : List (List Int)) (i j : Nat) : (M.getD i [])[j]?.getD 0 = mt M i j := by unfold mt; rw [List.getD_eq_getElem?_getD (l := M.getD i [])]
theorem fp_info : (Try.prog.info? 151).map (fun i => (i.zero, i.size, i.bytes)) = some (some (.agg #[.slice none 0 0, .slice none 0 0]), 2, 48) := by kernel_rfl
theorem run_make_fps (n : Nat) (hn : n ≤ 24) (w : World) :
    (Instr.makeSlice 149 (.int .i64 (n : Int)) (.int .i64 (n : Int))).run Try.prog w = .ok (.slice (some ⟨w.heap.size, 0, none⟩) n n) (w.alloc (.cells (madeCells #[.slice none 0 0, .slice none 0 0] (n * 2)) 151)) := by
  obtain ⟨i, hi, hz, hs, hb⟩ := info_parts fp_info
  have h := run_make (P := Try.prog) w 149 151 i _ Try.underlying149 hi hz .i64 .i64 (n : Int) (n : Int) (by omega) (by omega) (by rw [hb]; omega) (by omega)
  rw [hs, show (Value.agg #[.slice none 0 0, .slice none 0 0]).cells = #[.slice none 0 0, .slice none 0 0] from rfl] at h
  simpa using h
set_option maxRecDepth 100000 in
set_option maxHeartbeats 1600000 in
theorem firstPointsO_any (v : Value) (zs : List Int) (m : Nat) (w : World) (h : ReadI w w.heap.size v zs) (hn : zs.length ≤ 1048576) (hw : ∀ z ∈ zs, (Lit.int .i64 z).wf = true) (hp : brB zs = true) (hm1 : 1 ≤ m) (hm : m ≤ 400) :
    Calls Try.prog 150 #[.agg #[v], .int .i64 m] w fun e w' => ∃ A c A' c', e = .returned (.agg #[.slice A m c, .slice A' (m - 1) c']) ∧ (∃ l h, w.heap.size ≤ l ∧ OwnI w' l h (.slice A m c) (mqL zs m)) ∧ (∃ l h, w.heap.size ≤ l ∧ OwnI w' l h (.slice A' (m - 1) c') (cdL (mqL zs m) m)) ∧ Below w.heap.size w w' := by
  obtain ⟨A0, n0, c0, e0⟩ : ∃ A n c, v = .slice A n c := by obtain ⟨A, c, rfl, _⟩ := h; exact ⟨A, _, c, rfl⟩
  subst e0
  obtain ⟨W0, HE⟩ : ∃ V, V = (w.alloc (.cells #[.slice A0 n0 c0] 28)).alloc (.cells #[.slice none 0 0, .slice none 0 0] 151) := ⟨_, rfl⟩
  have hb0 : Below w.heap.size w W0 := by rw [HE]; exact (below_box2 _ _).alloc (by simp) _
  have hx : BoxI W0 w.heap.size (.slice A0 n0 c0) := by rw [HE]; exact (BoxI.new w _ _).kept ⟨by simp, fun b h1 h2 => Below.heap_alloc _ _ _ (by simp; omega)⟩
  have hy : UBox W0 (w.heap.size + 1) (.slice none 0 0) (.slice none 0 0) := by
    have := UBox.new (w.alloc (.cells #[.slice A0 n0 c0] 28)) (.slice none 0 0) (.slice none 0 0) 151
    rw [HE]; simpa using this
  have HR := Lib.hid ((h.below hb0).more hb0.size)
  have HEQ := Lib.hid HE; have B := Lib.hid hb0; have HY := Lib.hid hy
  have HW := Lib.hid hw; have HP := Lib.hid hp
  have x0 := hx.1; have x4 := hx.2
  have y0 := hy.c0; have y1 := hy.c1; have y2 := hy.f0; have y3 := hy.f1; have y4 := hy.lt
  clear h hb0 hx hy HE hw
  go_enter Try.func150, Try.ntmps150
  go_wp2_with fail
  rw [← HEQ.out]
  refine (implMultiplicitiesAt_yes _ zs m W0 HR.out hn HW.out (i64_wf (by omega) (by omega)) (pt_yes hp ⟨by omega, by omega⟩)).mono ?_
  rintro e w1 ⟨A1, c1, rfl, ho1, hb1⟩
  clear x0 x4 y0 y1 y2 y3 y4
  replace HY := Lib.hid (HY.out.stay hb1); replace B := Lib.hid (B.out.trans (hb1.mono B.out.size))
  have HM := Lib.hid (mq_ok hp m)
  have HO1 := Lib.hid ho1
  have hs0 : w.heap.size + 2 = W0.heap.size := by rw [HEQ.out]; simp
  have hs1 := hb1.size
  clear ho1 hb1 hp
  go_wp2_with fail
  refine (proximatesAt_any _ (mqL zs m) m w1 HO1.out.reads HM.out hm).mono ?_
  rintro e w2 ⟨A2, c2, rfl, ho2, hb2⟩
  replace HY := Lib.hid (HY.out.stay hb2); replace B := Lib.hid (B.out.trans (hb2.mono B.out.size)); replace HO1 := Lib.hid (HO1.out.stayU hb2); have hs2 := hb2.size
  have HO2 := Lib.hid ho2.reads
  clear ho2 hb2
  go_wp2_with fail
  refine (codeAt_any _ (mqL zs m) m w2 HO2.out HM.out hm1 hm).mono ?_
  rintro e w3 ⟨A3, c3, rfl, ho3, hb3⟩
  replace HY := Lib.hid (HY.out.stay hb3); replace B := Lib.hid (B.out.trans (hb3.mono B.out.size)); replace HO1 := Lib.hid (HO1.out.stayU hb3); have hs3 := hb3.size
  have HO3 := Lib.hid ho3
  clear ho3 hb3
  have y0 := HY.out.c0; have y1 := HY.out.c1; have y2 := HY.out.f0; have y3 := HY.out.f1; have y4 := HY.out.lt
  have cr := (HY.out.set0 (.slice A1 m c1)).set1 (.slice A3 (m - 1) c3)
  have cr0 := cr.c0; have cr1 := cr.c1
  go_wp2_with fail
  have kq : ∀ lo hi, w.heap.size + 1 < lo → Kept lo hi w3 ((w3.setCell ⟨w.heap.size + 1, 0, none⟩ (.slice A1 m c1)).setCell ⟨w.heap.size + 1, 1, none⟩ (.slice A3 (m - 1) c3)) := fun lo hi h =>
    (kept_set w3 (p := ⟨w.heap.size + 1, 0, none⟩) (Or.inl (by show w.heap.size + 1 < _; omega)) _).trans (kept_set _ (p := ⟨w.heap.size + 1, 1, none⟩) (Or.inl (by show w.heap.size + 1 < _; omega)) _)
  refine bodyPost_ret (v := .agg #[.slice A1 m c1, .slice A3 (m - 1) c3]) (by simp [results, Try.results150, go_sem, cr0, cr1]) rfl ⟨_, _, _, _, rfl, ⟨_, _, by omega, HO1.out.kept (kq _ _ (by omega))⟩, ⟨_, _, by omega, HO3.out.kept (kq _ _ (by omega))⟩, ?_⟩
  exact (B.out.setCell (p := ⟨w.heap.size + 1, 0, none⟩) (by show w.heap.size ≤ w.heap.size + 1; omega) _).setCell (p := ⟨w.heap.size + 1, 1, none⟩) (by show w.heap.size ≤ w.heap.size + 1; omega) _

set_option maxRecDepth 100000 in
set_option maxHeartbeats 1600000 in
theorem meetings_any (a b : Value) (Z M : List (List Int)) (r : Nat) (w : World) (h : ReadU w w.heap.size a b Z M) (hi : CuIn Z M) (hr : Z.length = r) :
    Calls Try.prog 94 #[.agg #[a, b]] w fun e w' => ((cuB Z M = false ∧ e = .returned (.tuple #[.agg #[.int .i64 0, .slice none 0 0], .bool false])) ∨ (cuB Z M = true ∧ ∃ A c, e = .returned (.tuple #[.agg #[.int .i64 r, .slice A (tO r r) c], .bool true]) ∧ MtT w' w'.heap.size A (tO r r) (cP Z M r) (cN Z M r))) ∧ Below w.heap.size w w' := by
  obtain ⟨W0, HE⟩ : ∃ V, V = (w.alloc (.cells #[a, b] 56)).alloc (.cells #[.int .i64 0, .slice none 0 0] 107) := ⟨_, rfl⟩
  have hb0 : Below w.heap.size w W0 := by rw [HE]; exact (below_box2 _ _).alloc (by simp) _
  have hx : UBox W0 w.heap.size a b := by rw [HE]; exact (UBox.new w a b _).alloc _
  have hz : UBox W0 (w.heap.size + 1) (.int .i64 0) (.slice none 0 0) := by
    have := UBox.new (w.alloc (.cells #[a, b] 56)) (.int .i64 0) (.slice none 0 0) 107
    rw [HE]; simpa using this
  have HEQ := Lib.hid HE; have B := Lib.hid hb0; have HX := Lib.hid hx; have HZB := Lib.hid hz; have HI := Lib.hid hi; have H := Lib.hid h
  have HU := Lib.hid ((h.below hb0).more hb0.size)
  have x0 := hx.c0; have x1 := hx.c1; have x4 := hx.lt; have z0 := hz.c0; have z1 := hz.c1; have z2 := hz.f0; have z3 := hz.f1; have z4 := hz.lt
  have HR := Lib.hid hr
  clear hx hz HE hb0 hi h hr
  obtain ⟨bp, hbp⟩ : ∃ q, prtB Z M = q := ⟨_, rfl⟩
  have HBP := Lib.hid hbp
  go_enter Try.func94, Try.ntmps94
  go_wp2_with fail
  rw [← HEQ.out]
  refine (hasParts_any a b Z M W0 HU.out HI.out).mono ?_
  rintro e w1 ⟨rfl, hb1⟩
  rw [hbp]
  clear hbp x0 x1 x4 z0 z1 z2 z3 z4
  replace HX := Lib.hid (HX.out.stay hb1); replace HZB := Lib.hid (HZB.out.stay hb1); replace B := Lib.hid (B.out.trans (hb1.mono B.out.size))
  have HS1 : Hid (w.heap.size + 2 ≤ w1.heap.size) := Lib.hid (by have := HZB.out.lt; omega)
  have x0 := HX.out.c0; have x1 := HX.out.c1; have x4 := HX.out.lt; have z0 := HZB.out.c0; have z1 := HZB.out.c1; have z2 := HZB.out.f0; have z3 := HZB.out.f1; have z4 := HZB.out.lt
  clear hb1
  cases bp with
  | false =>
    have HNO : Hid (cuB Z M = false) := Lib.hid (cuB_false (fun hc => by have : prtB Z M = true := prtB_true.2 ⟨hc.parts, hc.com⟩; rw [HBP.out] at this; cases this))
    have cr := (HZB.out.set0 (.int .i64 0)).set1 (.slice none 0 0)
    have cr0 := cr.c0; have cr1 := cr.c1
    go_wp2_with fail
    refine bodyPost_ret (v := .tuple #[.agg #[.int .i64 0, .slice none 0 0], .bool false]) (by simp [results, Try.results94, go_sem, cr0, cr1]) rfl ⟨Or.inl ⟨HNO.out, rfl⟩, ?_⟩
    exact (B.out.setCell (p := ⟨w.heap.size + 1, 0, none⟩) (by show w.heap.size ≤ w.heap.size + 1; omega) _).setCell (p := ⟨w.heap.size + 1, 1, none⟩) (by show w.heap.size ≤ w.heap.size + 1; omega) _
  | true =>
    have HPC := Lib.hid (prtB_true.1 HBP.out)
    have hlo : 1 ≤ r := by rw [← HR.out]; exact HPC.out.1.lo
    have hhi : r ≤ 6 := by rw [← HR.out]; exact HPC.out.1.hi
    obtain ⟨⟨A0, c0, ea, _⟩, ⟨A1, c1, eb, _⟩⟩ := id H.out
    have hml : M.length = r := by rw [HPC.out.1.ml, HR.out]
    rw [HR.out] at ea; rw [hml] at eb
    subst ea; subst eb
    obtain ⟨g0, o0, rfl, hg0, hzr⟩ := rows_cellsU H.out.1 HR.out hlo
    obtain ⟨g1, o1, rfl, hg1, hmr⟩ := rows_cellsU H.out.2 hml hlo
    have HZ := Lib.hid hzr; have HM := Lib.hid hmr
    have hmk := fun (W : World) => run_make_fps r (by omega) W
    obtain ⟨W2, HE2⟩ : ∃ V, V = (w1.alloc (.cells (madeCells #[.slice none 0 0, .slice none 0 0] (r * 2)) 151)).alloc (.cells #[.slice (some ⟨w1.heap.size, 0, none⟩) r r] 149) := ⟨_, rfl⟩
    have hb2 : Below w1.heap.size w1 W2 := by rw [HE2]; exact (below_box2 _ _).alloc (by simp) _
    have hpb : BoxI W2 (w1.heap.size + 1) (.slice (some ⟨w1.heap.size, 0, none⟩) r r) := by
      have := BoxI.new (w1.alloc (.cells (madeCells #[.slice none 0 0, .slice none 0 0] (r * 2)) 151)) (.slice (some ⟨w1.heap.size, 0, none⟩) r r) 149
      rw [HE2]; simpa using this
    have hrow2 : W2.rowIs w1.heap.size 151 (r * 2) (fun x => .slice none 0 0) := by
      rw [HE2]
      refine World.rowIs.of_block ?_ (heap_alloc_old _ _ (by simp))
      refine ⟨_, heap_alloc_new w1 _, size_madeCells _ _, fun i hi => ?_⟩
      have h : i % 2 = 0 ∨ i % 2 = 1 := by omega
      rcases h with h | h <;> simp [madeCells, hi, h]
    have HX2 := Lib.hid (HX.out.stay hb2); have HZ2 := Lib.hid (HZB.out.stay hb2); have B2 := Lib.hid (B.out.trans (hb2.mono B.out.size))
    have HPB := Lib.hid hpb; have HROW2 := Lib.hid hrow2; have HEQ2 := Lib.hid HE2
    have hsz2 : W2.heap.size = w1.heap.size + 2 := by rw [HE2]; simp
    have HSZ2 := Lib.hid hsz2
    clear hzr hmr hb2 hpb hrow2 HE2 hsz2
    go_wp2_with fail
    rw [← HEQ2.out]
    clear x0 x1 x4 z0 z1 z2 z3 z4 hmk
    go_loopw [19] (fun vi wr => ∃ (i : Nat) (uf : Nat → Value), i ≤ r ∧ vi = .int .i64 i ∧ Hid (wr.rowIs w1.heap.size 151 (r * 2) (fun x => if x < i * 2 then uf x else .slice none 0 0)) ∧ Hid (FPs wr w1.heap.size Z (mxN M r) uf i) ∧ Hid (UBox wr w.heap.size (.slice (some ⟨g0, o0, none⟩) r c0) (.slice (some ⟨g1, o1, none⟩) r c1)) ∧ Hid (UBox wr (w.heap.size + 1) (.int .i64 0) (.slice none 0 0)) ∧ Hid (BoxI wr (w1.heap.size + 1) (.slice (some ⟨w1.heap.size, 0, none⟩) r r)) ∧ Hid (Below w.heap.size w wr)) (fun vi _ => r - (intOf vi).toNat)
    case atStart => exact ⟨0, fun _ => undef, by omega, rfl, Lib.hid (HROW2.out.congr (fun x hx => by simp)), Lib.hid (fun j hj => by omega), HX2, HZ2, HPB, B2⟩
    case round =>
      obtain ⟨i, uf, hi, rfl, hrow, hfp, hX, hZ, hP, hB⟩ := hrel
      by_cases hir : i < r
      · have hir2 : (i : Int) < (r : Int) := by omega
        obtain ⟨u, hcu, hru⟩ := HZ.out i hir
        obtain ⟨A3, n3, c3, e3⟩ : ∃ A3 n3 c3, u = .slice A3 n3 c3 := by obtain ⟨A3, c3, rfl, _⟩ := hru; exact ⟨A3, _, c3, rfl⟩
        subst e3
        obtain ⟨um, hcm, hrm⟩ := HM.out i hir
        have hrowl : (M.getD i []).length = r := by rw [HPC.out.1.row i (by rw [HR.out]; exact hir), HR.out]
        obtain ⟨gi, oi, ci, rfl, hgi, hkm⟩ := row_cellsU hrm hrowl hlo
        have x0 := hX.out.c0; have x1 := hX.out.c1; have x4 := hX.out.lt
        have d0 : wr.cell? ⟨g0, o0 + i, none⟩ = some (.slice A3 n3 c3) := by rw [hB.out.cell (p := ⟨g0, o0 + i, none⟩) hg0]; exact hcu
        obtain ⟨W1, HE1⟩ : ∃ V, V = wr.alloc (.cells #[.slice A3 n3 c3] 28) := ⟨_, rfl⟩
        have hb1 : Below wr.heap.size wr W1 := by rw [HE1]; exact below_box2 _ _
        have hbx : BoxI W1 wr.heap.size (.slice A3 n3 c3) := by rw [HE1]; exact BoxI.new _ _ _
        have hB1 := hB.out.trans (hb1.mono hB.out.size)
        have hsw := hP.out.2
        have s0 := (hP.out.kept (Kept.of_below hb1 hP.out.2)).1
        have s1 := hbx.1
        have s2 := (hX.out.stay hb1).c1
        have s3 : W1.cell? ⟨g1, o1 + i, none⟩ = some (.slice (some ⟨gi, oi, none⟩) r ci) := by rw [hB1.cell (p := ⟨g1, o1 + i, none⟩) hg1]; exact hcm
        have HRI := Lib.hid (hrm.below hB1)
        have HRB := Lib.hid ((hru.below hB1).more hB1.size)
        have HLI : Hid (0 < (M.getD i []).length ∧ (M.getD i []).length = r) := Lib.hid ⟨by omega, hrowl⟩
        have HCOM := HPC.out.2
        rw [HR.out] at HCOM
        have HLI3 : Hid (∀ j, j < (M.getD i []).length → -1000000 ≤ (M.getD i [])[j]?.getD 0 ∧ (M.getD i [])[j]?.getD 0 ≤ 1000000) := Lib.hid (fun j hj => by rw [hrowl] at hj; rw [getD_mt]; have := mt_nn HCOM hir hj; omega)
        have HMX : Hid (∀ x, ((∃ j, j < (M.getD i []).length ∧ x = (M.getD i [])[j]?.getD 0) ∧ ∀ j, j < (M.getD i []).length → (M.getD i [])[j]?.getD 0 ≤ x) → x + 1 = (mxN M r i : Int) ∧ 1 ≤ mxN M r i ∧ mxN M r i ≤ 201) := Lib.hid (fun x hx => by
          obtain ⟨⟨j, hj, e⟩, h2⟩ := hx
          rw [hrowl] at hj h2
          rw [getD_mt] at e
          have h3 := mx_eq (M := M) (r := r) (i := i) (x := x) ⟨⟨j, hj, e⟩, fun k hk => by have := h2 k hk; rw [getD_mt] at this; exact this⟩
          have h4 := mt_nn HCOM hir hj
          unfold mxN
          rw [h3]
          omega)
        have HWB := Lib.hid (HI.out.bw (i := i) (by rw [HR.out]; exact hir)); have HBR := Lib.hid (HPC.out.1.br i (by rw [HR.out]; exact hir))
        have HROW1 := Lib.hid (hrow.out.of_block (hb1.block _ hrow.out.lt))
        have HFP1 := Lib.hid (hfp.out.stay hb1)
        have hX1 := Lib.hid (hX.out.stay hb1); have hZ1 := Lib.hid (hZ.out.stay hb1); have hP1 := Lib.hid (hP.out.kept (Kept.of_below hb1 hP.out.2)); have hB1' := Lib.hid hB1
        have HA0 : w1.heap.size + 1 < W1.heap.size := Nat.lt_of_lt_of_le hsw hb1.size
        have HA1 : wr.heap.size < W1.heap.size := hbx.2
        have HA2 : w.heap.size < W1.heap.size := Nat.lt_of_lt_of_le hX.out.lt hb1.size
        have HA3 : g1 < W1.heap.size := by have := hB1.size; omega
        have hs1' := HS1.out
        have HN0 : w1.heap.size + 1 ≠ w1.heap.size := by omega
        have HN1 : wr.heap.size ≠ w1.heap.size := by omega
        have HN2 : w.heap.size ≠ w1.heap.size := by omega
        have HN3 : g1 ≠ w1.heap.size := by omega
        have HSET : Hid (∀ (V : World) (p q : Value) (x : Addr) (hx : x.block ≠ w1.heap.size) {u : Value}, V.cell? x = some u → ((V.setCell ⟨w1.heap.size, i * 2, none⟩ p).setCell ⟨w1.heap.size, i * 2 + 1, none⟩ q).cell? x = some u) := Lib.hid (fun V p q x hx u hu => by
          have e1 : ((V.setCell ⟨w1.heap.size, i * 2, none⟩ p).setCell ⟨w1.heap.size, i * 2 + 1, none⟩ q).heap[x.block]? = V.heap[x.block]? := by
            rw [Below.heap_setCell _ _ _ _ (by simpa using hx), Below.heap_setCell _ _ _ _ (by simpa using hx)]
          rw [World.cell?_of_block e1]; exact hu)
        have HEQ1 := Lib.hid HE1
        clear hrm hru hcu hcm hkm hrowl HE1 hb1 hbx hB1 hrow hfp HCOM hX hZ hP hB
        go_wp2_with fail
        rw [← HEQ1.out]
        clear x0 x1 x4
        refine wp_region_held_drew (S := fun w' => w'.cell? ⟨w1.heap.size + 1, 0, none⟩ = some (.slice (some ⟨w1.heap.size, 0, none⟩) r r) ∧ w'.cell? ⟨wr.heap.size, 0, none⟩ = some (.slice A3 n3 c3) ∧ w'.cell? ⟨w.heap.size, 1, none⟩ = some (.slice (some ⟨g1, o1, none⟩) r c1) ∧ w'.cell? ⟨g1, o1 + i, none⟩ = some (.slice (some ⟨gi, oi, none⟩) r ci)) (by kernel_rfl) ⟨s0, s1, s2, s3⟩ (fun hHeld => ?_)
        refine takeY 0 _ (v := ?_) rfl rfl (by kernel_rfl) (by kernel_rfl) (by kernel_rfl) (fun _ _ _ h => h) (by kernel_rfl) ?_ (by assumption) ?_
        rotate_left 1
        · intro w hSw; (try dsimp only at hSw); go_simp; (try with_reducible rfl)
        try simp only [Act.put, List.setIfInBounds_toArray, List.set_cons_zero, List.set_cons_succ]
        refine takeY 1 _ (v := ?_) rfl rfl (by kernel_rfl) (by kernel_rfl) (by kernel_rfl) (fun _ _ _ h => h) (by kernel_rfl) ?_ (by assumption) ?_
        rotate_left 1
        · intro w hSw; (try dsimp only at hSw); go_simp; (try with_reducible rfl)
        try simp only [Act.put, List.setIfInBounds_toArray, List.set_cons_zero, List.set_cons_succ]
        refine takeY 2 _ (v := ?_) rfl rfl (by kernel_rfl) (by kernel_rfl) (by kernel_rfl) (fun _ _ _ h => h) (by kernel_rfl) ?_ (by assumption) ?_
        rotate_left 1
        · intro w hSw; (try dsimp only at hSw); go_simp; (try with_reducible rfl)
        try simp only [Act.put, List.setIfInBounds_toArray, List.set_cons_zero, List.set_cons_succ]
        refine takeY 3 _ (v := ?_) rfl rfl (by kernel_rfl) (by kernel_rfl) (by kernel_rfl) (fun _ _ _ h => h) (by kernel_rfl) ?_ (by assumption) ?_
        rotate_left 1
        · intro w hSw; (try dsimp only at hSw); go_simp; (try with_reducible rfl)
        try simp only [Act.put, List.setIfInBounds_toArray, List.set_cons_zero, List.set_cons_succ]
        refine takeY 4 _ (v := ?_) rfl rfl (by kernel_rfl) (by kernel_rfl) (by kernel_rfl) (fun _ _ _ h => h) (by kernel_rfl) ?_ (by assumption) ?_
        rotate_left 1
        · intro w hSw; (try dsimp only at hSw); go_simp; (try with_reducible rfl)
        try simp only [Act.put, List.setIfInBounds_toArray, List.set_cons_zero, List.set_cons_succ]
        refine takeY 5 _ (v := ?_) rfl rfl (by kernel_rfl) (by kernel_rfl) (by kernel_rfl) (fun _ _ _ h => h) (by kernel_rfl) ?_ (by assumption) ?_
        rotate_left 1
        · intro w hSw; (try dsimp only at hSw); go_simp; (try with_reducible rfl)
        try simp only [Act.put, List.setIfInBounds_toArray, List.set_cons_zero, List.set_cons_succ]
        refine takeY 6 _ (v := ?_) rfl rfl (by kernel_rfl) (by kernel_rfl) (by kernel_rfl) (fun _ _ _ h => h) (by kernel_rfl) ?_ (by assumption) ?_
        rotate_left 1
        · intro w hSw; (try dsimp only at hSw); go_simp; (try with_reducible rfl)
        try simp only [Act.put, List.setIfInBounds_toArray, List.set_cons_zero, List.set_cons_succ]
        refine takeY 7 _ (v := ?_) rfl rfl (by kernel_rfl) (by kernel_rfl) (by kernel_rfl) (fun _ _ _ h => h) (by kernel_rfl) ?_ (by assumption) ?_
        rotate_left 1
        · intro w hSw; (try dsimp only at hSw); go_simp; (try with_reducible rfl)
        try simp only [Act.put, List.setIfInBounds_toArray, List.set_cons_zero, List.set_cons_succ]
        refine wpAnyH_ready (rs := [8]) (by kernel_rfl) (by simp) ?_
        refine AllReadyH.cons rfl (fun K hK => ?_) AllReadyH.nil
        go_simp
        refine (maxE_any _ (M.getD i []) W1.drew w.heap.size (by exact HRI.out) HLI.out.1 (by rw [HLI.out.2]; omega) HLI3.out).mono ?_
        rintro e w2 ⟨x, rfl, hx, rfl⟩
        have HNX := Lib.hid (HMX.out x hx)
        have p1 : IntKind.i64.wrap (x + 1) = ((mxN M r i : Nat) : Int) := by have := HNX.out; rw [IntWalk.i64_in _ (by omega)]; omega
        clear hx
        refine hK.out _ W1.drew ⟨s0, s1, s2, s3⟩ (fun hHeld => ?_)
        clear hK K
        try simp only [Act.put, List.setIfInBounds_toArray, List.set_cons_zero, List.set_cons_succ]
        refine takeY 9 _ (v := .int .i64 (mxN M r i : Nat)) rfl rfl (by kernel_rfl) (by kernel_rfl) (by kernel_rfl) (fun _ _ _ h => h) (by kernel_rfl) ?_ (by assumption) ?_
        · intro w hSw; (try dsimp only at hSw); go_simp; (try with_reducible rfl)
        try simp only [Act.put, List.setIfInBounds_toArray, List.set_cons_zero, List.set_cons_succ]
        refine wpAnyH_ready (rs := [10]) (by kernel_rfl) (by simp) ?_
        refine AllReadyH.cons rfl (fun K hK => ?_) AllReadyH.nil
        go_simp
        refine (firstPointsO_any _ (bt Z i) (mxN M r i) W1.drew (by exact HRB.out) (HI.out.bl i) HWB.out HBR.out (by have := HNX.out; omega) (by have := HNX.out; omega)).mono ?_
        rintro e w3 ⟨A5, c5, A6, c6, rfl, ⟨l5, h5, hl5, ho5⟩, ⟨l6, h6, hl6, ho6⟩, hbb⟩
        have HB3 : Hid (Below W1.heap.size W1 w3) := Lib.hid ((drewN_below W1 1).trans (by exact hbb))
        have HO5 := Lib.hid ho5; have HO6 := Lib.hid ho6
        have HL5 : Hid (W1.heap.size ≤ l5) := Lib.hid hl5; have HL6 : Hid (W1.heap.size ≤ l6) := Lib.hid hl6
        clear hbb ho5 ho6 hl5 hl6
        have hrow3 := HROW1.out.of_block (HB3.out.block _ HROW1.out.lt)
        have hd0 := hrow3.cell (i := i * 2) (by omega); have hd1 := hrow3.cell (i := i * 2 + 1) (by omega); have hf0 := hrow3.frozen (i * 2); have hf1 := hrow3.frozen (i * 2 + 1)
        have HROW3 := Lib.hid hrow3
        clear hrow3
        refine hK.out _ w3 ⟨by rw [HB3.out.cell (p := ⟨w1.heap.size + 1, 0, none⟩) HA0]; exact s0, by rw [HB3.out.cell (p := ⟨wr.heap.size, 0, none⟩) HA1]; exact s1, by rw [HB3.out.cell (p := ⟨w.heap.size, 1, none⟩) HA2]; exact s2, by rw [HB3.out.cell (p := ⟨g1, o1 + i, none⟩) HA3]; exact s3⟩ (fun hHeld => ?_)
        clear hK K
        try simp only [Act.put, List.setIfInBounds_toArray, List.set_cons_zero, List.set_cons_succ]
        refine takeY 11 _ (v := ?_) rfl rfl (by kernel_rfl) (by kernel_rfl) (by kernel_rfl) (fun _ _ _ h => h) (by kernel_rfl) ?_ (by assumption) ?_
        rotate_left 1
        · intro w hSw; (try dsimp only at hSw); go_simp; (try with_reducible rfl)
        try simp only [Act.put, List.setIfInBounds_toArray, List.set_cons_zero, List.set_cons_succ]
        refine wpAnyH_ready (rs := [12]) (by kernel_rfl) (by simp) ?_
        refine AllReadyH.cons rfl (fun K hK => ?_) AllReadyH.nil
        go_simp
        refine hK.out _ _ ⟨HSET.out w3 _ _ ⟨w1.heap.size + 1, 0, none⟩ HN0 (by rw [HB3.out.cell (p := ⟨w1.heap.size + 1, 0, none⟩) HA0]; exact s0), HSET.out w3 _ _ ⟨wr.heap.size, 0, none⟩ HN1 (by rw [HB3.out.cell (p := ⟨wr.heap.size, 0, none⟩) HA1]; exact s1), HSET.out w3 _ _ ⟨w.heap.size, 1, none⟩ HN2 (by rw [HB3.out.cell (p := ⟨w.heap.size, 1, none⟩) HA2]; exact s2), HSET.out w3 _ _ ⟨g1, o1 + i, none⟩ HN3 (by rw [HB3.out.cell (p := ⟨g1, o1 + i, none⟩) HA3]; exact s3)⟩ (fun hHeld => ?_)
        clear hK K
        try simp only [Act.put, List.setIfInBounds_toArray, List.set_cons_zero, List.set_cons_succ]
        refine wpAnyH_done (by kernel_rfl) ?_ _
        clear hHeld s0 s1 s2 s3
        have hs3 := HB3.out.size
        have hsW : wr.heap.size + 1 = W1.heap.size := by rw [HEQ1.out]; simp
        have hkq : ∀ lo hi, w1.heap.size < lo → Kept lo hi w3 ((w3.setCell ⟨w1.heap.size, i * 2, none⟩ (.slice A5 (mxN M r i) c5)).setCell ⟨w1.heap.size, i * 2 + 1, none⟩ (.slice A6 (mxN M r i - 1) c6)) := fun lo hi hh =>
          (kept_set w3 (p := ⟨w1.heap.size, i * 2, none⟩) (Or.inl hh) _).trans (kept_set _ (p := ⟨w1.heap.size, i * 2 + 1, none⟩) (Or.inl hh) _)
        have HROW5 := Lib.hid (((HROW3.out.set (i * 2) (.slice A5 (mxN M r i) c5)).set (i * 2 + 1) (.slice A6 (mxN M r i - 1) c6)))
        have hfp3 := HFP1.out.stay HB3.out
        have HX5 := Lib.hid (((hX1.out.stay HB3.out).other (g := w1.heap.size) (o := i * 2) (by omega) (.slice A5 (mxN M r i) c5)).other (g := w1.heap.size) (o := i * 2 + 1) (by omega) (.slice A6 (mxN M r i - 1) c6))
        have HZ5 := Lib.hid (((hZ1.out.stay HB3.out).other (g := w1.heap.size) (o := i * 2) (by omega) (.slice A5 (mxN M r i) c5)).other (g := w1.heap.size) (o := i * 2 + 1) (by omega) (.slice A6 (mxN M r i - 1) c6))
        have HP5 := Lib.hid ((hP1.out.kept (Kept.of_below HB3.out hP1.out.2)).kept (hkq _ _ (by omega)))
        have HB5 := Lib.hid (((hB1'.out.trans (HB3.out.mono hB1'.out.size)).setCell (p := ⟨w1.heap.size, i * 2, none⟩) (by show w.heap.size ≤ w1.heap.size; omega) (.slice A5 (mxN M r i) c5)).setCell (p := ⟨w1.heap.size, i * 2 + 1, none⟩) (by show w.heap.size ≤ w1.heap.size; omega) (.slice A6 (mxN M r i - 1) c6))
        have HL5o := HL5.out; have HL6o := HL6.out
        have HFP5 : Hid (FPs ((w3.setCell ⟨w1.heap.size, i * 2, none⟩ (.slice A5 (mxN M r i) c5)).setCell ⟨w1.heap.size, i * 2 + 1, none⟩ (.slice A6 (mxN M r i - 1) c6)) w1.heap.size Z (mxN M r) (fun x => if x = i * 2 + 1 then .slice A6 (mxN M r i - 1) c6 else if x = i * 2 then .slice A5 (mxN M r i) c5 else uf x) (i + 1)) := Lib.hid (fun j hj => by
          by_cases e : j = i
          · subst e
            exact ⟨A5, c5, A6, c6, l5, h5, l6, h6, (by dsimp only; rw [if_neg (by omega), if_pos rfl]), (by dsimp only; rw [if_pos rfl]), by omega, by omega, HO5.out.kept (hkq _ _ (by omega)), HO6.out.kept (hkq _ _ (by omega))⟩
          · obtain ⟨A, c, A', c', l, h, l', h', e1, e2, hl1, hl2, ho1, ho2⟩ := hfp3 j (by omega)
            exact ⟨A, c, A', c', l, h, l', h', (by dsimp only; rw [if_neg (by omega), if_neg (by omega)]; exact e1), (by dsimp only; rw [if_neg (by omega), if_neg (by omega)]; exact e2), hl1, hl2, ho1.kept (hkq _ _ hl1), ho2.kept (hkq _ _ hl2)⟩)
        clear hkq hfp3 hs3 hd0 hd1 hf0 hf1 HL5o HL6o
        go_wp2_with fail
        go_roundw
        case rel => exact ⟨i + 1, _, by omega, by go_num, Lib.hid (HROW5.out.congr (fun x hx => by
            by_cases e1 : x = i * 2 + 1
            · subst e1; simp [show i * 2 + 1 < (i + 1) * 2 by omega]
            · by_cases e2 : x = i * 2
              · subst e2; simp [show i * 2 < (i + 1) * 2 by omega]
              · by_cases e3 : x < i * 2
                · simp [e1, e2, e3, show x < (i + 1) * 2 by omega]
                · simp [e1, e2, e3, show ¬ x < (i + 1) * 2 by omega])), HFP5, HX5, HZ5, HP5, HB5⟩
        case measure => simp [intOf]; omega
      · obtain rfl : i = r := by omega
        have HMC : Hid (MtC wr (w1.heap.size + 1) w1.heap.size w.heap.size i (.slice (some ⟨g0, o0, none⟩) i c0) (.slice (some ⟨g1, o1, none⟩) i c1) Z M (mxN M i)) := Lib.hid (by
          refine ⟨hP.out.1, hP.out.2, hrow.out.lt, fun j hj => ?_, hX.out, (H.out.2.below hB.out).more hB.out.size⟩
          obtain ⟨A, c, A', c', l, h, l', h', e1, e2, hl1, hl2, ho1, ho2⟩ := hfp.out j hj
          have q1 := hrow.out.cell (i := j * 2) (by omega)
          have q2 := hrow.out.cell (i := j * 2 + 1) (by omega)
          rw [if_pos (by omega), e1] at q1
          rw [if_pos (by omega), e2] at q2
          exact ⟨A, c, A', c', q1, q2, ho1.reads, ho2.reads⟩)
        have HCOM := HPC.out.2
        rw [HR.out] at HCOM
        have HMN : Hid (MtN Z M i (mxN M i)) := Lib.hid ⟨hlo, hhi, hml, fun j hj => by rw [HPC.out.1.row j (by rw [HR.out]; exact hj), HR.out], fun j hj => HPC.out.1.br j (by rw [HR.out]; exact hj), HCOM, fun j hj => by have := mx_rng HCOM hj; omega, fun j k hj hk => by have := (mx_rng HCOM hj).2 k hk; have := mt_nn HCOM hj hk; omega⟩
        have HCM := Lib.hid HCOM
        have x0 := hX.out.c0; have x1 := hX.out.c1; have x4 := hX.out.lt
        have p0 := hP.out.1; have p4 := hP.out.2
        clear hrow hfp HCOM hP hX
        go_wp2_with fail
        refine (triangleM_any wr HMC.out HMN.out).mono ?_
        rintro e w3 ⟨A, c, rfl, htb, hAl, hb3⟩
        have HAL : Hid (∀ x, A = some x → x.block ≠ w.heap.size + 1) := Lib.hid (fun x hx => by have h1 := hAl x hx; have h2 := hZ.out.lt; omega)
        clear hAl
        clear x0 x1 x4 p0 p4
        have hZ3 := hZ.out.stay hb3; have hB3 := hB.out.trans (hb3.mono hB.out.size)
        obtain ⟨W4, HE4⟩ : ∃ V, V = w3.alloc (.cells #[.int .i64 i, .slice A (tO i i) c] 107) := ⟨_, rfl⟩
        have hb4 : Below w3.heap.size w3 W4 := by rw [HE4]; exact below_box2 _ _
        have hq4 : UBox W4 w3.heap.size (.int .i64 i) (.slice A (tO i i) c) := by rw [HE4]; exact UBox.new _ _ _ _
        have HT4 := Lib.hid ((htb.below hb4).more hb4.size); have HZ4 := Lib.hid (hZ3.stay hb4); have HB4 := Lib.hid (hB3.trans (hb4.mono hB3.size)); have HQ4 := Lib.hid hq4
        have HEQ4 := Lib.hid HE4
        have q0 := hq4.c0; have q1 := hq4.c1; have q4 := hq4.lt
        have HTT : Hid (tO i i = i * (i - 1) / 2) := Lib.hid (tO_end hhi)
        obtain ⟨bb, hbb⟩ : ∃ q, q = cellsBad Z M i := ⟨_, rfl⟩
        have HBB := Lib.hid hbb
        clear htb hb3 hZ3 hB3 hb4 hq4 HE4 hZ hB hbb
        go_wp2_with fail
        rw [← HEQ4.out]
        refine (containsM_any A (tO i i) c (cP Z M i) (cN Z M i) bb W4 HT4.out (tO_le hhi (Nat.le_refl _)) (by rw [HBB.out]; exact cellsBad_true)).mono ?_
        rintro e w5 ⟨rfl, hb5⟩
        clear q0 q1 q4
        have HT5 := Lib.hid ((HT4.out.below hb5).more hb5.size); have HZ5 := Lib.hid (HZ4.out.stay hb5); have HB5 := Lib.hid (HB4.out.trans (hb5.mono HB4.out.size)); have HQ5 := Lib.hid (HQ4.out.stay hb5)
        have q0 := HQ5.out.c0; have q1 := HQ5.out.c1; have q4 := HQ5.out.lt
        have z0 := HZ5.out.c0; have z1 := HZ5.out.c1; have z2 := HZ5.out.f0; have z3 := HZ5.out.f1; have z4 := HZ5.out.lt
        clear hb5
        cases bb with
        | true =>
          have HNO : Hid (cuB Z M = false) := Lib.hid (cuB_false (fun hc => by
            have := cells_good hc HR.out; rw [← HBB.out] at this; cases this))
          have cr := (HZ5.out.set0 (.int .i64 0)).set1 (.slice none 0 0)
          have cr0 := cr.c0; have cr1 := cr.c1
          go_wp2_with fail
          refine bodyPost_ret (v := .tuple #[.agg #[.int .i64 0, .slice none 0 0], .bool false]) (by simp [results, Try.results94, go_sem, cr0, cr1]) rfl ⟨Or.inl ⟨HNO.out, rfl⟩, ?_⟩
          exact (HB5.out.setCell (p := ⟨w.heap.size + 1, 0, none⟩) (by show w.heap.size ≤ w.heap.size + 1; omega) _).setCell (p := ⟨w.heap.size + 1, 1, none⟩) (by show w.heap.size ≤ w.heap.size + 1; omega) _
        | false =>
          have HGP := Lib.hid (cells_pairs (Z := Z) (M := M) hhi HCM.out HBB.out.symm)
          have HPP : Hid (∀ j k, j < k → k < i → cP Z M i (tX i j k) = mt M j k) := Lib.hid (fun j k h1 h2 => by
            rw [cP_at hhi h1 h2]
            unfold tP
            rw [mP_yes (HGP.out j k h1 h2)]
            have := mt_nn HCM.out (show j < i by omega) h2
            omega)
          go_wp2_with fail
          refine (three_any A (tO i i) c i (cP Z M i) (cN Z M i) M w5 HT5.out HTT.out hlo hhi HPP.out HCM.out).mono ?_
          rintro e w6 ⟨rfl, hb6⟩
          clear q0 q1 q4 z0 z1 z2 z3 z4
          have HT6 := Lib.hid ((HT5.out.below hb6).more hb6.size); have HZ6 := Lib.hid (HZ5.out.stay hb6); have HB6 := Lib.hid (HB5.out.trans (hb6.mono HB5.out.size)); have HQ6 := Lib.hid (HQ5.out.stay hb6)
          have q0 := HQ6.out.c0; have q1 := HQ6.out.c1; have q4 := HQ6.out.lt
          have z0 := HZ6.out.c0; have z1 := HZ6.out.c1; have z2 := HZ6.out.f0; have z3 := HZ6.out.f1; have z4 := HZ6.out.lt
          clear hb6
          obtain ⟨tb, htb⟩ : ∃ q, triB M i = q := ⟨_, rfl⟩
          rw [htb]
          cases tb with
          | false =>
            have HNO : Hid (cuB Z M = false) := Lib.hid (cuB_false (fun hc => by have h1 := hc.tri; rw [HR.out] at h1; have : triB M i = true := triB_true.2 h1; rw [htb] at this; cases this))
            clear htb
            have cr := (HZ6.out.set0 (.int .i64 0)).set1 (.slice none 0 0)
            have cr0 := cr.c0; have cr1 := cr.c1
            go_wp2_with fail
            refine bodyPost_ret (v := .tuple #[.agg #[.int .i64 0, .slice none 0 0], .bool false]) (by simp [results, Try.results94, go_sem, cr0, cr1]) rfl ⟨Or.inl ⟨HNO.out, rfl⟩, ?_⟩
            exact (HB6.out.setCell (p := ⟨w.heap.size + 1, 0, none⟩) (by show w.heap.size ≤ w.heap.size + 1; omega) _).setCell (p := ⟨w.heap.size + 1, 1, none⟩) (by show w.heap.size ≤ w.heap.size + 1; omega) _
          | true =>
            have HYES : Hid (cuB Z M = true) := Lib.hid (cuB_true.2 ⟨HPC.out.1, HPC.out.2, fun j k h1 h2 => HGP.out j k h1 (by rw [← HR.out]; exact h2), by rw [HR.out]; exact triB_true.1 htb⟩)
            clear htb
            have cr := (HZ6.out.set0 (.int .i64 i)).set1 (.slice A (tO i i) c)
            have cr0 := cr.c0; have cr1 := cr.c1
            go_wp2_with fail
            have hlt6 := HZ6.out.lt
            refine bodyPost_ret (v := .tuple #[.agg #[.int .i64 i, .slice A (tO i i) c], .bool true]) (by simp [results, Try.results94, go_sem, cr0, cr1]) rfl ⟨Or.inr ⟨HYES.out, A, c, rfl, ?_⟩, ?_⟩
            · have hh := (HT6.out.setU (p := ⟨w.heap.size + 1, 0, none⟩) HAL.out (.int .i64 i)).setU (p := ⟨w.heap.size + 1, 1, none⟩) HAL.out (.slice A (tO i i) c)
              rw [size_setU, size_setU]; exact hh
            · exact (HB6.out.setCell (p := ⟨w.heap.size + 1, 0, none⟩) (by show w.heap.size ≤ w.heap.size + 1; omega) _).setCell (p := ⟨w.heap.size + 1, 1, none⟩) (by show w.heap.size ≤ w.heap.size + 1; omega) _

end Go.Proofs.Ytohbgfmjnanlkaa
