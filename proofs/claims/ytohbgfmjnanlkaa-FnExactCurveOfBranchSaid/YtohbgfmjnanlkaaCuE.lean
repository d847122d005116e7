/- Lengths of the branches of a curve: contracts, the program's and the model's. Conditions: stated at each theorem. -/
import Derived.Test.YtohbgfmjnanlkaaCuU
namespace Go.Proofs.Ytohbgfmjnanlkaa
open Go.ChangeShapes Go.WideShapes Go.ChangeAt Go.RowKit Go.Deep
set_option linter.unusedVariables false
set_option linter.unusedSimpArgs false

theorem OwnI.raiseU {w : World} {lo hi hi' : Nat} {v : Value} {zs : List Int} (h : OwnI w lo hi v zs) (h1 : hi ≤ hi') (h2 : hi' ≤ w.heap.size := by exact Nat.le_refl _) : OwnI w lo hi' v zs := ⟨h.1, fun k hk => Nat.lt_of_lt_of_le (h.2.1 k hk) h1, h2⟩
theorem mx_ex {M : List (List Int)} {r i : Nat} (h1 : 1 ≤ r) : (∃ j, j < r ∧ mxI M r i = mt M i j) ∧ ∀ j, j < r → mt M i j ≤ mxI M r i := by
  obtain ⟨x, hx⟩ : ∃ x, (∃ j, j < r ∧ x = mt M i j) ∧ ∀ j, j < r → mt M i j ≤ x := by
    have : ∀ n, 1 ≤ n → n ≤ r → ∃ x, (∃ j, j < r ∧ x = mt M i j) ∧ ∀ j, j < n → mt M i j ≤ x := by
      intro n
      induction n with
      | zero => intro h; omega
      | succ n ih =>
        intro _ hn
        by_cases h0 : n = 0
        · subst h0; exact ⟨mt M i 0, ⟨0, by omega, rfl⟩, fun j hj => by obtain rfl : j = 0 := (by omega); exact Int.le_refl _⟩
        · obtain ⟨x, ⟨j, hj, e⟩, h2⟩ := ih (by omega) (by omega)
          by_cases h3 : mt M i n ≤ x
          · exact ⟨x, ⟨j, hj, e⟩, fun k hk => by
              by_cases e2 : k = n
              · subst e2; exact h3
              · exact h2 k (by omega)⟩
          · exact ⟨mt M i n, ⟨n, by omega, rfl⟩, fun k hk => by
              by_cases e2 : k = n
              · subst e2; exact Int.le_refl _
              · have := h2 k (by omega); omega⟩
    exact this r h1 (Nat.le_refl _)
  rw [mx_eq hx]; exact hx
def cnB (Z : List (List Int)) (i : Nat) : Int := cntL (rsI (bt Z i))
/-- The length of a branch. -/
noncomputable def lnV (Z M : List (List Int)) (r i : Nat) : Int := if mxI M r i > cnB Z i then mxI M r i else cnB Z i
def mfF (c : Int) (M : List (List Int)) (i : Nat) : Nat → Int
  | 0 => c
  | k + 1 => if mt M i k > mfF c M i k then mt M i k else mfF c M i k
theorem mfF_facts (c : Int) (M : List (List Int)) (i : Nat) : ∀ k, c ≤ mfF c M i k ∧ (∀ j, j < k → mt M i j ≤ mfF c M i k) ∧ (mfF c M i k = c ∨ ∃ j, j < k ∧ mfF c M i k = mt M i j)
  | 0 => ⟨Int.le_refl _, fun j hj => by omega, Or.inl rfl⟩
  | k + 1 => by
    obtain ⟨h1, h2, h3⟩ := mfF_facts c M i k
    have eK : mfF c M i (k + 1) = if mt M i k > mfF c M i k then mt M i k else mfF c M i k := rfl
    rw [eK]
    by_cases h : mt M i k > mfF c M i k
    · simp only [if_pos h]
      exact ⟨by omega, fun j hj => by
        by_cases e : j = k
        · subst e; exact Int.le_refl _
        · have := h2 j (by omega); omega, Or.inr ⟨k, by omega, rfl⟩⟩
    · simp only [if_neg h]
      refine ⟨h1, fun j hj => ?_, ?_⟩
      · by_cases e : j = k
        · subst e; omega
        · exact h2 j (by omega)
      · rcases h3 with h3 | ⟨j, hj, e⟩
        · exact Or.inl h3
        · exact Or.inr ⟨j, by omega, e⟩
theorem mfF_lnV {Z M : List (List Int)} {r i : Nat} (h1 : 1 ≤ r) : mfF (cnB Z i) M i r = lnV Z M r i := by
  obtain ⟨a1, a2, a3⟩ := mfF_facts (cnB Z i) M i r
  obtain ⟨⟨j, hj, e⟩, b2⟩ := mx_ex (M := M) (r := r) (i := i) h1
  have c1 := a2 j hj
  unfold lnV
  rcases a3 with a3 | ⟨k, hk, a3⟩
  · split <;> omega
  · have := b2 k hk
    split <;> omega
noncomputable def lnL (Z M : List (List Int)) (r n : Nat) : List Int := (List.range n).map (lnV Z M r)
theorem lnL_len (Z M : List (List Int)) (r n : Nat) : (lnL Z M r n).length = n := by simp [lnL]
theorem lnL_next (Z M : List (List Int)) (r n : Nat) : lnL Z M r (n + 1) = lnL Z M r n ++ [lnV Z M r n] := by simp [lnL, List.range_succ]
theorem lnL_at {Z M : List (List Int)} {r n x : Nat} (h : x < n) : (lnL Z M r n).getD x 0 = lnV Z M r x := by simp [lnL, List.getD, h]
noncomputable def lnA (Z M : List (List Int)) : List Int := if cuB Z M then lnL Z M Z.length Z.length else []
noncomputable def cuC9 (Z M : List (List Int)) : Int := if cuB Z M then 0 else 1
theorem lnA_len (Z M : List (List Int)) : (lnA Z M).length ≤ 1099511627776 := by
  unfold lnA
  cases h : cuB Z M with
  | false => simp
  | true => have := (cuB_true.1 h).parts.hi; simp [lnL_len]; omega
theorem cnB_rng {Z : List (List Int)} {i : Nat} (h : brB (bt Z i) = true) : 0 ≤ cnB Z i ∧ cnB Z i ≤ 260000000 := by
  have := seq_len h
  unfold cnB
  omega
theorem lnV_rng {Z M : List (List Int)} {r i : Nat} (h1 : 1 ≤ r) (hc : CuCom M r) (hi : i < r) (h : brB (bt Z i) = true) : 0 ≤ lnV Z M r i ∧ lnV Z M r i ≤ 260000000 := by
  have h2 := cnB_rng h
  obtain ⟨⟨j, hj, e⟩, _⟩ := mx_ex (M := M) (r := r) (i := i) h1
  have h3 := mt_nn hc hi hj
  unfold lnV
  split <;> omega

set_option maxRecDepth 100000 in
set_option maxHeartbeats 1200000 in
theorem lengths_any (a b : Value) (Z M : List (List Int)) (r : Nat) (w : World) (h : ReadU w w.heap.size a b Z M) (hi : CuIn Z M) (hok : CuOK Z M) (hr : Z.length = r) :
    Calls Try.prog 112 #[.agg #[a, b]] w fun e w' => ∃ A c, e = .returned (.slice A r c) ∧ OwnI w' w.heap.size w'.heap.size (.slice A r c) (lnL Z M r r) ∧ Below w.heap.size w w' := by
  obtain ⟨W0, HE⟩ : ∃ V, V = w.alloc (.cells #[a, b] 56) := ⟨_, rfl⟩
  have hb0 : Below w.heap.size w W0 := by rw [HE]; exact below_box2 _ _
  have hx : UBox W0 w.heap.size a b := by rw [HE]; exact UBox.new _ _ _ _
  have HEQ := Lib.hid HE; have B := Lib.hid hb0; have HI := Lib.hid hi; have H := Lib.hid h; have HX := Lib.hid hx
  have HU := Lib.hid ((h.below hb0).more hb0.size)
  have x0 := hx.c0; have x1 := hx.c1; have x4 := hx.lt
  have HOK := Lib.hid hok
  obtain ⟨⟨A0, c0, ea, _⟩, ⟨A1, c1, eb, _⟩⟩ := id H.out
  have HR := Lib.hid hr
  have hml : M.length = r := by rw [HOK.out.parts.ml, hr]
  rw [hr] at ea; rw [hml] at eb
  subst ea; subst eb
  have hlo : 1 ≤ r := by rw [← hr]; exact HOK.out.parts.lo
  have hhi : r ≤ 6 := by rw [← hr]; exact HOK.out.parts.hi
  have HCM : Hid (CuCom M r) := Lib.hid (by rw [← hr]; exact hok.com)
  have HBR : Hid (∀ i, i < r → brB (bt Z i) = true) := Lib.hid (fun i hi => hok.parts.br i (by rw [hr]; exact hi))
  have HRW : Hid (∀ i, i < r → (M.getD i []).length = r) := Lib.hid (fun i hi => by rw [hok.parts.row i (by rw [hr]; exact hi), hr])
  obtain ⟨g0, o0, rfl, hg0, hzr⟩ := rows_cellsU H.out.1 hr hlo
  obtain ⟨g1, o1, rfl, hg1, hmr⟩ := rows_cellsU H.out.2 hml hlo
  have HZ := Lib.hid hzr; have HM := Lib.hid hmr
  clear hok hzr hmr
  obtain ⟨W1, HE1⟩ : ∃ V, V = W0.alloc (.cells (madeCells #[.int .i64 0] r) 2) := ⟨_, rfl⟩
  have hb1 : Below W0.heap.size W0 W1 := by rw [HE1]; exact below_box2 _ _
  have hrow1 : W1.rowIs W0.heap.size 2 r (fun x => .int .i64 (if x < 0 then lnV Z M r x else 0)) := by rw [HE1]; exact (World.rowIs_made _ _ _ _).congr fun x hx => by simp
  have hmk := fun (W : World) => run_make_row' (P := Try.prog) 22 2 (.int .i64 0) 8 Try.underlying22 int_info rfl .i64 .i64 r (by omega) (by omega) W
  have HX1 := Lib.hid (HX.out.stay hb1); have HB1 := Lib.hid (B.out.trans (hb1.mono B.out.size)); have HROW1 := Lib.hid hrow1; have HEQ1 := Lib.hid HE1
  have HS0 : Hid (w.heap.size + 1 = W0.heap.size) := Lib.hid (by rw [HEQ.out]; simp)
  have x0L := HX1.out.c0; have x1L := HX1.out.c1
  rw [HEQ1.out] at x0L x1L
  have HEE : Hid (W1 = World.alloc (w.alloc (.cells #[.slice (some ⟨g0, o0, none⟩) r c0, .slice (some ⟨g1, o1, none⟩) r c1] 56)) (.cells (madeCells #[.int .i64 0] r) 2)) := Lib.hid (by rw [HEQ1.out, HEQ.out])
  clear hx HE hb0 hi h HE1 hb1 hrow1 x0L x1L x0 x1 x4 hr
  obtain ⟨gl, hgl⟩ : ∃ g, W0.heap.size = g := ⟨_, rfl⟩
  have HGL : Hid (w.heap.size + 1 = gl) := Lib.hid (by rw [HS0.out, hgl])
  rw [hgl] at HROW1
  go_enter Try.func112, Try.ntmps112
  go_wp2_with fail
  rw [← HEE.out]
  have hgl2 : w.heap.size + 1 = gl := HGL.out
  rw [hgl2]
  clear hmk hgl hgl2
  go_loopw [15] (fun vi wr => ∃ (i : Nat), i ≤ r ∧ vi = .int .i64 i ∧ Hid (wr.rowIs gl 2 r (fun x => .int .i64 (if x < i then lnV Z M r x else 0))) ∧ Hid (UBox wr w.heap.size (.slice (some ⟨g0, o0, none⟩) r c0) (.slice (some ⟨g1, o1, none⟩) r c1)) ∧ Hid (Below w.heap.size w wr)) (fun vi _ => r - (intOf vi).toNat)
  case atStart => exact ⟨0, by omega, rfl, HROW1, HX1, HB1⟩
  case round =>
    obtain ⟨i, hi, rfl, hrow, hX, hB⟩ := hrel
    by_cases hir : i < r
    · have hir2 : (i : Int) < (r : Int) := by omega
      obtain ⟨u, hcu, hru⟩ := HZ.out i hir
      obtain ⟨A3, n3, c3, e3⟩ : ∃ A3 n3 c3, u = .slice A3 n3 c3 := by obtain ⟨A3, c3, rfl, _⟩ := hru; exact ⟨A3, _, c3, rfl⟩
      subst e3
      obtain ⟨um, hcm, hrm⟩ := HM.out i hir
      obtain ⟨gi, oi, ci, eum, hgi, hkm⟩ := row_cellsU hrm (HRW.out i hir) hlo
      subst eum
      have d0 : wr.cell? ⟨g0, o0 + i, none⟩ = some (.slice A3 n3 c3) := by rw [hB.out.cell (p := ⟨g0, o0 + i, none⟩) hg0]; exact hcu
      obtain ⟨W1, HE1⟩ : ∃ V, V = wr.alloc (.cells #[.slice A3 n3 c3] 28) := ⟨_, rfl⟩
      have hb1 : Below wr.heap.size wr W1 := by rw [HE1]; exact below_box2 _ _
      have hX1 := Lib.hid (hX.out.stay hb1); have hB1 := Lib.hid (hB.out.trans (hb1.mono hB.out.size)); have hrow1 := Lib.hid (hrow.out.of_block (hb1.block _ hrow.out.lt))
      have HRB := Lib.hid ((hru.below hB1.out).more hB1.out.size)
      have HMR := Lib.hid hrm; have HCMI := Lib.hid hcm
      have hsq : sqC (bt Z i) = 0 := by unfold sqC; rw [HBR.out i hir]; rfl
      have hcb : cbA (bt Z i) = cnB Z i := by unfold cbA cnB; rw [HBR.out i hir]; rfl
      have HD := Lib.hid (implCountBranchPoints_any (.slice A3 n3 c3) (bt Z i) W1 HRB.out (HI.out.bl i) (HI.out.bw (by rw [HR.out]; exact hir)))
      rw [hsq, hcb] at HD
      have hcr := cnB_rng (HBR.out i hir)
      have HNXT : Hid (∀ x, x = mxI M r i → lnV Z M r i = if x > cnB Z i then x else cnB Z i) := Lib.hid (fun x hx => by rw [hx]; rfl)
      obtain ⟨own, howne⟩ : ∃ x, cnB Z i = x := ⟨_, rfl⟩
      rw [howne] at HD hcr HNXT
      have HEQ1 := Lib.hid HE1
      have x0 := hX.out.c0; have x1 := hX.out.c1; have x4 := hX.out.lt
      have hmx := @run_max_int2 Try.prog
      clear hru hcu hcm hrm hkm HE1 hb1 howne hsq hcb hX hrow
      go_wp2_with fail
      rw [← HEQ1.out]
      refine HD.out.mono ?_
      rintro e w3 ⟨rfl, hb3⟩
      clear x0 x1 x4
      have hX3 := Lib.hid (hX1.out.stay hb3); have hB3 := Lib.hid (hB1.out.trans (hb3.mono hB1.out.size)); have hrow3 := Lib.hid (hrow1.out.of_block (hb3.block _ hrow1.out.lt))
      have x0 := hX3.out.c0; have x1 := hX3.out.c1; have x4 := hX3.out.lt
      have d2 : w3.cell? ⟨g1, o1 + i, none⟩ = some (.slice (some ⟨gi, oi, none⟩) r ci) := by rw [hB3.out.cell (p := ⟨g1, o1 + i, none⟩) hg1]; exact HCMI.out
      have HMX := Lib.hid (maxE_any (.slice (some ⟨gi, oi, none⟩) r ci) (M.getD i []) w3 w.heap.size (HMR.out.below hB3.out) (by rw [HRW.out i hir]; omega) (by rw [HRW.out i hir]; omega) (fun j hj => by rw [HRW.out i hir] at hj; rw [getD_mt]; have := mt_nn HCM.out hir hj; omega))
      have hd := hrow3.out.cell hir
      have hfz := hrow3.out.frozen i
      clear hb3
      go_wp2_with fail
      refine HMX.out.mono ?_
      rintro e w4 ⟨x, rfl, hx, rfl⟩
      have hxe : x = mxI M r i := by
        rw [HRW.out i hir] at hx
        obtain ⟨⟨j, hj, e⟩, h2⟩ := hx
        rw [getD_mt] at e
        exact (mx_eq ⟨⟨j, hj, e⟩, fun k hk => by have := h2 k hk; rw [getD_mt] at this; exact this⟩).symm
      have HLV := Lib.hid (HNXT.out x hxe)
      have hS := HGL.out
      have HROWN : Hid (∀ y, y = lnV Z M r i → (w3.setCell ⟨gl, i, none⟩ (.int .i64 y)).rowIs gl 2 r (fun z => .int .i64 (if z < i + 1 then lnV Z M r z else 0))) := Lib.hid (fun y hy => (hrow3.out.set i _).congr fun z hz => by
        by_cases e : z = i
        · subst e; simp [hy]
        · by_cases e2 : z < i
          · simp [e, e2, show z < i + 1 by omega]
          · simp [e, e2, show ¬ z < i + 1 by omega])
      have HXN : Hid (∀ y, UBox (w3.setCell ⟨gl, i, none⟩ (.int .i64 y)) w.heap.size (.slice (some ⟨g0, o0, none⟩) r c0) (.slice (some ⟨g1, o1, none⟩) r c1)) := Lib.hid (fun y => hX3.out.other (by omega) _)
      have HBN : Hid (∀ y, Below w.heap.size w (w3.setCell ⟨gl, i, none⟩ (.int .i64 y))) := Lib.hid (fun y => hB3.out.setCell (p := ⟨gl, i, none⟩) (by show w.heap.size ≤ gl; omega) _)
      clear hx hxe hS
      by_cases hgt : x > own
      · have hl := HLV.out
        rw [if_pos hgt] at hl
        have HL := Lib.hid hl.symm
        clear hl
        go_wp2_with fail
        go_roundw
        case rel => exact ⟨i + 1, by omega, by go_num, Lib.hid (HROWN.out x HL.out), Lib.hid (HXN.out x), Lib.hid (HBN.out x)⟩
        case measure => simp [intOf]; omega
      · have hl := HLV.out
        rw [if_neg hgt] at hl
        have HL := Lib.hid hl.symm
        clear hl
        go_wp2_with fail
        go_roundw
        case rel => exact ⟨i + 1, by omega, by go_num, Lib.hid (HROWN.out own HL.out), Lib.hid (HXN.out own), Lib.hid (HBN.out own)⟩
        case measure => simp [intOf]; omega
    · obtain rfl : i = r := by omega
      have HOW := Lib.hid (own_of_row (lo := w.heap.size) (hrow.out.congr (g := fun x => .int .i64 (lnV Z M i x)) (fun x hx => by rw [if_pos hx])) (lnL_len Z M i i) (fun x hx => (lnL_at hx).symm) (by have := HGL.out; omega) (by omega))
      go_wp2_with fail
      go_ret
      exact ⟨_, _, rfl, HOW.out, hB.out⟩

set_option maxRecDepth 100000 in
set_option maxHeartbeats 1200000 in
theorem l09Lengths_any (a b : Value) (Z M : List (List Int)) (r : Nat) (w : World) (h : ReadU w w.heap.size a b Z M) (hi : CuIn Z M) (hok : CuOK Z M) (hr : Z.length = r) :
    Calls Try.prog 111 #[.agg #[a, b]] w fun e w' => ∃ A c, e = .returned (.slice A r c) ∧ OwnI w' w.heap.size w'.heap.size (.slice A r c) (lnL Z M r r) ∧ Below w.heap.size w w' := by
  obtain ⟨W0, HE⟩ : ∃ V, V = w.alloc (.cells #[a, b] 56) := ⟨_, rfl⟩
  have hb0 : Below w.heap.size w W0 := by rw [HE]; exact below_box2 _ _
  have hx : UBox W0 w.heap.size a b := by rw [HE]; exact UBox.new _ _ _ _
  have HEQ := Lib.hid HE; have B := Lib.hid hb0; have HI := Lib.hid hi; have H := Lib.hid h; have HX := Lib.hid hx
  have HU := Lib.hid ((h.below hb0).more hb0.size)
  have x0 := hx.c0; have x1 := hx.c1; have x4 := hx.lt
  have HOK := Lib.hid hok
  obtain ⟨⟨A0, c0, ea, _⟩, ⟨A1, c1, eb, _⟩⟩ := id H.out
  have HR := Lib.hid hr
  have hml : M.length = r := by rw [HOK.out.parts.ml, hr]
  rw [hr] at ea; rw [hml] at eb
  subst ea; subst eb
  have hlo : 1 ≤ r := by rw [← hr]; exact HOK.out.parts.lo
  have hhi : r ≤ 6 := by rw [← hr]; exact HOK.out.parts.hi
  have HCM : Hid (CuCom M r) := Lib.hid (by rw [← hr]; exact hok.com)
  have HBR : Hid (∀ i, i < r → brB (bt Z i) = true) := Lib.hid (fun i hi => hok.parts.br i (by rw [hr]; exact hi))
  have HRW : Hid (∀ i, i < r → (M.getD i []).length = r) := Lib.hid (fun i hi => by rw [hok.parts.row i (by rw [hr]; exact hi), hr])
  obtain ⟨g0, o0, rfl, hg0, hzr⟩ := rows_cellsU H.out.1 hr hlo
  obtain ⟨g1, o1, rfl, hg1, hmr⟩ := rows_cellsU H.out.2 hml hlo
  have HZ := Lib.hid hzr; have HM := Lib.hid hmr
  clear hok hzr hmr
  obtain ⟨W1, HE1⟩ : ∃ V, V = W0.alloc (.cells #[] 2) := ⟨_, rfl⟩
  have hb1 : Below W0.heap.size W0 W1 := by rw [HE1]; exact below_box2 _ _
  have HS0 : Hid (w.heap.size + 1 = W0.heap.size) := Lib.hid (by rw [HEQ.out]; simp)
  have HO1 : Hid (OwnI W1 (w.heap.size + 1) W1.heap.size (.slice (some ⟨w.heap.size + 1, 0, none⟩) 0 0) (lnL Z M r 0)) := Lib.hid (by
    rw [HE1, HS0.out]
    exact OwnI.mk' (n := 0) (World.ownsRow_lit W0 #[] 0 (Nat.le_refl _) (by simp [maxLen]) rfl))
  have HX1 := Lib.hid (HX.out.stay hb1); have HB1 := Lib.hid (B.out.trans (hb1.mono B.out.size))
  have HEE : Hid (W1 = World.alloc (w.alloc (.cells #[.slice (some ⟨g0, o0, none⟩) r c0, .slice (some ⟨g1, o1, none⟩) r c1] 56)) (.cells #[] 2)) := Lib.hid (by rw [HE1, HEQ.out])
  obtain ⟨i0, hi0, hz0, hz1, hz2⟩ := info_parts int_info
  clear hx HE hb0 hi h HE1 hb1 x0 x1 x4 hr
  go_enter Try.func111, Try.ntmps111
  go_wp2_with fail
  rw [← HEE.out]
  go_loopw [3, 4] (fun vo vi wr => ∃ (i : Nat) (A : Option Addr) (c' : Nat), i ≤ r ∧ vo = .slice A i c' ∧ vi = .int .i64 i ∧ Hid (OwnI wr (w.heap.size + 1) wr.heap.size (.slice A i c') (lnL Z M r i)) ∧ Hid (UBox wr w.heap.size (.slice (some ⟨g0, o0, none⟩) r c0) (.slice (some ⟨g1, o1, none⟩) r c1)) ∧ Hid (Below w.heap.size w wr)) (fun _ vi _ => r - (intOf vi).toNat)
  case atStart => exact ⟨0, _, _, by omega, rfl, rfl, HO1, HX1, HB1⟩
  case round =>
    obtain ⟨i, A, c', hi, rfl, rfl, hO, hX, hB⟩ := hrel
    have x0 := hX.out.c0; have x1 := hX.out.c1; have x4 := hX.out.lt
    by_cases hir : i < r
    · have hir2 : (i : Int) < (r : Int) := by omega
      obtain ⟨u, hcu, hru⟩ := HZ.out i hir
      obtain ⟨A3, n3, c3, e3⟩ : ∃ A3 n3 c3, u = .slice A3 n3 c3 := by obtain ⟨A3, c3, rfl, _⟩ := hru; exact ⟨A3, _, c3, rfl⟩
      subst e3
      obtain ⟨um, hcm, hrm⟩ := HM.out i hir
      obtain ⟨gi, oi, ci, eum, hgi, hkm⟩ := row_cellsU hrm (HRW.out i hir) hlo
      subst eum
      have HKM := Lib.hid hkm; have HCI := Lib.hid hcm
      have d0 : wr.cell? ⟨g0, o0 + i, none⟩ = some (.slice A3 n3 c3) := by rw [hB.out.cell (p := ⟨g0, o0 + i, none⟩) hg0]; exact hcu
      have HD := Lib.hid (l04Count_any (.slice A3 n3 c3) (bt Z i) wr ((hru.below hB.out).more hB.out.size) (HI.out.bl i) (HBR.out i hir))
      rw [show cntL (rsI (bt Z i)) = mfF (cnB Z i) M i 0 from rfl] at HD
      clear hcu hru hcm hrm hkm
      go_wp2_with fail
      refine HD.out.mono ?_
      rintro e w2 ⟨rfl, hb2⟩
      clear x0 x1 x4 d0
      have hO2 := Lib.hid (hO.out.stayU hb2 |> fun o => OwnI.raiseU o hb2.size); have hX2 := Lib.hid (hX.out.stay hb2); have hB2 := Lib.hid (hB.out.trans (hb2.mono hB.out.size))
      clear hb2 hO hX hB HD
      go_wp2_with fail
      go_loopw [5, 6] (fun vn vk wr => ∃ (k d : Nat), k ≤ r ∧ vn = .int .i64 (mfF (cnB Z i) M i k) ∧ vk = .int .i64 k ∧ wr = w2.drewN d) (fun _ vk _ => r - (intOf vk).toNat)
      case atStart => exact ⟨0, 0, by omega, rfl, rfl, rfl⟩
      case round =>
        obtain ⟨k, d, hk, rfl, rfl, rfl⟩ := hrel
        have x0 : (w2.drewN d).cell? ⟨w.heap.size, 0, none⟩ = some (.slice (some ⟨g0, o0, none⟩) r c0) := hX2.out.c0
        have x1 : (w2.drewN d).cell? ⟨w.heap.size, 1, none⟩ = some (.slice (some ⟨g1, o1, none⟩) r c1) := hX2.out.c1
        by_cases hkr : k < r
        · have hkr2 : (k : Int) < (r : Int) := by omega
          have d1 : (w2.drewN d).cell? ⟨g1, o1 + i, none⟩ = some (.slice (some ⟨gi, oi, none⟩) r ci) := by show w2.cell? _ = _; rw [hB2.out.cell (p := ⟨g1, o1 + i, none⟩) hg1]; exact HCI.out
          have d2 : (w2.drewN d).cell? ⟨gi, oi + k, none⟩ = some (.int .i64 (mt M i k)) := by show w2.cell? _ = _; rw [hB2.out.cell (p := ⟨gi, oi + k, none⟩) hgi]; exact HKM.out k hkr
          have HNX : Hid (mfF (cnB Z i) M i (k + 1) = if mt M i k > mfF (cnB Z i) M i k then mt M i k else mfF (cnB Z i) M i k) := Lib.hid rfl
          obtain ⟨x, hx⟩ : ∃ x, mt M i k = x := ⟨_, rfl⟩
          obtain ⟨y, hy⟩ : ∃ y, mfF (cnB Z i) M i k = y := ⟨_, rfl⟩
          rw [hx] at d2 HNX
          rw [hy] at HNX ⊢
          have hmx := @run_max_int2 Try.prog
          clear hx hy
          by_cases hgt : x > y
          · have hl := HNX.out
            rw [if_pos hgt] at hl
            have HL := Lib.hid hl
            clear hl
            go_wp2_with fail
            go_roundw
            case rel => exact ⟨k + 1, d, by omega, by rw [HL.out], by go_num, rfl⟩
            case measure => simp [intOf]; omega
          · have hl := HNX.out
            rw [if_neg hgt] at hl
            have HL := Lib.hid hl
            clear hl
            go_wp2_with fail
            go_roundw
            case rel => exact ⟨k + 1, d, by omega, by rw [HL.out], by go_num, rfl⟩
            case measure => simp [intOf]; omega
        · obtain rfl : k = r := by omega
          have hml : mfF (cnB Z i) M i k = lnV Z M k i := mfF_lnV hlo
          rw [hml]
          have HNX := Lib.hid (lnL_next Z M k i)
          obtain ⟨v, hv⟩ : ∃ v, lnV Z M k i = v := ⟨_, rfl⟩
          rw [hv] at HNX ⊢
          obtain ⟨X, HXe⟩ : ∃ X, X = (lnL Z M k i).map (Value.int .i64) := ⟨_, rfl⟩
          have hO3 : Hid (OwnI (w2.drewN d) (w.heap.size + 1) (w2.drewN d).heap.size (.slice A i c') (lnL Z M k i)) := Lib.hid (by have := hO2.out; exact this)
          have hX3 := Lib.hid (hX2.out.stay (drewN_below w2 d)); have hB3 := Lib.hid (hB2.out.trans ((drewN_below w2 d).mono hB2.out.size))
          have hown := hO3.out.1
          rw [lnL_len, ← HXe] at hown
          have HOW : Hid (Own (w2.drewN d) (w.heap.size + 1) (.slice A i c') i X) := Lib.hid hown
          have HXE := Lib.hid HXe
          have hbs3 : w.heap.size + 1 ≤ (w2.drewN d).heap.size := by have := hX3.out.lt; omega
          obtain ⟨W5, hW5⟩ : ∃ V, V = w2.drewN d := ⟨_, rfl⟩
          rw [← hW5] at HOW hX3 hB3 hbs3 x0 x1 ⊢
          have HBS := Lib.hid hbs3
          clear hown HXe hO2 hX2 hB2 hO3 hml hv hW5
          go_wp2_with (at_builtin; (refine wpList_append_own _ rfl _ _ 22 rfl (w.heap.size + 1) 2 i0 (.int .i64 0) 1 8 Try.underlying22 hi0 hz0 hz1 hz2 rfl (by decide) _ i X rfl (World.ownsRow.alloc HOW.out _) ⟨W5.heap.size, 0, none⟩ 1 1 [.int .i64 v] rfl rfl (World.news_of_block (cs := #[.int .i64 v]) (t := 2) (fr := (0, 0)) (heap_alloc_new W5 _)) (by simp [Value.oneCell']) (by simp only [maxLen]; omega) (by omega) (by simp; omega) ?_; intro v1 w4 hown1 hgrow _; obtain ⟨A4, c4, rfl⟩ := own_form hown1; have HO4 := Lib.hid hown1; have hlow : ∀ kk, (Value.slice A i c').ownBlock = some kk → w.heap.size + 1 ≤ kk := (fun kk hkk => (World.ownsRow.lt HOW.out kk hkk).1); have HB4 := Lib.hid ((hB3.out.alloc (by omega) _).grown hgrow (by simp; omega) (fun kk hkk => by have := hlow kk hkk; omega)); have HX4 := Lib.hid (((hX3.out.alloc _).grown hgrow (fun e => by have := hlow _ e.symm; omega))); clear hown1 hgrow hlow))
          go_roundw
          case rel => exact ⟨i + 1, A4, c4, by omega, rfl, by go_num, Lib.hid (by rw [HNX.out]; exact OwnI.mk' (n := i + 1) (by rw [List.map_append, ← HXE.out]; exact HO4.out)), HX4, HB4⟩
          case measure => simp [intOf]; omega
    · obtain rfl : i = r := by omega
      have HOW := Lib.hid (own_lessB hO.out (lo' := w.heap.size) (by omega))
      go_wp2_with fail
      go_ret
      exact ⟨_, _, rfl, HOW.out, hB.out⟩

set_option maxRecDepth 100000 in
set_option maxHeartbeats 1200000 in
theorem implLengthsOf_any (a b : Value) (Z M : List (List Int)) (w : World) (h : ReadU w w.heap.size a b Z M) (hi : CuIn Z M) :
    Calls Try.prog 49 #[.agg #[a, b]] w (AnsIC w (lnA Z M) (cuC9 Z M)) := by
  obtain ⟨W0, HE⟩ : ∃ V, V = w.alloc (.cells #[a, b] 56) := ⟨_, rfl⟩
  have hb0 : Below w.heap.size w W0 := by rw [HE]; exact below_box2 _ _
  have hx : UBox W0 w.heap.size a b := by rw [HE]; exact UBox.new _ _ _ _
  have HEQ := Lib.hid HE; have B := Lib.hid hb0; have HI := Lib.hid hi; have H := Lib.hid h; have HX := Lib.hid hx
  have HU := Lib.hid ((h.below hb0).more hb0.size)
  have x0 := hx.c0; have x1 := hx.c1; have x4 := hx.lt
  obtain ⟨q, hq⟩ : ∃ q, cuB Z M = q := ⟨_, rfl⟩
  have HQ := Lib.hid hq
  clear hx HE hb0 hi h
  go_enter Try.func49, Try.ntmps49
  go_wp2_with fail
  rw [← HEQ.out]
  refine (implIsCurve_any a b Z M W0 HU.out HI.out).mono ?_
  rintro e w1 ⟨rfl, hb1⟩
  rw [hq]
  clear hq x0 x1 x4
  have HB1 := Lib.hid (B.out.trans (hb1.mono B.out.size)); have HX1 := Lib.hid (HX.out.stay hb1); have HU1 := Lib.hid ((HU.out.below hb1).more hb1.size)
  have x0 := HX1.out.c0; have x1 := HX1.out.c1; have x4 := HX1.out.lt
  clear hb1
  cases q with
  | false =>
    have E : Hid (lnA Z M = [] ∧ cuC9 Z M = 1) := Lib.hid (by unfold lnA cuC9; rw [HQ.out]; simp)
    go_wp2_with fail
    go_ret2
    exact AnsIC.mk' E.out.1.symm E.out.2.symm ((OwnI.nil _ _)) HB1.out
  | true =>
    have HOK := Lib.hid (cuB_true.1 HQ.out)
    have E : Hid (lnA Z M = lnL Z M Z.length Z.length ∧ cuC9 Z M = 0) := Lib.hid (by unfold lnA cuC9; rw [HQ.out]; simp)
    go_wp2_with fail
    refine (lengths_any a b Z M Z.length w1 HU1.out HI.out HOK.out rfl).mono ?_
    rintro e w2 ⟨A, c, rfl, ho2, hb2⟩
    have HB2 := Lib.hid (HB1.out.trans (hb2.mono HB1.out.size)); have HO2 := Lib.hid (own_lessB ho2 (lo' := w.heap.size) HB1.out.size)
    clear hb2 ho2 x0 x1 x4
    go_wp2_with fail
    go_ret2
    exact AnsIC.mk' E.out.1.symm E.out.2.symm HO2.out HB2.out

set_option maxRecDepth 100000 in
set_option maxHeartbeats 1200000 in
theorem specLengthsOf_any (a b : Value) (Z M : List (List Int)) (w : World) (h : ReadU w w.heap.size a b Z M) (hi : CuIn Z M) :
    Calls Try.prog 48 #[.agg #[a, b]] w (AnsIC w (lnA Z M) (cuC9 Z M)) := by
  obtain ⟨W0, HE⟩ : ∃ V, V = w.alloc (.cells #[a, b] 56) := ⟨_, rfl⟩
  have hb0 : Below w.heap.size w W0 := by rw [HE]; exact below_box2 _ _
  have hx : UBox W0 w.heap.size a b := by rw [HE]; exact UBox.new _ _ _ _
  have HEQ := Lib.hid HE; have B := Lib.hid hb0; have HI := Lib.hid hi; have H := Lib.hid h; have HX := Lib.hid hx
  have HU := Lib.hid ((h.below hb0).more hb0.size)
  have x0 := hx.c0; have x1 := hx.c1; have x4 := hx.lt
  obtain ⟨q, hq⟩ : ∃ q, cuB Z M = q := ⟨_, rfl⟩
  have HQ := Lib.hid hq
  clear hx HE hb0 hi h
  go_enter Try.func48, Try.ntmps48
  go_wp2_with fail
  rw [← HEQ.out]
  refine (l09Is_any a b Z M W0 HU.out HI.out).mono ?_
  rintro e w1 ⟨rfl, hb1⟩
  rw [hq]
  clear hq x0 x1 x4
  have HB1 := Lib.hid (B.out.trans (hb1.mono B.out.size)); have HX1 := Lib.hid (HX.out.stay hb1); have HU1 := Lib.hid ((HU.out.below hb1).more hb1.size)
  have x0 := HX1.out.c0; have x1 := HX1.out.c1; have x4 := HX1.out.lt
  clear hb1
  cases q with
  | false =>
    have E : Hid (lnA Z M = [] ∧ cuC9 Z M = 1) := Lib.hid (by unfold lnA cuC9; rw [HQ.out]; simp)
    go_wp2_with fail
    go_ret2
    exact AnsIC.mk' E.out.1.symm E.out.2.symm ((OwnI.nil _ _)) HB1.out
  | true =>
    have HOK := Lib.hid (cuB_true.1 HQ.out)
    have E : Hid (lnA Z M = lnL Z M Z.length Z.length ∧ cuC9 Z M = 0) := Lib.hid (by unfold lnA cuC9; rw [HQ.out]; simp)
    go_wp2_with fail
    refine (l09Lengths_any a b Z M Z.length w1 HU1.out HI.out HOK.out rfl).mono ?_
    rintro e w2 ⟨A, c, rfl, ho2, hb2⟩
    have HB2 := Lib.hid (HB1.out.trans (hb2.mono HB1.out.size)); have HO2 := Lib.hid (own_lessB ho2 (lo' := w.heap.size) HB1.out.size)
    clear hb2 ho2 x0 x1 x4
    go_wp2_with fail
    go_ret2
    exact AnsIC.mk' E.out.1.symm E.out.2.symm HO2.out HB2.out

end Go.Proofs.Ytohbgfmjnanlkaa
