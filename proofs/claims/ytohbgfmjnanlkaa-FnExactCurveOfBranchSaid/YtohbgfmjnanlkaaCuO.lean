/- The table of a curve's meetings, the program's. Conditions: stated at each theorem. -/
import Derived.Test.YtohbgfmjnanlkaaCuN
import Derived.Great.BuildSlice
import Derived.Deep.DeepMust
namespace Go.Proofs.Ytohbgfmjnanlkaa
open Go.ChangeShapes Go.WideShapes Go.ChangeAt Go.RowKit Go.Deep
set_option linter.unusedVariables false
set_option linter.unusedSimpArgs false

/-- What the closure holds on to: the points of the branches and the curve. -/
structure MtC (w : World) (pb pg cb r : Nat) (a b : Value) (Z M : List (List Int)) (N : Nat → Nat) : Prop where
  pc : w.cell? ⟨pb, 0, none⟩ = some (.slice (some ⟨pg, 0, none⟩) r r)
  pbl : pb < w.heap.size
  pgl : pg < w.heap.size
  pts : ∀ i, i < r → ∃ A c A' c', w.cell? ⟨pg, i * 2, none⟩ = some (.slice A (N i) c) ∧ w.cell? ⟨pg, i * 2 + 1, none⟩ = some (.slice A' (N i - 1) c') ∧ ReadI w w.heap.size (.slice A (N i) c) (mqL (bt Z i) (N i)) ∧ ReadI w w.heap.size (.slice A' (N i - 1) c') (cdL (mqL (bt Z i) (N i)) (N i))
  cu : UBox w cb a b
  mat : ReadQ w w.heap.size b M
theorem MtC.stay {w w' : World} {pb pg cb r : Nat} {a b : Value} {Z M : List (List Int)} {N : Nat → Nat} (h : MtC w pb pg cb r a b Z M N) (hb : Below w.heap.size w w') : MtC w' pb pg cb r a b Z M N :=
  ⟨by rw [hb.cell (p := ⟨pb, 0, none⟩) h.pbl]; exact h.pc, Nat.lt_of_lt_of_le h.pbl hb.size, Nat.lt_of_lt_of_le h.pgl hb.size, fun i hi => by
    obtain ⟨A, c, A', c', h1, h2, h3, h4⟩ := h.pts i hi
    exact ⟨A, c, A', c', by rw [hb.cell (p := ⟨pg, i * 2, none⟩) h.pgl]; exact h1, by rw [hb.cell (p := ⟨pg, i * 2 + 1, none⟩) h.pgl]; exact h2, (h3.below hb).more hb.size, (h4.below hb).more hb.size⟩,
   h.cu.stay hb, (h.mat.below hb).more hb.size⟩
/-- What is known of a curve's numbers for the table. -/
structure MtN (Z M : List (List Int)) (r : Nat) (N : Nat → Nat) : Prop where
  r1 : 1 ≤ r
  r6 : r ≤ 6
  ml : M.length = r
  row : ∀ i, i < r → (M.getD i []).length = r
  br : ∀ i, i < r → brB (bt Z i) = true
  com : CuCom M r
  n4 : ∀ i, i < r → N i ≤ 400
  nn : ∀ i k, i < r → k < r → (mt M i k).toNat + 1 ≤ N i
noncomputable def tP (Z M : List (List Int)) (i k : Nat) : Int := mP (bt Z i) (bt Z k) (mt M i k).toNat
noncomputable def tN (Z M : List (List Int)) (i k : Nat) : Int := mN (bt Z i) (bt Z k) (mt M i k).toNat

set_option maxRecDepth 100000 in
set_option maxHeartbeats 1600000 in
theorem meetings1_any {pb pg cb r : Nat} {a b : Value} {Z M : List (List Int)} {N : Nat → Nat} (i k : Nat) (w : World) (h : MtC w pb pg cb r a b Z M N) (hn : MtN Z M r N) (hik : i < k) (hk : k < r) :
    Calls Try.prog 152 #[.int .i64 i, .int .i64 k, .pointer (some ⟨pb, 0, none⟩), .pointer (some ⟨cb, 0, none⟩)] w fun e w' => e = .returned (.agg #[.int .i64 (tP Z M i k), .int .i64 (tN Z M i k)]) ∧ Below w.heap.size w w' := by
  have hir : i < r := by omega
  have hof := hn.com.off i k hir hk (by omega)
  obtain ⟨l, hl⟩ : ∃ l : Nat, mt M i k = (l : Int) + 1 := ⟨(mt M i k - 1).toNat, by omega⟩
  have hl9 : l ≤ 199 := by omega
  have hlt : (mt M i k).toNat = l + 1 := by omega
  have hNi : l + 2 ≤ N i := by have := hn.nn i k hir hk; omega
  have hNk : l + 2 ≤ N k := by have := hn.nn k i hk hir; rw [hn.com.sym k i hk hir] at this; omega
  have hNi4 := hn.n4 i hir; have hNk4 := hn.n4 k hk
  have E : Hid (tP Z M i k = mP (bt Z i) (bt Z k) (l + 1) ∧ tN Z M i k = mN (bt Z i) (bt Z k) (l + 1)) := Lib.hid (by unfold tP tN; rw [hlt]; exact ⟨rfl, rfl⟩)
  obtain ⟨A1, c1, A2, c2, q1, q2, r1, r2⟩ := h.pts i hir
  obtain ⟨B1, d1, B2, d2, q3, q4, r3, r4⟩ := h.pts k hk
  obtain ⟨Am, cM, eM⟩ : ∃ A c, b = .slice A r c := by obtain ⟨A, c, e, _⟩ := h.mat; exact ⟨A, c, by rw [e, hn.ml]⟩
  subst eM
  obtain ⟨g, o, rfl, hg, hrows⟩ := rows_cellsU h.mat hn.ml hn.r1
  obtain ⟨um, hcm, hrm⟩ := hrows i hir
  obtain ⟨gi, oi, ci, rfl, hgi, hkm⟩ := row_cellsU hrm (hn.row i hir) hn.r1
  have q7 := hkm k hk
  have q5 := h.cu.c1
  have hpb := h.pbl; have hpg := h.pgl; have hcb := h.cu.lt
  have q0 := h.pc
  have e7 : (M.getD i []).getD k 0 = (l : Int) + 1 := hl
  rw [e7] at q7
  obtain ⟨W0, HE⟩ : ∃ V, V = w.alloc (.cells #[.int .i64 0, .int .i64 0] 118) := ⟨_, rfl⟩
  have hb0 : Below w.heap.size w W0 := by rw [HE]; exact below_box2 _ _
  have hz : UBox W0 w.heap.size (.int .i64 0) (.int .i64 0) := by rw [HE]; exact UBox.new _ _ _ _
  have hsz : W0.heap.size = w.heap.size + 1 := by rw [HE]; simp
  have s0 : W0.cell? ⟨pb, 0, none⟩ = some (.slice (some ⟨pg, 0, none⟩) r r) := by rw [hb0.cell (p := ⟨pb, 0, none⟩) hpb]; exact q0
  have s1 : W0.cell? ⟨pg, i * 2, none⟩ = some (.slice A1 (N i) c1) := by rw [hb0.cell (p := ⟨pg, i * 2, none⟩) hpg]; exact q1
  have s2 : W0.cell? ⟨pg, i * 2 + 1, none⟩ = some (.slice A2 (N i - 1) c2) := by rw [hb0.cell (p := ⟨pg, i * 2 + 1, none⟩) hpg]; exact q2
  have s3 : W0.cell? ⟨pg, k * 2, none⟩ = some (.slice B1 (N k) d1) := by rw [hb0.cell (p := ⟨pg, k * 2, none⟩) hpg]; exact q3
  have s4 : W0.cell? ⟨pg, k * 2 + 1, none⟩ = some (.slice B2 (N k - 1) d2) := by rw [hb0.cell (p := ⟨pg, k * 2 + 1, none⟩) hpg]; exact q4
  have s5 : W0.cell? ⟨cb, 1, none⟩ = some (.slice (some ⟨g, o, none⟩) r cM) := by rw [hb0.cell (p := ⟨cb, 1, none⟩) hcb]; exact q5
  have s6 : W0.cell? ⟨g, o + i, none⟩ = some (.slice (some ⟨gi, oi, none⟩) r ci) := by rw [hb0.cell (p := ⟨g, o + i, none⟩) hg]; exact hcm
  have s7 : W0.cell? ⟨gi, oi + k, none⟩ = some (.int .i64 ((l : Int) + 1)) := by rw [hb0.cell (p := ⟨gi, oi + k, none⟩) hgi]; exact q7
  have HR1 := Lib.hid ((r1.below hb0).more hb0.size); have HR2 := Lib.hid ((r2.below hb0).more hb0.size); have HR3 := Lib.hid ((r3.below hb0).more hb0.size); have HR4 := Lib.hid ((r4.below hb0).more hb0.size)
  have HBI := Lib.hid (hn.br i hir); have HBK := Lib.hid (hn.br k hk)
  have HB := Lib.hid hb0; have HZ := Lib.hid hz; have HEQ := Lib.hid HE
  have hpbW : pb ≠ w.heap.size := by omega
  have hpgW : pg ≠ w.heap.size := by omega
  have hcbW : cb ≠ w.heap.size := by omega
  have hgW : g ≠ w.heap.size := by omega
  have hgiW : gi ≠ w.heap.size := by omega
  have HSET : Hid (∀ (V : World) (p q : Value) (x : Addr) (hx : x.block ≠ w.heap.size) {u : Value}, V.cell? x = some u → ((V.setCell ⟨w.heap.size, 0, none⟩ p).setCell ⟨w.heap.size, 1, none⟩ q).cell? x = some u) := Lib.hid (fun V p q x hx u hu => by
    have e1 : ((V.setCell ⟨w.heap.size, 0, none⟩ p).setCell ⟨w.heap.size, 1, none⟩ q).heap[x.block]? = V.heap[x.block]? := by
      rw [Below.heap_setCell _ _ _ _ (by simpa using hx), Below.heap_setCell _ _ _ _ (by simpa using hx)]
    rw [World.cell?_of_block e1]; exact hu)
  have hpb : pb < W0.heap.size := by omega
  have hpg : pg < W0.heap.size := by omega
  have hcb : cb < W0.heap.size := by omega
  have hg : g < W0.heap.size := by omega
  have hgi : gi < W0.heap.size := by omega
  have hir2 : (i : Int) < (r : Int) := by omega
  have hkr2 : (k : Int) < (r : Int) := by omega
  clear q0 q1 q2 q3 q4 q5 q7 hcm hrm hkm hrows r1 r2 r3 r4 hb0 hz HE h hn hof hl hlt hsz e7
  go_enter Try.func152, Try.ntmps152
  go_wp2_with fail
  rw [← HEQ.out]
  refine wp_region_held_drew (S := fun w' => w'.cell? ⟨pb, 0, none⟩ = some (.slice (some ⟨pg, 0, none⟩) r r) ∧ w'.cell? ⟨pg, i * 2, none⟩ = some (.slice A1 (N i) c1) ∧ w'.cell? ⟨pg, i * 2 + 1, none⟩ = some (.slice A2 (N i - 1) c2) ∧ w'.cell? ⟨pg, k * 2, none⟩ = some (.slice B1 (N k) d1) ∧ w'.cell? ⟨pg, k * 2 + 1, none⟩ = some (.slice B2 (N k - 1) d2) ∧ w'.cell? ⟨cb, 1, none⟩ = some (.slice (some ⟨g, o, none⟩) r cM) ∧ w'.cell? ⟨g, o + i, none⟩ = some (.slice (some ⟨gi, oi, none⟩) r ci) ∧ w'.cell? ⟨gi, oi + k, none⟩ = some (.int .i64 ((l : Int) + 1))) (by kernel_rfl) ⟨s0, s1, s2, s3, s4, s5, s6, s7⟩ (fun hHeld => ?_)
  refine takeY 0 _ (v := ?_) rfl rfl (by kernel_rfl) (by kernel_rfl) (by kernel_rfl) (fun _ _ _ h => h) (by kernel_rfl) ?_ (by assumption) ?_
  rotate_left 1
  · intro w hSw; (try dsimp only at hSw); go_simp; (try with_reducible rfl)
  try simp only [Act.put, List.setIfInBounds_toArray, List.set_cons_zero, List.set_cons_succ]
  refine takeY 1 _ (v := ?_) rfl rfl (by kernel_rfl) (by kernel_rfl) (by kernel_rfl) (fun _ _ _ h => h) (by kernel_rfl) ?_ (by assumption) ?_
  rotate_left 1
  · intro w hSw; (try dsimp only at hSw); go_simp; (try with_reducible rfl)
  try simp only [Act.put, List.setIfInBounds_toArray, List.set_cons_zero, List.set_cons_succ]
  refine takeY 2 _ (v := ?_) rfl rfl (by kernel_rfl) (by kernel_rfl) (by kernel_rfl) (fun _ _ _ h => h) (by kernel_rfl) ?_ (by assumption) ?_
  rotate_left 1
  · intro w hSw; (try dsimp only at hSw); go_simp; (try with_reducible rfl)
  try simp only [Act.put, List.setIfInBounds_toArray, List.set_cons_zero, List.set_cons_succ]
  refine takeY 3 _ (v := ?_) rfl rfl (by kernel_rfl) (by kernel_rfl) (by kernel_rfl) (fun _ _ _ h => h) (by kernel_rfl) ?_ (by assumption) ?_
  rotate_left 1
  · intro w hSw; (try dsimp only at hSw); go_simp; (try with_reducible rfl)
  try simp only [Act.put, List.setIfInBounds_toArray, List.set_cons_zero, List.set_cons_succ]
  refine takeY 4 _ (v := ?_) rfl rfl (by kernel_rfl) (by kernel_rfl) (by kernel_rfl) (fun _ _ _ h => h) (by kernel_rfl) ?_ (by assumption) ?_
  rotate_left 1
  · intro w hSw; (try dsimp only at hSw); go_simp; (try with_reducible rfl)
  try simp only [Act.put, List.setIfInBounds_toArray, List.set_cons_zero, List.set_cons_succ]
  refine takeY 5 _ (v := ?_) rfl rfl (by kernel_rfl) (by kernel_rfl) (by kernel_rfl) (fun _ _ _ h => h) (by kernel_rfl) ?_ (by assumption) ?_
  rotate_left 1
  · intro w hSw; (try dsimp only at hSw); go_simp; (try with_reducible rfl)
  try simp only [Act.put, List.setIfInBounds_toArray, List.set_cons_zero, List.set_cons_succ]
  refine takeY 6 _ (v := ?_) rfl rfl (by kernel_rfl) (by kernel_rfl) (by kernel_rfl) (fun _ _ _ h => h) (by kernel_rfl) ?_ (by assumption) ?_
  rotate_left 1
  · intro w hSw; (try dsimp only at hSw); go_simp; (try with_reducible rfl)
  try simp only [Act.put, List.setIfInBounds_toArray, List.set_cons_zero, List.set_cons_succ]
  refine takeY 7 _ (v := ?_) rfl rfl (by kernel_rfl) (by kernel_rfl) (by kernel_rfl) (fun _ _ _ h => h) (by kernel_rfl) ?_ (by assumption) ?_
  rotate_left 1
  · intro w hSw; (try dsimp only at hSw); go_simp; (try with_reducible rfl)
  try simp only [Act.put, List.setIfInBounds_toArray, List.set_cons_zero, List.set_cons_succ]
  refine takeY 8 _ (v := ?_) rfl rfl (by kernel_rfl) (by kernel_rfl) (by kernel_rfl) (fun _ _ _ h => h) (by kernel_rfl) ?_ (by assumption) ?_
  rotate_left 1
  · intro w hSw; (try dsimp only at hSw); go_simp; (try with_reducible rfl)
  try simp only [Act.put, List.setIfInBounds_toArray, List.set_cons_zero, List.set_cons_succ]
  refine takeY 9 _ (v := ?_) rfl rfl (by kernel_rfl) (by kernel_rfl) (by kernel_rfl) (fun _ _ _ h => h) (by kernel_rfl) ?_ (by assumption) ?_
  rotate_left 1
  · intro w hSw; (try dsimp only at hSw); go_simp; (try with_reducible rfl)
  try simp only [Act.put, List.setIfInBounds_toArray, List.set_cons_zero, List.set_cons_succ]
  refine takeY 10 _ (v := ?_) rfl rfl (by kernel_rfl) (by kernel_rfl) (by kernel_rfl) (fun _ _ _ h => h) (by kernel_rfl) ?_ (by assumption) ?_
  rotate_left 1
  · intro w hSw; (try dsimp only at hSw); go_simp; (try with_reducible rfl)
  try simp only [Act.put, List.setIfInBounds_toArray, List.set_cons_zero, List.set_cons_succ]
  refine takeY 11 _ (v := ?_) rfl rfl (by kernel_rfl) (by kernel_rfl) (by kernel_rfl) (fun _ _ _ h => h) (by kernel_rfl) ?_ (by assumption) ?_
  rotate_left 1
  · intro w hSw; (try dsimp only at hSw); go_simp; (try with_reducible rfl)
  try simp only [Act.put, List.setIfInBounds_toArray, List.set_cons_zero, List.set_cons_succ]
  refine takeY 12 _ (v := ?_) rfl rfl (by kernel_rfl) (by kernel_rfl) (by kernel_rfl) (fun _ _ _ h => h) (by kernel_rfl) ?_ (by assumption) ?_
  rotate_left 1
  · intro w hSw; (try dsimp only at hSw); go_simp; (try with_reducible rfl)
  try simp only [Act.put, List.setIfInBounds_toArray, List.set_cons_zero, List.set_cons_succ]
  refine takeY 13 _ (v := ?_) rfl rfl (by kernel_rfl) (by kernel_rfl) (by kernel_rfl) (fun _ _ _ h => h) (by kernel_rfl) ?_ (by assumption) ?_
  rotate_left 1
  · intro w hSw; (try dsimp only at hSw); go_simp; (try with_reducible rfl)
  try simp only [Act.put, List.setIfInBounds_toArray, List.set_cons_zero, List.set_cons_succ]
  refine takeY 14 _ (v := ?_) rfl rfl (by kernel_rfl) (by kernel_rfl) (by kernel_rfl) (fun _ _ _ h => h) (by kernel_rfl) ?_ (by assumption) ?_
  rotate_left 1
  · intro w hSw; (try dsimp only at hSw); go_simp; (try with_reducible rfl)
  try simp only [Act.put, List.setIfInBounds_toArray, List.set_cons_zero, List.set_cons_succ]
  refine takeY 15 _ (v := ?_) rfl rfl (by kernel_rfl) (by kernel_rfl) (by kernel_rfl) (fun _ _ _ h => h) (by kernel_rfl) ?_ (by assumption) ?_
  rotate_left 1
  · intro w hSw; (try dsimp only at hSw); go_simp; (try with_reducible rfl)
  try simp only [Act.put, List.setIfInBounds_toArray, List.set_cons_zero, List.set_cons_succ]
  refine wpAnyH_ready (rs := [16]) (by kernel_rfl) (by simp) ?_
  refine AllReadyH.cons rfl (fun K hK => ?_) AllReadyH.nil
  go_simp
  refine (meet_any A1 A2 B1 B2 (N i) (N k) c1 c2 d1 d2 l (bt Z i) (bt Z k) W0.drew (by exact HR1.out) (by exact HR2.out) (by exact HR3.out) (by exact HR4.out) HBI.out HBK.out hNi hNk hNi4 hNk4).mono ?_
  rintro e w2 ⟨rfl, hbb⟩
  have HB2 : Hid (Below W0.heap.size W0 w2) := Lib.hid ((drewN_below W0 1).trans (by exact hbb))
  clear hbb
  refine hK.out _ w2 ⟨by rw [HB2.out.cell (p := ⟨pb, 0, none⟩) hpb]; exact s0, by rw [HB2.out.cell (p := ⟨pg, i * 2, none⟩) hpg]; exact s1, by rw [HB2.out.cell (p := ⟨pg, i * 2 + 1, none⟩) hpg]; exact s2, by rw [HB2.out.cell (p := ⟨pg, k * 2, none⟩) hpg]; exact s3, by rw [HB2.out.cell (p := ⟨pg, k * 2 + 1, none⟩) hpg]; exact s4, by rw [HB2.out.cell (p := ⟨cb, 1, none⟩) hcb]; exact s5, by rw [HB2.out.cell (p := ⟨g, o + i, none⟩) hg]; exact s6, by rw [HB2.out.cell (p := ⟨gi, oi + k, none⟩) hgi]; exact s7⟩ (fun hHeld => ?_)
  clear hK K
  try simp only [Act.put, List.setIfInBounds_toArray, List.set_cons_zero, List.set_cons_succ]
  have zz := HZ.out.stay HB2.out
  have u0 := zz.c0; have u1 := zz.c1; have u2 := zz.f0; have u3 := zz.f1; have u4 := zz.lt
  clear zz
  refine wpAnyH_ready (rs := [17]) (by kernel_rfl) (by simp) ?_
  refine AllReadyH.cons rfl (fun K hK => ?_) AllReadyH.nil
  go_simp
  refine hK.out _ _ ⟨HSET.out w2 _ _ _ (hpbW) (by rw [HB2.out.cell (p := ⟨pb, 0, none⟩) hpb]; exact s0), HSET.out w2 _ _ _ (hpgW) (by rw [HB2.out.cell (p := ⟨pg, i * 2, none⟩) hpg]; exact s1), HSET.out w2 _ _ _ (hpgW) (by rw [HB2.out.cell (p := ⟨pg, i * 2 + 1, none⟩) hpg]; exact s2), HSET.out w2 _ _ _ (hpgW) (by rw [HB2.out.cell (p := ⟨pg, k * 2, none⟩) hpg]; exact s3), HSET.out w2 _ _ _ (hpgW) (by rw [HB2.out.cell (p := ⟨pg, k * 2 + 1, none⟩) hpg]; exact s4), HSET.out w2 _ _ _ (hcbW) (by rw [HB2.out.cell (p := ⟨cb, 1, none⟩) hcb]; exact s5), HSET.out w2 _ _ _ (hgW) (by rw [HB2.out.cell (p := ⟨g, o + i, none⟩) hg]; exact s6), HSET.out w2 _ _ _ (hgiW) (by rw [HB2.out.cell (p := ⟨gi, oi + k, none⟩) hgi]; exact s7)⟩ (fun hHeld => ?_)
  clear hK K
  try simp only [Act.put, List.setIfInBounds_toArray, List.set_cons_zero, List.set_cons_succ]
  refine wpAnyH_done (by kernel_rfl) ?_ _
  clear hHeld u0 u1 u2 u3 u4
  have cr := ((HZ.out.stay HB2.out).set0 (.int .i64 (mP (bt Z i) (bt Z k) (l + 1)))).set1 (.int .i64 (mN (bt Z i) (bt Z k) (l + 1)))
  have cr0 := cr.c0; have cr1 := cr.c1
  go_wp2_with fail
  refine bodyPost_ret (v := .agg #[.int .i64 (mP (bt Z i) (bt Z k) (l + 1)), .int .i64 (mN (bt Z i) (bt Z k) (l + 1))]) (by simp [results, Try.results152, go_sem, cr0, cr1]) rfl ⟨by rw [E.out.1, E.out.2], ?_⟩
  exact ((HB.out.trans (HB2.out.mono HB.out.size)).setCell (p := ⟨w.heap.size, 0, none⟩) (Nat.le_refl _) _).setCell (p := ⟨w.heap.size, 1, none⟩) (Nat.le_refl _) _

/-- The cells of a table, in pairs. -/
def prC (f g : Nat → Int) (n : Nat) : List Value := (List.range n).flatMap fun t => [.int .i64 (f t), .int .i64 (g t)]
theorem prC_next (f g : Nat → Int) (n : Nat) : prC f g (n + 1) = prC f g n ++ [.int .i64 (f n), .int .i64 (g n)] := by simp [prC, List.range_succ]
theorem prC_len (f g : Nat → Int) : ∀ n, (prC f g n).length = n * 2
  | 0 => rfl
  | n + 1 => by rw [prC_next, List.length_append, prC_len f g n]; simp; omega
theorem prC_at (f g : Nat → Int) : ∀ n t, t < n → (prC f g n)[t * 2]? = some (.int .i64 (f t)) ∧ (prC f g n)[t * 2 + 1]? = some (.int .i64 (g t))
  | n + 1, t, ht => by
    rw [prC_next]
    have hl := prC_len f g n
    by_cases e : t = n
    · subst e
      rw [List.getElem?_append_right (by omega), List.getElem?_append_right (by omega), hl]
      simp
    · have := prC_at f g n t (by omega)
      rw [List.getElem?_append_left (by omega), List.getElem?_append_left (by omega)]
      exact this
theorem row_setU {w : World} {lo sz n : Nat} {t : TypeId} {v : Value} {xs : List Value} (h : w.ownsRow lo t sz v n xs) {x : Addr} (hx : x.block < lo) (u : Value) : (w.setCell x u).ownsRow lo t sz v n xs := by
  refine ⟨h.1, ?_⟩
  rcases h.2 with hn | ⟨g, cap, cur, rfl, hb, hgg, rest⟩
  · exact .inl hn
  · refine .inr ⟨g, cap, cur, rfl, hb, ?_, rest⟩
    rw [Below.heap_setCell _ _ _ _ (by omega)]
    exact hgg
theorem UBox.grown {w w' : World} {h : Nat} {row : Option Nat} {a b : Value} (k : UBox w h a b) (hg : w.grownBy w' row) (hne : some h ≠ row) : UBox w' h a b := k.of_block (hg.block h k.lt hne) hg.size
theorem mt_info : (Try.prog.info? 118).map (fun i => (i.zero, i.size, i.bytes)) = some (some (.agg #[.int .i64 0, .int .i64 0]), 2, 16) := by kernel_rfl
theorem build_mt (x y : Int) (w : World) : (Instr.buildSlice 105 1 #[(0, .agg #[.int .i64 x, .int .i64 y])]).run Try.prog w = .ok (.slice (some ⟨w.heap.size, 0, none⟩) 1 1) (w.alloc (.cells #[.int .i64 x, .int .i64 y] 118)) := by
  obtain ⟨i, hi, hz, hs, hb⟩ := info_parts mt_info
  refine run_buildSlice w _ 118 1 _ _ i _ Try.underlying105 hi hz (by rw [hs]; omega) (by rw [hs]; omega) ?_
  rw [hs]
  first | kernel_rfl | simp [Instr.fill, Value.cells]
theorem MtT_of_own {w : World} {lo T c : Nat} {A : Option Addr} {f g : Nat → Int} (h : w.ownsRow lo 118 2 (.slice A T c) T (prC f g T)) : MtT w w.heap.size A T f g := fun t ht => by
  rcases id h.2 with ⟨_, h0⟩ | ⟨gg, cap, cur, e, hb, hg, hnc, hcm, hcs, hcur⟩
  · omega
  · simp only [Value.slice.injEq] at e
    obtain ⟨rfl, _, rfl⟩ := e
    refine ⟨gg, rfl, (h.lt gg rfl).2, ?_, ?_⟩
    · rw [World.ownsRow.cellAt h (t * 2) (by omega)]; exact (prC_at f g T t ht).1
    · rw [World.ownsRow.cellAt h (t * 2 + 1) (by omega)]; exact (prC_at f g T t ht).2
/-- The values of the t-th cell. -/
noncomputable def cP (Z M : List (List Int)) (r t : Nat) : Int := tP Z M (tI r t).1 (tI r t).2
noncomputable def cN (Z M : List (List Int)) (r t : Nat) : Int := tN Z M (tI r t).1 (tI r t).2
theorem cP_at {Z M : List (List Int)} {r i k : Nat} (hr : r ≤ 6) (h : i < k) (hk : k < r) : cP Z M r (tX r i k) = tP Z M i k := by unfold cP; rw [tI_tX hr h hk]
theorem cN_at {Z M : List (List Int)} {r i k : Nat} (hr : r ≤ 6) (h : i < k) (hk : k < r) : cN Z M r (tX r i k) = tN Z M i k := by unfold cN; rw [tI_tX hr h hk]
set_option maxRecDepth 100000 in
set_option maxHeartbeats 1600000 in
theorem triangleM_any {pb pg cb r : Nat} {a b : Value} {Z M : List (List Int)} {N : Nat → Nat} (w : World) (h : MtC w pb pg cb r a b Z M N) (hn : MtN Z M r N) :
    Calls Try.prog 151 #[.int .i64 r, .func (.func 152) #[] #[.pointer (some ⟨pb, 0, none⟩), .pointer (some ⟨cb, 0, none⟩)]] w fun e w' => ∃ A c, e = .returned (.agg #[.int .i64 r, .slice A (tO r r) c]) ∧ MtT w' w'.heap.size A (tO r r) (cP Z M r) (cN Z M r) ∧ (∀ x, A = some x → w.heap.size ≤ x.block) ∧ Below w.heap.size w w' := by
  obtain ⟨W0, HE⟩ : ∃ V, V = (w.alloc (.cells #[.int .i64 0, .slice none 0 0] 107)).alloc (.cells #[.int .i64 r, .slice none 0 0] 107) := ⟨_, rfl⟩
  have hb0 : Below w.heap.size w W0 := by rw [HE]; exact (below_box2 _ _).alloc (by simp) _
  have hz : UBox W0 w.heap.size (.int .i64 0) (.slice none 0 0) := by rw [HE]; exact (UBox.new w _ _ _).alloc _
  have hy : UBox W0 (w.heap.size + 1) (.int .i64 r) (.slice none 0 0) := by
    have := UBox.new (w.alloc (.cells #[.int .i64 0, .slice none 0 0] 107)) (.int .i64 r) (.slice none 0 0) 107
    rw [HE]; simpa using this
  have hsz : W0.heap.size = w.heap.size + 2 := by rw [HE]; simp
  have HB := Lib.hid hb0; have HEQ := Lib.hid HE; have HZ := Lib.hid hz; have HY := Lib.hid hy
  have HC := Lib.hid h
  have HN := Lib.hid hn
  have h1 := hn.r1; have h6 := hn.r6
  obtain ⟨j0, hj0, hj1, hj2, hj3⟩ := info_parts mt_info
  have hbm := fun (x y : Int) (w : World) => build_mt x y w
  have HO0 : Hid (W0.ownsRow (w.heap.size + 2) 118 2 (.slice none (tO r 0) 0) (tO r 0) (prC (cP Z M r) (cN Z M r) (tO r 0))) := Lib.hid (by rw [show tO r 0 = 0 from by simp [tO]]; exact World.ownsRow_nil _ _ _ _)
  have hs2 : w.heap.size + 2 ≤ W0.heap.size := by omega
  have HS0 := Lib.hid hs2; have HSE := Lib.hid hsz
  clear h hb0 hz hy HE hsz hn hs2
  go_enter Try.func151, Try.ntmps151
  go_wp2_with fail
  rw [← HEQ.out]
  go_loopw [11] (fun vi wr => ∃ (i : Nat) (A : Option Addr) (c : Nat), i ≤ r ∧ vi = .int .i64 i ∧ Hid (wr.ownsRow (w.heap.size + 2) 118 2 (.slice A (tO r i) c) (tO r i) (prC (cP Z M r) (cN Z M r) (tO r i))) ∧ Hid (UBox wr w.heap.size (.int .i64 0) (.slice none 0 0)) ∧ Hid (UBox wr (w.heap.size + 1) (.int .i64 r) (.slice A (tO r i) c)) ∧ Hid (Below w.heap.size w wr)) (fun vi _ => r - (intOf vi).toNat)
  case atStart => exact ⟨0, none, 0, by omega, rfl, HO0, HZ, (by simpa [tO] using HY), HB⟩
  case round =>
    obtain ⟨i, A, c, hi, rfl, hO, hZ, hY, hB⟩ := hrel
    by_cases hir : i < r
    · have hir2 : (i : Int) < (r : Int) := by omega
      have p0 : IntKind.i64.wrap ((i : Int) + 1) = ((i + 1 : Nat) : Int) := by rw [IntWalk.i64_in _ (by omega)]; push_cast; rfl
      have HO1 : Hid (wr.ownsRow (w.heap.size + 2) 118 2 (.slice A (tO r i + (i + 1 - i - 1)) c) (tO r i + (i + 1 - i - 1)) (prC (cP Z M r) (cN Z M r) (tO r i + (i + 1 - i - 1)))) := Lib.hid (by rw [show tO r i + (i + 1 - i - 1) = tO r i by omega]; exact hO.out)
      have HY1 : Hid (UBox wr (w.heap.size + 1) (.int .i64 r) (.slice A (tO r i + (i + 1 - i - 1)) c)) := Lib.hid (by rw [show tO r i + (i + 1 - i - 1) = tO r i by omega]; exact hY.out)
      go_wp2_with fail
      go_loopw [7] (fun vk wr => ∃ (k : Nat) (A : Option Addr) (c : Nat), i + 1 ≤ k ∧ k ≤ r ∧ vk = .int .i64 k ∧ Hid (wr.ownsRow (w.heap.size + 2) 118 2 (.slice A (tO r i + (k - i - 1)) c) (tO r i + (k - i - 1)) (prC (cP Z M r) (cN Z M r) (tO r i + (k - i - 1)))) ∧ Hid (UBox wr w.heap.size (.int .i64 0) (.slice none 0 0)) ∧ Hid (UBox wr (w.heap.size + 1) (.int .i64 r) (.slice A (tO r i + (k - i - 1)) c)) ∧ Hid (Below w.heap.size w wr)) (fun vk _ => r - (intOf vk).toNat)
      case atStart => exact ⟨i + 1, A, c, by omega, by omega, (by first | rfl | (rw [p0]) | (push_cast; rfl)), HO1, hZ, HY1, hB⟩
      case round =>
        clear HO1 HY1 hO hZ hY hB
        obtain ⟨k, A, c, hk1, hk, rfl, hO, hZ, hY, hB⟩ := hrel
        by_cases hkr : k < r
        · have hkr2 : (k : Int) < (r : Int) := by omega
          have hx : tX r i k = tO r i + (k - i - 1) := rfl
          have hxl := tX_lt h6 (show i < k by omega) hkr
          have hnx : tO r i + (k + 1 - i - 1) = tO r i + (k - i - 1) + 1 := by omega
          have hcp := cP_at (Z := Z) (M := M) h6 (show i < k by omega) hkr
          have hcn := cN_at (Z := Z) (M := M) h6 (show i < k by omega) hkr
          have h15 : r * (r - 1) / 2 ≤ 15 := by rw [← tO_end h6]; exact tO_le h6 (Nat.le_refl _)
          rw [hx] at hxl hcp hcn
          have HPN : Hid (prC (cP Z M r) (cN Z M r) (tO r i + (k + 1 - i - 1)) = prC (cP Z M r) (cN Z M r) (tO r i + (k - i - 1)) ++ [.int .i64 (tP Z M i k), .int .i64 (tN Z M i k)]) := Lib.hid (by rw [hnx, prC_next, hcp, hcn])
          have hnxl : tO r i + (k + 1 - i - 1) = tO r i + (k - i - 1) + 1 := hnx
          obtain ⟨n, hn⟩ : ∃ n, tO r i + (k - i - 1) = n := ⟨_, rfl⟩
          obtain ⟨n2, hn2⟩ : ∃ n, tO r i + (k + 1 - i - 1) = n := ⟨_, rfl⟩
          have HN2 := Lib.hid hn2; have HNE := Lib.hid hnxl
          rw [hn] at hO hY hxl HPN hnxl HNE
          rw [hn2] at HPN hnxl HNE
          have p1 : IntKind.i64.wrap ((k : Int) + 1) = (k : Int) + 1 := IntWalk.i64_in _ (by omega)
          have y0 := hY.out.c0; have y1 := hY.out.c1; have y2 := hY.out.f0; have y3 := hY.out.f1; have y4 := hY.out.lt
          clear hx hcp hcn hnx hn2
          go_wp2_with fail
          clear y0 y1 y2 y3 y4
          have hb : Below wr.heap.size wr wr.drew := drewN_below wr 1
          replace hO := Lib.hid (hO.out.kept (grown_of_below hb none) (by cases (Value.slice A n c).ownBlock <;> simp))
          replace hZ := Lib.hid (hZ.out.stay hb)
          replace hY := Lib.hid (hY.out.stay hb)
          replace hB := Lib.hid (hB.out.trans (Below.mono hb hB.out.size))
          clear hb
          refine wp_region_held_drew (S := fun w' => w'.cell? ⟨w.heap.size, 0, none⟩ = some (.int .i64 0)) (by kernel_rfl) (hZ.out.c0) (fun hHeld => ?_)
          refine takeY 0 _ (v := ?_) rfl rfl (by kernel_rfl) (by kernel_rfl) (by kernel_rfl) (fun _ _ _ h => h) (by kernel_rfl) ?_ (by assumption) ?_
          rotate_left 1
          · intro w hSw; (try dsimp only at hSw); go_simp; (try with_reducible rfl)
          try simp only [Act.put, List.setIfInBounds_toArray, List.set_cons_zero, List.set_cons_succ]
          refine takeY 2 _ (v := ?_) rfl rfl (by kernel_rfl) (by kernel_rfl) (by kernel_rfl) (fun _ _ _ h => h) (by kernel_rfl) ?_ (by assumption) ?_
          rotate_left 1
          · intro w hSw; (try dsimp only at hSw); go_simp; (try with_reducible rfl)
          try simp only [Act.put, List.setIfInBounds_toArray, List.set_cons_zero, List.set_cons_succ]
          refine takeY 3 _ (v := ?_) rfl rfl (by kernel_rfl) (by kernel_rfl) (by kernel_rfl) (fun _ _ _ h => h) (by kernel_rfl) ?_ (by assumption) ?_
          rotate_left 1
          · intro w hSw; (try dsimp only at hSw); go_simp; (try with_reducible rfl)
          try simp only [Act.put, List.setIfInBounds_toArray, List.set_cons_zero, List.set_cons_succ]
          refine takeY 4 _ (v := ?_) rfl rfl (by kernel_rfl) (by kernel_rfl) (by kernel_rfl) (fun _ _ _ h => h) (by kernel_rfl) ?_ (by assumption) ?_
          rotate_left 1
          · intro w hSw; (try dsimp only at hSw); go_simp; (try with_reducible rfl)
          try simp only [Act.put, List.setIfInBounds_toArray, List.set_cons_zero, List.set_cons_succ]
          refine wpAnyH_ready (rs := [1, 5]) (by kernel_rfl) (by simp) ?_
          refine AllReadyH.cons rfl (fun K hK => ?_) (AllReadyH.cons rfl (fun K hK => ?_) AllReadyH.nil)
          · have y1 := hY.out.c1; have y4 := hY.out.lt
            go_simp
            refine hK.out _ (wr.drew) (hZ.out.c0) (fun hHeld => ?_)
            clear hK K
            try simp only [Act.put, List.setIfInBounds_toArray, List.set_cons_zero, List.set_cons_succ]
            clear y1 y4
            refine wpAnyH_ready (rs := [5]) (by kernel_rfl) (by simp) ?_
            refine AllReadyH.cons rfl (fun K hK => ?_) AllReadyH.nil
            go_simp
            refine (meetings1_any i k (wr.drew) (HC.out.stay hB.out) HN.out (by omega) hkr).mono ?_
            rintro e w2 ⟨rfl, hb⟩
            replace hO := Lib.hid (hO.out.kept (grown_of_below hb none) (by cases (Value.slice A n c).ownBlock <;> simp))
            replace hZ := Lib.hid (hZ.out.stay hb)
            replace hY := Lib.hid (hY.out.stay hb)
            replace hB := Lib.hid (hB.out.trans (Below.mono hb hB.out.size))
            clear hb
            refine hK.out _ (w2) (hZ.out.c0) (fun hHeld => ?_)
            clear hK K
            try simp only [Act.put, List.setIfInBounds_toArray, List.set_cons_zero, List.set_cons_succ]
            refine wpAnyH_ready (rs := [6]) (by kernel_rfl) (by simp) ?_
            refine AllReadyH.cons rfl (fun K hK => ?_) AllReadyH.nil
            go_simp
            obtain ⟨W3, HE3⟩ : ∃ V, V = World.alloc (w2) (.cells #[.int .i64 (tP Z M i k), .int .i64 (tN Z M i k)] 118) := ⟨_, rfl⟩
            rw [← HE3]
            have hb : Below (w2).heap.size (w2) W3 := by rw [HE3]; exact below_box2 _ _
            have HNW : Hid (W3.heap[(w2).heap.size]? = some (.cells #[.int .i64 (tP Z M i k), .int .i64 (tN Z M i k)] 118 (0, 0))) := Lib.hid (by rw [HE3]; exact heap_alloc_new _ _)
            clear HE3
            replace hO := Lib.hid (hO.out.kept (grown_of_below hb none) (by cases (Value.slice A n c).ownBlock <;> simp))
            replace hZ := Lib.hid (hZ.out.stay hb)
            replace hY := Lib.hid (hY.out.stay hb)
            replace hB := Lib.hid (hB.out.trans (Below.mono hb hB.out.size))
            clear hb
            refine hK.out _ (W3) (hZ.out.c0) (fun hHeld => ?_)
            clear hK K
            try simp only [Act.put, List.setIfInBounds_toArray, List.set_cons_zero, List.set_cons_succ]
            have hs3 : w.heap.size + 2 ≤ (W3).heap.size := by have := hY.out.lt; omega
            refine wpAnyH_ready (rs := [7]) (by kernel_rfl) (by simp) ?_
            refine AllReadyH.cons rfl (fun K hK => ?_) AllReadyH.nil
            try simp only [List.getElem_toArray, List.getElem_cons_succ, List.getElem_cons_zero]
            rw [if_pos (by kernel_rfl)]
            refine wp_append_lies _ (.tmp 22) (.tmp 27) 105 ?am2 (w.heap.size + 2) 118 j0 (.agg #[.int .i64 0, .int .i64 0]) 2 16 Try.underlying105 hj0 hj1 hj2 hj3 rfl (by decide) (.slice A n c) n (prC (cP Z M r) (cN Z M r) n) ?am3 ?am4 ⟨w2.heap.size, 0, none⟩ 1 1 [.int .i64 (tP Z M i k), .int .i64 (tN Z M i k)] ?am5 rfl ?am6 ?am7 (by decide) ?am8 ?am9 ?am10 _ rfl ?am11
            case am2 => rfl
            case am3 => rfl
            case am5 => rfl
            case am4 => exact hO.out
            case am6 => exact World.news_of_block (cs := #[.int .i64 (tP Z M i k), .int .i64 (tN Z M i k)]) (t := 118) (fr := (0, 0)) HNW.out
            case am7 => simp [Value.oneCell']
            case am8 => simp only [maxLen]; omega
            case am9 => omega
            case am10 => exact hs3
            intro g2 cap2 w4 hown4 hgrow4 hg4 hlt4
            have hne : ∀ x, x < w.heap.size + 2 → some x ≠ (Value.slice A n c).ownBlock := (fun x hx e => by have := (World.ownsRow.lt hO.out x e.symm).1; omega)
            replace hZ := Lib.hid (hZ.out.grown hgrow4 (hne _ (by omega)))
            replace hY := Lib.hid (hY.out.grown hgrow4 (hne _ (by omega)))
            replace hB := Lib.hid (hB.out.grown hgrow4 hB.out.size (fun kk hkk => by have := (World.ownsRow.lt hO.out kk hkk).1; omega))
            have hg4w : w.heap.size + 2 ≤ g2 := (World.ownsRow.lt hown4 g2 rfl).1
            replace hO := Lib.hid hown4
            clear hgrow4 hg4 hlt4 hne hown4
            refine hK.out _ (w4) (hZ.out.c0) (fun hHeld => ?_)
            clear hK K
            try simp only [Act.put, List.setIfInBounds_toArray, List.set_cons_zero, List.set_cons_succ]
            refine takeY 8 _ (v := ?_) rfl rfl (by kernel_rfl) (by kernel_rfl) (by kernel_rfl) (fun _ _ _ h => h) (by kernel_rfl) ?_ (by assumption) ?_
            rotate_left 1
            · intro w hSw; (try dsimp only at hSw); go_simp; (try with_reducible rfl)
            try simp only [Act.put, List.setIfInBounds_toArray, List.set_cons_zero, List.set_cons_succ]
            have y0 := hY.out.c0; have y1 := hY.out.c1; have y2 := hY.out.f0; have y3 := hY.out.f1; have y4 := hY.out.lt
            refine wpAnyH_ready (rs := [9]) (by kernel_rfl) (by simp) ?_
            refine AllReadyH.cons rfl (fun K hK => ?_) AllReadyH.nil
            go_simp
            have hZ5 := Lib.hid (hZ.out.other (g := w.heap.size + 1) (o := 1) (by omega) (.slice (some ⟨g2, 0, none⟩) (n + 1) cap2))
            have hY5 := Lib.hid (hY.out.set1 (.slice (some ⟨g2, 0, none⟩) (n + 1) cap2))
            have hB5 := Lib.hid (hB.out.setCell (p := ⟨w.heap.size + 1, 1, none⟩) (by show w.heap.size ≤ w.heap.size + 1; omega) (.slice (some ⟨g2, 0, none⟩) (n + 1) cap2))
            have hO5 := Lib.hid (row_setU hO.out (x := ⟨w.heap.size + 1, 1, none⟩) (by show w.heap.size + 1 < _; omega) (.slice (some ⟨g2, 0, none⟩) (n + 1) cap2))
            refine hK.out _ _ (hZ5.out.c0) (fun hHeld => ?_)
            clear hK K y0 y1 y2 y3 y4
            try simp only [Act.put, List.setIfInBounds_toArray, List.set_cons_zero, List.set_cons_succ]
            refine wpAnyH_done (by kernel_rfl) ?_ _
            go_wp2_with fail
            go_roundw
            case rel => exact ⟨k + 1, some ⟨g2, 0, none⟩, cap2, by omega, by omega, by go_num, Lib.hid (by rw [HN2.out, HNE.out, ← HNE.out, HPN.out, HNE.out]; exact hO5.out), hZ5, Lib.hid (by rw [HN2.out, HNE.out]; exact hY5.out), hB5⟩
            case measure => simp [intOf]; omega
          · go_simp
            refine (meetings1_any i k (wr.drew) (HC.out.stay hB.out) HN.out (by omega) hkr).mono ?_
            rintro e w2 ⟨rfl, hb⟩
            replace hO := Lib.hid (hO.out.kept (grown_of_below hb none) (by cases (Value.slice A n c).ownBlock <;> simp))
            replace hZ := Lib.hid (hZ.out.stay hb)
            replace hY := Lib.hid (hY.out.stay hb)
            replace hB := Lib.hid (hB.out.trans (Below.mono hb hB.out.size))
            clear hb
            refine hK.out _ (w2) (hZ.out.c0) (fun hHeld => ?_)
            clear hK K
            try simp only [Act.put, List.setIfInBounds_toArray, List.set_cons_zero, List.set_cons_succ]
            refine wpAnyH_ready (rs := [1, 6]) (by kernel_rfl) (by simp) ?_
            refine AllReadyH.cons rfl (fun K hK => ?_) (AllReadyH.cons rfl (fun K hK => ?_) AllReadyH.nil)
            · have y1 := hY.out.c1; have y4 := hY.out.lt
              go_simp
              refine hK.out _ (w2) (hZ.out.c0) (fun hHeld => ?_)
              clear hK K
              try simp only [Act.put, List.setIfInBounds_toArray, List.set_cons_zero, List.set_cons_succ]
              clear y1 y4
              refine wpAnyH_ready (rs := [6]) (by kernel_rfl) (by simp) ?_
              refine AllReadyH.cons rfl (fun K hK => ?_) AllReadyH.nil
              go_simp
              obtain ⟨W3, HE3⟩ : ∃ V, V = World.alloc (w2) (.cells #[.int .i64 (tP Z M i k), .int .i64 (tN Z M i k)] 118) := ⟨_, rfl⟩
              rw [← HE3]
              have hb : Below (w2).heap.size (w2) W3 := by rw [HE3]; exact below_box2 _ _
              have HNW : Hid (W3.heap[(w2).heap.size]? = some (.cells #[.int .i64 (tP Z M i k), .int .i64 (tN Z M i k)] 118 (0, 0))) := Lib.hid (by rw [HE3]; exact heap_alloc_new _ _)
              clear HE3
              replace hO := Lib.hid (hO.out.kept (grown_of_below hb none) (by cases (Value.slice A n c).ownBlock <;> simp))
              replace hZ := Lib.hid (hZ.out.stay hb)
              replace hY := Lib.hid (hY.out.stay hb)
              replace hB := Lib.hid (hB.out.trans (Below.mono hb hB.out.size))
              clear hb
              refine hK.out _ (W3) (hZ.out.c0) (fun hHeld => ?_)
              clear hK K
              try simp only [Act.put, List.setIfInBounds_toArray, List.set_cons_zero, List.set_cons_succ]
              have hs3 : w.heap.size + 2 ≤ (W3).heap.size := by have := hY.out.lt; omega
              refine wpAnyH_ready (rs := [7]) (by kernel_rfl) (by simp) ?_
              refine AllReadyH.cons rfl (fun K hK => ?_) AllReadyH.nil
              try simp only [List.getElem_toArray, List.getElem_cons_succ, List.getElem_cons_zero]
              rw [if_pos (by kernel_rfl)]
              refine wp_append_lies _ (.tmp 22) (.tmp 27) 105 ?bm2 (w.heap.size + 2) 118 j0 (.agg #[.int .i64 0, .int .i64 0]) 2 16 Try.underlying105 hj0 hj1 hj2 hj3 rfl (by decide) (.slice A n c) n (prC (cP Z M r) (cN Z M r) n) ?bm3 ?bm4 ⟨w2.heap.size, 0, none⟩ 1 1 [.int .i64 (tP Z M i k), .int .i64 (tN Z M i k)] ?bm5 rfl ?bm6 ?bm7 (by decide) ?bm8 ?bm9 ?bm10 _ rfl ?bm11
              case bm2 => rfl
              case bm3 => rfl
              case bm5 => rfl
              case bm4 => exact hO.out
              case bm6 => exact World.news_of_block (cs := #[.int .i64 (tP Z M i k), .int .i64 (tN Z M i k)]) (t := 118) (fr := (0, 0)) HNW.out
              case bm7 => simp [Value.oneCell']
              case bm8 => simp only [maxLen]; omega
              case bm9 => omega
              case bm10 => exact hs3
              intro g2 cap2 w4 hown4 hgrow4 hg4 hlt4
              have hne : ∀ x, x < w.heap.size + 2 → some x ≠ (Value.slice A n c).ownBlock := (fun x hx e => by have := (World.ownsRow.lt hO.out x e.symm).1; omega)
              replace hZ := Lib.hid (hZ.out.grown hgrow4 (hne _ (by omega)))
              replace hY := Lib.hid (hY.out.grown hgrow4 (hne _ (by omega)))
              replace hB := Lib.hid (hB.out.grown hgrow4 hB.out.size (fun kk hkk => by have := (World.ownsRow.lt hO.out kk hkk).1; omega))
              have hg4w : w.heap.size + 2 ≤ g2 := (World.ownsRow.lt hown4 g2 rfl).1
              replace hO := Lib.hid hown4
              clear hgrow4 hg4 hlt4 hne hown4
              refine hK.out _ (w4) (hZ.out.c0) (fun hHeld => ?_)
              clear hK K
              try simp only [Act.put, List.setIfInBounds_toArray, List.set_cons_zero, List.set_cons_succ]
              refine takeY 8 _ (v := ?_) rfl rfl (by kernel_rfl) (by kernel_rfl) (by kernel_rfl) (fun _ _ _ h => h) (by kernel_rfl) ?_ (by assumption) ?_
              rotate_left 1
              · intro w hSw; (try dsimp only at hSw); go_simp; (try with_reducible rfl)
              try simp only [Act.put, List.setIfInBounds_toArray, List.set_cons_zero, List.set_cons_succ]
              have y0 := hY.out.c0; have y1 := hY.out.c1; have y2 := hY.out.f0; have y3 := hY.out.f1; have y4 := hY.out.lt
              refine wpAnyH_ready (rs := [9]) (by kernel_rfl) (by simp) ?_
              refine AllReadyH.cons rfl (fun K hK => ?_) AllReadyH.nil
              go_simp
              have hZ5 := Lib.hid (hZ.out.other (g := w.heap.size + 1) (o := 1) (by omega) (.slice (some ⟨g2, 0, none⟩) (n + 1) cap2))
              have hY5 := Lib.hid (hY.out.set1 (.slice (some ⟨g2, 0, none⟩) (n + 1) cap2))
              have hB5 := Lib.hid (hB.out.setCell (p := ⟨w.heap.size + 1, 1, none⟩) (by show w.heap.size ≤ w.heap.size + 1; omega) (.slice (some ⟨g2, 0, none⟩) (n + 1) cap2))
              have hO5 := Lib.hid (row_setU hO.out (x := ⟨w.heap.size + 1, 1, none⟩) (by show w.heap.size + 1 < _; omega) (.slice (some ⟨g2, 0, none⟩) (n + 1) cap2))
              refine hK.out _ _ (hZ5.out.c0) (fun hHeld => ?_)
              clear hK K y0 y1 y2 y3 y4
              try simp only [Act.put, List.setIfInBounds_toArray, List.set_cons_zero, List.set_cons_succ]
              refine wpAnyH_done (by kernel_rfl) ?_ _
              go_wp2_with fail
              go_roundw
              case rel => exact ⟨k + 1, some ⟨g2, 0, none⟩, cap2, by omega, by omega, by go_num, Lib.hid (by rw [HN2.out, HNE.out, ← HNE.out, HPN.out, HNE.out]; exact hO5.out), hZ5, Lib.hid (by rw [HN2.out, HNE.out]; exact hY5.out), hB5⟩
              case measure => simp [intOf]; omega
            · go_simp
              obtain ⟨W3, HE3⟩ : ∃ V, V = World.alloc (w2) (.cells #[.int .i64 (tP Z M i k), .int .i64 (tN Z M i k)] 118) := ⟨_, rfl⟩
              rw [← HE3]
              have hb : Below (w2).heap.size (w2) W3 := by rw [HE3]; exact below_box2 _ _
              have HNW : Hid (W3.heap[(w2).heap.size]? = some (.cells #[.int .i64 (tP Z M i k), .int .i64 (tN Z M i k)] 118 (0, 0))) := Lib.hid (by rw [HE3]; exact heap_alloc_new _ _)
              clear HE3
              replace hO := Lib.hid (hO.out.kept (grown_of_below hb none) (by cases (Value.slice A n c).ownBlock <;> simp))
              replace hZ := Lib.hid (hZ.out.stay hb)
              replace hY := Lib.hid (hY.out.stay hb)
              replace hB := Lib.hid (hB.out.trans (Below.mono hb hB.out.size))
              clear hb
              refine hK.out _ (W3) (hZ.out.c0) (fun hHeld => ?_)
              clear hK K
              try simp only [Act.put, List.setIfInBounds_toArray, List.set_cons_zero, List.set_cons_succ]
              refine wpAnyH_ready (rs := [1]) (by kernel_rfl) (by simp) ?_
              refine AllReadyH.cons rfl (fun K hK => ?_) AllReadyH.nil
              have y1 := hY.out.c1; have y4 := hY.out.lt
              go_simp
              refine hK.out _ (W3) (hZ.out.c0) (fun hHeld => ?_)
              clear hK K
              try simp only [Act.put, List.setIfInBounds_toArray, List.set_cons_zero, List.set_cons_succ]
              clear y1 y4
              have hs3 : w.heap.size + 2 ≤ (W3).heap.size := by have := hY.out.lt; omega
              refine wpAnyH_ready (rs := [7]) (by kernel_rfl) (by simp) ?_
              refine AllReadyH.cons rfl (fun K hK => ?_) AllReadyH.nil
              try simp only [List.getElem_toArray, List.getElem_cons_succ, List.getElem_cons_zero]
              rw [if_pos (by kernel_rfl)]
              refine wp_append_lies _ (.tmp 22) (.tmp 27) 105 ?cm2 (w.heap.size + 2) 118 j0 (.agg #[.int .i64 0, .int .i64 0]) 2 16 Try.underlying105 hj0 hj1 hj2 hj3 rfl (by decide) (.slice A n c) n (prC (cP Z M r) (cN Z M r) n) ?cm3 ?cm4 ⟨w2.heap.size, 0, none⟩ 1 1 [.int .i64 (tP Z M i k), .int .i64 (tN Z M i k)] ?cm5 rfl ?cm6 ?cm7 (by decide) ?cm8 ?cm9 ?cm10 _ rfl ?cm11
              case cm2 => rfl
              case cm3 => rfl
              case cm5 => rfl
              case cm4 => exact hO.out
              case cm6 => exact World.news_of_block (cs := #[.int .i64 (tP Z M i k), .int .i64 (tN Z M i k)]) (t := 118) (fr := (0, 0)) HNW.out
              case cm7 => simp [Value.oneCell']
              case cm8 => simp only [maxLen]; omega
              case cm9 => omega
              case cm10 => exact hs3
              intro g2 cap2 w4 hown4 hgrow4 hg4 hlt4
              have hne : ∀ x, x < w.heap.size + 2 → some x ≠ (Value.slice A n c).ownBlock := (fun x hx e => by have := (World.ownsRow.lt hO.out x e.symm).1; omega)
              replace hZ := Lib.hid (hZ.out.grown hgrow4 (hne _ (by omega)))
              replace hY := Lib.hid (hY.out.grown hgrow4 (hne _ (by omega)))
              replace hB := Lib.hid (hB.out.grown hgrow4 hB.out.size (fun kk hkk => by have := (World.ownsRow.lt hO.out kk hkk).1; omega))
              have hg4w : w.heap.size + 2 ≤ g2 := (World.ownsRow.lt hown4 g2 rfl).1
              replace hO := Lib.hid hown4
              clear hgrow4 hg4 hlt4 hne hown4
              refine hK.out _ (w4) (hZ.out.c0) (fun hHeld => ?_)
              clear hK K
              try simp only [Act.put, List.setIfInBounds_toArray, List.set_cons_zero, List.set_cons_succ]
              refine takeY 8 _ (v := ?_) rfl rfl (by kernel_rfl) (by kernel_rfl) (by kernel_rfl) (fun _ _ _ h => h) (by kernel_rfl) ?_ (by assumption) ?_
              rotate_left 1
              · intro w hSw; (try dsimp only at hSw); go_simp; (try with_reducible rfl)
              try simp only [Act.put, List.setIfInBounds_toArray, List.set_cons_zero, List.set_cons_succ]
              have y0 := hY.out.c0; have y1 := hY.out.c1; have y2 := hY.out.f0; have y3 := hY.out.f1; have y4 := hY.out.lt
              refine wpAnyH_ready (rs := [9]) (by kernel_rfl) (by simp) ?_
              refine AllReadyH.cons rfl (fun K hK => ?_) AllReadyH.nil
              go_simp
              have hZ5 := Lib.hid (hZ.out.other (g := w.heap.size + 1) (o := 1) (by omega) (.slice (some ⟨g2, 0, none⟩) (n + 1) cap2))
              have hY5 := Lib.hid (hY.out.set1 (.slice (some ⟨g2, 0, none⟩) (n + 1) cap2))
              have hB5 := Lib.hid (hB.out.setCell (p := ⟨w.heap.size + 1, 1, none⟩) (by show w.heap.size ≤ w.heap.size + 1; omega) (.slice (some ⟨g2, 0, none⟩) (n + 1) cap2))
              have hO5 := Lib.hid (row_setU hO.out (x := ⟨w.heap.size + 1, 1, none⟩) (by show w.heap.size + 1 < _; omega) (.slice (some ⟨g2, 0, none⟩) (n + 1) cap2))
              refine hK.out _ _ (hZ5.out.c0) (fun hHeld => ?_)
              clear hK K y0 y1 y2 y3 y4
              try simp only [Act.put, List.setIfInBounds_toArray, List.set_cons_zero, List.set_cons_succ]
              refine wpAnyH_done (by kernel_rfl) ?_ _
              go_wp2_with fail
              go_roundw
              case rel => exact ⟨k + 1, some ⟨g2, 0, none⟩, cap2, by omega, by omega, by go_num, Lib.hid (by rw [HN2.out, HNE.out, ← HNE.out, HPN.out, HNE.out]; exact hO5.out), hZ5, Lib.hid (by rw [HN2.out, HNE.out]; exact hY5.out), hB5⟩
              case measure => simp [intOf]; omega
        · obtain rfl : k = r := by omega
          have hnx := tO_next h6 hir
          go_wp2_with fail
          go_roundw
          case rel => exact ⟨i + 1, A, c, by omega, by go_num, (by rw [← hnx]; exact hO), hZ, (by rw [← hnx]; exact hY), hB⟩
          case measure => simp [intOf]; omega
    · obtain rfl : i = r := by omega
      have y0 := hY.out.c0; have y1 := hY.out.c1; have y2 := hY.out.f0; have y3 := hY.out.f1; have y4 := hY.out.lt
      have z0 := hZ.out.c0; have z1 := hZ.out.c1; have z2 := hZ.out.f0; have z3 := hZ.out.f1; have z4 := hZ.out.lt
      have cr := (hZ.out.set0 (.int .i64 i)).set1 (.slice A (tO i i) c)
      have cr0 := cr.c0; have cr1 := cr.c1
      go_wp2_with fail
      refine bodyPost_ret (v := .agg #[.int .i64 i, .slice A (tO i i) c]) (by simp [results, Try.results151, go_sem, cr0, cr1]) rfl ⟨A, c, rfl, ?_, ?_, ?_⟩
      · have o1 := row_setU (row_setU hO.out (x := ⟨w.heap.size, 0, none⟩) (by show w.heap.size < _; omega) (.int .i64 i)) (x := ⟨w.heap.size, 1, none⟩) (by show w.heap.size < _; omega) (.slice A (tO i i) c)
        exact MtT_of_own o1
      · intro x hx
        subst hx
        have := (World.ownsRow.lt hO.out x.block rfl).1
        omega
      · exact (hB.out.setCell (p := ⟨w.heap.size, 0, none⟩) (Nat.le_refl _) _).setCell (p := ⟨w.heap.size, 1, none⟩) (Nat.le_refl _) _

end Go.Proofs.Ytohbgfmjnanlkaa
