/- The curve with one branch alone: contracts, the program's and the model's. Conditions: stated at each theorem. -/
import Derived.Test.YtohbgfmjnanlkaaCuE
import Derived.Great.BuildSlice
namespace Go.Proofs.Ytohbgfmjnanlkaa
open Go.ChangeShapes Go.WideShapes Go.ChangeAt Go.RowKit Go.Deep
set_option linter.unusedVariables false
set_option linter.unusedSimpArgs false

def obZ (zs : List Int) : List (List Int) := if brB zs then [zs] else []
def obM (zs : List Int) : List (List Int) := if brB zs then [[0]] else []
def obC (zs : List Int) : Int := if brB zs then 0 else 1
theorem ob_no {zs : List Int} (h : brB zs = false) : obZ zs = [] ∧ obM zs = [] ∧ obC zs = 1 := by simp [obZ, obM, obC, h]
theorem ob_yes {zs : List Int} (h : brB zs = true) : obZ zs = [zs] ∧ obM zs = [[0]] ∧ obC zs = 0 := by simp [obZ, obM, obC, h]
theorem lens_one (zs : List Int) (k : Nat) : lens [zs] k ≤ zs.length := by
  unfold lens
  cases k with
  | zero => simp
  | succ k => simp
theorem obZ_bd (zs : List Int) (h : zs.length ≤ 1048576) : (obZ zs).length ≤ 1048576 ∧ (∀ k, lens (obZ zs) k ≤ 1048576) ∧ szTot (obZ zs) ≤ 1099511627 := by
  unfold obZ; split
  · refine ⟨by simp, fun k => Nat.le_trans (lens_one zs k) h, ?_⟩
    have e := lens_one zs 0
    unfold szTot
    show 1 + sumTo (lens [zs]) 1 ≤ _
    simp only [sumTo]; omega
  · exact ⟨by simp, fun k => by simp [lens], by simp [szTot, sumTo]⟩
theorem obM_bd (zs : List Int) : (obM zs).length ≤ 1048576 ∧ (∀ k, lens (obM zs) k ≤ 1048576) ∧ szTot (obM zs) ≤ 1099511627 := by
  unfold obM; split
  · refine ⟨by simp, fun k => Nat.le_trans (lens_one [0] k) (by simp), ?_⟩
    have e := lens_one [0] 0
    unfold szTot
    show 1 + sumTo (lens [[0]]) 1 ≤ _
    simp only [sumTo]; simp at e; omega
  · exact ⟨by simp, fun k => by simp [lens], by simp [szTot, sumTo]⟩
theorem AnsUC.mkZ {w w' : World} {l0 h0 l1 h1 : Nat} {a b : Value} {Z Z' M M' : List (List Int)} {C C' : Int} (e1 : Z = Z') (e2 : M = M') (e3 : C = C') (ap : Apart2 w.heap.size w'.heap.size l0 h0 l1 h1) (o0 : OwnBs w' l0 h0 a Z) (o1 : OwnQ w' l1 h1 b M) (hb : Below w.heap.size w w') : AnsUC w Z' M' C' (.returned (.tuple #[.agg #[a, b], .int .i64 C])) w' := by
  subst e1; subst e2; subst e3
  exact ⟨_, _, rfl, ⟨Nat.le_refl _, _, _, _, _, ap, o0, o1⟩, hb⟩
theorem ownQ_oneZ {w : World} {g h lo hi : Nat} (h1 : w.heap[g]? = some (.cells #[.slice (some ⟨h, 0, none⟩) 1 1] 22 (0, 0))) (h2 : w.heap[h]? = some (.cells #[.int .i64 0] 2 (0, 0))) (hg : lo ≤ g ∧ g < hi) (hh : lo ≤ h ∧ h < hi) (hne : g ≠ h) (hhi : hi ≤ w.heap.size) : OwnQ w lo hi (.slice (some ⟨g, 0, none⟩) 1 1) [[0]] := by
  refine ⟨[.slice (some ⟨h, 0, none⟩) 1 1], fun _ => h, fun _ => h + 1, ⟨by simp, .inr ⟨g, 1, _, rfl, hg.1, h1, Nat.le_refl _, by simp [maxLen], by simp, by simp⟩⟩, (fun k hk => ?_), hhi, (fun j hj => ?_), (fun i j hij hj => by simp at hj; omega)⟩
  · obtain rfl : g = k := by simpa [Value.ownBlock] using hk
    exact ⟨hg.2, fun i hi => by show g < h ∨ h + 1 ≤ g; omega⟩
  · obtain rfl : j = 0 := by simp at hj; omega
    refine ⟨hh.1, by show h + 1 ≤ hi; omega, ?_⟩
    show OwnI w h (h + 1) (.slice (some ⟨h, 0, none⟩) 1 1) [0]
    exact ⟨⟨by simp, .inr ⟨h, 1, _, rfl, Nat.le_refl _, h2, Nat.le_refl _, by simp [maxLen], by simp, by simp⟩⟩, fun k hk => by
      obtain rfl : h = k := by simpa [Value.ownBlock] using hk
      omega, by omega⟩
theorem ownBs_oneZ {w : World} {g l h lo hi : Nat} {u : Value} {zs : List Int} (h1 : w.heap[g]? = some (.cells #[u] 28 (0, 0))) (h2 : OwnI w l h u zs) (hg : lo ≤ g ∧ g < hi) (hl : lo ≤ l ∧ h ≤ hi) (hne : g < l ∨ h ≤ g) (hhi : hi ≤ w.heap.size) : OwnBs w lo hi (.slice (some ⟨g, 0, none⟩) 1 1) [zs] := by
  refine ⟨[u], fun _ => l, fun _ => h, ⟨by simp, .inr ⟨g, 1, _, rfl, hg.1, h1, Nat.le_refl _, by simp [maxLen], by simp, by simp⟩⟩, (fun k hk => ?_), hhi, (fun j hj => ?_), (fun i j hij hj => by simp at hj; omega)⟩
  · obtain rfl : g = k := by simpa [Value.ownBlock] using hk
    exact ⟨hg.2, fun i hi => by show g < l ∨ h ≤ g; omega⟩
  · obtain rfl : j = 0 := by simp at hj; omega
    exact ⟨hl.1, hl.2, h2⟩
theorem build_brZ (u : Value) (w : World) : (Instr.buildSlice 54 1 #[(0, .agg #[u])]).run Try.prog w = .ok (.slice (some ⟨w.heap.size, 0, none⟩) 1 1) (w.alloc (.cells #[u] 28)) := by
  obtain ⟨i, hi, hz, hs, hb⟩ := info_parts br_info
  refine run_buildSlice w _ 28 1 _ _ i _ Try.underlying54 hi hz (by rw [hs]; omega) (by rw [hs]; omega) ?_
  rw [hs]
  first | kernel_rfl | simp [Instr.fill, Value.cells]
theorem build_rowZ (A : Option Addr) (n c : Nat) (w : World) : (Instr.buildSlice 49 1 #[(0, .slice A n c)]).run Try.prog w = .ok (.slice (some ⟨w.heap.size, 0, none⟩) 1 1) (w.alloc (.cells #[.slice A n c] 22)) := by
  obtain ⟨i, hi, hz, hs, hb⟩ := info_parts slice_info
  refine run_buildSlice w _ 22 1 _ _ i _ Try.underlying49 hi hz (by rw [hs]; omega) (by rw [hs]; omega) ?_
  rw [hs]
  first | kernel_rfl | simp [Instr.fill, Value.cells]
theorem build_intZ (z : Int) (w : World) : (Instr.buildSlice 22 1 #[(0, .int .i64 z)]).run Try.prog w = .ok (.slice (some ⟨w.heap.size, 0, none⟩) 1 1) (w.alloc (.cells #[.int .i64 z] 2)) := by
  obtain ⟨i, hi, hz, hs, hb⟩ := info_parts int_info
  refine run_buildSlice w _ 2 1 _ _ i _ Try.underlying22 hi hz (by rw [hs]; omega) (by rw [hs]; omega) ?_
  rw [hs]
  first | kernel_rfl | simp [Instr.fill, Value.cells]
theorem set2_blk (w : World) (g k : Nat) (x y : Value) (h : k ≠ g) : ((w.setCell ⟨g, 0, none⟩ x).setCell ⟨g, 1, none⟩ y).heap[k]? = w.heap[k]? := by
  rw [Below.heap_setCell _ _ _ _ (by simpa using h), Below.heap_setCell _ _ _ _ (by simpa using h)]
theorem set2_sz (w : World) (g : Nat) (x y : Value) : ((w.setCell ⟨g, 0, none⟩ x).setCell ⟨g, 1, none⟩ y).heap.size = w.heap.size := by simp [World.setCell]
theorem set2_kept {V : World} {lo hi g : Nat} (h : ¬ (lo ≤ g ∧ g < hi)) (x y : Value) : Kept lo hi V ((V.setCell ⟨g, 0, none⟩ x).setCell ⟨g, 1, none⟩ y) :=
  ⟨by rw [set2_sz]; exact Nat.le_refl _, fun b h1 h2 => set2_blk _ _ _ _ _ (fun e => h ⟨by omega, by omega⟩)⟩

set_option maxRecDepth 100000 in
set_option maxHeartbeats 1000000 in
theorem zeroZ_any (n : Nat) (w : World) (hn : n ≤ 24) :
    Calls Try.prog 100 #[.int .i64 n] w fun e w' => e = .returned (.slice (some ⟨w.heap.size, 0, none⟩) n n) ∧ (w'.rowIs w.heap.size 22 n (fun i => .slice (some ⟨w.heap.size + 1 + i, 0, none⟩) n n) ∧ ∀ i, i < n → w'.rowIs (w.heap.size + 1 + i) 2 n (fun _ => .int .i64 0)) ∧ Below w.heap.size w w' ∧ w'.heap.size = w.heap.size + 1 + n := by
  obtain ⟨W1, HE1⟩ : ∃ W, W = w.alloc (.cells (madeCells #[.slice none 0 0] n) 22) := ⟨_, rfl⟩
  have HB1 : Hid (Below w.heap.size w W1) := Lib.hid (by rw [HE1]; exact below_box2 _ _)
  have HR1 : Hid (W1.rowIs w.heap.size 22 n (fun i => if i < 0 then .slice (some ⟨w.heap.size + 1 + i, 0, none⟩) n n else .slice none 0 0)) := Lib.hid (by rw [HE1]; exact (World.rowIs_made _ _ _ _).congr fun x hx => by simp)
  have HZ1 : Hid (W1.heap.size = w.heap.size + 1 + 0) := Lib.hid (by rw [HE1]; simp)
  have HQ1 : Hid (∀ i, i < 0 → W1.rowIs (w.heap.size + 1 + i) 2 n (fun _ => .int .i64 0)) := Lib.hid fun i hi => by omega
  have HEQ1 := Lib.hid HE1
  have hmk := fun (W : World) => run_make_row' (P := Try.prog) 49 22 (.slice none 0 0) 24 Try.underlying49 slice_info rfl .i64 .i64 n (by omega) (by omega) W
  have hmk2 := fun (W : World) => run_make_row' (P := Try.prog) 22 2 (.int .i64 0) 8 Try.underlying22 int_info rfl .i64 .i64 n (by omega) (by omega) W
  clear HE1
  go_enter Try.func100, Try.ntmps100
  go_wp2
  rw [← HEQ1.out]
  go_loopw [9] (fun vi wr => ∃ (k : Nat), k ≤ n ∧ vi = .int .i64 k ∧ Hid (wr.rowIs w.heap.size 22 n (fun i => if i < k then .slice (some ⟨w.heap.size + 1 + i, 0, none⟩) n n else .slice none 0 0)) ∧ Hid (∀ i, i < k → wr.rowIs (w.heap.size + 1 + i) 2 n (fun _ => .int .i64 0)) ∧ Hid (wr.heap.size = w.heap.size + 1 + k) ∧ Hid (Below w.heap.size w wr)) (fun vi _ => n - (intOf vi).toNat)
  case atStart => exact ⟨0, by omega, rfl, HR1, HQ1, HZ1, HB1⟩
  case round =>
    obtain ⟨k, hk, rfl, hrow, hels, hsz, hb⟩ := hrel
    by_cases hkn : k < n
    · have hkn2 : (k : Int) < (n : Int) := by omega
      have hcell := hrow.out.cell hkn
      have hfz := hrow.out.frozen k
      rw [if_neg (by omega)] at hcell
      have hz := hsz.out
      have hsg : w.heap.size < wr.heap.size := by omega
      have hne : w.heap.size ≠ wr.heap.size := by omega
      obtain ⟨W2, HE2⟩ : ∃ V, V = (wr.setCell ⟨w.heap.size, k, none⟩ (.slice (some ⟨wr.heap.size, 0, none⟩) n n)).alloc (.cells (madeCells #[.int .i64 0] n) 2) := ⟨_, rfl⟩
      have hgs : (wr.setCell ⟨w.heap.size, k, none⟩ (.slice (some ⟨wr.heap.size, 0, none⟩) n n)).heap.size = wr.heap.size := by simp [World.setCell]
      have HN1 : Hid (W2.rowIs w.heap.size 22 n (fun i => if i < k + 1 then .slice (some ⟨w.heap.size + 1 + i, 0, none⟩) n n else .slice none 0 0)) := Lib.hid (by
        rw [HE2]
        refine ((hrow.out.set k (.slice (some ⟨wr.heap.size, 0, none⟩) n n)).of_block (Below.heap_alloc _ _ _ (by rw [hgs]; exact hsg))).congr fun i hi => ?_
        by_cases e : i = k
        · subst e; rw [if_pos rfl, if_pos (by omega), hz]
        · rw [if_neg e]
          by_cases e2 : i < k
          · rw [if_pos e2, if_pos (by omega)]
          · rw [if_neg e2, if_neg (by omega)])
      have HN2 : Hid (∀ i, i < k + 1 → W2.rowIs (w.heap.size + 1 + i) 2 n (fun _ => .int .i64 0)) := Lib.hid fun i hi => by
        rw [HE2]
        by_cases e : i = k
        · subst e
          have h9 := World.rowIs_made (wr.setCell ⟨w.heap.size, i, none⟩ (.slice (some ⟨wr.heap.size, 0, none⟩) n n)) (.int .i64 0) n 2
          rw [hgs.trans hz] at h9
          exact h9
        · refine (hels.out i (by omega)).of_block ?_
          rw [Below.heap_alloc _ _ _ (by rw [hgs]; omega), Below.heap_setCell _ _ _ _ (by simp; omega)]
      have HN3 : Hid (W2.heap.size = w.heap.size + 1 + (k + 1)) := Lib.hid (by rw [HE2]; simp [hgs]; omega)
      have HN4 : Hid (Below w.heap.size w W2) := Lib.hid (by rw [HE2]; exact (hb.out.setCell (p := ⟨w.heap.size, k, none⟩) (Nat.le_refl _) _).alloc (by rw [hgs]; omega) _)
      have HEQ2 := Lib.hid HE2
      clear HE2 hz hgs
      go_wp2_with fail
      rw [← HEQ2.out]
      go_roundw
      case rel => exact ⟨k + 1, by omega, by go_num, HN1, HN2, HN3, HN4⟩
      case measure => simp [intOf]; omega
    · obtain rfl : k = n := by omega
      go_wp2
      go_ret
      exact ⟨rfl, ⟨hrow.out.congr fun i hi => by rw [if_pos hi], hels.out⟩, hb.out, hsz.out⟩

def AnsBZ (w : World) (zs : List Int) (e : Ending) (w' : World) : Prop := ∃ A c, e = .returned (.agg #[.slice A zs.length c]) ∧ OwnI w' w.heap.size w'.heap.size (.slice A zs.length c) zs ∧ Below w.heap.size w w'
set_option maxRecDepth 100000 in
set_option maxHeartbeats 1200000 in
theorem l09Own_any (v : Value) (zs : List Int) (w : World) (h : ReadI w w.heap.size v zs) (hn : zs.length ≤ 1048576) :
    Calls Try.prog 97 #[.agg #[v]] w (AnsBZ w zs) := by
  obtain ⟨n, A0, c0, rfl, hr, HL, HN, hnc, HF, hcm⟩ := h.split2
  obtain ⟨W0, HE⟩ : ∃ V, V = (w.alloc (.cells #[.slice A0 n c0] 28)).alloc (.cells #[.slice none 0 0] 28) := ⟨_, rfl⟩
  have hb0 : Below w.heap.size w W0 := by rw [HE]; exact (below_box2 _ _).trans ((below_box2 _ _).mono (by simp))
  have hsz : W0.heap.size = w.heap.size + 2 := by rw [HE]; simp
  have x0 : W0.cell? ⟨w.heap.size, 0, none⟩ = some (.slice A0 n c0) := by rw [HE]; go_simp
  have x1 : W0.cell? ⟨w.heap.size + 1, 0, none⟩ = some (.slice none 0 0) := by rw [HE]; go_simp
  have x2 : W0.frozen? ⟨w.heap.size + 1, 0, none⟩ = false := by rw [HE]; go_simp
  have HEQ := Lib.hid HE; have B := Lib.hid hb0; have SZ := Lib.hid hsz
  have HR := Lib.hid ((h.below hb0).more hb0.size)
  clear HE hb0 h hr hsz
  go_enter Try.func97, Try.ntmps97
  go_wp2_with fail
  rw [← HEQ.out]
  refine (l01Own_any _ zs W0 W0.heap.size HR.out (by omega) (Nat.le_refl _)).mono ?_
  rintro e w1 ⟨u, rfl, ho, hb⟩
  obtain ⟨A, c, rfl⟩ := own_form ho.1
  have hs1 := hb.size
  have hs := SZ.out
  have y1 : w1.cell? ⟨w.heap.size + 1, 0, none⟩ = some (.slice none 0 0) := by rw [hb.cell (p := ⟨w.heap.size + 1, 0, none⟩) (by show w.heap.size + 1 < _; omega)]; exact x1
  have y2 : w1.frozen? ⟨w.heap.size + 1, 0, none⟩ = false := by have e := hb.block (w.heap.size + 1) (by omega); rw [← x2]; simp [World.frozen?, e]
  have HB := Lib.hid (B.out.trans (hb.mono (by omega))); have HO := Lib.hid ho
  clear hb ho x0 x1 x2
  go_wp2_with fail
  have cr : (w1.setCell ⟨w.heap.size + 1, 0, none⟩ (.slice A zs.length c)).cell? ⟨w.heap.size + 1, 0, none⟩ = some (.slice A zs.length c) := by go_simp
  refine bodyPost_ret (v := .agg #[.slice A zs.length c]) (by simp [results, Try.results97, go_sem, cr]) rfl ?_
  refine ⟨_, _, rfl, ?_, HB.out.setCell (p := ⟨w.heap.size + 1, 0, none⟩) (by show w.heap.size ≤ w.heap.size + 1; omega) _⟩
  have hk : Kept W0.heap.size w1.heap.size w1 (w1.setCell ⟨w.heap.size + 1, 0, none⟩ (.slice A zs.length c)) := ⟨by simp [World.setCell], fun b h1 h2 => Below.heap_setCell _ _ _ _ (by show b ≠ w.heap.size + 1; omega)⟩
  have := own_lessB (HO.out.kept hk) (lo' := w.heap.size) (by omega)
  simpa [World.setCell] using this

theorem row_oneZ {w : World} {g : Nat} {t : TypeId} {f : Nat → Value} (h : w.rowIs g t 1 f) : w.heap[g]? = some (.cells #[f 0] t (0, 0)) := by
  obtain ⟨c, h1, h2, h3⟩ := h
  have h0 := h3 0 (by omega)
  have e : c = #[f 0] := by
    apply Array.ext
    · simp [h2]
    · intro i hi1 hi2
      have : i = 0 := by omega
      subst this
      simpa [Array.getElem?_eq_getElem hi1] using h0
  rw [h1, e]

set_option maxRecDepth 100000 in
set_option maxHeartbeats 1200000 in
theorem specCurveOfBranch_any (v : Value) (zs : List Int) (w : World) (h : ReadI w w.heap.size v zs) (hn : zs.length ≤ 1048576) (hw : ∀ z ∈ zs, (Lit.int .i64 z).wf = true) :
    Calls Try.prog 35 #[.agg #[v]] w (AnsUC w (obZ zs) (obM zs) (obC zs)) := by
  obtain ⟨n, A0, c0, rfl, hr, HL, HN, hnc, HF, hcm⟩ := h.split2
  obtain ⟨W0, HE⟩ : ∃ V, V = (w.alloc (.cells #[.slice A0 n c0] 28)).alloc (.cells #[.slice none 0 0, .slice none 0 0] 56) := ⟨_, rfl⟩
  have hb0 : Below w.heap.size w W0 := by rw [HE]; exact (below_box2 _ _).trans ((below_box2 _ _).mono (by simp))
  have hsz : W0.heap.size = w.heap.size + 2 := by rw [HE]; simp
  have x0 : W0.cell? ⟨w.heap.size, 0, none⟩ = some (.slice A0 n c0) := by rw [HE]; go_simp
  have hy : UBox W0 (w.heap.size + 1) (.slice none 0 0) (.slice none 0 0) := by
    rw [HE]
    have := UBox.new (w.alloc (.cells #[.slice A0 n c0] 28)) (.slice none 0 0) (.slice none 0 0) 56
    simpa using this
  have HEQ := Lib.hid HE; have B := Lib.hid hb0; have SZ := Lib.hid hsz; have HY := Lib.hid hy
  have HR := Lib.hid ((h.below hb0).more hb0.size)
  have hx : Hid (W0.cell? ⟨w.heap.size, 0, none⟩ = some (.slice A0 n c0)) := Lib.hid x0
  have y0 := hy.c0; have y1 := hy.c1; have y2 := hy.f0; have y3 := hy.f1; have y4 := hy.lt
  have HWF := Lib.hid hw
  obtain ⟨q, hq⟩ : ∃ q, brB zs = q := ⟨_, rfl⟩
  have HQ := Lib.hid hq
  clear HE hb0 h hr hsz hy hw
  go_enter Try.func35, Try.ntmps35
  go_wp2_with fail
  rw [← HEQ.out]
  refine (l03Is_if _ zs W0 q HR.out hn HWF.out hq).mono ?_
  rintro e W9 ⟨rfl, hb9⟩
  have hs9 := hb9.size
  have x9 : W9.cell? ⟨w.heap.size, 0, none⟩ = some (.slice A0 n c0) := by rw [hb9.cell (p := ⟨w.heap.size, 0, none⟩) (by show w.heap.size < _; omega)]; exact hx.out
  have B9 := Lib.hid (B.out.trans (hb9.mono B.out.size)); have HY9 := Lib.hid (HY.out.stay hb9); have HR9 := Lib.hid ((HR.out.below hb9).more hb9.size)
  have SZ9 : Hid (w.heap.size + 2 ≤ W9.heap.size) := Lib.hid (by have := SZ.out; omega)
  have sz9 := SZ9.out
  clear hb9 y0 y1 y2 y3 y4 x0 hq hs9
  have y0 := HY9.out.c0; have y1 := HY9.out.c1; have y2 := HY9.out.f0; have y3 := HY9.out.f1; have y4 := HY9.out.lt
  cases q with
  | false =>
    have E := Lib.hid (ob_no HQ.out)
    go_wp2_with fail
    have cr0 : ((W9.setCell ⟨w.heap.size + 1, 0, none⟩ (.slice none 0 0)).setCell ⟨w.heap.size + 1, 1, none⟩ (.slice none 0 0)).cell? ⟨w.heap.size + 1, 0, none⟩ = some (.slice none 0 0) := by go_simp
    have cr1 : ((W9.setCell ⟨w.heap.size + 1, 0, none⟩ (.slice none 0 0)).setCell ⟨w.heap.size + 1, 1, none⟩ (.slice none 0 0)).cell? ⟨w.heap.size + 1, 1, none⟩ = some (.slice none 0 0) := by go_simp
    refine bodyPost_ret (v := .tuple #[.agg #[.slice none 0 0, .slice none 0 0], .int .i64 1]) (by simp [results, Try.results35, go_sem, cr0, cr1]) rfl ?_
    refine AnsUC.mkZ (l0 := w.heap.size) (h0 := w.heap.size) (l1 := w.heap.size) (h1 := w.heap.size) E.out.1.symm E.out.2.1.symm E.out.2.2.symm ⟨⟨Nat.le_refl _, by rw [set2_sz]; omega⟩, ⟨Nat.le_refl _, by rw [set2_sz]; omega⟩, Or.inl (Nat.le_refl _)⟩ ?_ ?_ ((B9.out.setCell (p := ⟨w.heap.size + 1, 0, none⟩) (by show w.heap.size ≤ w.heap.size + 1; omega) _).setCell (p := ⟨w.heap.size + 1, 1, none⟩) (by show w.heap.size ≤ w.heap.size + 1; omega) _)
    · exact ⟨[], fun _ => 0, fun _ => 0, ⟨by simp, .inl ⟨rfl, rfl⟩⟩, (fun k hk => by simp [Value.ownBlock] at hk), by rw [set2_sz]; omega, (fun j hj => by simp at hj), (fun i j hij hj => by simp at hj)⟩
    · exact ⟨[], fun _ => 0, fun _ => 0, ⟨by simp, .inl ⟨rfl, rfl⟩⟩, (fun k hk => by simp [Value.ownBlock] at hk), by rw [set2_sz]; omega, (fun j hj => by simp at hj), (fun i j hij hj => by simp at hj)⟩
  | true =>
    have E := Lib.hid (ob_yes HQ.out)
    go_wp2_with fail
    have hbb := fun (u : Value) (V : World) => build_brZ u V
    have hbr := fun (A : Option Addr) (n c : Nat) (V : World) => build_rowZ A n c V
    have hbi := fun (z : Int) (V : World) => build_intZ z V
    refine (l09Own_any _ zs W9 HR9.out hn).mono ?_
    rintro e w1 ⟨A, c, rfl, ho, hb⟩
    have hs1 := hb.size
    have B1 := Lib.hid (B9.out.trans (hb.mono B9.out.size)); have HY1 := Lib.hid (HY9.out.stay hb); have HO1 := Lib.hid ho
    have SZ1 : Hid (w.heap.size + 2 ≤ w1.heap.size ∧ W9.heap.size ≤ w1.heap.size) := Lib.hid ⟨by have := SZ9.out; omega, hs1⟩
    clear hb ho y0 y1 y2 y3 y4 x9 hs1
    have y0 := HY1.out.c0; have y1 := HY1.out.c1; have y2 := HY1.out.f0; have y3 := HY1.out.f1; have y4 := HY1.out.lt
    obtain ⟨W5, HE5⟩ : ∃ V, V = ((w1.alloc (.cells #[.slice A zs.length c] 28)).alloc (.cells #[.int .i64 0] 2)).alloc (.cells #[.slice (some ⟨w1.heap.size + 1, 0, none⟩) 1 1] 22) := ⟨_, rfl⟩
    have hz5 : W5.heap.size = w1.heap.size + 3 := by rw [HE5]; simp
    have hb5 : Below w1.heap.size w1 W5 := by rw [HE5]; exact (below_box2 _ _).trans (((below_box2 _ _).mono (by simp)).trans ((below_box2 _ _).mono (by simp; omega)))
    have k0 : W5.heap[w1.heap.size]? = some (.cells #[.slice A zs.length c] 28 (0, 0)) := by
      rw [HE5, Below.heap_alloc _ _ _ (by simp; omega), Below.heap_alloc _ _ _ (by simp)]; exact heap_alloc_new _ _
    have k1 : W5.heap[w1.heap.size + 1]? = some (.cells #[.int .i64 0] 2 (0, 0)) := by
      rw [HE5, Below.heap_alloc _ _ _ (by simp)]
      have := heap_alloc_new (w1.alloc (.cells #[.slice A zs.length c] 28)) (.cells #[.int .i64 0] 2)
      simpa using this
    have k2 : W5.heap[w1.heap.size + 2]? = some (.cells #[.slice (some ⟨w1.heap.size + 1, 0, none⟩) 1 1] 22 (0, 0)) := by
      rw [HE5]
      have := heap_alloc_new ((w1.alloc (.cells #[.slice A zs.length c] 28)).alloc (.cells #[.int .i64 0] 2)) (.cells #[.slice (some ⟨w1.heap.size + 1, 0, none⟩) 1 1] 22)
      simpa using this
    have hy5 := HY1.out.stay hb5
    have v0 := hy5.c0; have v1 := hy5.c1; have v2 := hy5.f0; have v3 := hy5.f1; have v4 := hy5.lt
    rw [HE5] at v0 v1 v2 v3 v4
    have HE5' := Lib.hid HE5; have K0 := Lib.hid k0; have K1 := Lib.hid k1; have K2 := Lib.hid k2; have HB5 := Lib.hid hb5; have HZ5 := Lib.hid hz5; have HY5 := Lib.hid hy5
    clear HE5 k0 k1 k2 hb5 hz5 hy5 y0 y1 y2 y3 y4
    go_wp2_with fail
    try rw [← HE5'.out]
    clear v0 v1 v2 v3 v4
    have y0 := HY5.out.c0; have y1 := HY5.out.c1; have y2 := HY5.out.f0; have y3 := HY5.out.f1; have y4 := HY5.out.lt
    have cr0 : ((W5.setCell ⟨w.heap.size + 1, 0, none⟩ (.slice (some ⟨w1.heap.size, 0, none⟩) 1 1)).setCell ⟨w.heap.size + 1, 1, none⟩ (.slice (some ⟨w1.heap.size + 2, 0, none⟩) 1 1)).cell? ⟨w.heap.size + 1, 0, none⟩ = some (.slice (some ⟨w1.heap.size, 0, none⟩) 1 1) := by go_simp
    have cr1 : ((W5.setCell ⟨w.heap.size + 1, 0, none⟩ (.slice (some ⟨w1.heap.size, 0, none⟩) 1 1)).setCell ⟨w.heap.size + 1, 1, none⟩ (.slice (some ⟨w1.heap.size + 2, 0, none⟩) 1 1)).cell? ⟨w.heap.size + 1, 1, none⟩ = some (.slice (some ⟨w1.heap.size + 2, 0, none⟩) 1 1) := by go_simp
    refine bodyPost_ret (v := .tuple #[.agg #[.slice (some ⟨w1.heap.size, 0, none⟩) 1 1, .slice (some ⟨w1.heap.size + 2, 0, none⟩) 1 1], .int .i64 0]) (by simp [results, Try.results35, go_sem, cr0, cr1]) rfl ?_
    have hz := HZ5.out; have hs1 := SZ1.out
    have hkk : Kept W9.heap.size w1.heap.size w1 ((W5.setCell ⟨w.heap.size + 1, 0, none⟩ (.slice (some ⟨w1.heap.size, 0, none⟩) 1 1)).setCell ⟨w.heap.size + 1, 1, none⟩ (.slice (some ⟨w1.heap.size + 2, 0, none⟩) 1 1)) := ⟨by rw [set2_sz]; exact HB5.out.size, fun b h1 h2 => by rw [set2_blk _ _ _ _ _ (by omega)]; exact HB5.out.block b h2⟩
    have sz9 := SZ9.out
    refine AnsUC.mkZ (l0 := w.heap.size + 2) (h0 := w1.heap.size + 1) (l1 := w1.heap.size + 1) (h1 := w1.heap.size + 3) E.out.1.symm E.out.2.1.symm E.out.2.2.symm ⟨⟨by omega, by rw [set2_sz]; omega⟩, ⟨by omega, by rw [set2_sz]; omega⟩, Or.inl (Nat.le_refl _)⟩ ?_ ?_ (((B1.out.trans (HB5.out.mono B1.out.size)).setCell (p := ⟨w.heap.size + 1, 0, none⟩) (by show w.heap.size ≤ w.heap.size + 1; omega) _).setCell (p := ⟨w.heap.size + 1, 1, none⟩) (by show w.heap.size ≤ w.heap.size + 1; omega) _)
    · exact ownBs_oneZ (l := W9.heap.size) (h := w1.heap.size) (by rw [set2_blk _ _ _ _ _ (by omega)]; exact K0.out) (HO1.out.kept hkk) ⟨by omega, by omega⟩ ⟨by omega, by omega⟩ (by omega) (by rw [set2_sz]; omega)
    · exact ownQ_oneZ (h := w1.heap.size + 1) (by rw [set2_blk _ _ _ _ _ (by omega)]; exact K2.out) (by rw [set2_blk _ _ _ _ _ (by omega)]; exact K1.out) ⟨by omega, by omega⟩ ⟨by omega, by omega⟩ (by omega) (by rw [set2_sz]; omega)
set_option maxRecDepth 100000 in
set_option maxHeartbeats 1200000 in
theorem implCurveOfBranch_any (v : Value) (zs : List Int) (w : World) (h : ReadI w w.heap.size v zs) (hn : zs.length ≤ 1048576) (hw : ∀ z ∈ zs, (Lit.int .i64 z).wf = true) :
    Calls Try.prog 36 #[.agg #[v]] w (AnsUC w (obZ zs) (obM zs) (obC zs)) := by
  obtain ⟨n, A0, c0, rfl, hr, HL, HN, hnc, HF, hcm⟩ := h.split2
  obtain ⟨W0, HE⟩ : ∃ V, V = (w.alloc (.cells #[.slice A0 n c0] 28)).alloc (.cells #[.slice none 0 0, .slice none 0 0] 56) := ⟨_, rfl⟩
  have hb0 : Below w.heap.size w W0 := by rw [HE]; exact (below_box2 _ _).trans ((below_box2 _ _).mono (by simp))
  have hsz : W0.heap.size = w.heap.size + 2 := by rw [HE]; simp
  have x0 : W0.cell? ⟨w.heap.size, 0, none⟩ = some (.slice A0 n c0) := by rw [HE]; go_simp
  have hy : UBox W0 (w.heap.size + 1) (.slice none 0 0) (.slice none 0 0) := by
    rw [HE]
    have := UBox.new (w.alloc (.cells #[.slice A0 n c0] 28)) (.slice none 0 0) (.slice none 0 0) 56
    simpa using this
  have HEQ := Lib.hid HE; have B := Lib.hid hb0; have SZ := Lib.hid hsz; have HY := Lib.hid hy
  have HR := Lib.hid ((h.below hb0).more hb0.size)
  have hx : Hid (W0.cell? ⟨w.heap.size, 0, none⟩ = some (.slice A0 n c0)) := Lib.hid x0
  have y0 := hy.c0; have y1 := hy.c1; have y2 := hy.f0; have y3 := hy.f1; have y4 := hy.lt
  have HWF := Lib.hid hw
  obtain ⟨q, hq⟩ : ∃ q, brB zs = q := ⟨_, rfl⟩
  have HQ := Lib.hid hq
  clear HE hb0 h hr hsz hy hw
  go_enter Try.func36, Try.ntmps36
  go_wp2_with fail
  rw [← HEQ.out]
  refine (implIsBranch_if _ zs W0 q HR.out hn HWF.out hq).mono ?_
  rintro e W9 ⟨rfl, hb9⟩
  have hs9 := hb9.size
  have x9 : W9.cell? ⟨w.heap.size, 0, none⟩ = some (.slice A0 n c0) := by rw [hb9.cell (p := ⟨w.heap.size, 0, none⟩) (by show w.heap.size < _; omega)]; exact hx.out
  have B9 := Lib.hid (B.out.trans (hb9.mono B.out.size)); have HY9 := Lib.hid (HY.out.stay hb9); have HR9 := Lib.hid ((HR.out.below hb9).more hb9.size)
  have SZ9 : Hid (w.heap.size + 2 ≤ W9.heap.size) := Lib.hid (by have := SZ.out; omega)
  have sz9 := SZ9.out
  clear hb9 y0 y1 y2 y3 y4 x0 hq hs9
  have y0 := HY9.out.c0; have y1 := HY9.out.c1; have y2 := HY9.out.f0; have y3 := HY9.out.f1; have y4 := HY9.out.lt
  cases q with
  | false =>
    have E := Lib.hid (ob_no HQ.out)
    go_wp2_with fail
    have cr0 : ((W9.setCell ⟨w.heap.size + 1, 0, none⟩ (.slice none 0 0)).setCell ⟨w.heap.size + 1, 1, none⟩ (.slice none 0 0)).cell? ⟨w.heap.size + 1, 0, none⟩ = some (.slice none 0 0) := by go_simp
    have cr1 : ((W9.setCell ⟨w.heap.size + 1, 0, none⟩ (.slice none 0 0)).setCell ⟨w.heap.size + 1, 1, none⟩ (.slice none 0 0)).cell? ⟨w.heap.size + 1, 1, none⟩ = some (.slice none 0 0) := by go_simp
    refine bodyPost_ret (v := .tuple #[.agg #[.slice none 0 0, .slice none 0 0], .int .i64 1]) (by simp [results, Try.results36, go_sem, cr0, cr1]) rfl ?_
    refine AnsUC.mkZ (l0 := w.heap.size) (h0 := w.heap.size) (l1 := w.heap.size) (h1 := w.heap.size) E.out.1.symm E.out.2.1.symm E.out.2.2.symm ⟨⟨Nat.le_refl _, by rw [set2_sz]; omega⟩, ⟨Nat.le_refl _, by rw [set2_sz]; omega⟩, Or.inl (Nat.le_refl _)⟩ ?_ ?_ ((B9.out.setCell (p := ⟨w.heap.size + 1, 0, none⟩) (by show w.heap.size ≤ w.heap.size + 1; omega) _).setCell (p := ⟨w.heap.size + 1, 1, none⟩) (by show w.heap.size ≤ w.heap.size + 1; omega) _)
    · exact ⟨[], fun _ => 0, fun _ => 0, ⟨by simp, .inl ⟨rfl, rfl⟩⟩, (fun k hk => by simp [Value.ownBlock] at hk), by rw [set2_sz]; omega, (fun j hj => by simp at hj), (fun i j hij hj => by simp at hj)⟩
    · exact ⟨[], fun _ => 0, fun _ => 0, ⟨by simp, .inl ⟨rfl, rfl⟩⟩, (fun k hk => by simp [Value.ownBlock] at hk), by rw [set2_sz]; omega, (fun j hj => by simp at hj), (fun i j hij hj => by simp at hj)⟩
  | true =>
    have E := Lib.hid (ob_yes HQ.out)
    go_wp2_with fail
    have hbb := fun (u : Value) (V : World) => build_brZ u V
    have hbr := fun (A : Option Addr) (n c : Nat) (V : World) => build_rowZ A n c V
    have hbi := fun (z : Int) (V : World) => build_intZ z V
    refine (clone_any _ zs W9 W9.heap.size HR9.out (by omega) (Nat.le_refl _)).mono ?_
    rintro e w1 ⟨v1, rfl, ho, hb⟩
    obtain ⟨A, c, rfl⟩ := own_form ho.1
    have hs1 := hb.size
    have B1 := Lib.hid (B9.out.trans (hb.mono B9.out.size)); have HY1 := Lib.hid (HY9.out.stay hb); have HO1 := Lib.hid ho
    have SZ1 : Hid (w.heap.size + 2 ≤ w1.heap.size ∧ W9.heap.size ≤ w1.heap.size) := Lib.hid ⟨by have := SZ9.out; omega, hs1⟩
    clear hb ho y0 y1 y2 y3 y4 x9 hs1
    have y0 := HY1.out.c0; have y1 := HY1.out.c1; have y2 := HY1.out.f0; have y3 := HY1.out.f1; have y4 := HY1.out.lt
    obtain ⟨W3, HE3⟩ : ∃ V, V = w1.alloc (.cells #[.slice A zs.length c] 28) := ⟨_, rfl⟩
    have hz3 : W3.heap.size = w1.heap.size + 1 := by rw [HE3]; simp
    have hb3 : Below w1.heap.size w1 W3 := by rw [HE3]; exact below_box2 _ _
    have k0 : W3.heap[w1.heap.size]? = some (.cells #[.slice A zs.length c] 28 (0, 0)) := by rw [HE3]; exact heap_alloc_new _ _
    have HE3' := Lib.hid HE3; have K03 := Lib.hid k0; have HB3 := Lib.hid hb3; have HZ3 := Lib.hid hz3; have HY3 := Lib.hid (HY1.out.stay hb3)
    clear HE3 k0 hb3 hz3
    go_wp2_with fail
    rw [← HE3'.out]
    refine (zeroZ_any 1 W3 (by omega)).mono ?_
    rintro e W5 ⟨rfl, ⟨hr1, hr2⟩, hb, hz⟩
    have K1 : Hid (W5.heap[w1.heap.size + 1]? = some (.cells #[.slice (some ⟨w1.heap.size + 2, 0, none⟩) 1 1] 22 (0, 0))) := Lib.hid (by have := row_oneZ hr1; rw [HZ3.out] at this; simpa using this)
    have K2 : Hid (W5.heap[w1.heap.size + 2]? = some (.cells #[.int .i64 0] 2 (0, 0))) := Lib.hid (by have := row_oneZ (hr2 0 (by omega)); rw [HZ3.out] at this; simpa using this)
    have K0 : Hid (W5.heap[w1.heap.size]? = some (.cells #[.slice A zs.length c] 28 (0, 0))) := Lib.hid (by rw [hb.block _ (by have := HZ3.out; omega)]; exact K03.out)
    have HB5 := Lib.hid (HB3.out.trans (hb.mono HB3.out.size)); have HY5 := Lib.hid (HY3.out.stay hb)
    have HZ5 : Hid (W5.heap.size = w1.heap.size + 3) := Lib.hid (by rw [hz, HZ3.out])
    have e3 := HZ3.out
    rw [e3]
    clear hr1 hr2 hb hz y0 y1 y2 y3 y4 e3
    have y0 := HY5.out.c0; have y1 := HY5.out.c1; have y2 := HY5.out.f0; have y3 := HY5.out.f1; have y4 := HY5.out.lt
    go_wp2_with fail
    have cr0 : ((W5.setCell ⟨w.heap.size + 1, 0, none⟩ (.slice (some ⟨w1.heap.size, 0, none⟩) 1 1)).setCell ⟨w.heap.size + 1, 1, none⟩ (.slice (some ⟨w1.heap.size + 1, 0, none⟩) 1 1)).cell? ⟨w.heap.size + 1, 0, none⟩ = some (.slice (some ⟨w1.heap.size, 0, none⟩) 1 1) := by go_simp
    have cr1 : ((W5.setCell ⟨w.heap.size + 1, 0, none⟩ (.slice (some ⟨w1.heap.size, 0, none⟩) 1 1)).setCell ⟨w.heap.size + 1, 1, none⟩ (.slice (some ⟨w1.heap.size + 1, 0, none⟩) 1 1)).cell? ⟨w.heap.size + 1, 1, none⟩ = some (.slice (some ⟨w1.heap.size + 1, 0, none⟩) 1 1) := by go_simp
    refine bodyPost_ret (v := .tuple #[.agg #[.slice (some ⟨w1.heap.size, 0, none⟩) 1 1, .slice (some ⟨w1.heap.size + 1, 0, none⟩) 1 1], .int .i64 0]) (by simp [results, Try.results36, go_sem, cr0, cr1]) rfl ?_
    have hz := HZ5.out; have hs1 := SZ1.out
    have hkk : Kept W9.heap.size w1.heap.size w1 ((W5.setCell ⟨w.heap.size + 1, 0, none⟩ (.slice (some ⟨w1.heap.size, 0, none⟩) 1 1)).setCell ⟨w.heap.size + 1, 1, none⟩ (.slice (some ⟨w1.heap.size + 1, 0, none⟩) 1 1)) := ⟨by rw [set2_sz]; exact HB5.out.size, fun b h1 h2 => by rw [set2_blk _ _ _ _ _ (by omega)]; exact HB5.out.block b h2⟩
    have sz9 := SZ9.out
    refine AnsUC.mkZ (l0 := w.heap.size + 2) (h0 := w1.heap.size + 1) (l1 := w1.heap.size + 1) (h1 := w1.heap.size + 3) E.out.1.symm E.out.2.1.symm E.out.2.2.symm ⟨⟨by omega, by rw [set2_sz]; omega⟩, ⟨by omega, by rw [set2_sz]; omega⟩, Or.inl (Nat.le_refl _)⟩ ?_ ?_ (((B1.out.trans (HB5.out.mono B1.out.size)).setCell (p := ⟨w.heap.size + 1, 0, none⟩) (by show w.heap.size ≤ w.heap.size + 1; omega) _).setCell (p := ⟨w.heap.size + 1, 1, none⟩) (by show w.heap.size ≤ w.heap.size + 1; omega) _)
    · exact ownBs_oneZ (l := W9.heap.size) (h := w1.heap.size) (by rw [set2_blk _ _ _ _ _ (by omega)]; exact K0.out) (HO1.out.kept hkk) ⟨by omega, by omega⟩ ⟨by omega, by omega⟩ (by omega) (by rw [set2_sz]; omega)
    · exact ownQ_oneZ (h := w1.heap.size + 2) (by rw [set2_blk _ _ _ _ _ (by omega)]; exact K1.out) (by rw [set2_blk _ _ _ _ _ (by omega)]; exact K2.out) ⟨by omega, by omega⟩ ⟨by omega, by omega⟩ (by omega) (by rw [set2_sz]; omega)
end Go.Proofs.Ytohbgfmjnanlkaa
