/- The threshold of a branch: contracts of ThresholdOfBranch, the program's and the model's. Conditions: stated at each theorem. -/
import Derived.Test.YtoebbhicffgdgaaZJ
import Derived.Test.YtoebbhicffgdgaaZB
namespace Go.Proofs.Ytoebbhicffgdgaa
open Go.ChangeShapes Go.WideShapes Go.ChangeAt Go.RowKit Go.Deep Go.Joins
set_option linter.unusedVariables false
set_option linter.unusedSimpArgs false

/-- A block of two cells that holds a fraction. -/
def BoxF (w : World) (b : Nat) (x y : Int) : Prop := w.cell? ⟨b, 0, none⟩ = some (.int .i64 x) ∧ w.cell? ⟨b, 1, none⟩ = some (.int .i64 y) ∧ b < w.heap.size
theorem BoxF.kept {w w' : World} {b : Nat} {x y : Int} (h : BoxF w b x y) (k : Kept b (b + 1) w w') : BoxF w' b x y := by
  have e := k.block b (Nat.le_refl _) (Nat.lt_succ_self _)
  refine ⟨?_, ?_, Nat.lt_of_lt_of_le h.2.2 k.size⟩
  · have := h.1; unfold World.cell? at this ⊢; rw [e]; exact this
  · have := h.2.1; unfold World.cell? at this ⊢; rw [e]; exact this
theorem BoxF.new (w : World) (x y : Int) (t : TypeId) : BoxF (w.alloc (.cells #[.int .i64 x, .int .i64 y] t)) w.heap.size x y := ⟨by go_simp, by go_simp, by simp⟩
/-- A fraction and a code are answered. -/
def AnsFC (w : World) (T B C : Int) (e : Ending) (w' : World) : Prop := e = .returned (.tuple #[.agg #[.int .i64 T, .int .i64 B], .int .i64 C]) ∧ Below w.heap.size w w'
theorem ansF_end {w w1 : World} {T B C T' B' C' : Int} (p : Nat) (hp : w.heap.size ≤ p) (h1 : T' = T) (h2 : B' = B) (h3 : C' = C) (hb : Below w.heap.size w w1) (u v : Value) :
    AnsFC w T B C (.returned (.tuple #[.agg #[.int .i64 T', .int .i64 B'], .int .i64 C'])) ((w1.setCell ⟨p, 0, none⟩ u).setCell ⟨p, 1, none⟩ v) := by
  subst h1; subst h2; subst h3
  exact ⟨rfl, (hb.setCell (p := ⟨p, 0, none⟩) hp u).setCell (p := ⟨p, 1, none⟩) hp v⟩

def thT (zs : List Int) : Int := if brB zs then (if zs.length = 1 then 2 else mkT (zs[0]?.getD 0 + zs[1]?.getD 0) (zs[0]?.getD 0 * zs[1]?.getD 0)) else 0
def thB (zs : List Int) : Int := if brB zs then (if zs.length = 1 then 1 else mkB (zs[0]?.getD 0 + zs[1]?.getD 0) (zs[0]?.getD 0 * zs[1]?.getD 0)) else 0
def thC (zs : List Int) : Int := if brB zs then 0 else 1
theorem th_no {zs : List Int} (h : brB zs = false) : thT zs = 0 ∧ thB zs = 0 ∧ thC zs = 1 := by simp [thT, thB, thC, h]
theorem th_one {zs : List Int} (h : brB zs = true) (h1 : zs.length = 1) : thT zs = 2 ∧ thB zs = 1 ∧ thC zs = 0 := by simp [thT, thB, thC, h, h1]
theorem th_more {zs : List Int} {n m : Int} (h : brB zs = true) (h1 : zs.length ≠ 1) (hn : zs[0]?.getD 0 = n) (hm : zs[1]?.getD 0 = m) : thT zs = mkT (n + m) (n * m) ∧ thB zs = mkB (n + m) (n * m) ∧ thC zs = 0 := by
  subst hn; subst hm; simp [thT, thB, thC, h, h1]
theorem br_first2 {zs : List Int} (h : brB zs = true) (h1 : zs.length ≠ 1) : 1 < zs.length ∧ ((1 : Int) ≤ zs[0]?.getD 0 ∧ zs[0]?.getD 0 ≤ 64) ∧ (1 : Int) ≤ zs[1]?.getD 0 ∧ zs[1]?.getD 0 ≤ 2000 := by
  obtain ⟨n, r, rfl, hn, ha, _⟩ := dcB_parts (brB_dcB h) |> fun ⟨n, r, e, hn, ha, hd⟩ => (⟨n, r, e, hn, ha, hd⟩ : ∃ n r, zs = n :: r ∧ (1 ≤ n ∧ n ≤ 64) ∧ ascB 0 r = true ∧ desB n r = true)
  cases r with
  | nil => simp at h1
  | cons z r =>
    have := ascB_all ha z (by simp)
    exact ⟨by simp, by simpa using hn, by simp; omega⟩
theorem frac_unit {n : Int} (h : 1 ≤ n ∧ n ≤ 1000000000) : fracB 1 n = true := fracB_true.2 ⟨by omega, h, by simp⟩
theorem gcd_quot {a b : Int} (hb : 1 ≤ b) : Int.gcd (a.tdiv (Int.gcd a b : Int)) (b.tdiv (Int.gcd a b : Int)) = 1 := by
  have h0 : 0 < Int.gcd a b := Int.gcd_pos_of_ne_zero_right a (by omega)
  have h1 : (Int.gcd a b : Int) ∣ a := Int.gcd_dvd_left _ _
  have h2 : (Int.gcd a b : Int) ∣ b := Int.gcd_dvd_right _ _
  rw [Int.tdiv_eq_ediv_of_dvd h1, Int.tdiv_eq_ediv_of_dvd h2]
  exact Int.gcd_ediv_gcd_ediv_gcd h0
theorem mk_frac {a b : Int} (ha : 1 ≤ a ∧ a ≤ 1000000000) (hb : 1 ≤ b ∧ b ≤ 1000000000) : fracB (mkT a b) (mkB a b) = true := by
  have hg := gcd_pos a b (by omega)
  have hneg : ¬ b < 0 := by omega
  have e1 : mkT a b = a.tdiv (Int.gcd a b : Int) := by unfold mkT; rw [if_neg hneg]
  have e2 : mkB a b = b.tdiv (Int.gcd a b : Int) := by unfold mkB; rw [if_neg hneg]
  have hi := mk_in a b 1000000000 (by omega) (by omega)
  have hq := gcd_quot (a := a) hb.1
  have hd : (Int.gcd a b : Int) ∣ b := Int.gcd_dvd_right _ _
  have hb1 : 1 ≤ mkB a b := by
    rw [e2, Int.tdiv_eq_ediv_of_dvd hd]
    exact (Int.le_ediv_iff_mul_le (by omega)).2 (by have := Int.le_of_dvd (by omega) hd; omega)
  exact fracB_true.2 ⟨hi.1, ⟨hb1, hi.2.2⟩, by rw [e1, e2]; exact hq⟩

set_option maxRecDepth 100000 in
set_option maxHeartbeats 1000000 in
theorem implThresholdOfBranch_any (v : Value) (zs : List Int) (w : World) (h : ReadI w w.heap.size v zs) (hn : zs.length ≤ 1048576) (hw : ∀ z ∈ zs, (Lit.int .i64 z).wf = true) :
    Calls Try.prog 43 #[.agg #[v]] w (AnsFC w (thT zs) (thB zs) (thC zs)) := by
  obtain ⟨n, A, c, rfl, hr, HL, HN, hnc, HF, hcm⟩ := h.split2
  obtain ⟨Wb, HEb⟩ : ∃ W, W = w.alloc (.cells #[.slice A n c] 26) := ⟨_, rfl⟩
  have hbb : Below w.heap.size w Wb := by rw [HEb]; exact below_box _ _
  have hqb : BoxI Wb w.heap.size (.slice A n c) := by rw [HEb]; exact BoxI.new _ _ _
  have hsb : Wb.heap.size = w.heap.size + 1 := by rw [HEb]; simp
  obtain ⟨W0, HE⟩ : ∃ W, W = Wb.alloc (.cells #[.int .i64 0, .int .i64 0] 45) := ⟨_, rfl⟩
  have hb0 : Below Wb.heap.size Wb W0 := by rw [HE]; exact below_box _ _
  have hs0 : W0.heap.size = w.heap.size + 1 + 1 := by rw [HE]; simp [hsb]
  have HB0 := Lib.hid (hbb.trans (hb0.mono (by omega)))
  have H0 := Lib.hid ((h.below HB0.out).more HB0.out.size)
  have HEQ := Lib.hid HE
  have HEQb := Lib.hid HEb
  have HNN := Lib.hid hn
  have HWW := Lib.hid hw
  have cb0 : W0.cell? ⟨w.heap.size, 0, none⟩ = some (.slice A n c) := by rw [hb0.cell (p := ⟨w.heap.size, 0, none⟩) hqb.2]; exact hqb.1
  have r0 : W0.cell? ⟨w.heap.size + 1, 0, none⟩ = some (.int .i64 0) := by rw [HE, ← hsb]; go_simp
  have r1 : W0.cell? ⟨w.heap.size + 1, 1, none⟩ = some (.int .i64 0) := by rw [HE, ← hsb]; go_simp
  have f0 : W0.frozen? ⟨w.heap.size + 1, 0, none⟩ = false := by rw [HE, ← hsb]; go_simp
  have f1 : W0.frozen? ⟨w.heap.size + 1, 1, none⟩ = false := by rw [HE, ← hsb]; go_simp
  have HRB := Lib.hid (fun (W : World) (hW : Below W0.heap.size W0 W) => (⟨(hW.cell (p := ⟨w.heap.size + 1, 0, none⟩) (by rw [hs0]; show w.heap.size + 1 < w.heap.size + 1 + 1; omega)).trans r0, (hW.cell (p := ⟨w.heap.size + 1, 1, none⟩) (by rw [hs0]; show w.heap.size + 1 < w.heap.size + 1 + 1; omega)).trans r1, (hW.frozen (p := ⟨w.heap.size + 1, 0, none⟩) (by rw [hs0]; show w.heap.size + 1 < w.heap.size + 1 + 1; omega)).trans f0, (hW.frozen (p := ⟨w.heap.size + 1, 1, none⟩) (by rw [hs0]; show w.heap.size + 1 < w.heap.size + 1 + 1; omega)).trans f1⟩ :
    W.cell? ⟨w.heap.size + 1, 0, none⟩ = some (.int .i64 0) ∧ W.cell? ⟨w.heap.size + 1, 1, none⟩ = some (.int .i64 0) ∧ W.frozen? ⟨w.heap.size + 1, 0, none⟩ = false ∧ W.frozen? ⟨w.heap.size + 1, 1, none⟩ = false))
  clear h HE HEb hn hw hbb hqb hb0 r0 r1 f0 f1
  rcases bool_fs (brB zs) with hp | hp
  · have E := Lib.hid (th_no hp)
    have HP := Lib.hid hp
    clear hr hp
    go_enter Try.func43, Try.ntmps43
    go_wp2_with fail
    rw [← HEQb.out, ← HEQ.out]
    refine (implIsBranch_if _ zs W0 false H0.out HNN.out HWW.out HP.out).mono ?_
    rintro e w1 ⟨rfl, hb1⟩
    obtain ⟨l1, l2, l3, l4⟩ := HRB.out w1 hb1
    have B1 := Lib.hid (HB0.out.trans (hb1.mono (by omega)))
    clear hb1 cb0
    go_wp2_with fail
    have cr0 : ((w1.setCell ⟨w.heap.size + 1, 0, none⟩ (.int .i64 (0))).setCell ⟨w.heap.size + 1, 1, none⟩ (.int .i64 (0))).cell? ⟨w.heap.size + 1, 0, none⟩ = some (.int .i64 (0)) := by go_simp
    have cr1 : ((w1.setCell ⟨w.heap.size + 1, 0, none⟩ (.int .i64 (0))).setCell ⟨w.heap.size + 1, 1, none⟩ (.int .i64 (0))).cell? ⟨w.heap.size + 1, 1, none⟩ = some (.int .i64 (0)) := by go_simp
    refine bodyPost_ret (v := .tuple #[.agg #[.int .i64 (0), .int .i64 (0)], .int .i64 1]) (by simp [results, Try.results43, go_sem, cr0, cr1]) rfl ?_
    exact ansF_end _ (by omega) E.out.1.symm E.out.2.1.symm E.out.2.2.symm B1.out _ _
  by_cases h1 : zs.length = 1
  · have E := Lib.hid (th_one hp h1)
    have HP := Lib.hid hp
    obtain rfl : n = 1 := by rw [← HL.out]; exact h1
    clear hr hp h1
    go_enter Try.func43, Try.ntmps43
    go_wp2_with fail
    rw [← HEQb.out, ← HEQ.out]
    refine (implIsBranch_if _ zs W0 true H0.out HNN.out HWW.out HP.out).mono ?_
    rintro e w1 ⟨rfl, hb1⟩
    have cb1 : w1.cell? ⟨w.heap.size, 0, none⟩ = some (.slice A 1 c) := by rw [hb1.cell (p := ⟨w.heap.size, 0, none⟩) (by rw [hs0]; show w.heap.size < w.heap.size + 1 + 1; omega)]; exact cb0
    obtain ⟨l1, l2, l3, l4⟩ := HRB.out w1 hb1
    have B1 := Lib.hid (HB0.out.trans (hb1.mono (by omega)))
    clear hb1 cb0
    go_wp2_with fail
    have cr0 : ((w1.setCell ⟨w.heap.size + 1, 0, none⟩ (.int .i64 (2))).setCell ⟨w.heap.size + 1, 1, none⟩ (.int .i64 (1))).cell? ⟨w.heap.size + 1, 0, none⟩ = some (.int .i64 (2)) := by go_simp
    have cr1 : ((w1.setCell ⟨w.heap.size + 1, 0, none⟩ (.int .i64 (2))).setCell ⟨w.heap.size + 1, 1, none⟩ (.int .i64 (1))).cell? ⟨w.heap.size + 1, 1, none⟩ = some (.int .i64 (1)) := by go_simp
    refine bodyPost_ret (v := .tuple #[.agg #[.int .i64 (2), .int .i64 (1)], .int .i64 0]) (by simp [results, Try.results43, go_sem, cr0, cr1]) rfl ?_
    exact ansF_end _ (by omega) E.out.1.symm E.out.2.1.symm E.out.2.2.symm B1.out _ _
  obtain ⟨hl1, hz0, hz1⟩ := br_first2 hp h1
  obtain ⟨x, hx⟩ : ∃ x, zs[0]?.getD 0 = x := ⟨_, rfl⟩
  obtain ⟨y, hy⟩ : ∃ y, zs[1]?.getD 0 = y := ⟨_, rfl⟩
  have E := Lib.hid (th_more hp h1 hx hy)
  rw [HL.out] at hl1 h1
  obtain ⟨a, rfl, hal, hc0⟩ := hr.2 0 (by omega)
  obtain ⟨g, o, rfl⟩ := HF.out a rfl
  obtain ⟨a', e', _, hc1⟩ := hr.2 1 hl1
  cases e'
  have hgw : g < w.heap.size := hal
  rw [add_lit] at hc0 hc1
  rw [Nat.add_zero] at hc0
  have hd0 : w.cell? ⟨g, o, none⟩ = some (.int .i64 x) := by rw [← hx]; simpa using hc0
  have hd1 : w.cell? ⟨g, o + 1, none⟩ = some (.int .i64 y) := by rw [← hy]; simpa using hc1
  rw [hx] at hz0
  rw [hy] at hz1
  have HP := Lib.hid hp
  have hn1 : ((n : Int) == 1) = false := by simpa using (show ¬ (n : Int) = 1 by omega)
  have hn1' : ¬ (n : Int) = 1 := by omega
  have hxy : 1 ≤ x * y ∧ x * y ≤ 128000 := by
    have h5 := Int.mul_le_mul hz0.1 hz1.1 (by omega) (by omega)
    have h6 := Int.mul_le_mul hz0.2 hz1.2 (by omega) (by omega)
    omega
  have hi0 : (0 : Int) < (n : Int) := by omega
  have hi1 : (1 : Int) < (n : Int) := by omega
  have q0 : 0 < n := by omega
  have q1 : 1 < n := by omega
  clear hr hp hx hy hc0 hc1 hal h1
  go_enter Try.func43, Try.ntmps43
  go_wp2_with fail
  rw [← HEQb.out, ← HEQ.out]
  refine (implIsBranch_if _ zs W0 true H0.out HNN.out HWW.out HP.out).mono ?_
  rintro e w1 ⟨rfl, hb1⟩
  have cb1 : w1.cell? ⟨w.heap.size, 0, none⟩ = some (.slice (some ⟨g, o, none⟩) n c) := by rw [hb1.cell (p := ⟨w.heap.size, 0, none⟩) (by rw [hs0]; show w.heap.size < w.heap.size + 1 + 1; omega)]; exact cb0
  have B1 := Lib.hid (HB0.out.trans (hb1.mono (by omega)))
  have HB1 := Lib.hid hb1
  have c0 : w1.cell? ⟨g, o, none⟩ = some (.int .i64 x) := by rw [B1.out.cell (p := ⟨g, o, none⟩) hgw]; exact hd0
  have c1 : w1.cell? ⟨g, o + 1, none⟩ = some (.int .i64 y) := by rw [B1.out.cell (p := ⟨g, o + 1, none⟩) hgw]; exact hd1
  have hs1 := B1.out.size
  have hss1 := hb1.size
  clear hb1 cb0
  go_wp2_with fail
  have HOP : Hid (opT (fracB 1 x && fracB 1 y) (1 * y + 1 * x) (x * y) = mkT (x + y) (x * y) ∧ opB (fracB 1 x && fracB 1 y) (1 * y + 1 * x) (x * y) = mkB (x + y) (x * y) ∧ opC (fracB 1 x && fracB 1 y) (1 * y + 1 * x) (x * y) = 0) := Lib.hid (by
    have e1 := frac_unit (n := x) (by omega)
    have e2 := frac_unit (n := y) (by omega)
    have e3 := mk_frac (a := x + y) (b := x * y) (by omega) (by omega)
    have e4 : 1 * y + 1 * x = x + y := by omega
    rw [e4, e1, e2]
    simp [opT, opB, opC, fitTF, fitBF, fitCF, e3])
  refine wp_region_held_drew (S := fun w' => w'.cell? ⟨w.heap.size, 0, none⟩ = some (.slice (some ⟨g, o, none⟩) n c) ∧ w'.cell? ⟨g, o, none⟩ = some (.int .i64 x) ∧ w'.cell? ⟨g, o + 1, none⟩ = some (.int .i64 y)) (by kernel_rfl) ⟨cb1, c0, c1⟩ (fun hHeld => ?_)
  refine takeY 0 _ (v := ?_) rfl rfl (by kernel_rfl) (by kernel_rfl) (by kernel_rfl) (fun _ _ _ h => h) (by kernel_rfl) ?_ (by assumption) ?_
  rotate_left 1
  · intro w hSw; (try dsimp only at hSw); go_simp; (try with_reducible rfl)
  try simp only [Act.put, List.setIfInBounds_toArray, List.set_cons_zero, List.set_cons_succ]
  refine takeY 1 _ (v := ?_) rfl rfl (by kernel_rfl) (by kernel_rfl) (by kernel_rfl) (fun _ _ _ h => h) (by kernel_rfl) ?_ (by assumption) ?_
  rotate_left 1
  · intro w hSw; (try dsimp only at hSw); go_simp; (try with_reducible rfl)
  try simp only [Act.put, List.setIfInBounds_toArray, List.set_cons_zero, List.set_cons_succ]
  refine takeY 2 _ (v := ?_) rfl rfl (by kernel_rfl) (by kernel_rfl) (by kernel_rfl) (fun _ _ _ h => h) (by kernel_rfl) ?_ (by assumption) ?_
  rotate_left 1
  · intro w hSw; (try dsimp only at hSw); go_simp; (try with_reducible rfl)
  try simp only [Act.put, List.setIfInBounds_toArray, List.set_cons_zero, List.set_cons_succ]
  refine takeY 3 _ (v := ?_) rfl rfl (by kernel_rfl) (by kernel_rfl) (by kernel_rfl) (fun _ _ _ h => h) (by kernel_rfl) ?_ (by assumption) ?_
  rotate_left 1
  · intro w hSw; (try dsimp only at hSw); go_simp; (try with_reducible rfl)
  try simp only [Act.put, List.setIfInBounds_toArray, List.set_cons_zero, List.set_cons_succ]
  refine takeY 4 _ (v := ?_) rfl rfl (by kernel_rfl) (by kernel_rfl) (by kernel_rfl) (fun _ _ _ h => h) (by kernel_rfl) ?_ (by assumption) ?_
  rotate_left 1
  · intro w hSw; (try dsimp only at hSw); go_simp; (try with_reducible rfl)
  try simp only [Act.put, List.setIfInBounds_toArray, List.set_cons_zero, List.set_cons_succ]
  refine takeY 5 _ (v := ?_) rfl rfl (by kernel_rfl) (by kernel_rfl) (by kernel_rfl) (fun _ _ _ h => h) (by kernel_rfl) ?_ (by assumption) ?_
  rotate_left 1
  · intro w hSw; (try dsimp only at hSw); go_simp; (try with_reducible rfl)
  try simp only [Act.put, List.setIfInBounds_toArray, List.set_cons_zero, List.set_cons_succ]
  refine takeY 6 _ (v := ?_) rfl rfl (by kernel_rfl) (by kernel_rfl) (by kernel_rfl) (fun _ _ _ h => h) (by kernel_rfl) ?_ (by assumption) ?_
  rotate_left 1
  · intro w hSw; (try dsimp only at hSw); go_simp; (try with_reducible rfl)
  try simp only [Act.put, List.setIfInBounds_toArray, List.set_cons_zero, List.set_cons_succ]
  refine takeY 7 _ (v := ?_) rfl rfl (by kernel_rfl) (by kernel_rfl) (by kernel_rfl) (fun _ _ _ h => h) (by kernel_rfl) ?_ (by assumption) ?_
  rotate_left 1
  · intro w hSw; (try dsimp only at hSw); go_simp; (try with_reducible rfl)
  try simp only [Act.put, List.setIfInBounds_toArray, List.set_cons_zero, List.set_cons_succ]
  refine takeY 8 _ (v := ?_) rfl rfl (by kernel_rfl) (by kernel_rfl) (by kernel_rfl) (fun _ _ _ h => h) (by kernel_rfl) ?_ (by assumption) ?_
  rotate_left 1
  · intro w hSw; (try dsimp only at hSw); go_simp; (try with_reducible rfl)
  try simp only [Act.put, List.setIfInBounds_toArray, List.set_cons_zero, List.set_cons_succ]
  refine takeY 9 _ (v := ?_) rfl rfl (by kernel_rfl) (by kernel_rfl) (by kernel_rfl) (fun _ _ _ h => h) (by kernel_rfl) ?_ (by assumption) ?_
  rotate_left 1
  · intro w hSw; (try dsimp only at hSw); go_simp; (try with_reducible rfl)
  try simp only [Act.put, List.setIfInBounds_toArray, List.set_cons_zero, List.set_cons_succ]
  refine wpAnyH_ready (rs := [10]) (by kernel_rfl) (by simp) ?_
  refine AllReadyH.cons rfl (fun K hK => ?_) AllReadyH.nil
  go_simp
  refine (implAddFractions_any 1 x 1 y w1.drew).mono ?_
  rintro e w2 ⟨rfl, hb2⟩
  have cb2 : w2.cell? ⟨w.heap.size, 0, none⟩ = some (.slice (some ⟨g, o, none⟩) n c) := by rw [hb2.cell (p := ⟨w.heap.size, 0, none⟩) (show w.heap.size < w1.heap.size by omega)]; exact cb1
  have c02 : w2.cell? ⟨g, o, none⟩ = some (.int .i64 x) := by rw [hb2.cell (p := ⟨g, o, none⟩) (show g < w1.heap.size by omega)]; exact c0
  have c12 : w2.cell? ⟨g, o + 1, none⟩ = some (.int .i64 y) := by rw [hb2.cell (p := ⟨g, o + 1, none⟩) (show g < w1.heap.size by omega)]; exact c1
  obtain ⟨l1, l2, l3, l4⟩ := HRB.out w2 (HB1.out.trans (((drewN_below w1 1).trans hb2).mono hss1))
  have B2 : Hid (Below w.heap.size w w2) := Lib.hid (B1.out.trans (((drewN_below w1 1).trans hb2).mono hs1))
  have hgne : g ≠ w.heap.size + 1 := by omega
  have hgne2 : w.heap.size + 1 ≠ g := by omega
  clear hb2
  refine hK.out _ _ ⟨cb2, c02, c12⟩ (fun hHeld => ?_)
  clear hK K
  try simp only [Act.put, List.setIfInBounds_toArray, List.set_cons_zero, List.set_cons_succ]
  rw [HOP.out.1, HOP.out.2.1, HOP.out.2.2]
  refine takeY 11 _ (v := ?_) rfl rfl (by kernel_rfl) (by kernel_rfl) (by kernel_rfl) (fun _ _ _ h => h) (by kernel_rfl) ?_ (by assumption) ?_
  rotate_left 1
  · intro w hSw; (try dsimp only at hSw); go_simp; (try with_reducible rfl)
  try simp only [Act.put, List.setIfInBounds_toArray, List.set_cons_zero, List.set_cons_succ]
  refine takeY 12 _ (v := ?_) rfl rfl (by kernel_rfl) (by kernel_rfl) (by kernel_rfl) (fun _ _ _ h => h) (by kernel_rfl) ?_ (by assumption) ?_
  rotate_left 1
  · intro w hSw; (try dsimp only at hSw); go_simp; (try with_reducible rfl)
  try simp only [Act.put, List.setIfInBounds_toArray, List.set_cons_zero, List.set_cons_succ]
  refine wpAnyH_ready (rs := [13]) (by kernel_rfl) (by simp) ?_
  refine AllReadyH.cons rfl (fun K hK => ?_) AllReadyH.nil
  go_simp
  refine hK.out _ _ ⟨by go_simp, by go_simp, by go_simp⟩ (fun hHeld => ?_)
  clear hK K
  try simp only [Act.put, List.setIfInBounds_toArray, List.set_cons_zero, List.set_cons_succ]
  refine takeY 14 _ (v := ?_) rfl rfl (by kernel_rfl) (by kernel_rfl) (by kernel_rfl) (fun _ _ _ h => h) (by kernel_rfl) ?_ (by assumption) ?_
  rotate_left 1
  · intro w hSw; (try dsimp only at hSw); go_simp; (try with_reducible rfl)
  try simp only [Act.put, List.setIfInBounds_toArray, List.set_cons_zero, List.set_cons_succ]
  refine wpAnyH_done (by kernel_rfl) ?_ _
  go_wp2_with fail
  have cr0 : ((w2.setCell ⟨w.heap.size + 1, 0, none⟩ (.int .i64 (mkT (x + y) (x * y)))).setCell ⟨w.heap.size + 1, 1, none⟩ (.int .i64 (mkB (x + y) (x * y)))).cell? ⟨w.heap.size + 1, 0, none⟩ = some (.int .i64 (mkT (x + y) (x * y))) := by go_simp
  have cr1 : ((w2.setCell ⟨w.heap.size + 1, 0, none⟩ (.int .i64 (mkT (x + y) (x * y)))).setCell ⟨w.heap.size + 1, 1, none⟩ (.int .i64 (mkB (x + y) (x * y)))).cell? ⟨w.heap.size + 1, 1, none⟩ = some (.int .i64 (mkB (x + y) (x * y))) := by go_simp
  refine bodyPost_ret (v := .tuple #[.agg #[.int .i64 (mkT (x + y) (x * y)), .int .i64 (mkB (x + y) (x * y))], .int .i64 0]) (by simp [results, Try.results43, go_sem, cr0, cr1]) rfl ?_
  exact ansF_end _ (by omega) E.out.1.symm E.out.2.1.symm E.out.2.2.symm B2.out _ _

set_option maxRecDepth 100000 in
set_option maxHeartbeats 1000000 in
theorem specThresholdOfBranch_any (v : Value) (zs : List Int) (w : World) (h : ReadI w w.heap.size v zs) (hn : zs.length ≤ 1048576) (hw : ∀ z ∈ zs, (Lit.int .i64 z).wf = true) :
    Calls Try.prog 44 #[.agg #[v]] w (AnsFC w (thT zs) (thB zs) (thC zs)) := by
  obtain ⟨n, A, c, rfl, hr, HL, HN, hnc, HF, hcm⟩ := h.split2
  obtain ⟨Wb, HEb⟩ : ∃ W, W = w.alloc (.cells #[.slice A n c] 26) := ⟨_, rfl⟩
  have hbb : Below w.heap.size w Wb := by rw [HEb]; exact below_box _ _
  have hqb : BoxI Wb w.heap.size (.slice A n c) := by rw [HEb]; exact BoxI.new _ _ _
  have hsb : Wb.heap.size = w.heap.size + 1 := by rw [HEb]; simp
  obtain ⟨W0, HE⟩ : ∃ W, W = Wb.alloc (.cells #[.int .i64 0, .int .i64 0] 45) := ⟨_, rfl⟩
  have hb0 : Below Wb.heap.size Wb W0 := by rw [HE]; exact below_box _ _
  have hs0 : W0.heap.size = w.heap.size + 1 + 1 := by rw [HE]; simp [hsb]
  have HB0 := Lib.hid (hbb.trans (hb0.mono (by omega)))
  have H0 := Lib.hid ((h.below HB0.out).more HB0.out.size)
  have HEQ := Lib.hid HE
  have HEQb := Lib.hid HEb
  have HNN := Lib.hid hn
  have HWW := Lib.hid hw
  have cb0 : W0.cell? ⟨w.heap.size, 0, none⟩ = some (.slice A n c) := by rw [hb0.cell (p := ⟨w.heap.size, 0, none⟩) hqb.2]; exact hqb.1
  have r0 : W0.cell? ⟨w.heap.size + 1, 0, none⟩ = some (.int .i64 0) := by rw [HE, ← hsb]; go_simp
  have r1 : W0.cell? ⟨w.heap.size + 1, 1, none⟩ = some (.int .i64 0) := by rw [HE, ← hsb]; go_simp
  have f0 : W0.frozen? ⟨w.heap.size + 1, 0, none⟩ = false := by rw [HE, ← hsb]; go_simp
  have f1 : W0.frozen? ⟨w.heap.size + 1, 1, none⟩ = false := by rw [HE, ← hsb]; go_simp
  have HRB := Lib.hid (fun (W : World) (hW : Below W0.heap.size W0 W) => (⟨(hW.cell (p := ⟨w.heap.size + 1, 0, none⟩) (by rw [hs0]; show w.heap.size + 1 < w.heap.size + 1 + 1; omega)).trans r0, (hW.cell (p := ⟨w.heap.size + 1, 1, none⟩) (by rw [hs0]; show w.heap.size + 1 < w.heap.size + 1 + 1; omega)).trans r1, (hW.frozen (p := ⟨w.heap.size + 1, 0, none⟩) (by rw [hs0]; show w.heap.size + 1 < w.heap.size + 1 + 1; omega)).trans f0, (hW.frozen (p := ⟨w.heap.size + 1, 1, none⟩) (by rw [hs0]; show w.heap.size + 1 < w.heap.size + 1 + 1; omega)).trans f1⟩ :
    W.cell? ⟨w.heap.size + 1, 0, none⟩ = some (.int .i64 0) ∧ W.cell? ⟨w.heap.size + 1, 1, none⟩ = some (.int .i64 0) ∧ W.frozen? ⟨w.heap.size + 1, 0, none⟩ = false ∧ W.frozen? ⟨w.heap.size + 1, 1, none⟩ = false))
  clear h HE HEb hn hw hbb hqb hb0 r0 r1 f0 f1
  rcases bool_fs (brB zs) with hp | hp
  · have E := Lib.hid (th_no hp)
    have HP := Lib.hid hp
    clear hr hp
    go_enter Try.func44, Try.ntmps44
    go_wp2_with fail
    rw [← HEQb.out, ← HEQ.out]
    refine (l03Is_if _ zs W0 false H0.out HNN.out HWW.out HP.out).mono ?_
    rintro e w1 ⟨rfl, hb1⟩
    obtain ⟨l1, l2, l3, l4⟩ := HRB.out w1 hb1
    have B1 := Lib.hid (HB0.out.trans (hb1.mono (by omega)))
    clear hb1 cb0
    go_wp2_with fail
    have cr0 : ((w1.setCell ⟨w.heap.size + 1, 0, none⟩ (.int .i64 (0))).setCell ⟨w.heap.size + 1, 1, none⟩ (.int .i64 (0))).cell? ⟨w.heap.size + 1, 0, none⟩ = some (.int .i64 (0)) := by go_simp
    have cr1 : ((w1.setCell ⟨w.heap.size + 1, 0, none⟩ (.int .i64 (0))).setCell ⟨w.heap.size + 1, 1, none⟩ (.int .i64 (0))).cell? ⟨w.heap.size + 1, 1, none⟩ = some (.int .i64 (0)) := by go_simp
    refine bodyPost_ret (v := .tuple #[.agg #[.int .i64 (0), .int .i64 (0)], .int .i64 1]) (by simp [results, Try.results44, go_sem, cr0, cr1]) rfl ?_
    exact ansF_end _ (by omega) E.out.1.symm E.out.2.1.symm E.out.2.2.symm B1.out _ _
  by_cases h1 : zs.length = 1
  · have E := Lib.hid (th_one hp h1)
    have HP := Lib.hid hp
    obtain rfl : n = 1 := by rw [← HL.out]; exact h1
    clear hr hp h1
    go_enter Try.func44, Try.ntmps44
    go_wp2_with fail
    rw [← HEQb.out, ← HEQ.out]
    refine (l03Is_if _ zs W0 true H0.out HNN.out HWW.out HP.out).mono ?_
    rintro e w1 ⟨rfl, hb1⟩
    have cb1 : w1.cell? ⟨w.heap.size, 0, none⟩ = some (.slice A 1 c) := by rw [hb1.cell (p := ⟨w.heap.size, 0, none⟩) (by rw [hs0]; show w.heap.size < w.heap.size + 1 + 1; omega)]; exact cb0
    obtain ⟨l1, l2, l3, l4⟩ := HRB.out w1 hb1
    have B1 := Lib.hid (HB0.out.trans (hb1.mono (by omega)))
    clear hb1 cb0
    go_wp2_with fail
    have cr0 : ((w1.setCell ⟨w.heap.size + 1, 0, none⟩ (.int .i64 (2))).setCell ⟨w.heap.size + 1, 1, none⟩ (.int .i64 (1))).cell? ⟨w.heap.size + 1, 0, none⟩ = some (.int .i64 (2)) := by go_simp
    have cr1 : ((w1.setCell ⟨w.heap.size + 1, 0, none⟩ (.int .i64 (2))).setCell ⟨w.heap.size + 1, 1, none⟩ (.int .i64 (1))).cell? ⟨w.heap.size + 1, 1, none⟩ = some (.int .i64 (1)) := by go_simp
    refine bodyPost_ret (v := .tuple #[.agg #[.int .i64 (2), .int .i64 (1)], .int .i64 0]) (by simp [results, Try.results44, go_sem, cr0, cr1]) rfl ?_
    exact ansF_end _ (by omega) E.out.1.symm E.out.2.1.symm E.out.2.2.symm B1.out _ _
  obtain ⟨hl1, hz0, hz1⟩ := br_first2 hp h1
  obtain ⟨x, hx⟩ : ∃ x, zs[0]?.getD 0 = x := ⟨_, rfl⟩
  obtain ⟨y, hy⟩ : ∃ y, zs[1]?.getD 0 = y := ⟨_, rfl⟩
  have E := Lib.hid (th_more hp h1 hx hy)
  rw [HL.out] at hl1 h1
  obtain ⟨a, rfl, hal, hc0⟩ := hr.2 0 (by omega)
  obtain ⟨g, o, rfl⟩ := HF.out a rfl
  obtain ⟨a', e', _, hc1⟩ := hr.2 1 hl1
  cases e'
  have hgw : g < w.heap.size := hal
  rw [add_lit] at hc0 hc1
  rw [Nat.add_zero] at hc0
  have hd0 : w.cell? ⟨g, o, none⟩ = some (.int .i64 x) := by rw [← hx]; simpa using hc0
  have hd1 : w.cell? ⟨g, o + 1, none⟩ = some (.int .i64 y) := by rw [← hy]; simpa using hc1
  rw [hx] at hz0
  rw [hy] at hz1
  have HP := Lib.hid hp
  have hn1 : ((n : Int) == 1) = false := by simpa using (show ¬ (n : Int) = 1 by omega)
  have hn1' : ¬ (n : Int) = 1 := by omega
  have hxy : 1 ≤ x * y ∧ x * y ≤ 128000 := by
    have h5 := Int.mul_le_mul hz0.1 hz1.1 (by omega) (by omega)
    have h6 := Int.mul_le_mul hz0.2 hz1.2 (by omega) (by omega)
    omega
  have hi0 : (0 : Int) < (n : Int) := by omega
  have hi1 : (1 : Int) < (n : Int) := by omega
  have q0 : 0 < n := by omega
  have q1 : 1 < n := by omega
  clear hr hp hx hy hc0 hc1 hal h1
  go_enter Try.func44, Try.ntmps44
  go_wp2_with fail
  rw [← HEQb.out, ← HEQ.out]
  refine (l03Is_if _ zs W0 true H0.out HNN.out HWW.out HP.out).mono ?_
  rintro e w1 ⟨rfl, hb1⟩
  have cb1 : w1.cell? ⟨w.heap.size, 0, none⟩ = some (.slice (some ⟨g, o, none⟩) n c) := by rw [hb1.cell (p := ⟨w.heap.size, 0, none⟩) (by rw [hs0]; show w.heap.size < w.heap.size + 1 + 1; omega)]; exact cb0
  have B1 := Lib.hid (HB0.out.trans (hb1.mono (by omega)))
  have HB1 := Lib.hid hb1
  have c0 : w1.cell? ⟨g, o, none⟩ = some (.int .i64 x) := by rw [B1.out.cell (p := ⟨g, o, none⟩) hgw]; exact hd0
  have c1 : w1.cell? ⟨g, o + 1, none⟩ = some (.int .i64 y) := by rw [B1.out.cell (p := ⟨g, o + 1, none⟩) hgw]; exact hd1
  have hs1 := B1.out.size
  have hss1 := hb1.size
  clear hb1 cb0
  go_wp2_with fail
  have p1 : IntKind.i64.wrap (x + y) = x + y := IntWalk.i64_in _ (by omega)
  have p2 : IntKind.i64.wrap (x * y) = x * y := IntWalk.i64_in _ (by omega)
  refine wp_region_held_drew (S := fun w' => w'.cell? ⟨w.heap.size, 0, none⟩ = some (.slice (some ⟨g, o, none⟩) n c) ∧ w'.cell? ⟨g, o, none⟩ = some (.int .i64 x) ∧ w'.cell? ⟨g, o + 1, none⟩ = some (.int .i64 y)) (by kernel_rfl) ⟨cb1, c0, c1⟩ (fun hHeld => ?_)
  refine takeY 0 _ (v := ?_) rfl rfl (by kernel_rfl) (by kernel_rfl) (by kernel_rfl) (fun _ _ _ h => h) (by kernel_rfl) ?_ (by assumption) ?_
  rotate_left 1
  · intro w hSw; (try dsimp only at hSw); go_simp; (try with_reducible rfl)
  try simp only [Act.put, List.setIfInBounds_toArray, List.set_cons_zero, List.set_cons_succ]
  refine takeY 1 _ (v := ?_) rfl rfl (by kernel_rfl) (by kernel_rfl) (by kernel_rfl) (fun _ _ _ h => h) (by kernel_rfl) ?_ (by assumption) ?_
  rotate_left 1
  · intro w hSw; (try dsimp only at hSw); go_simp; (try with_reducible rfl)
  try simp only [Act.put, List.setIfInBounds_toArray, List.set_cons_zero, List.set_cons_succ]
  refine takeY 2 _ (v := ?_) rfl rfl (by kernel_rfl) (by kernel_rfl) (by kernel_rfl) (fun _ _ _ h => h) (by kernel_rfl) ?_ (by assumption) ?_
  rotate_left 1
  · intro w hSw; (try dsimp only at hSw); go_simp; (try with_reducible rfl)
  try simp only [Act.put, List.setIfInBounds_toArray, List.set_cons_zero, List.set_cons_succ]
  refine takeY 3 _ (v := ?_) rfl rfl (by kernel_rfl) (by kernel_rfl) (by kernel_rfl) (fun _ _ _ h => h) (by kernel_rfl) ?_ (by assumption) ?_
  rotate_left 1
  · intro w hSw; (try dsimp only at hSw); go_simp; (try with_reducible rfl)
  try simp only [Act.put, List.setIfInBounds_toArray, List.set_cons_zero, List.set_cons_succ]
  refine takeY 4 _ (v := ?_) rfl rfl (by kernel_rfl) (by kernel_rfl) (by kernel_rfl) (fun _ _ _ h => h) (by kernel_rfl) ?_ (by assumption) ?_
  rotate_left 1
  · intro w hSw; (try dsimp only at hSw); go_simp; (try with_reducible rfl)
  try simp only [Act.put, List.setIfInBounds_toArray, List.set_cons_zero, List.set_cons_succ]
  refine takeY 5 _ (v := ?_) rfl rfl (by kernel_rfl) (by kernel_rfl) (by kernel_rfl) (fun _ _ _ h => h) (by kernel_rfl) ?_ (by assumption) ?_
  rotate_left 1
  · intro w hSw; (try dsimp only at hSw); go_simp; (try with_reducible rfl)
  try simp only [Act.put, List.setIfInBounds_toArray, List.set_cons_zero, List.set_cons_succ]
  refine takeY 6 _ (v := ?_) rfl rfl (by kernel_rfl) (by kernel_rfl) (by kernel_rfl) (fun _ _ _ h => h) (by kernel_rfl) ?_ (by assumption) ?_
  rotate_left 1
  · intro w hSw; (try dsimp only at hSw); go_simp; (try with_reducible rfl)
  try simp only [Act.put, List.setIfInBounds_toArray, List.set_cons_zero, List.set_cons_succ]
  refine takeY 7 _ (v := ?_) rfl rfl (by kernel_rfl) (by kernel_rfl) (by kernel_rfl) (fun _ _ _ h => h) (by kernel_rfl) ?_ (by assumption) ?_
  rotate_left 1
  · intro w hSw; (try dsimp only at hSw); go_simp; (try with_reducible rfl)
  try simp only [Act.put, List.setIfInBounds_toArray, List.set_cons_zero, List.set_cons_succ]
  refine takeY 8 _ (v := ?_) rfl rfl (by kernel_rfl) (by kernel_rfl) (by kernel_rfl) (fun _ _ _ h => h) (by kernel_rfl) ?_ (by assumption) ?_
  rotate_left 1
  · intro w hSw; (try dsimp only at hSw); go_simp; (try with_reducible rfl)
  try simp only [Act.put, List.setIfInBounds_toArray, List.set_cons_zero, List.set_cons_succ]
  refine takeY 9 _ (v := ?_) rfl rfl (by kernel_rfl) (by kernel_rfl) (by kernel_rfl) (fun _ _ _ h => h) (by kernel_rfl) ?_ (by assumption) ?_
  rotate_left 1
  · intro w hSw; (try dsimp only at hSw); go_simp; (try with_reducible rfl)
  try simp only [Act.put, List.setIfInBounds_toArray, List.set_cons_zero, List.set_cons_succ]
  refine takeY 10 _ (v := ?_) rfl rfl (by kernel_rfl) (by kernel_rfl) (by kernel_rfl) (fun _ _ _ h => h) (by kernel_rfl) ?_ (by assumption) ?_
  rotate_left 1
  · intro w hSw; (try dsimp only at hSw); go_simp; (try with_reducible rfl)
  try simp only [Act.put, List.setIfInBounds_toArray, List.set_cons_zero, List.set_cons_succ]
  refine takeY 11 _ (v := ?_) rfl rfl (by kernel_rfl) (by kernel_rfl) (by kernel_rfl) (fun _ _ _ h => h) (by kernel_rfl) ?_ (by assumption) ?_
  rotate_left 1
  · intro w hSw; (try dsimp only at hSw); go_simp; (try with_reducible rfl)
  try simp only [Act.put, List.setIfInBounds_toArray, List.set_cons_zero, List.set_cons_succ]
  refine takeY 12 _ (v := ?_) rfl rfl (by kernel_rfl) (by kernel_rfl) (by kernel_rfl) (fun _ _ _ h => h) (by kernel_rfl) ?_ (by assumption) ?_
  rotate_left 1
  · intro w hSw; (try dsimp only at hSw); go_simp; (try with_reducible rfl)
  try simp only [Act.put, List.setIfInBounds_toArray, List.set_cons_zero, List.set_cons_succ]
  refine takeY 13 _ (v := ?_) rfl rfl (by kernel_rfl) (by kernel_rfl) (by kernel_rfl) (fun _ _ _ h => h) (by kernel_rfl) ?_ (by assumption) ?_
  rotate_left 1
  · intro w hSw; (try dsimp only at hSw); go_simp; (try with_reducible rfl)
  try simp only [Act.put, List.setIfInBounds_toArray, List.set_cons_zero, List.set_cons_succ]
  refine takeY 14 _ (v := ?_) rfl rfl (by kernel_rfl) (by kernel_rfl) (by kernel_rfl) (fun _ _ _ h => h) (by kernel_rfl) ?_ (by assumption) ?_
  rotate_left 1
  · intro w hSw; (try dsimp only at hSw); go_simp; (try with_reducible rfl)
  try simp only [Act.put, List.setIfInBounds_toArray, List.set_cons_zero, List.set_cons_succ]
  refine takeY 15 _ (v := ?_) rfl rfl (by kernel_rfl) (by kernel_rfl) (by kernel_rfl) (fun _ _ _ h => h) (by kernel_rfl) ?_ (by assumption) ?_
  rotate_left 1
  · intro w hSw; (try dsimp only at hSw); go_simp; (try with_reducible rfl)
  try simp only [Act.put, List.setIfInBounds_toArray, List.set_cons_zero, List.set_cons_succ]
  refine takeY 16 _ (v := ?_) rfl rfl (by kernel_rfl) (by kernel_rfl) (by kernel_rfl) (fun _ _ _ h => h) (by kernel_rfl) ?_ (by assumption) ?_
  rotate_left 1
  · intro w hSw; (try dsimp only at hSw); go_simp; (try with_reducible rfl)
  try simp only [Act.put, List.setIfInBounds_toArray, List.set_cons_zero, List.set_cons_succ]
  refine takeY 17 _ (v := ?_) rfl rfl (by kernel_rfl) (by kernel_rfl) (by kernel_rfl) (fun _ _ _ h => h) (by kernel_rfl) ?_ (by assumption) ?_
  rotate_left 1
  · intro w hSw; (try dsimp only at hSw); go_simp; (try with_reducible rfl)
  try simp only [Act.put, List.setIfInBounds_toArray, List.set_cons_zero, List.set_cons_succ]
  refine wpAnyH_ready (rs := [18]) (by kernel_rfl) (by simp) ?_
  refine AllReadyH.cons rfl (fun K hK => ?_) AllReadyH.nil
  go_simp
  refine (l01Make_any (x + y) (x * y) w1.drew (by omega) (by omega) (by omega) (by omega) (by omega)).mono ?_
  rintro e w2 ⟨rfl, hb2⟩
  have cb2 : w2.cell? ⟨w.heap.size, 0, none⟩ = some (.slice (some ⟨g, o, none⟩) n c) := by rw [hb2.cell (p := ⟨w.heap.size, 0, none⟩) (show w.heap.size < w1.heap.size by omega)]; exact cb1
  have c02 : w2.cell? ⟨g, o, none⟩ = some (.int .i64 x) := by rw [hb2.cell (p := ⟨g, o, none⟩) (show g < w1.heap.size by omega)]; exact c0
  have c12 : w2.cell? ⟨g, o + 1, none⟩ = some (.int .i64 y) := by rw [hb2.cell (p := ⟨g, o + 1, none⟩) (show g < w1.heap.size by omega)]; exact c1
  obtain ⟨l1, l2, l3, l4⟩ := HRB.out w2 (HB1.out.trans (((drewN_below w1 1).trans hb2).mono hss1))
  have B2 : Hid (Below w.heap.size w w2) := Lib.hid (B1.out.trans (((drewN_below w1 1).trans hb2).mono hs1))
  have hgne : g ≠ w.heap.size + 1 := by omega
  have hgne2 : w.heap.size + 1 ≠ g := by omega
  clear hb2
  refine hK.out _ _ ⟨cb2, c02, c12⟩ (fun hHeld => ?_)
  clear hK K
  try simp only [Act.put, List.setIfInBounds_toArray, List.set_cons_zero, List.set_cons_succ]
  refine wpAnyH_ready (rs := [19]) (by kernel_rfl) (by simp) ?_
  refine AllReadyH.cons rfl (fun K hK => ?_) AllReadyH.nil
  go_simp
  refine hK.out _ _ ⟨by go_simp, by go_simp, by go_simp⟩ (fun hHeld => ?_)
  clear hK K
  try simp only [Act.put, List.setIfInBounds_toArray, List.set_cons_zero, List.set_cons_succ]
  refine takeY 20 _ (v := ?_) rfl rfl (by kernel_rfl) (by kernel_rfl) (by kernel_rfl) (fun _ _ _ h => h) (by kernel_rfl) ?_ (by assumption) ?_
  rotate_left 1
  · intro w hSw; (try dsimp only at hSw); go_simp; (try with_reducible rfl)
  try simp only [Act.put, List.setIfInBounds_toArray, List.set_cons_zero, List.set_cons_succ]
  refine wpAnyH_done (by kernel_rfl) ?_ _
  go_wp2_with fail
  have cr0 : ((w2.setCell ⟨w.heap.size + 1, 0, none⟩ (.int .i64 (mkT (x + y) (x * y)))).setCell ⟨w.heap.size + 1, 1, none⟩ (.int .i64 (mkB (x + y) (x * y)))).cell? ⟨w.heap.size + 1, 0, none⟩ = some (.int .i64 (mkT (x + y) (x * y))) := by go_simp
  have cr1 : ((w2.setCell ⟨w.heap.size + 1, 0, none⟩ (.int .i64 (mkT (x + y) (x * y)))).setCell ⟨w.heap.size + 1, 1, none⟩ (.int .i64 (mkB (x + y) (x * y)))).cell? ⟨w.heap.size + 1, 1, none⟩ = some (.int .i64 (mkB (x + y) (x * y))) := by go_simp
  refine bodyPost_ret (v := .tuple #[.agg #[.int .i64 (mkT (x + y) (x * y)), .int .i64 (mkB (x + y) (x * y))], .int .i64 0]) (by simp [results, Try.results44, go_sem, cr0, cr1]) rfl ?_
  exact ansF_end _ (by omega) E.out.1.symm E.out.2.1.symm E.out.2.2.symm B2.out _ _
end Go.Proofs.Ytoebbhicffgdgaa
