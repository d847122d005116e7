/- Newton pairs out of Puiseux pairs: contract of impl.newtonOfPuiseux; plain mathematics. Conditions: stated at each theorem. -/
import Derived.Test.YtmpbigkaadmihaaPrL
import Derived.Test.YtmpbigkaadmihaaPrN
namespace Go.Proofs.Ytmpbigkaadmihaa
open Go.ChangeShapes Go.WideShapes Go.ChangeAt Go.RowKit
set_option linter.unusedVariables false
set_option linter.unusedSimpArgs false

def nwF (f : Nat → Int × Int) (i : Nat) : Int × Int := ((f i).1 - (if i = 0 then 0 else (f (i - 1)).1) * (f i).2, (f i).2)
theorem dv_left : ∀ (zs : List Int) (e : Int) (i : Nat), i < zs.length → (dvL e zs)[i]?.getD 0 ∣ zs[i]?.getD 0 := by
  intro zs
  induction zs with
  | nil => intro e i h; simp at h
  | cons z zs ih =>
    intro e i h
    cases i with
    | zero => simp [dvL]; exact Int.gcd_dvd_right _ _
    | succ i =>
      have := ih (Int.gcd e z : Int) i (by simpa using h)
      simpa [dvL] using this
theorem dv_next : ∀ (zs : List Int) (e : Int) (i : Nat), i + 1 < zs.length → (dvL e zs)[i + 1]?.getD 0 ∣ (dvL e zs)[i]?.getD 0 := by
  intro zs
  induction zs with
  | nil => intro e i h; simp at h
  | cons z zs ih =>
    intro e i h
    cases i with
    | zero =>
      cases zs with
      | nil => simp at h
      | cons y ys =>
        have : ((Int.gcd (Int.gcd e z : Int) y : Nat) : Int) ∣ ((Int.gcd e z : Nat) : Int) := Int.gcd_dvd_left _ _
        simpa [dvL] using this
    | succ i =>
      have := ih (Int.gcd e z : Int) i (by simpa using h)
      simpa [dvL] using this
theorem np_alg {b1 b0 e1 e0 : Int} (h1 : e1 ∣ b1) (h2 : e1 ∣ e0) (h3 : e0 ∣ b0) (p1 : 1 ≤ e1) (p0 : 1 ≤ e0) : b1.tdiv e1 - b0.tdiv e0 * e0.tdiv e1 = (b1 - b0).tdiv e1 := by
  obtain ⟨r, rfl⟩ := h1
  obtain ⟨p, rfl⟩ := h3
  obtain ⟨q, rfl⟩ := h2
  have n1 : e1 ≠ 0 := by omega
  have n0 : e1 * q ≠ 0 := by omega
  rw [Int.mul_tdiv_cancel_left _ n1, Int.mul_tdiv_cancel_left _ n0, Int.mul_tdiv_cancel_left _ n1]
  have e : e1 * r - e1 * q * p = e1 * (r - p * q) := by rw [Int.mul_sub, Int.mul_assoc, Int.mul_comm q p]
  rw [e, Int.mul_tdiv_cancel_left _ n1]
theorem at_range {zs : List Int} (hp : brB zs = true) {i : Nat} (h : i < zs.length) : (1 ≤ zs[i]?.getD 0 ∧ zs[i]?.getD 0 ≤ 2000) ∧ (1 ≤ (dvL 0 zs)[i]?.getD 0 ∧ (dvL 0 zs)[i]?.getD 0 ≤ 2000) := by
  have hz := dcB_range (brB_dcB hp)
  refine ⟨hz _ (by simp [h]), dvL_pos hz (e := 0) _ ?_⟩
  have : i < (dvL 0 zs).length := by rw [dvL_len]; exact h
  simp [this]
theorem np_eq {zs : List Int} (hp : brB zs = true) {i : Nat} (hi : i < zs.length - 1) : nwF (ppF zs) i = npF zs i := by
  have h1 := at_range hp (i := i + 1) (by omega)
  have h0 := at_range hp (i := i) (by omega)
  by_cases hz : i = 0
  · subst hz; simp [nwF, npF, ppF]
  · obtain ⟨j, rfl⟩ : ∃ j, i = j + 1 := ⟨i - 1, by omega⟩
    have h2 := np_alg (dv_left zs 0 (j + 1 + 1) (by omega)) (dv_next zs 0 (j + 1) (by omega)) (dv_left zs 0 (j + 1) (by omega)) h1.2.1 h0.2.1
    simp only [nwF, npF, if_neg hz, ppF, Nat.add_sub_cancel]
    rw [h2]
theorem npOK {zs : List Int} (hp : brB zs = true) : ∀ i, i < zs.length - 1 → (0 ≤ (ppF zs i).1 ∧ (ppF zs i).1 ≤ 2000) ∧ (0 ≤ (ppF zs i).2 ∧ (ppF zs i).2 ≤ 2000) := fun i hi => by
  have h1 := at_range hp (i := i + 1) (by omega)
  have h0 := at_range hp (i := i) (by omega)
  exact ⟨tdiv_range h1.1 h1.2.1, tdiv_range h0.2 h1.2.1⟩

set_option maxHeartbeats 2000000 in
theorem newton_any (g n : Nat) (f : Nat → Int × Int) (w : World) (hr : PRow w g n f) (hn : n ≤ 1048576) (hf : ∀ i, i < n → (0 ≤ (f i).1 ∧ (f i).1 ≤ 2000) ∧ (0 ≤ (f i).2 ∧ (f i).2 ≤ 2000)) :
    Calls Try.prog 58 #[.slice (some ⟨g, 0, none⟩) n n] w fun e w' => ∃ g', e = .returned (.slice (some ⟨g', 0, none⟩) n n) ∧ w.heap.size ≤ g' ∧ PRow w' g' n (nwF f) ∧ Below w.heap.size w w' := by
  have HR := Lib.hid hr
  have HFB := Lib.hid hf
  have hg : g < w.heap.size := World.rowIs.lt hr
  have hmk := fun (W : World) => make_pairs .i64 .i64 n hn W
  have hE1 : Hid (PRow (w.alloc (.cells (madeCells #[.int .i64 0, .int .i64 0] (n * 2)) 86)) w.heap.size n (fun k => if k < 0 then nwF f k else (0, 0))) := Lib.hid ((PRow.made w n).congr (fun i hi => by simp))
  have hE2 : Hid (Below w.heap.size w (w.alloc (.cells (madeCells #[.int .i64 0, .int .i64 0] (n * 2)) 86))) := Lib.hid (below_box2 _ _)
  clear hr hf
  go_enter Try.func58, Try.ntmps58
  go_wp2_with fail
  clear hmk
  go_loopw [4, 12] (fun vb vi wr => ∃ (i : Nat) (y : Int), i ≤ n ∧ (0 ≤ y ∧ y ≤ 2000) ∧ vb = .int .i64 y ∧ vi = .int .i64 i ∧ Hid (y = if i = 0 then 0 else (f (i - 1)).1) ∧ Hid (PRow wr w.heap.size n (fun k => if k < i then nwF f k else (0, 0))) ∧ w.heap.size < wr.heap.size ∧ Hid (Below w.heap.size w wr)) (fun _ vi _ => n - (intOf vi).toNat)
  case atStart => exact ⟨0, 0, by omega, by omega, rfl, rfl, Lib.hid rfl, hE1, by simp, hE2⟩
  case round =>
    clear hE1 hE2
    obtain ⟨i, y, hi, hy, rfl, rfl, hyv, hrow, hsw, hb⟩ := hrel
    by_cases hlt : i < n
    · obtain ⟨q1, q2, q3, q4⟩ := HR.out.cells hlt
      have c1 : wr.cell? ⟨g, i * 2, none⟩ = some (.int .i64 (f i).1) := (hb.out.cell (p := ⟨g, i * 2, none⟩) hg).trans q1
      have c2 : wr.cell? ⟨g, i * 2 + 1, none⟩ = some (.int .i64 (f i).2) := (hb.out.cell (p := ⟨g, i * 2 + 1, none⟩) hg).trans q2
      have hfi := HFB.out i hlt
      have HN : Hid (nwF f i = ((f i).1 - y * (f i).2, (f i).2)) := Lib.hid (by rw [hyv.out]; rfl)
      have HY : Hid ((f i).1 = if i + 1 = 0 then 0 else (f (i + 1 - 1)).1) := Lib.hid (by rw [if_neg (by omega)]; rfl)
      have hrc := hrow.out.cells hlt
      generalize (f i).1 = a at *
      generalize (f i).2 = b at *
      have hm0 : 0 ≤ y * b := Int.mul_nonneg hy.1 hfi.2.1
      have hm1 : y * b ≤ 2000 * 2000 := Int.mul_le_mul hy.2 hfi.2.2 hfi.2.1 (by omega)
      have p1 : IntKind.i64.wrap (y * b) = y * b := IntWalk.i64_in _ (by omega)
      have p2 : IntKind.i64.wrap (a - y * b) = a - y * b := IntWalk.i64_in _ (by omega)
      have hin : (i : Int) < (n : Int) := by omega
      have hgr : g < wr.heap.size := by omega
      obtain ⟨f1, f2, f3, f4⟩ := hrc
      clear q1 q2 q3 q4
      have hs2 : (((wr.setCell ⟨w.heap.size, i * 2, none⟩ (.int .i64 (a - y * b))).setCell ⟨w.heap.size, i * 2 + 1, none⟩ (.int .i64 b))).heap.size = wr.heap.size := by simp [World.setCell]
      have HP0 : Hid (PRow ((wr.setCell ⟨w.heap.size, i * 2, none⟩ (.int .i64 (a - y * b))).setCell ⟨w.heap.size, i * 2 + 1, none⟩ (.int .i64 b)) w.heap.size n (fun k => if k < i + 1 then nwF f k else (0, 0))) := Lib.hid ((hrow.out.set (a - y * b) b).congr (fun k hk => by
        by_cases h1 : k = i
        · subst h1; simp only [if_true, show k < k + 1 by omega]; exact HN.out.symm
        · by_cases h2 : k < i
          · simp only [h1, h2, if_false, if_true, show k < i + 1 by omega]
          · simp only [h1, h2, if_false, show ¬ k < i + 1 by omega]))
      have HB0 : Hid (Below w.heap.size w ((wr.setCell ⟨w.heap.size, i * 2, none⟩ (.int .i64 (a - y * b))).setCell ⟨w.heap.size, i * 2 + 1, none⟩ (.int .i64 b))) := Lib.hid ((hb.out.setCell (Nat.le_refl _) _).setCell (Nat.le_refl _) _)
      go_wp2_with fail
      go_roundw
      case rel => exact ⟨i + 1, a, by omega, hfi.1, rfl, by go_num, HY, Lib.hid (HP0.out.below (below_box2 _ _)), by simp only [World.size_alloc, hs2]; omega, Lib.hid (HB0.out.alloc (by rw [hs2]; omega) _)⟩
      case measure => simp [intOf]; omega
    · obtain rfl : i = n := by omega
      go_wp2_with fail
      go_ret
      exact ⟨w.heap.size, rfl, Nat.le_refl _, hrow.out.congr (fun k hk => by simp [hk]), hb.out⟩
end Go.Proofs.Ytmpbigkaadmihaa
