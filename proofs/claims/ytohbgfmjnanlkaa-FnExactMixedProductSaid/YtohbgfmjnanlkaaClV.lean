/- Clusters: the intersection matrix: contracts. Conditions: stated at each theorem. -/
import Derived.Test.YtohbgfmjnanlkaaClU
namespace Go.Proofs.Ytohbgfmjnanlkaa
open Go.ChangeShapes Go.WideShapes Go.ChangeAt Go.RowKit Go.Deep
set_option linter.unusedVariables false
set_option linter.unusedSimpArgs false

/-- A list of lists in memory reads: where its numbers lie. -/
theorem mat_at {w : World} {lo hi n c i j : Nat} {A : Option Addr} {L : List (List Int)} (h : OwnQ w lo hi (.slice A n c) L) (hL : L.length = n) (hr : ∀ i, i < n → (L.getD i []).length = n) (hi' : i < n) (hj : j < n) :
    ∃ go gi ci, A = some ⟨go, 0, none⟩ ∧ lo ≤ go ∧ go < hi ∧ w.cell? ⟨go, i, none⟩ = some (.slice (some ⟨gi, 0, none⟩) n ci) ∧ lo ≤ gi ∧ gi < hi ∧ w.cell? ⟨gi, j, none⟩ = some (.int .i64 ((L.getD i [])[j]?.getD 0)) := by
  obtain ⟨go, gi, ci, e1, e2, e3, e4, e5, e6, e7, _⟩ := rows_at h hL hi' (j := j) (by rw [hr i hi']; exact hj)
  rw [hr i hi'] at e4
  exact ⟨go, gi, ci, e1, e2, e3, e4, e5, e6, e7⟩
/-- The sums behind the rows before k; within row k behind the columns before i, and behind the first t of column i. -/
def eK (P S : List Int) (k a b : Nat) : Int := -sgC (fun j => pxE P S j a * pxE P S j b) k
def eI (P S : List Int) (k i t a b : Nat) : Int := if a < i ∨ (a = i ∧ b < t) then eK P S (k + 1) a b else eK P S k a b
theorem eK_next (P S : List Int) (k a b : Nat) : eK P S (k + 1) a b = eK P S k a b - pxE P S k a * pxE P S k b := by
  unfold eK
  show -(sgC (fun j => pxE P S j a * pxE P S j b) k + pxE P S k a * pxE P S k b) = -sgC (fun j => pxE P S j a * pxE P S j b) k - pxE P S k a * pxE P S k b
  omega
theorem px_mul {P S : List Int} (k a b : Nat) : -1 ≤ pxE P S k a * pxE P S k b ∧ pxE P S k a * pxE P S k b ≤ 1 := by
  have h1 := pxE_le P S k a
  have h2 := pxE_le P S k b
  obtain ⟨x, hx⟩ : ∃ x, pxE P S k a = x := ⟨_, rfl⟩
  obtain ⟨y, hy⟩ : ∃ y, pxE P S k b = y := ⟨_, rfl⟩
  rw [hx] at h1 ⊢; rw [hy] at h2 ⊢
  have h3 : x = -1 ∨ x = 0 ∨ x = 1 := by omega
  rcases h3 with rfl | rfl | rfl <;> omega
theorem eK_rng (P S : List Int) (k a b : Nat) : -(k : Int) ≤ eK P S k a b ∧ eK P S k a b ≤ k := by
  have := sgC_le (n := k) (F := fun j => pxE P S j a * pxE P S j b) (b := 1) (fun j _ => px_mul j a b)
  unfold eK; omega
theorem eI_start (P S : List Int) (k a b : Nat) : eI P S k 0 0 a b = eK P S k a b := by unfold eI; rw [if_neg (by omega)]
theorem eI_row (P S : List Int) (k i n a b : Nat) (hb : b < n) : eI P S k i n a b = eI P S k (i + 1) 0 a b := by
  unfold eI
  by_cases h : a < i ∨ (a = i ∧ b < n)
  · rw [if_pos h, if_pos (show a < i + 1 ∨ (a = i + 1 ∧ b < 0) by omega)]
  · rw [if_neg h, if_neg (show ¬ (a < i + 1 ∨ (a = i + 1 ∧ b < 0)) by omega)]
theorem eI_end (P S : List Int) (k n a b : Nat) (ha : a < n) : eI P S k n 0 a b = eK P S (k + 1) a b := by unfold eI; rw [if_pos (by omega)]
theorem eI_at (P S : List Int) (k i t : Nat) : eI P S k i t i t = eK P S k i t := by unfold eI; rw [if_neg (by omega)]
theorem eI_set (P S : List Int) (k i t a b : Nat) : (if a = i ∧ b = t then eK P S k i t - pxE P S k i * pxE P S k t else eI P S k i t a b) = eI P S k i (t + 1) a b := by
  rw [← eK_next]
  unfold eI
  by_cases h : a = i ∧ b = t
  · obtain ⟨rfl, rfl⟩ := h
    rw [if_pos ⟨rfl, rfl⟩, if_pos (show a < a ∨ (a = a ∧ b < b + 1) by omega)]
  · rw [if_neg h]
    by_cases h2 : a < i ∨ (a = i ∧ b < t)
    · rw [if_pos h2, if_pos (show a < i ∨ (a = i ∧ b < t + 1) by omega)]
    · rw [if_neg h2, if_neg (show ¬ (a < i ∨ (a = i ∧ b < t + 1)) by omega)]
def meA (P S W : List Int) : List (List Int) := if clB P S W then meQ P S P.length else []
theorem meA_no {P S W : List Int} (h : clB P S W = false) : meA P S W = [] := by simp [meA, h]
theorem meA_yes {P S W : List Int} {n : Nat} (h : ClOK P S W n) : meA P S W = meQ P S n := by simp [meA, h.b, h.p]
theorem meA_len (P S W : List Int) : szTot (meA P S W) ≤ 549755813888 := by
  cases h : clB P S W with
  | false => rw [meA_no h]; exact szTot_cl (by simp) (by simp)
  | true =>
    obtain ⟨n, hC⟩ := clB_true h
    have hn := hC.hi
    rw [meA_yes hC]
    refine szTot_cl (by rw [meQ_len]; exact hn) fun i => ?_
    by_cases hi : i < n
    · rw [meQ_at hi, meR_len]; exact hn
    · rw [List.getD, List.getElem?_eq_none (by rw [meQ_len]; omega)]; simp

set_option maxRecDepth 100000 in
set_option maxHeartbeats 4000000 in
theorem excM_any (g n : Nat) (P S : List Int) (w : World) (h : PtsAt w g n n P S) (hg : g < w.heap.size) (hC : ClP P S n) :
    Calls Try.prog 177 #[.slice (some ⟨g, 0, none⟩) n n] w (RAns w (meQ P S n) n) := by
  have hn := hC.hi
  have hn1 := hC.lo
  have HC := Lib.hid hC
  have HP := Lib.hid h
  clear h hC
  go_enter Try.func177, Try.ntmps177
  go_wp2_with fail
  refine (zeroM_any n w hn).mono ?_
  rintro e w1 ⟨rfl, hm1, hb1, hz1⟩
  have HM1 := Lib.hid hm1
  have HB1 := Lib.hid hb1
  have HP1 : Hid (PtsAt w1 g n n P S) := Lib.hid (rowIs_below HP.out hg hb1)
  have hg1 : g < w1.heap.size := by omega
  have HZ1 := Lib.hid hz1
  clear hm1 hb1 hz1
  go_wp2_with fail
  refine (proxM_any g n P S w1 HP1.out hg1 HC.out).mono ?_
  rintro e w2 ⟨A1, c1, rfl, ho1, hb2⟩
  have HMX : Hid (∀ i j, i < n → j < n → ∃ go gi ci, A1 = some ⟨go, 0, none⟩ ∧ w1.heap.size ≤ go ∧ go < w2.heap.size ∧ w2.cell? ⟨go, i, none⟩ = some (.slice (some ⟨gi, 0, none⟩) n ci) ∧ w1.heap.size ≤ gi ∧ gi < w2.heap.size ∧ w2.cell? ⟨gi, j, none⟩ = some (.int .i64 (pxE P S i j))) := Lib.hid fun i j hi hj => by
    obtain ⟨go, gi, ci, e1, e2, e3, e4, e5, e6, e7⟩ := mat_at ho1 (pxQ_len _ _ _) (fun i hi => by rw [pxQ_at hi, pxR_len]) hi hj
    rw [pxQ_at hi, pxR_at hj] at e7
    exact ⟨go, gi, ci, e1, e2, e3, e4, e5, e6, e7⟩
  have HM2 : Hid (MatM w2 w.heap.size n (eK P S 0)) := Lib.hid ((HM1.out.stay hb2).congr fun a b _ _ => by simp [eK, sgC])
  have HB2 : Hid (Below w.heap.size w w2) := Lib.hid (HB1.out.trans (hb2.mono HB1.out.size))
  have HK2 : Hid (Kept w1.heap.size w2.heap.size w2 w2) := Lib.hid (Kept.refl _ _ _)
  clear hb2 ho1
  obtain ⟨go, gi0, ci0, rfl, _⟩ := HMX.out 0 0 (by omega) (by omega)
  have HMR : Hid (∀ i, i < n → (w1.heap.size ≤ go ∧ go < w2.heap.size) ∧ ∃ gi ci, w2.cell? ⟨go, i, none⟩ = some (.slice (some ⟨gi, 0, none⟩) n ci) ∧ (w1.heap.size ≤ gi ∧ gi < w2.heap.size) ∧ ∀ j, j < n → w2.cell? ⟨gi, j, none⟩ = some (.int .i64 (pxE P S i j))) := Lib.hid fun i hi => by
    obtain ⟨go', gi, ci, e1, e2, e3, e4, e5, e6, e7⟩ := HMX.out i 0 hi (by omega)
    cases e1
    refine ⟨⟨e2, e3⟩, gi, ci, e4, ⟨e5, e6⟩, fun j hj => ?_⟩
    obtain ⟨go', gi', ci', f1, f2, f3, f4, f5, f6, f7⟩ := HMX.out i j hi hj
    cases f1
    rw [e4] at f4
    cases f4
    exact f7
  clear HMX
  go_wp2_with fail
  go_loopw [16] (fun vi wr => ∃ (k : Nat), k ≤ n ∧ vi = .int .i64 k ∧ Hid (MatM wr w.heap.size n (eK P S k)) ∧ Hid (Kept w1.heap.size w2.heap.size w2 wr) ∧ Hid (Below w.heap.size w wr)) (fun vi _ => n - (intOf vi).toNat)
  case atStart => exact ⟨0, by omega, rfl, HM2, HK2, HB2⟩
  case round =>
    obtain ⟨k, hk, rfl, hm, hkp, hb⟩ := hrel
    by_cases hkn : k < n
    · have hkn2 : (k : Int) < (n : Int) := by omega
      obtain ⟨hgo, gk, ck, e4, hgk, HE7⟩ := HMR.out k hkn
      have d1 := (kept_cell (o := k) hkp.out hgo.1 hgo.2).trans e4
      have HEK : Hid (∀ j, j < n → w2.cell? ⟨gk, j, none⟩ = some (.int .i64 (pxE P S k j))) := Lib.hid HE7
      have HM0 : Hid (MatM wr w.heap.size n (eI P S k 0 0)) := Lib.hid (hm.out.congr fun a b _ _ => (eI_start P S k a b).symm)
      have HKR := Lib.hid hkp.out
      have HBR := Lib.hid hb.out
      clear e4 HE7 hm hkp hb
      go_wp2_with fail
      go_loopw [22] (fun vi wr => ∃ (i : Nat), i ≤ n ∧ vi = .int .i64 i ∧ Hid (MatM wr w.heap.size n (eI P S k i 0)) ∧ Hid (Kept w1.heap.size w2.heap.size w2 wr) ∧ Hid (Below w.heap.size w wr)) (fun vi _ => n - (intOf vi).toNat)
      case atStart => exact ⟨0, by omega, rfl, HM0, HKR, HBR⟩
      case round =>
        obtain ⟨i, hi, rfl, hm, hkp, hb⟩ := hrel
        by_cases hin : i < n
        · have hin2 : (i : Int) < (n : Int) := by omega
          have d2 := (kept_cell (o := i) hkp.out hgk.1 hgk.2).trans (HEK.out i hin)
          have hai := pxE_le P S k i
          obtain ⟨x, hx⟩ : ∃ x, pxE P S k i = x := ⟨_, rfl⟩
          have HXE := Lib.hid hx
          rw [hx] at d2 hai
          have HMi := Lib.hid hm.out
          have HKi := Lib.hid hkp.out
          have HBi := Lib.hid hb.out
          clear hx hm hkp hb
          go_wp2_with fail
          go_loopw [29] (fun vi wr => ∃ (t : Nat), t ≤ n ∧ vi = .int .i64 t ∧ Hid (MatM wr w.heap.size n (eI P S k i t)) ∧ Hid (Kept w1.heap.size w2.heap.size w2 wr) ∧ Hid (Below w.heap.size w wr)) (fun vi _ => n - (intOf vi).toNat)
          case atStart => exact ⟨0, by omega, rfl, HMi, HKi, HBi⟩
          case round =>
            obtain ⟨t, ht, rfl, hm, hkp, hb⟩ := hrel
            by_cases htn : t < n
            · have htn2 : (t : Int) < (n : Int) := by omega
              have d3 := (kept_cell (o := t) hkp.out hgk.1 hgk.2).trans (HEK.out t htn)
              have hat := pxE_le P S k t
              have c0 := hm.out.row.cell hin
              have c1 := (hm.out.els i hin).cell htn
              have f1 := (hm.out.els i hin).frozen t
              rw [eI_at] at c1
              have her := eK_rng P S k i t
              have hmul := px_mul (P := P) (S := S) k i t
              have HST := fun a b => eI_set P S k i t a b
              rw [HXE.out] at hmul HST
              obtain ⟨y, hy⟩ : ∃ y, pxE P S k t = y := ⟨_, rfl⟩
              obtain ⟨z, hz⟩ : ∃ z, eK P S k i t = z := ⟨_, rfl⟩
              rw [hy] at d3 hat hmul HST
              rw [hz] at c1 her HST
              obtain ⟨m, hmm⟩ : ∃ m, x * y = m := ⟨_, rfl⟩
              rw [hmm] at hmul HST
              have p0 : IntKind.i64.wrap (x * y) = m := by rw [hmm]; exact IntWalk.i64_in _ (by omega)
              have p1 : IntKind.i64.wrap (z - m) = z - m := IntWalk.i64_in _ (by omega)
              have hz1 := HZ1.out
              have HMS : Hid (MatM (wr.setCell ⟨w.heap.size + 1 + i, t, none⟩ (.int .i64 (z - m))) w.heap.size n (eI P S k i (t + 1))) := Lib.hid ((hm.out.set hin (z - m)).congr fun a b _ _ => HST a b)
              have HKS : Hid (Kept w1.heap.size w2.heap.size w2 (wr.setCell ⟨w.heap.size + 1 + i, t, none⟩ (.int .i64 (z - m)))) := Lib.hid (hkp.out.trans (keptS wr (p := ⟨w.heap.size + 1 + i, t, none⟩) (by show w.heap.size + 1 + i < _; omega) _))
              have HBS : Hid (Below w.heap.size w (wr.setCell ⟨w.heap.size + 1 + i, t, none⟩ (.int .i64 (z - m)))) := Lib.hid ((hb.out.setCell (p := ⟨w.heap.size + 1 + i, t, none⟩) (by show w.heap.size ≤ w.heap.size + 1 + i; omega) _))
              have hm1 : -1 ≤ m := hmul.1
              have hm2 : m ≤ 1 := hmul.2
              clear hy hz hm hkp hb HST hmul hz1
              go_wp2_with fail
              go_roundw
              case rel => exact ⟨t + 1, by omega, by go_num, HMS, HKS, HBS⟩
              case measure => simp [intOf]; omega
            · obtain rfl : t = n := by omega
              have htt : ¬ (t : Int) < (t : Int) := by omega
              have HME : Hid (MatM wr w.heap.size t (eI P S k (i + 1) 0)) := Lib.hid (hm.out.congr fun a b _ hb => eI_row P S k i t a b hb)
              go_wp2_with fail
              go_roundw
              case rel => exact ⟨i + 1, by omega, by go_num, HME, hkp, hb⟩
              case measure => simp [intOf]; omega
        · obtain rfl : i = n := by omega
          have hii : ¬ (i : Int) < (i : Int) := by omega
          have HME : Hid (MatM wr w.heap.size i (eK P S (k + 1))) := Lib.hid (hm.out.congr fun a b ha _ => eI_end P S k i a b ha)
          go_wp2_with fail
          go_roundw
          case rel => exact ⟨k + 1, by omega, by go_num, HME, hkp, hb⟩
          case measure => simp [intOf]; omega
    · obtain rfl : k = n := by omega
      go_wp2_with fail
      go_ret
      refine ⟨_, _, rfl, hm.out.ownQ (meQ_len _ _ _) (fun i hi => ?_) (Nat.le_refl _) (by omega), hb.out⟩
      rw [meQ_at hi]; exact fnL_congr fun b _ => rfl

/-- The sum over the first t rows; the row of the first j columns. -/
theorem mrT_next (P S : List Int) (n i j : Nat) : (List.range (j + 1)).map (meE P S n i) = (List.range j).map (meE P S n i) ++ [meE P S n i j] := by simp [List.range_succ]
theorem meT_next (P S : List Int) (n k : Nat) : (List.range (k + 1)).map (meR P S n) = (List.range k).map (meR P S n) ++ [meR P S n k] := by simp [List.range_succ]

end Go.Proofs.Ytohbgfmjnanlkaa
