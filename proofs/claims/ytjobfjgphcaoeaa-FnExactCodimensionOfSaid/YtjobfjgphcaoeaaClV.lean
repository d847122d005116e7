/- Clusters: the intersection matrix: contracts. Conditions: stated at each theorem. -/
import Derived.Test.YtjobfjgphcaoeaaClU
namespace Go.Proofs.Ytjobfjgphcaoeaa
open Go.ChangeShapes Go.WideShapes Go.ChangeAt Go.RowKit Go.Deep
set_option linter.unusedVariables false
set_option linter.unusedSimpArgs false

/-- A list of lists in memory reads: where its numbers lie. -/
theorem mat_at {w : World} {lo hi n c i j : Nat} {A : Option Addr} {L : List (List Int)} (h : OwnQ w lo hi (.slice A n c) L) (hL : L.length = n) (hr : ∀ i, i < n → (L.getD i []).length = n) (hi' : i < n) (hj : j < n) :
    ∃ go gi ci, A = some ⟨go, 0, none⟩ ∧ lo ≤ go ∧ go < hi ∧ w.cell? ⟨go, i, none⟩ = some (.slice (some ⟨gi, 0, none⟩) n ci) ∧ lo ≤ gi ∧ gi < hi ∧ w.cell? ⟨gi, j, none⟩ = some (.int .i64 ((L.getD i [])[j]?.getD 0)) := by
  obtain ⟨go, gi, ci, e1, e2, e3, e4, e5, e6, e7, _⟩ := rows_at h hL hi' (j := j) (by rw [hr i hi']; exact hj)
  rw [hr i hi'] at e4
  exact ⟨go, gi, ci, e1, e2, e3, e4, e5, e6, e7⟩
/-- The sums behind the rows before k; within row k behind the columns before i, and behind the first t of column i. -/
def eK (P S : List Int) (k a b : Nat) : Int := -sgC (fun j => pxE P S j a * pxE P S j b) k
def eI (P S : List Int) (k i t a b : Nat) : Int := if a < i ∨ (a = i ∧ b < t) then eK P S (k + 1) a b else eK P S k a b
theorem eK_next (P S : List Int) (k a b : Nat) : eK P S (k + 1) a b = eK P S k a b - pxE P S k a * pxE P S k b := by
  unfold eK
  show -(sgC (fun j => pxE P S j a * pxE P S j b) k + pxE P S k a * pxE P S k b) = -sgC (fun j => pxE P S j a * pxE P S j b) k - pxE P S k a * pxE P S k b
  omega
theorem px_mul {P S : List Int} (k a b : Nat) : -1 ≤ pxE P S k a * pxE P S k b ∧ pxE P S k a * pxE P S k b ≤ 1 := by
  have h1 := pxE_le P S k a
  have h2 := pxE_le P S k b
  obtain ⟨x, hx⟩ : ∃ x, pxE P S k a = x := ⟨_, rfl⟩
  obtain ⟨y, hy⟩ : ∃ y, pxE P S k b = y := ⟨_, rfl⟩
  rw [hx] at h1 ⊢; rw [hy] at h2 ⊢
  have h3 : x = -1 ∨ x = 0 ∨ x = 1 := by omega
  rcases h3 with rfl | rfl | rfl <;> omega
theorem eK_rng (P S : List Int) (k a b : Nat) : -(k : Int) ≤ eK P S k a b ∧ eK P S k a b ≤ k := by
  have := sgC_le (n := k) (F := fun j => pxE P S j a * pxE P S j b) (b := 1) (fun j _ => px_mul j a b)
  unfold eK; omega
theorem eI_start (P S : List Int) (k a b : Nat) : eI P S k 0 0 a b = eK P S k a b := by unfold eI; rw [if_neg (by omega)]
theorem eI_row (P S : List Int) (k i n a b : Nat) (hb : b < n) : eI P S k i n a b = eI P S k (i + 1) 0 a b := by
  unfold eI
  by_cases h : a < i ∨ (a = i ∧ b < n)
  · rw [if_pos h, if_pos (show a < i + 1 ∨ (a = i + 1 ∧ b < 0) by omega)]
  · rw [if_neg h, if_neg (show ¬ (a < i + 1 ∨ (a = i + 1 ∧ b < 0)) by omega)]
theorem eI_end (P S : List Int) (k n a b : Nat) (ha : a < n) : eI P S k n 0 a b = eK P S (k + 1) a b := by unfold eI; rw [if_pos (by omega)]
theorem eI_at (P S : List Int) (k i t : Nat) : eI P S k i t i t = eK P S k i t := by unfold eI; rw [if_neg (by omega)]
theorem eI_set (P S : List Int) (k i t a b : Nat) : (if a = i ∧ b = t then eK P S k i t - pxE P S k i * pxE P S k t else eI P S k i t a b) = eI P S k i (t + 1) a b := by
  rw [← eK_next]
  unfold eI
  by_cases h : a = i ∧ b = t
  · obtain ⟨rfl, rfl⟩ := h
    rw [if_pos ⟨rfl, rfl⟩, if_pos (show a < a ∨ (a = a ∧ b < b + 1) by omega)]
  · rw [if_neg h]
    by_cases h2 : a < i ∨ (a = i ∧ b < t)
    · rw [if_pos h2, if_pos (show a < i ∨ (a = i ∧ b < t + 1) by omega)]
    · rw [if_neg h2, if_neg (show ¬ (a < i ∨ (a = i ∧ b < t + 1)) by omega)]
def meA (P S W : List Int) : List (List Int) := if clB P S W then meQ P S P.length else []
theorem meA_no {P S W : List Int} (h : clB P S W = false) : meA P S W = [] := by simp [meA, h]
theorem meA_yes {P S W : List Int} {n : Nat} (h : ClOK P S W n) : meA P S W = meQ P S n := by simp [meA, h.b, h.p]
theorem meA_len (P S W : List Int) : szTot (meA P S W) ≤ 549755813888 := by
  cases h : clB P S W with
  | false => rw [meA_no h]; exact szTot_cl (by simp) (by simp)
  | true =>
    obtain ⟨n, hC⟩ := clB_true h
    have hn := hC.hi
    rw [meA_yes hC]
    refine szTot_cl (by rw [meQ_len]; exact hn) fun i => ?_
    by_cases hi : i < n
    · rw [meQ_at hi, meR_len]; exact hn
    · rw [List.getD, List.getElem?_eq_none (by rw [meQ_len]; omega)]; simp

set_option maxRecDepth 100000 in
set_option maxHeartbeats 4000000 in
theorem excM_any (g n : Nat) (P S : List Int) (w : World) (h : PtsAt w g n n P S) (hg : g < w.heap.size) (hC : ClP P S n) :
    Calls Try.prog 78 #[.slice (some ⟨g, 0, none⟩) n n] w (RAns w (meQ P S n) n) := by
  have hn := hC.hi
  have hn1 := hC.lo
  have HC := Lib.hid hC
  have HP := Lib.hid h
  clear h hC
  go_enter Try.func78, Try.ntmps78
  go_wp2_with fail
  refine (zeroM_any n w hn).mono ?_
  rintro e w1 ⟨rfl, hm1, hb1, hz1⟩
  have HM1 := Lib.hid hm1
  have HB1 := Lib.hid hb1
  have HP1 : Hid (PtsAt w1 g n n P S) := Lib.hid (rowIs_below HP.out hg hb1)
  have hg1 : g < w1.heap.size := by omega
  have HZ1 := Lib.hid hz1
  clear hm1 hb1 hz1
  go_wp2_with fail
  refine (proxM_any g n P S w1 HP1.out hg1 HC.out).mono ?_
  rintro e w2 ⟨A1, c1, rfl, ho1, hb2⟩
  have HMX : Hid (∀ i j, i < n → j < n → ∃ go gi ci, A1 = some ⟨go, 0, none⟩ ∧ w1.heap.size ≤ go ∧ go < w2.heap.size ∧ w2.cell? ⟨go, i, none⟩ = some (.slice (some ⟨gi, 0, none⟩) n ci) ∧ w1.heap.size ≤ gi ∧ gi < w2.heap.size ∧ w2.cell? ⟨gi, j, none⟩ = some (.int .i64 (pxE P S i j))) := Lib.hid fun i j hi hj => by
    obtain ⟨go, gi, ci, e1, e2, e3, e4, e5, e6, e7⟩ := mat_at ho1 (pxQ_len _ _ _) (fun i hi => by rw [pxQ_at hi, pxR_len]) hi hj
    rw [pxQ_at hi, pxR_at hj] at e7
    exact ⟨go, gi, ci, e1, e2, e3, e4, e5, e6, e7⟩
  have HM2 : Hid (MatM w2 w.heap.size n (eK P S 0)) := Lib.hid ((HM1.out.stay hb2).congr fun a b _ _ => by simp [eK, sgC])
  have HB2 : Hid (Below w.heap.size w w2) := Lib.hid (HB1.out.trans (hb2.mono HB1.out.size))
  have HK2 : Hid (Kept w1.heap.size w2.heap.size w2 w2) := Lib.hid (Kept.refl _ _ _)
  clear hb2 ho1
  obtain ⟨go, gi0, ci0, rfl, _⟩ := HMX.out 0 0 (by omega) (by omega)
  have HMR : Hid (∀ i, i < n → (w1.heap.size ≤ go ∧ go < w2.heap.size) ∧ ∃ gi ci, w2.cell? ⟨go, i, none⟩ = some (.slice (some ⟨gi, 0, none⟩) n ci) ∧ (w1.heap.size ≤ gi ∧ gi < w2.heap.size) ∧ ∀ j, j < n → w2.cell? ⟨gi, j, none⟩ = some (.int .i64 (pxE P S i j))) := Lib.hid fun i hi => by
    obtain ⟨go', gi, ci, e1, e2, e3, e4, e5, e6, e7⟩ := HMX.out i 0 hi (by omega)
    cases e1
    refine ⟨⟨e2, e3⟩, gi, ci, e4, ⟨e5, e6⟩, fun j hj => ?_⟩
    obtain ⟨go', gi', ci', f1, f2, f3, f4, f5, f6, f7⟩ := HMX.out i j hi hj
    cases f1
    rw [e4] at f4
    cases f4
    exact f7
  clear HMX
  go_wp2_with fail
  go_loopw [16] (fun vi wr => ∃ (k : Nat), k ≤ n ∧ vi = .int .i64 k ∧ Hid (MatM wr w.heap.size n (eK P S k)) ∧ Hid (Kept w1.heap.size w2.heap.size w2 wr) ∧ Hid (Below w.heap.size w wr)) (fun vi _ => n - (intOf vi).toNat)
  case atStart => exact ⟨0, by omega, rfl, HM2, HK2, HB2⟩
  case round =>
    obtain ⟨k, hk, rfl, hm, hkp, hb⟩ := hrel
    by_cases hkn : k < n
    · have hkn2 : (k : Int) < (n : Int) := by omega
      obtain ⟨hgo, gk, ck, e4, hgk, HE7⟩ := HMR.out k hkn
      have d1 := (kept_cell (o := k) hkp.out hgo.1 hgo.2).trans e4
      have HEK : Hid (∀ j, j < n → w2.cell? ⟨gk, j, none⟩ = some (.int .i64 (pxE P S k j))) := Lib.hid HE7
      have HM0 : Hid (MatM wr w.heap.size n (eI P S k 0 0)) := Lib.hid (hm.out.congr fun a b _ _ => (eI_start P S k a b).symm)
      have HKR := Lib.hid hkp.out
      have HBR := Lib.hid hb.out
      clear e4 HE7 hm hkp hb
      go_wp2_with fail
      go_loopw [22] (fun vi wr => ∃ (i : Nat), i ≤ n ∧ vi = .int .i64 i ∧ Hid (MatM wr w.heap.size n (eI P S k i 0)) ∧ Hid (Kept w1.heap.size w2.heap.size w2 wr) ∧ Hid (Below w.heap.size w wr)) (fun vi _ => n - (intOf vi).toNat)
      case atStart => exact ⟨0, by omega, rfl, HM0, HKR, HBR⟩
      case round =>
        obtain ⟨i, hi, rfl, hm, hkp, hb⟩ := hrel
        by_cases hin : i < n
        · have hin2 : (i : Int) < (n : Int) := by omega
          have d2 := (kept_cell (o := i) hkp.out hgk.1 hgk.2).trans (HEK.out i hin)
          have hai := pxE_le P S k i
          obtain ⟨x, hx⟩ : ∃ x, pxE P S k i = x := ⟨_, rfl⟩
          have HXE := Lib.hid hx
          rw [hx] at d2 hai
          have HMi := Lib.hid hm.out
          have HKi := Lib.hid hkp.out
          have HBi := Lib.hid hb.out
          clear hx hm hkp hb
          go_wp2_with fail
          go_loopw [29] (fun vi wr => ∃ (t : Nat), t ≤ n ∧ vi = .int .i64 t ∧ Hid (MatM wr w.heap.size n (eI P S k i t)) ∧ Hid (Kept w1.heap.size w2.heap.size w2 wr) ∧ Hid (Below w.heap.size w wr)) (fun vi _ => n - (intOf vi).toNat)
          case atStart => exact ⟨0, by omega, rfl, HMi, HKi, HBi⟩
          case round =>
            obtain ⟨t, ht, rfl, hm, hkp, hb⟩ := hrel
            by_cases htn : t < n
            · have htn2 : (t : Int) < (n : Int) := by omega
              have d3 := (kept_cell (o := t) hkp.out hgk.1 hgk.2).trans (HEK.out t htn)
              have hat := pxE_le P S k t
              have c0 := hm.out.row.cell hin
              have c1 := (hm.out.els i hin).cell htn
              have f1 := (hm.out.els i hin).frozen t
              rw [eI_at] at c1
              have her := eK_rng P S k i t
              have hmul := px_mul (P := P) (S := S) k i t
              have HST := fun a b => eI_set P S k i t a b
              rw [HXE.out] at hmul HST
              obtain ⟨y, hy⟩ : ∃ y, pxE P S k t = y := ⟨_, rfl⟩
              obtain ⟨z, hz⟩ : ∃ z, eK P S k i t = z := ⟨_, rfl⟩
              rw [hy] at d3 hat hmul HST
              rw [hz] at c1 her HST
              obtain ⟨m, hmm⟩ : ∃ m, x * y = m := ⟨_, rfl⟩
              rw [hmm] at hmul HST
              have p0 : IntKind.i64.wrap (x * y) = m := by rw [hmm]; exact IntWalk.i64_in _ (by omega)
              have p1 : IntKind.i64.wrap (z - m) = z - m := IntWalk.i64_in _ (by omega)
              have hz1 := HZ1.out
              have HMS : Hid (MatM (wr.setCell ⟨w.heap.size + 1 + i, t, none⟩ (.int .i64 (z - m))) w.heap.size n (eI P S k i (t + 1))) := Lib.hid ((hm.out.set hin (z - m)).congr fun a b _ _ => HST a b)
              have HKS : Hid (Kept w1.heap.size w2.heap.size w2 (wr.setCell ⟨w.heap.size + 1 + i, t, none⟩ (.int .i64 (z - m)))) := Lib.hid (hkp.out.trans (keptS wr (p := ⟨w.heap.size + 1 + i, t, none⟩) (by show w.heap.size + 1 + i < _; omega) _))
              have HBS : Hid (Below w.heap.size w (wr.setCell ⟨w.heap.size + 1 + i, t, none⟩ (.int .i64 (z - m)))) := Lib.hid ((hb.out.setCell (p := ⟨w.heap.size + 1 + i, t, none⟩) (by show w.heap.size ≤ w.heap.size + 1 + i; omega) _))
              have hm1 : -1 ≤ m := hmul.1
              have hm2 : m ≤ 1 := hmul.2
              clear hy hz hm hkp hb HST hmul hz1
              go_wp2_with fail
              go_roundw
              case rel => exact ⟨t + 1, by omega, by go_num, HMS, HKS, HBS⟩
              case measure => simp [intOf]; omega
            · obtain rfl : t = n := by omega
              have htt : ¬ (t : Int) < (t : Int) := by omega
              have HME : Hid (MatM wr w.heap.size t (eI P S k (i + 1) 0)) := Lib.hid (hm.out.congr fun a b _ hb => eI_row P S k i t a b hb)
              go_wp2_with fail
              go_roundw
              case rel => exact ⟨i + 1, by omega, by go_num, HME, hkp, hb⟩
              case measure => simp [intOf]; omega
        · obtain rfl : i = n := by omega
          have hii : ¬ (i : Int) < (i : Int) := by omega
          have HME : Hid (MatM wr w.heap.size i (eK P S (k + 1))) := Lib.hid (hm.out.congr fun a b ha _ => eI_end P S k i a b ha)
          go_wp2_with fail
          go_roundw
          case rel => exact ⟨k + 1, by omega, by go_num, HME, hkp, hb⟩
          case measure => simp [intOf]; omega
    · obtain rfl : k = n := by omega
      go_wp2_with fail
      go_ret
      refine ⟨_, _, rfl, hm.out.ownQ (meQ_len _ _ _) (fun i hi => ?_) (Nat.le_refl _) (by omega), hb.out⟩
      rw [meQ_at hi]; exact fnL_congr fun b _ => rfl

set_option maxRecDepth 100000 in
set_option maxHeartbeats 4000000 in
theorem implExceptionalMatrix_any (a b c : Value) (P S W : List Int) (w : World) (h : ReadC w w.heap.size a b c P S W) (hP : P.length ≤ 1048576) (hS : S.length ≤ 1048576) (hW : W.length ≤ 1048576) (hwp : ∀ z ∈ P, (Lit.int .i64 z).wf = true) (hws : ∀ z ∈ S, (Lit.int .i64 z).wf = true) (hww : ∀ z ∈ W, (Lit.int .i64 z).wf = true) :
    Calls Try.prog 33 #[.agg #[a, b, c]] w (AnsQC w (meA P S W) (clC P S W)) := by
  obtain ⟨W0, HE⟩ : ∃ V, V = w.alloc (.cells #[a, b, c] 28) := ⟨_, rfl⟩
  have hb0 : Below w.heap.size w W0 := by rw [HE]; exact below_box2 _ _
  have hx : CBox W0 w.heap.size a b c := by rw [HE]; exact CBox.new _ _ _ _ _
  have HR := Lib.hid ((h.below hb0).more hb0.size)
  have HB := Lib.hid hb0
  have HEQ := Lib.hid HE
  have HX := Lib.hid hx
  have x0 := hx.c0; have x1 := hx.c1; have x2 := hx.c2; have hxl := hx.lt
  clear h hb0 hx HE hwp hws hww
  rcases bool_fs (clB P S W) with hp | hp
  · have HA := Lib.hid (meA_no (P := P) (S := S) (W := W) hp); have HK := Lib.hid (clC_no hp)
    have HP := Lib.hid hp
    clear hp
    go_enter Try.func33, Try.ntmps33
    go_wp2_with fail
    rw [← HEQ.out]
    refine (linked_if a b c P S W W0 HR.out hP hS hW false HP.out).mono ?_
    rintro e w1 ⟨g, A, na, ca, D, nd, cd, rfl, hb1, _⟩
    have HB1 := Lib.hid ((HB.out.trans (hb1.mono HB.out.size)).alloc (by have := HB.out.size; have := hb1.size; omega) (.cells #[.slice A na ca, .slice D nd cd] 67))
    clear hb1
    go_wp2_with fail
    go_ret2
    exact AnsQC.noneC HA.out.symm HK.out.symm HB1.out
  · obtain ⟨n, hC⟩ := clB_true hp
    have hpn := hC.p
    have hn1 := hC.lo
    have hn := hC.hi
    have HC := Lib.hid hC
    have HP := Lib.hid hp
    clear hp hC
    go_enter Try.func33, Try.ntmps33
    go_wp2_with fail
    rw [← HEQ.out]
    refine (linked_if a b c P S W W0 HR.out hP hS hW true HP.out).mono ?_
    rintro e w1 ⟨g, A, na, ca, D, nd, cd, rfl, hb1, hyes⟩
    obtain ⟨e1, rfl, hg0, hg1, hpt⟩ := hyes rfl
    rw [hpn] at e1 hpt
    simp only [Value.slice.injEq] at e1
    obtain ⟨rfl, e1b, e1c⟩ := e1
    replace e1b := e1b.symm
    replace e1c := e1c.symm
    subst e1b
    subst e1c
    have hB1 := HB.out.trans (hb1.mono HB.out.size)
    have hR1 := (HR.out.below hb1).more hb1.size
    have hX1 := HX.out.below hb1
    obtain ⟨W1, HE1⟩ : ∃ V, V = w1.alloc (.cells #[.slice (some ⟨g, 0, none⟩) n n, .slice D nd cd] 67) := ⟨_, rfl⟩
    have hb2 : Below w1.heap.size w1 W1 := by rw [HE1]; exact below_box2 _ _
    have z0 : W1.cell? ⟨w1.heap.size, 0, none⟩ = some (.slice (some ⟨g, 0, none⟩) n n) := by rw [HE1]; go_simp
    have z1 : W1.cell? ⟨w1.heap.size, 1, none⟩ = some (.slice D nd cd) := by rw [HE1]; go_simp
    have hzl : w1.heap.size < W1.heap.size := by rw [HE1]; simp
    have HB1 := Lib.hid (hB1.trans (hb2.mono hB1.size))
    have HR1 := Lib.hid ((hR1.below hb2).more hb2.size)
    have HPT : Hid (PtsAt W1 g n n P S) := Lib.hid (rowIs_below hpt hg1 hb2)
    have hX2 := hX1.below hb2
    have y0 := hX2.c0; have y1 := hX2.c1; have y2 := hX2.c2; have hyl := hX2.lt
    have HX1 := Lib.hid hX2
    have HEQ1 := Lib.hid HE1
    have hgl : g < W1.heap.size := by omega
    have q0 := hX1.c0; have q1 := hX1.c1; have q2 := hX1.c2; have ql := hX1.lt
    clear hb1 hb2 hX1 hX2 hB1 hR1 hpt hyes HE1 hg1
    go_wp2_with fail
    rw [← HEQ1.out]
    clear q0 q1 q2 ql x0 x1 x2
    have HA : Hid (meA P S W = meQ P S n) := Lib.hid (meA_yes HC.out)
    have HK : Hid (clC P S W = 0) := Lib.hid (clC_yes HP.out)
    go_wp2_with fail
    refine (excM_any g n P S W1 HPT.out hgl HC.out.toClP).mono ?_
    rintro e w2 ⟨A2, c2, rfl, ho2, hb2⟩
    have HB2 := Lib.hid (HB1.out.trans (hb2.mono HB1.out.size))
    have HO2 := Lib.hid ho2
    have hbs := HB1.out.size
    clear ho2 hb2
    go_wp2_with fail
    go_ret2
    exact AnsQC.someC HA.out.symm HK.out.symm (ownQ_lessC HO2.out hbs) HB2.out
/-- The sum over the first t rows; the row of the first j columns. -/
theorem mrT_next (P S : List Int) (n i j : Nat) : (List.range (j + 1)).map (meE P S n i) = (List.range j).map (meE P S n i) ++ [meE P S n i j] := by simp [List.range_succ]
theorem meT_next (P S : List Int) (n k : Nat) : (List.range (k + 1)).map (meR P S n) = (List.range k).map (meR P S n) ++ [meR P S n k] := by simp [List.range_succ]

set_option maxRecDepth 100000 in
set_option maxHeartbeats 4000000 in
theorem l07Meet_any (a b c : Value) (P S U : List Int) (n : Nat) (w : World) (h : ReadC w w.heap.size a b c P S U) (hC : ClP P S n) :
    Calls Try.prog 77 #[.agg #[a, b, c]] w (RAns w (meQ P S n) n) := by
  have hn := hC.hi
  have hn1 := hC.lo
  obtain ⟨W0, HE⟩ : ∃ V, V = w.alloc (.cells #[a, b, c] 28) := ⟨_, rfl⟩
  have hb0 : Below w.heap.size w W0 := by rw [HE]; exact below_box2 _ _
  have hx : CBox W0 w.heap.size a b c := by rw [HE]; exact CBox.new _ _ _ _ _
  have HR := Lib.hid ((h.below hb0).more hb0.size)
  have HB := Lib.hid hb0
  have HEQ := Lib.hid HE
  have HC := Lib.hid hC
  have x0 := hx.c0; have x1 := hx.c1; have x2 := hx.c2; have hxl := hx.lt
  obtain ⟨j0, hj0, hj1, hj2, hj3⟩ := info_parts ints_infoR
  obtain ⟨i0, hi0, hy0, hy1, hy2⟩ := info_parts int_info
  clear h hb0 hx HE hC
  go_enter Try.func77, Try.ntmps77
  go_wp2_with fail
  rw [← HEQ.out]
  refine (l07Prox_any a b c P S U n W0 HR.out HC.out).mono ?_
  rintro e w1 ⟨A1, c1, rfl, ho1, hb1⟩
  have HM1 : Hid (∀ i j, i < n → j < n → ∃ go gi ci, A1 = some ⟨go, 0, none⟩ ∧ go < w1.heap.size ∧ w1.cell? ⟨go, i, none⟩ = some (.slice (some ⟨gi, 0, none⟩) n ci) ∧ gi < w1.heap.size ∧ w1.cell? ⟨gi, j, none⟩ = some (.int .i64 (pxE P S i j))) := Lib.hid fun i j hi hj => by
    obtain ⟨go, gi, ci, e1, _, e3, e4, _, e6, e7⟩ := mat_at ho1 (pxQ_len _ _ _) (fun i hi => by rw [pxQ_at hi, pxR_len]) hi hj
    rw [pxQ_at hi, pxR_at hj] at e7
    exact ⟨go, gi, ci, e1, e3, e4, e6, e7⟩
  have HB1 := Lib.hid (HB.out.trans (hb1.mono HB.out.size))
  clear hb1 ho1 x0 x1 x2 hxl
  obtain ⟨go, gi0, ci0, rfl, _⟩ := HM1.out 0 0 (by omega) (by omega)
  have HMR : Hid (∀ i, i < n → go < w1.heap.size ∧ ∃ gi ci, w1.cell? ⟨go, i, none⟩ = some (.slice (some ⟨gi, 0, none⟩) n ci) ∧ gi < w1.heap.size ∧ ∀ j, j < n → w1.cell? ⟨gi, j, none⟩ = some (.int .i64 (pxE P S i j))) := Lib.hid fun i hi => by
    obtain ⟨go', gi, ci, e1, e3, e4, e6, e7⟩ := HM1.out i 0 hi (by omega)
    cases e1
    refine ⟨e3, gi, ci, e4, e6, fun j hj => ?_⟩
    obtain ⟨go', gi', ci', f1, f3, f4, f6, f7⟩ := HM1.out i j hi hj
    cases f1
    rw [e4] at f4
    cases f4
    exact f7
  obtain ⟨B0, hB0⟩ : ∃ B, B = w1.heap.size := ⟨_, rfl⟩
  have HB0E := Lib.hid hB0
  have HQ0 : Hid (OwnQ (w1.alloc (.cells #[] 22)) B0 (w1.alloc (.cells #[] 22)).heap.size (.slice (some ⟨w1.heap.size, 0, none⟩) 0 0) ((List.range 0).map (meR P S n))) := Lib.hid (ownQ_newR w1 B0 (by rw [hB0]; exact Nat.le_refl _))
  have HBB0 : Hid (Below B0 w1 (w1.alloc (.cells #[] 22))) := Lib.hid ((Below.refl _ _).alloc (by rw [hB0]; exact Nat.le_refl _) _)
  clear hB0
  go_wp2_with fail
  go_loopw [4, 5] (fun vo vi wr => ∃ (k : Nat) (A : Option Addr) (c' : Nat), k ≤ n ∧ vo = .slice A k c' ∧ vi = .int .i64 k ∧ Hid (OwnQ wr B0 wr.heap.size (.slice A k c') ((List.range k).map (meR P S n))) ∧ Hid (Below B0 w1 wr)) (fun _ vi _ => n - (intOf vi).toNat)
  case atStart => exact ⟨0, _, _, by omega, rfl, rfl, HQ0, HBB0⟩
  case round =>
    obtain ⟨k, A', c', hk, rfl, rfl, hq, hb⟩ := hrel
    by_cases hkn : k < n
    · have hkn2 : (k : Int) < (n : Int) := by omega
      have HOQ := Lib.hid hq.out
      have HBR := Lib.hid hb.out
      obtain ⟨B1, hB1⟩ : ∃ B, B = wr.heap.size := ⟨_, rfl⟩
      have HB1E := Lib.hid hB1
      have HWS : Hid (B0 ≤ wr.heap.size) := Lib.hid (by rw [HB0E.out]; exact hb.out.size)
      have HS0 : Hid (OwnI (wr.alloc (.cells #[] 2)) B1 (wr.alloc (.cells #[] 2)).heap.size (.slice (some ⟨wr.heap.size, 0, none⟩) 0 0) ((List.range 0).map (meE P S n k))) := Lib.hid (OwnI.mk' (n := 0) (by
        rw [hB1]
        have := World.ownsRow_lit (e := 2) (size := 1) wr #[] 0 (Nat.le_refl _) (by simp [maxLen]) rfl
        simpa [Own] using this))
      have HW1 : Hid (Below B1 wr (wr.alloc (.cells #[] 2))) := Lib.hid ((Below.refl _ _).alloc (by rw [hB1]; exact Nat.le_refl _) _)
      obtain ⟨wo, rfl⟩ : ∃ wo : World, wo = wr := ⟨_, rfl⟩
      clear hq hb hB1
      go_wp2_with fail
      go_loopw [6, 7] (fun vr vj wr => ∃ (t : Nat) (A4 : Option Addr) (c4 : Nat), t ≤ n ∧ vr = .slice A4 t c4 ∧ vj = .int .i64 t ∧ Hid (OwnI wr B1 wr.heap.size (.slice A4 t c4) ((List.range t).map (meE P S n k))) ∧ Hid (Below B1 wo wr)) (fun _ vj _ => n - (intOf vj).toNat)
      case atStart => exact ⟨0, _, _, by omega, rfl, rfl, HS0, HW1⟩
      case round =>
        obtain ⟨t, A4, c4, ht, rfl, rfl, how, hb⟩ := hrel
        have HWW : Hid (Below w1.heap.size w1 wr) := Lib.hid (by
          have h1 := HBR.out
          have h2 := hb.out
          rw [HB1E.out] at h2
          rw [← HB0E.out]
          exact h1.trans (h2.mono HWS.out))
        by_cases htn : t < n
        · have htn2 : (t : Int) < (n : Int) := by omega
          obtain ⟨X, HXe⟩ : ∃ X, X = ((List.range t).map (meE P S n k)).map (Value.int .i64) := ⟨_, rfl⟩
          have hown := how.out.1
          rw [show ((List.range t).map (meE P S n k)).length = t by simp, ← HXe] at hown
          have HOW : Hid (Own wr B1 (.slice A4 t c4) t X) := Lib.hid hown
          have HXE := Lib.hid HXe
          have hbw := hb.out.size
          have hB1w : B1 ≤ wr.heap.size := by rw [HB1E.out]; exact hbw
          have HNX := Lib.hid (mrT_next P S n k t)
          have HSM : Hid (∀ j, eK P S j k t = -sgC (fun j => pxE P S j k * pxE P S j t) j) := Lib.hid fun j => rfl
          have hbW := HWW.out
          clear hown HXe
          have hBRo := HBR.out.size
          obtain ⟨wm, rfl⟩ : ∃ wm : World, wm = wr := ⟨_, rfl⟩
          have HHB := Lib.hid hb.out
          clear hb
          go_wp2_with fail
          go_loopw [8, 9] (fun vs vj wr => ∃ (j q : Nat), j ≤ n ∧ vs = .int .i64 (eK P S j k t) ∧ vj = .int .i64 j ∧ wr = wm.drewN q) (fun _ vj _ => n - (intOf vj).toNat)
          case atStart => exact ⟨0, 0, by omega, by simp [eK, sgC], rfl, rfl⟩
          case round =>
            obtain ⟨j, q, hj, rfl, rfl, rfl⟩ := hrel
            by_cases hjn : j < n
            · have hjn2 : (j : Int) < (n : Int) := by omega
              obtain ⟨hgo, gj, cj, e4, hgj, HE7⟩ := HMR.out j hjn
              have d1 := (hbW.cell (p := ⟨go, j, none⟩) hgo).trans e4
              have d2 := (hbW.cell (p := ⟨gj, k, none⟩) hgj).trans (HE7 k hkn)
              have d3 := (hbW.cell (p := ⟨gj, t, none⟩) hgj).trans (HE7 t htn)
              have her := eK_rng P S j k t
              have hmul := px_mul (P := P) (S := S) j k t
              have hak := pxE_le P S j k
              have hat := pxE_le P S j t
              have HNE := Lib.hid (eK_next P S j k t)
              obtain ⟨x, hx⟩ : ∃ x, pxE P S j k = x := ⟨_, rfl⟩
              obtain ⟨y, hy⟩ : ∃ y, pxE P S j t = y := ⟨_, rfl⟩
              obtain ⟨z, hz⟩ : ∃ z, eK P S j k t = z := ⟨_, rfl⟩
              rw [hx] at d2 hmul HNE hak
              rw [hy] at d3 hmul HNE hat
              rw [hz] at her HNE ⊢
              obtain ⟨m, hmm⟩ : ∃ m, x * y = m := ⟨_, rfl⟩
              rw [hmm] at hmul HNE
              have p0 : IntKind.i64.wrap (x * y) = m := by rw [hmm]; exact IntWalk.i64_in _ (by omega)
              have p1 : IntKind.i64.wrap (z - m) = z - m := IntWalk.i64_in _ (by omega)
              have hm1 : -1 ≤ m := hmul.1
              have hm2 : m ≤ 1 := hmul.2
              clear hx hy hz e4 HE7 hmul
              go_wp2_with fail
              go_quiet (fail)
              go_wp2_with fail
              go_roundw
              case rel => exact ⟨j + 1, _, by omega, by rw [HNE.out], by go_num, rfl⟩
              case measure => simp [intOf]; omega
            · obtain rfl : j = n := by omega
              have hjj : ¬ (j : Int) < (j : Int) := by omega
              have HZE : Hid (eK P S j k t = meE P S j k t) := Lib.hid rfl
              obtain ⟨z, hz⟩ : ∃ z, eK P S j k t = z := ⟨_, rfl⟩
              rw [hz]
              rw [hz] at HZE
              have HOWq : Hid (Own (wm.drewN q) B1 (.slice A4 t c4) t X) := Lib.hid HOW.out
              have HHBq : Hid (Below B1 wo (wm.drewN q)) := Lib.hid (below_drewN HHB.out q)
              have hB1q : B1 ≤ (wm.drewN q).heap.size := hB1w
              generalize wm.drewN q = wq at *
              clear hz
              go_wp2_with (at_builtin; (refine wpList_append_own _ rfl _ _ 22 rfl (B1) 2 i0 (.int .i64 0) 1 8 Try.underlying22 hi0 hy0 hy1 hy2 rfl (by decide) _ t X rfl (World.ownsRow.alloc HOWq.out _) ⟨wq.heap.size, 0, none⟩ 1 1 [.int .i64 (z)] rfl rfl (World.news_of_block (cs := #[.int .i64 (z)]) (t := 2) (fr := (0, 0)) (heap_alloc_new wq _)) (by simp [Value.oneCell']) (by simp only [maxLen]; omega) (by omega) (by simp; omega) ?_; intro v1 w4 hown1 hgrow _; obtain ⟨A5, c5, rfl⟩ := own_form hown1; have HO4 := Lib.hid hown1; have HB4 := Lib.hid ((HHBq.out.alloc hB1q _).grown hgrow (by simp; omega) (fun kk hkk => (World.ownsRow.lt HOWq.out kk hkk).1)); clear hown1 hgrow))
              go_roundw
              case rel => exact ⟨t + 1, A5, c5, by omega, rfl, by go_num, Lib.hid (by rw [HNX.out, ← HZE.out]; exact OwnI.mk' (n := t + 1) (by rw [List.map_append, ← HXE.out]; exact HO4.out)), HB4⟩
              case measure => simp [intOf]; omega
        · obtain rfl : t = n := by omega
          have htt : ¬ (t : Int) < (t : Int) := by omega
          have HO3 : Hid (OwnI wr B1 wr.heap.size (.slice A4 t c4) (meR P S t k)) := Lib.hid how.out
          have HWO3 : Hid (Below wo.heap.size wo wr) := Lib.hid (by have := hb.out; rw [HB1E.out] at this; exact this)
          have HB3 : Hid (Below B0 w1 wr) := Lib.hid (HBR.out.trans (HWO3.out.mono HWS.out))
          obtain ⟨us, ls, hs, hrows⟩ := HOQ.out
          rw [show ((List.range k).map (meR P S t)).length = k by simp] at hrows
          have HROW := Lib.hid hrows
          have HROW3 : Hid (wr.ownsRow B0 22 1 (.slice A' k c') k us) := Lib.hid (hrows.1.kept (grown_of_below HWO3.out none) (by cases (Value.slice A' k c').ownBlock <;> simp))
          have HNX := Lib.hid (meT_next P S t k)
          have HDS : Hid (wo.heap.size ≤ B1) := Lib.hid (by rw [HB1E.out]; exact Nat.le_refl _)
          have hwo3 := HWO3.out.size
          have hws0 := HWS.out
          clear hrows
          go_wp2_with (at_builtin; (refine wpList_append_liesR rfl _ _ 40 rfl (B0) 22 j0 (.slice none 0 0) 1 24 Try.underlying40 hj0 hj1 hj2 hj3 rfl (by decide) (.slice A' k c') k us rfl (World.ownsRow.alloc HROW3.out _) ⟨wr.heap.size, 0, none⟩ 1 1 [.slice A4 t c4] rfl rfl (World.news_of_block (cs := #[.slice A4 t c4]) (t := 22) (fr := (0, 0)) (heap_alloc_new wr _)) (by simp [Value.oneCell']) (by decide) (by simp only [maxLen]; omega) (by omega) (by simp; omega) ?_; intro g2 cap2 w4 hown4 hgrow4 hg4 hlt4; have HQ4 := Lib.hid (rows_snocR HROW.out (by simp) HWS.out (HWO3.out.trans ((below_box2 wr _).mono HWO3.out.size)) (HO3.out.stay (below_box2 wr _)) HDS.out (by simp) hown4 hgrow4 hg4 hlt4); have HB4 := Lib.hid (((HB3.out).alloc (by omega) _).grown hgrow4 (by simp; omega) (fun kk hkk => (World.ownsRow.lt HROW3.out kk hkk).1)); clear hown4 hgrow4 hg4 hlt4))
          go_roundw
          case rel => exact ⟨k + 1, _, _, by omega, rfl, by go_num, Lib.hid (by rw [HNX.out]; exact HQ4.out), HB4⟩
          case measure => simp [intOf]; omega
    · obtain rfl : k = n := by omega
      go_wp2_with fail
      go_ret
      exact ⟨_, _, rfl, ownQ_lessC hq.out (by rw [HB0E.out]; exact HB1.out.size), HB1.out.trans (hb.out.mono (by rw [HB0E.out]; exact HB1.out.size))⟩

set_option maxRecDepth 100000 in
set_option maxHeartbeats 4000000 in
theorem specExceptionalMatrix_any (a b c : Value) (P S W : List Int) (w : World) (h : ReadC w w.heap.size a b c P S W) (hP : P.length ≤ 1048576) (hS : S.length ≤ 1048576) (hW : W.length ≤ 1048576) (hwp : ∀ z ∈ P, (Lit.int .i64 z).wf = true) (hws : ∀ z ∈ S, (Lit.int .i64 z).wf = true) (hww : ∀ z ∈ W, (Lit.int .i64 z).wf = true) :
    Calls Try.prog 32 #[.agg #[a, b, c]] w (AnsQC w (meA P S W) (clC P S W)) := by
  obtain ⟨W0, HE⟩ : ∃ V, V = w.alloc (.cells #[a, b, c] 28) := ⟨_, rfl⟩
  have hb0 : Below w.heap.size w W0 := by rw [HE]; exact below_box2 _ _
  have hx : CBox W0 w.heap.size a b c := by rw [HE]; exact CBox.new _ _ _ _ _
  have HR := Lib.hid ((h.below hb0).more hb0.size)
  have HB := Lib.hid hb0
  have HEQ := Lib.hid HE
  have HX := Lib.hid hx
  have x0 := hx.c0; have x1 := hx.c1; have x2 := hx.c2; have hxl := hx.lt
  clear h hb0 hx HE hwp hws hww
  rcases bool_fs (clB P S W) with hp | hp
  · have HA := Lib.hid (meA_no (P := P) (S := S) (W := W) hp); have HK := Lib.hid (clC_no hp)
    have HP := Lib.hid hp
    clear hp
    go_enter Try.func32, Try.ntmps32
    go_wp2_with fail
    rw [← HEQ.out]
    refine (l07Is_if a b c P S W W0 HR.out hP hS hW false HP.out).mono ?_
    rintro e w1 ⟨rfl, hb1⟩
    have HB1 := Lib.hid (HB.out.trans (hb1.mono HB.out.size))
    clear hb1
    go_wp2_with fail
    go_ret2
    exact AnsQC.noneC HA.out.symm HK.out.symm HB1.out
  · obtain ⟨n, hC⟩ := clB_true hp
    have HC := Lib.hid hC
    have HP := Lib.hid hp
    clear hp hC
    go_enter Try.func32, Try.ntmps32
    go_wp2_with fail
    rw [← HEQ.out]
    refine (l07Is_if a b c P S W W0 HR.out hP hS hW true HP.out).mono ?_
    rintro e w1 ⟨rfl, hb1⟩
    have HB1 := Lib.hid (HB.out.trans (hb1.mono HB.out.size))
    have HR1 := Lib.hid ((HR.out.below hb1).more hb1.size)
    have hX1 := HX.out.below hb1
    have y0 := hX1.c0; have y1 := hX1.c1; have y2 := hX1.c2; have hyl := hX1.lt
    have HX1 := Lib.hid hX1
    clear hb1 hX1
    have HA : Hid (meA P S W = meQ P S n) := Lib.hid (meA_yes HC.out)
    have HK : Hid (clC P S W = 0) := Lib.hid (clC_yes HP.out)
    go_wp2_with fail
    refine (l07Meet_any a b c P S W n w1 HR1.out HC.out.toClP).mono ?_
    rintro e w2 ⟨A2, c2, rfl, ho2, hb2⟩
    have HB2 := Lib.hid (HB1.out.trans (hb2.mono HB1.out.size))
    have HO2 := Lib.hid ho2
    have hbs := HB1.out.size
    clear ho2 hb2
    go_wp2_with fail
    go_ret2
    exact AnsQC.someC HA.out.symm HK.out.symm (ownQ_lessC HO2.out hbs) HB2.out
end Go.Proofs.Ytjobfjgphcaoeaa
