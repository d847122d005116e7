/- Clusters: the proximity matrix: contracts. Conditions: stated at each theorem. -/
import Derived.Test.YtjobfjgphcaoeaaClT
namespace Go.Proofs.Ytjobfjgphcaoeaa
open Go.ChangeShapes Go.WideShapes Go.ChangeAt Go.RowKit Go.Deep
set_option linter.unusedVariables false
set_option linter.unusedSimpArgs false

/-- What the matrix bears when the rows before k are laid. -/
def mK (P S : List Int) (k a b : Nat) : Int := if a < k then pxE P S a b else 0
/-- What it bears when of row k the 1 and the first t numbers -1 are laid, too. -/
def mI (P S : List Int) (k t a b : Nat) : Int := if a < k then pxE P S a b else if a = k then (if b = k then 1 else if ((nrC P S k).take t).contains (b : Int) then -1 else 0) else 0
theorem mI_start (P S : List Int) (k a b : Nat) : (if a = k ∧ b = k then (1 : Int) else mK P S k a b) = mI P S k 0 a b := by
  unfold mI mK
  by_cases h : a < k
  · rw [if_neg (by omega), if_pos h, if_pos h]
  · rw [if_neg h]
    by_cases h2 : a = k
    · subst h2
      rw [if_neg h, if_pos rfl]
      by_cases h3 : b = a
      · rw [if_pos ⟨rfl, h3⟩, if_pos h3]
      · rw [if_neg (fun h => h3 h.2), if_neg h3]; simp
    · rw [if_neg (fun h => h2 h.1), if_neg h, if_neg h2]
theorem mI_step {P S : List Int} {k t j : Nat} (hj : (nrC P S k)[t]? = some (j : Int)) (hjk : j < k) (a b : Nat) : (if a = k ∧ b = j then (-1 : Int) else mI P S k t a b) = mI P S k (t + 1) a b := by
  unfold mI
  by_cases h : a < k
  · rw [if_neg (by omega), if_pos h, if_pos h]
  · rw [if_neg h, if_neg h]
    by_cases h2 : a = k
    · subst h2
      rw [if_pos rfl, if_pos rfl, List.take_add_one, hj]
      by_cases h3 : b = j
      · subst h3
        rw [if_pos ⟨rfl, rfl⟩, if_neg (show ¬ b = a by omega), if_pos (by simp)]
      · rw [if_neg (fun h => h3 h.2)]
        have e : ((nrC P S a).take t ++ (some (j : Int)).toList).contains (b : Int) = ((nrC P S a).take t).contains (b : Int) := by
          rw [Bool.eq_iff_iff]; simp; omega
        rw [e]
    · rw [if_neg (fun h => h2 h.1), if_neg h2, if_neg h2]
theorem mI_end {P S : List Int} {k N : Nat} (hN : (nrC P S k).length = N) (a b : Nat) : mI P S k N a b = mK P S (k + 1) a b := by
  unfold mI mK
  rw [List.take_of_length_le (by omega)]
  by_cases h : a < k
  · rw [if_pos h, if_pos (by omega)]
  · rw [if_neg h]
    by_cases h2 : a = k
    · subst h2; rw [if_pos rfl, if_pos (show a < a + 1 by omega)]; rfl
    · rw [if_neg h2, if_neg (by omega)]
/-- The answer is a list of lists of the call's own. -/
def RAns (w : World) (L : List (List Int)) (n : Nat) (e : Ending) (w' : World) : Prop := ∃ A c, e = .returned (.slice A n c) ∧ OwnQ w' w.heap.size w'.heap.size (.slice A n c) L ∧ Below w.heap.size w w'

set_option maxRecDepth 100000 in
set_option maxHeartbeats 4000000 in
theorem proxM_any (g n : Nat) (P S : List Int) (w : World) (h : PtsAt w g n n P S) (hg : g < w.heap.size) (hC : ClP P S n) :
    Calls Try.prog 122 #[.slice (some ⟨g, 0, none⟩) n n] w (RAns w (pxQ P S n) n) := by
  have hn := hC.hi
  have hn1 := hC.lo
  have HO := Lib.hid hC.ok
  have HP := Lib.hid h
  clear h hC
  go_enter Try.func122, Try.ntmps122
  go_wp2_with fail
  refine (zeroM_any n w hn).mono ?_
  rintro e w1 ⟨rfl, hm1, hb1, hz1⟩
  have HM1 := Lib.hid hm1
  have HB1 := Lib.hid hb1
  have HP1 : Hid (PtsAt w1 g n n P S) := Lib.hid (rowIs_below HP.out hg hb1)
  have hg1 : g < w1.heap.size := by omega
  have HZ1 := Lib.hid hz1
  clear hm1 hb1 hz1
  go_wp2_with fail
  refine (allProx_any g n P S w1 HP1.out hg1 HO.out hn).mono ?_
  rintro e w2 ⟨rfl, hq2, hb2⟩
  have HR2 : Hid (RowsM w2 w1.heap.size w1.heap.size n P S) := Lib.hid (hq2.mem HO.out (Nat.le_refl _))
  have HM2 : Hid (MatM w2 w.heap.size n (mK P S 0)) := Lib.hid ((HM1.out.stay hb2).congr fun i j _ _ => by simp [mK])
  have HB2 : Hid (Below w.heap.size w w2) := Lib.hid (HB1.out.trans (hb2.mono HB1.out.size))
  have HK2 : Hid (Kept w1.heap.size w2.heap.size w2 w2) := Lib.hid (Kept.refl _ _ _)
  clear hq2 hb2
  go_wp2_with fail
  go_loopw [14] (fun vi wr => ∃ (k : Nat), k ≤ n ∧ vi = .int .i64 k ∧ Hid (MatM wr w.heap.size n (mK P S k)) ∧ Hid (Kept w1.heap.size w2.heap.size w2 wr) ∧ Hid (Below w.heap.size w wr)) (fun vi _ => n - (intOf vi).toNat)
  case atStart => exact ⟨0, by omega, rfl, HM2, HK2, HB2⟩
  case round =>
    obtain ⟨k, hk, rfl, hm, hkp, hb⟩ := hrel
    by_cases hkn : k < n
    · have hkn2 : (k : Int) < (n : Int) := by omega
      obtain ⟨A3, c3, hc30, hrow⟩ := HR2.out.row k hkn
      have hc3 := (kept_cell (o := k) hkp.out HR2.out.low HR2.out.lt).trans hc30
      have HRT := Lib.hid hrow
      have hNb := nrC_len P S k
      obtain ⟨N, hN⟩ : ∃ N, (nrC P S k).length = N := ⟨_, rfl⟩
      have HN := Lib.hid hN
      rw [hN] at hc3 HRT hNb
      have c0 := hm.out.row.cell hkn
      have c1 := (hm.out.els k hkn).cell hkn
      have f1 := (hm.out.els k hkn).frozen k
      have hz1 := HZ1.out
      have hlow := HR2.out.low
      have HMS : Hid (MatM (wr.setCell ⟨w.heap.size + 1 + k, k, none⟩ (.int .i64 1)) w.heap.size n (mI P S k 0)) := Lib.hid ((hm.out.set hkn 1).congr fun a b _ _ => mI_start P S k a b)
      have HKS : Hid (Kept w1.heap.size w2.heap.size w2 (wr.setCell ⟨w.heap.size + 1 + k, k, none⟩ (.int .i64 1))) := Lib.hid (hkp.out.trans (keptS wr (p := ⟨w.heap.size + 1 + k, k, none⟩) (by show w.heap.size + 1 + k < _; omega) _))
      have HBS : Hid (Below w.heap.size w (wr.setCell ⟨w.heap.size + 1 + k, k, none⟩ (.int .i64 1))) := Lib.hid (hb.out.setCell (p := ⟨w.heap.size + 1 + k, k, none⟩) (by show w.heap.size ≤ w.heap.size + 1 + k; omega) _)
      clear hN hrow hc30 hm hkp hb hz1
      go_wp2_with fail
      go_loopw [27] (fun vi wr => ∃ (t : Nat), t ≤ N ∧ vi = .int .i64 t ∧ Hid (MatM wr w.heap.size n (mI P S k t)) ∧ Hid (Kept w1.heap.size w2.heap.size w2 wr) ∧ Hid (Below w.heap.size w wr)) (fun vi _ => N - (intOf vi).toNat)
      case atStart => exact ⟨0, by omega, rfl, HMS, HKS, HBS⟩
      case round =>
        obtain ⟨t, ht, rfl, hm, hkp, hb⟩ := hrel
        by_cases htN : t < N
        · obtain ⟨g3, j, rfl, hlo3, hg3, hj, hjk, hcj⟩ := HRT.out t htN
          have dj := (kept_cell (o := t) hkp.out hlo3 hg3).trans hcj
          have c2 := hm.out.row.cell hkn
          have c4 := (hm.out.els k hkn).cell (show j < n by omega)
          have f4 := (hm.out.els k hkn).frozen j
          have hjn2 : (j : Int) < (n : Int) := by omega
          have htN2 : (t : Int) < (N : Int) := by omega
          have hz1 := HZ1.out
          have HMN : Hid (MatM (wr.setCell ⟨w.heap.size + 1 + k, j, none⟩ (.int .i64 (-1))) w.heap.size n (mI P S k (t + 1))) := Lib.hid ((hm.out.set hkn (-1)).congr fun a b _ _ => mI_step hj hjk a b)
          have HKN : Hid (Kept w1.heap.size w2.heap.size w2 (wr.setCell ⟨w.heap.size + 1 + k, j, none⟩ (.int .i64 (-1)))) := Lib.hid (hkp.out.trans (keptS wr (p := ⟨w.heap.size + 1 + k, j, none⟩) (by show w.heap.size + 1 + k < _; omega) _))
          have HBN : Hid (Below w.heap.size w (wr.setCell ⟨w.heap.size + 1 + k, j, none⟩ (.int .i64 (-1)))) := Lib.hid (hb.out.setCell (p := ⟨w.heap.size + 1 + k, j, none⟩) (by show w.heap.size ≤ w.heap.size + 1 + k; omega) _)
          clear hj hcj hz1
          go_wp2_with fail
          go_roundw
          case rel => exact ⟨t + 1, by omega, by go_num, HMN, HKN, HBN⟩
          case measure => simp [intOf]; omega
        · obtain rfl : t = N := by omega
          have htt : ¬ (t : Int) < (t : Int) := by omega
          have HME : Hid (MatM wr w.heap.size n (mK P S (k + 1))) := Lib.hid (hm.out.congr fun a b _ _ => mI_end HN.out a b)
          go_wp2_with fail
          go_roundw
          case rel => exact ⟨k + 1, by omega, by go_num, HME, hkp, hb⟩
          case measure => simp [intOf]; omega
    · obtain rfl : k = n := by omega
      go_wp2_with fail
      go_ret
      exact ⟨_, _, rfl, hm.out.ownQ (pxQ_len _ _ _) (fun i hi => by rw [pxQ_at hi]; exact fnL_congr fun b _ => by unfold mK; rw [if_pos hi]) (Nat.le_refl _) (by omega), hb.out⟩

/-- The row of the point k when its first j numbers are laid. -/
def rJ (P S : List Int) (k j b : Nat) : Int := if b < j then (if (nrC P S k).contains (b : Int) then -1 else 0) else 0
theorem rJ_yes {P S : List Int} {k j : Nat} (h : (nrC P S k).contains (j : Int) = true) : (fun x => if x = j then (-1 : Int) else rJ P S k j x) = rJ P S k (j + 1) := by
  funext x
  unfold rJ
  by_cases e : x = j
  · subst e; rw [if_pos rfl, if_pos (show x < x + 1 by omega), if_pos h]
  · rw [if_neg e]
    by_cases h2 : x < j
    · rw [if_pos h2, if_pos (show x < j + 1 by omega)]
    · rw [if_neg h2, if_neg (show ¬ x < j + 1 by omega)]
theorem rJ_no {P S : List Int} {k j : Nat} (h : (nrC P S k).contains (j : Int) = false) : rJ P S k j = rJ P S k (j + 1) := by
  funext x
  unfold rJ
  by_cases e : x = j
  · subst e; rw [if_neg (show ¬ x < x by omega), if_pos (show x < x + 1 by omega), if_neg (by rw [h]; simp)]
  · by_cases h2 : x < j
    · rw [if_pos h2, if_pos (show x < j + 1 by omega)]
    · rw [if_neg h2, if_neg (show ¬ x < j + 1 by omega)]
theorem rJ_end {P S : List Int} {n k : Nat} (h : okAll P S n = true) (hk : k < n) : (fun x => if x = k then (1 : Int) else rJ P S k k x) = pxE P S k := by
  funext x
  unfold rJ pxE
  by_cases e : x = k
  · rw [if_pos e, if_pos e]
  · rw [if_neg e, if_neg e]
    by_cases h2 : x < k
    · rw [if_pos h2]
    · rw [if_neg h2, if_neg]
      intro h3
      have h4 : (x : Int) ∈ nrC P S k := by simpa using h3
      have := nr_mem h hk _ h4
      omega
theorem pxT_next (P S : List Int) (n k : Nat) : (List.range (k + 1)).map (pxR P S n) = (List.range k).map (pxR P S n) ++ [pxR P S n k] := by simp [List.range_succ]
theorem row_ownC {W : World} {d n : Nat} {F : Nat → Int} (h : W.rowIs d 2 n (fun x => .int .i64 (F x))) (hd : d < W.heap.size) (hn : n ≤ 1048576) : OwnI W d (d + 1) (.slice (some ⟨d, 0, none⟩) n n) (fnL F n) := by
  have h1 : OwnI W d W.heap.size (.slice (some ⟨d, 0, none⟩) n n) (fnL F n) := row_ownB (h.congr fun x hx => by
    rw [if_pos hx]
    have := fnL_at (F := F) hx
    simp only [List.getD]; rw [this]) (fnL_len _ _) (Nat.le_refl _) (by omega)
  exact ⟨h1.1, fun k hk => by obtain rfl : d = k := by simpa [Value.ownBlock] using hk
                              omega, by omega⟩

set_option maxRecDepth 100000 in
set_option maxHeartbeats 4000000 in
theorem l07Prox_any (a b c : Value) (P S U : List Int) (n : Nat) (w : World) (h : ReadC w w.heap.size a b c P S U) (hC : ClP P S n) :
    Calls Try.prog 120 #[.agg #[a, b, c]] w (RAns w (pxQ P S n) n) := by
  have hn1 := hC.lo
  have hn := hC.hi
  have HO := Lib.hid hC.ok
  obtain ⟨h0, h1, h2⟩ := h
  obtain ⟨A0, c0, rfl, _, _, hc0, _, hm0⟩ := id h0
  obtain ⟨A1, c1, rfl, _, _, hc1, _, hm1⟩ := id h1
  obtain ⟨A2, c2, rfl, _⟩ := id h2
  rw [hC.p] at h0 hc0 ⊢
  rw [hC.s] at h1 hc1 ⊢
  obtain ⟨n2, hn2⟩ : ∃ x, U.length = x := ⟨_, rfl⟩
  rw [hn2]
  obtain ⟨g0, o0, rfl, H0, hg0⟩ := cells_ofC h0 hC.p hn1
  obtain ⟨g1, o1, rfl, H1, hg1⟩ := cells_ofC h1 hC.s hn1
  have HX : Hid (CBox (w.alloc (.cells #[.slice (some ⟨g0, o0, none⟩) n c0, .slice (some ⟨g1, o1, none⟩) n c1, .slice A2 n2 c2] 28)) w.heap.size (.slice (some ⟨g0, o0, none⟩) n c0) (.slice (some ⟨g1, o1, none⟩) n c1) (.slice A2 n2 c2)) := Lib.hid (CBox.new _ _ _ _ _)
  have HB0 : Hid (Below w.heap.size w (w.alloc (.cells #[.slice (some ⟨g0, o0, none⟩) n c0, .slice (some ⟨g1, o1, none⟩) n c1, .slice A2 n2 c2] 28))) := Lib.hid (below_box2 _ _)
  have HQ0 : Hid (OwnQ ((w.alloc (.cells #[.slice (some ⟨g0, o0, none⟩) n c0, .slice (some ⟨g1, o1, none⟩) n c1, .slice A2 n2 c2] 28)).alloc (.cells #[] 22)) (w.heap.size + 1) ((w.alloc (.cells #[.slice (some ⟨g0, o0, none⟩) n c0, .slice (some ⟨g1, o1, none⟩) n c1, .slice A2 n2 c2] 28)).alloc (.cells #[] 22)).heap.size (.slice (some ⟨w.heap.size + 1, 0, none⟩) 0 0) ((List.range 0).map (pxR P S n))) := Lib.hid (by
    have := ownQ_newR (w.alloc (.cells #[.slice (some ⟨g0, o0, none⟩) n c0, .slice (some ⟨g1, o1, none⟩) n c1, .slice A2 n2 c2] 28)) (w.heap.size + 1) (by simp)
    simpa using this)
  have HB1 : Hid (Below (w.heap.size + 1) (w.alloc (.cells #[.slice (some ⟨g0, o0, none⟩) n c0, .slice (some ⟨g1, o1, none⟩) n c1, .slice A2 n2 c2] 28)) ((w.alloc (.cells #[.slice (some ⟨g0, o0, none⟩) n c0, .slice (some ⟨g1, o1, none⟩) n c1, .slice A2 n2 c2] 28)).alloc (.cells #[] 22))) := Lib.hid ((Below.refl _ _).alloc (by simp) _)
  obtain ⟨j0, hj0, hj1, hj2, hj3⟩ := info_parts ints_infoR
  have hmk2 := fun (W : World) => run_make_row' (P := Try.prog) 22 2 (.int .i64 0) 8 Try.underlying22 int_info rfl .i64 .i64 n (by omega) (by omega) W
  clear h0 h1 h2 hC hn2
  go_enter Try.func120, Try.ntmps120
  go_wp2_with fail
  generalize hWW : (w.alloc (.cells #[.slice (some ⟨g0, o0, none⟩) n c0, .slice (some ⟨g1, o1, none⟩) n c1, .slice A2 n2 c2] 28)) = W0 at *
  clear hWW
  go_loopw [3, 4] (fun vo vi wr => ∃ (k : Nat) (A : Option Addr) (c' : Nat), k ≤ n ∧ vo = .slice A k c' ∧ vi = .int .i64 k ∧ Hid (OwnQ wr (w.heap.size + 1) wr.heap.size (.slice A k c') ((List.range k).map (pxR P S n))) ∧ Hid (Below (w.heap.size + 1) W0 wr)) (fun _ vi _ => n - (intOf vi).toNat)
  case atStart => exact ⟨0, _, _, by omega, rfl, rfl, HQ0, HB1⟩
  case round =>
    obtain ⟨k, A', c', hk, rfl, rfl, hq, hb⟩ := hrel
    have HBW : Hid (Below w.heap.size w wr) := Lib.hid (HB0.out.trans (hb.out.mono (by omega)))
    have hX := HX.out.of_block (hb.out.block w.heap.size (by have := HX.out.lt; omega)) hb.out.size
    have x0 := hX.c0; have x1 := hX.c1; have x2 := hX.c2; have hxl := hX.lt
    by_cases hkn : k < n
    · have hkn2 : (k : Int) < (n : Int) := by omega
      obtain ⟨d, hd⟩ : ∃ d, d = wr.heap.size := ⟨_, rfl⟩
      have HDE := Lib.hid hd
      have HWS : Hid (w.heap.size + 1 ≤ wr.heap.size) := Lib.hid (by omega)
      obtain ⟨W1, HE1⟩ : ∃ V, V = wr.alloc (.cells (madeCells #[.int .i64 0] n) 2) := ⟨_, rfl⟩
      have HR1 : Hid (OwnI W1 d (d + 1) (.slice (some ⟨d, 0, none⟩) n n) (fnL (rJ P S k 0) n)) := Lib.hid (by
        rw [HE1, hd]
        exact row_ownC ((World.rowIs_made _ _ _ _).congr fun x hx => by simp [rJ]) (by simp) (by omega))
      have HW1 : Hid (Below wr.heap.size wr W1) := Lib.hid (by rw [HE1]; exact below_box2 _ _)
      have HEQ1 := Lib.hid HE1
      have HOQ := Lib.hid hq.out
      have HBR := Lib.hid hb.out
      have HXR := Lib.hid hX
      have hws : w.heap.size < d := by omega
      obtain ⟨wo, rfl⟩ : ∃ wo : World, wo = wr := ⟨_, rfl⟩
      clear HE1 hq hb hX hd
      go_wp2_with fail
      rw [HDE.out.symm]
      rw [← HEQ1.out]
      go_loopw [6] (fun vj wr => ∃ (j : Nat), j ≤ k ∧ vj = .int .i64 j ∧ Hid (OwnI wr d (d + 1) (.slice (some ⟨d, 0, none⟩) n n) (fnL (rJ P S k j) n)) ∧ Hid (Below wo.heap.size wo wr)) (fun vj _ => k - (intOf vj).toNat)
      case atStart => exact ⟨0, by omega, rfl, HR1, HW1⟩
      case round =>
        obtain ⟨j, hj, rfl, hr, hb2⟩ := hrel
        have hX2 := HXR.out.below hb2.out
        have u0 := hX2.c0; have u1 := hX2.c1; have u2 := hX2.c2; have hul := hX2.lt
        have HBW2 : Hid (Below w.heap.size w wr) := Lib.hid (HBW.out.trans (hb2.out.mono HBW.out.size))
        have hs2 := hb2.out.size
        by_cases hjk : j < k
        · have hjk2 : (j : Int) < (k : Int) := by omega
          have hjn2 : (j : Int) < (n : Int) := by omega
          have e0 := (HBW2.out.cell (p := ⟨g0, o0 + k, none⟩) hg0).trans (H0.out k hkn)
          have e1 := (HBW2.out.cell (p := ⟨g1, o1 + k, none⟩) hg1).trans (H1.out k hkn)
          have hgw0 : g0 < wr.heap.size := by omega
          have hgw1 : g1 < wr.heap.size := by omega
          have hnm := near_math HO.out hkn (show (0 : Int) ≤ (j : Int) by omega)
          obtain ⟨bb, hbb⟩ : ∃ x, (nrC P S k).contains (j : Int) = x := ⟨_, rfl⟩
          rw [hbb] at hnm
          have HBB := Lib.hid hbb
          have HNM := Lib.hid hnm
          clear hbb hnm hX2
          go_wp2_with fail
          refine (near_any g0 o0 n c0 g1 o1 c1 (P[k]?.getD 0) (S[k]?.getD 0) j k wr hkn (by omega) e0 e1 hgw0 hgw1 A2 n2 c2 bb (by omega) HNM.out).mono ?_
          rintro e w3 ⟨rfl, hb3⟩
          have HR3 := Lib.hid (hr.out.stay hb3)
          have HB3 : Hid (Below wo.heap.size wo w3) := Lib.hid (hb2.out.trans (hb3.mono hs2))
          clear hb3 e0 e1
          cases bb
          · have HR4 : Hid (OwnI w3 d (d + 1) (.slice (some ⟨d, 0, none⟩) n n) (fnL (rJ P S k (j + 1)) n)) := Lib.hid (by rw [← rJ_no HBB.out]; exact HR3.out)
            go_wp2_with fail
            go_roundw
            case rel => exact ⟨j + 1, by omega, by go_num, HR4, HB3⟩
            case measure => simp [intOf]; omega
          · obtain ⟨d', e', hd1, hd2, hcd, hfd⟩ := own_at HR3.out (fnL_len _ _) (show j < n by omega)
            simp only [Option.some.injEq, Addr.mk.injEq, and_true] at e'
            subst e'
            have HR4 : Hid (OwnI (w3.setCell ⟨d, j, none⟩ (.int .i64 (-1))) d (d + 1) (.slice (some ⟨d, 0, none⟩) n n) (fnL (rJ P S k (j + 1)) n)) := Lib.hid (by
              have h6 := own_store (j := j) HR3.out (fnL_len _ _) (-1)
              rw [fnL_put, rJ_yes HBB.out] at h6
              exact h6)
            have HB4 : Hid (Below wo.heap.size wo (w3.setCell ⟨d, j, none⟩ (.int .i64 (-1)))) := Lib.hid (HB3.out.setCell (p := ⟨d, j, none⟩) (by show wo.heap.size ≤ d; rw [HDE.out]; exact Nat.le_refl _) _)
            go_wp2_with fail
            go_roundw
            case rel => exact ⟨j + 1, by omega, by go_num, HR4, HB4⟩
            case measure => simp [intOf]; omega
        · obtain rfl : j = k := by omega
          have hjj : ¬ (j : Int) < (j : Int) := by omega
          obtain ⟨d', e', hd1, hd2, hcd, hfd⟩ := own_at hr.out (fnL_len _ _) hkn
          simp only [Option.some.injEq, Addr.mk.injEq, and_true] at e'
          subst e'
          have HO3 : Hid (OwnI (wr.setCell ⟨d, j, none⟩ (.int .i64 1)) d (d + 1) (.slice (some ⟨d, 0, none⟩) n n) (pxR P S n j)) := Lib.hid (by
            have h6 := own_store (j := j) hr.out (fnL_len _ _) 1
            rw [fnL_put, rJ_end HO.out hkn] at h6
            exact h6)
          have hz3 : (wr.setCell ⟨d, j, none⟩ (.int .i64 1)).heap.size = wr.heap.size := size_set _ _ _
          have HWO3 : Hid (Below wo.heap.size wo (wr.setCell ⟨d, j, none⟩ (.int .i64 1))) := Lib.hid (hb2.out.setCell (p := ⟨d, j, none⟩) (by show wo.heap.size ≤ d; rw [HDE.out]; exact Nat.le_refl _) _)
          have HB3 : Hid (Below (w.heap.size + 1) W0 (wr.setCell ⟨d, j, none⟩ (.int .i64 1))) := Lib.hid (HBR.out.trans (HWO3.out.mono HWS.out))
          obtain ⟨us, ls, hs, hrows⟩ := HOQ.out
          rw [show ((List.range j).map (pxR P S n)).length = j by simp] at hrows
          have HROW := Lib.hid hrows
          have HROW3 : Hid ((wr.setCell ⟨d, j, none⟩ (.int .i64 1)).ownsRow (w.heap.size + 1) 22 1 (.slice A' j c') j us) := Lib.hid (hrows.1.kept (grown_of_below HWO3.out none) (by cases (Value.slice A' j c').ownBlock <;> simp))
          have HNX := Lib.hid (pxT_next P S n j)
          have HDS : Hid (wo.heap.size ≤ d) := Lib.hid (by rw [HDE.out]; exact Nat.le_refl _)
          have hws3 := HWO3.out.size
          have hwso := HWS.out
          have hds3 : d + 1 ≤ wr.heap.size := own_size hr.out
          clear hrows hX2
          go_wp2_with (at_builtin; (refine wpList_append_liesR rfl _ _ 40 rfl (w.heap.size + 1) 22 j0 (.slice none 0 0) 1 24 Try.underlying40 hj0 hj1 hj2 hj3 rfl (by decide) (.slice A' j c') j us rfl (World.ownsRow.alloc HROW3.out _) ⟨wr.heap.size, 0, none⟩ 1 1 [.slice (some ⟨d, 0, none⟩) n n] rfl rfl (World.news_of_block (cs := #[.slice (some ⟨d, 0, none⟩) n n]) (t := 22) (fr := (0, 0)) (by have h8 := heap_alloc_new (wr.setCell ⟨d, j, none⟩ (.int .i64 1)) (.cells #[.slice (some ⟨d, 0, none⟩) n n] 22); rw [hz3] at h8; exact h8)) (by simp [Value.oneCell']) (by decide) (by simp only [maxLen]; omega) (by omega) (by simp; omega) ?_; intro g2 cap2 w4 hown4 hgrow4 hg4 hlt4; have HQ4 := Lib.hid (rows_snocR HROW.out (by simp) HWS.out (HWO3.out.trans ((below_box2 (wr.setCell ⟨d, j, none⟩ (.int .i64 1)) _).mono HWO3.out.size)) (HO3.out.stay (below_box2 (wr.setCell ⟨d, j, none⟩ (.int .i64 1)) _)) HDS.out (by simp; omega) hown4 hgrow4 hg4 hlt4); have HB4 := Lib.hid (((HB3.out).alloc (by omega) _).grown hgrow4 (by simp; omega) (fun kk hkk => (World.ownsRow.lt HROW3.out kk hkk).1)); clear hown4 hgrow4 hg4 hlt4))
          go_roundw
          case rel => exact ⟨j + 1, _, _, by omega, rfl, by go_num, Lib.hid (by rw [HNX.out]; exact HQ4.out), HB4⟩
          case measure => simp [intOf]; omega
    · obtain rfl : k = n := by omega
      go_wp2_with fail
      go_ret
      exact ⟨_, _, rfl, ownQ_lessC hq.out (by omega), HBW.out⟩

def pxA (P S W : List Int) : List (List Int) := if clB P S W then pxQ P S P.length else []
theorem pxA_no {P S W : List Int} (h : clB P S W = false) : pxA P S W = [] := by simp [pxA, h]
theorem pxA_yes {P S W : List Int} {n : Nat} (h : ClOK P S W n) : pxA P S W = pxQ P S n := by simp [pxA, h.b, h.p]
theorem sumTo_cl {ms : Nat → Nat} {b : Nat} (h : ∀ i, ms i ≤ b) : ∀ n, sumTo ms n ≤ b * n
  | 0 => Nat.zero_le _
  | n + 1 => by
    have h1 := sumTo_cl h n
    have h2 := h n
    show sumTo ms n + ms n ≤ b * (n + 1)
    rw [Nat.mul_add]; omega
theorem szTot_cl {L : List (List Int)} (h : L.length ≤ 24) (h2 : ∀ i, (L.getD i []).length ≤ 24) : szTot L ≤ 549755813888 := by
  have h3 := sumTo_cl (ms := lens L) (b := 24) (fun i => h2 i) L.length
  unfold szTot
  have h4 : 24 * L.length ≤ 24 * 24 := Nat.mul_le_mul_left _ h
  omega
theorem pxA_len (P S W : List Int) : szTot (pxA P S W) ≤ 549755813888 := by
  cases h : clB P S W with
  | false => rw [pxA_no h]; exact szTot_cl (by simp) (by simp)
  | true =>
    obtain ⟨n, hC⟩ := clB_true h
    have hn := hC.hi
    rw [pxA_yes hC]
    refine szTot_cl (by rw [pxQ_len]; exact hn) fun i => ?_
    by_cases hi : i < n
    · rw [pxQ_at hi, pxR_len]; exact hn
    · rw [List.getD, List.getElem?_eq_none (by rw [pxQ_len]; omega)]; simp

end Go.Proofs.Ytjobfjgphcaoeaa
