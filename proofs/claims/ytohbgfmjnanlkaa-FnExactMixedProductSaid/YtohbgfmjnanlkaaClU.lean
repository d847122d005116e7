/- Clusters: the proximity matrix: contracts. Conditions: stated at each theorem. -/
import Derived.Test.YtohbgfmjnanlkaaClT
namespace Go.Proofs.Ytohbgfmjnanlkaa
open Go.ChangeShapes Go.WideShapes Go.ChangeAt Go.RowKit Go.Deep
set_option linter.unusedVariables false
set_option linter.unusedSimpArgs false

/-- What the matrix bears when the rows before k are laid. -/
def mK (P S : List Int) (k a b : Nat) : Int := if a < k then pxE P S a b else 0
/-- What it bears when of row k the 1 and the first t numbers -1 are laid, too. -/
def mI (P S : List Int) (k t a b : Nat) : Int := if a < k then pxE P S a b else if a = k then (if b = k then 1 else if ((nrC P S k).take t).contains (b : Int) then -1 else 0) else 0
theorem mI_start (P S : List Int) (k a b : Nat) : (if a = k ∧ b = k then (1 : Int) else mK P S k a b) = mI P S k 0 a b := by
  unfold mI mK
  by_cases h : a < k
  · rw [if_neg (by omega), if_pos h, if_pos h]
  · rw [if_neg h]
    by_cases h2 : a = k
    · subst h2
      rw [if_neg h, if_pos rfl]
      by_cases h3 : b = a
      · rw [if_pos ⟨rfl, h3⟩, if_pos h3]
      · rw [if_neg (fun h => h3 h.2), if_neg h3]; simp
    · rw [if_neg (fun h => h2 h.1), if_neg h, if_neg h2]
theorem mI_step {P S : List Int} {k t j : Nat} (hj : (nrC P S k)[t]? = some (j : Int)) (hjk : j < k) (a b : Nat) : (if a = k ∧ b = j then (-1 : Int) else mI P S k t a b) = mI P S k (t + 1) a b := by
  unfold mI
  by_cases h : a < k
  · rw [if_neg (by omega), if_pos h, if_pos h]
  · rw [if_neg h, if_neg h]
    by_cases h2 : a = k
    · subst h2
      rw [if_pos rfl, if_pos rfl, List.take_add_one, hj]
      by_cases h3 : b = j
      · subst h3
        rw [if_pos ⟨rfl, rfl⟩, if_neg (show ¬ b = a by omega), if_pos (by simp)]
      · rw [if_neg (fun h => h3 h.2)]
        have e : ((nrC P S a).take t ++ (some (j : Int)).toList).contains (b : Int) = ((nrC P S a).take t).contains (b : Int) := by
          rw [Bool.eq_iff_iff]; simp; omega
        rw [e]
    · rw [if_neg (fun h => h2 h.1), if_neg h2, if_neg h2]
theorem mI_end {P S : List Int} {k N : Nat} (hN : (nrC P S k).length = N) (a b : Nat) : mI P S k N a b = mK P S (k + 1) a b := by
  unfold mI mK
  rw [List.take_of_length_le (by omega)]
  by_cases h : a < k
  · rw [if_pos h, if_pos (by omega)]
  · rw [if_neg h]
    by_cases h2 : a = k
    · subst h2; rw [if_pos rfl, if_pos (show a < a + 1 by omega)]; rfl
    · rw [if_neg h2, if_neg (by omega)]
/-- The answer is a list of lists of the call's own. -/
def RAns (w : World) (L : List (List Int)) (n : Nat) (e : Ending) (w' : World) : Prop := ∃ A c, e = .returned (.slice A n c) ∧ OwnQ w' w.heap.size w'.heap.size (.slice A n c) L ∧ Below w.heap.size w w'

set_option maxRecDepth 100000 in
set_option maxHeartbeats 4000000 in
theorem proxM_any (g n : Nat) (P S : List Int) (w : World) (h : PtsAt w g n n P S) (hg : g < w.heap.size) (hC : ClP P S n) :
    Calls Try.prog 195 #[.slice (some ⟨g, 0, none⟩) n n] w (RAns w (pxQ P S n) n) := by
  have hn := hC.hi
  have hn1 := hC.lo
  have HO := Lib.hid hC.ok
  have HP := Lib.hid h
  clear h hC
  go_enter Try.func195, Try.ntmps195
  go_wp2_with fail
  refine (zeroM_any n w hn).mono ?_
  rintro e w1 ⟨rfl, hm1, hb1, hz1⟩
  have HM1 := Lib.hid hm1
  have HB1 := Lib.hid hb1
  have HP1 : Hid (PtsAt w1 g n n P S) := Lib.hid (rowIs_below HP.out hg hb1)
  have hg1 : g < w1.heap.size := by omega
  have HZ1 := Lib.hid hz1
  clear hm1 hb1 hz1
  go_wp2_with fail
  refine (allProx_any g n P S w1 HP1.out hg1 HO.out hn).mono ?_
  rintro e w2 ⟨rfl, hq2, hb2⟩
  have HR2 : Hid (RowsM w2 w1.heap.size w1.heap.size n P S) := Lib.hid (hq2.mem HO.out (Nat.le_refl _))
  have HM2 : Hid (MatM w2 w.heap.size n (mK P S 0)) := Lib.hid ((HM1.out.stay hb2).congr fun i j _ _ => by simp [mK])
  have HB2 : Hid (Below w.heap.size w w2) := Lib.hid (HB1.out.trans (hb2.mono HB1.out.size))
  have HK2 : Hid (Kept w1.heap.size w2.heap.size w2 w2) := Lib.hid (Kept.refl _ _ _)
  clear hq2 hb2
  go_wp2_with fail
  go_loopw [14] (fun vi wr => ∃ (k : Nat), k ≤ n ∧ vi = .int .i64 k ∧ Hid (MatM wr w.heap.size n (mK P S k)) ∧ Hid (Kept w1.heap.size w2.heap.size w2 wr) ∧ Hid (Below w.heap.size w wr)) (fun vi _ => n - (intOf vi).toNat)
  case atStart => exact ⟨0, by omega, rfl, HM2, HK2, HB2⟩
  case round =>
    obtain ⟨k, hk, rfl, hm, hkp, hb⟩ := hrel
    by_cases hkn : k < n
    · have hkn2 : (k : Int) < (n : Int) := by omega
      obtain ⟨A3, c3, hc30, hrow⟩ := HR2.out.row k hkn
      have hc3 := (kept_cell (o := k) hkp.out HR2.out.low HR2.out.lt).trans hc30
      have HRT := Lib.hid hrow
      have hNb := nrC_len P S k
      obtain ⟨N, hN⟩ : ∃ N, (nrC P S k).length = N := ⟨_, rfl⟩
      have HN := Lib.hid hN
      rw [hN] at hc3 HRT hNb
      have c0 := hm.out.row.cell hkn
      have c1 := (hm.out.els k hkn).cell hkn
      have f1 := (hm.out.els k hkn).frozen k
      have hz1 := HZ1.out
      have hlow := HR2.out.low
      have HMS : Hid (MatM (wr.setCell ⟨w.heap.size + 1 + k, k, none⟩ (.int .i64 1)) w.heap.size n (mI P S k 0)) := Lib.hid ((hm.out.set hkn 1).congr fun a b _ _ => mI_start P S k a b)
      have HKS : Hid (Kept w1.heap.size w2.heap.size w2 (wr.setCell ⟨w.heap.size + 1 + k, k, none⟩ (.int .i64 1))) := Lib.hid (hkp.out.trans (keptS wr (p := ⟨w.heap.size + 1 + k, k, none⟩) (by show w.heap.size + 1 + k < _; omega) _))
      have HBS : Hid (Below w.heap.size w (wr.setCell ⟨w.heap.size + 1 + k, k, none⟩ (.int .i64 1))) := Lib.hid (hb.out.setCell (p := ⟨w.heap.size + 1 + k, k, none⟩) (by show w.heap.size ≤ w.heap.size + 1 + k; omega) _)
      clear hN hrow hc30 hm hkp hb hz1
      go_wp2_with fail
      go_loopw [27] (fun vi wr => ∃ (t : Nat), t ≤ N ∧ vi = .int .i64 t ∧ Hid (MatM wr w.heap.size n (mI P S k t)) ∧ Hid (Kept w1.heap.size w2.heap.size w2 wr) ∧ Hid (Below w.heap.size w wr)) (fun vi _ => N - (intOf vi).toNat)
      case atStart => exact ⟨0, by omega, rfl, HMS, HKS, HBS⟩
      case round =>
        obtain ⟨t, ht, rfl, hm, hkp, hb⟩ := hrel
        by_cases htN : t < N
        · obtain ⟨g3, j, rfl, hlo3, hg3, hj, hjk, hcj⟩ := HRT.out t htN
          have dj := (kept_cell (o := t) hkp.out hlo3 hg3).trans hcj
          have c2 := hm.out.row.cell hkn
          have c4 := (hm.out.els k hkn).cell (show j < n by omega)
          have f4 := (hm.out.els k hkn).frozen j
          have hjn2 : (j : Int) < (n : Int) := by omega
          have htN2 : (t : Int) < (N : Int) := by omega
          have hz1 := HZ1.out
          have HMN : Hid (MatM (wr.setCell ⟨w.heap.size + 1 + k, j, none⟩ (.int .i64 (-1))) w.heap.size n (mI P S k (t + 1))) := Lib.hid ((hm.out.set hkn (-1)).congr fun a b _ _ => mI_step hj hjk a b)
          have HKN : Hid (Kept w1.heap.size w2.heap.size w2 (wr.setCell ⟨w.heap.size + 1 + k, j, none⟩ (.int .i64 (-1)))) := Lib.hid (hkp.out.trans (keptS wr (p := ⟨w.heap.size + 1 + k, j, none⟩) (by show w.heap.size + 1 + k < _; omega) _))
          have HBN : Hid (Below w.heap.size w (wr.setCell ⟨w.heap.size + 1 + k, j, none⟩ (.int .i64 (-1)))) := Lib.hid (hb.out.setCell (p := ⟨w.heap.size + 1 + k, j, none⟩) (by show w.heap.size ≤ w.heap.size + 1 + k; omega) _)
          clear hj hcj hz1
          go_wp2_with fail
          go_roundw
          case rel => exact ⟨t + 1, by omega, by go_num, HMN, HKN, HBN⟩
          case measure => simp [intOf]; omega
        · obtain rfl : t = N := by omega
          have htt : ¬ (t : Int) < (t : Int) := by omega
          have HME : Hid (MatM wr w.heap.size n (mK P S (k + 1))) := Lib.hid (hm.out.congr fun a b _ _ => mI_end HN.out a b)
          go_wp2_with fail
          go_roundw
          case rel => exact ⟨k + 1, by omega, by go_num, HME, hkp, hb⟩
          case measure => simp [intOf]; omega
    · obtain rfl : k = n := by omega
      go_wp2_with fail
      go_ret
      exact ⟨_, _, rfl, hm.out.ownQ (pxQ_len _ _ _) (fun i hi => by rw [pxQ_at hi]; exact fnL_congr fun b _ => by unfold mK; rw [if_pos hi]) (Nat.le_refl _) (by omega), hb.out⟩

/-- The row of the point k when its first j numbers are laid. -/
def rJ (P S : List Int) (k j b : Nat) : Int := if b < j then (if (nrC P S k).contains (b : Int) then -1 else 0) else 0
theorem rJ_yes {P S : List Int} {k j : Nat} (h : (nrC P S k).contains (j : Int) = true) : (fun x => if x = j then (-1 : Int) else rJ P S k j x) = rJ P S k (j + 1) := by
  funext x
  unfold rJ
  by_cases e : x = j
  · subst e; rw [if_pos rfl, if_pos (show x < x + 1 by omega), if_pos h]
  · rw [if_neg e]
    by_cases h2 : x < j
    · rw [if_pos h2, if_pos (show x < j + 1 by omega)]
    · rw [if_neg h2, if_neg (show ¬ x < j + 1 by omega)]
theorem rJ_no {P S : List Int} {k j : Nat} (h : (nrC P S k).contains (j : Int) = false) : rJ P S k j = rJ P S k (j + 1) := by
  funext x
  unfold rJ
  by_cases e : x = j
  · subst e; rw [if_neg (show ¬ x < x by omega), if_pos (show x < x + 1 by omega), if_neg (by rw [h]; simp)]
  · by_cases h2 : x < j
    · rw [if_pos h2, if_pos (show x < j + 1 by omega)]
    · rw [if_neg h2, if_neg (show ¬ x < j + 1 by omega)]
theorem rJ_end {P S : List Int} {n k : Nat} (h : okAll P S n = true) (hk : k < n) : (fun x => if x = k then (1 : Int) else rJ P S k k x) = pxE P S k := by
  funext x
  unfold rJ pxE
  by_cases e : x = k
  · rw [if_pos e, if_pos e]
  · rw [if_neg e, if_neg e]
    by_cases h2 : x < k
    · rw [if_pos h2]
    · rw [if_neg h2, if_neg]
      intro h3
      have h4 : (x : Int) ∈ nrC P S k := by simpa using h3
      have := nr_mem h hk _ h4
      omega
theorem pxT_next (P S : List Int) (n k : Nat) : (List.range (k + 1)).map (pxR P S n) = (List.range k).map (pxR P S n) ++ [pxR P S n k] := by simp [List.range_succ]
theorem row_ownC {W : World} {d n : Nat} {F : Nat → Int} (h : W.rowIs d 2 n (fun x => .int .i64 (F x))) (hd : d < W.heap.size) (hn : n ≤ 1048576) : OwnI W d (d + 1) (.slice (some ⟨d, 0, none⟩) n n) (fnL F n) := by
  have h1 : OwnI W d W.heap.size (.slice (some ⟨d, 0, none⟩) n n) (fnL F n) := row_ownB (h.congr fun x hx => by
    rw [if_pos hx]
    have := fnL_at (F := F) hx
    simp only [List.getD]; rw [this]) (fnL_len _ _) (Nat.le_refl _) (by omega)
  exact ⟨h1.1, fun k hk => by obtain rfl : d = k := by simpa [Value.ownBlock] using hk
                              omega, by omega⟩

def pxA (P S W : List Int) : List (List Int) := if clB P S W then pxQ P S P.length else []
theorem pxA_no {P S W : List Int} (h : clB P S W = false) : pxA P S W = [] := by simp [pxA, h]
theorem pxA_yes {P S W : List Int} {n : Nat} (h : ClOK P S W n) : pxA P S W = pxQ P S n := by simp [pxA, h.b, h.p]
theorem sumTo_cl {ms : Nat → Nat} {b : Nat} (h : ∀ i, ms i ≤ b) : ∀ n, sumTo ms n ≤ b * n
  | 0 => Nat.zero_le _
  | n + 1 => by
    have h1 := sumTo_cl h n
    have h2 := h n
    show sumTo ms n + ms n ≤ b * (n + 1)
    rw [Nat.mul_add]; omega
theorem szTot_cl {L : List (List Int)} (h : L.length ≤ 24) (h2 : ∀ i, (L.getD i []).length ≤ 24) : szTot L ≤ 549755813888 := by
  have h3 := sumTo_cl (ms := lens L) (b := 24) (fun i => h2 i) L.length
  unfold szTot
  have h4 : 24 * L.length ≤ 24 * 24 := Nat.mul_le_mul_left _ h
  omega
theorem pxA_len (P S W : List Int) : szTot (pxA P S W) ≤ 549755813888 := by
  cases h : clB P S W with
  | false => rw [pxA_no h]; exact szTot_cl (by simp) (by simp)
  | true =>
    obtain ⟨n, hC⟩ := clB_true h
    have hn := hC.hi
    rw [pxA_yes hC]
    refine szTot_cl (by rw [pxQ_len]; exact hn) fun i => ?_
    by_cases hi : i < n
    · rw [pxQ_at hi, pxR_len]; exact hn
    · rw [List.getD, List.getElem?_eq_none (by rw [pxQ_len]; omega)]; simp

end Go.Proofs.Ytohbgfmjnanlkaa
