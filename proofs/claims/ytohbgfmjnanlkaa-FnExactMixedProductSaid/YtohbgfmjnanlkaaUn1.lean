/- Weights of orders, ones, discrepancies of points: contracts. Conditions: stated at each theorem. -/
import Derived.Test.YtohbgfmjnanlkaaClG
import Derived.Test.YtohbgfmjnanlkaaUnM
namespace Go.Proofs.Ytohbgfmjnanlkaa
open Go.ChangeShapes Go.WideShapes Go.ChangeAt Go.RowKit Go.Deep
set_option linter.unusedVariables false
set_option linter.unusedSimpArgs false

def woL (P S O : List Int) (n : Nat) : List Int := fnL (woF P S (fun x => O[x]?.getD 0)) n
theorem woL_len (P S O : List Int) (n : Nat) : (woL P S O n).length = n := fnL_len _ _
theorem woL_at {P S O : List Int} {n x : Nat} (h : x < n) : (woL P S O n)[x]?.getD 0 = woF P S (fun x => O[x]?.getD 0) x := fnL_at h
/-- An order less those of the first t points to which the point is proximate. -/
def wP (P S : List Int) (O : Nat → Int) (k t : Nat) : Int := O k - (((nrC P S k).take t).map fun z => O z.toNat).sum
theorem wP_zero (P S : List Int) (O : Nat → Int) (k : Nat) : wP P S O k 0 = O k := by simp [wP]
theorem wP_next {P S : List Int} {O : Nat → Int} {k t j : Nat} (h : (nrC P S k)[t]? = some (j : Int)) : wP P S O k (t + 1) = wP P S O k t - O j := by
  unfold wP; rw [List.take_add_one, h]; simp [List.sum_append]; omega
theorem wP_end {P S : List Int} {O : Nat → Int} {k N : Nat} (hN : (nrC P S k).length = N) : wP P S O k N = woF P S O k := by
  unfold wP woF; rw [List.take_of_length_le (by omega)]
theorem wP_rng {P S : List Int} {O : Nat → Int} (hO : ∀ x, -1000000000000000000 ≤ O x ∧ O x ≤ 1000000000000000000) (k t : Nat) : -3000000000000000000 ≤ wP P S O k t ∧ wP P S O k t ≤ 3000000000000000000 := by
  have h1 := sum_rng (M := 1000000000000000000) (by omega) (L := ((nrC P S k).take t).map fun z => O z.toNat) (fun z hz => by
    obtain ⟨y, _, rfl⟩ := List.mem_map.1 hz
    exact hO _)
  have h2 : (((nrC P S k).take t).map fun z => O z.toNat).length ≤ 2 := by
    have := nrC_len P S k
    rw [List.length_map, List.length_take]; omega
  have h3 := hO k
  unfold wP
  omega
def wJ (P S : List Int) (O : Nat → Int) (k : Nat) (s : Int) (x : Nat) : Int := if x < k then woF P S O x else if x = k then s else O x
theorem wJ_zero (P S : List Int) (O : Nat → Int) : O = wJ P S O 0 (O 0) := by
  funext x; unfold wJ
  by_cases h : x = 0
  · subst h; simp
  · simp [h]
theorem wJ_put (P S : List Int) (O : Nat → Int) (k : Nat) (s s' : Int) : (fun x => if x = k then s' else wJ P S O k s x) = wJ P S O k s' := by
  funext x; unfold wJ
  by_cases h : x = k
  · subst h; simp
  · simp [h]
theorem wJ_at (P S : List Int) (O : Nat → Int) (k : Nat) (s : Int) : wJ P S O k s k = s := by simp [wJ]
theorem wJ_next (P S : List Int) (O : Nat → Int) (k : Nat) : wJ P S O k (woF P S O k) = wJ P S O (k + 1) (O (k + 1)) := by
  funext x; unfold wJ
  by_cases h : x < k
  · rw [if_pos h, if_pos (by omega)]
  · rw [if_neg h]
    by_cases h2 : x = k
    · subst h2; rw [if_pos rfl, if_pos (by omega)]
    · rw [if_neg h2, if_neg (show ¬ x < k + 1 by omega)]
      by_cases h3 : x = k + 1
      · subst h3; simp
      · rw [if_neg h3]
theorem wJ_end (P S : List Int) (O : Nat → Int) (n : Nat) (s : Int) : fnL (wJ P S O n s) n = fnL (woF P S O) n := fnL_congr fun x hx => by unfold wJ; rw [if_pos hx]
theorem oF1 {P S : List Int} {O : Nat → Int} {n : Nat} (h : okAll P S n = true) (hn : 0 < n) : woF P S O 0 = O 0 := by unfold woF; rw [(nr_zero h hn).1]; simp

set_option maxRecDepth 100000 in
set_option maxHeartbeats 4000000 in
theorem weightsOfOrders_any (g n : Nat) (P S O : List Int) (vo : Value) (w : World) (h : PtsAt w g n n P S) (hg : g < w.heap.size) (hC : ClP P S n) (hO : O.length = n) (hr : ReadI w w.heap.size vo O) (hb : ∀ x : Nat, -1000000000000000000 ≤ O[x]?.getD 0 ∧ O[x]?.getD 0 ≤ 1000000000000000000) :
    Calls Try.prog 196 #[.slice (some ⟨g, 0, none⟩) n n, vo] w (LAns w (woL P S O n)) := by
  have hn := hC.hi
  have hn1 := hC.lo
  have HO := Lib.hid hC.ok
  have HBO := Lib.hid hb
  have HP := Lib.hid h
  have HRW := Lib.hid hr
  have hlo := hO
  clear h hC hb
  go_enter Try.func196, Try.ntmps196
  go_wp2_with fail
  refine (clone_any vo O w w.heap.size HRW.out (by omega) (Nat.le_refl _)).mono ?_
  rintro e w1 ⟨v1, rfl, ho1, hb1⟩
  obtain ⟨A1, c1, rfl⟩ := ho1.form hO
  have HO1 := Lib.hid ho1
  have HB1 := Lib.hid hb1
  have hz1 := hb1.size
  have HP1 : Hid (PtsAt w1 g n n P S) := Lib.hid (rowIs_below HP.out hg hb1)
  have hg1 : g < w1.heap.size := by omega
  clear ho1 hb1
  go_wp2_with fail
  refine (allProx_any g n P S w1 HP1.out hg1 HO.out hn).mono ?_
  rintro e w2 ⟨rfl, hq2, hb2⟩
  have HM2 : Hid (RowsM w2 w1.heap.size w1.heap.size n P S) := Lib.hid (hq2.mem HO.out (Nat.le_refl _))
  have HOW2 : Hid (OwnI w2 w.heap.size w1.heap.size (.slice A1 n c1) (fnL (wJ P S (fun x => O[x]?.getD 0) 0 (O[0]?.getD 0)) n)) := Lib.hid (by
    rw [← wJ_zero P S (fun x => O[x]?.getD 0), fnL_self hlo]; exact HO1.out.stay hb2)
  have HB2 : Hid (Below w.heap.size w w2) := Lib.hid (HB1.out.trans (hb2.mono hz1))
  have hz2 := hb2.size
  have HK2 : Hid (Kept w1.heap.size w2.heap.size w2 w2) := Lib.hid (Kept.refl _ _ _)
  obtain ⟨gw, ow, cw, hvw, HCW, hgw⟩ : ∃ gw ow cw, vo = .slice (some ⟨gw, ow, none⟩) n cw ∧ Hid (∀ k, k < n → w.cell? ⟨gw, ow + k, none⟩ = some (.int .i64 (O[k]?.getD 0))) ∧ gw < w.heap.size := by
    have h5 := HRW.out
    obtain ⟨Aw, cw, rfl, _⟩ := h5
    rw [hlo] at hr
    obtain ⟨g', o', rfl, H, hg'⟩ := cells_of hr hlo hn1
    rw [hlo]
    exact ⟨g', o', cw, rfl, H, hg'⟩
  subst hvw
  clear hq2 hb2 hr
  go_wp2_with fail
  go_loopw [15] (fun vi wr => ∃ (k : Nat), k ≤ n ∧ vi = .int .i64 k ∧ Hid (OwnI wr w.heap.size w1.heap.size (.slice A1 n c1) (fnL (wJ P S (fun x => O[x]?.getD 0) k (O[k]?.getD 0)) n)) ∧ Hid (Kept w1.heap.size w2.heap.size w2 wr) ∧ Hid (Below w.heap.size w wr)) (fun vi _ => n - (intOf vi).toNat)
  case atStart => exact ⟨0, by omega, rfl, HOW2, HK2, HB2⟩
  case round =>
    obtain ⟨k, hk, rfl, how, hkp, hb⟩ := hrel
    by_cases hkn : k < n
    · have hkn2 : (k : Int) < (n : Int) := by omega
      obtain ⟨A3, c3, hc30, hrow⟩ := HM2.out.row k hkn
      have hc3 := (kept_cell (o := k) hkp.out HM2.out.low HM2.out.lt).trans hc30
      have HRT := Lib.hid hrow
      have hNb := nrC_len P S k
      obtain ⟨N, hN⟩ : ∃ N, (nrC P S k).length = N := ⟨_, rfl⟩
      have HN := Lib.hid hN
      rw [hN] at hc3 HRT hNb
      have HW0 : Hid (OwnI wr w.heap.size w1.heap.size (.slice A1 n c1) (fnL (wJ P S (fun x => O[x]?.getD 0) k (wP P S (fun x => O[x]?.getD 0) k 0)) n)) := Lib.hid (by rw [wP_zero]; exact how.out)
      have HBR := Lib.hid hb.out
      have HKR := Lib.hid hkp.out
      obtain ⟨wo, rfl⟩ : ∃ wo : World, wo = wr := ⟨_, rfl⟩
      clear hN hrow how hb hkp hc30
      go_wp2_with fail
      go_loopw [22] (fun vi wr => ∃ (t : Nat), t ≤ N ∧ vi = .int .i64 t ∧ Hid (OwnI wr w.heap.size w1.heap.size (.slice A1 n c1) (fnL (wJ P S (fun x => O[x]?.getD 0) k (wP P S (fun x => O[x]?.getD 0) k t)) n)) ∧ Hid (Kept w1.heap.size w2.heap.size w2 wr) ∧ Hid (Below w.heap.size w wr)) (fun vi _ => N - (intOf vi).toNat)
      case atStart => exact ⟨0, by omega, rfl, HW0, HKR, HBR⟩
      case round =>
        obtain ⟨t, ht, rfl, how, hkp, hb⟩ := hrel
        by_cases htN : t < N
        · obtain ⟨g3, j, rfl, hlo3, hg3, hj, hjk, hcj⟩ := HRT.out t htN
          have dj := (kept_cell (o := t) hkp.out hlo3 hg3).trans hcj
          have dO := (hb.out.cell (p := ⟨gw, ow + j, none⟩) hgw).trans (HCW.out j (by omega))
          obtain ⟨d, rfl, hd1, hd2, hcd, hfd⟩ := own_at how.out (fnL_len _ _) hkn
          rw [fnL_at hkn, wJ_at] at hcd
          have hxs := wP_rng (P := P) (S := S) (O := (fun x => O[x]?.getD 0)) (fun x => HBO.out x) k t
          have hoj := HBO.out j
          have HST : Hid (wP P S (fun x => O[x]?.getD 0) k (t + 1) = wP P S (fun x => O[x]?.getD 0) k t - O[j]?.getD 0) := Lib.hid (wP_next hj)
          have hjn2 : (j : Int) < (n : Int) := by omega
          have htN2 : (t : Int) < (N : Int) := by omega
          obtain ⟨y, hy⟩ : ∃ y, wP P S (fun x => O[x]?.getD 0) k t = y := ⟨_, rfl⟩
          obtain ⟨z, hz⟩ : ∃ z, O[j]?.getD 0 = z := ⟨_, rfl⟩
          rw [hy] at hcd hxs HST how
          rw [hz] at dO HST hoj
          have HNW : Hid (OwnI (wr.drew.setCell ⟨d, k, none⟩ (.int .i64 (y - z))) w.heap.size w1.heap.size (.slice (some ⟨d, 0, none⟩) n c1) (fnL (wJ P S (fun x => O[x]?.getD 0) k (wP P S (fun x => O[x]?.getD 0) k (t + 1))) n)) := Lib.hid (by
            have h6 := own_store (w := wr.drew) (j := k) how.out (fnL_len _ n) (y - z)
            rw [fnL_put, wJ_put] at h6
            rw [HST.out]; exact h6)
          have HKW : Hid (Kept w1.heap.size w2.heap.size w2 (wr.drew.setCell ⟨d, k, none⟩ (.int .i64 (y - z)))) := Lib.hid ((hkp.out.trans (Kept.drewN _ _ wr 1)).trans (keptS wr.drew (p := ⟨d, k, none⟩) hd2 _))
          have HBW : Hid (Below w.heap.size w (wr.drew.setCell ⟨d, k, none⟩ (.int .i64 (y - z)))) := Lib.hid (hb.out.drew.setCell (p := ⟨d, k, none⟩) hd1 _)
          have p1 : IntKind.i64.wrap (y - z) = y - z := IntWalk.i64_in _ (by omega)
          clear hy hz how hj hcj
          go_wp2_with fail
          go_region
          all_goals
            go_wp2_with fail
            go_roundw
            case rel => exact ⟨t + 1, by omega, by go_num, HNW, HKW, HBW⟩
            case measure => simp [intOf]; omega
        · obtain rfl : t = N := by omega
          have htt : ¬ (t : Int) < (t : Int) := by omega
          have HWN : Hid (OwnI wr w.heap.size w1.heap.size (.slice A1 n c1) (fnL (wJ P S (fun x => O[x]?.getD 0) (k + 1) (O[k + 1]?.getD 0)) n)) := Lib.hid (by
            have h6 := how.out
            rw [wP_end HN.out, wJ_next] at h6
            exact h6)
          go_wp2_with fail
          go_roundw
          case rel => exact ⟨k + 1, by omega, by go_num, HWN, hkp, hb⟩
          case measure => simp [intOf]; omega
    · obtain rfl : k = n := by omega
      go_wp2_with fail
      go_ret
      have h6 := how.out
      rw [wJ_end] at h6
      exact LAns.of (woL_len _ _ _ _) (h6.raise (by have := hkp.out.size; omega) (Nat.le_refl _)) hb.out

set_option maxRecDepth 100000 in
set_option maxHeartbeats 4000000 in
theorem l08OfOrders_any (a b c v : Value) (P S U V : List Int) (n : Nat) (w : World) (h : ReadC w w.heap.size a b c P S U) (hv : ReadI w w.heap.size v V) (hC : ClP P S n) (hV : V.length = n) (hW : ∀ x : Nat, -1000000000000000000 ≤ V[x]?.getD 0 ∧ V[x]?.getD 0 ≤ 1000000000000000000) :
    Calls Try.prog 133 #[.agg #[a, b, c], v] w (LAns w (woL P S V n)) := by
  have hn1 := hC.lo
  have hn := hC.hi
  have HO := Lib.hid hC.ok
  have HWT := Lib.hid hW
  obtain ⟨h0, h1, h2⟩ := h
  obtain ⟨A0, c0, rfl, _, _, hc0, _, hm0⟩ := id h0
  obtain ⟨A1, c1, rfl, _, _, hc1, _, hm1⟩ := id h1
  obtain ⟨A2, c2, rfl, _⟩ := id h2
  obtain ⟨A3, c3, rfl, _, _, hc3, _, hm3⟩ := id hv
  have HV := Lib.hid hv
  have hVl := hV
  rw [hC.p] at h0 hc0 ⊢
  rw [hC.s] at h1 hc1 ⊢
  rw [hV] at hc3 ⊢
  obtain ⟨n2, hn2⟩ : ∃ x, U.length = x := ⟨_, rfl⟩
  rw [hn2]
  obtain ⟨g0, o0, rfl, H0, hg0⟩ := cells_ofC h0 hC.p hn1
  obtain ⟨g1, o1, rfl, H1, hg1⟩ := cells_ofC h1 hC.s hn1
  obtain ⟨g3, o3, rfl, H3, hg3⟩ := cells_ofC (by rw [hV] at hv; exact hv) hV hn1
  have HX : Hid (CBox (w.alloc (.cells #[.slice (some ⟨g0, o0, none⟩) n c0, .slice (some ⟨g1, o1, none⟩) n c1, .slice A2 n2 c2] 36)) w.heap.size (.slice (some ⟨g0, o0, none⟩) n c0) (.slice (some ⟨g1, o1, none⟩) n c1) (.slice A2 n2 c2)) := Lib.hid (CBox.new _ _ _ _ _)
  have HB0 : Hid (Below w.heap.size w (w.alloc (.cells #[.slice (some ⟨g0, o0, none⟩) n c0, .slice (some ⟨g1, o1, none⟩) n c1, .slice A2 n2 c2] 36))) := Lib.hid (below_box2 _ _)
  have HZ0 : Hid ((w.alloc (.cells #[.slice (some ⟨g0, o0, none⟩) n c0, .slice (some ⟨g1, o1, none⟩) n c1, .slice A2 n2 c2] 36)).heap.size = w.heap.size + 1) := Lib.hid (by simp)
  rw [hV] at HV
  clear h0 h1 h2 hv hC hW hn2 hV
  go_enter Try.func133, Try.ntmps133
  go_wp2_with fail
  generalize (w.alloc (.cells #[.slice (some ⟨g0, o0, none⟩) n c0, .slice (some ⟨g1, o1, none⟩) n c1, .slice A2 n2 c2] 36)) = W0 at *
  have hz0 := HZ0.out
  refine (l01Own_any _ V W0 w.heap.size (HV.out.below HB0.out) (by omega) (by omega)).mono ?_
  rintro e w1 ⟨v1, rfl, ho1, hb1⟩
  obtain ⟨A4, c4, rfl⟩ := ho1.form hVl
  have HW1 : Hid (OwnI w1 W0.heap.size w1.heap.size (.slice A4 n c4) (fnL (wJ P S (fun x => V[x]?.getD 0) 1 (V[1]?.getD 0)) n)) := Lib.hid (by
    rw [← wJ_next P S (fun x => V[x]?.getD 0) 0, oF1 HO.out (by omega), ← wJ_zero P S (fun x => V[x]?.getD 0), fnL_self hVl]; exact ho1)
  have HB1 := Lib.hid hb1
  have hsz0 : w.heap.size + 1 ≤ W0.heap.size := by omega
  clear ho1 hb1 HZ0 hz0
  go_wp2_with fail
  go_loopw [6] (fun vi wr => ∃ (k : Nat), (1 ≤ k ∧ k ≤ n) ∧ vi = .int .i64 k ∧ Hid (OwnI wr W0.heap.size w1.heap.size (.slice A4 n c4) (fnL (wJ P S (fun x => V[x]?.getD 0) k (V[k]?.getD 0)) n)) ∧ Hid (Below W0.heap.size W0 wr)) (fun vi _ => n - (intOf vi).toNat)
  case atStart => exact ⟨1, by omega, rfl, HW1, HB1⟩
  case round =>
    obtain ⟨k, hk, rfl, how, hb⟩ := hrel
    by_cases hkn : k < n
    · have hkn2 : (k : Int) < (n : Int) := by omega
      have HBW : Hid (Below w.heap.size w wr) := Lib.hid (HB0.out.trans (hb.out.mono HB0.out.size))
      have hX := HX.out.below hb.out
      have x0 := hX.c0; have x1 := hX.c1; have hxl := hX.lt
      have d0 := (HBW.out.cell (p := ⟨g0, o0 + k, none⟩) hg0).trans (H0.out k hkn)
      have d1 := (HBW.out.cell (p := ⟨g1, o1 + k, none⟩) hg1).trans (H1.out k hkn)
      obtain ⟨p, hp, hpk, hs⟩ := nr_lt HO.out k hkn (by omega)
      have dp := (HBW.out.cell (p := ⟨g3, o3 + p, none⟩) hg3).trans (H3.out p (by omega))
      have hsc := sec_lt HO.out hkn
      rw [hp] at d0
      have hvk := HWT.out k
      have hvp := HWT.out p
      obtain ⟨y, hy⟩ : ∃ y, V[k]?.getD 0 = y := ⟨_, rfl⟩
      have HY := Lib.hid hy
      obtain ⟨z, hz⟩ : ∃ z, V[p]?.getD 0 = z := ⟨_, rfl⟩
      have HZ := Lib.hid hz
      rw [hy] at how hvk
      rw [hz] at dp hvp
      obtain ⟨d, rfl, hd1, hd2, hcd, hfd⟩ := own_at how.out (fnL_len _ _) hkn
      rw [fnL_at hkn, wJ_at] at hcd
      have hpn2 : (p : Int) < (n : Int) := by omega
      have p1 : IntKind.i64.wrap (y - z) = y - z := IntWalk.i64_in _ (by omega)
      have HNW : Hid (OwnI ((wr.setCell ⟨d, k, none⟩ (.int .i64 (y - z))).drew) W0.heap.size w1.heap.size (.slice (some ⟨d, 0, none⟩) n c4) (fnL (wJ P S (fun x => V[x]?.getD 0) k (y - z)) n)) := Lib.hid (by
        have h6 := own_store (w := wr) (j := k) how.out (fnL_len _ n) (y - z)
        rw [fnL_put, wJ_put] at h6
        exact h6)
      have HBN : Hid (Below W0.heap.size W0 ((wr.setCell ⟨d, k, none⟩ (.int .i64 (y - z))).drew)) := Lib.hid ((hb.out.setCell (p := ⟨d, k, none⟩) hd1 _).drew)
      have hgd0 : d ≠ g0 := by omega
      have hgd1 : d ≠ g1 := by omega
      have hgd3 : d ≠ g3 := by omega
      have hxd : w.heap.size ≠ d := by omega
      obtain ⟨wo, rfl⟩ : ∃ wo : World, wo = wr := ⟨_, rfl⟩
      clear hy hz hX how
      rcases hsc with hs1 | ⟨_, p', s, hp', _, hs1, hsp, hnr⟩
      · have HNR : Hid (wJ P S (fun x => V[x]?.getD 0) k (y - z) = wJ P S (fun x => V[x]?.getD 0) (k + 1) (V[k + 1]?.getD 0)) := Lib.hid (by
          rw [← wJ_next]
          rcases hs with ⟨_, h7⟩ | ⟨s, h7, _⟩
          · congr 1
            unfold woF
            rw [h7]
            simp [HY.out, HZ.out]
          · omega)
        rw [hs1] at d1
        clear hs hs1 hp
        go_wp2_with fail
        go_still_tail 16, (by kernel_rfl)
        go_wp2_with fail
        go_roundw
        case rel => exact ⟨k + 1, by omega, by go_num, Lib.hid (by rw [← HNR.out]; exact HNW.out), HBN⟩
        case measure => simp [intOf]; omega
      · obtain ⟨z2, hz2⟩ : ∃ z, V[s]?.getD 0 = z := ⟨_, rfl⟩
        have HNR : Hid (wJ P S (fun x => V[x]?.getD 0) k (y - z - z2) = wJ P S (fun x => V[x]?.getD 0) (k + 1) (V[k + 1]?.getD 0)) := Lib.hid (by
          rw [← wJ_next]
          congr 1
          have e : p' = p := by omega
          subst e
          unfold woF
          rw [hnr]
          simp [HY.out, HZ.out, hz2]; omega)
        have HS1 := Lib.hid hs1
        have hvs := HWT.out s
        rw [hz2] at hvs
        have HZ2 := Lib.hid hz2
        rw [hs1] at d1
        have hsk : s < k := by omega
        have hsn2 : (s : Int) < (n : Int) := by omega
        have hs0 : (0 : Int) ≤ (s : Int) := by omega
        have HSP : Hid (s < n) := Lib.hid (by omega)
        clear hs hs1 hp hp' hz2
        go_wp2_with fail
        go_still_tail 16, (by kernel_rfl)
        · go_wp2_with fail
          generalize (wo.setCell ⟨d, k, none⟩ (.int .i64 (y - z))).drew = W3 at *
          have HBW3 : Hid (Below w.heap.size w W3) := Lib.hid (HB0.out.trans (HBN.out.mono HB0.out.size))
          have hX3 := HX.out.below HBN.out
          have x13 := hX3.c1; have hxl3 := hX3.lt
          have d13 := (HBW3.out.cell (p := ⟨g1, o1 + k, none⟩) hg1).trans (H1.out k hkn)
          have d33 := (HBW3.out.cell (p := ⟨g3, o3 + s, none⟩) hg3).trans (H3.out s HSP.out)
          rw [HS1.out] at d13
          rw [HZ2.out] at d33
          obtain ⟨d', e', _, _, hcd3, hfd3⟩ := own_at HNW.out (fnL_len _ _) hkn
          simp only [Option.some.injEq, Addr.mk.injEq, and_true] at e'
          subst e'
          rw [fnL_at hkn, wJ_at] at hcd3
          have p2 : IntKind.i64.wrap (y - z - z2) = y - z - z2 := IntWalk.i64_in _ (by omega)
          have HNW2 : Hid (OwnI ((W3.setCell ⟨d, k, none⟩ (.int .i64 (y - z - z2))).drew) W0.heap.size w1.heap.size (.slice (some ⟨d, 0, none⟩) n c4) (fnL (wJ P S (fun x => V[x]?.getD 0) k (y - z - z2)) n)) := Lib.hid (by
            have h6 := own_store (w := W3) (j := k) HNW.out (fnL_len _ n) (y - z - z2)
            rw [fnL_put, wJ_put] at h6
            exact h6)
          have HBN2 : Hid (Below W0.heap.size W0 ((W3.setCell ⟨d, k, none⟩ (.int .i64 (y - z - z2))).drew)) := Lib.hid ((HBN.out.setCell (p := ⟨d, k, none⟩) hd1 _).drew)
          clear hX3 x0 x1 d0 d1 dp hcd hfd
          go_still_tail 16, (by kernel_rfl)
          · go_wp2_with fail
            go_roundw
            case rel => exact ⟨k + 1, by omega, by go_num, Lib.hid (by rw [← HNR.out]; exact HNW2.out), HBN2⟩
            case measure => simp [intOf]; omega
    · obtain rfl : k = n := by omega
      go_wp2_with fail
      go_ret
      have h6 := how.out
      rw [wJ_end] at h6
      exact LAns.of (woL_len _ _ _ _) (own_less (h6.raise (by have := hb.out.size; have := own_size h6; omega) (Nat.le_refl _)) HB0.out.size) (HB0.out.trans (hb.out.mono HB0.out.size))

set_option maxRecDepth 100000 in
set_option maxHeartbeats 2000000 in
theorem l06Ones_any (k : Nat) (w : World) (hk : k ≤ 1000) :
    Calls Try.prog 132 #[.int .i64 k] w fun e w' => ∃ A c, e = .returned (.slice A k c) ∧ OwnI w' w.heap.size w'.heap.size (.slice A k c) (List.replicate k 1) ∧ Below w.heap.size w w' := by
  have HOW0 : Hid (OwnI (w.alloc (.cells #[] 2)) w.heap.size (w.alloc (.cells #[] 2)).heap.size (.slice (some ⟨w.heap.size, 0, none⟩) 0 0) (List.replicate 0 1)) := Lib.hid (OwnI.mk' (n := 0) (World.ownsRow_lit w #[] 0 (Nat.le_refl _) (by simp [maxLen]) rfl))
  have HB0 : Hid (Below w.heap.size w (w.alloc (.cells #[] 2))) := Lib.hid (below_box2 _ _)
  obtain ⟨i0, hi0, hz0, hz1, hz2⟩ := info_parts int_info
  go_enter Try.func132, Try.ntmps132
  go_wp2
  go_loopw [0, 3] (fun vk vo wr => ∃ (t : Nat) (A : Option Addr) (c' : Nat), t ≤ k ∧ vo = .slice A t c' ∧ vk = .int .i64 ((k : Int) - (t : Int)) ∧ Hid (OwnI wr w.heap.size wr.heap.size (.slice A t c') (List.replicate t 1)) ∧ Hid (Below w.heap.size w wr)) (fun vk _ _ => (intOf vk).toNat)
  case atStart => exact ⟨0, _, _, by omega, rfl, by simp, HOW0, HB0⟩
  case round =>
    obtain ⟨t, A, c', ht, rfl, rfl, how, hb⟩ := hrel
    by_cases htk : t < k
    · have hq1 : (0 : Int) < (k : Int) - (t : Int) := by omega
      have hw1 : IntKind.i64.wrap ((k : Int) - (t : Int) - 1) = (k : Int) - ((t + 1 : Nat) : Int) := by rw [IntWalk.i64_in _ (by omega)]; omega
      have HW := Lib.hid hw1
      obtain ⟨X, HXe⟩ : ∃ X, X = (List.replicate t 1).map (Value.int .i64) := ⟨_, rfl⟩
      have hown := how.out.1
      rw [List.length_replicate, ← HXe] at hown
      have HOW : Hid (Own wr w.heap.size (.slice A t c') t X) := Lib.hid hown
      have HXE := Lib.hid HXe
      have hbs3 := hb.out.size
      clear hown HXe hw1
      go_wp2_with (at_builtin; (refine wpList_append_own _ rfl _ _ 22 rfl w.heap.size 2 i0 (.int .i64 0) 1 8 Try.underlying22 hi0 hz0 hz1 hz2 rfl (by decide) _ t X rfl (World.ownsRow.alloc HOW.out _) ⟨wr.heap.size, 0, none⟩ 1 1 [.int .i64 1] rfl rfl (World.news_of_block (cs := #[.int .i64 1]) (t := 2) (fr := (0, 0)) (heap_alloc_new wr _)) (by simp [Value.oneCell']) (by simp only [maxLen]; omega) (by omega) (by simp; omega) ?_; intro v1 w4 hown1 hgrow _; obtain ⟨A4, c4, rfl⟩ := own_form hown1; have HO4 := Lib.hid hown1; have HB4 := Lib.hid ((hb.out.alloc hbs3 _).grown hgrow (by simp; omega) (fun kk hkk => (World.ownsRow.lt HOW.out kk hkk).1)); clear hown1 hgrow))
      go_roundw
      case rel => exact ⟨t + 1, A4, c4, by omega, rfl, vintS (by omega), Lib.hid (by
        have e : List.replicate (t + 1) (1 : Int) = List.replicate t 1 ++ [1] := List.replicate_succ'
        rw [e]; exact OwnI.mk' (n := t + 1) (by rw [List.map_append, ← HXE.out]; exact HO4.out)), HB4⟩
      case measure => simp [intOf]; omega
    · obtain rfl : t = k := by omega
      go_wp2
      go_ret
      exact ⟨A, c', rfl, how.out, hb.out⟩

end Go.Proofs.Ytohbgfmjnanlkaa
