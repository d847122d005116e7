/- Clusters, the program's: excesses, orders, the least number of a list: contracts. Conditions: stated at each theorem. -/
import Derived.Test.YtohbgfmjnanlkaaClR
namespace Go.Proofs.Ytohbgfmjnanlkaa
open Go.ChangeShapes Go.WideShapes Go.ChangeAt Go.RowKit Go.Deep
set_option linter.unusedVariables false
set_option linter.unusedSimpArgs false

theorem LAns.of {w w' : World} {L : List Int} {A : Option Addr} {n c : Nat} (hl : L.length = n) (h : OwnI w' w.heap.size w'.heap.size (.slice A n c) L) (hb : Below w.heap.size w w') : LAns w L (.returned (.slice A n c)) w' := by
  subst hl; exact ⟨A, c, rfl, h, hb⟩
theorem kept_cell {lo hi b o : Nat} {w w' : World} (k : Kept lo hi w w') (h1 : lo ≤ b) (h2 : b < hi) : w'.cell? ⟨b, o, none⟩ = w.cell? ⟨b, o, none⟩ := by
  have := k.block b h1 h2; simp [World.cell?, this]
theorem wt_rng {W : List Int} (h : wtOK W = true) (i : Nat) : -100000 ≤ W[i]?.getD 0 ∧ W[i]?.getD 0 ≤ 100000 := wtOK_at h
theorem ex_rng {P S W : List Int} (h : wtOK W = true) {k : Nat} (hk : k ≤ 24) (x : Nat) : -4900000 ≤ exN P S (fun x => W[x]?.getD 0) k x ∧ exN P S (fun x => W[x]?.getD 0) k x ≤ 4900000 := by
  have := exN_le P S (W := fun x => W[x]?.getD 0) (M := 100000) (by omega) (fun x => wt_rng h x) k x
  omega
theorem exS_rng {P S W : List Int} (h : wtOK W = true) {k : Nat} (hk : k ≤ 24) (t x : Nat) : -5200000 ≤ stQ (exN P S (fun x => W[x]?.getD 0) k) ((nrC P S k).take t) (-(W[k]?.getD 0)) x ∧ stQ (exN P S (fun x => W[x]?.getD 0) k) ((nrC P S k).take t) (-(W[k]?.getD 0)) x ≤ 5200000 := by
  have h1 := stQ_le (L := (nrC P S k).take t) (F := exN P S (fun x => W[x]?.getD 0) k) (M := 4900000) (D := 100000) (d := -(W[k]?.getD 0)) (fun x => ex_rng h hk x) (by have := wt_rng h k; omega) x
  have h2 := nrC_len P S k
  have h3 : ((nrC P S k).take t).length ≤ 2 := by rw [List.length_take]; omega
  omega

set_option maxRecDepth 100000 in
set_option maxHeartbeats 4000000 in
theorem excessesOf_any (g n : Nat) (P S W : List Int) (vw : Value) (w : World) (h : PtsAt w g n n P S) (hg : g < w.heap.size) (hOK : ClOK P S W n) (hr : ReadI w w.heap.size vw W) :
    Calls Try.prog 194 #[.slice (some ⟨g, 0, none⟩) n n, vw] w (LAns w (ecL P S W n)) := by
  have hn := hOK.hi
  have hn1 := hOK.lo
  have HO := Lib.hid hOK.ok
  have HWT := Lib.hid hOK.wt
  have hw := hOK.w
  have HP := Lib.hid h
  have HRW := Lib.hid hr
  clear h hOK
  go_enter Try.func194, Try.ntmps194
  go_wp2_with fail
  refine (clone_any vw W w w.heap.size HRW.out (by omega) (Nat.le_refl _)).mono ?_
  rintro e w1 ⟨v1, rfl, ho1, hb1⟩
  obtain ⟨A1, c1, rfl⟩ := ho1.form hw
  have HO1 := Lib.hid ho1
  have HB1 := Lib.hid hb1
  have hz1 := hb1.size
  have HP1 : Hid (PtsAt w1 g n n P S) := Lib.hid (rowIs_below HP.out hg hb1)
  have hg1 : g < w1.heap.size := by omega
  clear ho1 hb1
  go_wp2_with fail
  refine (allProx_any g n P S w1 HP1.out hg1 HO.out hn).mono ?_
  rintro e w2 ⟨rfl, hq2, hb2⟩
  have HM2 : Hid (RowsM w2 w1.heap.size w1.heap.size n P S) := Lib.hid (hq2.mem HO.out (Nat.le_refl _))
  have HOW2 : Hid (OwnI w2 w.heap.size w1.heap.size (.slice A1 n c1) (fnL (exN P S (fun x => W[x]?.getD 0) 0) n)) := Lib.hid (by
    rw [show exN P S (fun x => W[x]?.getD 0) 0 = fun x => W[x]?.getD 0 from rfl, fnL_self hw]; exact HO1.out.stay hb2)
  have HB2 : Hid (Below w.heap.size w w2) := Lib.hid (HB1.out.trans (hb2.mono hz1))
  have hz2 := hb2.size
  have HK2 : Hid (Kept w1.heap.size w2.heap.size w2 w2) := Lib.hid (Kept.refl _ _ _)
  obtain ⟨gw, ow, cw, hvw, HCW, hgw⟩ : ∃ gw ow cw, vw = .slice (some ⟨gw, ow, none⟩) n cw ∧ Hid (∀ k, k < n → w.cell? ⟨gw, ow + k, none⟩ = some (.int .i64 (W[k]?.getD 0))) ∧ gw < w.heap.size := by
    have h5 := HRW.out
    obtain ⟨Aw, cw, rfl, _⟩ := h5
    rw [hw] at hr
    obtain ⟨g', o', rfl, H, hg'⟩ := cells_of hr hw hn1
    rw [hw]
    exact ⟨g', o', cw, rfl, H, hg'⟩
  subst hvw
  clear hq2 hb2 hr
  go_wp2_with fail
  go_loopw [15] (fun vi wr => ∃ (k : Nat), k ≤ n ∧ vi = .int .i64 k ∧ Hid (OwnI wr w.heap.size w1.heap.size (.slice A1 n c1) (fnL (exN P S (fun x => W[x]?.getD 0) k) n)) ∧ Hid (Kept w1.heap.size w2.heap.size w2 wr) ∧ Hid (Below w.heap.size w wr)) (fun vi _ => n - (intOf vi).toNat)
  case atStart => exact ⟨0, by omega, rfl, HOW2, HK2, HB2⟩
  case round =>
    obtain ⟨k, hk, rfl, how, hkp, hb⟩ := hrel
    by_cases hkn : k < n
    · have hkn2 : (k : Int) < (n : Int) := by omega
      obtain ⟨A3, c3, hc30, hrow⟩ := HM2.out.row k hkn
      have hc3 := (kept_cell (o := k) hkp.out HM2.out.low HM2.out.lt).trans hc30
      have HRT := Lib.hid hrow
      have hNb := nrC_len P S k
      obtain ⟨N, hN⟩ : ∃ N, (nrC P S k).length = N := ⟨_, rfl⟩
      have HN := Lib.hid hN
      rw [hN] at hc3 HRT hNb
      have dW : wr.cell? ⟨gw, ow + k, none⟩ = some (.int .i64 (W[k]?.getD 0)) := by rw [hb.out.cell (p := ⟨gw, ow + k, none⟩) hgw]; exact HCW.out k hkn
      have HW0 : Hid (OwnI wr w.heap.size w1.heap.size (.slice A1 n c1) (fnL (stQ (exN P S (fun x => W[x]?.getD 0) k) ((nrC P S k).take 0) (-(W[k]?.getD 0))) n)) := Lib.hid (by rw [List.take_zero, stQ_nil]; exact how.out)
      have hwk := wt_rng HWT.out k
      have HBR := Lib.hid hb.out
      have HKR := Lib.hid hkp.out
      obtain ⟨wo, rfl⟩ : ∃ wo : World, wo = wr := ⟨_, rfl⟩
      clear hN hrow how hb hkp hc30
      go_wp2_with fail
      go_loopw [22] (fun vi wr => ∃ (t : Nat), t ≤ N ∧ vi = .int .i64 t ∧ Hid (OwnI wr w.heap.size w1.heap.size (.slice A1 n c1) (fnL (stQ (exN P S (fun x => W[x]?.getD 0) k) ((nrC P S k).take t) (-(W[k]?.getD 0))) n)) ∧ Hid (Kept w1.heap.size w2.heap.size w2 wr) ∧ Hid (Below w.heap.size w wr)) (fun vi _ => N - (intOf vi).toNat)
      case atStart => exact ⟨0, by omega, rfl, HW0, HKR, HBR⟩
      case round =>
        obtain ⟨t, ht, rfl, how, hkp, hb⟩ := hrel
        have dWr : wr.cell? ⟨gw, ow + k, none⟩ = some (.int .i64 (W[k]?.getD 0)) := by rw [hb.out.cell (p := ⟨gw, ow + k, none⟩) hgw]; exact HCW.out k hkn
        by_cases htN : t < N
        · obtain ⟨g3, j, rfl, hlo3, hg3, hj, hjk, hcj⟩ := HRT.out t htN
          have dj := (kept_cell (o := t) hkp.out hlo3 hg3).trans hcj
          obtain ⟨d, rfl, hd1, hd2, hcd, hfd⟩ := own_at how.out (fnL_len _ _) (show j < n by omega)
          rw [fnL_at (show j < n by omega)] at hcd
          have hxs := exS_rng (P := P) (S := S) HWT.out (show k ≤ 24 by omega) t j
          have HST : Hid (stQ (exN P S (fun x => W[x]?.getD 0) k) ((nrC P S k).take (t + 1)) (-(W[k]?.getD 0)) = updF (stQ (exN P S (fun x => W[x]?.getD 0) k) ((nrC P S k).take t) (-(W[k]?.getD 0))) j (-(W[k]?.getD 0))) := Lib.hid (stQ_take hj)
          have hjn2 : (j : Int) < (n : Int) := by omega
          have htN2 : (t : Int) < (N : Int) := by omega
          obtain ⟨X, hX⟩ : ∃ X, stQ (exN P S (fun x => W[x]?.getD 0) k) ((nrC P S k).take t) (-(W[k]?.getD 0)) = X := ⟨_, rfl⟩
          have HXE := Lib.hid hX
          rw [hX] at hcd hxs HST how
          obtain ⟨y, hy⟩ : ∃ y, X j = y := ⟨_, rfl⟩
          obtain ⟨z, hz⟩ : ∃ z, W[k]?.getD 0 = z := ⟨_, rfl⟩
          rw [hy] at hcd hxs
          have HZ := Lib.hid hz
          rw [hz] at dWr HST hwk
          have HNW : Hid (OwnI (wr.drew.setCell ⟨d, j, none⟩ (.int .i64 (y - z))) w.heap.size w1.heap.size (.slice (some ⟨d, 0, none⟩) n c1) (fnL (updF X j (-z)) n)) := Lib.hid (by
            have h6 := own_store (w := wr.drew) (j := j) how.out (fnL_len X n) (y - z)
            rw [show y - z = X j + -z by rw [hy]; omega] at h6 ⊢
            rw [fnL_set (-z) (by omega)] at h6
            exact h6)
          have HKW : Hid (Kept w1.heap.size w2.heap.size w2 (wr.drew.setCell ⟨d, j, none⟩ (.int .i64 (y - z)))) := Lib.hid ((hkp.out.trans (Kept.drewN _ _ wr 1)).trans (keptS wr.drew (p := ⟨d, j, none⟩) hd2 _))
          have HBW : Hid (Below w.heap.size w (wr.drew.setCell ⟨d, j, none⟩ (.int .i64 (y - z)))) := Lib.hid (hb.out.drew.setCell (p := ⟨d, j, none⟩) hd1 _)
          have p1 : IntKind.i64.wrap (y - z) = y - z := IntWalk.i64_in _ (by omega)
          clear hX hy hz how hj hcj
          go_wp2_with fail
          go_region
          all_goals
            go_wp2_with fail
            go_roundw
            case rel => exact ⟨t + 1, by omega, by go_num, Lib.hid (by rw [HZ.out, HST.out]; exact HNW.out), HKW, HBW⟩
            case measure => simp [intOf]; omega
        · obtain rfl : t = N := by omega
          have htt : ¬ (t : Int) < (t : Int) := by omega
          have HWN : Hid (OwnI wr w.heap.size w1.heap.size (.slice A1 n c1) (fnL (exN P S (fun x => W[x]?.getD 0) (k + 1)) n)) := Lib.hid (by
            have h6 := how.out
            rw [List.take_of_length_le (by rw [HN.out]; exact Nat.le_refl _)] at h6
            exact h6)
          go_wp2_with fail
          go_roundw
          case rel => exact ⟨k + 1, by omega, by go_num, HWN, hkp, hb⟩
          case measure => simp [intOf]; omega
    · obtain rfl : k = n := by omega
      go_wp2_with fail
      go_ret
      exact LAns.of (ecL_len _ _ _ _) ((how.out.raise (by have := hkp.out.size; omega) (Nat.le_refl _))) hb.out

end Go.Proofs.Ytohbgfmjnanlkaa
