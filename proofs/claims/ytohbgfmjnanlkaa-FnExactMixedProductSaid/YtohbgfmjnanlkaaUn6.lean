/- Unloading, the program's: memory, update. Conditions: stated at each theorem. -/
import Derived.Test.YtohbgfmjnanlkaaUn1
namespace Go.Proofs.Ytohbgfmjnanlkaa
open Go.ChangeShapes Go.WideShapes Go.ChangeAt Go.RowKit Go.Deep
set_option linter.unusedVariables false
set_option linter.unusedSimpArgs false

/-- The box of an unloading: its seven cells. -/
structure UBx (w : World) (b : Nat) (v0 v1 v2 v3 v4 v5 v6 : Value) : Prop where
  c0 : w.cell? ⟨b, 0, none⟩ = some v0
  c1 : w.cell? ⟨b, 1, none⟩ = some v1
  c2 : w.cell? ⟨b, 2, none⟩ = some v2
  c3 : w.cell? ⟨b, 3, none⟩ = some v3
  c4 : w.cell? ⟨b, 4, none⟩ = some v4
  c5 : w.cell? ⟨b, 5, none⟩ = some v5
  c6 : w.cell? ⟨b, 6, none⟩ = some v6
  f : ∀ i, w.frozen? ⟨b, i, none⟩ = false
  lt : b < w.heap.size
theorem UBx.of_block {w w' : World} {b : Nat} {v0 v1 v2 v3 v4 v5 v6 : Value} (h : UBx w b v0 v1 v2 v3 v4 v5 v6) (e : w'.heap[b]? = w.heap[b]?) (hs : w.heap.size ≤ w'.heap.size) : UBx w' b v0 v1 v2 v3 v4 v5 v6 := by
  have hc : ∀ i, w'.cell? ⟨b, i, none⟩ = w.cell? ⟨b, i, none⟩ := fun i => by simp [World.cell?, e]
  have hf : ∀ i, w'.frozen? ⟨b, i, none⟩ = w.frozen? ⟨b, i, none⟩ := fun i => by simp [World.frozen?, e]
  exact ⟨(hc 0).trans h.c0, (hc 1).trans h.c1, (hc 2).trans h.c2, (hc 3).trans h.c3, (hc 4).trans h.c4, (hc 5).trans h.c5, (hc 6).trans h.c6, fun i => (hf i).trans (h.f i), Nat.lt_of_lt_of_le h.lt hs⟩
theorem UBx.below {w w' : World} {b : Nat} {v0 v1 v2 v3 v4 v5 v6 : Value} (h : UBx w b v0 v1 v2 v3 v4 v5 v6) (hb : Below w.heap.size w w') : UBx w' b v0 v1 v2 v3 v4 v5 v6 := h.of_block (hb.block b h.lt) hb.size
theorem UBx.new (w : World) (v0 v1 v2 v3 v4 v5 v6 : Value) (T : TypeId) : UBx (w.alloc (.cells #[v0, v1, v2, v3, v4, v5, v6] T)) w.heap.size v0 v1 v2 v3 v4 v5 v6 :=
  ⟨by go_simp, by go_simp, by go_simp, by go_simp, by go_simp, by go_simp, by go_simp, fun i => by go_simp, by simp⟩
theorem cell_set_same {w : World} {a : Addr} {u v : Value} (h : w.cell? a = some u) : (w.setCell a v).cell? a = some v := by
  go_simp
theorem cell_set_off {w : World} {b i j : Nat} {v : Value} (h : i ≠ j) : (w.setCell ⟨b, i, none⟩ v).cell? ⟨b, j, none⟩ = w.cell? ⟨b, j, none⟩ := by
  go_simp
theorem frozen_set (w : World) (a : Addr) (v : Value) (b i : Nat) : (w.setCell a v).frozen? ⟨b, i, none⟩ = w.frozen? ⟨b, i, none⟩ := by go_simp
theorem UBx.set1 {w : World} {b : Nat} {v0 v1 v2 v3 v4 v5 v6 : Value} (h : UBx w b v0 v1 v2 v3 v4 v5 v6) (v : Value) : UBx (w.setCell ⟨b, 1, none⟩ v) b v0 v v2 v3 v4 v5 v6 :=
  ⟨(cell_set_off (by decide)).trans h.c0, cell_set_same h.c1, (cell_set_off (by decide)).trans h.c2, (cell_set_off (by decide)).trans h.c3, (cell_set_off (by decide)).trans h.c4, (cell_set_off (by decide)).trans h.c5, (cell_set_off (by decide)).trans h.c6, fun i => (frozen_set _ _ _ _ _).trans (h.f i), by rw [size_set]; exact h.lt⟩
theorem UBx.set4 {w : World} {b : Nat} {v0 v1 v2 v3 v4 v5 v6 : Value} (h : UBx w b v0 v1 v2 v3 v4 v5 v6) (v : Value) : UBx (w.setCell ⟨b, 4, none⟩ v) b v0 v1 v2 v3 v v5 v6 :=
  ⟨(cell_set_off (by decide)).trans h.c0, (cell_set_off (by decide)).trans h.c1, (cell_set_off (by decide)).trans h.c2, (cell_set_off (by decide)).trans h.c3, cell_set_same h.c4, (cell_set_off (by decide)).trans h.c5, (cell_set_off (by decide)).trans h.c6, fun i => (frozen_set _ _ _ _ _).trans (h.f i), by rw [size_set]; exact h.lt⟩
theorem UBx.set5 {w : World} {b : Nat} {v0 v1 v2 v3 v4 v5 v6 : Value} (h : UBx w b v0 v1 v2 v3 v4 v5 v6) (v : Value) : UBx (w.setCell ⟨b, 5, none⟩ v) b v0 v1 v2 v3 v4 v v6 :=
  ⟨(cell_set_off (by decide)).trans h.c0, (cell_set_off (by decide)).trans h.c1, (cell_set_off (by decide)).trans h.c2, (cell_set_off (by decide)).trans h.c3, (cell_set_off (by decide)).trans h.c4, cell_set_same h.c5, (cell_set_off (by decide)).trans h.c6, fun i => (frozen_set _ _ _ _ _).trans (h.f i), by rw [size_set]; exact h.lt⟩
/-- Weights of which the excesses are still within the bounds. -/
def BW (W : List Int) : Prop := ∀ x : Nat, -170000000000000000 ≤ W[x]?.getD 0 ∧ W[x]?.getD 0 ≤ 170000000000000000
theorem exB_rng {P S W : List Int} (h : BW W) {k : Nat} (hk : k ≤ 24) (x : Nat) : -8400000000000000000 ≤ exN P S (fun x => W[x]?.getD 0) k x ∧ exN P S (fun x => W[x]?.getD 0) k x ≤ 8400000000000000000 := by
  have := exN_le P S (W := fun x => W[x]?.getD 0) (M := 170000000000000000) (by omega) (fun x => h x) k x
  omega
theorem exSB_rng {P S W : List Int} (h : BW W) {k : Nat} (hk : k ≤ 24) (t x : Nat) : -9000000000000000000 ≤ stQ (exN P S (fun x => W[x]?.getD 0) k) ((nrC P S k).take t) (-(W[k]?.getD 0)) x ∧ stQ (exN P S (fun x => W[x]?.getD 0) k) ((nrC P S k).take t) (-(W[k]?.getD 0)) x ≤ 9000000000000000000 := by
  have h1 := stQ_le (L := (nrC P S k).take t) (F := exN P S (fun x => W[x]?.getD 0) k) (M := 8400000000000000000) (D := 170000000000000000) (d := -(W[k]?.getD 0)) (fun x => exB_rng h hk x) (by have := h k; omega) x
  have h2 := nrC_len P S k
  have h3 : ((nrC P S k).take t).length ≤ 2 := by rw [List.length_take]; omega
  omega

set_option maxRecDepth 100000 in
set_option maxHeartbeats 4000000 in
theorem excessesB_any (g n : Nat) (P S W : List Int) (vw : Value) (w : World) (h : PtsAt w g n n P S) (hg : g < w.heap.size) (hC : ClP P S n) (hWn : W.length = n) (hBW : BW W) (hr : ReadI w w.heap.size vw W) :
    Calls Try.prog 194 #[.slice (some ⟨g, 0, none⟩) n n, vw] w (LAns w (ecL P S W n)) := by
  have hn := hC.hi
  have hn1 := hC.lo
  have HO := Lib.hid hC.ok
  have HWT := Lib.hid hBW
  have hw := hWn
  have HP := Lib.hid h
  have HRW := Lib.hid hr
  clear h hC hBW
  go_enter Try.func194, Try.ntmps194
  go_wp2_with fail
  refine (clone_any vw W w w.heap.size HRW.out (by omega) (Nat.le_refl _)).mono ?_
  rintro e w1 ⟨v1, rfl, ho1, hb1⟩
  obtain ⟨A1, c1, rfl⟩ := ho1.form hw
  have HO1 := Lib.hid ho1
  have HB1 := Lib.hid hb1
  have hz1 := hb1.size
  have HP1 : Hid (PtsAt w1 g n n P S) := Lib.hid (rowIs_below HP.out hg hb1)
  have hg1 : g < w1.heap.size := by omega
  clear ho1 hb1
  go_wp2_with fail
  refine (allProx_any g n P S w1 HP1.out hg1 HO.out hn).mono ?_
  rintro e w2 ⟨rfl, hq2, hb2⟩
  have HM2 : Hid (RowsM w2 w1.heap.size w1.heap.size n P S) := Lib.hid (hq2.mem HO.out (Nat.le_refl _))
  have HOW2 : Hid (OwnI w2 w.heap.size w1.heap.size (.slice A1 n c1) (fnL (exN P S (fun x => W[x]?.getD 0) 0) n)) := Lib.hid (by
    rw [show exN P S (fun x => W[x]?.getD 0) 0 = fun x => W[x]?.getD 0 from rfl, fnL_self hw]; exact HO1.out.stay hb2)
  have HB2 : Hid (Below w.heap.size w w2) := Lib.hid (HB1.out.trans (hb2.mono hz1))
  have hz2 := hb2.size
  have HK2 : Hid (Kept w1.heap.size w2.heap.size w2 w2) := Lib.hid (Kept.refl _ _ _)
  obtain ⟨gw, ow, cw, hvw, HCW, hgw⟩ : ∃ gw ow cw, vw = .slice (some ⟨gw, ow, none⟩) n cw ∧ Hid (∀ k, k < n → w.cell? ⟨gw, ow + k, none⟩ = some (.int .i64 (W[k]?.getD 0))) ∧ gw < w.heap.size := by
    have h5 := HRW.out
    obtain ⟨Aw, cw, rfl, _⟩ := h5
    rw [hw] at hr
    obtain ⟨g', o', rfl, H, hg'⟩ := cells_of hr hw hn1
    rw [hw]
    exact ⟨g', o', cw, rfl, H, hg'⟩
  subst hvw
  clear hq2 hb2 hr
  go_wp2_with fail
  go_loopw [15] (fun vi wr => ∃ (k : Nat), k ≤ n ∧ vi = .int .i64 k ∧ Hid (OwnI wr w.heap.size w1.heap.size (.slice A1 n c1) (fnL (exN P S (fun x => W[x]?.getD 0) k) n)) ∧ Hid (Kept w1.heap.size w2.heap.size w2 wr) ∧ Hid (Below w.heap.size w wr)) (fun vi _ => n - (intOf vi).toNat)
  case atStart => exact ⟨0, by omega, rfl, HOW2, HK2, HB2⟩
  case round =>
    obtain ⟨k, hk, rfl, how, hkp, hb⟩ := hrel
    by_cases hkn : k < n
    · have hkn2 : (k : Int) < (n : Int) := by omega
      obtain ⟨A3, c3, hc30, hrow⟩ := HM2.out.row k hkn
      have hc3 := (kept_cell (o := k) hkp.out HM2.out.low HM2.out.lt).trans hc30
      have HRT := Lib.hid hrow
      have hNb := nrC_len P S k
      obtain ⟨N, hN⟩ : ∃ N, (nrC P S k).length = N := ⟨_, rfl⟩
      have HN := Lib.hid hN
      rw [hN] at hc3 HRT hNb
      have dW : wr.cell? ⟨gw, ow + k, none⟩ = some (.int .i64 (W[k]?.getD 0)) := by rw [hb.out.cell (p := ⟨gw, ow + k, none⟩) hgw]; exact HCW.out k hkn
      have HW0 : Hid (OwnI wr w.heap.size w1.heap.size (.slice A1 n c1) (fnL (stQ (exN P S (fun x => W[x]?.getD 0) k) ((nrC P S k).take 0) (-(W[k]?.getD 0))) n)) := Lib.hid (by rw [List.take_zero, stQ_nil]; exact how.out)
      have hwk := HWT.out k
      have HBR := Lib.hid hb.out
      have HKR := Lib.hid hkp.out
      obtain ⟨wo, rfl⟩ : ∃ wo : World, wo = wr := ⟨_, rfl⟩
      clear hN hrow how hb hkp hc30
      go_wp2_with fail
      go_loopw [22] (fun vi wr => ∃ (t : Nat), t ≤ N ∧ vi = .int .i64 t ∧ Hid (OwnI wr w.heap.size w1.heap.size (.slice A1 n c1) (fnL (stQ (exN P S (fun x => W[x]?.getD 0) k) ((nrC P S k).take t) (-(W[k]?.getD 0))) n)) ∧ Hid (Kept w1.heap.size w2.heap.size w2 wr) ∧ Hid (Below w.heap.size w wr)) (fun vi _ => N - (intOf vi).toNat)
      case atStart => exact ⟨0, by omega, rfl, HW0, HKR, HBR⟩
      case round =>
        obtain ⟨t, ht, rfl, how, hkp, hb⟩ := hrel
        have dWr : wr.cell? ⟨gw, ow + k, none⟩ = some (.int .i64 (W[k]?.getD 0)) := by rw [hb.out.cell (p := ⟨gw, ow + k, none⟩) hgw]; exact HCW.out k hkn
        by_cases htN : t < N
        · obtain ⟨g3, j, rfl, hlo3, hg3, hj, hjk, hcj⟩ := HRT.out t htN
          have dj := (kept_cell (o := t) hkp.out hlo3 hg3).trans hcj
          obtain ⟨d, rfl, hd1, hd2, hcd, hfd⟩ := own_at how.out (fnL_len _ _) (show j < n by omega)
          rw [fnL_at (show j < n by omega)] at hcd
          have hxs := exSB_rng (P := P) (S := S) HWT.out (show k ≤ 24 by omega) t j
          have HST : Hid (stQ (exN P S (fun x => W[x]?.getD 0) k) ((nrC P S k).take (t + 1)) (-(W[k]?.getD 0)) = updF (stQ (exN P S (fun x => W[x]?.getD 0) k) ((nrC P S k).take t) (-(W[k]?.getD 0))) j (-(W[k]?.getD 0))) := Lib.hid (stQ_take hj)
          have hjn2 : (j : Int) < (n : Int) := by omega
          have htN2 : (t : Int) < (N : Int) := by omega
          obtain ⟨X, hX⟩ : ∃ X, stQ (exN P S (fun x => W[x]?.getD 0) k) ((nrC P S k).take t) (-(W[k]?.getD 0)) = X := ⟨_, rfl⟩
          have HXE := Lib.hid hX
          rw [hX] at hcd hxs HST how
          obtain ⟨y, hy⟩ : ∃ y, X j = y := ⟨_, rfl⟩
          obtain ⟨z, hz⟩ : ∃ z, W[k]?.getD 0 = z := ⟨_, rfl⟩
          rw [hy] at hcd hxs
          have HZ := Lib.hid hz
          rw [hz] at dWr HST hwk
          have HNW : Hid (OwnI (wr.drew.setCell ⟨d, j, none⟩ (.int .i64 (y - z))) w.heap.size w1.heap.size (.slice (some ⟨d, 0, none⟩) n c1) (fnL (updF X j (-z)) n)) := Lib.hid (by
            have h6 := own_store (w := wr.drew) (j := j) how.out (fnL_len X n) (y - z)
            rw [show y - z = X j + -z by rw [hy]; omega] at h6 ⊢
            rw [fnL_set (-z) (by omega)] at h6
            exact h6)
          have HKW : Hid (Kept w1.heap.size w2.heap.size w2 (wr.drew.setCell ⟨d, j, none⟩ (.int .i64 (y - z)))) := Lib.hid ((hkp.out.trans (Kept.drewN _ _ wr 1)).trans (keptS wr.drew (p := ⟨d, j, none⟩) hd2 _))
          have HBW : Hid (Below w.heap.size w (wr.drew.setCell ⟨d, j, none⟩ (.int .i64 (y - z)))) := Lib.hid (hb.out.drew.setCell (p := ⟨d, j, none⟩) hd1 _)
          have p1 : IntKind.i64.wrap (y - z) = y - z := IntWalk.i64_in _ (by omega)
          clear hX hy hz how hj hcj
          go_wp2_with fail
          go_region
          all_goals
            go_wp2_with fail
            go_roundw
            case rel => exact ⟨t + 1, by omega, by go_num, Lib.hid (by rw [HZ.out, HST.out]; exact HNW.out), HKW, HBW⟩
            case measure => simp [intOf]; omega
        · obtain rfl : t = N := by omega
          have htt : ¬ (t : Int) < (t : Int) := by omega
          have HWN : Hid (OwnI wr w.heap.size w1.heap.size (.slice A1 n c1) (fnL (exN P S (fun x => W[x]?.getD 0) (k + 1)) n)) := Lib.hid (by
            have h6 := how.out
            rw [List.take_of_length_le (by rw [HN.out]; exact Nat.le_refl _)] at h6
            exact h6)
          go_wp2_with fail
          go_roundw
          case rel => exact ⟨k + 1, by omega, by go_num, HWN, hkp, hb⟩
          case measure => simp [intOf]; omega
    · obtain rfl : k = n := by omega
      go_wp2_with fail
      go_ret
      exact LAns.of (ecL_len _ _ _ _) ((how.out.raise (by have := hkp.out.size; omega) (Nat.le_refl _))) hb.out


/-- The answer of update: new weights and excesses; it writes into the box alone. -/
def UpAns (w : World) (ub n : Nat) (P S : List Int) (O : Nat → Int) (v0 v2 v3 v5 v6 : Value) (e : Ending) (w' : World) : Prop :=
  ∃ A1 c1 A4 c4 m, e = .returned (.tuple #[]) ∧ UBx w' ub v0 (.slice A1 n c1) v2 v3 (.slice A4 n c4) v5 v6 ∧ OwnI w' w.heap.size m (.slice A1 n c1) (woL P S (fnL O n) n) ∧ OwnI w' m w'.heap.size (.slice A4 n c4) (ecL P S (woL P S (fnL O n) n) n) ∧ Only ub (ub + 1) w w' ∧ w.heap.size ≤ m ∧ m ≤ w'.heap.size
theorem only_of_below {w w' : World} (ub : Nat) (h : Below w.heap.size w w') : Only ub (ub + 1) w w' := ⟨h.os, h.tape, h.output, h.size, fun b hb _ => h.block b hb⟩
theorem only_setU {w : World} (ub i : Nat) (v : Value) : Only ub (ub + 1) w (w.setCell ⟨ub, i, none⟩ v) :=
  ⟨rfl, rfl, rfl, by rw [size_set]; exact Nat.le_refl _, fun b hb hn => Below.heap_setCell _ _ _ _ (fun e => hn (by have e' : ub = b := e.symm; omega))⟩
theorem fnL_bd {O : Nat → Int} {n : Nat} {M : Int} (h : ∀ x, x < n → -M ≤ O x ∧ O x ≤ M) (hM : 0 ≤ M) (x : Nat) : -M ≤ (fnL O n)[x]?.getD 0 ∧ (fnL O n)[x]?.getD 0 ≤ M := by
  by_cases hx : x < n
  · rw [fnL_at hx]; exact h x hx
  · rw [List.getElem?_eq_none (by rw [fnL_len]; omega)]; simp; omega
theorem wo_bd {P S : List Int} {O : Nat → Int} {n : Nat} (h : ∀ x, x < n → -50000000000000000 ≤ O x ∧ O x ≤ 50000000000000000) : BW (woL P S (fnL O n) n) := by
  intro x
  by_cases hx : x < n
  · rw [woL_at hx]
    have h0 := fnL_bd h (by omega)
    have h1 := sum_rng (M := 50000000000000000) (by omega) (L := (nrC P S x).map fun z => (fnL O n)[z.toNat]?.getD 0) (fun z hz => by
      obtain ⟨y, _, rfl⟩ := List.mem_map.1 hz
      exact h0 _)
    have h2 : ((nrC P S x).map fun z => (fnL O n)[z.toNat]?.getD 0).length ≤ 2 := by
      have := nrC_len P S x
      rw [List.length_map]; omega
    have h3 := h0 x
    show -170000000000000000 ≤ (fnL O n)[x]?.getD 0 - ((nrC P S x).map fun z => (fnL O n)[z.toNat]?.getD 0).sum ∧ (fnL O n)[x]?.getD 0 - ((nrC P S x).map fun z => (fnL O n)[z.toNat]?.getD 0).sum ≤ 170000000000000000
    omega
  · rw [List.getElem?_eq_none (by rw [woL_len]; omega)]; simp

set_option maxRecDepth 100000 in
set_option maxHeartbeats 4000000 in
theorem update_any (ub g n bo co ol oh : Nat) (P S : List Int) (O : Nat → Int) (v1 v2 v4 v5 v6 : Value) (w : World) (hx : UBx w ub (.slice (some ⟨g, 0, none⟩) n n) v1 v2 (.slice (some ⟨bo, 0, none⟩) n co) v4 v5 v6)
    (hpt : PtsAt w g n n P S) (hg : g < w.heap.size) (hgu : g ≠ ub) (hC : ClP P S n) (ho : OwnI w ol oh (.slice (some ⟨bo, 0, none⟩) n co) (fnL O n)) (hB : ∀ x, x < n → -50000000000000000 ≤ O x ∧ O x ≤ 50000000000000000) :
    Calls Try.prog 178 #[.pointer (some ⟨ub, 0, none⟩)] w (UpAns w ub n P S O (.slice (some ⟨g, 0, none⟩) n n) v2 (.slice (some ⟨bo, 0, none⟩) n co) v5 v6) := by
  have hn := hC.hi
  have hn1 := hC.lo
  have HC := Lib.hid hC
  have HX := Lib.hid hx
  have HPT := Lib.hid hpt
  have HRO : Hid (ReadI w w.heap.size (.slice (some ⟨bo, 0, none⟩) n co) (fnL O n)) := Lib.hid ho.reads
  have HBO := Lib.hid hB
  have HBW := Lib.hid (wo_bd (P := P) (S := S) hB)
  have hul := hx.lt
  have x0 := hx.c0; have x3 := hx.c3
  clear hpt hC ho hB hx
  go_enter Try.func178, Try.ntmps178
  go_wp2_with fail
  refine wp_region_held_drew (S := fun w' => w'.cell? ⟨ub, 0, none⟩ = some (.slice (some ⟨g, 0, none⟩) n n) ∧ w'.cell? ⟨ub, 3, none⟩ = some (.slice (some ⟨bo, 0, none⟩) n co)) (by kernel_rfl) ⟨HX.out.c0, HX.out.c3⟩ (fun hHeld => ?_)
  refine takeY 0 _ (v := ?_) rfl rfl (by kernel_rfl) (by kernel_rfl) (by kernel_rfl) (fun _ _ _ h => h) (by kernel_rfl) ?_ (by assumption) ?_
  rotate_left 1
  · intro w hSw; (try dsimp only at hSw); go_simp; (try with_reducible rfl)
  try simp only [Act.put, List.setIfInBounds_toArray, List.set_cons_zero, List.set_cons_succ]
  refine takeY 1 _ (v := ?_) rfl rfl (by kernel_rfl) (by kernel_rfl) (by kernel_rfl) (fun _ _ _ h => h) (by kernel_rfl) ?_ (by assumption) ?_
  rotate_left 1
  · intro w hSw; (try dsimp only at hSw); go_simp; (try with_reducible rfl)
  try simp only [Act.put, List.setIfInBounds_toArray, List.set_cons_zero, List.set_cons_succ]
  refine takeY 2 _ (v := ?_) rfl rfl (by kernel_rfl) (by kernel_rfl) (by kernel_rfl) (fun _ _ _ h => h) (by kernel_rfl) ?_ (by assumption) ?_
  rotate_left 1
  · intro w hSw; (try dsimp only at hSw); go_simp; (try with_reducible rfl)
  try simp only [Act.put, List.setIfInBounds_toArray, List.set_cons_zero, List.set_cons_succ]
  refine takeY 3 _ (v := ?_) rfl rfl (by kernel_rfl) (by kernel_rfl) (by kernel_rfl) (fun _ _ _ h => h) (by kernel_rfl) ?_ (by assumption) ?_
  rotate_left 1
  · intro w hSw; (try dsimp only at hSw); go_simp; (try with_reducible rfl)
  try simp only [Act.put, List.setIfInBounds_toArray, List.set_cons_zero, List.set_cons_succ]
  refine takeY 4 _ (v := ?_) rfl rfl (by kernel_rfl) (by kernel_rfl) (by kernel_rfl) (fun _ _ _ h => h) (by kernel_rfl) ?_ (by assumption) ?_
  rotate_left 1
  · intro w hSw; (try dsimp only at hSw); go_simp; (try with_reducible rfl)
  try simp only [Act.put, List.setIfInBounds_toArray, List.set_cons_zero, List.set_cons_succ]
  refine takeY 5 _ (v := ?_) rfl rfl (by kernel_rfl) (by kernel_rfl) (by kernel_rfl) (fun _ _ _ h => h) (by kernel_rfl) ?_ (by assumption) ?_
  rotate_left 1
  · intro w hSw; (try dsimp only at hSw); go_simp; (try with_reducible rfl)
  try simp only [Act.put, List.setIfInBounds_toArray, List.set_cons_zero, List.set_cons_succ]
  refine takeY 6 _ (v := ?_) rfl rfl (by kernel_rfl) (by kernel_rfl) (by kernel_rfl) (fun _ _ _ h => h) (by kernel_rfl) ?_ (by assumption) ?_
  rotate_left 1
  · intro w hSw; (try dsimp only at hSw); go_simp; (try with_reducible rfl)
  try simp only [Act.put, List.setIfInBounds_toArray, List.set_cons_zero, List.set_cons_succ]
  refine takeY 7 _ (v := ?_) rfl rfl (by kernel_rfl) (by kernel_rfl) (by kernel_rfl) (fun _ _ _ h => h) (by kernel_rfl) ?_ (by assumption) ?_
  rotate_left 1
  · intro w hSw; (try dsimp only at hSw); go_simp; (try with_reducible rfl)
  try simp only [Act.put, List.setIfInBounds_toArray, List.set_cons_zero, List.set_cons_succ]
  refine takeY 8 _ (v := ?_) rfl rfl (by kernel_rfl) (by kernel_rfl) (by kernel_rfl) (fun _ _ _ h => h) (by kernel_rfl) ?_ (by assumption) ?_
  rotate_left 1
  · intro w hSw; (try dsimp only at hSw); go_simp; (try with_reducible rfl)
  try simp only [Act.put, List.setIfInBounds_toArray, List.set_cons_zero, List.set_cons_succ]
  refine takeY 9 _ (v := ?_) rfl rfl (by kernel_rfl) (by kernel_rfl) (by kernel_rfl) (fun _ _ _ h => h) (by kernel_rfl) ?_ (by assumption) ?_
  rotate_left 1
  · intro w hSw; (try dsimp only at hSw); go_simp; (try with_reducible rfl)
  try simp only [Act.put, List.setIfInBounds_toArray, List.set_cons_zero, List.set_cons_succ]
  refine wpAnyH_ready (rs := [10]) (by kernel_rfl) (by simp) ?_
  refine AllReadyH.cons rfl (fun K hK => ?_) AllReadyH.nil
  go_simp
  refine (weightsOfOrders_any g n P S (fnL O n) (.slice (some ⟨bo, 0, none⟩) n co) w.drew HPT.out hg HC.out (fnL_len _ _) HRO.out (fun x => by have := fnL_bd HBO.out (by omega) x; omega)).mono ?_
  rintro e w2 kk
  obtain ⟨A1, c1, rfl, ho1, hb1d⟩ := kk.len (woL_len _ _ _ _)
  have hb1 := below_un hb1d
  have hX2 := HX.out.below hb1
  have HB1 := Lib.hid hb1
  have HO1 := Lib.hid ho1
  have HX2 := Lib.hid hX2
  have u0 := hX2.c0
  have u3 := hX2.c3
  have u1 := hX2.c1
  have uf := hX2.f 1
  refine hK.out _ w2 ⟨u0, u3⟩ (fun hHeld => ?_)
  clear hK K kk hb1 hb1d ho1 hX2
  try simp only [Act.put, List.setIfInBounds_toArray, List.set_cons_zero, List.set_cons_succ]
  refine takeY 11 _ (v := ?_) rfl rfl (by kernel_rfl) (by kernel_rfl) (by kernel_rfl) (fun _ _ _ h => h) (by kernel_rfl) ?_ (by assumption) ?_
  rotate_left 1
  · intro w hSw; (try dsimp only at hSw); go_simp; (try with_reducible rfl)
  try simp only [Act.put, List.setIfInBounds_toArray, List.set_cons_zero, List.set_cons_succ]
  refine takeY 12 _ (v := ?_) rfl rfl (by kernel_rfl) (by kernel_rfl) (by kernel_rfl) (fun _ _ _ h => h) (by kernel_rfl) ?_ (by assumption) ?_
  rotate_left 1
  · intro w hSw; (try dsimp only at hSw); go_simp; (try with_reducible rfl)
  try simp only [Act.put, List.setIfInBounds_toArray, List.set_cons_zero, List.set_cons_succ]
  refine takeY 13 _ (v := ?_) rfl rfl (by kernel_rfl) (by kernel_rfl) (by kernel_rfl) (fun _ _ _ h => h) (by kernel_rfl) ?_ (by assumption) ?_
  rotate_left 1
  · intro w hSw; (try dsimp only at hSw); go_simp; (try with_reducible rfl)
  try simp only [Act.put, List.setIfInBounds_toArray, List.set_cons_zero, List.set_cons_succ]
  refine wpAnyH_ready (rs := [14]) (by kernel_rfl) (by simp) ?_
  refine AllReadyH.cons rfl (fun K hK => ?_) AllReadyH.nil
  go_simp
  refine hK.out _ (w2.setCell ⟨ub, 1, none⟩ (.slice A1 n c1)) ⟨(HX2.out.set1 _).c0, (HX2.out.set1 _).c3⟩ (fun hHeld => ?_)
  clear hK K
  try simp only [Act.put, List.setIfInBounds_toArray, List.set_cons_zero, List.set_cons_succ]
  refine wpAnyH_done (by kernel_rfl) ?_ _
  clear x0 x3 u0 u3 u1 uf hHeld
  have HX3 := Lib.hid (HX2.out.set1 (.slice A1 n c1))
  have hz3 : (w2.setCell ⟨ub, 1, none⟩ (.slice A1 n c1)).heap.size = w2.heap.size := size_set _ _ _
  have HOA : Hid (Only ub (ub + 1) w (w2.setCell ⟨ub, 1, none⟩ (.slice A1 n c1))) := Lib.hid ((only_of_below ub HB1.out).trans (only_setU ub 1 _))
  have HO1s : Hid (OwnI (w2.setCell ⟨ub, 1, none⟩ (.slice A1 n c1)) w.heap.size w2.heap.size (.slice A1 n c1) (woL P S (fnL O n) n)) := Lib.hid (OwnI.newC HO1.out (by exact hul) _)
  have hs1 := HB1.out.size
  have HPT3 : Hid (PtsAt (w2.setCell ⟨ub, 1, none⟩ (.slice A1 n c1)) g n n P S) := Lib.hid ((rowIs_below HPT.out hg HB1.out).of_block (Below.heap_setCell _ _ _ _ (fun e => hgu e)))
  obtain ⟨V, hV⟩ : ∃ V, V = w2.setCell ⟨ub, 1, none⟩ (.slice A1 n c1) := ⟨_, rfl⟩
  rw [← hV] at HX3 hz3 HOA HO1s HPT3
  rw [← hV]
  have hg3 : g < V.heap.size := by omega
  have HR3 : Hid (ReadI V V.heap.size (.slice A1 n c1) (woL P S (fnL O n) n)) := Lib.hid (HO1s.out.raise (Nat.le_of_eq hz3.symm) (Nat.le_refl _)).reads
  have y0 := HX3.out.c0; have y1 := HX3.out.c1
  clear hV
  go_wp2_with fail
  refine wp_region_held_drew (S := fun w' => w'.cell? ⟨ub, 0, none⟩ = some (.slice (some ⟨g, 0, none⟩) n n) ∧ w'.cell? ⟨ub, 1, none⟩ = some (.slice A1 n c1)) (by kernel_rfl) ⟨HX3.out.c0, HX3.out.c1⟩ (fun hHeld => ?_)
  refine takeY 0 _ (v := ?_) rfl rfl (by kernel_rfl) (by kernel_rfl) (by kernel_rfl) (fun _ _ _ h => h) (by kernel_rfl) ?_ (by assumption) ?_
  rotate_left 1
  · intro w hSw; (try dsimp only at hSw); go_simp; (try with_reducible rfl)
  try simp only [Act.put, List.setIfInBounds_toArray, List.set_cons_zero, List.set_cons_succ]
  refine takeY 1 _ (v := ?_) rfl rfl (by kernel_rfl) (by kernel_rfl) (by kernel_rfl) (fun _ _ _ h => h) (by kernel_rfl) ?_ (by assumption) ?_
  rotate_left 1
  · intro w hSw; (try dsimp only at hSw); go_simp; (try with_reducible rfl)
  try simp only [Act.put, List.setIfInBounds_toArray, List.set_cons_zero, List.set_cons_succ]
  refine takeY 2 _ (v := ?_) rfl rfl (by kernel_rfl) (by kernel_rfl) (by kernel_rfl) (fun _ _ _ h => h) (by kernel_rfl) ?_ (by assumption) ?_
  rotate_left 1
  · intro w hSw; (try dsimp only at hSw); go_simp; (try with_reducible rfl)
  try simp only [Act.put, List.setIfInBounds_toArray, List.set_cons_zero, List.set_cons_succ]
  refine takeY 3 _ (v := ?_) rfl rfl (by kernel_rfl) (by kernel_rfl) (by kernel_rfl) (fun _ _ _ h => h) (by kernel_rfl) ?_ (by assumption) ?_
  rotate_left 1
  · intro w hSw; (try dsimp only at hSw); go_simp; (try with_reducible rfl)
  try simp only [Act.put, List.setIfInBounds_toArray, List.set_cons_zero, List.set_cons_succ]
  refine takeY 4 _ (v := ?_) rfl rfl (by kernel_rfl) (by kernel_rfl) (by kernel_rfl) (fun _ _ _ h => h) (by kernel_rfl) ?_ (by assumption) ?_
  rotate_left 1
  · intro w hSw; (try dsimp only at hSw); go_simp; (try with_reducible rfl)
  try simp only [Act.put, List.setIfInBounds_toArray, List.set_cons_zero, List.set_cons_succ]
  refine takeY 5 _ (v := ?_) rfl rfl (by kernel_rfl) (by kernel_rfl) (by kernel_rfl) (fun _ _ _ h => h) (by kernel_rfl) ?_ (by assumption) ?_
  rotate_left 1
  · intro w hSw; (try dsimp only at hSw); go_simp; (try with_reducible rfl)
  try simp only [Act.put, List.setIfInBounds_toArray, List.set_cons_zero, List.set_cons_succ]
  refine takeY 6 _ (v := ?_) rfl rfl (by kernel_rfl) (by kernel_rfl) (by kernel_rfl) (fun _ _ _ h => h) (by kernel_rfl) ?_ (by assumption) ?_
  rotate_left 1
  · intro w hSw; (try dsimp only at hSw); go_simp; (try with_reducible rfl)
  try simp only [Act.put, List.setIfInBounds_toArray, List.set_cons_zero, List.set_cons_succ]
  refine takeY 7 _ (v := ?_) rfl rfl (by kernel_rfl) (by kernel_rfl) (by kernel_rfl) (fun _ _ _ h => h) (by kernel_rfl) ?_ (by assumption) ?_
  rotate_left 1
  · intro w hSw; (try dsimp only at hSw); go_simp; (try with_reducible rfl)
  try simp only [Act.put, List.setIfInBounds_toArray, List.set_cons_zero, List.set_cons_succ]
  refine takeY 8 _ (v := ?_) rfl rfl (by kernel_rfl) (by kernel_rfl) (by kernel_rfl) (fun _ _ _ h => h) (by kernel_rfl) ?_ (by assumption) ?_
  rotate_left 1
  · intro w hSw; (try dsimp only at hSw); go_simp; (try with_reducible rfl)
  try simp only [Act.put, List.setIfInBounds_toArray, List.set_cons_zero, List.set_cons_succ]
  refine takeY 9 _ (v := ?_) rfl rfl (by kernel_rfl) (by kernel_rfl) (by kernel_rfl) (fun _ _ _ h => h) (by kernel_rfl) ?_ (by assumption) ?_
  rotate_left 1
  · intro w hSw; (try dsimp only at hSw); go_simp; (try with_reducible rfl)
  try simp only [Act.put, List.setIfInBounds_toArray, List.set_cons_zero, List.set_cons_succ]
  refine takeY 10 _ (v := ?_) rfl rfl (by kernel_rfl) (by kernel_rfl) (by kernel_rfl) (fun _ _ _ h => h) (by kernel_rfl) ?_ (by assumption) ?_
  rotate_left 1
  · intro w hSw; (try dsimp only at hSw); go_simp; (try with_reducible rfl)
  try simp only [Act.put, List.setIfInBounds_toArray, List.set_cons_zero, List.set_cons_succ]
  refine wpAnyH_ready (rs := [11]) (by kernel_rfl) (by simp) ?_
  refine AllReadyH.cons rfl (fun K hK => ?_) AllReadyH.nil
  go_simp
  refine (excessesB_any g n P S (woL P S (fnL O n) n) (.slice A1 n c1) V.drew HPT3.out hg3 HC.out (woL_len _ _ _ _) HBW.out HR3.out).mono ?_
  rintro e w4 kk
  obtain ⟨A4, c4, rfl, ho4, hb4d⟩ := kk.len (ecL_len _ _ _ _)
  have hb4 := below_un hb4d
  have hX4 := HX3.out.below hb4
  have HB4 := Lib.hid hb4
  have HO4 := Lib.hid ho4
  have HX4 := Lib.hid hX4
  have u0 := hX4.c0
  have u1 := hX4.c1
  have u4 := hX4.c4
  have uf := hX4.f 4
  refine hK.out _ w4 ⟨u0, u1⟩ (fun hHeld => ?_)
  clear hK K kk hb4 hb4d ho4 hX4
  try simp only [Act.put, List.setIfInBounds_toArray, List.set_cons_zero, List.set_cons_succ]
  refine takeY 12 _ (v := ?_) rfl rfl (by kernel_rfl) (by kernel_rfl) (by kernel_rfl) (fun _ _ _ h => h) (by kernel_rfl) ?_ (by assumption) ?_
  rotate_left 1
  · intro w hSw; (try dsimp only at hSw); go_simp; (try with_reducible rfl)
  try simp only [Act.put, List.setIfInBounds_toArray, List.set_cons_zero, List.set_cons_succ]
  refine takeY 13 _ (v := ?_) rfl rfl (by kernel_rfl) (by kernel_rfl) (by kernel_rfl) (fun _ _ _ h => h) (by kernel_rfl) ?_ (by assumption) ?_
  rotate_left 1
  · intro w hSw; (try dsimp only at hSw); go_simp; (try with_reducible rfl)
  try simp only [Act.put, List.setIfInBounds_toArray, List.set_cons_zero, List.set_cons_succ]
  refine wpAnyH_ready (rs := [14]) (by kernel_rfl) (by simp) ?_
  refine AllReadyH.cons rfl (fun K hK => ?_) AllReadyH.nil
  go_simp
  refine hK.out _ (w4.setCell ⟨ub, 4, none⟩ (.slice A4 n c4)) ⟨(HX4.out.set4 _).c0, (HX4.out.set4 _).c1⟩ (fun hHeld => ?_)
  clear hK K
  try simp only [Act.put, List.setIfInBounds_toArray, List.set_cons_zero, List.set_cons_succ]
  refine wpAnyH_done (by kernel_rfl) ?_ _
  go_wp2_with fail
  go_end0
  have hs4 := HB4.out.size
  have hz5 : (w4.setCell ⟨ub, 4, none⟩ (.slice A4 n c4)).heap.size = w4.heap.size := size_set _ _ _
  refine ⟨A1, c1, A4, c4, V.heap.size, rfl, HX4.out.set4 _, ?_, ?_, HOA.out.trans ((only_of_below ub HB4.out).trans (only_setU ub 4 _)), by omega, by omega⟩
  · exact OwnI.newC ((HO1s.out.raise (Nat.le_of_eq hz3.symm) (Nat.le_refl _)).stay HB4.out) (by exact hul) _
  · rw [hz5]; exact OwnI.newC HO4.out (by show ub < V.heap.size; omega) _

end Go.Proofs.Ytohbgfmjnanlkaa
