/- Clusters, the program's: orders, the least number of a list: contracts. Conditions: stated at each theorem. -/
import Derived.Test.YtohbgfmjnanlkaaClE
namespace Go.Proofs.Ytohbgfmjnanlkaa
open Go.ChangeShapes Go.WideShapes Go.ChangeAt Go.RowKit Go.Deep
set_option linter.unusedVariables false
set_option linter.unusedSimpArgs false

theorem fnL_put {F : Nat → Int} {n j : Nat} (z : Int) : (fnL F n).set j z = fnL (fun x => if x = j then z else F x) n := by
  apply List.ext_getElem (by simp [fnL])
  intro i h1 h2
  simp only [List.getElem_set, fnL, List.getElem_map, List.getElem_range]
  by_cases e : j = i
  · subst e; simp
  · rw [if_neg e, if_neg (fun h => e h.symm)]
/-- The weight of a point and the orders of the first t points to which it is proximate. -/
def oP (P S : List Int) (W : Nat → Int) (j t : Nat) : Int := W j + (((nrC P S j).take t).map fun z => oF P S W z.toNat).sum
theorem oP_zero (P S : List Int) (W : Nat → Int) (j : Nat) : oP P S W j 0 = W j := by simp [oP]
theorem oP_next {P S : List Int} {W : Nat → Int} {j t i : Nat} (h : (nrC P S j)[t]? = some (i : Int)) : oP P S W j (t + 1) = oP P S W j t + oF P S W i := by
  unfold oP
  rw [List.take_add_one, h]
  simp [Int.add_assoc]
theorem oP_end {P S : List Int} {W : Nat → Int} {n j N : Nat} (h : okAll P S n = true) (hj : j < n) (hN : (nrC P S j).length = N) : oP P S W j N = oF P S W j := by
  unfold oP; rw [oF_eq h hj, List.take_of_length_le (by omega)]
theorem oF_rng {P S : List Int} {W : Nat → Int} {n : Nat} (h : okAll P S n = true) (hn : n ≤ 24) (hW : ∀ i, i < n → -100000 ≤ W i ∧ W i ≤ 100000) {j : Nat} (hj : j < n) : -30000000000000000 ≤ oF P S W j ∧ oF P S W j ≤ 30000000000000000 := by
  have h1 := oF_le (M := 100000) h (by omega) hW j hj
  have h2 := tri_mono (show j ≤ 24 by omega)
  rw [tri_24] at h2
  have h3 := tri_pos j
  omega
theorem sum_rng {M : Int} (hM : 0 ≤ M) : ∀ {L : List Int}, (∀ z ∈ L, -M ≤ z ∧ z ≤ M) → -(M * L.length) ≤ L.sum ∧ L.sum ≤ M * L.length
  | [], _ => by simp
  | z :: L, h => by
    have h1 := h z (by simp)
    have h2 := sum_rng hM (L := L) (fun y hy => h y (by simp [hy]))
    have h3 : M * ((z :: L).length : Int) = M * (L.length : Int) + M := by simp [Int.mul_add]
    simp only [List.sum_cons]
    omega
theorem oP_rng {P S : List Int} {W : Nat → Int} {n : Nat} (h : okAll P S n = true) (hn : n ≤ 24) (hW : ∀ i, i < n → -100000 ≤ W i ∧ W i ≤ 100000) {j : Nat} (hj : j < n) (t : Nat) : -100000000000000000 ≤ oP P S W j t ∧ oP P S W j t ≤ 100000000000000000 := by
  have h1 := sum_rng (M := 30000000000000000) (by omega) (L := ((nrC P S j).take t).map fun z => oF P S W z.toNat) (fun z hz => by
    obtain ⟨y, hy, rfl⟩ := List.mem_map.1 hz
    have := nr_mem h hj y (List.mem_of_mem_take hy)
    exact oF_rng h hn hW (by omega))
  have h2 : (((nrC P S j).take t).map fun z => oF P S W z.toNat).length ≤ 2 := by
    have := nrC_len P S j
    rw [List.length_map, List.length_take]; omega
  have h3 := hW j hj
  unfold oP
  omega
/-- What the list of sums bears while the point p has the sum s. -/
def oS (P S : List Int) (W : Nat → Int) (p : Nat) (s : Int) (x : Nat) : Int := if x < p then oF P S W x else if x = p then s else 0
theorem oS_put (P S : List Int) (W : Nat → Int) (p : Nat) (s s' : Int) : (fun x => if x = p then s' else oS P S W p s x) = oS P S W p s' := by
  funext x
  unfold oS
  by_cases h : x = p
  · subst h; rw [if_pos rfl, if_neg (Nat.lt_irrefl _), if_pos rfl]
  · rw [if_neg h]
    by_cases h2 : x < p
    · rw [if_pos h2, if_pos h2]
    · rw [if_neg h2, if_neg h2, if_neg h, if_neg h]
theorem oS_at (P S : List Int) (W : Nat → Int) (p : Nat) (s : Int) : oS P S W p s p = s := by unfold oS; rw [if_neg (Nat.lt_irrefl _), if_pos rfl]
theorem oS_old {P S : List Int} {W : Nat → Int} {p x : Nat} {s : Int} (h : x < p) : oS P S W p s x = oF P S W x := by unfold oS; rw [if_pos h]
theorem oS_next (P S : List Int) (W : Nat → Int) (p : Nat) : oS P S W p (oF P S W p) = oS P S W (p + 1) 0 := by
  funext x
  unfold oS
  by_cases h : x < p
  · rw [if_pos h, if_pos (by omega)]
  · rw [if_neg h]
    by_cases h2 : x = p
    · subst h2; rw [if_pos rfl, if_pos (by omega)]
    · rw [if_neg h2, if_neg (by omega)]; split <;> rfl
theorem oS_end {P S W : List Int} {n : Nat} : fnL (oS P S (fun x => W[x]?.getD 0) n 0) n = orL P S W n := by
  apply List.ext_getElem (by rw [fnL_len, orL_len])
  intro i h1 h2
  have h3 : i < n := by rw [fnL_len] at h1; exact h1
  have h4 := orL_at (P := P) (S := S) (W := W) h3
  have h5 := fnL_at (F := oS P S (fun x => W[x]?.getD 0) n 0) h3
  rw [List.getElem?_eq_getElem h2] at h4
  rw [List.getElem?_eq_getElem h1] at h5
  simp only [Option.getD_some] at h4 h5
  rw [h4, h5, oS_old h3]

theorem own_size {w : World} {lo hi : Nat} {v : Value} {L : List Int} (h : OwnI w lo hi v L) : hi ≤ w.heap.size := h.2.2
set_option maxRecDepth 100000 in
set_option maxHeartbeats 4000000 in
theorem ordC_any (p n b gw ow cw : Nat) (z : Int) (w : World) (hp : p < n) (h1 : w.cell? ⟨b, 0, none⟩ = some (.slice (some ⟨gw, ow, none⟩) n cw)) (h2 : w.cell? ⟨gw, ow + p, none⟩ = some (.int .i64 z)) :
    Calls Try.prog 142 #[.int .i64 p, .pointer (some ⟨b, 0, none⟩)] w fun e w' => e = .returned (.int .i64 z) ∧ w = w' := by
  have hp2 : (p : Int) < (n : Int) := by omega
  go_enter Try.func142, Try.ntmps142
  go_wp2_with fail
  go_ret
  exact ⟨rfl, rfl⟩

set_option maxRecDepth 100000 in
set_option maxHeartbeats 4000000 in
theorem sumsC_any (gr n b gw ow cw : Nat) (P S W : List Int) (lo : Nat) (w : World) (hM : RowsM w lo gr n P S) (hOK : ClOK P S W n) (hb : b < w.heap.size) (hgw : gw < w.heap.size)
    (hbc : w.cell? ⟨b, 0, none⟩ = some (.slice (some ⟨gw, ow, none⟩) n cw)) (hv : ∀ k, k < n → w.cell? ⟨gw, ow + k, none⟩ = some (.int .i64 (W[k]?.getD 0))) :
    Calls Try.prog 140 #[.slice (some ⟨gr, 0, none⟩) n n, .func (.func 142) #[] #[.pointer (some ⟨b, 0, none⟩)]] w (LAns w (orL P S W n)) := by
  have hn := hOK.hi
  have hn1 := hOK.lo
  have HO := Lib.hid hOK.ok
  have HWT := Lib.hid hOK.wt
  have HWI : Hid (∀ i, i < n → -100000 ≤ W[i]?.getD 0 ∧ W[i]?.getD 0 ≤ 100000) := Lib.hid fun i _ => wt_rng hOK.wt i
  have HM := Lib.hid hM
  have HV := Lib.hid hv
  have HBC := Lib.hid hbc
  obtain ⟨W1, HE1⟩ : ∃ V, V = w.alloc (.cells (madeCells #[.int .i64 0] n) 2) := ⟨_, rfl⟩
  have HB1 : Hid (Below w.heap.size w W1) := Lib.hid (by rw [HE1]; exact below_box2 _ _)
  have HZ1 : Hid (W1.heap.size = w.heap.size + 1) := Lib.hid (by rw [HE1]; simp)
  have HR1 : Hid (OwnI W1 w.heap.size W1.heap.size (.slice (some ⟨w.heap.size, 0, none⟩) n n) (fnL (oS P S (fun x => W[x]?.getD 0) 0 0) n)) := Lib.hid (by
    rw [HE1]
    refine row_ownB ((World.rowIs_made _ _ _ _).congr fun x hx => ?_) (fnL_len _ _) (Nat.le_refl _) (by omega)
    rw [if_pos hx]
    have := fnL_at (F := oS P S (fun x => W[x]?.getD 0) 0 0) hx
    simp only [List.getD]
    rw [this]
    simp [oS])
  have HEQ1 := Lib.hid HE1
  have hmk := fun (V : World) => run_make_row' (P := Try.prog) 22 2 (.int .i64 0) 8 Try.underlying22 int_info rfl .i64 .i64 n (by omega) (by omega) V
  clear hOK hM hv hbc HE1
  go_enter Try.func140, Try.ntmps140
  go_wp2
  rw [← HEQ1.out]
  clear hmk
  go_loopw [15] (fun vi wr => ∃ (p : Nat), p ≤ n ∧ vi = .int .i64 p ∧ Hid (OwnI wr w.heap.size W1.heap.size (.slice (some ⟨w.heap.size, 0, none⟩) n n) (fnL (oS P S (fun x => W[x]?.getD 0) p 0) n)) ∧ Hid (Below w.heap.size w wr)) (fun vi _ => n - (intOf vi).toNat)
  case atStart => exact ⟨0, by omega, rfl, HR1, HB1⟩
  case round =>
    obtain ⟨p, hp, rfl, how, hb'⟩ := hrel
    by_cases hpn : p < n
    · have hpn2 : (p : Int) < (n : Int) := by omega
      obtain ⟨A3, c3, hc30, hrow⟩ := HM.out.row p hpn
      have hc3 := (hb'.out.cell (p := ⟨gr, p, none⟩) HM.out.lt).trans hc30
      have HRT := Lib.hid hrow
      have hNb := nrC_len P S p
      obtain ⟨N, hN⟩ : ∃ N, (nrC P S p).length = N := ⟨_, rfl⟩
      have HN := Lib.hid hN
      rw [hN] at hc3 HRT hNb
      have dB := (hb'.out.cell (p := ⟨b, 0, none⟩) hb).trans HBC.out
      have dV := (hb'.out.cell (p := ⟨gw, ow + p, none⟩) hgw).trans (HV.out p hpn)
      obtain ⟨d, e1, hd1, hd2, hcd, hfd⟩ := own_at how.out (fnL_len _ _) hpn
      simp only [Option.some.injEq, Addr.mk.injEq, and_true] at e1
      subst e1
      have hwp := wt_rng HWT.out p
      have HP0 : Hid (oP P S (fun x => W[x]?.getD 0) p 0 = W[p]?.getD 0) := Lib.hid (oP_zero _ _ _ _)
      obtain ⟨fp, hfe⟩ : ∃ x, W[p]?.getD 0 = x := ⟨_, rfl⟩
      rw [hfe] at dV HP0 hwp
      have HRS : Hid (OwnI (wr.setCell ⟨w.heap.size, p, none⟩ (.int .i64 fp)) w.heap.size W1.heap.size (.slice (some ⟨w.heap.size, 0, none⟩) n n) (fnL (oS P S (fun x => W[x]?.getD 0) p (oP P S (fun x => W[x]?.getD 0) p 0)) n)) := Lib.hid (by
        have h6 := own_store (j := p) how.out (fnL_len _ _) fp
        rw [fnL_put, oS_put] at h6
        rw [HP0.out]; exact h6)
      have HBS : Hid (Below w.heap.size w (wr.setCell ⟨w.heap.size, p, none⟩ (.int .i64 fp))) := Lib.hid (hb'.out.setCell (p := ⟨w.heap.size, p, none⟩) (Nat.le_refl _) _)
      have HCL : Hid (∀ V, V = wr → Calls Try.prog 142 #[.int .i64 p, .pointer (some ⟨b, 0, none⟩)] V fun e w' => e = .returned (.int .i64 fp) ∧ V = w') := Lib.hid (by rintro V rfl; exact ordC_any p n b gw ow cw fp V hpn dB dV)
      have hcr : w.heap.size ≠ gr := by have := HM.out.lt; omega
      clear hc30 hrow hN hfe dB dV how hb' hd1 hd2
      go_wp2_with (go_at_call 142; refine (HCL.out _ rfl).mono ?_; rintro e w' ⟨rfl, rfl⟩)
      go_loopw [28] (fun vt wr => ∃ (t : Nat), t ≤ N ∧ vt = .int .i64 t ∧ Hid (OwnI wr w.heap.size W1.heap.size (.slice (some ⟨w.heap.size, 0, none⟩) n n) (fnL (oS P S (fun x => W[x]?.getD 0) p (oP P S (fun x => W[x]?.getD 0) p t)) n)) ∧ Hid (Below w.heap.size w wr)) (fun vt _ => N - (intOf vt).toNat)
      case atStart => exact ⟨0, by omega, rfl, HRS, HBS⟩
      case round =>
        obtain ⟨t, ht, rfl, how, hb2⟩ := hrel
        by_cases htN : t < N
        · obtain ⟨g3, j, rfl, hlo3, hg3, hj, hjp, hcj⟩ := HRT.out t htN
          have dj := (hb2.out.cell (p := ⟨g3, t, none⟩) hg3).trans hcj
          obtain ⟨d, e1, _, _, hcp, hfp⟩ := own_at how.out (fnL_len _ _) hpn
          obtain ⟨d', e2, _, _, hco, _⟩ := own_at how.out (fnL_len _ _) (show j < n by omega)
          simp only [Option.some.injEq, Addr.mk.injEq, and_true] at e1 e2
          subst e1
          subst e2
          rw [fnL_at hpn, oS_at] at hcp
          rw [fnL_at (show j < n by omega), oS_old hjp] at hco
          have hoj := oF_rng HO.out hn HWI.out (show j < n by omega)
          have hps := oP_rng HO.out hn HWI.out hpn t
          have HPX : Hid (oP P S (fun x => W[x]?.getD 0) p (t + 1) = oP P S (fun x => W[x]?.getD 0) p t + oF P S (fun x => W[x]?.getD 0) j) := Lib.hid (oP_next hj)
          obtain ⟨oj, hoe⟩ : ∃ x, oF P S (fun x => W[x]?.getD 0) j = x := ⟨_, rfl⟩
          obtain ⟨st, hse⟩ : ∃ x, oP P S (fun x => W[x]?.getD 0) p t = x := ⟨_, rfl⟩
          rw [hoe] at hco hoj HPX
          rw [hse] at hcp hps HPX how
          have htN2 : (t : Int) < (N : Int) := by omega
          have hjn2 : (j : Int) < (n : Int) := by omega
          have p1 : IntKind.i64.wrap (st + oj) = st + oj := IntWalk.i64_in _ (by omega)
          have HRN : Hid (OwnI (wr.drew.setCell ⟨w.heap.size, p, none⟩ (.int .i64 (st + oj))) w.heap.size W1.heap.size (.slice (some ⟨w.heap.size, 0, none⟩) n n) (fnL (oS P S (fun x => W[x]?.getD 0) p (oP P S (fun x => W[x]?.getD 0) p (t + 1))) n)) := Lib.hid (by
            have h6 := own_store (w := wr.drew) (j := p) how.out (fnL_len _ _) (st + oj)
            rw [fnL_put, oS_put] at h6
            rw [HPX.out]; exact h6)
          have HBN : Hid (Below w.heap.size w (wr.drew.setCell ⟨w.heap.size, p, none⟩ (.int .i64 (st + oj)))) := Lib.hid (hb2.out.drew.setCell (p := ⟨w.heap.size, p, none⟩) (Nat.le_refl _) _)
          clear hj hcj hoe hse how
          go_wp2_with fail
          go_region
          all_goals
            go_wp2_with fail
            go_roundw
            case rel => exact ⟨t + 1, by omega, by go_num, HRN, HBN⟩
            case measure => simp [intOf]; omega
        · obtain rfl : t = N := by omega
          have htt : ¬ (t : Int) < (t : Int) := by omega
          have HRN : Hid (OwnI wr w.heap.size W1.heap.size (.slice (some ⟨w.heap.size, 0, none⟩) n n) (fnL (oS P S (fun x => W[x]?.getD 0) (p + 1) 0) n)) := Lib.hid (by
            have h6 := how.out
            rw [oP_end HO.out hpn HN.out, oS_next] at h6
            exact h6)
          go_wp2_with fail
          go_roundw
          case rel => exact ⟨p + 1, by omega, by go_num, HRN, hb2⟩
          case measure => simp [intOf]; omega
    · obtain rfl : p = n := by omega
      go_wp2
      go_ret
      exact LAns.of (orL_len _ _ _ _) (by rw [← oS_end]; exact how.out.raise (by have := HZ1.out; have := hb'.out.size; have := own_size how.out; omega) (Nat.le_refl _)) hb'.out

set_option maxRecDepth 100000 in
set_option maxHeartbeats 4000000 in
theorem disC_any (p : Nat) (w : World) : Calls Try.prog 143 #[.int .i64 p] w fun e w' => e = .returned (.int .i64 1) ∧ w = w' := by
  go_enter Try.func143, Try.ntmps143
  go_wp2_with fail
  go_ret
  exact ⟨rfl, rfl⟩

set_option maxRecDepth 100000 in
set_option maxHeartbeats 4000000 in
theorem sumsD_any (gr n : Nat) (P S W : List Int) (lo : Nat) (w : World) (hM : RowsM w lo gr n P S) (hOK : ClOK P S W n) (hv1 : ∀ k, k < n → W[k]?.getD 0 = 1) :
    Calls Try.prog 140 #[.slice (some ⟨gr, 0, none⟩) n n, .func (.func 143) #[] #[]] w (LAns w (orL P S W n)) := by
  have hn := hOK.hi
  have hn1 := hOK.lo
  have HO := Lib.hid hOK.ok
  have HWT := Lib.hid hOK.wt
  have HWI : Hid (∀ i, i < n → -100000 ≤ W[i]?.getD 0 ∧ W[i]?.getD 0 ≤ 100000) := Lib.hid fun i _ => wt_rng hOK.wt i
  have HM := Lib.hid hM
  have HV1 := Lib.hid hv1
  obtain ⟨W1, HE1⟩ : ∃ V, V = w.alloc (.cells (madeCells #[.int .i64 0] n) 2) := ⟨_, rfl⟩
  have HB1 : Hid (Below w.heap.size w W1) := Lib.hid (by rw [HE1]; exact below_box2 _ _)
  have HZ1 : Hid (W1.heap.size = w.heap.size + 1) := Lib.hid (by rw [HE1]; simp)
  have HR1 : Hid (OwnI W1 w.heap.size W1.heap.size (.slice (some ⟨w.heap.size, 0, none⟩) n n) (fnL (oS P S (fun x => W[x]?.getD 0) 0 0) n)) := Lib.hid (by
    rw [HE1]
    refine row_ownB ((World.rowIs_made _ _ _ _).congr fun x hx => ?_) (fnL_len _ _) (Nat.le_refl _) (by omega)
    rw [if_pos hx]
    have := fnL_at (F := oS P S (fun x => W[x]?.getD 0) 0 0) hx
    simp only [List.getD]
    rw [this]
    simp [oS])
  have HEQ1 := Lib.hid HE1
  have hmk := fun (V : World) => run_make_row' (P := Try.prog) 22 2 (.int .i64 0) 8 Try.underlying22 int_info rfl .i64 .i64 n (by omega) (by omega) V
  clear hOK hM hv1 HE1
  go_enter Try.func140, Try.ntmps140
  go_wp2
  rw [← HEQ1.out]
  clear hmk
  go_loopw [15] (fun vi wr => ∃ (p : Nat), p ≤ n ∧ vi = .int .i64 p ∧ Hid (OwnI wr w.heap.size W1.heap.size (.slice (some ⟨w.heap.size, 0, none⟩) n n) (fnL (oS P S (fun x => W[x]?.getD 0) p 0) n)) ∧ Hid (Below w.heap.size w wr)) (fun vi _ => n - (intOf vi).toNat)
  case atStart => exact ⟨0, by omega, rfl, HR1, HB1⟩
  case round =>
    obtain ⟨p, hp, rfl, how, hb'⟩ := hrel
    by_cases hpn : p < n
    · have hpn2 : (p : Int) < (n : Int) := by omega
      obtain ⟨A3, c3, hc30, hrow⟩ := HM.out.row p hpn
      have hc3 := (hb'.out.cell (p := ⟨gr, p, none⟩) HM.out.lt).trans hc30
      have HRT := Lib.hid hrow
      have hNb := nrC_len P S p
      obtain ⟨N, hN⟩ : ∃ N, (nrC P S p).length = N := ⟨_, rfl⟩
      have HN := Lib.hid hN
      rw [hN] at hc3 HRT hNb
      obtain ⟨d, e1, hd1, hd2, hcd, hfd⟩ := own_at how.out (fnL_len _ _) hpn
      simp only [Option.some.injEq, Addr.mk.injEq, and_true] at e1
      subst e1
      have hwp := wt_rng HWT.out p
      have HP0 : Hid (oP P S (fun x => W[x]?.getD 0) p 0 = W[p]?.getD 0) := Lib.hid (oP_zero _ _ _ _)
      obtain ⟨fp, hfe⟩ : ∃ x, W[p]?.getD 0 = x := ⟨_, rfl⟩
      have hfp1 : fp = 1 := by rw [← hfe]; exact HV1.out p hpn
      rw [hfe] at HP0 hwp
      have HRS : Hid (OwnI (wr.setCell ⟨w.heap.size, p, none⟩ (.int .i64 fp)) w.heap.size W1.heap.size (.slice (some ⟨w.heap.size, 0, none⟩) n n) (fnL (oS P S (fun x => W[x]?.getD 0) p (oP P S (fun x => W[x]?.getD 0) p 0)) n)) := Lib.hid (by
        have h6 := own_store (j := p) how.out (fnL_len _ _) fp
        rw [fnL_put, oS_put] at h6
        rw [HP0.out]; exact h6)
      have HBS : Hid (Below w.heap.size w (wr.setCell ⟨w.heap.size, p, none⟩ (.int .i64 fp))) := Lib.hid (hb'.out.setCell (p := ⟨w.heap.size, p, none⟩) (Nat.le_refl _) _)
      have HCL : Hid (∀ V, V = wr → Calls Try.prog 143 #[.int .i64 p] V fun e w' => e = .returned (.int .i64 fp) ∧ V = w') := Lib.hid (by rintro V rfl; rw [hfp1]; exact disC_any p V)
      have hcr : w.heap.size ≠ gr := by have := HM.out.lt; omega
      clear hc30 hrow hN hfe hfp1 how hb' hd1 hd2
      go_wp2_with (go_at_call 143; refine (HCL.out _ rfl).mono ?_; rintro e w' ⟨rfl, rfl⟩)
      go_loopw [28] (fun vt wr => ∃ (t : Nat), t ≤ N ∧ vt = .int .i64 t ∧ Hid (OwnI wr w.heap.size W1.heap.size (.slice (some ⟨w.heap.size, 0, none⟩) n n) (fnL (oS P S (fun x => W[x]?.getD 0) p (oP P S (fun x => W[x]?.getD 0) p t)) n)) ∧ Hid (Below w.heap.size w wr)) (fun vt _ => N - (intOf vt).toNat)
      case atStart => exact ⟨0, by omega, rfl, HRS, HBS⟩
      case round =>
        obtain ⟨t, ht, rfl, how, hb2⟩ := hrel
        by_cases htN : t < N
        · obtain ⟨g3, j, rfl, hlo3, hg3, hj, hjp, hcj⟩ := HRT.out t htN
          have dj := (hb2.out.cell (p := ⟨g3, t, none⟩) hg3).trans hcj
          obtain ⟨d, e1, _, _, hcp, hfp⟩ := own_at how.out (fnL_len _ _) hpn
          obtain ⟨d', e2, _, _, hco, _⟩ := own_at how.out (fnL_len _ _) (show j < n by omega)
          simp only [Option.some.injEq, Addr.mk.injEq, and_true] at e1 e2
          subst e1
          subst e2
          rw [fnL_at hpn, oS_at] at hcp
          rw [fnL_at (show j < n by omega), oS_old hjp] at hco
          have hoj := oF_rng HO.out hn HWI.out (show j < n by omega)
          have hps := oP_rng HO.out hn HWI.out hpn t
          have HPX : Hid (oP P S (fun x => W[x]?.getD 0) p (t + 1) = oP P S (fun x => W[x]?.getD 0) p t + oF P S (fun x => W[x]?.getD 0) j) := Lib.hid (oP_next hj)
          obtain ⟨oj, hoe⟩ : ∃ x, oF P S (fun x => W[x]?.getD 0) j = x := ⟨_, rfl⟩
          obtain ⟨st, hse⟩ : ∃ x, oP P S (fun x => W[x]?.getD 0) p t = x := ⟨_, rfl⟩
          rw [hoe] at hco hoj HPX
          rw [hse] at hcp hps HPX how
          have htN2 : (t : Int) < (N : Int) := by omega
          have hjn2 : (j : Int) < (n : Int) := by omega
          have p1 : IntKind.i64.wrap (st + oj) = st + oj := IntWalk.i64_in _ (by omega)
          have HRN : Hid (OwnI (wr.drew.setCell ⟨w.heap.size, p, none⟩ (.int .i64 (st + oj))) w.heap.size W1.heap.size (.slice (some ⟨w.heap.size, 0, none⟩) n n) (fnL (oS P S (fun x => W[x]?.getD 0) p (oP P S (fun x => W[x]?.getD 0) p (t + 1))) n)) := Lib.hid (by
            have h6 := own_store (w := wr.drew) (j := p) how.out (fnL_len _ _) (st + oj)
            rw [fnL_put, oS_put] at h6
            rw [HPX.out]; exact h6)
          have HBN : Hid (Below w.heap.size w (wr.drew.setCell ⟨w.heap.size, p, none⟩ (.int .i64 (st + oj)))) := Lib.hid (hb2.out.drew.setCell (p := ⟨w.heap.size, p, none⟩) (Nat.le_refl _) _)
          clear hj hcj hoe hse how
          go_wp2_with fail
          go_region
          all_goals
            go_wp2_with fail
            go_roundw
            case rel => exact ⟨t + 1, by omega, by go_num, HRN, HBN⟩
            case measure => simp [intOf]; omega
        · obtain rfl : t = N := by omega
          have htt : ¬ (t : Int) < (t : Int) := by omega
          have HRN : Hid (OwnI wr w.heap.size W1.heap.size (.slice (some ⟨w.heap.size, 0, none⟩) n n) (fnL (oS P S (fun x => W[x]?.getD 0) (p + 1) 0) n)) := Lib.hid (by
            have h6 := how.out
            rw [oP_end HO.out hpn HN.out, oS_next] at h6
            exact h6)
          go_wp2_with fail
          go_roundw
          case rel => exact ⟨p + 1, by omega, by go_num, HRN, hb2⟩
          case measure => simp [intOf]; omega
    · obtain rfl : p = n := by omega
      go_wp2
      go_ret
      exact LAns.of (orL_len _ _ _ _) (by rw [← oS_end]; exact how.out.raise (by have := HZ1.out; have := hb'.out.size; have := own_size how.out; omega) (Nat.le_refl _)) hb'.out

def MinAns (L : List Int) (w : World) (e : Ending) (w' : World) : Prop := ∃ x, e = .returned (.int .i64 x) ∧ ((0 ≤ x) ↔ ∀ j, j < L.length → 0 ≤ L[j]?.getD 0) ∧ w = w'
set_option maxRecDepth 100000 in
set_option maxHeartbeats 4000000 in
theorem min_any (v : Value) (L : List Int) (w : World) (B : Nat) (h : ReadI w B v L) (h0 : 0 < L.length) (hn : L.length ≤ 1048576) :
    Calls Try.prog 176 #[v] w (MinAns L w) := by
  obtain ⟨n, A, c, rfl, hr, HL, _, hnc, HF, hcm⟩ := h.split2
  have HLX := Lib.hid HL.out
  rw [HL.out] at h0 hn
  have HR := Lib.hid hr
  obtain ⟨a, rfl, hal, hc0⟩ := hr.2 0 h0
  obtain ⟨g, o, rfl⟩ := HF.out a rfl
  have HC : Hid (∀ j, j < n → w.cell? ⟨g, o + j, none⟩ = some (.int .i64 (L[j]?.getD 0))) := Lib.hid fun j hj => by
    obtain ⟨a', e', _, hc'⟩ := HR.out.2 j hj
    cases e'
    rw [add_lit] at hc'
    simpa using hc'
  have d0 := HC.out 0 h0
  rw [Nat.add_zero] at d0
  obtain ⟨z0, hz0⟩ : ∃ z, L[0]?.getD 0 = z := ⟨_, rfl⟩
  have HZ0 := Lib.hid hz0
  rw [hz0] at d0
  have h0i : ¬ (n : Int) < 1 := by omega
  have hmn := @run_min_int2 Try.prog
  have HS0 : Hid ((0 ≤ z0) ↔ ∀ j, j < 1 → 0 ≤ L[j]?.getD 0) := Lib.hid (by
    constructor
    · intro h j hj
      obtain rfl : j = 0 := by omega
      rw [HZ0.out]; exact h
    · intro h
      have := h 0 (by omega)
      rw [HZ0.out] at this; exact this)
  clear h hr hc0 hal hz0
  go_enter Try.func176, Try.ntmps176
  go_wp2
  go_loop [3, 4] (fun vm vi => ∃ (j : Nat) (x : Int), j ≤ n ∧ vm = .int .i64 x ∧ vi = .int .i64 j ∧ Hid ((0 ≤ x) ↔ ∀ i, i < j → 0 ≤ L[i]?.getD 0)) (fun _ vi => n - (intOf vi).toNat)
  case atStart => exact ⟨1, z0, by omega, rfl, rfl, HS0⟩
  case round =>
    obtain ⟨j, x, hj, rfl, rfl, HX⟩ := hrel
    by_cases hjn : j < n
    · have d1 := HC.out j hjn
      obtain ⟨z, hz⟩ : ∃ z, L[j]?.getD 0 = z := ⟨_, rfl⟩
      have HZ := Lib.hid hz
      rw [hz] at d1
      have hjn2 : (j : Int) < (n : Int) := by omega
      have HXN : Hid (∀ y : Int, ((0 ≤ y) ↔ (0 ≤ x ∧ 0 ≤ z)) → ((0 ≤ y) ↔ ∀ i, i < j + 1 → 0 ≤ L[i]?.getD 0)) := Lib.hid fun y hy => by
        rw [hy, HX.out]
        constructor
        · rintro ⟨h1, h2⟩ i hi
          by_cases e : i = j
          · subst e; rw [HZ.out]; exact h2
          · exact h1 i (by omega)
        · intro h1
          exact ⟨fun i hi => h1 i (by omega), by have := h1 j (by omega); rw [HZ.out] at this; exact this⟩
      clear hz
      by_cases hxz : z < x
      · go_wp2
        go_round
        case rel => exact ⟨j + 1, z, by omega, rfl, by go_num, Lib.hid (HXN.out z (by omega))⟩
        case measure => simp [intOf]; omega
      · go_wp2
        go_round
        case rel => exact ⟨j + 1, x, by omega, rfl, by go_num, Lib.hid (HXN.out x (by omega))⟩
        case measure => simp [intOf]; omega
    · obtain rfl : j = n := by omega
      go_wp2
      go_ret
      exact ⟨x, rfl, by rw [HLX.out]; exact HX.out, rfl⟩
end Go.Proofs.Ytohbgfmjnanlkaa
