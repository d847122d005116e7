/- Orders and discrepancies, the program's: contracts of impl.sumsOverProximates with both of its closures, of slices.Max and of spec.l01Has. Conditions: stated at each theorem. -/
import Derived.Test.YtoebbhicffgdgaaPoS
import Derived.Laws.Small
namespace Go.Proofs.Ytoebbhicffgdgaa
open Go.ChangeShapes Go.WideShapes Go.ChangeAt Go.RowKit Go.Deep
set_option linter.unusedVariables false
set_option linter.unusedSimpArgs false

theorem ordersOwn_any (j k c b ga oa : Nat) (z : Int) (w : World) (hb : w.cell? ⟨b, 0, none⟩ = some (.slice (some ⟨ga, oa, none⟩) k c)) (hj : j < k) (hc : w.cell? ⟨ga, oa + j, none⟩ = some (.int .i64 z)) :
    Calls Try.prog 64 #[.int .i64 j, .pointer (some ⟨b, 0, none⟩)] w fun e w' => e = .returned (.int .i64 z) ∧ w = w' := by
  have hj2 : (j : Int) < (k : Int) := by omega
  go_enter Try.func64, Try.ntmps64
  go_wp2
  go_ret
  exact ⟨rfl, rfl⟩
theorem discrOwn_any (j : Nat) (w : World) :
    Calls Try.prog 88 #[.int .i64 j] w fun e w' => e = .returned (.int .i64 1) ∧ w = w' := by
  go_enter Try.func88, Try.ntmps88
  go_wp2
  go_ret
  exact ⟨rfl, rfl⟩

/-- A row of near points: where it lies. -/
theorem near_row {w : World} {B k j : Nat} {v : Value} {mm : List Int} (h : ReadQ w B v (prQ mm k)) (hM : MQ mm k) (hj : j < k) : ∃ g o c A3 c3, v = .slice (some ⟨g, o, none⟩) k c ∧ g < B ∧ w.cell? ⟨g, o + j, none⟩ = some (.slice A3 (prx mm k j).length c3) ∧
    ∀ t, t < (prx mm k j).length → ∃ (g3 o3 i : Nat), A3 = some ⟨g3, o3, none⟩ ∧ g3 < B ∧ (prx mm k j)[t]? = some (i : Int) ∧ i < j ∧ w.cell? ⟨g3, o3 + t, none⟩ = some (.int .i64 i) := by
  obtain ⟨A, c, rfl, hrow, _, _, hA, _⟩ := h
  rw [prQ_len]
  obtain ⟨a, u, e1, hab, hcell, hri⟩ := hrow j (by rw [prQ_len]; exact hj)
  obtain ⟨g, o, rfl⟩ := hA a e1
  subst e1
  rw [prQ_at hj] at hri
  obtain ⟨A3, c3, rfl, hrd, _, _, hA3, _⟩ := hri
  rw [add_lit] at hcell
  refine ⟨g, o, c, A3, c3, rfl, hab, hcell, fun t ht => ?_⟩
  obtain ⟨a3, e3, hb3, hc3⟩ := hrd.2 t ht
  obtain ⟨g3, o3, rfl⟩ := hA3 a3 e3
  rw [add_lit] at hc3
  have hm := prx_mem hM hj _ (List.getElem_mem ht)
  obtain ⟨i, hi⟩ : ∃ i : Nat, (prx mm k j)[t] = (i : Int) := ⟨((prx mm k j)[t]).toNat, by omega⟩
  rw [hi] at hm
  exact ⟨g3, o3, i, e3, hb3, by simp [ht, hi], by omega, by rw [hc3]; simp [List.getD, ht, hi]⟩
/-- What the list of sums bears while the point p has the sum s. -/
def smF (m : List Int) (n : Nat) (f : Nat → Int) (p : Nat) (s : Int) (x : Nat) : Int := if x < p then oD m n f x else if x = p then s else 0
theorem smF_zero (m : List Int) (n : Nat) (f : Nat → Int) (p : Nat) (x : Nat) : smF m n f p 0 x = if x < p then oD m n f x else 0 := by
  unfold smF; split
  · rfl
  · split <;> rfl
theorem smF_set (m : List Int) (n : Nat) (f : Nat → Int) (p : Nat) (s s' : Int) (x : Nat) : (if x = p then s' else smF m n f p s x) = smF m n f p s' x := by
  unfold smF
  by_cases h : x = p
  · subst h; rw [if_pos rfl, if_neg (Nat.lt_irrefl _), if_pos rfl]
  · rw [if_neg h]
    by_cases h2 : x < p
    · rw [if_pos h2, if_pos h2]
    · rw [if_neg h2, if_neg h2, if_neg h, if_neg h]
theorem smF_at (m : List Int) (n : Nat) (f : Nat → Int) (p : Nat) (s : Int) : smF m n f p s p = s := by unfold smF; rw [if_neg (Nat.lt_irrefl _), if_pos rfl]
theorem smF_old {m : List Int} {n p x : Nat} {f : Nat → Int} {s : Int} (h : x < p) : smF m n f p s x = oD m n f x := by unfold smF; rw [if_pos h]
theorem smF_next (m : List Int) (n : Nat) (f : Nat → Int) (p : Nat) (x : Nat) : smF m n f p (oD m n f p) x = smF m n f (p + 1) 0 x := by
  rw [smF_zero]
  unfold smF
  by_cases h : x < p
  · rw [if_pos h, if_pos (by omega)]
  · rw [if_neg h]
    by_cases h2 : x = p
    · subst h2; rw [if_pos rfl, if_pos (by omega)]
    · rw [if_neg h2, if_neg (by omega)]
set_option maxRecDepth 100000 in
set_option maxHeartbeats 2000000 in
theorem sumsOrders_any (v : Value) (mm : List Int) (k : Nat) (f : Nat → Int) (w : World) (h : ReadQ w w.heap.size v (prQ mm k)) (hM : MQ mm k) (hk1 : 1 ≤ k) (hk : k ≤ 400)
    (hf : ∀ j, j < k → 1 ≤ f j ∧ f j ≤ 64) (hb : ∀ j, j < k → 1 ≤ oD mm k f j ∧ oD mm k f j ≤ 1638400) (b ga oa cc : Nat) (hbb : b < w.heap.size) (hga : ga < w.heap.size) (hbc : w.cell? ⟨b, 0, none⟩ = some (.slice (some ⟨ga, oa, none⟩) k cc)) (hv : ∀ j, j < k → w.cell? ⟨ga, oa + j, none⟩ = some (.int .i64 (f j))) :
    Calls Try.prog 62 #[v, .func (.func 64) #[] #[.pointer (some ⟨b, 0, none⟩)]] w fun e w' => e = .returned (.slice (some ⟨w.heap.size, 0, none⟩) k k) ∧ OwnI w' w.heap.size w'.heap.size (.slice (some ⟨w.heap.size, 0, none⟩) k k) (odL mm k f) ∧ Below w.heap.size w w' := by
  have HN := Lib.hid (fun j (hj : j < k) => near_row h hM hj)
  have HM := Lib.hid hM
  have HFB := Lib.hid hf
  have HB := Lib.hid hb
  have HV := Lib.hid hv
  have HBC := Lib.hid hbc
  obtain ⟨A, c, rfl, _⟩ := h
  rw [prQ_len] at HN ⊢
  obtain ⟨W1, HE1⟩ : ∃ W, W = w.alloc (.cells (madeCells #[.int .i64 0] k) 2) := ⟨_, rfl⟩
  have HB1 : Hid (Below w.heap.size w W1) := Lib.hid (by rw [HE1]; exact below_box2 _ _)
  have HR1 : Hid (W1.rowIs w.heap.size 2 k (fun x => .int .i64 (smF mm k f 0 0 x))) := Lib.hid (by rw [HE1]; exact (World.rowIs_made _ _ _ _).congr fun x hx => by rw [smF_zero, if_neg (by omega)])
  have HEQ1 := Lib.hid HE1
  have hmk := fun (W : World) => run_make_row' (P := Try.prog) 24 2 (.int .i64 0) 8 Try.underlying24 int_info rfl .i64 .i64 k (by omega) (by omega) W
  clear hM hf hb hv HE1 hbc
  go_enter Try.func62, Try.ntmps62
  go_wp2
  rw [← HEQ1.out]
  clear hmk
  go_loopw [15] (fun vi wr => ∃ (p : Nat), p ≤ k ∧ vi = .int .i64 p ∧ Hid (wr.rowIs w.heap.size 2 k (fun x => .int .i64 (smF mm k f p 0 x))) ∧ Hid (Below w.heap.size w wr)) (fun vi _ => k - (intOf vi).toNat)
  case atStart => exact ⟨0, by omega, rfl, HR1, HB1⟩
  case round =>
    obtain ⟨p, hp, rfl, hrow, hb⟩ := hrel
    by_cases hpk : p < k
    · obtain ⟨g, o, c0, A3, c3, e1, hg, hcell, hnx⟩ := HN.out p hpk
      simp only [Value.slice.injEq] at e1
      obtain ⟨rfl, _, rfl⟩ := e1
      have d1 : wr.cell? ⟨g, o + p, none⟩ = _ := (hb.out.cell (p := ⟨g, o + p, none⟩) hg).trans hcell
      have HNX := Lib.hid hnx
      obtain ⟨N, hN⟩ : ∃ N, (prx mm k p).length = N := ⟨_, rfl⟩
      have HNE := Lib.hid hN
      rw [hN] at d1 HNX
      have hN400 : N ≤ 400 := by have := prx_len (m := mm) k p; omega
      have hfp := HFB.out p hpk
      have dB : wr.cell? ⟨b, 0, none⟩ = some (.slice (some ⟨ga, oa, none⟩) k cc) := by rw [hb.out.cell (p := ⟨b, 0, none⟩) hbb]; exact HBC.out
      have dV : wr.cell? ⟨ga, oa + p, none⟩ = some (.int .i64 (f p)) := by rw [hb.out.cell (p := ⟨ga, oa + p, none⟩) hga]; exact HV.out p hpk
      have hop := HB.out p hpk
      have HPS := Lib.hid (fun t => psO_range (t := t) HM.out hpk hfp.1 (fun x hx => (HB.out x hx).1))
      have HP0 : Hid (psO mm k f p 0 = f p) := Lib.hid (psO_zero _ _ _ _)
      obtain ⟨fp, hfe⟩ : ∃ x, f p = x := ⟨_, rfl⟩
      rw [hfe] at hfp dV HP0
      have hpk2 : (p : Int) < (k : Int) := by omega
      have hdst := hrow.out.cell hpk
      have hfz := hrow.out.frozen p
      have HRS : Hid ((wr.setCell ⟨w.heap.size, p, none⟩ (.int .i64 fp)).rowIs w.heap.size 2 k (fun x => .int .i64 (smF mm k f p (psO mm k f p 0) x))) := Lib.hid ((hrow.out.set p _).congr fun x hx => by
        rw [HP0.out, ← smF_set mm k f p 0 fp x]
        by_cases e : x = p
        · rw [if_pos e, if_pos e]
        · rw [if_neg e, if_neg e])
      have HBS : Hid (Below w.heap.size w (wr.setCell ⟨w.heap.size, p, none⟩ (.int .i64 fp))) := Lib.hid (hb.out.setCell (p := ⟨w.heap.size, p, none⟩) (Nat.le_refl _) _)
      have d2 : (wr.setCell ⟨w.heap.size, p, none⟩ (.int .i64 fp)).cell? ⟨g, o + p, none⟩ = some (.slice A3 N c3) := by rw [HBS.out.cell (p := ⟨g, o + p, none⟩) hg]; rw [hN] at hcell; exact hcell
      clear hcell hnx hN hfe

      go_wp2_with (go_at_call 64; refine (ordersOwn_any p k cc b ga oa fp wr dB hpk dV).mono ?_; rintro e w' ⟨rfl, rfl⟩)
      go_loopw [28] (fun vt wr => ∃ (t : Nat), t ≤ N ∧ vt = .int .i64 t ∧ Hid (wr.rowIs w.heap.size 2 k (fun x => .int .i64 (smF mm k f p (psO mm k f p t) x))) ∧ Hid (Below w.heap.size w wr)) (fun vt _ => N - (intOf vt).toNat)
      case atStart => exact ⟨0, by omega, rfl, HRS, HBS⟩
      case round =>
        obtain ⟨t, ht, rfl, hrow2, hb2⟩ := hrel
        by_cases htN : t < N
        · obtain ⟨g3, o3, i, rfl, hg3, hpi, hip, hc3⟩ := HNX.out t htN
          have d3 : wr.cell? ⟨g3, o3 + t, none⟩ = some (.int .i64 i) := (hb2.out.cell (p := ⟨g3, o3 + t, none⟩) hg3).trans hc3
          have d4 := hrow2.out.cell (i := i) (by omega)
          have d5 := hrow2.out.cell hpk
          have hfz2 := hrow2.out.frozen p
          rw [smF_old hip] at d4
          rw [smF_at] at d5
          have hoi := HB.out i (by omega)
          have hps := HPS.out t
          have HPX : Hid (psO mm k f p (t + 1) = psO mm k f p t + oD mm k f i) := Lib.hid (psO_next hpi)
          have hps2 := HPS.out (t + 1)
          rw [HPX.out] at hps2
          obtain ⟨oi, hoe⟩ : ∃ x, oD mm k f i = x := ⟨_, rfl⟩
          obtain ⟨st, hse⟩ : ∃ x, psO mm k f p t = x := ⟨_, rfl⟩
          rw [hoe] at d4 hoi HPX hps2
          have HSE := Lib.hid hse
          rw [hse] at d5 hps hps2 HPX
          have htN2 : (t : Int) < (N : Int) := by omega
          have hik2 : (i : Int) < (k : Int) := by omega
          have hst0 : (0 : Int) ≤ st := by omega
          have p1 : IntKind.i64.wrap (st + oi) = st + oi := IntWalk.i64_in _ (by omega)
          have HRN : Hid ((wr.drew.setCell ⟨w.heap.size, p, none⟩ (.int .i64 (st + oi))).rowIs w.heap.size 2 k (fun x => .int .i64 (smF mm k f p (psO mm k f p (t + 1)) x))) := Lib.hid ((World.rowIs.set (w := wr.drew) hrow2.out p _).congr fun x hx => by
            rw [HPX.out, ← smF_set mm k f p (psO mm k f p t) (st + oi) x]
            by_cases e : x = p
            · rw [if_pos e, if_pos e]
            · rw [if_neg e, if_neg e])
          have HBN : Hid (Below w.heap.size w (wr.drew.setCell ⟨w.heap.size, p, none⟩ (.int .i64 (st + oi)))) := Lib.hid (hb2.out.drew.setCell (p := ⟨w.heap.size, p, none⟩) (Nat.le_refl _) _)
          clear hpi hoe hse hc3
          go_wp2_with fail
          go_region
          all_goals
            go_wp2_with fail
            go_roundw
            case rel => exact ⟨t + 1, by omega, by go_num, HRN, HBN⟩
            case measure => simp [intOf]; omega
        · obtain rfl : t = N := by omega
          have HEN : Hid (psO mm k f p t = oD mm k f p) := Lib.hid (psO_end HM.out hpk HNE.out)
          have HRN : Hid (wr.rowIs w.heap.size 2 k (fun x => .int .i64 (smF mm k f (p + 1) 0 x))) := Lib.hid (hrow2.out.congr fun x hx => by rw [HEN.out, smF_next])
          have htt : ¬ (t : Int) < (t : Int) := by omega
          go_wp2_with fail
          go_roundw
          case rel => exact ⟨p + 1, by omega, by go_num, HRN, hb2⟩
          case measure => simp [intOf]; omega
    · obtain rfl : p = k := by omega
      have HOW : Hid (OwnI wr w.heap.size wr.heap.size (.slice (some ⟨w.heap.size, 0, none⟩) p p) (odL mm p f)) := Lib.hid (own_of_row (F := fun x => smF mm p f p 0 x) hrow.out (odL_len _ _ _) (fun x hx => by rw [smF_zero, if_pos hx, List.getD, odL_at hx]) (Nat.le_refl _) (by omega))
      go_wp2
      go_ret
      exact ⟨rfl, HOW.out, hb.out⟩

set_option maxRecDepth 100000 in
set_option maxHeartbeats 2000000 in
theorem sumsDiscr_any (v : Value) (mm : List Int) (k : Nat) (f : Nat → Int) (w : World) (h : ReadQ w w.heap.size v (prQ mm k)) (hM : MQ mm k) (hk1 : 1 ≤ k) (hk : k ≤ 400)
    (hf : ∀ j, j < k → 1 ≤ f j ∧ f j ≤ 64) (hb : ∀ j, j < k → 1 ≤ oD mm k f j ∧ oD mm k f j ≤ 1638400) (hv : ∀ j, j < k → f j = 1) :
    Calls Try.prog 62 #[v, .func (.func 88) #[] #[]] w fun e w' => e = .returned (.slice (some ⟨w.heap.size, 0, none⟩) k k) ∧ OwnI w' w.heap.size w'.heap.size (.slice (some ⟨w.heap.size, 0, none⟩) k k) (odL mm k f) ∧ Below w.heap.size w w' := by
  have HN := Lib.hid (fun j (hj : j < k) => near_row h hM hj)
  have HM := Lib.hid hM
  have HFB := Lib.hid hf
  have HB := Lib.hid hb
  have HV := Lib.hid hv
  have HBC : Hid (∀ x, x < k → True) := Lib.hid (fun _ _ => trivial)
  obtain ⟨A, c, rfl, _⟩ := h
  rw [prQ_len] at HN ⊢
  obtain ⟨W1, HE1⟩ : ∃ W, W = w.alloc (.cells (madeCells #[.int .i64 0] k) 2) := ⟨_, rfl⟩
  have HB1 : Hid (Below w.heap.size w W1) := Lib.hid (by rw [HE1]; exact below_box2 _ _)
  have HR1 : Hid (W1.rowIs w.heap.size 2 k (fun x => .int .i64 (smF mm k f 0 0 x))) := Lib.hid (by rw [HE1]; exact (World.rowIs_made _ _ _ _).congr fun x hx => by rw [smF_zero, if_neg (by omega)])
  have HEQ1 := Lib.hid HE1
  have hmk := fun (W : World) => run_make_row' (P := Try.prog) 24 2 (.int .i64 0) 8 Try.underlying24 int_info rfl .i64 .i64 k (by omega) (by omega) W
  clear hM hf hb hv HE1
  go_enter Try.func62, Try.ntmps62
  go_wp2
  rw [← HEQ1.out]
  clear hmk
  go_loopw [15] (fun vi wr => ∃ (p : Nat), p ≤ k ∧ vi = .int .i64 p ∧ Hid (wr.rowIs w.heap.size 2 k (fun x => .int .i64 (smF mm k f p 0 x))) ∧ Hid (Below w.heap.size w wr)) (fun vi _ => k - (intOf vi).toNat)
  case atStart => exact ⟨0, by omega, rfl, HR1, HB1⟩
  case round =>
    obtain ⟨p, hp, rfl, hrow, hb⟩ := hrel
    by_cases hpk : p < k
    · obtain ⟨g, o, c0, A3, c3, e1, hg, hcell, hnx⟩ := HN.out p hpk
      simp only [Value.slice.injEq] at e1
      obtain ⟨rfl, _, rfl⟩ := e1
      have d1 : wr.cell? ⟨g, o + p, none⟩ = _ := (hb.out.cell (p := ⟨g, o + p, none⟩) hg).trans hcell
      have HNX := Lib.hid hnx
      obtain ⟨N, hN⟩ : ∃ N, (prx mm k p).length = N := ⟨_, rfl⟩
      have HNE := Lib.hid hN
      rw [hN] at d1 HNX
      have hN400 : N ≤ 400 := by have := prx_len (m := mm) k p; omega
      have hfp := HFB.out p hpk
      have dV : f p = 1 := HV.out p hpk
      have hop := HB.out p hpk
      have HPS := Lib.hid (fun t => psO_range (t := t) HM.out hpk hfp.1 (fun x hx => (HB.out x hx).1))
      have HP0 : Hid (psO mm k f p 0 = f p) := Lib.hid (psO_zero _ _ _ _)
      obtain ⟨fp, hfe⟩ : ∃ x, f p = x := ⟨_, rfl⟩
      rw [hfe] at hfp dV HP0
      have hpk2 : (p : Int) < (k : Int) := by omega
      have hdst := hrow.out.cell hpk
      have hfz := hrow.out.frozen p
      have HRS : Hid ((wr.setCell ⟨w.heap.size, p, none⟩ (.int .i64 fp)).rowIs w.heap.size 2 k (fun x => .int .i64 (smF mm k f p (psO mm k f p 0) x))) := Lib.hid ((hrow.out.set p _).congr fun x hx => by
        rw [HP0.out, ← smF_set mm k f p 0 fp x]
        by_cases e : x = p
        · rw [if_pos e, if_pos e]
        · rw [if_neg e, if_neg e])
      have HBS : Hid (Below w.heap.size w (wr.setCell ⟨w.heap.size, p, none⟩ (.int .i64 fp))) := Lib.hid (hb.out.setCell (p := ⟨w.heap.size, p, none⟩) (Nat.le_refl _) _)
      have d2 : (wr.setCell ⟨w.heap.size, p, none⟩ (.int .i64 fp)).cell? ⟨g, o + p, none⟩ = some (.slice A3 N c3) := by rw [HBS.out.cell (p := ⟨g, o + p, none⟩) hg]; rw [hN] at hcell; exact hcell
      clear hcell hnx hN hfe
      subst dV
      go_wp2_with (go_at_call 88; refine (discrOwn_any p wr).mono ?_; rintro e w' ⟨rfl, rfl⟩)
      go_loopw [28] (fun vt wr => ∃ (t : Nat), t ≤ N ∧ vt = .int .i64 t ∧ Hid (wr.rowIs w.heap.size 2 k (fun x => .int .i64 (smF mm k f p (psO mm k f p t) x))) ∧ Hid (Below w.heap.size w wr)) (fun vt _ => N - (intOf vt).toNat)
      case atStart => exact ⟨0, by omega, rfl, HRS, HBS⟩
      case round =>
        obtain ⟨t, ht, rfl, hrow2, hb2⟩ := hrel
        by_cases htN : t < N
        · obtain ⟨g3, o3, i, rfl, hg3, hpi, hip, hc3⟩ := HNX.out t htN
          have d3 : wr.cell? ⟨g3, o3 + t, none⟩ = some (.int .i64 i) := (hb2.out.cell (p := ⟨g3, o3 + t, none⟩) hg3).trans hc3
          have d4 := hrow2.out.cell (i := i) (by omega)
          have d5 := hrow2.out.cell hpk
          have hfz2 := hrow2.out.frozen p
          rw [smF_old hip] at d4
          rw [smF_at] at d5
          have hoi := HB.out i (by omega)
          have hps := HPS.out t
          have HPX : Hid (psO mm k f p (t + 1) = psO mm k f p t + oD mm k f i) := Lib.hid (psO_next hpi)
          have hps2 := HPS.out (t + 1)
          rw [HPX.out] at hps2
          obtain ⟨oi, hoe⟩ : ∃ x, oD mm k f i = x := ⟨_, rfl⟩
          obtain ⟨st, hse⟩ : ∃ x, psO mm k f p t = x := ⟨_, rfl⟩
          rw [hoe] at d4 hoi HPX hps2
          have HSE := Lib.hid hse
          rw [hse] at d5 hps hps2 HPX
          have htN2 : (t : Int) < (N : Int) := by omega
          have hik2 : (i : Int) < (k : Int) := by omega
          have hst0 : (0 : Int) ≤ st := by omega
          have p1 : IntKind.i64.wrap (st + oi) = st + oi := IntWalk.i64_in _ (by omega)
          have HRN : Hid ((wr.drew.setCell ⟨w.heap.size, p, none⟩ (.int .i64 (st + oi))).rowIs w.heap.size 2 k (fun x => .int .i64 (smF mm k f p (psO mm k f p (t + 1)) x))) := Lib.hid ((World.rowIs.set (w := wr.drew) hrow2.out p _).congr fun x hx => by
            rw [HPX.out, ← smF_set mm k f p (psO mm k f p t) (st + oi) x]
            by_cases e : x = p
            · rw [if_pos e, if_pos e]
            · rw [if_neg e, if_neg e])
          have HBN : Hid (Below w.heap.size w (wr.drew.setCell ⟨w.heap.size, p, none⟩ (.int .i64 (st + oi)))) := Lib.hid (hb2.out.drew.setCell (p := ⟨w.heap.size, p, none⟩) (Nat.le_refl _) _)
          clear hpi hoe hse hc3
          go_wp2_with fail
          go_region
          all_goals
            go_wp2_with fail
            go_roundw
            case rel => exact ⟨t + 1, by omega, by go_num, HRN, HBN⟩
            case measure => simp [intOf]; omega
        · obtain rfl : t = N := by omega
          have HEN : Hid (psO mm k f p t = oD mm k f p) := Lib.hid (psO_end HM.out hpk HNE.out)
          have HRN : Hid (wr.rowIs w.heap.size 2 k (fun x => .int .i64 (smF mm k f (p + 1) 0 x))) := Lib.hid (hrow2.out.congr fun x hx => by rw [HEN.out, smF_next])
          have htt : ¬ (t : Int) < (t : Int) := by omega
          go_wp2_with fail
          go_roundw
          case rel => exact ⟨p + 1, by omega, by go_num, HRN, hb2⟩
          case measure => simp [intOf]; omega
    · obtain rfl : p = k := by omega
      have HOW : Hid (OwnI wr w.heap.size wr.heap.size (.slice (some ⟨w.heap.size, 0, none⟩) p p) (odL mm p f)) := Lib.hid (own_of_row (F := fun x => smF mm p f p 0 x) hrow.out (odL_len _ _ _) (fun x hx => by rw [smF_zero, if_pos hx, List.getD, odL_at hx]) (Nat.le_refl _) (by omega))
      go_wp2
      go_ret
      exact ⟨rfl, HOW.out, hb.out⟩

set_option maxRecDepth 100000 in
set_option maxHeartbeats 1000000 in
/-- slices.Max of numbers within bounds is within them. -/
theorem max_any (v : Value) (L : List Int) (lo hi : Int) (w : World) (B : Nat) (h : ReadI w B v L) (h0 : 0 < L.length) (hn : L.length ≤ 1048576) (hb : ∀ j, j < L.length → lo ≤ L[j]?.getD 0 ∧ L[j]?.getD 0 ≤ hi) (hl : -9223372036854775808 ≤ lo) (hh : hi ≤ 9223372036854775807) :
    Calls Try.prog 89 #[v] w fun e w' => ∃ x, e = .returned (.int .i64 x) ∧ (lo ≤ x ∧ x ≤ hi) ∧ w = w' := by
  obtain ⟨n, A, c, rfl, hr, HL, _, hnc, HF, hcm⟩ := h.split2
  have HB : Hid (∀ j, j < n → lo ≤ L[j]?.getD 0 ∧ L[j]?.getD 0 ≤ hi) := Lib.hid (by rw [← HL.out]; exact hb)
  rw [HL.out] at h0 hn
  have HR := Lib.hid hr
  obtain ⟨a, rfl, hal, hc0⟩ := hr.2 0 h0
  obtain ⟨g, o, rfl⟩ := HF.out a rfl
  have HC : Hid (∀ j, j < n → w.cell? ⟨g, o + j, none⟩ = some (.int .i64 (L[j]?.getD 0))) := Lib.hid fun j hj => by
    obtain ⟨a', e', _, hc'⟩ := HR.out.2 j hj
    cases e'
    rw [add_lit] at hc'
    simpa using hc'
  have d0 := HC.out 0 h0
  have hb0 := HB.out 0 h0
  rw [Nat.add_zero] at d0
  obtain ⟨z0, hz0⟩ : ∃ z, L[0]?.getD 0 = z := ⟨_, rfl⟩
  rw [hz0] at d0 hb0
  have h0i : ¬ (n : Int) < 1 := by omega
  have hmx := @run_max_int2 Try.prog
  clear h hr hc0 hal hb hz0
  go_enter Try.func89, Try.ntmps89
  go_wp2
  go_loop [3, 4] (fun vm vi => ∃ (j : Nat) (x : Int), j ≤ n ∧ (lo ≤ x ∧ x ≤ hi) ∧ vm = .int .i64 x ∧ vi = .int .i64 j) (fun _ vi => n - (intOf vi).toNat)
  case atStart => exact ⟨1, z0, by omega, by omega, rfl, rfl⟩
  case round =>
    obtain ⟨j, x, hj, hx, rfl, rfl⟩ := hrel
    by_cases hjn : j < n
    · have d1 := HC.out j hjn
      have hb1 := HB.out j hjn
      obtain ⟨z, hz⟩ : ∃ z, L[j]?.getD 0 = z := ⟨_, rfl⟩
      rw [hz] at d1 hb1
      have hjn2 : (j : Int) < (n : Int) := by omega
      clear hz
      by_cases hxz : x < z
      · go_wp2
        go_round
        case rel => exact ⟨j + 1, z, by omega, by omega, rfl, by go_num⟩
        case measure => simp [intOf]; omega
      · go_wp2
        go_round
        case rel => exact ⟨j + 1, x, by omega, by omega, rfl, by go_num⟩
        case measure => simp [intOf]; omega
    · obtain rfl : j = n := by omega
      go_wp2
      go_ret
      exact ⟨x, rfl, hx, rfl⟩

set_option maxRecDepth 100000 in
set_option maxHeartbeats 1000000 in
theorem index_no (v : Value) (L : List Int) (x : Int) (w : World) (B : Nat) (h : ReadI w B v L) (hn : L.length ≤ 1048576) (hb : ∀ j, j < L.length → L[j]?.getD 0 ≠ x) :
    Calls Try.prog 109 #[v, .int .i64 x] w fun e w' => e = .returned (.int .i64 (-1)) ∧ w = w' := by
  obtain ⟨n, A, c, rfl, hr, HL, _, hnc, HF, hcm⟩ := h.split2
  have HB : Hid (∀ j, j < n → L[j]?.getD 0 ≠ x) := Lib.hid (by rw [← HL.out]; exact hb)
  rw [HL.out] at hn
  have HR := Lib.hid hr
  clear h hr hb
  go_enter Try.func109, Try.ntmps109
  go_wp2
  go_loop [5] (fun vi => ∃ (j : Nat), j ≤ n ∧ vi = .int .i64 j) (fun vi => n - (intOf vi).toNat)
  case atStart => exact ⟨0, by omega, rfl⟩
  case round =>
    obtain ⟨j, hj, rfl⟩ := hrel
    by_cases hjn : j < n
    · obtain ⟨a, rfl, hal, hc0⟩ := HR.out.2 j hjn
      have d1 : w.cell? (a.add j) = some (.int .i64 (L[j]?.getD 0)) := by simpa using hc0
      have hne := HB.out j hjn
      obtain ⟨z, hz⟩ : ∃ z, L[j]?.getD 0 = z := ⟨_, rfl⟩
      rw [hz] at d1 hne
      have hneb : (z == x) = false := by simpa using hne
      have hjn2 : (j : Int) < (n : Int) := by omega
      clear hz hc0
      go_wp2
      go_round
      case rel => exact ⟨j + 1, by omega, by go_num⟩
      case measure => simp [intOf]; omega
    · obtain rfl : j = n := by omega
      go_wp2
      go_ret
      exact ⟨rfl, rfl⟩
theorem has_no (v : Value) (L : List Int) (x : Int) (w : World) (B : Nat) (h : ReadI w B v L) (hn : L.length ≤ 1048576) (hb : ∀ j, j < L.length → L[j]?.getD 0 ≠ x) :
    Calls Try.prog 90 #[v, .int .i64 x] w fun e w' => e = .returned (.bool false) ∧ w = w' := by
  have H0 := Lib.hid h
  have HB := Lib.hid hb
  clear h hb
  go_enter Try.func90, Try.ntmps90
  go_wp2_with fail
  refine (index_no v L x w B H0.out hn HB.out).mono ?_
  rintro e w' ⟨rfl, rfl⟩
  go_wp2_with fail
  go_ret
  exact ⟨rfl, rfl⟩
end Go.Proofs.Ytoebbhicffgdgaa
