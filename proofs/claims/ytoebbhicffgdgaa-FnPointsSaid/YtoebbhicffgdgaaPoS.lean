/- Orders and discrepancies, the model's: contracts of spec.l06Sums, spec.l06Ones. Conditions: stated at each theorem. -/
import Derived.Test.YtoebbhicffgdgaaPtW
import Derived.Test.YtoebbhicffgdgaaPoM
import Derived.Test.YtoebbhicffgdgaaGw
namespace Go.Proofs.Ytoebbhicffgdgaa
open Go.ChangeShapes Go.WideShapes Go.ChangeAt Go.RowKit Go.Deep
set_option linter.unusedVariables false
set_option linter.unusedSimpArgs false

/-- The sum of a point's own number and of the first t results that it wants. -/
def psO (m : List Int) (n : Nat) (f : Nat → Int) (j t : Nat) : Int := f j + (((prx m n j).take t).map fun i => oD m n f i.toNat).sum
theorem psO_zero (m : List Int) (n : Nat) (f : Nat → Int) (j : Nat) : psO m n f j 0 = f j := by simp [psO]
theorem psO_end {m : List Int} {n j N : Nat} {f : Nat → Int} (h : MQ m n) (hj : j < n) (hN : (prx m n j).length = N) : psO m n f j N = oD m n f j := by
  unfold psO; rw [oD_eq h hj, List.take_of_length_le (by omega)]
theorem psO_next {m : List Int} {n j t i : Nat} {f : Nat → Int} (hi : (prx m n j)[t]? = some (i : Int)) : psO m n f j (t + 1) = psO m n f j t + oD m n f i := by
  unfold psO
  rw [List.take_add_one, hi]
  simp [Int.add_assoc]
theorem take_sum_nn : ∀ {L : List Int}, (∀ x ∈ L, 0 ≤ x) → ∀ t, 0 ≤ (L.take t).sum ∧ (L.take t).sum ≤ L.sum
  | [], _, t => by simp
  | x :: L, h, 0 => by
    have h1 := h x (by simp)
    have h2 := (take_sum_nn (L := L) (fun y hy => h y (by simp [hy])) L.length).1
    rw [List.take_length] at h2
    simp; omega
  | x :: L, h, t + 1 => by
    have h1 := h x (by simp)
    have h2 := take_sum_nn (L := L) (fun y hy => h y (by simp [hy])) t
    simp; omega
theorem psO_range {m : List Int} {n j t : Nat} {f : Nat → Int} (h : MQ m n) (hj : j < n) (hf : 1 ≤ f j) (hp : ∀ j, j < n → 1 ≤ oD m n f j) : 1 ≤ psO m n f j t ∧ psO m n f j t ≤ oD m n f j := by
  have h1 : ∀ x ∈ (prx m n j).map (fun i => oD m n f i.toNat), 0 ≤ x := fun x hx => by
    obtain ⟨i, hi, rfl⟩ := List.mem_map.1 hx
    have := prx_mem h hj i hi
    have := hp i.toNat (by omega)
    omega
  have h2 := take_sum_nn h1 t
  rw [← List.map_take] at h2
  unfold psO
  rw [oD_eq h hj]
  omega
theorem odN_next {m : List Int} {n j : Nat} {f : Nat → Int} : odN m n f (j + 1) = odN m n f j ++ [oD m n f j] := by
  show odN m n f j ++ [_] = _
  congr 2
  unfold oD
  show _ = (odN m n f j ++ [_])[j]?.getD 0
  rw [List.getElem?_append_right (by rw [odN_len]; exact Nat.le_refl _), odN_len]
  simp
theorem odN_at {m : List Int} {n j i : Nat} {f : Nat → Int} (h : i < j) : (odN m n f j)[i]?.getD 0 = oD m n f i := by unfold oD; rw [odN_get m n f h]

set_option maxRecDepth 100000 in
set_option maxHeartbeats 2000000 in
theorem l06Sums_any (vc vo : Value) (mm OW : List Int) (k : Nat) (f : Nat → Int) (w : World) (hc : ReadI w w.heap.size vc (cdL mm k)) (ho : ReadI w w.heap.size vo OW) (hlo : OW.length = k) (hfo : ∀ j, j < k → OW[j]?.getD 0 = f j) (hM : MQ mm k) (hk : k ≤ 400)
    (hf : ∀ j, j < k → 1 ≤ f j ∧ f j ≤ 64) (hb : ∀ j, j < k → 1 ≤ oD mm k f j ∧ oD mm k f j ≤ 1638400) :
    Calls Try.prog 66 #[vc, vo] w fun e w' => ∃ A c, e = .returned (.slice A k c) ∧ OwnI w' w.heap.size w'.heap.size (.slice A k c) (odL mm k f) ∧ Below w.heap.size w w' := by
  obtain ⟨n, A1, c1, rfl, hr, HL, _, hnc, HF, hcm⟩ := ho.split2
  have hnk : n = k := by rw [← HL.out, hlo]
  subst hnk
  have HR := Lib.hid hr
  have HCD := Lib.hid hc
  obtain ⟨nc, A2, c2, rfl, _⟩ := hc.split2
  have HFO := Lib.hid hfo
  have HM := Lib.hid hM
  have HFB := Lib.hid hf
  have HB := Lib.hid hb
  have HG0 : Hid (Gw (w.alloc (.cells #[] 2)) (w.alloc (.cells #[] 2)) w.heap.size (.slice (some ⟨w.heap.size, 0, none⟩) 0 0) (odN mm n f 0)) := Lib.hid (Gw.start (OwnI.mk' (n := 0) (World.ownsRow_lit w #[] 0 (Nat.le_refl _) (by simp [maxLen]) rfl)) (fun b e => by cases e; rfl) (by simp))
  have HOW0 : Hid (OwnI (w.alloc (.cells #[] 2)) w.heap.size (w.alloc (.cells #[] 2)).heap.size (.slice (some ⟨w.heap.size, 0, none⟩) 0 0) (odN mm n f 0)) := Lib.hid HG0.out.own
  have HB0 : Hid (Below w.heap.size w (w.alloc (.cells #[] 2))) := Lib.hid (below_box2 _ _)
  obtain ⟨i0, hi0, hz0, hz1, hz2⟩ := info_parts int_info
  clear ho hr hc hfo hM hf hb hlo HG0
  go_enter Try.func66, Try.ntmps66
  go_wp2
  go_loopw [5, 6] (fun vo vj wr => ∃ (j : Nat) (A : Option Addr) (c' : Nat), j ≤ n ∧ vo = .slice A j c' ∧ vj = .int .i64 j ∧ Hid (OwnI wr w.heap.size wr.heap.size (.slice A j c') (odN mm n f j)) ∧ Hid (Below w.heap.size w wr)) (fun _ vj _ => n - (intOf vj).toNat)
  case atStart => exact ⟨0, _, _, by omega, rfl, rfl, HOW0, HB0⟩
  case round =>
    obtain ⟨j, A, c', hj, rfl, rfl, how, hb⟩ := hrel
    by_cases hjn : j < n
    · obtain ⟨a, rfl, hal, hc0⟩ := HR.out.2 j hjn
      obtain ⟨ga, oa, rfl⟩ := HF.out a rfl
      have hgw : ga < w.heap.size := hal
      rw [add_lit] at hc0
      have d1 : wr.cell? ⟨ga, oa + j, none⟩ = some (.int .i64 (f j)) := by
        rw [hb.out.cell (p := ⟨ga, oa + j, none⟩) hgw, ← HFO.out j hjn]; simpa using hc0
      have hjn2 : (j : Int) < (n : Int) := by omega
      have HRD : Hid (ReadI wr.drew wr.drew.heap.size (.slice A2 nc c2) (cdL mm n)) := Lib.hid (((HCD.out.below hb.out).more hb.out.size).below (drewN_below wr 1))
      have HPN := Lib.hid (prx_near HM.out hjn)
      have hfj := HFB.out j hjn
      have hoj := HB.out j hjn
      have HPS := Lib.hid (fun t => psO_range (t := t) HM.out hjn hfj.1 (fun x hx => (HB.out x hx).1))
      obtain ⟨fj, hfe⟩ : ∃ x, f j = x := ⟨_, rfl⟩
      have HFE := Lib.hid hfe
      rw [hfe] at d1 hfj
      have HP0 : Hid (psO mm n f j 0 = fj) := Lib.hid (by rw [psO_zero, hfe])
      clear hc0 hal hfe
      go_wp2_with fail
      refine wp_region_held_drew (S := fun w' => w'.cell? ⟨ga, oa + j, none⟩ = some (.int .i64 fj)) (by kernel_rfl) (d1) (fun hHeld => ?_)
      refine takeY 0 _ (v := ?_) rfl rfl (by kernel_rfl) (by kernel_rfl) (by kernel_rfl) (fun _ _ _ h => h) (by kernel_rfl) ?_ (by assumption) ?_
      rotate_left 1
      · intro w hSw; (try dsimp only at hSw); go_simp; (try with_reducible rfl)
      try simp only [Act.put, List.setIfInBounds_toArray, List.set_cons_zero, List.set_cons_succ]
      refine takeY 1 _ (v := ?_) rfl rfl (by kernel_rfl) (by kernel_rfl) (by kernel_rfl) (fun _ _ _ h => h) (by kernel_rfl) ?_ (by assumption) ?_
      rotate_left 1
      · intro w hSw; (try dsimp only at hSw); go_simp; (try with_reducible rfl)
      try simp only [Act.put, List.setIfInBounds_toArray, List.set_cons_zero, List.set_cons_succ]
      refine takeY 3 _ (v := ?_) rfl rfl (by kernel_rfl) (by kernel_rfl) (by kernel_rfl) (fun _ _ _ h => h) (by kernel_rfl) ?_ (by assumption) ?_
      rotate_left 1
      · intro w hSw; (try dsimp only at hSw); go_simp; (try with_reducible rfl)
      try simp only [Act.put, List.setIfInBounds_toArray, List.set_cons_zero, List.set_cons_succ]
      refine takeY 4 _ (v := ?_) rfl rfl (by kernel_rfl) (by kernel_rfl) (by kernel_rfl) (fun _ _ _ h => h) (by kernel_rfl) ?_ (by assumption) ?_
      rotate_left 1
      · intro w hSw; (try dsimp only at hSw); go_simp; (try with_reducible rfl)
      try simp only [Act.put, List.setIfInBounds_toArray, List.set_cons_zero, List.set_cons_succ]
      refine takeY 5 _ (v := ?_) rfl rfl (by kernel_rfl) (by kernel_rfl) (by kernel_rfl) (fun _ _ _ h => h) (by kernel_rfl) ?_ (by assumption) ?_
      rotate_left 1
      · intro w hSw; (try dsimp only at hSw); go_simp; (try with_reducible rfl)
      try simp only [Act.put, List.setIfInBounds_toArray, List.set_cons_zero, List.set_cons_succ]
      refine takeY 6 _ (v := ?_) rfl rfl (by kernel_rfl) (by kernel_rfl) (by kernel_rfl) (fun _ _ _ h => h) (by kernel_rfl) ?_ (by assumption) ?_
      rotate_left 1
      · intro w hSw; (try dsimp only at hSw); go_simp; (try with_reducible rfl)
      try simp only [Act.put, List.setIfInBounds_toArray, List.set_cons_zero, List.set_cons_succ]
      refine wpAnyH_ready (rs := [2]) (by kernel_rfl) (by simp) ?_
      refine AllReadyH.cons rfl (fun K hK => ?_) AllReadyH.nil
      go_simp
      refine (l06Near_any _ (cdL mm n) j (cdI mm n j) wr.drew _ HRD.out (by rw [cdL_len]; omega) (by rw [cdL_len]; omega) (fun h0 => by rw [cdL_at (by omega)]; congr 1; omega) HPN.out.2).mono ?_
      rintro e w3 ⟨A3, c3, rfl, ho3, hb3⟩
      have d3 : w3.cell? ⟨ga, oa + j, none⟩ = some (.int .i64 fj) := by rw [hb3.cell (p := ⟨ga, oa + j, none⟩) (Nat.lt_of_lt_of_le hgw hb.out.size)]; exact d1
      refine hK.out _ _ d3 (fun hHeld => ?_)
      clear hK K
      try simp only [Act.put, List.setIfInBounds_toArray, List.set_cons_zero, List.set_cons_succ]
      refine takeY 7 _ (v := ?_) rfl rfl (by kernel_rfl) (by kernel_rfl) (by kernel_rfl) (fun _ _ _ h => h) (by kernel_rfl) ?_ (by assumption) ?_
      rotate_left 1
      · intro w hSw; (try dsimp only at hSw); go_simp; (try with_reducible rfl)
      try simp only [Act.put, List.setIfInBounds_toArray, List.set_cons_zero, List.set_cons_succ]
      refine takeY 8 _ (v := ?_) rfl rfl (by kernel_rfl) (by kernel_rfl) (by kernel_rfl) (fun _ _ _ h => h) (by kernel_rfl) ?_ (by assumption) ?_
      rotate_left 1
      · intro w hSw; (try dsimp only at hSw); go_simp; (try with_reducible rfl)
      try simp only [Act.put, List.setIfInBounds_toArray, List.set_cons_zero, List.set_cons_succ]
      refine wpAnyH_done (by kernel_rfl) ?_ _
      have HB3 : Hid (Below wr.heap.size wr w3) := Lib.hid ((drewN_below wr 1).trans hb3)
      rw [← HPN.out.1] at ho3
      obtain ⟨N, hN⟩ : ∃ N, (prx mm n j).length = N := ⟨_, rfl⟩
      have HNE := Lib.hid hN
      have hN2 : N ≤ 2 := by rw [← hN, HPN.out.1]; exact nearL_len _ _
      have hNL : (nearL (cdI mm n j) j).length = N := by rw [← HPN.out.1, hN]
      rw [hNL]
      rw [hN] at ho3
      have HNC : Hid (∀ t, t < N → ∃ (g i : Nat), A3 = some ⟨g, 0, none⟩ ∧ (prx mm n j)[t]? = some (i : Int) ∧ i < j ∧ w3.cell? ⟨g, t, none⟩ = some (.int .i64 i)) := Lib.hid fun t ht => by
        obtain ⟨g, e1, _, _, h5, _⟩ := own_at ho3 hN ht
        have hlt : t < (prx mm n j).length := by omega
        have hm := prx_mem HM.out hjn _ (List.getElem_mem hlt)
        obtain ⟨i, hi⟩ : ∃ i : Nat, (prx mm n j)[t] = (i : Int) := ⟨((prx mm n j)[t]).toNat, by omega⟩
        rw [hi] at hm
        refine ⟨g, i, e1, by simp [hlt, hi], by omega, ?_⟩
        rw [h5]; simp [hlt, hi]
      have HOW3 : Hid (OwnI w3 w.heap.size w3.heap.size (.slice A j c') (odN mm n f j)) := Lib.hid (OwnI.raise (how.out.kept (Kept.of_below HB3.out (Nat.le_refl _))) HB3.out.size (Nat.le_refl _))
      have HBW : Hid (Below w.heap.size w w3) := Lib.hid (hb.out.trans (HB3.out.mono hb.out.size))
      clear ho3 hb3 hHeld d3 hN hNL
      go_wp2_with fail
      go_loop [8, 9] (fun vs vi => ∃ (t : Nat), t ≤ N ∧ vs = .int .i64 (psO mm n f j t) ∧ vi = .int .i64 t) (fun _ vi => N - (intOf vi).toNat)
      case atStart => exact ⟨0, by omega, by rw [HP0.out], rfl⟩
      case round =>
        obtain ⟨t, ht, rfl, rfl⟩ := hrel
        have hps := HPS.out t
        by_cases htN : t < N
        · obtain ⟨gn, i, rfl, hpi, hij, hcn⟩ := HNC.out t htN
          obtain ⟨go, rfl, _, _, hco, _⟩ := own_at HOW3.out (odN_len _ _ _ _) hij
          rw [odN_at hij] at hco
          have hoi := HB.out i (by omega)
          have HPX : Hid (psO mm n f j (t + 1) = psO mm n f j t + oD mm n f i) := Lib.hid (psO_next hpi)
          have hps2 := HPS.out (t + 1)
          rw [HPX.out] at hps2
          obtain ⟨oi, hoe⟩ : ∃ x, oD mm n f i = x := ⟨_, rfl⟩
          obtain ⟨st, hse⟩ : ∃ x, psO mm n f j t = x := ⟨_, rfl⟩
          rw [hoe] at hco hoi HPX hps2
          rw [hse] at hps hps2 HPX ⊢
          have htN2 : (t : Int) < (N : Int) := by omega
          have hij2 : (i : Int) < (j : Int) := by omega
          have hst0 : (0 : Int) ≤ st := by omega
          have hoi0 : ¬ oi < 0 := by omega
          clear hpi hoe hse
          go_wp2_with fail
          go_round
          case rel => exact ⟨t + 1, by omega, by rw [HPX.out], by go_num⟩
          case measure => simp [intOf]; omega
        · obtain rfl : t = N := by omega
          have HEN : Hid (psO mm n f j t = oD mm n f j) := Lib.hid (psO_end HM.out hjn HNE.out)
          rw [HEN.out]
          have HNX : Hid (odN mm n f (j + 1) = odN mm n f j ++ [oD mm n f j]) := Lib.hid odN_next
          obtain ⟨oj, hoe⟩ : ∃ x, oD mm n f j = x := ⟨_, rfl⟩
          rw [hoe] at hoj HNX ⊢
          have hbig : ¬ 1000000000000 < oj := by omega
          have htt : ¬ (t : Int) < (t : Int) := by omega
          obtain ⟨X, HXe⟩ : ∃ X, X = (odN mm n f j).map (Value.int .i64) := ⟨_, rfl⟩
          have hown := HOW3.out.1
          rw [odN_len, ← HXe] at hown
          have HOW : Hid (Own w3 w.heap.size (.slice A j c') j X) := Lib.hid hown
          have HXE := Lib.hid HXe
          have hbs3 := HBW.out.size
          clear hown HXe hoe hps HEN
          go_wp2_with (at_builtin; (refine wpList_append_own _ rfl _ _ 24 rfl w.heap.size 2 i0 (.int .i64 0) 1 8 Try.underlying24 hi0 hz0 hz1 hz2 rfl (by decide) _ j X rfl (World.ownsRow.alloc HOW.out _) ⟨w3.heap.size, 0, none⟩ 1 1 [.int .i64 oj] rfl rfl (World.news_of_block (cs := #[.int .i64 oj]) (t := 2) (fr := (0, 0)) (heap_alloc_new w3 _)) (by simp [Value.oneCell']) (by simp only [maxLen]; omega) (by omega) (by simp; omega) ?_; intro v1 w4 hown1 hgrow _; obtain ⟨A4, c4, rfl⟩ := own_form hown1; have HO4 := Lib.hid hown1; have HB4 := Lib.hid ((HBW.out.alloc hbs3 _).grown hgrow (by simp; omega) (fun kk hkk => (World.ownsRow.lt HOW.out kk hkk).1)); clear hown1 hgrow))
          go_roundw
          case rel => exact ⟨j + 1, A4, c4, by omega, rfl, by go_num, Lib.hid (by rw [HNX.out]; exact OwnI.mk' (n := j + 1) (by rw [List.map_append, ← HXE.out]; exact HO4.out)), HB4⟩
          case measure => simp [intOf]; omega
    · obtain rfl : j = n := by omega
      go_wp2
      go_ret
      exact ⟨A, c', rfl, how.out, hb.out⟩

set_option maxRecDepth 100000 in
set_option maxHeartbeats 1000000 in
theorem l06Ones_any (k : Nat) (w : World) (hk : k ≤ 1000) :
    Calls Try.prog 83 #[.int .i64 k] w fun e w' => ∃ A c, e = .returned (.slice A k c) ∧ OwnI w' w.heap.size w'.heap.size (.slice A k c) (List.replicate k 1) ∧ Below w.heap.size w w' := by
  have HOW0 : Hid (OwnI (w.alloc (.cells #[] 2)) w.heap.size (w.alloc (.cells #[] 2)).heap.size (.slice (some ⟨w.heap.size, 0, none⟩) 0 0) (List.replicate 0 1)) := Lib.hid (OwnI.mk' (n := 0) (World.ownsRow_lit w #[] 0 (Nat.le_refl _) (by simp [maxLen]) rfl))
  have HB0 : Hid (Below w.heap.size w (w.alloc (.cells #[] 2))) := Lib.hid (below_box2 _ _)
  obtain ⟨i0, hi0, hz0, hz1, hz2⟩ := info_parts int_info
  go_enter Try.func83, Try.ntmps83
  go_wp2
  go_loopw [0, 3] (fun vk vo wr => ∃ (t : Nat) (A : Option Addr) (c' : Nat), t ≤ k ∧ vo = .slice A t c' ∧ vk = .int .i64 ((k : Int) - (t : Int)) ∧ Hid (OwnI wr w.heap.size wr.heap.size (.slice A t c') (List.replicate t 1)) ∧ Hid (Below w.heap.size w wr)) (fun vk _ _ => (intOf vk).toNat)
  case atStart => exact ⟨0, _, _, by omega, rfl, by simp, HOW0, HB0⟩
  case round =>
    obtain ⟨t, A, c', ht, rfl, rfl, how, hb⟩ := hrel
    by_cases htk : t < k
    · have hq1 : (0 : Int) < (k : Int) - (t : Int) := by omega
      have hw1 : IntKind.i64.wrap ((k : Int) - (t : Int) - 1) = (k : Int) - ((t + 1 : Nat) : Int) := by rw [IntWalk.i64_in _ (by omega)]; omega
      have HW := Lib.hid hw1
      obtain ⟨X, HXe⟩ : ∃ X, X = (List.replicate t 1).map (Value.int .i64) := ⟨_, rfl⟩
      have hown := how.out.1
      rw [List.length_replicate, ← HXe] at hown
      have HOW : Hid (Own wr w.heap.size (.slice A t c') t X) := Lib.hid hown
      have HXE := Lib.hid HXe
      have hbs3 := hb.out.size
      clear hown HXe hw1
      go_wp2_with (at_builtin; (refine wpList_append_own _ rfl _ _ 24 rfl w.heap.size 2 i0 (.int .i64 0) 1 8 Try.underlying24 hi0 hz0 hz1 hz2 rfl (by decide) _ t X rfl (World.ownsRow.alloc HOW.out _) ⟨wr.heap.size, 0, none⟩ 1 1 [.int .i64 1] rfl rfl (World.news_of_block (cs := #[.int .i64 1]) (t := 2) (fr := (0, 0)) (heap_alloc_new wr _)) (by simp [Value.oneCell']) (by simp only [maxLen]; omega) (by omega) (by simp; omega) ?_; intro v1 w4 hown1 hgrow _; obtain ⟨A4, c4, rfl⟩ := own_form hown1; have HO4 := Lib.hid hown1; have HB4 := Lib.hid ((hb.out.alloc hbs3 _).grown hgrow (by simp; omega) (fun kk hkk => (World.ownsRow.lt HOW.out kk hkk).1)); clear hown1 hgrow))
      go_roundw
      case rel => exact ⟨t + 1, A4, c4, by omega, rfl, vintS (by omega), Lib.hid (by
        have e : List.replicate (t + 1) (1 : Int) = List.replicate t 1 ++ [1] := List.replicate_succ'
        rw [e]; exact OwnI.mk' (n := t + 1) (by rw [List.map_append, ← HXE.out]; exact HO4.out)), HB4⟩
      case measure => simp [intOf]; omega
    · obtain rfl : t = k := by omega
      go_wp2
      go_ret
      exact ⟨A, c', rfl, how.out, hb.out⟩
end Go.Proofs.Ytoebbhicffgdgaa
