/- The model's pairs of a branch: contract of spec.l03Newton. Conditions: stated at the theorem. -/
import Derived.Test.YtmpbigkaadmihaaPrS
import Derived.Test.YtmpbigkaadmihaaBrV
import Derived.Test.YtmpbigkaadmihaaMan
namespace Go.Proofs.Ytmpbigkaadmihaa
open Go.ChangeShapes Go.WideShapes Go.ChangeAt Go.RowKit
set_option linter.unusedVariables false
set_option linter.unusedSimpArgs false

/-- The Newton pair with the index i. -/
def npF (zs : List Int) (i : Nat) : Int × Int := ((zs[i + 1]?.getD 0 - if i = 0 then 0 else zs[i]?.getD 0).tdiv ((dvL 0 zs)[i + 1]?.getD 0), ((dvL 0 zs)[i]?.getD 0).tdiv ((dvL 0 zs)[i + 1]?.getD 0))
theorem natAbs_le9 (a b : Int) : (a.tdiv b).natAbs ≤ a.natAbs := by rw [Int.natAbs_tdiv]; exact Nat.div_le_self _ _

set_option maxHeartbeats 2000000 in
theorem l03Newton_any (v : Value) (zs : List Int) (w : World) (h : ReadI w w.heap.size v zs) (hn : zs.length ≤ 1048576) (hp : brB zs = true) :
    Calls Try.prog 69 #[.agg #[v]] w fun e w' => ∃ v', e = .returned v' ∧ OwnQ w' w.heap.size w'.heap.size v' (prL (npF zs) (zs.length - 1)) ∧ Below w.heap.size w w' := by
  have hn0 := brB_pos hp
  have HP := Lib.hid hp
  have HZ := Lib.hid (dcB_range (brB_dcB hp))
  have HDP := Lib.hid (dvL_pos HZ.out (e := 0))
  have HPF : Hid (∀ i, npF zs i = ((zs[i + 1]?.getD 0 - if i = 0 then 0 else zs[i]?.getD 0).tdiv ((dvL 0 zs)[i + 1]?.getD 0), ((dvL 0 zs)[i]?.getD 0).tdiv ((dvL 0 zs)[i + 1]?.getD 0))) := Lib.hid (fun _ => rfl)
  obtain ⟨n, A, c, rfl, hr, HL, HN, hnc, HF, hcm⟩ := h.split2
  have hLm : zs.length - 1 = n - 1 := by have := HL.out; omega
  rw [hLm]
  rw [HL.out] at hn hn0
  obtain ⟨a, rfl, hlt, hc0⟩ := hr.2 0 hn0
  obtain ⟨g, o, rfl⟩ := HF.out a rfl
  have hgw : g < w.heap.size := hlt
  obtain ⟨W0, HE⟩ : ∃ W, W = w.alloc (.cells #[.slice (some ⟨g, o, none⟩) n c] 26) := ⟨_, rfl⟩
  have hb0 : Below w.heap.size w W0 := by rw [HE]; exact below_box2 _ _
  have hq0 : BoxI W0 w.heap.size (.slice (some ⟨g, o, none⟩) n c) := by rw [HE]; exact BoxI.new _ _ _
  have hs0 : w.heap.size < W0.heap.size := hq0.2
  have H0 := Lib.hid (hr.below hb0)
  have HR := Lib.hid ((h.below hb0).more hb0.size)
  have B0 := Lib.hid hb0
  have HEQ := Lib.hid HE
  have HLD : Hid ((dvL 0 zs).length = n) := Lib.hid (by rw [dvL_len, HL.out])
  have q0 := hq0.1
  clear h hr hp hb0 hq0 HE hc0 hlt hLm
  go_enter Try.func69, Try.ntmps69
  go_wp2_with fail
  rw [← HEQ.out]
  refine (l03Divisors_any _ zs W0 HR.out (by rw [HL.out]; exact hn) HP.out).mono ?_
  rintro e W1 ⟨v1, rfl, ho1, hb1⟩
  obtain ⟨A1, c1, rfl⟩ := ho1.form HLD.out
  obtain ⟨d, e1, hd1, hd2, _, _⟩ := own_at ho1 HLD.out hn0
  subst e1
  have q1 := (hb1.cell (p := ⟨w.heap.size, 0, none⟩) hs0).trans q0
  have hs1 := hb1.size
  have OD := Lib.hid ho1
  have B1 := Lib.hid (B0.out.trans (hb1.mono (by omega)))
  have BB1 := Lib.hid hb1
  have Q1 := Lib.hid q1
  have HQ0 : Hid (OwnQ (W1.alloc (.cells #[] 24)) W1.heap.size (W1.alloc (.cells #[] 24)).heap.size (.slice (some ⟨W1.heap.size, 0, none⟩) 0 0) []) := Lib.hid (ownQ_new W1 W1.heap.size (Nat.le_refl _))
  have HB0 : Hid (Below W1.heap.size W1 (W1.alloc (.cells #[] 24))) := Lib.hid (below_box2 _ _)
  have HL0 : Hid (([] : List (List Int)) = prL (npF zs) 0) := Lib.hid rfl
  obtain ⟨lo, hlo⟩ : ∃ lo, lo = W1.heap.size := ⟨_, rfl⟩
  obtain ⟨j0, hj0, hj1, hj2, hj3⟩ := info_parts slice_infoP
  clear hb1 ho1 q0 q1
  go_wp2_with fail
  go_loopw [4, 5] (fun vo vi wr => ∃ (i k : Nat) (L : List (List Int)) (A' : Option Addr) (c' : Nat), (1 ≤ i ∧ i ≤ n) ∧ i = k + 1 ∧ vo = .slice A' k c' ∧ vi = .int .i64 i ∧ Hid (L.length = k) ∧ Hid (L = prL (npF zs) k) ∧ Hid (OwnQ wr lo wr.heap.size (.slice A' k c') L) ∧ Hid (Below lo W1 wr)) (fun _ vi _ => n - (intOf vi).toNat)
  case atStart => exact ⟨1, 0, [], some ⟨W1.heap.size, 0, none⟩, 0, by omega, rfl, rfl, by first | rfl | go_num, Lib.hid rfl, HL0, by rw [hlo]; exact HQ0, by rw [hlo]; exact HB0⟩
  case round =>
    clear HQ0 HB0 HL0
    obtain ⟨i, k, L, A', c', hi, hik, rfl, rfl, hL, hLn, hq, hb⟩ := hrel
    have hszw := hb.out.size
    by_cases hlt : i < n
    · obtain ⟨us, ls, hs, hrows⟩ := hq.out
      rw [hL.out] at hrows
      have hS0 : wr.cell? ⟨w.heap.size, 0, none⟩ = some (.slice (some ⟨g, o, none⟩) n c) := (hb.out.cell (p := ⟨w.heap.size, 0, none⟩) (by show w.heap.size < _; omega)).trans Q1.out
      obtain ⟨a, e1, _, hcell0⟩ := H0.out.2 i hlt
      cases e1
      rw [add_lit] at hcell0
      have hcz : wr.cell? ⟨g, o + i, none⟩ = some (.int .i64 (zs[i]?.getD 0)) := by
        rw [hb.out.cell (p := ⟨g, o + i, none⟩) (by show g < _; omega), BB1.out.cell (p := ⟨g, o + i, none⟩) (by show g < _; omega)]; simpa using hcell0
      obtain ⟨a, e1, _, hcell1⟩ := H0.out.2 k (by omega)
      cases e1
      rw [add_lit] at hcell1
      have hcp : wr.cell? ⟨g, o + (i - 1), none⟩ = some (.int .i64 (zs[k]?.getD 0)) := by
        rw [show i - 1 = k by omega, hb.out.cell (p := ⟨g, o + k, none⟩) (by show g < _; omega), BB1.out.cell (p := ⟨g, o + k, none⟩) (by show g < _; omega)]; simpa using hcell1
      have hyr := HZ.out (zs[k]?.getD 0) (by have := HL.out; simp [show k < zs.length by omega])
      clear hcell1
      obtain ⟨g1, e1, _, _, hd1', _⟩ := own_at OD.out HLD.out hlt
      cases e1
      obtain ⟨g1, e1, _, _, hd0', _⟩ := own_at OD.out HLD.out (show k < n by omega)
      cases e1
      have hcd1 : wr.cell? ⟨d, i, none⟩ = some (.int .i64 ((dvL 0 zs)[k + 1]?.getD 0)) := by rw [← hik]; exact (hb.out.cell (p := ⟨d, i, none⟩) (by show d < _; omega)).trans hd1'
      have hcd0 : wr.cell? ⟨d, i - 1, none⟩ = some (.int .i64 ((dvL 0 zs)[k]?.getD 0)) := by rw [show i - 1 = k by omega]; exact (hb.out.cell (p := ⟨d, k, none⟩) (by show d < _; omega)).trans hd0'
      have hzr := HZ.out (zs[k + 1]?.getD 0) (by have := HL.out; simp [show k + 1 < zs.length by omega])
      have hdr1 := HDP.out ((dvL 0 zs)[k + 1]?.getD 0) (by have := HLD.out; simp [show k + 1 < (dvL 0 zs).length by omega])
      have hdr0 := HDP.out ((dvL 0 zs)[k]?.getD 0) (by have := HLD.out; simp [show k < (dvL 0 zs).length by omega])
      have HPI := Lib.hid (HPF.out k)
      rw [show zs[i]?.getD 0 = zs[k + 1]?.getD 0 by rw [hik]] at hcz
      generalize zs[k + 1]?.getD 0 = z at *
      generalize (dvL 0 zs)[k + 1]?.getD 0 = d1 at *
      generalize (dvL 0 zs)[k]?.getD 0 = d0 at *
      have hdz : (d1 == 0) = false := by simp; omega
      have hdz2 : ¬ d1 = 0 := by omega
      have ht2 := tdiv_range hdr0 hdr1.1
      have p1 : IntKind.i64.wrap ((i : Int) - 1) = (i : Int) - 1 := IntWalk.i64_in _ (by omega)
      have p3 : IntKind.i64.wrap (d0.tdiv d1) = d0.tdiv d1 := IntWalk.i64_in _ (by omega)
      have h5 : (i : Int) < (n : Int) := by omega
      have h6 : (0 : Int) ≤ (i : Int) := by omega
      have h7 : ((i : Int) - 1).toNat = i - 1 := by omega
      have h8 : (i : Int) - 1 < (n : Int) := by omega
      have h9 : (0 : Int) ≤ (i : Int) - 1 := by omega
      have h10 : (1 : Int) ≤ (i : Int) := by omega
      have h11 : i - 1 < n := by omega
      have hlgw : w.heap.size < wr.heap.size := by omega
      have hlgg : g < wr.heap.size := by omega
      have hlgd : d < wr.heap.size := by omega
      have hkn : k ≤ 1048576 := by omega
      have HIK := Lib.hid hik
      clear hcell0 hd1' hd0' hik
      have HIK2 := HIK
      generalize hy : zs[k]?.getD 0 = y at *
      by_cases hk0 : k = 0
      · have HLN : Hid (L ++ [[z.tdiv d1, d0.tdiv d1]] = prL (npF zs) (k + 1)) := Lib.hid (by rw [prL_succ, ← hLn.out, HPI.out, if_pos hk0]; simp)
        have h20 : ¬ (1 : Int) < (i : Int) := by have := HIK.out; omega
        clear hk0
        have hS1 := hcd0
        have hS0' := hcd1
        have hlg0 := hlgd
        have hlg1 := hlgd
        have hlt9 := natAbs_le9 z d1
        have p2 : IntKind.i64.wrap (z.tdiv d1) = z.tdiv d1 := IntWalk.i64_in _ (by omega)
        go_wp2_with fail
        clear hS0
        have hS0 := hS0'
        refine wp_region_held_drew (S := fun w' => w'.cell? ⟨d, i, none⟩ = some (.int .i64 d1) ∧ w'.cell? ⟨d, i - 1, none⟩ = some (.int .i64 d0)) (by kernel_rfl) ⟨hS0, hS1⟩ (fun hHeld => ?_)
        refine takeY 0 _ (v := ?_) rfl rfl (by kernel_rfl) (by kernel_rfl) (by kernel_rfl) (fun _ _ _ h => h) (by kernel_rfl) ?_ (by assumption) ?_
        rotate_left 1
        · intro w hSw; (try dsimp only at hSw); go_simp; (try with_reducible rfl)
        try simp only [Act.put, List.setIfInBounds_toArray, List.set_cons_zero, List.set_cons_succ]
        refine takeY 1 _ (v := ?_) rfl rfl (by kernel_rfl) (by kernel_rfl) (by kernel_rfl) (fun _ _ _ h => h) (by kernel_rfl) ?_ (by assumption) ?_
        rotate_left 1
        · intro w hSw; (try dsimp only at hSw); go_simp; (try with_reducible rfl)
        try simp only [Act.put, List.setIfInBounds_toArray, List.set_cons_zero, List.set_cons_succ]
        refine takeY 2 _ (v := ?_) rfl rfl (by kernel_rfl) (by kernel_rfl) (by kernel_rfl) (fun _ _ _ h => h) (by kernel_rfl) ?_ (by assumption) ?_
        rotate_left 1
        · intro w hSw; (try dsimp only at hSw); go_simp; (try with_reducible rfl)
        try simp only [Act.put, List.setIfInBounds_toArray, List.set_cons_zero, List.set_cons_succ]
        refine takeY 3 _ (v := ?_) rfl rfl (by kernel_rfl) (by kernel_rfl) (by kernel_rfl) (fun _ _ _ h => h) (by kernel_rfl) ?_ (by assumption) ?_
        rotate_left 1
        · intro w hSw; (try dsimp only at hSw); go_simp; (try with_reducible rfl)
        try simp only [Act.put, List.setIfInBounds_toArray, List.set_cons_zero, List.set_cons_succ]
        refine takeY 4 _ (v := ?_) rfl rfl (by kernel_rfl) (by kernel_rfl) (by kernel_rfl) (fun _ _ _ h => h) (by kernel_rfl) ?_ (by assumption) ?_
        rotate_left 1
        · intro w hSw; (try dsimp only at hSw); go_simp; (try with_reducible rfl)
        try simp only [Act.put, List.setIfInBounds_toArray, List.set_cons_zero, List.set_cons_succ]
        refine takeY 5 _ (v := ?_) rfl rfl (by kernel_rfl) (by kernel_rfl) (by kernel_rfl) (fun _ _ _ h => h) (by kernel_rfl) ?_ (by assumption) ?_
        rotate_left 1
        · intro w hSw; (try dsimp only at hSw); go_simp; (try with_reducible rfl)
        try simp only [Act.put, List.setIfInBounds_toArray, List.set_cons_zero, List.set_cons_succ]
        refine takeY 6 _ (v := ?_) rfl rfl (by kernel_rfl) (by kernel_rfl) (by kernel_rfl) (fun _ _ _ h => h) (by kernel_rfl) ?_ (by assumption) ?_
        rotate_left 1
        · intro w hSw; (try dsimp only at hSw); go_simp; (try with_reducible rfl)
        try simp only [Act.put, List.setIfInBounds_toArray, List.set_cons_zero, List.set_cons_succ]
        refine takeY 7 _ (v := ?_) rfl rfl (by kernel_rfl) (by kernel_rfl) (by kernel_rfl) (fun _ _ _ h => h) (by kernel_rfl) ?_ (by assumption) ?_
        rotate_left 1
        · intro w hSw; (try dsimp only at hSw); go_simp; (try with_reducible rfl)
        try simp only [Act.put, List.setIfInBounds_toArray, List.set_cons_zero, List.set_cons_succ]
        refine takeY 8 _ (v := ?_) rfl rfl (by kernel_rfl) (by kernel_rfl) (by kernel_rfl) (fun _ _ _ h => h) (by kernel_rfl) ?_ (by assumption) ?_
        rotate_left 1
        · intro w hSw; (try dsimp only at hSw); go_simp; (try with_reducible rfl)
        try simp only [Act.put, List.setIfInBounds_toArray, List.set_cons_zero, List.set_cons_succ]
        refine takeY 9 _ (v := ?_) rfl rfl (by kernel_rfl) (by kernel_rfl) (by kernel_rfl) (fun _ _ _ h => h) (by kernel_rfl) ?_ (by assumption) ?_
        rotate_left 1
        · intro w hSw; (try dsimp only at hSw); go_simp; (try with_reducible rfl)
        try simp only [Act.put, List.setIfInBounds_toArray, List.set_cons_zero, List.set_cons_succ]
        refine takeY 10 _ (v := ?_) rfl rfl (by kernel_rfl) (by kernel_rfl) (by kernel_rfl) (fun _ _ _ h => h) (by kernel_rfl) ?_ (by assumption) ?_
        rotate_left 1
        · intro w hSw; (try dsimp only at hSw); go_simp; (try with_reducible rfl)
        try simp only [Act.put, List.setIfInBounds_toArray, List.set_cons_zero, List.set_cons_succ]
        refine takeY 11 _ (v := ?_) rfl rfl (by kernel_rfl) (by kernel_rfl) (by kernel_rfl) (fun _ _ _ h => h) (by kernel_rfl) ?_ (by assumption) ?_
        rotate_left 1
        · intro w hSw; (try dsimp only at hSw); go_simp; (try with_reducible rfl)
        try simp only [Act.put, List.setIfInBounds_toArray, List.set_cons_zero, List.set_cons_succ]
        refine takeY 12 _ (v := ?_) rfl rfl (by kernel_rfl) (by kernel_rfl) (by kernel_rfl) (fun _ _ _ h => h) (by kernel_rfl) ?_ (by assumption) ?_
        rotate_left 1
        · intro w hSw; (try dsimp only at hSw); go_simp; (try with_reducible rfl)
        try simp only [Act.put, List.setIfInBounds_toArray, List.set_cons_zero, List.set_cons_succ]
        refine takeY 13 _ (v := ?_) rfl rfl (by kernel_rfl) (by kernel_rfl) (by kernel_rfl) (fun _ _ _ h => h) (by kernel_rfl) ?_ (by assumption) ?_
        rotate_left 1
        · intro w hSw; (try dsimp only at hSw); go_simp; (try with_reducible rfl)
        try simp only [Act.put, List.setIfInBounds_toArray, List.set_cons_zero, List.set_cons_succ]
        refine takeY 14 _ (v := ?_) rfl rfl (by kernel_rfl) (by kernel_rfl) (by kernel_rfl) (fun _ _ _ h => h) (by kernel_rfl) ?_ (by assumption) ?_
        rotate_left 1
        · intro w hSw; (try dsimp only at hSw); go_simp; (try with_reducible rfl)
        try simp only [Act.put, List.setIfInBounds_toArray, List.set_cons_zero, List.set_cons_succ]
        refine takeY 15 _ (v := ?_) rfl rfl (by kernel_rfl) (by kernel_rfl) (by kernel_rfl) (fun _ _ _ h => h) (by kernel_rfl) ?_ (by assumption) ?_
        rotate_left 1
        · intro w hSw; (try dsimp only at hSw); go_simp; (try with_reducible rfl)
        try simp only [Act.put, List.setIfInBounds_toArray, List.set_cons_zero, List.set_cons_succ]
        refine takeY 16 _ (v := ?_) rfl rfl (by kernel_rfl) (by kernel_rfl) (by kernel_rfl) (fun _ _ _ h => h) (by kernel_rfl) ?_ (by assumption) ?_
        rotate_left 1
        · intro w hSw; (try dsimp only at hSw); go_simp; (try with_reducible rfl)
        try simp only [Act.put, List.setIfInBounds_toArray, List.set_cons_zero, List.set_cons_succ]
        refine wpAnyH_ready (rs := [17]) (by kernel_rfl) (by simp) ?_
        refine AllReadyH.cons rfl (fun K hK => ?_) AllReadyH.nil
        go_simp
        refine hK.out _ _ ⟨((below_box wr (.cells #[.int .i64 (z.tdiv d1), .int .i64 (d0.tdiv d1)] 2)).cell (p := ⟨d, i, none⟩) hlg0).trans hS0, ((below_box wr (.cells #[.int .i64 (z.tdiv d1), .int .i64 (d0.tdiv d1)] 2)).cell (p := ⟨d, i - 1, none⟩) hlg1).trans hS1⟩ (fun hHeld => ?_)
        clear hK K
        try simp only [Act.put, List.setIfInBounds_toArray, List.set_cons_zero, List.set_cons_succ]
        refine wpAnyH_ready (rs := [18]) (by kernel_rfl) (by simp) ?_
        refine AllReadyH.cons rfl (fun K hK => ?_) AllReadyH.nil
        go_simp
        refine hK.out _ _ ⟨(((below_box wr (.cells #[.int .i64 (z.tdiv d1), .int .i64 (d0.tdiv d1)] 2)).alloc (by simp) (.cells #[(.slice (some ⟨wr.heap.size, 0, none⟩) 2 2)] 24)).cell (p := ⟨d, i, none⟩) hlg0).trans hS0, (((below_box wr (.cells #[.int .i64 (z.tdiv d1), .int .i64 (d0.tdiv d1)] 2)).alloc (by simp) (.cells #[(.slice (some ⟨wr.heap.size, 0, none⟩) 2 2)] 24)).cell (p := ⟨d, i - 1, none⟩) hlg1).trans hS1⟩ (fun hHeld => ?_)
        clear hK K
        try simp only [Act.put, List.setIfInBounds_toArray, List.set_cons_zero, List.set_cons_succ]
        refine wpAnyH_ready (rs := [19]) (by kernel_rfl) (by simp) ?_
        refine AllReadyH.cons rfl (fun K hK => ?_) AllReadyH.nil
        try simp only [List.getElem_toArray, List.getElem_cons_succ, List.getElem_cons_zero]
        rw [if_pos (by kernel_rfl)]
        refine wp_append_lies _ (.tmp 31) (.tmp 49) 28 ?qb2 lo 24 j0 (.slice none 0 0) 1 24 Try.underlying28 hj0 hj1 hj2 hj3 rfl (by decide) (.slice A' k c') k us ?qb3 ?qb4 ⟨wr.heap.size + 1, 0, none⟩ 1 1 [(.slice (some ⟨wr.heap.size, 0, none⟩) 2 2)] ?qb5 rfl ?qb6 ?qb7 (by decide) ?qb8 ?qb9 ?qb10 _ rfl ?qb11
        case qb2 => rfl
        case qb3 => rfl
        case qb5 => rfl
        case qb4 => exact World.ownsRow.alloc (World.ownsRow.alloc hrows.1 _) _
        case qb6 => exact lit_news wr (.cells #[.int .i64 (z.tdiv d1), .int .i64 (d0.tdiv d1)] 2) (.slice (some ⟨wr.heap.size, 0, none⟩) 2 2)
        case qb7 => simp [Value.oneCell']
        case qb8 => simp only [maxLen]; omega
        case qb9 => omega
        case qb10 => show lo ≤ (((wr.alloc (.cells #[.int .i64 (z.tdiv d1), .int .i64 (d0.tdiv d1)] 2)).alloc (.cells #[(.slice (some ⟨wr.heap.size, 0, none⟩) 2 2)] 24))).heap.size; simp; omega
        intro g2 cap2 w2 hown2 hgrow hg2 hg2l
        have hbw : Below wr.heap.size wr ((wr.alloc (.cells #[.int .i64 (z.tdiv d1), .int .i64 (d0.tdiv d1)] 2)).alloc (.cells #[(.slice (some ⟨wr.heap.size, 0, none⟩) 2 2)] 24)) := (below_box wr _).alloc (by simp) _
        have hOE : OwnI ((wr.alloc (.cells #[.int .i64 (z.tdiv d1), .int .i64 (d0.tdiv d1)] 2)).alloc (.cells #[(.slice (some ⟨wr.heap.size, 0, none⟩) 2 2)] 24)) wr.heap.size (wr.heap.size + 1) (.slice (some ⟨wr.heap.size, 0, none⟩) 2 2) [(z.tdiv d1), (d0.tdiv d1)] := by
          have h9 := (list2 (w := wr) (lo := wr.heap.size) (Nat.le_refl _) ((z.tdiv d1)) ((d0.tdiv d1)))
          rw [World.size_alloc] at h9
          exact h9.kept (kept_box _ _ _ _ (by simp))
        have HQ2 : Hid (OwnQ w2 lo w2.heap.size (.slice (some ⟨g2, 0, none⟩) (k + 1) cap2) (L ++ [[(z.tdiv d1), (d0.tdiv d1)]])) := Lib.hid (rows_snoc (w1 := ((wr.alloc (.cells #[.int .i64 (z.tdiv d1), .int .i64 (d0.tdiv d1)] 2)).alloc (.cells #[(.slice (some ⟨wr.heap.size, 0, none⟩) 2 2)] 24))) hrows hL.out (by omega) hbw hOE (Nat.le_refl _) (by simp) hown2 ⟨hgrow.os, hgrow.tape, hgrow.output, hgrow.size, hgrow.block⟩ hg2 hg2l)
        have hbx : Below lo wr w2 := Below.grown (w := ((wr.alloc (.cells #[.int .i64 (z.tdiv d1), .int .i64 (d0.tdiv d1)] 2)).alloc (.cells #[(.slice (some ⟨wr.heap.size, 0, none⟩) 2 2)] 24))) (hbw.mono (by omega)) ⟨hgrow.os, hgrow.tape, hgrow.output, hgrow.size, hgrow.block⟩ (by simp; omega) (fun k hk => (World.ownsRow.lt hrows.1 k hk).1)
        have HBX := Lib.hid hbx
        have sa0 : w2.cell? ⟨d, i, none⟩ = some (.int .i64 d1) := by rw [hbx.cell (p := ⟨d, i, none⟩) (by show d < _; omega)]; exact hS0
        have sa1 : w2.cell? ⟨d, i - 1, none⟩ = some (.int .i64 d0) := by rw [hbx.cell (p := ⟨d, i - 1, none⟩) (by show d < _; omega)]; exact hS1
        refine hK.out _ _ ⟨sa0, sa1⟩ (fun hHeld => ?_)
        clear hK K hbx hown2 hgrow hg2 hg2l hbw hOE
        try simp only [Act.put, List.setIfInBounds_toArray, List.set_cons_zero, List.set_cons_succ]
        refine takeY 20 _ (v := ?_) rfl rfl (by kernel_rfl) (by kernel_rfl) (by kernel_rfl) (fun _ _ _ h => h) (by kernel_rfl) ?_ (by assumption) ?_
        rotate_left 1
        · intro w hSw; (try dsimp only at hSw); go_simp; (try with_reducible rfl)
        try simp only [Act.put, List.setIfInBounds_toArray, List.set_cons_zero, List.set_cons_succ]
        have HB3 := Lib.hid (hb.out.trans HBX.out)
        refine wpAnyH_done (by kernel_rfl) ?_ _
        go_wp2_with fail
        go_roundw
        case rel => exact ⟨i + 1, k + 1, L ++ [[(z.tdiv d1), (d0.tdiv d1)]], some ⟨g2, 0, none⟩, cap2, by omega, by have := HIK.out; omega, rfl, by go_num, Lib.hid (by simp [hL.out]), HLN, HQ2, HB3⟩
        case measure => simp [intOf]; omega
      · have HLN : Hid (L ++ [[(z - y).tdiv d1, d0.tdiv d1]] = prL (npF zs) (k + 1)) := Lib.hid (by rw [prL_succ, ← hLn.out, HPI.out, if_neg hk0])
        have h20 : (1 : Int) < (i : Int) := by have := HIK.out; omega
        have p8 : IntKind.i64.wrap (z - y) = z - y := IntWalk.i64_in _ (by omega)
        clear hk0
        have hS1 := hcd0
        have hS0' := hcd1
        have hlg0 := hlgd
        have hlg1 := hlgd
        have hlt9 := natAbs_le9 (z - y) d1
        have p2 : IntKind.i64.wrap ((z - y).tdiv d1) = (z - y).tdiv d1 := IntWalk.i64_in _ (by omega)
        go_wp2_with fail
        clear hS0
        have hS0 := hS0'
        refine wp_region_held_drew (S := fun w' => w'.cell? ⟨d, i, none⟩ = some (.int .i64 d1) ∧ w'.cell? ⟨d, i - 1, none⟩ = some (.int .i64 d0)) (by kernel_rfl) ⟨hS0, hS1⟩ (fun hHeld => ?_)
        refine takeY 0 _ (v := ?_) rfl rfl (by kernel_rfl) (by kernel_rfl) (by kernel_rfl) (fun _ _ _ h => h) (by kernel_rfl) ?_ (by assumption) ?_
        rotate_left 1
        · intro w hSw; (try dsimp only at hSw); go_simp; (try with_reducible rfl)
        try simp only [Act.put, List.setIfInBounds_toArray, List.set_cons_zero, List.set_cons_succ]
        refine takeY 1 _ (v := ?_) rfl rfl (by kernel_rfl) (by kernel_rfl) (by kernel_rfl) (fun _ _ _ h => h) (by kernel_rfl) ?_ (by assumption) ?_
        rotate_left 1
        · intro w hSw; (try dsimp only at hSw); go_simp; (try with_reducible rfl)
        try simp only [Act.put, List.setIfInBounds_toArray, List.set_cons_zero, List.set_cons_succ]
        refine takeY 2 _ (v := ?_) rfl rfl (by kernel_rfl) (by kernel_rfl) (by kernel_rfl) (fun _ _ _ h => h) (by kernel_rfl) ?_ (by assumption) ?_
        rotate_left 1
        · intro w hSw; (try dsimp only at hSw); go_simp; (try with_reducible rfl)
        try simp only [Act.put, List.setIfInBounds_toArray, List.set_cons_zero, List.set_cons_succ]
        refine takeY 3 _ (v := ?_) rfl rfl (by kernel_rfl) (by kernel_rfl) (by kernel_rfl) (fun _ _ _ h => h) (by kernel_rfl) ?_ (by assumption) ?_
        rotate_left 1
        · intro w hSw; (try dsimp only at hSw); go_simp; (try with_reducible rfl)
        try simp only [Act.put, List.setIfInBounds_toArray, List.set_cons_zero, List.set_cons_succ]
        refine takeY 4 _ (v := ?_) rfl rfl (by kernel_rfl) (by kernel_rfl) (by kernel_rfl) (fun _ _ _ h => h) (by kernel_rfl) ?_ (by assumption) ?_
        rotate_left 1
        · intro w hSw; (try dsimp only at hSw); go_simp; (try with_reducible rfl)
        try simp only [Act.put, List.setIfInBounds_toArray, List.set_cons_zero, List.set_cons_succ]
        refine takeY 5 _ (v := ?_) rfl rfl (by kernel_rfl) (by kernel_rfl) (by kernel_rfl) (fun _ _ _ h => h) (by kernel_rfl) ?_ (by assumption) ?_
        rotate_left 1
        · intro w hSw; (try dsimp only at hSw); go_simp; (try with_reducible rfl)
        try simp only [Act.put, List.setIfInBounds_toArray, List.set_cons_zero, List.set_cons_succ]
        refine takeY 6 _ (v := ?_) rfl rfl (by kernel_rfl) (by kernel_rfl) (by kernel_rfl) (fun _ _ _ h => h) (by kernel_rfl) ?_ (by assumption) ?_
        rotate_left 1
        · intro w hSw; (try dsimp only at hSw); go_simp; (try with_reducible rfl)
        try simp only [Act.put, List.setIfInBounds_toArray, List.set_cons_zero, List.set_cons_succ]
        refine takeY 7 _ (v := ?_) rfl rfl (by kernel_rfl) (by kernel_rfl) (by kernel_rfl) (fun _ _ _ h => h) (by kernel_rfl) ?_ (by assumption) ?_
        rotate_left 1
        · intro w hSw; (try dsimp only at hSw); go_simp; (try with_reducible rfl)
        try simp only [Act.put, List.setIfInBounds_toArray, List.set_cons_zero, List.set_cons_succ]
        refine takeY 8 _ (v := ?_) rfl rfl (by kernel_rfl) (by kernel_rfl) (by kernel_rfl) (fun _ _ _ h => h) (by kernel_rfl) ?_ (by assumption) ?_
        rotate_left 1
        · intro w hSw; (try dsimp only at hSw); go_simp; (try with_reducible rfl)
        try simp only [Act.put, List.setIfInBounds_toArray, List.set_cons_zero, List.set_cons_succ]
        refine takeY 9 _ (v := ?_) rfl rfl (by kernel_rfl) (by kernel_rfl) (by kernel_rfl) (fun _ _ _ h => h) (by kernel_rfl) ?_ (by assumption) ?_
        rotate_left 1
        · intro w hSw; (try dsimp only at hSw); go_simp; (try with_reducible rfl)
        try simp only [Act.put, List.setIfInBounds_toArray, List.set_cons_zero, List.set_cons_succ]
        refine takeY 10 _ (v := ?_) rfl rfl (by kernel_rfl) (by kernel_rfl) (by kernel_rfl) (fun _ _ _ h => h) (by kernel_rfl) ?_ (by assumption) ?_
        rotate_left 1
        · intro w hSw; (try dsimp only at hSw); go_simp; (try with_reducible rfl)
        try simp only [Act.put, List.setIfInBounds_toArray, List.set_cons_zero, List.set_cons_succ]
        refine takeY 11 _ (v := ?_) rfl rfl (by kernel_rfl) (by kernel_rfl) (by kernel_rfl) (fun _ _ _ h => h) (by kernel_rfl) ?_ (by assumption) ?_
        rotate_left 1
        · intro w hSw; (try dsimp only at hSw); go_simp; (try with_reducible rfl)
        try simp only [Act.put, List.setIfInBounds_toArray, List.set_cons_zero, List.set_cons_succ]
        refine takeY 12 _ (v := ?_) rfl rfl (by kernel_rfl) (by kernel_rfl) (by kernel_rfl) (fun _ _ _ h => h) (by kernel_rfl) ?_ (by assumption) ?_
        rotate_left 1
        · intro w hSw; (try dsimp only at hSw); go_simp; (try with_reducible rfl)
        try simp only [Act.put, List.setIfInBounds_toArray, List.set_cons_zero, List.set_cons_succ]
        refine takeY 13 _ (v := ?_) rfl rfl (by kernel_rfl) (by kernel_rfl) (by kernel_rfl) (fun _ _ _ h => h) (by kernel_rfl) ?_ (by assumption) ?_
        rotate_left 1
        · intro w hSw; (try dsimp only at hSw); go_simp; (try with_reducible rfl)
        try simp only [Act.put, List.setIfInBounds_toArray, List.set_cons_zero, List.set_cons_succ]
        refine takeY 14 _ (v := ?_) rfl rfl (by kernel_rfl) (by kernel_rfl) (by kernel_rfl) (fun _ _ _ h => h) (by kernel_rfl) ?_ (by assumption) ?_
        rotate_left 1
        · intro w hSw; (try dsimp only at hSw); go_simp; (try with_reducible rfl)
        try simp only [Act.put, List.setIfInBounds_toArray, List.set_cons_zero, List.set_cons_succ]
        refine takeY 15 _ (v := ?_) rfl rfl (by kernel_rfl) (by kernel_rfl) (by kernel_rfl) (fun _ _ _ h => h) (by kernel_rfl) ?_ (by assumption) ?_
        rotate_left 1
        · intro w hSw; (try dsimp only at hSw); go_simp; (try with_reducible rfl)
        try simp only [Act.put, List.setIfInBounds_toArray, List.set_cons_zero, List.set_cons_succ]
        refine takeY 16 _ (v := ?_) rfl rfl (by kernel_rfl) (by kernel_rfl) (by kernel_rfl) (fun _ _ _ h => h) (by kernel_rfl) ?_ (by assumption) ?_
        rotate_left 1
        · intro w hSw; (try dsimp only at hSw); go_simp; (try with_reducible rfl)
        try simp only [Act.put, List.setIfInBounds_toArray, List.set_cons_zero, List.set_cons_succ]
        refine wpAnyH_ready (rs := [17]) (by kernel_rfl) (by simp) ?_
        refine AllReadyH.cons rfl (fun K hK => ?_) AllReadyH.nil
        go_simp
        refine hK.out _ _ ⟨((below_box wr (.cells #[.int .i64 ((z - y).tdiv d1), .int .i64 (d0.tdiv d1)] 2)).cell (p := ⟨d, i, none⟩) hlg0).trans hS0, ((below_box wr (.cells #[.int .i64 ((z - y).tdiv d1), .int .i64 (d0.tdiv d1)] 2)).cell (p := ⟨d, i - 1, none⟩) hlg1).trans hS1⟩ (fun hHeld => ?_)
        clear hK K
        try simp only [Act.put, List.setIfInBounds_toArray, List.set_cons_zero, List.set_cons_succ]
        refine wpAnyH_ready (rs := [18]) (by kernel_rfl) (by simp) ?_
        refine AllReadyH.cons rfl (fun K hK => ?_) AllReadyH.nil
        go_simp
        refine hK.out _ _ ⟨(((below_box wr (.cells #[.int .i64 ((z - y).tdiv d1), .int .i64 (d0.tdiv d1)] 2)).alloc (by simp) (.cells #[(.slice (some ⟨wr.heap.size, 0, none⟩) 2 2)] 24)).cell (p := ⟨d, i, none⟩) hlg0).trans hS0, (((below_box wr (.cells #[.int .i64 ((z - y).tdiv d1), .int .i64 (d0.tdiv d1)] 2)).alloc (by simp) (.cells #[(.slice (some ⟨wr.heap.size, 0, none⟩) 2 2)] 24)).cell (p := ⟨d, i - 1, none⟩) hlg1).trans hS1⟩ (fun hHeld => ?_)
        clear hK K
        try simp only [Act.put, List.setIfInBounds_toArray, List.set_cons_zero, List.set_cons_succ]
        refine wpAnyH_ready (rs := [19]) (by kernel_rfl) (by simp) ?_
        refine AllReadyH.cons rfl (fun K hK => ?_) AllReadyH.nil
        try simp only [List.getElem_toArray, List.getElem_cons_succ, List.getElem_cons_zero]
        rw [if_pos (by kernel_rfl)]
        refine wp_append_lies _ (.tmp 31) (.tmp 49) 28 ?qc2 lo 24 j0 (.slice none 0 0) 1 24 Try.underlying28 hj0 hj1 hj2 hj3 rfl (by decide) (.slice A' k c') k us ?qc3 ?qc4 ⟨wr.heap.size + 1, 0, none⟩ 1 1 [(.slice (some ⟨wr.heap.size, 0, none⟩) 2 2)] ?qc5 rfl ?qc6 ?qc7 (by decide) ?qc8 ?qc9 ?qc10 _ rfl ?qc11
        case qc2 => rfl
        case qc3 => rfl
        case qc5 => rfl
        case qc4 => exact World.ownsRow.alloc (World.ownsRow.alloc hrows.1 _) _
        case qc6 => exact lit_news wr (.cells #[.int .i64 ((z - y).tdiv d1), .int .i64 (d0.tdiv d1)] 2) (.slice (some ⟨wr.heap.size, 0, none⟩) 2 2)
        case qc7 => simp [Value.oneCell']
        case qc8 => simp only [maxLen]; omega
        case qc9 => omega
        case qc10 => show lo ≤ (((wr.alloc (.cells #[.int .i64 ((z - y).tdiv d1), .int .i64 (d0.tdiv d1)] 2)).alloc (.cells #[(.slice (some ⟨wr.heap.size, 0, none⟩) 2 2)] 24))).heap.size; simp; omega
        intro g2 cap2 w2 hown2 hgrow hg2 hg2l
        have hbw : Below wr.heap.size wr ((wr.alloc (.cells #[.int .i64 ((z - y).tdiv d1), .int .i64 (d0.tdiv d1)] 2)).alloc (.cells #[(.slice (some ⟨wr.heap.size, 0, none⟩) 2 2)] 24)) := (below_box wr _).alloc (by simp) _
        have hOE : OwnI ((wr.alloc (.cells #[.int .i64 ((z - y).tdiv d1), .int .i64 (d0.tdiv d1)] 2)).alloc (.cells #[(.slice (some ⟨wr.heap.size, 0, none⟩) 2 2)] 24)) wr.heap.size (wr.heap.size + 1) (.slice (some ⟨wr.heap.size, 0, none⟩) 2 2) [((z - y).tdiv d1), (d0.tdiv d1)] := by
          have h9 := (list2 (w := wr) (lo := wr.heap.size) (Nat.le_refl _) (((z - y).tdiv d1)) ((d0.tdiv d1)))
          rw [World.size_alloc] at h9
          exact h9.kept (kept_box _ _ _ _ (by simp))
        have HQ2 : Hid (OwnQ w2 lo w2.heap.size (.slice (some ⟨g2, 0, none⟩) (k + 1) cap2) (L ++ [[((z - y).tdiv d1), (d0.tdiv d1)]])) := Lib.hid (rows_snoc (w1 := ((wr.alloc (.cells #[.int .i64 ((z - y).tdiv d1), .int .i64 (d0.tdiv d1)] 2)).alloc (.cells #[(.slice (some ⟨wr.heap.size, 0, none⟩) 2 2)] 24))) hrows hL.out (by omega) hbw hOE (Nat.le_refl _) (by simp) hown2 ⟨hgrow.os, hgrow.tape, hgrow.output, hgrow.size, hgrow.block⟩ hg2 hg2l)
        have hbx : Below lo wr w2 := Below.grown (w := ((wr.alloc (.cells #[.int .i64 ((z - y).tdiv d1), .int .i64 (d0.tdiv d1)] 2)).alloc (.cells #[(.slice (some ⟨wr.heap.size, 0, none⟩) 2 2)] 24))) (hbw.mono (by omega)) ⟨hgrow.os, hgrow.tape, hgrow.output, hgrow.size, hgrow.block⟩ (by simp; omega) (fun k hk => (World.ownsRow.lt hrows.1 k hk).1)
        have HBX := Lib.hid hbx
        have sa0 : w2.cell? ⟨d, i, none⟩ = some (.int .i64 d1) := by rw [hbx.cell (p := ⟨d, i, none⟩) (by show d < _; omega)]; exact hS0
        have sa1 : w2.cell? ⟨d, i - 1, none⟩ = some (.int .i64 d0) := by rw [hbx.cell (p := ⟨d, i - 1, none⟩) (by show d < _; omega)]; exact hS1
        refine hK.out _ _ ⟨sa0, sa1⟩ (fun hHeld => ?_)
        clear hK K hbx hown2 hgrow hg2 hg2l hbw hOE
        try simp only [Act.put, List.setIfInBounds_toArray, List.set_cons_zero, List.set_cons_succ]
        refine takeY 20 _ (v := ?_) rfl rfl (by kernel_rfl) (by kernel_rfl) (by kernel_rfl) (fun _ _ _ h => h) (by kernel_rfl) ?_ (by assumption) ?_
        rotate_left 1
        · intro w hSw; (try dsimp only at hSw); go_simp; (try with_reducible rfl)
        try simp only [Act.put, List.setIfInBounds_toArray, List.set_cons_zero, List.set_cons_succ]
        have HB3 := Lib.hid (hb.out.trans HBX.out)
        refine wpAnyH_done (by kernel_rfl) ?_ _
        go_wp2_with fail
        go_roundw
        case rel => exact ⟨i + 1, k + 1, L ++ [[((z - y).tdiv d1), (d0.tdiv d1)]], some ⟨g2, 0, none⟩, cap2, by omega, by have := HIK.out; omega, rfl, by go_num, Lib.hid (by simp [hL.out]), HLN, HQ2, HB3⟩
        case measure => simp [intOf]; omega
    · obtain rfl : i = n := by omega
      have HX : Hid (prL (npF zs) (i - 1) = L) := Lib.hid (by rw [hLn.out, show i - 1 = k by omega])
      go_wp2_with fail
      go_ret
      refine ⟨_, rfl, ?_, B1.out.trans (hb.out.mono (by omega))⟩
      rw [HX.out]
      exact ownQ_less hq.out (by omega)
end Go.Proofs.Ytmpbigkaadmihaa
