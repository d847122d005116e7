/- laws.FnRepresentations: it returns true and leaves old memory as it was. Condition: the bytes read. -/
import Derived.Test.YtjgidalmgoifgaaFnRw
import Derived.Test.YtjgidalmgoifgaaFnH
import Derived.Test.YtjgidalmgoifgaaDrR
import Derived.Test.YtjgidalmgoifgaaZE
namespace Go.Proofs.Ytjgidalmgoifgaa
open Go.ChangeShapes Go.WideShapes Go.ChangeAt Go.RowKit Go.Deep
set_option linter.unusedVariables false
set_option linter.unusedSimpArgs false

set_option maxRecDepth 100000 in
set_option maxHeartbeats 8000000 in
theorem FnRepresentations_walk (A : Option Addr) (n c : Nat) (w : World) (hr : RB w w.heap.size A n) (hn : n ≤ 9223372036854775807) :
    Calls Try.prog 6 #[.slice A n c] w fun e w' => e = .returned (.bool true) ∧ Below w.heap.size w w' := by
  have KL : Hid (KpL w A n w) := Lib.hid ⟨hr, Below.refl _ _⟩
  clear hr
  rcases (show (4096 : Int) < (n : Int) ∨ (n : Int) ≤ 4096 by omega) with hn4 | hn4
  · go_enter Try.func6, Try.ntmps6
    go_wp2_with fail
    refine (bigF_any A n c _ hn).mono ?_
    rintro e w' ⟨rfl, rfl⟩
    go_wp2_with fail
    go_ret
    exact ⟨rfl, Below.refl _ _⟩
  go_enter Try.func6, Try.ntmps6
  go_wp2_with fail
  refine (bigF_any A n c _ hn).mono ?_
  rintro e w' ⟨rfl, rfl⟩
  go_wp2_with fail
  refine (DrawRepresentationOf_any A n c _ KL.out.bytes hn).mono ?_
  rintro e W1 ⟨Ab, nb, cb, L, x, rfl, hr, hge, hL, hx, hb⟩
  have HSP := Lib.hid hL
  have RB0 := Lib.hid hr
  have HX := Lib.hid hx
  clear hr hge hL hx
  replace KL := Lib.hid (KL.out.next hb)
  clear hb
  go_wp2_with fail
  have Kb : Hid (KpC W1.heap.size (.slice Ab nb cb) (W1.alloc (.cells #[.slice Ab nb cb] 26))) := Lib.hid (KpC.new _ _ _)
  have hb : Below W1.heap.size W1 (W1.alloc (.cells #[.slice Ab nb cb] 26)) := box_below _ _
  generalize W1.alloc (.cells #[.slice Ab nb cb] 26) = W2 at *
  replace KL := Lib.hid (KL.out.next hb)
  replace RB0 := Lib.hid (RB0.out.next hb)
  have qb := Kb.out.cell
  clear hb
  have HN : Hid (L.length ≤ 1048576) := Lib.hid (by have := HSP.out.1; omega)
  have HWF := Lib.hid HSP.out.wf
  have HWX : Hid ((Lit.int .i64 x).wf = true) := Lib.hid (i64_wf (by have := HX.out; omega) (by have := HX.out; omega))
  have HRL : Hid ((reA L x).length ≤ 9223372036854775807) := Lib.hid (by have := reA_len x HN.out; omega)
  rcases rep_cases L x with ⟨hp, hr, ha, hv⟩ | ⟨hp, hr, ha, hv⟩ | ⟨hp, hr, ha, hv⟩ | ⟨hp, hr, ha, hv⟩
  · have ER := Lib.hid hr
    have EA := Lib.hid ha
    have EV := Lib.hid hv
    clear hp hr ha hv
    go_wp2_with fail
    refine (implRepresentationOf_any _ L x _ RB0.out HN.out HWF.out HWX.out).mono ?_
    rintro e W3 ⟨v1, rfl, ho, hb⟩
    rw [ER.out]
    have Q1 := Lib.hid ho.reads
    obtain ⟨A1, c1, e1⟩ : ∃ A c, v1 = .slice A _ c := by obtain ⟨A, c, e, _⟩ := Q1.out; exact ⟨A, c, e⟩
    subst e1
    clear ho
    replace KL := Lib.hid (KL.out.next hb)
    replace Kb := Lib.hid (Kb.out.next hb)
    replace qb := Kb.out.cell
    replace RB0 := Lib.hid (RB0.out.next hb)
    clear hb
    go_wp2_with fail
    refine (specRepresentationOf_any _ L x _ RB0.out HN.out HWF.out HWX.out).mono ?_
    rintro e W4 ⟨v2, rfl, ho, hb⟩
    rw [ER.out]
    have Q2 := Lib.hid ho.reads
    obtain ⟨A2, c2, e2⟩ : ∃ A c, v2 = .slice A _ c := by obtain ⟨A, c, e, _⟩ := Q2.out; exact ⟨A, c, e⟩
    subst e2
    clear ho
    replace KL := Lib.hid (KL.out.next hb)
    replace Kb := Lib.hid (Kb.out.next hb)
    replace qb := Kb.out.cell
    replace RB0 := Lib.hid (RB0.out.next hb)
    replace Q1 := Lib.hid (Q1.out.next hb)
    clear hb
    go_wp2_with fail
    refine (implIsValue_any _ L x _ RB0.out HN.out HWF.out HWX.out).mono ?_
    rintro e W5 ⟨rfl, hb⟩
    rw [EA.out, EV.out]
    replace KL := Lib.hid (KL.out.next hb)
    replace Kb := Lib.hid (Kb.out.next hb)
    replace qb := Kb.out.cell
    replace RB0 := Lib.hid (RB0.out.next hb)
    replace Q1 := Lib.hid (Q1.out.next hb)
    replace Q2 := Lib.hid (Q2.out.next hb)
    clear hb
    go_wp2_with fail
    refine (specIsValue_any _ L x _ RB0.out HN.out HWF.out HWX.out).mono ?_
    rintro e W6 ⟨rfl, hb⟩
    rw [EA.out, EV.out]
    replace KL := Lib.hid (KL.out.next hb)
    replace Kb := Lib.hid (Kb.out.next hb)
    replace qb := Kb.out.cell
    replace RB0 := Lib.hid (RB0.out.next hb)
    replace Q1 := Lib.hid (Q1.out.next hb)
    replace Q2 := Lib.hid (Q2.out.next hb)
    clear hb
    go_wp2_with fail
    refine (likeI _ _ (reA L x) _ Q1.out Q2.out HRL.out).mono ?_
    rintro e W7 ⟨rfl, hb⟩
    replace KL := Lib.hid (KL.out.next hb)
    replace Kb := Lib.hid (Kb.out.next hb)
    replace qb := Kb.out.cell
    replace RB0 := Lib.hid (RB0.out.next hb)
    replace Q1 := Lib.hid (Q1.out.next hb)
    replace Q2 := Lib.hid (Q2.out.next hb)
    clear hb
    have KX := KL
    go_wp2_with fail
    refine (DrawAperyOf_any A n c _ KL.out.bytes hn).mono ?_
    rintro e W8 ⟨Ac, nc, cc, L2, rfl, hr, hge, hL, hb⟩
    have HSP2 := Lib.hid hL
    have RC0 := Lib.hid hr
    clear hr hge hL KX
    replace KL := Lib.hid (KL.out.next hb)
    replace Kb := Lib.hid (Kb.out.next hb)
    replace qb := Kb.out.cell
    replace RB0 := Lib.hid (RB0.out.next hb)
    replace Q1 := Lib.hid (Q1.out.next hb)
    replace Q2 := Lib.hid (Q2.out.next hb)
    clear hb
    go_wp2_with fail
    have Kc : Hid (KpC W8.heap.size (.slice Ac nc cc) (W8.alloc (.cells #[.slice Ac nc cc] 26))) := Lib.hid (KpC.new _ _ _)
    have hb : Below W8.heap.size W8 (W8.alloc (.cells #[.slice Ac nc cc] 26)) := box_below _ _
    generalize W8.alloc (.cells #[.slice Ac nc cc] 26) = W9 at *
    replace KL := Lib.hid (KL.out.next hb)
    replace Kb := Lib.hid (Kb.out.next hb)
    replace qb := Kb.out.cell
    replace RB0 := Lib.hid (RB0.out.next hb)
    replace Q1 := Lib.hid (Q1.out.next hb)
    replace Q2 := Lib.hid (Q2.out.next hb)
    replace RC0 := Lib.hid (RC0.out.next hb)
    have qc := Kc.out.cell
    clear hb
    have HN2 : Hid (L2.length ≤ 1048576) := Lib.hid (by have := HSP2.out.1; omega)
    have HWF2 := Lib.hid HSP2.out.wf
    have HAL : Hid ((apoA L2).length ≤ 1099511627776) := Lib.hid (apoA_len HN2.out)
    go_wp2_with fail
    refine (implAperyOf_any _ L2 _ RC0.out HN2.out HWF2.out).mono ?_
    rintro e W10 ⟨v6, rfl, ho, hb⟩
    have Q6 := Lib.hid ho.reads
    obtain ⟨A6, c6, e6⟩ : ∃ A c, v6 = .slice A _ c := by obtain ⟨A, c, e, _⟩ := Q6.out; exact ⟨A, c, e⟩
    subst e6
    clear ho
    replace KL := Lib.hid (KL.out.next hb)
    replace Kb := Lib.hid (Kb.out.next hb)
    replace qb := Kb.out.cell
    replace Kc := Lib.hid (Kc.out.next hb)
    replace qc := Kc.out.cell
    replace RB0 := Lib.hid (RB0.out.next hb)
    replace Q1 := Lib.hid (Q1.out.next hb)
    replace Q2 := Lib.hid (Q2.out.next hb)
    replace RC0 := Lib.hid (RC0.out.next hb)
    clear hb
    go_wp2_with fail
    refine (specAperyOf_any _ L2 _ RC0.out HN2.out HWF2.out).mono ?_
    rintro e W11 ⟨v7, rfl, ho, hb⟩
    have Q7 := Lib.hid ho.reads
    obtain ⟨A7, c7, e7⟩ : ∃ A c, v7 = .slice A _ c := by obtain ⟨A, c, e, _⟩ := Q7.out; exact ⟨A, c, e⟩
    subst e7
    clear ho
    replace KL := Lib.hid (KL.out.next hb)
    replace Kb := Lib.hid (Kb.out.next hb)
    replace qb := Kb.out.cell
    replace Kc := Lib.hid (Kc.out.next hb)
    replace qc := Kc.out.cell
    replace RB0 := Lib.hid (RB0.out.next hb)
    replace Q1 := Lib.hid (Q1.out.next hb)
    replace Q2 := Lib.hid (Q2.out.next hb)
    replace RC0 := Lib.hid (RC0.out.next hb)
    replace Q6 := Lib.hid (Q6.out.next hb)
    clear hb
    go_wp2_with fail
    refine (likeI _ _ (apoA L2) _ Q6.out Q7.out (by have := HAL.out; omega)).mono ?_
    rintro e W12 ⟨rfl, hb⟩
    replace KL := Lib.hid (KL.out.next hb)
    replace Kb := Lib.hid (Kb.out.next hb)
    replace qb := Kb.out.cell
    replace Kc := Lib.hid (Kc.out.next hb)
    replace qc := Kc.out.cell
    replace RB0 := Lib.hid (RB0.out.next hb)
    replace Q1 := Lib.hid (Q1.out.next hb)
    replace Q2 := Lib.hid (Q2.out.next hb)
    replace RC0 := Lib.hid (RC0.out.next hb)
    replace Q6 := Lib.hid (Q6.out.next hb)
    replace Q7 := Lib.hid (Q7.out.next hb)
    clear hb
    have KB := Lib.hid KL.out.below
    have KW := KL
    replace KL : Hid (KpL W12 A n W12) := Lib.hid ⟨KL.out.bytes, Below.refl _ _⟩
    obtain ⟨N, hN⟩ : ∃ N, (apoA L2).length = N := ⟨_, rfl⟩
    rw [hN]
    rw [hN] at Q6
    have HNN := Lib.hid hN
    have hN4 : N ≤ 1099511627776 := by have := HAL.out; omega
    have HAP : Hid (∀ r, r < N → ApOK L2 N r ((apoA L2)[r]?.getD 0)) := Lib.hid (fun r hr => by rw [← hN]; exact ApOK.make (by omega))
    clear hN HAL Q7
    have Q60 := Q6
    have RC00 := RC0
    have Kc0 := Kc
    have HKW := KL
    clear Q6 RC0 Kc qc
    go_wp2_with fail
    go_loopw [26] (fun vr wr => ∃ (r : Nat), r ≤ N ∧ vr = .int .i64 r ∧ Hid (KpL W12 A n wr)) (fun vr _ => N - (intOf vr).toNat)
    case atStart => exact ⟨0, by omega, rfl, HKW⟩
    case round =>
      clear KL HKW
      obtain ⟨r, hr, rfl, KL⟩ := hrel
      by_cases hlt : r < N
      rotate_left
      · have hge : decide ((r : Int) < (N : Int)) = false := by simp; omega
        go_wp2_with fail
        go_ret
        exact ⟨rfl, below_next KB.out KB.out.size KL.out.below⟩
      have hap := HAP.out r hlt
      obtain ⟨ga, oa, rfl, hc⟩ := Q60.out.at HNN.out (i := r) hlt
      have Q6 := Lib.hid (Q60.out.next KL.out.below)
      have RC0 := Lib.hid (RC00.out.next KL.out.below)
      have Kc := Lib.hid (Kc0.out.next KL.out.below)
      have qc := Kc.out.cell
      have d1 : wr.cell? ⟨ga, oa + r, none⟩ = some (.int .i64 ((apoA L2)[r]?.getD 0)) := by obtain ⟨g3, o3, e3, hc3⟩ := Q6.out.at HNN.out (i := r) hlt; cases e3; exact hc3
      have HD : Hid (∀ w', Below W12.heap.size W12 w' → w'.cell? ⟨ga, oa + r, none⟩ = some (.int .i64 ((apoA L2)[r]?.getD 0))) := Lib.hid (fun w' hb' => by obtain ⟨g3, o3, e3, hc3⟩ := (Q60.out.next hb').at HNN.out (i := r) hlt; cases e3; exact hc3)
      clear hc
      generalize ((apoA L2)[r]?.getD 0 : Int) = z at *
      obtain ⟨hrem, hz0, hz1, hval, hless⟩ := hap
      have hr0 : (0 : Int) ≤ (r : Int) := by omega
      have hr1 : (r : Int) < (N : Int) := by omega
      have p1 : IntKind.i64.wrap ((r : Int) + 1) = (r : Int) + 1 := IntWalk.i64_in _ (by omega)
      have pN : IntKind.i64.wrap (N : Int) = (N : Int) := IntWalk.i64_in _ (by omega)
      have p3 : IntKind.i64.wrap (z.tmod (N : Int)) = (r : Int) := by rw [hrem]; exact IntWalk.i64_in _ (by omega)
      have hn0 : ((N : Int) == 0) = false := by simp; omega
      have HVL := Lib.hid hval
      have HLS := Lib.hid hless
      clear hval hless
      by_cases hbig : 20000 < z
      · have hbb : decide (20000 < z) = true := by simpa using hbig
        go_wp2_with fail
        refine ⟨⟨r + 1, by omega, by go_num, KL⟩, ?_⟩
        simp [intOf]; omega
      have hbb : decide (20000 < z) = false := by simpa using hbig
      have hzw : (Lit.int .i64 z).wf = true := i64_wf (by omega) (by omega)
      have hv1 := (HVL.out (by omega)).1
      have hv2 := (HVL.out (by omega)).2
      clear HVL
      go_wp2_with fail
      refine wp_region_held_drew (S := fun w' => w'.cell? ⟨W8.heap.size, 0, none⟩ = some (Value.slice Ac nc cc) ∧ w'.cell? ⟨ga, oa + r, none⟩ = some (Value.int .i64 z)) (by kernel_rfl) ⟨qc, d1⟩ (fun hHeld => ?_)
      refine takeY 0 _ (v := ?_) rfl rfl (by kernel_rfl) (by kernel_rfl) (by kernel_rfl) (fun _ _ _ h => h) (by kernel_rfl) ?_ (by assumption) ?_
      rotate_left 1
      · intro w hSw; (try dsimp only at hSw); go_simp; (try with_reducible rfl)
      try simp only [Act.put, List.setIfInBounds_toArray, List.set_cons_zero, List.set_cons_succ]
      refine takeY 1 _ (v := ?_) rfl rfl (by kernel_rfl) (by kernel_rfl) (by kernel_rfl) (fun _ _ _ h => h) (by kernel_rfl) ?_ (by assumption) ?_
      rotate_left 1
      · intro w hSw; (try dsimp only at hSw); go_simp; (try with_reducible rfl)
      try simp only [Act.put, List.setIfInBounds_toArray, List.set_cons_zero, List.set_cons_succ]
      refine takeY 2 _ (v := ?_) rfl rfl (by kernel_rfl) (by kernel_rfl) (by kernel_rfl) (fun _ _ _ h => h) (by kernel_rfl) ?_ (by assumption) ?_
      rotate_left 1
      · intro w hSw; (try dsimp only at hSw); go_simp; (try with_reducible rfl)
      try simp only [Act.put, List.setIfInBounds_toArray, List.set_cons_zero, List.set_cons_succ]
      refine takeY 3 _ (v := ?_) rfl rfl (by kernel_rfl) (by kernel_rfl) (by kernel_rfl) (fun _ _ _ h => h) (by kernel_rfl) ?_ (by assumption) ?_
      rotate_left 1
      · intro w hSw; (try dsimp only at hSw); go_simp; (try with_reducible rfl)
      try simp only [Act.put, List.setIfInBounds_toArray, List.set_cons_zero, List.set_cons_succ]
      refine takeY 4 _ (v := ?_) rfl rfl (by kernel_rfl) (by kernel_rfl) (by kernel_rfl) (fun _ _ _ h => h) (by kernel_rfl) ?_ (by assumption) ?_
      rotate_left 1
      · intro w hSw; (try dsimp only at hSw); go_simp; (try with_reducible rfl)
      try simp only [Act.put, List.setIfInBounds_toArray, List.set_cons_zero, List.set_cons_succ]
      refine wpAnyH_ready (rs := [5]) (by kernel_rfl) (by simp) ?_
      refine AllReadyH.cons rfl (fun K hK => ?_) AllReadyH.nil
      go_simp
      refine (implIsValue_any _ L2 (z) _ (show ReadI wr.drew wr.drew.heap.size (.slice Ac nc cc) L2 from RC0.out) HN2.out HWF2.out hzw).mono ?_
      rintro e W13 ⟨rfl, hb0⟩
      rw [hv1, hv2]
      have hb : Below wr.heap.size wr W13 := ⟨hb0.os, hb0.tape, hb0.output, hb0.size, hb0.block⟩
      replace KL := Lib.hid (KL.out.next hb)
      replace Kc := Lib.hid (Kc.out.next hb)
      replace qc := Kc.out.cell
      replace Q6 := Lib.hid (Q6.out.next hb)
      replace RC0 := Lib.hid (RC0.out.next hb)
      replace d1 := HD.out W13 KL.out.below
      clear hb hb0
      refine hK.out _ W13 ⟨qc, d1⟩ (fun hHeld => ?_)
      clear hK K
      try simp only [Act.put, List.setIfInBounds_toArray, List.set_cons_zero, List.set_cons_succ]
      refine takeY 6 _ (v := ?_) rfl rfl (by kernel_rfl) (by kernel_rfl) (by kernel_rfl) (fun _ _ _ h => h) (by kernel_rfl) ?_ (by assumption) ?_
      rotate_left 1
      · intro w hSw; (try dsimp only at hSw); go_simp; (try with_reducible rfl)
      try simp only [Act.put, List.setIfInBounds_toArray, List.set_cons_zero, List.set_cons_succ]
      refine takeY 7 _ (v := ?_) rfl rfl (by kernel_rfl) (by kernel_rfl) (by kernel_rfl) (fun _ _ _ h => h) (by kernel_rfl) ?_ (by assumption) ?_
      rotate_left 1
      · intro w hSw; (try dsimp only at hSw); go_simp; (try with_reducible rfl)
      try simp only [Act.put, List.setIfInBounds_toArray, List.set_cons_zero, List.set_cons_succ]
      refine takeY 8 _ (v := ?_) rfl rfl (by kernel_rfl) (by kernel_rfl) (by kernel_rfl) (fun _ _ _ h => h) (by kernel_rfl) ?_ (by assumption) ?_
      rotate_left 1
      · intro w hSw; (try dsimp only at hSw); go_simp; (try with_reducible rfl)
      try simp only [Act.put, List.setIfInBounds_toArray, List.set_cons_zero, List.set_cons_succ]
      refine takeY 9 _ (v := ?_) rfl rfl (by kernel_rfl) (by kernel_rfl) (by kernel_rfl) (fun _ _ _ h => h) (by kernel_rfl) ?_ (by assumption) ?_
      rotate_left 1
      · intro w hSw; (try dsimp only at hSw); go_simp; (try with_reducible rfl)
      try simp only [Act.put, List.setIfInBounds_toArray, List.set_cons_zero, List.set_cons_succ]
      refine takeY 10 _ (v := ?_) rfl rfl (by kernel_rfl) (by kernel_rfl) (by kernel_rfl) (fun _ _ _ h => h) (by kernel_rfl) ?_ (by assumption) ?_
      rotate_left 1
      · intro w hSw; (try dsimp only at hSw); go_simp; (try with_reducible rfl)
      try simp only [Act.put, List.setIfInBounds_toArray, List.set_cons_zero, List.set_cons_succ]
      refine wpAnyH_done (by kernel_rfl) ?_ _
      clear hv1 hv2 hzw
      by_cases hle : (N : Int) ≤ z
      rotate_left
      · have hlb : decide ((N : Int) ≤ z) = false := by simpa using hle
        go_wp2_with fail
        refine ⟨⟨r + 1, by omega, by go_num, KL⟩, ?_⟩
        simp [intOf]; omega
      have hlb : decide ((N : Int) ≤ z) = true := by simpa using hle
      have hv1 := (HLS.out (by omega) hle).1
      have hv2 := (HLS.out (by omega) hle).2
      clear HLS
      have p4 : IntKind.i64.wrap (z - (N : Int)) = z - (N : Int) := IntWalk.i64_in _ (by omega)
      have hzw : (Lit.int .i64 (z - (N : Int))).wf = true := i64_wf (by omega) (by omega)
      go_wp2_with fail
      refine wp_region_held_drew (S := fun w' => w'.cell? ⟨W8.heap.size, 0, none⟩ = some (Value.slice Ac nc cc) ∧ w'.cell? ⟨ga, oa + r, none⟩ = some (Value.int .i64 z)) (by kernel_rfl) ⟨qc, d1⟩ (fun hHeld => ?_)
      refine takeY 0 _ (v := ?_) rfl rfl (by kernel_rfl) (by kernel_rfl) (by kernel_rfl) (fun _ _ _ h => h) (by kernel_rfl) ?_ (by assumption) ?_
      rotate_left 1
      · intro w hSw; (try dsimp only at hSw); go_simp; (try with_reducible rfl)
      try simp only [Act.put, List.setIfInBounds_toArray, List.set_cons_zero, List.set_cons_succ]
      refine takeY 1 _ (v := ?_) rfl rfl (by kernel_rfl) (by kernel_rfl) (by kernel_rfl) (fun _ _ _ h => h) (by kernel_rfl) ?_ (by assumption) ?_
      rotate_left 1
      · intro w hSw; (try dsimp only at hSw); go_simp; (try with_reducible rfl)
      try simp only [Act.put, List.setIfInBounds_toArray, List.set_cons_zero, List.set_cons_succ]
      refine takeY 2 _ (v := ?_) rfl rfl (by kernel_rfl) (by kernel_rfl) (by kernel_rfl) (fun _ _ _ h => h) (by kernel_rfl) ?_ (by assumption) ?_
      rotate_left 1
      · intro w hSw; (try dsimp only at hSw); go_simp; (try with_reducible rfl)
      try simp only [Act.put, List.setIfInBounds_toArray, List.set_cons_zero, List.set_cons_succ]
      refine takeY 3 _ (v := ?_) rfl rfl (by kernel_rfl) (by kernel_rfl) (by kernel_rfl) (fun _ _ _ h => h) (by kernel_rfl) ?_ (by assumption) ?_
      rotate_left 1
      · intro w hSw; (try dsimp only at hSw); go_simp; (try with_reducible rfl)
      try simp only [Act.put, List.setIfInBounds_toArray, List.set_cons_zero, List.set_cons_succ]
      refine takeY 4 _ (v := ?_) rfl rfl (by kernel_rfl) (by kernel_rfl) (by kernel_rfl) (fun _ _ _ h => h) (by kernel_rfl) ?_ (by assumption) ?_
      rotate_left 1
      · intro w hSw; (try dsimp only at hSw); go_simp; (try with_reducible rfl)
      try simp only [Act.put, List.setIfInBounds_toArray, List.set_cons_zero, List.set_cons_succ]
      refine takeY 5 _ (v := ?_) rfl rfl (by kernel_rfl) (by kernel_rfl) (by kernel_rfl) (fun _ _ _ h => h) (by kernel_rfl) ?_ (by assumption) ?_
      rotate_left 1
      · intro w hSw; (try dsimp only at hSw); go_simp; (try with_reducible rfl)
      try simp only [Act.put, List.setIfInBounds_toArray, List.set_cons_zero, List.set_cons_succ]
      refine takeY 6 _ (v := ?_) rfl rfl (by kernel_rfl) (by kernel_rfl) (by kernel_rfl) (fun _ _ _ h => h) (by kernel_rfl) ?_ (by assumption) ?_
      rotate_left 1
      · intro w hSw; (try dsimp only at hSw); go_simp; (try with_reducible rfl)
      try simp only [Act.put, List.setIfInBounds_toArray, List.set_cons_zero, List.set_cons_succ]
      refine wpAnyH_ready (rs := [7]) (by kernel_rfl) (by simp) ?_
      refine AllReadyH.cons rfl (fun K hK => ?_) AllReadyH.nil
      go_simp
      refine (implIsValue_any _ L2 (z - (N : Int)) _ (show ReadI W13.drew W13.drew.heap.size (.slice Ac nc cc) L2 from RC0.out) HN2.out HWF2.out hzw).mono ?_
      rintro e W14 ⟨rfl, hb0⟩
      rw [hv1, hv2]
      have hb : Below W13.heap.size W13 W14 := ⟨hb0.os, hb0.tape, hb0.output, hb0.size, hb0.block⟩
      replace KL := Lib.hid (KL.out.next hb)
      replace Kc := Lib.hid (Kc.out.next hb)
      replace qc := Kc.out.cell
      replace Q6 := Lib.hid (Q6.out.next hb)
      replace RC0 := Lib.hid (RC0.out.next hb)
      replace d1 := HD.out W14 KL.out.below
      clear hb hb0
      refine hK.out _ W14 ⟨qc, d1⟩ (fun hHeld => ?_)
      clear hK K
      try simp only [Act.put, List.setIfInBounds_toArray, List.set_cons_zero, List.set_cons_succ]
      refine takeY 8 _ (v := ?_) rfl rfl (by kernel_rfl) (by kernel_rfl) (by kernel_rfl) (fun _ _ _ h => h) (by kernel_rfl) ?_ (by assumption) ?_
      rotate_left 1
      · intro w hSw; (try dsimp only at hSw); go_simp; (try with_reducible rfl)
      try simp only [Act.put, List.setIfInBounds_toArray, List.set_cons_zero, List.set_cons_succ]
      refine takeY 9 _ (v := ?_) rfl rfl (by kernel_rfl) (by kernel_rfl) (by kernel_rfl) (fun _ _ _ h => h) (by kernel_rfl) ?_ (by assumption) ?_
      rotate_left 1
      · intro w hSw; (try dsimp only at hSw); go_simp; (try with_reducible rfl)
      try simp only [Act.put, List.setIfInBounds_toArray, List.set_cons_zero, List.set_cons_succ]
      refine takeY 10 _ (v := ?_) rfl rfl (by kernel_rfl) (by kernel_rfl) (by kernel_rfl) (fun _ _ _ h => h) (by kernel_rfl) ?_ (by assumption) ?_
      rotate_left 1
      · intro w hSw; (try dsimp only at hSw); go_simp; (try with_reducible rfl)
      try simp only [Act.put, List.setIfInBounds_toArray, List.set_cons_zero, List.set_cons_succ]
      refine takeY 11 _ (v := ?_) rfl rfl (by kernel_rfl) (by kernel_rfl) (by kernel_rfl) (fun _ _ _ h => h) (by kernel_rfl) ?_ (by assumption) ?_
      rotate_left 1
      · intro w hSw; (try dsimp only at hSw); go_simp; (try with_reducible rfl)
      try simp only [Act.put, List.setIfInBounds_toArray, List.set_cons_zero, List.set_cons_succ]
      refine takeY 12 _ (v := ?_) rfl rfl (by kernel_rfl) (by kernel_rfl) (by kernel_rfl) (fun _ _ _ h => h) (by kernel_rfl) ?_ (by assumption) ?_
      rotate_left 1
      · intro w hSw; (try dsimp only at hSw); go_simp; (try with_reducible rfl)
      try simp only [Act.put, List.setIfInBounds_toArray, List.set_cons_zero, List.set_cons_succ]
      refine wpAnyH_done (by kernel_rfl) ?_ _
      go_wp2_with fail
      refine ⟨⟨r + 1, by omega, by go_num, KL⟩, ?_⟩
      simp [intOf]; omega
  · have ER := Lib.hid hr
    have EA := Lib.hid ha
    have EV := Lib.hid hv
    clear hp hr ha hv
    go_wp2_with fail
    refine (implRepresentationOf_any _ L x _ RB0.out HN.out HWF.out HWX.out).mono ?_
    rintro e W3 ⟨v1, rfl, ho, hb⟩
    rw [ER.out]
    have Q1 := Lib.hid ho.reads
    obtain ⟨A1, c1, e1⟩ : ∃ A c, v1 = .slice A _ c := by obtain ⟨A, c, e, _⟩ := Q1.out; exact ⟨A, c, e⟩
    subst e1
    clear ho
    replace KL := Lib.hid (KL.out.next hb)
    replace Kb := Lib.hid (Kb.out.next hb)
    replace qb := Kb.out.cell
    replace RB0 := Lib.hid (RB0.out.next hb)
    clear hb
    go_wp2_with fail
    refine (specRepresentationOf_any _ L x _ RB0.out HN.out HWF.out HWX.out).mono ?_
    rintro e W4 ⟨v2, rfl, ho, hb⟩
    rw [ER.out]
    have Q2 := Lib.hid ho.reads
    obtain ⟨A2, c2, e2⟩ : ∃ A c, v2 = .slice A _ c := by obtain ⟨A, c, e, _⟩ := Q2.out; exact ⟨A, c, e⟩
    subst e2
    clear ho
    replace KL := Lib.hid (KL.out.next hb)
    replace Kb := Lib.hid (Kb.out.next hb)
    replace qb := Kb.out.cell
    replace RB0 := Lib.hid (RB0.out.next hb)
    replace Q1 := Lib.hid (Q1.out.next hb)
    clear hb
    go_wp2_with fail
    refine (implIsValue_any _ L x _ RB0.out HN.out HWF.out HWX.out).mono ?_
    rintro e W5 ⟨rfl, hb⟩
    rw [EA.out, EV.out]
    replace KL := Lib.hid (KL.out.next hb)
    replace Kb := Lib.hid (Kb.out.next hb)
    replace qb := Kb.out.cell
    replace RB0 := Lib.hid (RB0.out.next hb)
    replace Q1 := Lib.hid (Q1.out.next hb)
    replace Q2 := Lib.hid (Q2.out.next hb)
    clear hb
    go_wp2_with fail
    refine (specIsValue_any _ L x _ RB0.out HN.out HWF.out HWX.out).mono ?_
    rintro e W6 ⟨rfl, hb⟩
    rw [EA.out, EV.out]
    replace KL := Lib.hid (KL.out.next hb)
    replace Kb := Lib.hid (Kb.out.next hb)
    replace qb := Kb.out.cell
    replace RB0 := Lib.hid (RB0.out.next hb)
    replace Q1 := Lib.hid (Q1.out.next hb)
    replace Q2 := Lib.hid (Q2.out.next hb)
    clear hb
    go_wp2_with fail
    refine (likeI _ _ (reA L x) _ Q1.out Q2.out HRL.out).mono ?_
    rintro e W7 ⟨rfl, hb⟩
    replace KL := Lib.hid (KL.out.next hb)
    replace Kb := Lib.hid (Kb.out.next hb)
    replace qb := Kb.out.cell
    replace RB0 := Lib.hid (RB0.out.next hb)
    replace Q1 := Lib.hid (Q1.out.next hb)
    replace Q2 := Lib.hid (Q2.out.next hb)
    clear hb
    have KX := KL
    go_wp2_with fail
    refine (DrawAperyOf_any A n c _ KL.out.bytes hn).mono ?_
    rintro e W8 ⟨Ac, nc, cc, L2, rfl, hr, hge, hL, hb⟩
    have HSP2 := Lib.hid hL
    have RC0 := Lib.hid hr
    clear hr hge hL KX
    replace KL := Lib.hid (KL.out.next hb)
    replace Kb := Lib.hid (Kb.out.next hb)
    replace qb := Kb.out.cell
    replace RB0 := Lib.hid (RB0.out.next hb)
    replace Q1 := Lib.hid (Q1.out.next hb)
    replace Q2 := Lib.hid (Q2.out.next hb)
    clear hb
    go_wp2_with fail
    have Kc : Hid (KpC W8.heap.size (.slice Ac nc cc) (W8.alloc (.cells #[.slice Ac nc cc] 26))) := Lib.hid (KpC.new _ _ _)
    have hb : Below W8.heap.size W8 (W8.alloc (.cells #[.slice Ac nc cc] 26)) := box_below _ _
    generalize W8.alloc (.cells #[.slice Ac nc cc] 26) = W9 at *
    replace KL := Lib.hid (KL.out.next hb)
    replace Kb := Lib.hid (Kb.out.next hb)
    replace qb := Kb.out.cell
    replace RB0 := Lib.hid (RB0.out.next hb)
    replace Q1 := Lib.hid (Q1.out.next hb)
    replace Q2 := Lib.hid (Q2.out.next hb)
    replace RC0 := Lib.hid (RC0.out.next hb)
    have qc := Kc.out.cell
    clear hb
    have HN2 : Hid (L2.length ≤ 1048576) := Lib.hid (by have := HSP2.out.1; omega)
    have HWF2 := Lib.hid HSP2.out.wf
    have HAL : Hid ((apoA L2).length ≤ 1099511627776) := Lib.hid (apoA_len HN2.out)
    go_wp2_with fail
    refine (implAperyOf_any _ L2 _ RC0.out HN2.out HWF2.out).mono ?_
    rintro e W10 ⟨v6, rfl, ho, hb⟩
    have Q6 := Lib.hid ho.reads
    obtain ⟨A6, c6, e6⟩ : ∃ A c, v6 = .slice A _ c := by obtain ⟨A, c, e, _⟩ := Q6.out; exact ⟨A, c, e⟩
    subst e6
    clear ho
    replace KL := Lib.hid (KL.out.next hb)
    replace Kb := Lib.hid (Kb.out.next hb)
    replace qb := Kb.out.cell
    replace Kc := Lib.hid (Kc.out.next hb)
    replace qc := Kc.out.cell
    replace RB0 := Lib.hid (RB0.out.next hb)
    replace Q1 := Lib.hid (Q1.out.next hb)
    replace Q2 := Lib.hid (Q2.out.next hb)
    replace RC0 := Lib.hid (RC0.out.next hb)
    clear hb
    go_wp2_with fail
    refine (specAperyOf_any _ L2 _ RC0.out HN2.out HWF2.out).mono ?_
    rintro e W11 ⟨v7, rfl, ho, hb⟩
    have Q7 := Lib.hid ho.reads
    obtain ⟨A7, c7, e7⟩ : ∃ A c, v7 = .slice A _ c := by obtain ⟨A, c, e, _⟩ := Q7.out; exact ⟨A, c, e⟩
    subst e7
    clear ho
    replace KL := Lib.hid (KL.out.next hb)
    replace Kb := Lib.hid (Kb.out.next hb)
    replace qb := Kb.out.cell
    replace Kc := Lib.hid (Kc.out.next hb)
    replace qc := Kc.out.cell
    replace RB0 := Lib.hid (RB0.out.next hb)
    replace Q1 := Lib.hid (Q1.out.next hb)
    replace Q2 := Lib.hid (Q2.out.next hb)
    replace RC0 := Lib.hid (RC0.out.next hb)
    replace Q6 := Lib.hid (Q6.out.next hb)
    clear hb
    go_wp2_with fail
    refine (likeI _ _ (apoA L2) _ Q6.out Q7.out (by have := HAL.out; omega)).mono ?_
    rintro e W12 ⟨rfl, hb⟩
    replace KL := Lib.hid (KL.out.next hb)
    replace Kb := Lib.hid (Kb.out.next hb)
    replace qb := Kb.out.cell
    replace Kc := Lib.hid (Kc.out.next hb)
    replace qc := Kc.out.cell
    replace RB0 := Lib.hid (RB0.out.next hb)
    replace Q1 := Lib.hid (Q1.out.next hb)
    replace Q2 := Lib.hid (Q2.out.next hb)
    replace RC0 := Lib.hid (RC0.out.next hb)
    replace Q6 := Lib.hid (Q6.out.next hb)
    replace Q7 := Lib.hid (Q7.out.next hb)
    clear hb
    have KB := Lib.hid KL.out.below
    have KW := KL
    replace KL : Hid (KpL W12 A n W12) := Lib.hid ⟨KL.out.bytes, Below.refl _ _⟩
    obtain ⟨N, hN⟩ : ∃ N, (apoA L2).length = N := ⟨_, rfl⟩
    rw [hN]
    rw [hN] at Q6
    have HNN := Lib.hid hN
    have hN4 : N ≤ 1099511627776 := by have := HAL.out; omega
    have HAP : Hid (∀ r, r < N → ApOK L2 N r ((apoA L2)[r]?.getD 0)) := Lib.hid (fun r hr => by rw [← hN]; exact ApOK.make (by omega))
    clear hN HAL Q7
    have Q60 := Q6
    have RC00 := RC0
    have Kc0 := Kc
    have HKW := KL
    clear Q6 RC0 Kc qc
    go_wp2_with fail
    go_loopw [26] (fun vr wr => ∃ (r : Nat), r ≤ N ∧ vr = .int .i64 r ∧ Hid (KpL W12 A n wr)) (fun vr _ => N - (intOf vr).toNat)
    case atStart => exact ⟨0, by omega, rfl, HKW⟩
    case round =>
      clear KL HKW
      obtain ⟨r, hr, rfl, KL⟩ := hrel
      by_cases hlt : r < N
      rotate_left
      · have hge : decide ((r : Int) < (N : Int)) = false := by simp; omega
        go_wp2_with fail
        go_ret
        exact ⟨rfl, below_next KB.out KB.out.size KL.out.below⟩
      have hap := HAP.out r hlt
      obtain ⟨ga, oa, rfl, hc⟩ := Q60.out.at HNN.out (i := r) hlt
      have Q6 := Lib.hid (Q60.out.next KL.out.below)
      have RC0 := Lib.hid (RC00.out.next KL.out.below)
      have Kc := Lib.hid (Kc0.out.next KL.out.below)
      have qc := Kc.out.cell
      have d1 : wr.cell? ⟨ga, oa + r, none⟩ = some (.int .i64 ((apoA L2)[r]?.getD 0)) := by obtain ⟨g3, o3, e3, hc3⟩ := Q6.out.at HNN.out (i := r) hlt; cases e3; exact hc3
      have HD : Hid (∀ w', Below W12.heap.size W12 w' → w'.cell? ⟨ga, oa + r, none⟩ = some (.int .i64 ((apoA L2)[r]?.getD 0))) := Lib.hid (fun w' hb' => by obtain ⟨g3, o3, e3, hc3⟩ := (Q60.out.next hb').at HNN.out (i := r) hlt; cases e3; exact hc3)
      clear hc
      generalize ((apoA L2)[r]?.getD 0 : Int) = z at *
      obtain ⟨hrem, hz0, hz1, hval, hless⟩ := hap
      have hr0 : (0 : Int) ≤ (r : Int) := by omega
      have hr1 : (r : Int) < (N : Int) := by omega
      have p1 : IntKind.i64.wrap ((r : Int) + 1) = (r : Int) + 1 := IntWalk.i64_in _ (by omega)
      have pN : IntKind.i64.wrap (N : Int) = (N : Int) := IntWalk.i64_in _ (by omega)
      have p3 : IntKind.i64.wrap (z.tmod (N : Int)) = (r : Int) := by rw [hrem]; exact IntWalk.i64_in _ (by omega)
      have hn0 : ((N : Int) == 0) = false := by simp; omega
      have HVL := Lib.hid hval
      have HLS := Lib.hid hless
      clear hval hless
      by_cases hbig : 20000 < z
      · have hbb : decide (20000 < z) = true := by simpa using hbig
        go_wp2_with fail
        refine ⟨⟨r + 1, by omega, by go_num, KL⟩, ?_⟩
        simp [intOf]; omega
      have hbb : decide (20000 < z) = false := by simpa using hbig
      have hzw : (Lit.int .i64 z).wf = true := i64_wf (by omega) (by omega)
      have hv1 := (HVL.out (by omega)).1
      have hv2 := (HVL.out (by omega)).2
      clear HVL
      go_wp2_with fail
      refine wp_region_held_drew (S := fun w' => w'.cell? ⟨W8.heap.size, 0, none⟩ = some (Value.slice Ac nc cc) ∧ w'.cell? ⟨ga, oa + r, none⟩ = some (Value.int .i64 z)) (by kernel_rfl) ⟨qc, d1⟩ (fun hHeld => ?_)
      refine takeY 0 _ (v := ?_) rfl rfl (by kernel_rfl) (by kernel_rfl) (by kernel_rfl) (fun _ _ _ h => h) (by kernel_rfl) ?_ (by assumption) ?_
      rotate_left 1
      · intro w hSw; (try dsimp only at hSw); go_simp; (try with_reducible rfl)
      try simp only [Act.put, List.setIfInBounds_toArray, List.set_cons_zero, List.set_cons_succ]
      refine takeY 1 _ (v := ?_) rfl rfl (by kernel_rfl) (by kernel_rfl) (by kernel_rfl) (fun _ _ _ h => h) (by kernel_rfl) ?_ (by assumption) ?_
      rotate_left 1
      · intro w hSw; (try dsimp only at hSw); go_simp; (try with_reducible rfl)
      try simp only [Act.put, List.setIfInBounds_toArray, List.set_cons_zero, List.set_cons_succ]
      refine takeY 2 _ (v := ?_) rfl rfl (by kernel_rfl) (by kernel_rfl) (by kernel_rfl) (fun _ _ _ h => h) (by kernel_rfl) ?_ (by assumption) ?_
      rotate_left 1
      · intro w hSw; (try dsimp only at hSw); go_simp; (try with_reducible rfl)
      try simp only [Act.put, List.setIfInBounds_toArray, List.set_cons_zero, List.set_cons_succ]
      refine takeY 3 _ (v := ?_) rfl rfl (by kernel_rfl) (by kernel_rfl) (by kernel_rfl) (fun _ _ _ h => h) (by kernel_rfl) ?_ (by assumption) ?_
      rotate_left 1
      · intro w hSw; (try dsimp only at hSw); go_simp; (try with_reducible rfl)
      try simp only [Act.put, List.setIfInBounds_toArray, List.set_cons_zero, List.set_cons_succ]
      refine takeY 4 _ (v := ?_) rfl rfl (by kernel_rfl) (by kernel_rfl) (by kernel_rfl) (fun _ _ _ h => h) (by kernel_rfl) ?_ (by assumption) ?_
      rotate_left 1
      · intro w hSw; (try dsimp only at hSw); go_simp; (try with_reducible rfl)
      try simp only [Act.put, List.setIfInBounds_toArray, List.set_cons_zero, List.set_cons_succ]
      refine wpAnyH_ready (rs := [5]) (by kernel_rfl) (by simp) ?_
      refine AllReadyH.cons rfl (fun K hK => ?_) AllReadyH.nil
      go_simp
      refine (implIsValue_any _ L2 (z) _ (show ReadI wr.drew wr.drew.heap.size (.slice Ac nc cc) L2 from RC0.out) HN2.out HWF2.out hzw).mono ?_
      rintro e W13 ⟨rfl, hb0⟩
      rw [hv1, hv2]
      have hb : Below wr.heap.size wr W13 := ⟨hb0.os, hb0.tape, hb0.output, hb0.size, hb0.block⟩
      replace KL := Lib.hid (KL.out.next hb)
      replace Kc := Lib.hid (Kc.out.next hb)
      replace qc := Kc.out.cell
      replace Q6 := Lib.hid (Q6.out.next hb)
      replace RC0 := Lib.hid (RC0.out.next hb)
      replace d1 := HD.out W13 KL.out.below
      clear hb hb0
      refine hK.out _ W13 ⟨qc, d1⟩ (fun hHeld => ?_)
      clear hK K
      try simp only [Act.put, List.setIfInBounds_toArray, List.set_cons_zero, List.set_cons_succ]
      refine takeY 6 _ (v := ?_) rfl rfl (by kernel_rfl) (by kernel_rfl) (by kernel_rfl) (fun _ _ _ h => h) (by kernel_rfl) ?_ (by assumption) ?_
      rotate_left 1
      · intro w hSw; (try dsimp only at hSw); go_simp; (try with_reducible rfl)
      try simp only [Act.put, List.setIfInBounds_toArray, List.set_cons_zero, List.set_cons_succ]
      refine takeY 7 _ (v := ?_) rfl rfl (by kernel_rfl) (by kernel_rfl) (by kernel_rfl) (fun _ _ _ h => h) (by kernel_rfl) ?_ (by assumption) ?_
      rotate_left 1
      · intro w hSw; (try dsimp only at hSw); go_simp; (try with_reducible rfl)
      try simp only [Act.put, List.setIfInBounds_toArray, List.set_cons_zero, List.set_cons_succ]
      refine takeY 8 _ (v := ?_) rfl rfl (by kernel_rfl) (by kernel_rfl) (by kernel_rfl) (fun _ _ _ h => h) (by kernel_rfl) ?_ (by assumption) ?_
      rotate_left 1
      · intro w hSw; (try dsimp only at hSw); go_simp; (try with_reducible rfl)
      try simp only [Act.put, List.setIfInBounds_toArray, List.set_cons_zero, List.set_cons_succ]
      refine takeY 9 _ (v := ?_) rfl rfl (by kernel_rfl) (by kernel_rfl) (by kernel_rfl) (fun _ _ _ h => h) (by kernel_rfl) ?_ (by assumption) ?_
      rotate_left 1
      · intro w hSw; (try dsimp only at hSw); go_simp; (try with_reducible rfl)
      try simp only [Act.put, List.setIfInBounds_toArray, List.set_cons_zero, List.set_cons_succ]
      refine takeY 10 _ (v := ?_) rfl rfl (by kernel_rfl) (by kernel_rfl) (by kernel_rfl) (fun _ _ _ h => h) (by kernel_rfl) ?_ (by assumption) ?_
      rotate_left 1
      · intro w hSw; (try dsimp only at hSw); go_simp; (try with_reducible rfl)
      try simp only [Act.put, List.setIfInBounds_toArray, List.set_cons_zero, List.set_cons_succ]
      refine wpAnyH_done (by kernel_rfl) ?_ _
      clear hv1 hv2 hzw
      by_cases hle : (N : Int) ≤ z
      rotate_left
      · have hlb : decide ((N : Int) ≤ z) = false := by simpa using hle
        go_wp2_with fail
        refine ⟨⟨r + 1, by omega, by go_num, KL⟩, ?_⟩
        simp [intOf]; omega
      have hlb : decide ((N : Int) ≤ z) = true := by simpa using hle
      have hv1 := (HLS.out (by omega) hle).1
      have hv2 := (HLS.out (by omega) hle).2
      clear HLS
      have p4 : IntKind.i64.wrap (z - (N : Int)) = z - (N : Int) := IntWalk.i64_in _ (by omega)
      have hzw : (Lit.int .i64 (z - (N : Int))).wf = true := i64_wf (by omega) (by omega)
      go_wp2_with fail
      refine wp_region_held_drew (S := fun w' => w'.cell? ⟨W8.heap.size, 0, none⟩ = some (Value.slice Ac nc cc) ∧ w'.cell? ⟨ga, oa + r, none⟩ = some (Value.int .i64 z)) (by kernel_rfl) ⟨qc, d1⟩ (fun hHeld => ?_)
      refine takeY 0 _ (v := ?_) rfl rfl (by kernel_rfl) (by kernel_rfl) (by kernel_rfl) (fun _ _ _ h => h) (by kernel_rfl) ?_ (by assumption) ?_
      rotate_left 1
      · intro w hSw; (try dsimp only at hSw); go_simp; (try with_reducible rfl)
      try simp only [Act.put, List.setIfInBounds_toArray, List.set_cons_zero, List.set_cons_succ]
      refine takeY 1 _ (v := ?_) rfl rfl (by kernel_rfl) (by kernel_rfl) (by kernel_rfl) (fun _ _ _ h => h) (by kernel_rfl) ?_ (by assumption) ?_
      rotate_left 1
      · intro w hSw; (try dsimp only at hSw); go_simp; (try with_reducible rfl)
      try simp only [Act.put, List.setIfInBounds_toArray, List.set_cons_zero, List.set_cons_succ]
      refine takeY 2 _ (v := ?_) rfl rfl (by kernel_rfl) (by kernel_rfl) (by kernel_rfl) (fun _ _ _ h => h) (by kernel_rfl) ?_ (by assumption) ?_
      rotate_left 1
      · intro w hSw; (try dsimp only at hSw); go_simp; (try with_reducible rfl)
      try simp only [Act.put, List.setIfInBounds_toArray, List.set_cons_zero, List.set_cons_succ]
      refine takeY 3 _ (v := ?_) rfl rfl (by kernel_rfl) (by kernel_rfl) (by kernel_rfl) (fun _ _ _ h => h) (by kernel_rfl) ?_ (by assumption) ?_
      rotate_left 1
      · intro w hSw; (try dsimp only at hSw); go_simp; (try with_reducible rfl)
      try simp only [Act.put, List.setIfInBounds_toArray, List.set_cons_zero, List.set_cons_succ]
      refine takeY 4 _ (v := ?_) rfl rfl (by kernel_rfl) (by kernel_rfl) (by kernel_rfl) (fun _ _ _ h => h) (by kernel_rfl) ?_ (by assumption) ?_
      rotate_left 1
      · intro w hSw; (try dsimp only at hSw); go_simp; (try with_reducible rfl)
      try simp only [Act.put, List.setIfInBounds_toArray, List.set_cons_zero, List.set_cons_succ]
      refine takeY 5 _ (v := ?_) rfl rfl (by kernel_rfl) (by kernel_rfl) (by kernel_rfl) (fun _ _ _ h => h) (by kernel_rfl) ?_ (by assumption) ?_
      rotate_left 1
      · intro w hSw; (try dsimp only at hSw); go_simp; (try with_reducible rfl)
      try simp only [Act.put, List.setIfInBounds_toArray, List.set_cons_zero, List.set_cons_succ]
      refine takeY 6 _ (v := ?_) rfl rfl (by kernel_rfl) (by kernel_rfl) (by kernel_rfl) (fun _ _ _ h => h) (by kernel_rfl) ?_ (by assumption) ?_
      rotate_left 1
      · intro w hSw; (try dsimp only at hSw); go_simp; (try with_reducible rfl)
      try simp only [Act.put, List.setIfInBounds_toArray, List.set_cons_zero, List.set_cons_succ]
      refine wpAnyH_ready (rs := [7]) (by kernel_rfl) (by simp) ?_
      refine AllReadyH.cons rfl (fun K hK => ?_) AllReadyH.nil
      go_simp
      refine (implIsValue_any _ L2 (z - (N : Int)) _ (show ReadI W13.drew W13.drew.heap.size (.slice Ac nc cc) L2 from RC0.out) HN2.out HWF2.out hzw).mono ?_
      rintro e W14 ⟨rfl, hb0⟩
      rw [hv1, hv2]
      have hb : Below W13.heap.size W13 W14 := ⟨hb0.os, hb0.tape, hb0.output, hb0.size, hb0.block⟩
      replace KL := Lib.hid (KL.out.next hb)
      replace Kc := Lib.hid (Kc.out.next hb)
      replace qc := Kc.out.cell
      replace Q6 := Lib.hid (Q6.out.next hb)
      replace RC0 := Lib.hid (RC0.out.next hb)
      replace d1 := HD.out W14 KL.out.below
      clear hb hb0
      refine hK.out _ W14 ⟨qc, d1⟩ (fun hHeld => ?_)
      clear hK K
      try simp only [Act.put, List.setIfInBounds_toArray, List.set_cons_zero, List.set_cons_succ]
      refine takeY 8 _ (v := ?_) rfl rfl (by kernel_rfl) (by kernel_rfl) (by kernel_rfl) (fun _ _ _ h => h) (by kernel_rfl) ?_ (by assumption) ?_
      rotate_left 1
      · intro w hSw; (try dsimp only at hSw); go_simp; (try with_reducible rfl)
      try simp only [Act.put, List.setIfInBounds_toArray, List.set_cons_zero, List.set_cons_succ]
      refine takeY 9 _ (v := ?_) rfl rfl (by kernel_rfl) (by kernel_rfl) (by kernel_rfl) (fun _ _ _ h => h) (by kernel_rfl) ?_ (by assumption) ?_
      rotate_left 1
      · intro w hSw; (try dsimp only at hSw); go_simp; (try with_reducible rfl)
      try simp only [Act.put, List.setIfInBounds_toArray, List.set_cons_zero, List.set_cons_succ]
      refine takeY 10 _ (v := ?_) rfl rfl (by kernel_rfl) (by kernel_rfl) (by kernel_rfl) (fun _ _ _ h => h) (by kernel_rfl) ?_ (by assumption) ?_
      rotate_left 1
      · intro w hSw; (try dsimp only at hSw); go_simp; (try with_reducible rfl)
      try simp only [Act.put, List.setIfInBounds_toArray, List.set_cons_zero, List.set_cons_succ]
      refine takeY 11 _ (v := ?_) rfl rfl (by kernel_rfl) (by kernel_rfl) (by kernel_rfl) (fun _ _ _ h => h) (by kernel_rfl) ?_ (by assumption) ?_
      rotate_left 1
      · intro w hSw; (try dsimp only at hSw); go_simp; (try with_reducible rfl)
      try simp only [Act.put, List.setIfInBounds_toArray, List.set_cons_zero, List.set_cons_succ]
      refine takeY 12 _ (v := ?_) rfl rfl (by kernel_rfl) (by kernel_rfl) (by kernel_rfl) (fun _ _ _ h => h) (by kernel_rfl) ?_ (by assumption) ?_
      rotate_left 1
      · intro w hSw; (try dsimp only at hSw); go_simp; (try with_reducible rfl)
      try simp only [Act.put, List.setIfInBounds_toArray, List.set_cons_zero, List.set_cons_succ]
      refine wpAnyH_done (by kernel_rfl) ?_ _
      go_wp2_with fail
      refine ⟨⟨r + 1, by omega, by go_num, KL⟩, ?_⟩
      simp [intOf]; omega
  · have ER := Lib.hid hr
    have EA := Lib.hid ha
    have EV := Lib.hid hv
    have HC0 := Lib.hid (And.intro hp.1 hp.2.1)
    have EB := Lib.hid hp.2.2
    clear hp hr ha hv
    go_wp2_with fail
    refine (implRepresentationOf_any _ L x _ RB0.out HN.out HWF.out HWX.out).mono ?_
    rintro e W3 ⟨v1, rfl, ho, hb⟩
    rw [ER.out]
    have Q1 := Lib.hid ho.reads
    obtain ⟨A1, c1, e1⟩ : ∃ A c, v1 = .slice A _ c := by obtain ⟨A, c, e, _⟩ := Q1.out; exact ⟨A, c, e⟩
    subst e1
    clear ho
    replace KL := Lib.hid (KL.out.next hb)
    replace Kb := Lib.hid (Kb.out.next hb)
    replace qb := Kb.out.cell
    replace RB0 := Lib.hid (RB0.out.next hb)
    clear hb
    go_wp2_with fail
    refine (specRepresentationOf_any _ L x _ RB0.out HN.out HWF.out HWX.out).mono ?_
    rintro e W4 ⟨v2, rfl, ho, hb⟩
    rw [ER.out]
    have Q2 := Lib.hid ho.reads
    obtain ⟨A2, c2, e2⟩ : ∃ A c, v2 = .slice A _ c := by obtain ⟨A, c, e, _⟩ := Q2.out; exact ⟨A, c, e⟩
    subst e2
    clear ho
    replace KL := Lib.hid (KL.out.next hb)
    replace Kb := Lib.hid (Kb.out.next hb)
    replace qb := Kb.out.cell
    replace RB0 := Lib.hid (RB0.out.next hb)
    replace Q1 := Lib.hid (Q1.out.next hb)
    clear hb
    go_wp2_with fail
    refine (implIsValue_any _ L x _ RB0.out HN.out HWF.out HWX.out).mono ?_
    rintro e W5 ⟨rfl, hb⟩
    rw [EA.out, EV.out]
    replace KL := Lib.hid (KL.out.next hb)
    replace Kb := Lib.hid (Kb.out.next hb)
    replace qb := Kb.out.cell
    replace RB0 := Lib.hid (RB0.out.next hb)
    replace Q1 := Lib.hid (Q1.out.next hb)
    replace Q2 := Lib.hid (Q2.out.next hb)
    clear hb
    go_wp2_with fail
    refine (specIsValue_any _ L x _ RB0.out HN.out HWF.out HWX.out).mono ?_
    rintro e W6 ⟨rfl, hb⟩
    rw [EA.out, EV.out]
    replace KL := Lib.hid (KL.out.next hb)
    replace Kb := Lib.hid (Kb.out.next hb)
    replace qb := Kb.out.cell
    replace RB0 := Lib.hid (RB0.out.next hb)
    replace Q1 := Lib.hid (Q1.out.next hb)
    replace Q2 := Lib.hid (Q2.out.next hb)
    clear hb
    go_wp2_with fail
    refine (likeI _ _ (reA L x) _ Q1.out Q2.out HRL.out).mono ?_
    rintro e W7 ⟨rfl, hb⟩
    replace KL := Lib.hid (KL.out.next hb)
    replace Kb := Lib.hid (Kb.out.next hb)
    replace qb := Kb.out.cell
    replace RB0 := Lib.hid (RB0.out.next hb)
    replace Q1 := Lib.hid (Q1.out.next hb)
    replace Q2 := Lib.hid (Q2.out.next hb)
    clear hb
    have HVU := Lib.hid (vu_facts HC0.out)
    go_wp2_with fail
    refine (implValuesUpTo_any _ L x _ RB0.out HN.out HWF.out HWX.out).mono ?_
    rintro e W8 ⟨v3, rfl, ho, hb⟩
    rw [EV.out]
    have Q3 := Lib.hid ho.reads
    obtain ⟨A3, c3, e3⟩ : ∃ A c, v3 = .slice A _ c := by obtain ⟨A, c, e, _⟩ := Q3.out; exact ⟨A, c, e⟩
    subst e3
    clear ho
    replace KL := Lib.hid (KL.out.next hb)
    replace Kb := Lib.hid (Kb.out.next hb)
    replace qb := Kb.out.cell
    replace RB0 := Lib.hid (RB0.out.next hb)
    replace Q1 := Lib.hid (Q1.out.next hb)
    replace Q2 := Lib.hid (Q2.out.next hb)
    clear hb
    go_wp2_with fail
    refine (hasInt_any _ (vuA L x) x _ Q3.out HVU.out.1).mono ?_
    rintro e W9 ⟨rfl, hb⟩
    rw [HVU.out.2.1, EB.out]
    replace KL := Lib.hid (KL.out.next hb)
    replace Kb := Lib.hid (Kb.out.next hb)
    replace qb := Kb.out.cell
    replace RB0 := Lib.hid (RB0.out.next hb)
    replace Q1 := Lib.hid (Q1.out.next hb)
    replace Q2 := Lib.hid (Q2.out.next hb)
    replace Q3 := Lib.hid (Q3.out.next hb)
    clear hb
    obtain ⟨V, hV⟩ : ∃ V, (vuA L x).length = V := ⟨_, rfl⟩
    rw [hV]
    rw [hV] at Q3
    have HV4 : V ≤ 1099511627776 := by have := HVU.out.1; omega
    have HVA : Hid (∀ i, i + 1 < V → (vuA L x)[i]?.getD 0 < (vuA L x)[i + 1]?.getD 0) := Lib.hid (by rw [← hV]; exact HVU.out.2.2)
    have HVV := Lib.hid hV
    clear hV HVU
    go_wp2_with fail
    go_loopw [15] (fun vi wr => ∃ (i m : Nat), 1 ≤ i ∧ (i ≤ V ∨ i = 1) ∧ vi = .int .i64 i ∧ Hid (wr = W9.drewN m)) (fun vi _ => V - (intOf vi).toNat)
    case atStart => exact ⟨1, 0, by omega, .inr rfl, rfl, Lib.hid rfl⟩
    case round =>
      obtain ⟨i, m, hi, hiV, rfl, hw⟩ := hrel
      by_cases hlt : i < V
      · obtain ⟨g, o, rfl, hc⟩ := Q3.out.at HVV.out (i := i) hlt
        obtain ⟨g2, o2, e2, hc2⟩ := Q3.out.at HVV.out (i := i - 1) (by omega)
        cases e2
        have d1 : wr.cell? ⟨g, o + i, none⟩ = some (.int .i64 ((vuA L x)[i]?.getD 0)) := by rw [hw.out]; exact hc
        have d2 : wr.cell? ⟨g, o + (i - 1), none⟩ = some (.int .i64 ((vuA L x)[i - 1]?.getD 0)) := by rw [hw.out]; exact hc2
        have h1 := HVA.out (i - 1) (by omega)
        rw [show i - 1 + 1 = i by omega] at h1
        have hi0 : (0 : Int) ≤ (i : Int) := by omega
        have hi1 : (i : Int) < (V : Int) := by omega
        have p1 : IntKind.i64.wrap ((i : Int) + 1) = (i : Int) + 1 := IntWalk.i64_in _ (by omega)
        have p2 : IntKind.i64.wrap ((i : Int) - 1) = ((i - 1 : Nat) : Int) := by rw [show ((i - 1 : Nat) : Int) = (i : Int) - 1 by omega]; exact IntWalk.i64_in _ (by omega)
        have hi2 : ((i - 1 : Nat) : Int) < (V : Int) := by omega
        generalize ((vuA L x)[i]?.getD 0 : Int) = y at *
        generalize ((vuA L x)[i - 1]?.getD 0 : Int) = z at *
        have hyz : decide (y ≤ z) = false := by simp; omega
        generalize hj : i - 1 = j at *
        clear hc hc2
        go_wp2_with fail
        go_quiet (fail)
        go_wp2_with fail
        go_roundw
        case rel => exact ⟨i + 1, _, by omega, by omega, by go_num, Lib.hid (by rw [hw.out, World.drewN_drewN])⟩
        case measure => simp [intOf]; omega
      · have hge : decide ((i : Int) < (V : Int)) = false := by simp; omega
        have hwb : Below W9.heap.size W9 wr := by rw [hw.out]; exact drewN_below _ _
        clear hw HVA Q3
        replace KL := Lib.hid (KL.out.next hwb)
        replace Kb := Lib.hid (Kb.out.next hwb)
        replace qb := Kb.out.cell
        replace RB0 := Lib.hid (RB0.out.next hwb)
        replace Q1 := Lib.hid (Q1.out.next hwb)
        replace Q2 := Lib.hid (Q2.out.next hwb)
        clear hwb HVV HV4
        have KX := KL
        go_wp2_with fail
        refine (DrawAperyOf_any A n c _ KL.out.bytes hn).mono ?_
        rintro e W10 ⟨Ac, nc, cc, L2, rfl, hr, hge, hL, hb⟩
        have HSP2 := Lib.hid hL
        have RC0 := Lib.hid hr
        clear hr hge hL KX
        replace KL := Lib.hid (KL.out.next hb)
        replace Kb := Lib.hid (Kb.out.next hb)
        replace qb := Kb.out.cell
        replace RB0 := Lib.hid (RB0.out.next hb)
        replace Q1 := Lib.hid (Q1.out.next hb)
        replace Q2 := Lib.hid (Q2.out.next hb)
        clear hb
        go_wp2_with fail
        have Kc : Hid (KpC W10.heap.size (.slice Ac nc cc) (W10.alloc (.cells #[.slice Ac nc cc] 26))) := Lib.hid (KpC.new _ _ _)
        have hb : Below W10.heap.size W10 (W10.alloc (.cells #[.slice Ac nc cc] 26)) := box_below _ _
        generalize W10.alloc (.cells #[.slice Ac nc cc] 26) = W11 at *
        replace KL := Lib.hid (KL.out.next hb)
        replace Kb := Lib.hid (Kb.out.next hb)
        replace qb := Kb.out.cell
        replace RB0 := Lib.hid (RB0.out.next hb)
        replace Q1 := Lib.hid (Q1.out.next hb)
        replace Q2 := Lib.hid (Q2.out.next hb)
        replace RC0 := Lib.hid (RC0.out.next hb)
        have qc := Kc.out.cell
        clear hb
        have HN2 : Hid (L2.length ≤ 1048576) := Lib.hid (by have := HSP2.out.1; omega)
        have HWF2 := Lib.hid HSP2.out.wf
        have HAL : Hid ((apoA L2).length ≤ 1099511627776) := Lib.hid (apoA_len HN2.out)
        go_wp2_with fail
        refine (implAperyOf_any _ L2 _ RC0.out HN2.out HWF2.out).mono ?_
        rintro e W12 ⟨v6, rfl, ho, hb⟩
        have Q6 := Lib.hid ho.reads
        obtain ⟨A6, c6, e6⟩ : ∃ A c, v6 = .slice A _ c := by obtain ⟨A, c, e, _⟩ := Q6.out; exact ⟨A, c, e⟩
        subst e6
        clear ho
        replace KL := Lib.hid (KL.out.next hb)
        replace Kb := Lib.hid (Kb.out.next hb)
        replace qb := Kb.out.cell
        replace Kc := Lib.hid (Kc.out.next hb)
        replace qc := Kc.out.cell
        replace RB0 := Lib.hid (RB0.out.next hb)
        replace Q1 := Lib.hid (Q1.out.next hb)
        replace Q2 := Lib.hid (Q2.out.next hb)
        replace RC0 := Lib.hid (RC0.out.next hb)
        clear hb
        go_wp2_with fail
        refine (specAperyOf_any _ L2 _ RC0.out HN2.out HWF2.out).mono ?_
        rintro e W13 ⟨v7, rfl, ho, hb⟩
        have Q7 := Lib.hid ho.reads
        obtain ⟨A7, c7, e7⟩ : ∃ A c, v7 = .slice A _ c := by obtain ⟨A, c, e, _⟩ := Q7.out; exact ⟨A, c, e⟩
        subst e7
        clear ho
        replace KL := Lib.hid (KL.out.next hb)
        replace Kb := Lib.hid (Kb.out.next hb)
        replace qb := Kb.out.cell
        replace Kc := Lib.hid (Kc.out.next hb)
        replace qc := Kc.out.cell
        replace RB0 := Lib.hid (RB0.out.next hb)
        replace Q1 := Lib.hid (Q1.out.next hb)
        replace Q2 := Lib.hid (Q2.out.next hb)
        replace RC0 := Lib.hid (RC0.out.next hb)
        replace Q6 := Lib.hid (Q6.out.next hb)
        clear hb
        go_wp2_with fail
        refine (likeI _ _ (apoA L2) _ Q6.out Q7.out (by have := HAL.out; omega)).mono ?_
        rintro e W14 ⟨rfl, hb⟩
        replace KL := Lib.hid (KL.out.next hb)
        replace Kb := Lib.hid (Kb.out.next hb)
        replace qb := Kb.out.cell
        replace Kc := Lib.hid (Kc.out.next hb)
        replace qc := Kc.out.cell
        replace RB0 := Lib.hid (RB0.out.next hb)
        replace Q1 := Lib.hid (Q1.out.next hb)
        replace Q2 := Lib.hid (Q2.out.next hb)
        replace RC0 := Lib.hid (RC0.out.next hb)
        replace Q6 := Lib.hid (Q6.out.next hb)
        replace Q7 := Lib.hid (Q7.out.next hb)
        clear hb
        have KB := Lib.hid KL.out.below
        have KW := KL
        replace KL : Hid (KpL W14 A n W14) := Lib.hid ⟨KL.out.bytes, Below.refl _ _⟩
        obtain ⟨N, hN⟩ : ∃ N, (apoA L2).length = N := ⟨_, rfl⟩
        rw [hN]
        rw [hN] at Q6
        have HNN := Lib.hid hN
        have hN4 : N ≤ 1099511627776 := by have := HAL.out; omega
        have HAP : Hid (∀ r, r < N → ApOK L2 N r ((apoA L2)[r]?.getD 0)) := Lib.hid (fun r hr => by rw [← hN]; exact ApOK.make (by omega))
        clear hN HAL Q7
        have Q60 := Q6
        have RC00 := RC0
        have Kc0 := Kc
        have HKW := KL
        clear Q6 RC0 Kc qc
        go_wp2_with fail
        go_loopw [26] (fun vr wr => ∃ (r : Nat), r ≤ N ∧ vr = .int .i64 r ∧ Hid (KpL W14 A n wr)) (fun vr _ => N - (intOf vr).toNat)
        case atStart => exact ⟨0, by omega, rfl, HKW⟩
        case round =>
          clear KL HKW
          obtain ⟨r, hr, rfl, KL⟩ := hrel
          by_cases hlt : r < N
          rotate_left
          · have hge : decide ((r : Int) < (N : Int)) = false := by simp; omega
            go_wp2_with fail
            go_ret
            exact ⟨rfl, below_next KB.out KB.out.size KL.out.below⟩
          have hap := HAP.out r hlt
          obtain ⟨ga, oa, rfl, hc⟩ := Q60.out.at HNN.out (i := r) hlt
          have Q6 := Lib.hid (Q60.out.next KL.out.below)
          have RC0 := Lib.hid (RC00.out.next KL.out.below)
          have Kc := Lib.hid (Kc0.out.next KL.out.below)
          have qc := Kc.out.cell
          have d1 : wr.cell? ⟨ga, oa + r, none⟩ = some (.int .i64 ((apoA L2)[r]?.getD 0)) := by obtain ⟨g3, o3, e3, hc3⟩ := Q6.out.at HNN.out (i := r) hlt; cases e3; exact hc3
          have HD : Hid (∀ w', Below W14.heap.size W14 w' → w'.cell? ⟨ga, oa + r, none⟩ = some (.int .i64 ((apoA L2)[r]?.getD 0))) := Lib.hid (fun w' hb' => by obtain ⟨g3, o3, e3, hc3⟩ := (Q60.out.next hb').at HNN.out (i := r) hlt; cases e3; exact hc3)
          clear hc
          generalize ((apoA L2)[r]?.getD 0 : Int) = z at *
          obtain ⟨hrem, hz0, hz1, hval, hless⟩ := hap
          have hr0 : (0 : Int) ≤ (r : Int) := by omega
          have hr1 : (r : Int) < (N : Int) := by omega
          have p1 : IntKind.i64.wrap ((r : Int) + 1) = (r : Int) + 1 := IntWalk.i64_in _ (by omega)
          have pN : IntKind.i64.wrap (N : Int) = (N : Int) := IntWalk.i64_in _ (by omega)
          have p3 : IntKind.i64.wrap (z.tmod (N : Int)) = (r : Int) := by rw [hrem]; exact IntWalk.i64_in _ (by omega)
          have hn0 : ((N : Int) == 0) = false := by simp; omega
          have HVL := Lib.hid hval
          have HLS := Lib.hid hless
          clear hval hless
          by_cases hbig : 20000 < z
          · have hbb : decide (20000 < z) = true := by simpa using hbig
            go_wp2_with fail
            refine ⟨⟨r + 1, by omega, by go_num, KL⟩, ?_⟩
            simp [intOf]; omega
          have hbb : decide (20000 < z) = false := by simpa using hbig
          have hzw : (Lit.int .i64 z).wf = true := i64_wf (by omega) (by omega)
          have hv1 := (HVL.out (by omega)).1
          have hv2 := (HVL.out (by omega)).2
          clear HVL
          go_wp2_with fail
          refine wp_region_held_drew (S := fun w' => w'.cell? ⟨W10.heap.size, 0, none⟩ = some (Value.slice Ac nc cc) ∧ w'.cell? ⟨ga, oa + r, none⟩ = some (Value.int .i64 z)) (by kernel_rfl) ⟨qc, d1⟩ (fun hHeld => ?_)
          refine takeY 0 _ (v := ?_) rfl rfl (by kernel_rfl) (by kernel_rfl) (by kernel_rfl) (fun _ _ _ h => h) (by kernel_rfl) ?_ (by assumption) ?_
          rotate_left 1
          · intro w hSw; (try dsimp only at hSw); go_simp; (try with_reducible rfl)
          try simp only [Act.put, List.setIfInBounds_toArray, List.set_cons_zero, List.set_cons_succ]
          refine takeY 1 _ (v := ?_) rfl rfl (by kernel_rfl) (by kernel_rfl) (by kernel_rfl) (fun _ _ _ h => h) (by kernel_rfl) ?_ (by assumption) ?_
          rotate_left 1
          · intro w hSw; (try dsimp only at hSw); go_simp; (try with_reducible rfl)
          try simp only [Act.put, List.setIfInBounds_toArray, List.set_cons_zero, List.set_cons_succ]
          refine takeY 2 _ (v := ?_) rfl rfl (by kernel_rfl) (by kernel_rfl) (by kernel_rfl) (fun _ _ _ h => h) (by kernel_rfl) ?_ (by assumption) ?_
          rotate_left 1
          · intro w hSw; (try dsimp only at hSw); go_simp; (try with_reducible rfl)
          try simp only [Act.put, List.setIfInBounds_toArray, List.set_cons_zero, List.set_cons_succ]
          refine takeY 3 _ (v := ?_) rfl rfl (by kernel_rfl) (by kernel_rfl) (by kernel_rfl) (fun _ _ _ h => h) (by kernel_rfl) ?_ (by assumption) ?_
          rotate_left 1
          · intro w hSw; (try dsimp only at hSw); go_simp; (try with_reducible rfl)
          try simp only [Act.put, List.setIfInBounds_toArray, List.set_cons_zero, List.set_cons_succ]
          refine takeY 4 _ (v := ?_) rfl rfl (by kernel_rfl) (by kernel_rfl) (by kernel_rfl) (fun _ _ _ h => h) (by kernel_rfl) ?_ (by assumption) ?_
          rotate_left 1
          · intro w hSw; (try dsimp only at hSw); go_simp; (try with_reducible rfl)
          try simp only [Act.put, List.setIfInBounds_toArray, List.set_cons_zero, List.set_cons_succ]
          refine wpAnyH_ready (rs := [5]) (by kernel_rfl) (by simp) ?_
          refine AllReadyH.cons rfl (fun K hK => ?_) AllReadyH.nil
          go_simp
          refine (implIsValue_any _ L2 (z) _ (show ReadI wr.drew wr.drew.heap.size (.slice Ac nc cc) L2 from RC0.out) HN2.out HWF2.out hzw).mono ?_
          rintro e W15 ⟨rfl, hb0⟩
          rw [hv1, hv2]
          have hb : Below wr.heap.size wr W15 := ⟨hb0.os, hb0.tape, hb0.output, hb0.size, hb0.block⟩
          replace KL := Lib.hid (KL.out.next hb)
          replace Kc := Lib.hid (Kc.out.next hb)
          replace qc := Kc.out.cell
          replace Q6 := Lib.hid (Q6.out.next hb)
          replace RC0 := Lib.hid (RC0.out.next hb)
          replace d1 := HD.out W15 KL.out.below
          clear hb hb0
          refine hK.out _ W15 ⟨qc, d1⟩ (fun hHeld => ?_)
          clear hK K
          try simp only [Act.put, List.setIfInBounds_toArray, List.set_cons_zero, List.set_cons_succ]
          refine takeY 6 _ (v := ?_) rfl rfl (by kernel_rfl) (by kernel_rfl) (by kernel_rfl) (fun _ _ _ h => h) (by kernel_rfl) ?_ (by assumption) ?_
          rotate_left 1
          · intro w hSw; (try dsimp only at hSw); go_simp; (try with_reducible rfl)
          try simp only [Act.put, List.setIfInBounds_toArray, List.set_cons_zero, List.set_cons_succ]
          refine takeY 7 _ (v := ?_) rfl rfl (by kernel_rfl) (by kernel_rfl) (by kernel_rfl) (fun _ _ _ h => h) (by kernel_rfl) ?_ (by assumption) ?_
          rotate_left 1
          · intro w hSw; (try dsimp only at hSw); go_simp; (try with_reducible rfl)
          try simp only [Act.put, List.setIfInBounds_toArray, List.set_cons_zero, List.set_cons_succ]
          refine takeY 8 _ (v := ?_) rfl rfl (by kernel_rfl) (by kernel_rfl) (by kernel_rfl) (fun _ _ _ h => h) (by kernel_rfl) ?_ (by assumption) ?_
          rotate_left 1
          · intro w hSw; (try dsimp only at hSw); go_simp; (try with_reducible rfl)
          try simp only [Act.put, List.setIfInBounds_toArray, List.set_cons_zero, List.set_cons_succ]
          refine takeY 9 _ (v := ?_) rfl rfl (by kernel_rfl) (by kernel_rfl) (by kernel_rfl) (fun _ _ _ h => h) (by kernel_rfl) ?_ (by assumption) ?_
          rotate_left 1
          · intro w hSw; (try dsimp only at hSw); go_simp; (try with_reducible rfl)
          try simp only [Act.put, List.setIfInBounds_toArray, List.set_cons_zero, List.set_cons_succ]
          refine takeY 10 _ (v := ?_) rfl rfl (by kernel_rfl) (by kernel_rfl) (by kernel_rfl) (fun _ _ _ h => h) (by kernel_rfl) ?_ (by assumption) ?_
          rotate_left 1
          · intro w hSw; (try dsimp only at hSw); go_simp; (try with_reducible rfl)
          try simp only [Act.put, List.setIfInBounds_toArray, List.set_cons_zero, List.set_cons_succ]
          refine wpAnyH_done (by kernel_rfl) ?_ _
          clear hv1 hv2 hzw
          by_cases hle : (N : Int) ≤ z
          rotate_left
          · have hlb : decide ((N : Int) ≤ z) = false := by simpa using hle
            go_wp2_with fail
            refine ⟨⟨r + 1, by omega, by go_num, KL⟩, ?_⟩
            simp [intOf]; omega
          have hlb : decide ((N : Int) ≤ z) = true := by simpa using hle
          have hv1 := (HLS.out (by omega) hle).1
          have hv2 := (HLS.out (by omega) hle).2
          clear HLS
          have p4 : IntKind.i64.wrap (z - (N : Int)) = z - (N : Int) := IntWalk.i64_in _ (by omega)
          have hzw : (Lit.int .i64 (z - (N : Int))).wf = true := i64_wf (by omega) (by omega)
          go_wp2_with fail
          refine wp_region_held_drew (S := fun w' => w'.cell? ⟨W10.heap.size, 0, none⟩ = some (Value.slice Ac nc cc) ∧ w'.cell? ⟨ga, oa + r, none⟩ = some (Value.int .i64 z)) (by kernel_rfl) ⟨qc, d1⟩ (fun hHeld => ?_)
          refine takeY 0 _ (v := ?_) rfl rfl (by kernel_rfl) (by kernel_rfl) (by kernel_rfl) (fun _ _ _ h => h) (by kernel_rfl) ?_ (by assumption) ?_
          rotate_left 1
          · intro w hSw; (try dsimp only at hSw); go_simp; (try with_reducible rfl)
          try simp only [Act.put, List.setIfInBounds_toArray, List.set_cons_zero, List.set_cons_succ]
          refine takeY 1 _ (v := ?_) rfl rfl (by kernel_rfl) (by kernel_rfl) (by kernel_rfl) (fun _ _ _ h => h) (by kernel_rfl) ?_ (by assumption) ?_
          rotate_left 1
          · intro w hSw; (try dsimp only at hSw); go_simp; (try with_reducible rfl)
          try simp only [Act.put, List.setIfInBounds_toArray, List.set_cons_zero, List.set_cons_succ]
          refine takeY 2 _ (v := ?_) rfl rfl (by kernel_rfl) (by kernel_rfl) (by kernel_rfl) (fun _ _ _ h => h) (by kernel_rfl) ?_ (by assumption) ?_
          rotate_left 1
          · intro w hSw; (try dsimp only at hSw); go_simp; (try with_reducible rfl)
          try simp only [Act.put, List.setIfInBounds_toArray, List.set_cons_zero, List.set_cons_succ]
          refine takeY 3 _ (v := ?_) rfl rfl (by kernel_rfl) (by kernel_rfl) (by kernel_rfl) (fun _ _ _ h => h) (by kernel_rfl) ?_ (by assumption) ?_
          rotate_left 1
          · intro w hSw; (try dsimp only at hSw); go_simp; (try with_reducible rfl)
          try simp only [Act.put, List.setIfInBounds_toArray, List.set_cons_zero, List.set_cons_succ]
          refine takeY 4 _ (v := ?_) rfl rfl (by kernel_rfl) (by kernel_rfl) (by kernel_rfl) (fun _ _ _ h => h) (by kernel_rfl) ?_ (by assumption) ?_
          rotate_left 1
          · intro w hSw; (try dsimp only at hSw); go_simp; (try with_reducible rfl)
          try simp only [Act.put, List.setIfInBounds_toArray, List.set_cons_zero, List.set_cons_succ]
          refine takeY 5 _ (v := ?_) rfl rfl (by kernel_rfl) (by kernel_rfl) (by kernel_rfl) (fun _ _ _ h => h) (by kernel_rfl) ?_ (by assumption) ?_
          rotate_left 1
          · intro w hSw; (try dsimp only at hSw); go_simp; (try with_reducible rfl)
          try simp only [Act.put, List.setIfInBounds_toArray, List.set_cons_zero, List.set_cons_succ]
          refine takeY 6 _ (v := ?_) rfl rfl (by kernel_rfl) (by kernel_rfl) (by kernel_rfl) (fun _ _ _ h => h) (by kernel_rfl) ?_ (by assumption) ?_
          rotate_left 1
          · intro w hSw; (try dsimp only at hSw); go_simp; (try with_reducible rfl)
          try simp only [Act.put, List.setIfInBounds_toArray, List.set_cons_zero, List.set_cons_succ]
          refine wpAnyH_ready (rs := [7]) (by kernel_rfl) (by simp) ?_
          refine AllReadyH.cons rfl (fun K hK => ?_) AllReadyH.nil
          go_simp
          refine (implIsValue_any _ L2 (z - (N : Int)) _ (show ReadI W15.drew W15.drew.heap.size (.slice Ac nc cc) L2 from RC0.out) HN2.out HWF2.out hzw).mono ?_
          rintro e W16 ⟨rfl, hb0⟩
          rw [hv1, hv2]
          have hb : Below W15.heap.size W15 W16 := ⟨hb0.os, hb0.tape, hb0.output, hb0.size, hb0.block⟩
          replace KL := Lib.hid (KL.out.next hb)
          replace Kc := Lib.hid (Kc.out.next hb)
          replace qc := Kc.out.cell
          replace Q6 := Lib.hid (Q6.out.next hb)
          replace RC0 := Lib.hid (RC0.out.next hb)
          replace d1 := HD.out W16 KL.out.below
          clear hb hb0
          refine hK.out _ W16 ⟨qc, d1⟩ (fun hHeld => ?_)
          clear hK K
          try simp only [Act.put, List.setIfInBounds_toArray, List.set_cons_zero, List.set_cons_succ]
          refine takeY 8 _ (v := ?_) rfl rfl (by kernel_rfl) (by kernel_rfl) (by kernel_rfl) (fun _ _ _ h => h) (by kernel_rfl) ?_ (by assumption) ?_
          rotate_left 1
          · intro w hSw; (try dsimp only at hSw); go_simp; (try with_reducible rfl)
          try simp only [Act.put, List.setIfInBounds_toArray, List.set_cons_zero, List.set_cons_succ]
          refine takeY 9 _ (v := ?_) rfl rfl (by kernel_rfl) (by kernel_rfl) (by kernel_rfl) (fun _ _ _ h => h) (by kernel_rfl) ?_ (by assumption) ?_
          rotate_left 1
          · intro w hSw; (try dsimp only at hSw); go_simp; (try with_reducible rfl)
          try simp only [Act.put, List.setIfInBounds_toArray, List.set_cons_zero, List.set_cons_succ]
          refine takeY 10 _ (v := ?_) rfl rfl (by kernel_rfl) (by kernel_rfl) (by kernel_rfl) (fun _ _ _ h => h) (by kernel_rfl) ?_ (by assumption) ?_
          rotate_left 1
          · intro w hSw; (try dsimp only at hSw); go_simp; (try with_reducible rfl)
          try simp only [Act.put, List.setIfInBounds_toArray, List.set_cons_zero, List.set_cons_succ]
          refine takeY 11 _ (v := ?_) rfl rfl (by kernel_rfl) (by kernel_rfl) (by kernel_rfl) (fun _ _ _ h => h) (by kernel_rfl) ?_ (by assumption) ?_
          rotate_left 1
          · intro w hSw; (try dsimp only at hSw); go_simp; (try with_reducible rfl)
          try simp only [Act.put, List.setIfInBounds_toArray, List.set_cons_zero, List.set_cons_succ]
          refine takeY 12 _ (v := ?_) rfl rfl (by kernel_rfl) (by kernel_rfl) (by kernel_rfl) (fun _ _ _ h => h) (by kernel_rfl) ?_ (by assumption) ?_
          rotate_left 1
          · intro w hSw; (try dsimp only at hSw); go_simp; (try with_reducible rfl)
          try simp only [Act.put, List.setIfInBounds_toArray, List.set_cons_zero, List.set_cons_succ]
          refine wpAnyH_done (by kernel_rfl) ?_ _
          go_wp2_with fail
          refine ⟨⟨r + 1, by omega, by go_num, KL⟩, ?_⟩
          simp [intOf]; omega
  · have ER := Lib.hid hr
    have EA := Lib.hid ha
    have EV := Lib.hid hv
    have HC0 := Lib.hid (And.intro hp.1 hp.2.1)
    have EB := Lib.hid hp.2.2
    have HOK := Lib.hid (RepOK.make hp.1 hp.2.1 hp.2.2 HSP.out.1)
    generalize L.length = M at HOK
    clear hp hr ha hv
    go_wp2_with fail
    refine (implRepresentationOf_any _ L x _ RB0.out HN.out HWF.out HWX.out).mono ?_
    rintro e W3 ⟨v1, rfl, ho, hb⟩
    rw [ER.out]
    have Q1 := Lib.hid ho.reads
    obtain ⟨A1, c1, e1⟩ : ∃ A c, v1 = .slice A M c := by obtain ⟨A, c, e, _⟩ := Q1.out; rw [HOK.out.l1] at e; exact ⟨A, c, e⟩
    subst e1
    clear ho
    replace KL := Lib.hid (KL.out.next hb)
    replace Kb := Lib.hid (Kb.out.next hb)
    replace qb := Kb.out.cell
    replace RB0 := Lib.hid (RB0.out.next hb)
    clear hb
    go_wp2_with fail
    refine (specRepresentationOf_any _ L x _ RB0.out HN.out HWF.out HWX.out).mono ?_
    rintro e W4 ⟨v2, rfl, ho, hb⟩
    rw [ER.out]
    have Q2 := Lib.hid ho.reads
    obtain ⟨A2, c2, e2⟩ : ∃ A c, v2 = .slice A M c := by obtain ⟨A, c, e, _⟩ := Q2.out; rw [HOK.out.l1] at e; exact ⟨A, c, e⟩
    subst e2
    clear ho
    replace KL := Lib.hid (KL.out.next hb)
    replace Kb := Lib.hid (Kb.out.next hb)
    replace qb := Kb.out.cell
    replace RB0 := Lib.hid (RB0.out.next hb)
    replace Q1 := Lib.hid (Q1.out.next hb)
    clear hb
    go_wp2_with fail
    refine (implIsValue_any _ L x _ RB0.out HN.out HWF.out HWX.out).mono ?_
    rintro e W5 ⟨rfl, hb⟩
    rw [EA.out, EV.out]
    replace KL := Lib.hid (KL.out.next hb)
    replace Kb := Lib.hid (Kb.out.next hb)
    replace qb := Kb.out.cell
    replace RB0 := Lib.hid (RB0.out.next hb)
    replace Q1 := Lib.hid (Q1.out.next hb)
    replace Q2 := Lib.hid (Q2.out.next hb)
    clear hb
    go_wp2_with fail
    refine (specIsValue_any _ L x _ RB0.out HN.out HWF.out HWX.out).mono ?_
    rintro e W6 ⟨rfl, hb⟩
    rw [EA.out, EV.out]
    replace KL := Lib.hid (KL.out.next hb)
    replace Kb := Lib.hid (Kb.out.next hb)
    replace qb := Kb.out.cell
    replace RB0 := Lib.hid (RB0.out.next hb)
    replace Q1 := Lib.hid (Q1.out.next hb)
    replace Q2 := Lib.hid (Q2.out.next hb)
    clear hb
    go_wp2_with fail
    refine (likeI _ _ (reA L x) _ Q1.out Q2.out HRL.out).mono ?_
    rintro e W7 ⟨rfl, hb⟩
    replace KL := Lib.hid (KL.out.next hb)
    replace Kb := Lib.hid (Kb.out.next hb)
    replace qb := Kb.out.cell
    replace RB0 := Lib.hid (RB0.out.next hb)
    replace Q1 := Lib.hid (Q1.out.next hb)
    replace Q2 := Lib.hid (Q2.out.next hb)
    clear hb
    have HVU := Lib.hid (vu_facts HC0.out)
    go_wp2_with fail
    refine (implValuesUpTo_any _ L x _ RB0.out HN.out HWF.out HWX.out).mono ?_
    rintro e W8 ⟨v3, rfl, ho, hb⟩
    rw [EV.out]
    have Q3 := Lib.hid ho.reads
    obtain ⟨A3, c3, e3⟩ : ∃ A c, v3 = .slice A _ c := by obtain ⟨A, c, e, _⟩ := Q3.out; exact ⟨A, c, e⟩
    subst e3
    clear ho
    replace KL := Lib.hid (KL.out.next hb)
    replace Kb := Lib.hid (Kb.out.next hb)
    replace qb := Kb.out.cell
    replace RB0 := Lib.hid (RB0.out.next hb)
    replace Q1 := Lib.hid (Q1.out.next hb)
    replace Q2 := Lib.hid (Q2.out.next hb)
    clear hb
    go_wp2_with fail
    refine (hasInt_any _ (vuA L x) x _ Q3.out HVU.out.1).mono ?_
    rintro e W9 ⟨rfl, hb⟩
    rw [HVU.out.2.1, EB.out]
    replace KL := Lib.hid (KL.out.next hb)
    replace Kb := Lib.hid (Kb.out.next hb)
    replace qb := Kb.out.cell
    replace RB0 := Lib.hid (RB0.out.next hb)
    replace Q1 := Lib.hid (Q1.out.next hb)
    replace Q2 := Lib.hid (Q2.out.next hb)
    replace Q3 := Lib.hid (Q3.out.next hb)
    clear hb
    obtain ⟨V, hV⟩ : ∃ V, (vuA L x).length = V := ⟨_, rfl⟩
    rw [hV]
    rw [hV] at Q3
    have HV4 : V ≤ 1099511627776 := by have := HVU.out.1; omega
    have HVA : Hid (∀ i, i + 1 < V → (vuA L x)[i]?.getD 0 < (vuA L x)[i + 1]?.getD 0) := Lib.hid (by rw [← hV]; exact HVU.out.2.2)
    have HVV := Lib.hid hV
    clear hV HVU
    go_wp2_with fail
    go_loopw [15] (fun vi wr => ∃ (i m : Nat), 1 ≤ i ∧ (i ≤ V ∨ i = 1) ∧ vi = .int .i64 i ∧ Hid (wr = W9.drewN m)) (fun vi _ => V - (intOf vi).toNat)
    case atStart => exact ⟨1, 0, by omega, .inr rfl, rfl, Lib.hid rfl⟩
    case round =>
      obtain ⟨i, m, hi, hiV, rfl, hw⟩ := hrel
      by_cases hlt : i < V
      · obtain ⟨g, o, rfl, hc⟩ := Q3.out.at HVV.out (i := i) hlt
        obtain ⟨g2, o2, e2, hc2⟩ := Q3.out.at HVV.out (i := i - 1) (by omega)
        cases e2
        have d1 : wr.cell? ⟨g, o + i, none⟩ = some (.int .i64 ((vuA L x)[i]?.getD 0)) := by rw [hw.out]; exact hc
        have d2 : wr.cell? ⟨g, o + (i - 1), none⟩ = some (.int .i64 ((vuA L x)[i - 1]?.getD 0)) := by rw [hw.out]; exact hc2
        have h1 := HVA.out (i - 1) (by omega)
        rw [show i - 1 + 1 = i by omega] at h1
        have hi0 : (0 : Int) ≤ (i : Int) := by omega
        have hi1 : (i : Int) < (V : Int) := by omega
        have p1 : IntKind.i64.wrap ((i : Int) + 1) = (i : Int) + 1 := IntWalk.i64_in _ (by omega)
        have p2 : IntKind.i64.wrap ((i : Int) - 1) = ((i - 1 : Nat) : Int) := by rw [show ((i - 1 : Nat) : Int) = (i : Int) - 1 by omega]; exact IntWalk.i64_in _ (by omega)
        have hi2 : ((i - 1 : Nat) : Int) < (V : Int) := by omega
        generalize ((vuA L x)[i]?.getD 0 : Int) = y at *
        generalize ((vuA L x)[i - 1]?.getD 0 : Int) = z at *
        have hyz : decide (y ≤ z) = false := by simp; omega
        generalize hj : i - 1 = j at *
        clear hc hc2
        go_wp2_with fail
        go_quiet (fail)
        go_wp2_with fail
        go_roundw
        case rel => exact ⟨i + 1, _, by omega, by omega, by go_num, Lib.hid (by rw [hw.out, World.drewN_drewN])⟩
        case measure => simp [intOf]; omega
      · have hge : decide ((i : Int) < (V : Int)) = false := by simp; omega
        have hwb : Below W9.heap.size W9 wr := by rw [hw.out]; exact drewN_below _ _
        clear hw HVA Q3
        replace KL := Lib.hid (KL.out.next hwb)
        replace Kb := Lib.hid (Kb.out.next hwb)
        replace qb := Kb.out.cell
        replace RB0 := Lib.hid (RB0.out.next hwb)
        replace Q1 := Lib.hid (Q1.out.next hwb)
        replace Q2 := Lib.hid (Q2.out.next hwb)
        clear hwb HVV HV4
        have HRO := HOK
        go_wp2_with fail
        refine (implGeneratorsOf_any _ L _ RB0.out HN.out HWF.out).mono ?_
        rintro e W10 ⟨v4, rfl, ho, hb⟩
        rw [HRO.out.c1]
        have Q4 := Lib.hid ho.reads
        obtain ⟨A4, c4, e4⟩ : ∃ A c, v4 = .slice A M c := by obtain ⟨A, c, e, _⟩ := Q4.out; rw [HRO.out.l2] at e; exact ⟨A, c, e⟩
        subst e4
        clear ho
        replace KL := Lib.hid (KL.out.next hb)
        replace Kb := Lib.hid (Kb.out.next hb)
        replace qb := Kb.out.cell
        replace RB0 := Lib.hid (RB0.out.next hb)
        replace Q1 := Lib.hid (Q1.out.next hb)
        replace Q2 := Lib.hid (Q2.out.next hb)
        clear hb
        go_wp2_with fail
        refine (implDivisorsOf_any _ L _ RB0.out HN.out HWF.out).mono ?_
        rintro e W11 ⟨v5, rfl, ho, hb⟩
        rw [HRO.out.c2]
        have Q5 := Lib.hid ho.reads
        obtain ⟨A5, c5, e5⟩ : ∃ A c, v5 = .slice A M c := by obtain ⟨A, c, e, _⟩ := Q5.out; rw [HRO.out.l3] at e; exact ⟨A, c, e⟩
        subst e5
        clear ho
        replace KL := Lib.hid (KL.out.next hb)
        replace Kb := Lib.hid (Kb.out.next hb)
        replace qb := Kb.out.cell
        replace RB0 := Lib.hid (RB0.out.next hb)
        replace Q1 := Lib.hid (Q1.out.next hb)
        replace Q2 := Lib.hid (Q2.out.next hb)
        replace Q4 := Lib.hid (Q4.out.next hb)
        clear hb
        go_wp2_with fail
        refine (product5_any _ _ (reA L x) (goA L) _ Q1.out Q4.out (by rw [HRO.out.l1, HRO.out.l2]) (by rw [HRO.out.l1]; have := HRO.out.m; omega) (by rw [HRO.out.l1]; exact HRO.out.pre)).mono ?_
        rintro e W12 ⟨rfl, hb⟩
        rw [HRO.out.l1, HRO.out.sum]
        replace KL := Lib.hid (KL.out.next hb)
        replace Kb := Lib.hid (Kb.out.next hb)
        replace qb := Kb.out.cell
        replace RB0 := Lib.hid (RB0.out.next hb)
        replace Q1 := Lib.hid (Q1.out.next hb)
        replace Q2 := Lib.hid (Q2.out.next hb)
        replace Q4 := Lib.hid (Q4.out.next hb)
        replace Q5 := Lib.hid (Q5.out.next hb)
        clear hb
        have hM64 : M ≤ 64 := HRO.out.m
        go_wp2_with fail
        go_loopw [20] (fun vi wr => ∃ (i m : Nat), i ≤ M ∧ vi = .int .i64 i ∧ Hid (wr = W12.drewN m)) (fun vi _ => M - (intOf vi).toNat)
        case atStart => exact ⟨0, 0, by omega, rfl, Lib.hid rfl⟩
        case round =>
          obtain ⟨i, m, hi, rfl, hw⟩ := hrel
          by_cases hlt : i < M
          · obtain ⟨g, o, rfl, hc⟩ := Q1.out.at HRO.out.l1 (i := i) hlt
            obtain ⟨g2, o2, rfl, hc2⟩ := Q5.out.at HRO.out.l3 (i := i) hlt
            have d1 : wr.cell? ⟨g, o + i, none⟩ = some (.int .i64 ((reA L x)[i]?.getD 0)) := by rw [hw.out]; exact hc
            have d2 : wr.cell? ⟨g2, o2 + i, none⟩ = some (.int .i64 ((doA L)[i]?.getD 0)) := by rw [hw.out]; exact hc2
            have h1 := HRO.out.pos i hlt
            have h2 := HRO.out.dv i hlt
            have hi0 : (0 : Int) ≤ (i : Int) := by omega
            have hi1 : (i : Int) < (M : Int) := by omega
            have p1 : IntKind.i64.wrap ((i : Int) + 1) = (i : Int) + 1 := IntWalk.i64_in _ (by omega)
            by_cases h0 : i = 0
            · have hig : ¬ 0 < i := by omega
              clear h0
              generalize ((reA L x)[i]?.getD 0 : Int) = y at *
              have hy0 : decide (y < 0) = false := by simp; omega
              clear hc hc2 d2 h2
              go_wp2_with fail
              go_quiet (fail)
              go_wp2_with fail
              go_roundw
              case rel => exact ⟨i + 1, _, by omega, by go_num, Lib.hid (by rw [hw.out, World.drewN_drewN])⟩
              case measure => simp [intOf]; omega
            · have d3 : ∃ z, wr.cell? ⟨g2, o2 + (i - 1), none⟩ = some (.int .i64 z) ∧ (1 ≤ z ∧ z ≤ 4611686018427387904) ∧ (reA L x)[i]?.getD 0 < z.tdiv ((doA L)[i]?.getD 0) := by
                obtain ⟨g3, o3, e3, hc3⟩ := Q5.out.at HRO.out.l3 (i := i - 1) (by omega)
                cases e3
                have h4 := HRO.out.lt (i - 1) (by omega)
                rw [show i - 1 + 1 = i by omega] at h4
                exact ⟨_, by rw [hw.out]; exact hc3, HRO.out.dv (i - 1) (by omega), h4⟩
              obtain ⟨z, d3, hz, hyz⟩ := d3
              generalize ((reA L x)[i]?.getD 0 : Int) = y at *
              generalize ((doA L)[i]?.getD 0 : Int) = d at *
              have hy0 : decide (y < 0) = false := by simp; omega
              have hig : 0 < i := by omega
              have p2 : IntKind.i64.wrap ((i : Int) - 1) = ((i - 1 : Nat) : Int) := by rw [show ((i - 1 : Nat) : Int) = (i : Int) - 1 by omega]; exact IntWalk.i64_in _ (by omega)
              have hid : (if 1 < d then d else 1) = d := by split <;> omega
              have hzd : ¬ z / d ≤ y := by rw [← Int.tdiv_eq_ediv_of_nonneg (by omega)]; omega
              generalize hj : i - 1 = j at *
              clear hc hc2
              go_wp2_with fail
              go_quiet (fail)
              go_wp2_with fail
              go_roundw
              case rel => exact ⟨i + 1, _, by omega, by go_num, Lib.hid (by rw [hw.out, World.drewN_drewN])⟩
              case measure => simp [intOf]; omega
          · have hge : decide ((i : Int) < (M : Int)) = false := by simp; omega
            have hwb : Below W12.heap.size W12 wr := by rw [hw.out]; exact drewN_below _ _
            clear hw
            replace KL := Lib.hid (KL.out.next hwb)
            replace Kb := Lib.hid (Kb.out.next hwb)
            replace qb := Kb.out.cell
            replace RB0 := Lib.hid (RB0.out.next hwb)
            replace Q1 := Lib.hid (Q1.out.next hwb)
            replace Q2 := Lib.hid (Q2.out.next hwb)
            replace Q4 := Lib.hid (Q4.out.next hwb)
            replace Q5 := Lib.hid (Q5.out.next hwb)
            clear hwb hM64
            have KX := KL
            go_wp2_with fail
            refine (DrawAperyOf_any A n c _ KL.out.bytes hn).mono ?_
            rintro e W13 ⟨Ac, nc, cc, L2, rfl, hr, hge, hL, hb⟩
            have HSP2 := Lib.hid hL
            have RC0 := Lib.hid hr
            clear hr hge hL KX
            replace KL := Lib.hid (KL.out.next hb)
            replace Kb := Lib.hid (Kb.out.next hb)
            replace qb := Kb.out.cell
            replace RB0 := Lib.hid (RB0.out.next hb)
            replace Q1 := Lib.hid (Q1.out.next hb)
            replace Q2 := Lib.hid (Q2.out.next hb)
            replace Q4 := Lib.hid (Q4.out.next hb)
            replace Q5 := Lib.hid (Q5.out.next hb)
            clear hb
            go_wp2_with fail
            have Kc : Hid (KpC W13.heap.size (.slice Ac nc cc) (W13.alloc (.cells #[.slice Ac nc cc] 26))) := Lib.hid (KpC.new _ _ _)
            have hb : Below W13.heap.size W13 (W13.alloc (.cells #[.slice Ac nc cc] 26)) := box_below _ _
            generalize W13.alloc (.cells #[.slice Ac nc cc] 26) = W14 at *
            replace KL := Lib.hid (KL.out.next hb)
            replace Kb := Lib.hid (Kb.out.next hb)
            replace qb := Kb.out.cell
            replace RB0 := Lib.hid (RB0.out.next hb)
            replace Q1 := Lib.hid (Q1.out.next hb)
            replace Q2 := Lib.hid (Q2.out.next hb)
            replace Q4 := Lib.hid (Q4.out.next hb)
            replace Q5 := Lib.hid (Q5.out.next hb)
            replace RC0 := Lib.hid (RC0.out.next hb)
            have qc := Kc.out.cell
            clear hb
            have HN2 : Hid (L2.length ≤ 1048576) := Lib.hid (by have := HSP2.out.1; omega)
            have HWF2 := Lib.hid HSP2.out.wf
            have HAL : Hid ((apoA L2).length ≤ 1099511627776) := Lib.hid (apoA_len HN2.out)
            go_wp2_with fail
            refine (implAperyOf_any _ L2 _ RC0.out HN2.out HWF2.out).mono ?_
            rintro e W15 ⟨v6, rfl, ho, hb⟩
            have Q6 := Lib.hid ho.reads
            obtain ⟨A6, c6, e6⟩ : ∃ A c, v6 = .slice A _ c := by obtain ⟨A, c, e, _⟩ := Q6.out; exact ⟨A, c, e⟩
            subst e6
            clear ho
            replace KL := Lib.hid (KL.out.next hb)
            replace Kb := Lib.hid (Kb.out.next hb)
            replace qb := Kb.out.cell
            replace Kc := Lib.hid (Kc.out.next hb)
            replace qc := Kc.out.cell
            replace RB0 := Lib.hid (RB0.out.next hb)
            replace Q1 := Lib.hid (Q1.out.next hb)
            replace Q2 := Lib.hid (Q2.out.next hb)
            replace Q4 := Lib.hid (Q4.out.next hb)
            replace Q5 := Lib.hid (Q5.out.next hb)
            replace RC0 := Lib.hid (RC0.out.next hb)
            clear hb
            go_wp2_with fail
            refine (specAperyOf_any _ L2 _ RC0.out HN2.out HWF2.out).mono ?_
            rintro e W16 ⟨v7, rfl, ho, hb⟩
            have Q7 := Lib.hid ho.reads
            obtain ⟨A7, c7, e7⟩ : ∃ A c, v7 = .slice A _ c := by obtain ⟨A, c, e, _⟩ := Q7.out; exact ⟨A, c, e⟩
            subst e7
            clear ho
            replace KL := Lib.hid (KL.out.next hb)
            replace Kb := Lib.hid (Kb.out.next hb)
            replace qb := Kb.out.cell
            replace Kc := Lib.hid (Kc.out.next hb)
            replace qc := Kc.out.cell
            replace RB0 := Lib.hid (RB0.out.next hb)
            replace Q1 := Lib.hid (Q1.out.next hb)
            replace Q2 := Lib.hid (Q2.out.next hb)
            replace Q4 := Lib.hid (Q4.out.next hb)
            replace Q5 := Lib.hid (Q5.out.next hb)
            replace RC0 := Lib.hid (RC0.out.next hb)
            replace Q6 := Lib.hid (Q6.out.next hb)
            clear hb
            go_wp2_with fail
            refine (likeI _ _ (apoA L2) _ Q6.out Q7.out (by have := HAL.out; omega)).mono ?_
            rintro e W17 ⟨rfl, hb⟩
            replace KL := Lib.hid (KL.out.next hb)
            replace Kb := Lib.hid (Kb.out.next hb)
            replace qb := Kb.out.cell
            replace Kc := Lib.hid (Kc.out.next hb)
            replace qc := Kc.out.cell
            replace RB0 := Lib.hid (RB0.out.next hb)
            replace Q1 := Lib.hid (Q1.out.next hb)
            replace Q2 := Lib.hid (Q2.out.next hb)
            replace Q4 := Lib.hid (Q4.out.next hb)
            replace Q5 := Lib.hid (Q5.out.next hb)
            replace RC0 := Lib.hid (RC0.out.next hb)
            replace Q6 := Lib.hid (Q6.out.next hb)
            replace Q7 := Lib.hid (Q7.out.next hb)
            clear hb
            have KB := Lib.hid KL.out.below
            have KW := KL
            replace KL : Hid (KpL W17 A n W17) := Lib.hid ⟨KL.out.bytes, Below.refl _ _⟩
            obtain ⟨N, hN⟩ : ∃ N, (apoA L2).length = N := ⟨_, rfl⟩
            rw [hN]
            rw [hN] at Q6
            have HNN := Lib.hid hN
            have hN4 : N ≤ 1099511627776 := by have := HAL.out; omega
            have HAP : Hid (∀ r, r < N → ApOK L2 N r ((apoA L2)[r]?.getD 0)) := Lib.hid (fun r hr => by rw [← hN]; exact ApOK.make (by omega))
            clear hN HAL Q7
            have Q60 := Q6
            have RC00 := RC0
            have Kc0 := Kc
            have HKW := KL
            clear Q6 RC0 Kc qc
            go_wp2_with fail
            go_loopw [26] (fun vr wr => ∃ (r : Nat), r ≤ N ∧ vr = .int .i64 r ∧ Hid (KpL W17 A n wr)) (fun vr _ => N - (intOf vr).toNat)
            case atStart => exact ⟨0, by omega, rfl, HKW⟩
            case round =>
              clear KL HKW
              obtain ⟨r, hr, rfl, KL⟩ := hrel
              by_cases hlt : r < N
              rotate_left
              · have hge : decide ((r : Int) < (N : Int)) = false := by simp; omega
                go_wp2_with fail
                go_ret
                exact ⟨rfl, below_next KB.out KB.out.size KL.out.below⟩
              have hap := HAP.out r hlt
              obtain ⟨ga, oa, rfl, hc⟩ := Q60.out.at HNN.out (i := r) hlt
              have Q6 := Lib.hid (Q60.out.next KL.out.below)
              have RC0 := Lib.hid (RC00.out.next KL.out.below)
              have Kc := Lib.hid (Kc0.out.next KL.out.below)
              have qc := Kc.out.cell
              have d1 : wr.cell? ⟨ga, oa + r, none⟩ = some (.int .i64 ((apoA L2)[r]?.getD 0)) := by obtain ⟨g3, o3, e3, hc3⟩ := Q6.out.at HNN.out (i := r) hlt; cases e3; exact hc3
              have HD : Hid (∀ w', Below W17.heap.size W17 w' → w'.cell? ⟨ga, oa + r, none⟩ = some (.int .i64 ((apoA L2)[r]?.getD 0))) := Lib.hid (fun w' hb' => by obtain ⟨g3, o3, e3, hc3⟩ := (Q60.out.next hb').at HNN.out (i := r) hlt; cases e3; exact hc3)
              clear hc
              generalize ((apoA L2)[r]?.getD 0 : Int) = z at *
              obtain ⟨hrem, hz0, hz1, hval, hless⟩ := hap
              have hr0 : (0 : Int) ≤ (r : Int) := by omega
              have hr1 : (r : Int) < (N : Int) := by omega
              have p1 : IntKind.i64.wrap ((r : Int) + 1) = (r : Int) + 1 := IntWalk.i64_in _ (by omega)
              have pN : IntKind.i64.wrap (N : Int) = (N : Int) := IntWalk.i64_in _ (by omega)
              have p3 : IntKind.i64.wrap (z.tmod (N : Int)) = (r : Int) := by rw [hrem]; exact IntWalk.i64_in _ (by omega)
              have hn0 : ((N : Int) == 0) = false := by simp; omega
              have HVL := Lib.hid hval
              have HLS := Lib.hid hless
              clear hval hless
              by_cases hbig : 20000 < z
              · have hbb : decide (20000 < z) = true := by simpa using hbig
                go_wp2_with fail
                refine ⟨⟨r + 1, by omega, by go_num, KL⟩, ?_⟩
                simp [intOf]; omega
              have hbb : decide (20000 < z) = false := by simpa using hbig
              have hzw : (Lit.int .i64 z).wf = true := i64_wf (by omega) (by omega)
              have hv1 := (HVL.out (by omega)).1
              have hv2 := (HVL.out (by omega)).2
              clear HVL
              go_wp2_with fail
              refine wp_region_held_drew (S := fun w' => w'.cell? ⟨W13.heap.size, 0, none⟩ = some (Value.slice Ac nc cc) ∧ w'.cell? ⟨ga, oa + r, none⟩ = some (Value.int .i64 z)) (by kernel_rfl) ⟨qc, d1⟩ (fun hHeld => ?_)
              refine takeY 0 _ (v := ?_) rfl rfl (by kernel_rfl) (by kernel_rfl) (by kernel_rfl) (fun _ _ _ h => h) (by kernel_rfl) ?_ (by assumption) ?_
              rotate_left 1
              · intro w hSw; (try dsimp only at hSw); go_simp; (try with_reducible rfl)
              try simp only [Act.put, List.setIfInBounds_toArray, List.set_cons_zero, List.set_cons_succ]
              refine takeY 1 _ (v := ?_) rfl rfl (by kernel_rfl) (by kernel_rfl) (by kernel_rfl) (fun _ _ _ h => h) (by kernel_rfl) ?_ (by assumption) ?_
              rotate_left 1
              · intro w hSw; (try dsimp only at hSw); go_simp; (try with_reducible rfl)
              try simp only [Act.put, List.setIfInBounds_toArray, List.set_cons_zero, List.set_cons_succ]
              refine takeY 2 _ (v := ?_) rfl rfl (by kernel_rfl) (by kernel_rfl) (by kernel_rfl) (fun _ _ _ h => h) (by kernel_rfl) ?_ (by assumption) ?_
              rotate_left 1
              · intro w hSw; (try dsimp only at hSw); go_simp; (try with_reducible rfl)
              try simp only [Act.put, List.setIfInBounds_toArray, List.set_cons_zero, List.set_cons_succ]
              refine takeY 3 _ (v := ?_) rfl rfl (by kernel_rfl) (by kernel_rfl) (by kernel_rfl) (fun _ _ _ h => h) (by kernel_rfl) ?_ (by assumption) ?_
              rotate_left 1
              · intro w hSw; (try dsimp only at hSw); go_simp; (try with_reducible rfl)
              try simp only [Act.put, List.setIfInBounds_toArray, List.set_cons_zero, List.set_cons_succ]
              refine takeY 4 _ (v := ?_) rfl rfl (by kernel_rfl) (by kernel_rfl) (by kernel_rfl) (fun _ _ _ h => h) (by kernel_rfl) ?_ (by assumption) ?_
              rotate_left 1
              · intro w hSw; (try dsimp only at hSw); go_simp; (try with_reducible rfl)
              try simp only [Act.put, List.setIfInBounds_toArray, List.set_cons_zero, List.set_cons_succ]
              refine wpAnyH_ready (rs := [5]) (by kernel_rfl) (by simp) ?_
              refine AllReadyH.cons rfl (fun K hK => ?_) AllReadyH.nil
              go_simp
              refine (implIsValue_any _ L2 (z) _ (show ReadI wr.drew wr.drew.heap.size (.slice Ac nc cc) L2 from RC0.out) HN2.out HWF2.out hzw).mono ?_
              rintro e W18 ⟨rfl, hb0⟩
              rw [hv1, hv2]
              have hb : Below wr.heap.size wr W18 := ⟨hb0.os, hb0.tape, hb0.output, hb0.size, hb0.block⟩
              replace KL := Lib.hid (KL.out.next hb)
              replace Kc := Lib.hid (Kc.out.next hb)
              replace qc := Kc.out.cell
              replace Q6 := Lib.hid (Q6.out.next hb)
              replace RC0 := Lib.hid (RC0.out.next hb)
              replace d1 := HD.out W18 KL.out.below
              clear hb hb0
              refine hK.out _ W18 ⟨qc, d1⟩ (fun hHeld => ?_)
              clear hK K
              try simp only [Act.put, List.setIfInBounds_toArray, List.set_cons_zero, List.set_cons_succ]
              refine takeY 6 _ (v := ?_) rfl rfl (by kernel_rfl) (by kernel_rfl) (by kernel_rfl) (fun _ _ _ h => h) (by kernel_rfl) ?_ (by assumption) ?_
              rotate_left 1
              · intro w hSw; (try dsimp only at hSw); go_simp; (try with_reducible rfl)
              try simp only [Act.put, List.setIfInBounds_toArray, List.set_cons_zero, List.set_cons_succ]
              refine takeY 7 _ (v := ?_) rfl rfl (by kernel_rfl) (by kernel_rfl) (by kernel_rfl) (fun _ _ _ h => h) (by kernel_rfl) ?_ (by assumption) ?_
              rotate_left 1
              · intro w hSw; (try dsimp only at hSw); go_simp; (try with_reducible rfl)
              try simp only [Act.put, List.setIfInBounds_toArray, List.set_cons_zero, List.set_cons_succ]
              refine takeY 8 _ (v := ?_) rfl rfl (by kernel_rfl) (by kernel_rfl) (by kernel_rfl) (fun _ _ _ h => h) (by kernel_rfl) ?_ (by assumption) ?_
              rotate_left 1
              · intro w hSw; (try dsimp only at hSw); go_simp; (try with_reducible rfl)
              try simp only [Act.put, List.setIfInBounds_toArray, List.set_cons_zero, List.set_cons_succ]
              refine takeY 9 _ (v := ?_) rfl rfl (by kernel_rfl) (by kernel_rfl) (by kernel_rfl) (fun _ _ _ h => h) (by kernel_rfl) ?_ (by assumption) ?_
              rotate_left 1
              · intro w hSw; (try dsimp only at hSw); go_simp; (try with_reducible rfl)
              try simp only [Act.put, List.setIfInBounds_toArray, List.set_cons_zero, List.set_cons_succ]
              refine takeY 10 _ (v := ?_) rfl rfl (by kernel_rfl) (by kernel_rfl) (by kernel_rfl) (fun _ _ _ h => h) (by kernel_rfl) ?_ (by assumption) ?_
              rotate_left 1
              · intro w hSw; (try dsimp only at hSw); go_simp; (try with_reducible rfl)
              try simp only [Act.put, List.setIfInBounds_toArray, List.set_cons_zero, List.set_cons_succ]
              refine wpAnyH_done (by kernel_rfl) ?_ _
              clear hv1 hv2 hzw
              by_cases hle : (N : Int) ≤ z
              rotate_left
              · have hlb : decide ((N : Int) ≤ z) = false := by simpa using hle
                go_wp2_with fail
                refine ⟨⟨r + 1, by omega, by go_num, KL⟩, ?_⟩
                simp [intOf]; omega
              have hlb : decide ((N : Int) ≤ z) = true := by simpa using hle
              have hv1 := (HLS.out (by omega) hle).1
              have hv2 := (HLS.out (by omega) hle).2
              clear HLS
              have p4 : IntKind.i64.wrap (z - (N : Int)) = z - (N : Int) := IntWalk.i64_in _ (by omega)
              have hzw : (Lit.int .i64 (z - (N : Int))).wf = true := i64_wf (by omega) (by omega)
              go_wp2_with fail
              refine wp_region_held_drew (S := fun w' => w'.cell? ⟨W13.heap.size, 0, none⟩ = some (Value.slice Ac nc cc) ∧ w'.cell? ⟨ga, oa + r, none⟩ = some (Value.int .i64 z)) (by kernel_rfl) ⟨qc, d1⟩ (fun hHeld => ?_)
              refine takeY 0 _ (v := ?_) rfl rfl (by kernel_rfl) (by kernel_rfl) (by kernel_rfl) (fun _ _ _ h => h) (by kernel_rfl) ?_ (by assumption) ?_
              rotate_left 1
              · intro w hSw; (try dsimp only at hSw); go_simp; (try with_reducible rfl)
              try simp only [Act.put, List.setIfInBounds_toArray, List.set_cons_zero, List.set_cons_succ]
              refine takeY 1 _ (v := ?_) rfl rfl (by kernel_rfl) (by kernel_rfl) (by kernel_rfl) (fun _ _ _ h => h) (by kernel_rfl) ?_ (by assumption) ?_
              rotate_left 1
              · intro w hSw; (try dsimp only at hSw); go_simp; (try with_reducible rfl)
              try simp only [Act.put, List.setIfInBounds_toArray, List.set_cons_zero, List.set_cons_succ]
              refine takeY 2 _ (v := ?_) rfl rfl (by kernel_rfl) (by kernel_rfl) (by kernel_rfl) (fun _ _ _ h => h) (by kernel_rfl) ?_ (by assumption) ?_
              rotate_left 1
              · intro w hSw; (try dsimp only at hSw); go_simp; (try with_reducible rfl)
              try simp only [Act.put, List.setIfInBounds_toArray, List.set_cons_zero, List.set_cons_succ]
              refine takeY 3 _ (v := ?_) rfl rfl (by kernel_rfl) (by kernel_rfl) (by kernel_rfl) (fun _ _ _ h => h) (by kernel_rfl) ?_ (by assumption) ?_
              rotate_left 1
              · intro w hSw; (try dsimp only at hSw); go_simp; (try with_reducible rfl)
              try simp only [Act.put, List.setIfInBounds_toArray, List.set_cons_zero, List.set_cons_succ]
              refine takeY 4 _ (v := ?_) rfl rfl (by kernel_rfl) (by kernel_rfl) (by kernel_rfl) (fun _ _ _ h => h) (by kernel_rfl) ?_ (by assumption) ?_
              rotate_left 1
              · intro w hSw; (try dsimp only at hSw); go_simp; (try with_reducible rfl)
              try simp only [Act.put, List.setIfInBounds_toArray, List.set_cons_zero, List.set_cons_succ]
              refine takeY 5 _ (v := ?_) rfl rfl (by kernel_rfl) (by kernel_rfl) (by kernel_rfl) (fun _ _ _ h => h) (by kernel_rfl) ?_ (by assumption) ?_
              rotate_left 1
              · intro w hSw; (try dsimp only at hSw); go_simp; (try with_reducible rfl)
              try simp only [Act.put, List.setIfInBounds_toArray, List.set_cons_zero, List.set_cons_succ]
              refine takeY 6 _ (v := ?_) rfl rfl (by kernel_rfl) (by kernel_rfl) (by kernel_rfl) (fun _ _ _ h => h) (by kernel_rfl) ?_ (by assumption) ?_
              rotate_left 1
              · intro w hSw; (try dsimp only at hSw); go_simp; (try with_reducible rfl)
              try simp only [Act.put, List.setIfInBounds_toArray, List.set_cons_zero, List.set_cons_succ]
              refine wpAnyH_ready (rs := [7]) (by kernel_rfl) (by simp) ?_
              refine AllReadyH.cons rfl (fun K hK => ?_) AllReadyH.nil
              go_simp
              refine (implIsValue_any _ L2 (z - (N : Int)) _ (show ReadI W18.drew W18.drew.heap.size (.slice Ac nc cc) L2 from RC0.out) HN2.out HWF2.out hzw).mono ?_
              rintro e W19 ⟨rfl, hb0⟩
              rw [hv1, hv2]
              have hb : Below W18.heap.size W18 W19 := ⟨hb0.os, hb0.tape, hb0.output, hb0.size, hb0.block⟩
              replace KL := Lib.hid (KL.out.next hb)
              replace Kc := Lib.hid (Kc.out.next hb)
              replace qc := Kc.out.cell
              replace Q6 := Lib.hid (Q6.out.next hb)
              replace RC0 := Lib.hid (RC0.out.next hb)
              replace d1 := HD.out W19 KL.out.below
              clear hb hb0
              refine hK.out _ W19 ⟨qc, d1⟩ (fun hHeld => ?_)
              clear hK K
              try simp only [Act.put, List.setIfInBounds_toArray, List.set_cons_zero, List.set_cons_succ]
              refine takeY 8 _ (v := ?_) rfl rfl (by kernel_rfl) (by kernel_rfl) (by kernel_rfl) (fun _ _ _ h => h) (by kernel_rfl) ?_ (by assumption) ?_
              rotate_left 1
              · intro w hSw; (try dsimp only at hSw); go_simp; (try with_reducible rfl)
              try simp only [Act.put, List.setIfInBounds_toArray, List.set_cons_zero, List.set_cons_succ]
              refine takeY 9 _ (v := ?_) rfl rfl (by kernel_rfl) (by kernel_rfl) (by kernel_rfl) (fun _ _ _ h => h) (by kernel_rfl) ?_ (by assumption) ?_
              rotate_left 1
              · intro w hSw; (try dsimp only at hSw); go_simp; (try with_reducible rfl)
              try simp only [Act.put, List.setIfInBounds_toArray, List.set_cons_zero, List.set_cons_succ]
              refine takeY 10 _ (v := ?_) rfl rfl (by kernel_rfl) (by kernel_rfl) (by kernel_rfl) (fun _ _ _ h => h) (by kernel_rfl) ?_ (by assumption) ?_
              rotate_left 1
              · intro w hSw; (try dsimp only at hSw); go_simp; (try with_reducible rfl)
              try simp only [Act.put, List.setIfInBounds_toArray, List.set_cons_zero, List.set_cons_succ]
              refine takeY 11 _ (v := ?_) rfl rfl (by kernel_rfl) (by kernel_rfl) (by kernel_rfl) (fun _ _ _ h => h) (by kernel_rfl) ?_ (by assumption) ?_
              rotate_left 1
              · intro w hSw; (try dsimp only at hSw); go_simp; (try with_reducible rfl)
              try simp only [Act.put, List.setIfInBounds_toArray, List.set_cons_zero, List.set_cons_succ]
              refine takeY 12 _ (v := ?_) rfl rfl (by kernel_rfl) (by kernel_rfl) (by kernel_rfl) (fun _ _ _ h => h) (by kernel_rfl) ?_ (by assumption) ?_
              rotate_left 1
              · intro w hSw; (try dsimp only at hSw); go_simp; (try with_reducible rfl)
              try simp only [Act.put, List.setIfInBounds_toArray, List.set_cons_zero, List.set_cons_succ]
              refine wpAnyH_done (by kernel_rfl) ?_ _
              go_wp2_with fail
              refine ⟨⟨r + 1, by omega, by go_num, KL⟩, ?_⟩
              simp [intOf]; omega

set_option maxRecDepth 100000 in
theorem FnRepresentations_lifted (os : Os) (started : os.Started) (H : Type) (enc : TypeId × Value → H) :
    ReturnsInHanded {} Try.checked os 6 .any (Rows.fnRepresentationsSpec.pre6 enc Try.prog Try.f6 Rows.fnRepresentationsRow.domain false) (Rows.fnRepresentationsSpec.post enc Try.prog Try.f6 false true false false) := by
  refine returnsInHanded_of_change (C := Try.checked) Try.own started (by kernel_rfl) Try.func6
    (ChangeSpec.witness6 (enc := enc) (C := Try.checked) false ⟨#[], #[.slice none 0 0], []⟩ 8 (by kernel_rfl) (by kernel_rfl) (by kernel_rfl) (by kernel_rfl)) ?_
  intro W base args ds gs before hval0 hW hcnd _
  have hval : ∀ (j : Nat) t v, Try.f6.params[j]? = some t → args[j]? = some v → Value.okWide Try.prog W .any base t v := hval0
  have hW' := hW
  have hltW : ∀ x ∈ before, x.block < W.heap.size := fun x hx => by simpa using hW'.lt x hx
  obtain ⟨p, q, hA0, hV, rfl, hfz, hnd⟩ := hW
  have hA : DataW.TrodAll enc Try.prog W 0 (fun _ => true) true Try.f6.params.toList args.toList ds p := hA0
  rw [Try.params6] at hA hval
  obtain ⟨v0, vs0, d0, ds0, p0, q0, hargs, rfl, rfl, h0, r0⟩ := trodAll_cons hA
  obtain ⟨rfl, rfl, rfl⟩ := trodAll_nil r0
  obtain rfl : args = #[v0] := by cases args; simp_all
  obtain ⟨rfl, rfl⟩ := trodVars_none hV
  obtain ⟨A0, n0, c0, rfl, hr0, hn0⟩ := open_row_bytes (B := W.heap.size) (hval 0 22 v0 rfl rfl) h0 (fun x hx => hltW x (by simp [hx]))
  refine (FnRepresentations_walk A0 n0 c0 W hr0 hn0).mono fun e W' ⟨he, hb⟩ => ?_
  subst he
  exact ⟨_, rfl, law_post (tb := 4) Try.laidOut (by kernel_rfl) rfl Try.underlying4 rfl rfl hW' hb⟩

/-- The given statement. -/
theorem fnRepresentations_proved : Rows.FnRepresentationsSaid :=
  OpenClaim.holds_of_wide 6 Try.f6 rfl rfl rfl rfl rfl rfl rfl ⟨rfl, rfl, rfl, rfl, rfl⟩ rfl rfl rfl rfl rfl (by kernel_rfl) Try.func6 (by kernel_rfl)
    (of_decide_eq_true (by kernel_rfl)) (by unfold Func.isWrapper; first | (rw [if_pos (by decide +kernel)]; kernel_rfl) | (rw [if_neg (by decide +kernel)]; exact ⟨rfl, rfl⟩))
    (fun os started H enc _ => FnRepresentations_lifted os started H enc)
end Go.Proofs.Ytjgidalmgoifgaa
