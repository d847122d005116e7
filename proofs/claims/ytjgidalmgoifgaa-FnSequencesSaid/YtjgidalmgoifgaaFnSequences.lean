/- laws.FnSequences: it returns true and leaves old memory as it was. Condition: the bytes read. -/
import Derived.Test.YtjgidalmgoifgaaFnQw
import Derived.Test.YtjgidalmgoifgaaFnH
import Derived.Test.YtjgidalmgoifgaaDrQ
import Derived.Test.YtjgidalmgoifgaaDrZ
import Derived.Test.YtjgidalmgoifgaaZE
namespace Go.Proofs.Ytjgidalmgoifgaa
open Go.ChangeShapes Go.WideShapes Go.ChangeAt Go.RowKit Go.Deep
set_option linter.unusedVariables false
set_option linter.unusedSimpArgs false

set_option maxRecDepth 100000 in
set_option maxHeartbeats 8000000 in
theorem FnSequences_walk (A : Option Addr) (n c : Nat) (w : World) (hr : RB w w.heap.size A n) (hn : n ≤ 9223372036854775807) :
    Calls Try.prog 3 #[.slice A n c] w fun e w' => e = .returned (.bool true) ∧ Below w.heap.size w w' := by
  have KL : Hid (KpL w A n w) := Lib.hid ⟨hr, Below.refl _ _⟩
  clear hr
  rcases (show (4096 : Int) < (n : Int) ∨ (n : Int) ≤ 4096 by omega) with hn4 | hn4
  · go_enter Try.func3, Try.ntmps3
    go_wp2_with fail
    refine (bigF_any A n c _ hn).mono ?_
    rintro e w' ⟨rfl, rfl⟩
    go_wp2_with fail
    go_ret
    exact ⟨rfl, Below.refl _ _⟩
  go_enter Try.func3, Try.ntmps3
  go_wp2_with fail
  refine (bigF_any A n c _ hn).mono ?_
  rintro e w' ⟨rfl, rfl⟩
  go_wp2_with fail
  refine (DrawLongSequence_any A n c _ KL.out.bytes hn).mono ?_
  rintro e W1 ⟨Ab, nb, cb, L, x, rfl, hr, hge, hL, hx, hb⟩
  have HSP := Lib.hid hL
  have RB0 := Lib.hid hr
  have HX := Lib.hid hx
  clear hr hge hL hx
  replace KL := Lib.hid (KL.out.next hb)
  clear hb
  have tqb := (KpC.new W1 (.slice Ab nb cb) 26).cell
  go_wp2_with fail
  have Kb : Hid (KpC W1.heap.size (.slice Ab nb cb) (W1.alloc (.cells #[.slice Ab nb cb] 26))) := Lib.hid (KpC.new _ _ _)
  have hb : Below W1.heap.size W1 (W1.alloc (.cells #[.slice Ab nb cb] 26)) := box_below _ _
  generalize W1.alloc (.cells #[.slice Ab nb cb] 26) = W2 at *
  replace KL := Lib.hid (KL.out.next hb)
  replace RB0 := Lib.hid (RB0.out.next hb)
  have qb := Kb.out.cell
  clear hb tqb
  have HN : Hid (L.length ≤ 1048576) := Lib.hid (by have := HSP.out.1; omega)
  have HWF := Lib.hid HSP.out.wf
  have HWX : Hid ((Lit.int .i64 x).wf = true) := Lib.hid (i64_wf (by have := HX.out; omega) (by have := HX.out; omega))
  have HLL : Hid ((lqA L x).length ≤ 400) := Lib.hid (lqA_len L x)
  by_cases hc : lqC L x = 0
  · have EC := Lib.hid hc
    clear hc
    have HO := Lib.hid (LqOK.make EC.out)
    generalize hNN : (lqA L x).length = N at HO
    generalize hMM : (seqL L).length = M at HO
    clear hNN hMM
    go_wp2_with fail
    refine (implLongSequence_any _ L x _ RB0.out HN.out HWF.out HWX.out).mono ?_
    rintro e W3 ⟨v1, rfl, ho, hb⟩
    rw [EC.out]
    have Q1 := Lib.hid ho.reads
    obtain ⟨A1, c1, e1⟩ : ∃ A c, v1 = .slice A N c := by obtain ⟨A, c, e, _⟩ := Q1.out; rw [HO.out.len] at e; exact ⟨A, c, e⟩
    subst e1
    obtain ⟨go, e0, _, _, _, _⟩ := own_at ho HO.out.len (j := 0) (by have := HO.out.sum; have := HO.out.n1; have := HO.out.x0; omega)
    subst e0
    clear ho
    replace KL := Lib.hid (KL.out.next hb)
    replace Kb := Lib.hid (Kb.out.next hb)
    replace qb := Kb.out.cell
    replace RB0 := Lib.hid (RB0.out.next hb)
    clear hb
    go_wp2_with fail
    refine (specLongSequence_any _ L x _ RB0.out HN.out HWF.out HWX.out).mono ?_
    rintro e W4 ⟨v2, rfl, ho, hb⟩
    rw [EC.out]
    have Q2 := Lib.hid ho.reads
    obtain ⟨A2, c2, e2⟩ : ∃ A c, v2 = .slice A N c := by obtain ⟨A, c, e, _⟩ := Q2.out; rw [HO.out.len] at e; exact ⟨A, c, e⟩
    subst e2
    clear ho
    replace KL := Lib.hid (KL.out.next hb)
    replace Kb := Lib.hid (Kb.out.next hb)
    replace qb := Kb.out.cell
    replace RB0 := Lib.hid (RB0.out.next hb)
    replace Q1 := Lib.hid (Q1.out.next hb)
    clear hb
    go_wp2_with fail
    refine (likeI _ _ (lqA L x) _ Q1.out Q2.out (by have := HLL.out; omega)).mono ?_
    rintro e W5 ⟨rfl, hb⟩
    replace KL := Lib.hid (KL.out.next hb)
    replace Kb := Lib.hid (Kb.out.next hb)
    replace qb := Kb.out.cell
    replace RB0 := Lib.hid (RB0.out.next hb)
    replace Q1 := Lib.hid (Q1.out.next hb)
    replace Q2 := Lib.hid (Q2.out.next hb)
    clear hb
    go_wp2_with fail
    refine (implBranchOfSequence_any _ (lqA L x) _ Q1.out (by have := HLL.out; omega) HO.out.wf).mono ?_
    rintro e W6 ⟨v3, rfl, ho, hb⟩
    rw [HO.out.bc]
    rw [HO.out.ba] at ho
    have Q3 := Lib.hid ho.reads
    obtain ⟨A3, c3, e3⟩ : ∃ A c, v3 = .slice A _ c := by obtain ⟨A, c, e, _⟩ := Q3.out; exact ⟨A, c, e⟩
    subst e3
    clear ho
    replace KL := Lib.hid (KL.out.next hb)
    replace Kb := Lib.hid (Kb.out.next hb)
    replace qb := Kb.out.cell
    replace RB0 := Lib.hid (RB0.out.next hb)
    replace Q1 := Lib.hid (Q1.out.next hb)
    replace Q2 := Lib.hid (Q2.out.next hb)
    clear hb
    have tqb := (Kb.out.next (box_below W6 (.cells #[.slice A3 L.length c3] 26))).cell
    have tqk := (KpC.new W6 (.slice A3 L.length c3) 26).cell
    go_wp2_with fail
    have Kk : Hid (KpC W6.heap.size (.slice A3 L.length c3) (W6.alloc (.cells #[.slice A3 L.length c3] 26))) := Lib.hid (KpC.new _ _ _)
    have hb : Below W6.heap.size W6 (W6.alloc (.cells #[.slice A3 L.length c3] 26)) := box_below _ _
    generalize W6.alloc (.cells #[.slice A3 L.length c3] 26) = W7 at *
    replace KL := Lib.hid (KL.out.next hb)
    replace Kb := Lib.hid (Kb.out.next hb)
    replace qb := Kb.out.cell
    replace RB0 := Lib.hid (RB0.out.next hb)
    replace Q1 := Lib.hid (Q1.out.next hb)
    replace Q2 := Lib.hid (Q2.out.next hb)
    replace Q3 := Lib.hid (Q3.out.next hb)
    have qk := Kk.out.cell
    clear hb tqb tqk
    go_wp2_with fail
    refine (implSequenceOf_any _ L _ RB0.out HN.out HWF.out).mono ?_
    rintro e W8 ⟨v4, rfl, ho, hb⟩
    rw [HO.out.c0]
    rw [HO.out.a0] at ho
    have Q4 := Lib.hid ho.reads
    obtain ⟨A4, c4, e4⟩ : ∃ A c, v4 = .slice A M c := by obtain ⟨A, c, e, _⟩ := Q4.out; rw [HO.out.slen] at e; exact ⟨A, c, e⟩
    subst e4
    clear ho
    replace KL := Lib.hid (KL.out.next hb)
    replace Kb := Lib.hid (Kb.out.next hb)
    replace qb := Kb.out.cell
    replace Kk := Lib.hid (Kk.out.next hb)
    replace qk := Kk.out.cell
    replace RB0 := Lib.hid (RB0.out.next hb)
    replace Q1 := Lib.hid (Q1.out.next hb)
    replace Q2 := Lib.hid (Q2.out.next hb)
    replace Q3 := Lib.hid (Q3.out.next hb)
    clear hb
    go_wp2_with fail
    refine (implCountBranchPoints_any _ L _ RB0.out HN.out HWF.out).mono ?_
    rintro e W9 ⟨rfl, hb⟩
    rw [HO.out.sq, HO.out.cb]
    replace KL := Lib.hid (KL.out.next hb)
    replace Kb := Lib.hid (Kb.out.next hb)
    replace qb := Kb.out.cell
    replace Kk := Lib.hid (Kk.out.next hb)
    replace qk := Kk.out.cell
    replace RB0 := Lib.hid (RB0.out.next hb)
    replace Q1 := Lib.hid (Q1.out.next hb)
    replace Q2 := Lib.hid (Q2.out.next hb)
    replace Q3 := Lib.hid (Q3.out.next hb)
    replace Q4 := Lib.hid (Q4.out.next hb)
    clear hb
    go_wp2_with fail
    refine (likeI _ _ L _ Q3.out RB0.out (by have := HN.out; omega)).mono ?_
    rintro e W10 ⟨rfl, hb⟩
    replace KL := Lib.hid (KL.out.next hb)
    replace Kb := Lib.hid (Kb.out.next hb)
    replace qb := Kb.out.cell
    replace Kk := Lib.hid (Kk.out.next hb)
    replace qk := Kk.out.cell
    replace RB0 := Lib.hid (RB0.out.next hb)
    replace Q1 := Lib.hid (Q1.out.next hb)
    replace Q2 := Lib.hid (Q2.out.next hb)
    replace Q3 := Lib.hid (Q3.out.next hb)
    replace Q4 := Lib.hid (Q4.out.next hb)
    clear hb
    go_wp2_with fail
    refine (implIsSequence_any _ (lqA L x) _ Q1.out (by have := HLL.out; omega) HO.out.wf).mono ?_
    rintro e W11 ⟨rfl, hb⟩
    rw [HO.out.iq]
    replace KL := Lib.hid (KL.out.next hb)
    replace Kb := Lib.hid (Kb.out.next hb)
    replace qb := Kb.out.cell
    replace Kk := Lib.hid (Kk.out.next hb)
    replace qk := Kk.out.cell
    replace RB0 := Lib.hid (RB0.out.next hb)
    replace Q1 := Lib.hid (Q1.out.next hb)
    replace Q2 := Lib.hid (Q2.out.next hb)
    replace Q3 := Lib.hid (Q3.out.next hb)
    replace Q4 := Lib.hid (Q4.out.next hb)
    clear hb
    have hsum := HO.out.sum
    have hx0 := HO.out.x0
    have hn1 := HO.out.n1
    have hn4 := HO.out.n400
    have hcap : N ≤ c1 ∧ c1 ≤ 9223372036854775807 := by obtain ⟨A', c', e7, _, _, h5, _, h6⟩ := Q1.out; rw [HO.out.len] at e7 h5; cases e7; exact ⟨h5, h6⟩
    have p1 : IntKind.i64.wrap ((M : Int) + x) = (N : Int) := by rw [← hsum]; exact IntWalk.i64_in _ (by omega)
    have hMc : (M : Int) ≤ (c1 : Int) := by omega
    have hM0 : (0 : Int) ≤ (M : Int) := by omega
    have RT : Hid (ReadI W11 W11.heap.size (.slice (some ⟨go, 0, none⟩) M c1) (seqL L)) := Lib.hid (by have h := Q1.out.take HO.out.len (k := M) (by omega); rw [HO.out.take] at h; exact h)
    go_wp2_with fail
    refine (likeI _ _ (seqL L) _ RT.out Q4.out (by rw [HO.out.slen]; omega)).mono ?_
    rintro e W12 ⟨rfl, hb⟩
    replace KL := Lib.hid (KL.out.next hb)
    replace Kb := Lib.hid (Kb.out.next hb)
    replace qb := Kb.out.cell
    replace Kk := Lib.hid (Kk.out.next hb)
    replace qk := Kk.out.cell
    replace RB0 := Lib.hid (RB0.out.next hb)
    replace Q1 := Lib.hid (Q1.out.next hb)
    replace Q2 := Lib.hid (Q2.out.next hb)
    replace Q3 := Lib.hid (Q3.out.next hb)
    replace Q4 := Lib.hid (Q4.out.next hb)
    replace RT := Lib.hid (RT.out.next hb)
    clear hb
    have KL0 := KL
    have RB00 := RB0
    have HPX := Lib.hid HO.out.px
    have HRG := Lib.hid HO.out.range
    have HON := Lib.hid HO.out.ones
    have HLE := Lib.hid HO.out.len
    have HCC : Hid (∀ m i, i < N → (W12.drewN m).cell? ⟨go, i, none⟩ = some (.int .i64 ((lqA L x)[i]?.getD 0))) := Lib.hid (fun m i hi => by obtain ⟨g9, o9, e9, h9⟩ := Q1.out.at HO.out.len hi; cases e9; rw [Nat.zero_add] at h9; exact h9)
    clear RT p1 hMc hcap HO Q1 Q2 Q3 Q4 Kb qb Kk qk HLL HWX HX hsum hx0
    generalize lqA L x = s at *
    go_wp2_with fail
    go_loopw [15] (fun vi wr => ∃ (i m : Nat), i ≤ N ∧ vi = .int .i64 i ∧ Hid (wr = W12.drewN m)) (fun vi _ => N - (intOf vi).toNat)
    case atStart => exact ⟨0, 0, by omega, rfl, Lib.hid rfl⟩
    case round =>
      clear KL RB0
      obtain ⟨i, m, hi, rfl, hw⟩ := hrel
      by_cases hlt : i < N
      rotate_left
      · have hge : decide ((i : Int) < (N : Int)) = false := by simp; omega
        have hwb : Below W12.heap.size W12 wr := by rw [hw.out]; exact drewN_below _ _
        have KL := KL0
        replace KL := Lib.hid (KL.out.next hwb)
        clear hwb hw HPX HRG HON HCC RB00 KL0
        go_wp2_with fail
        refine (DrawStrictTransform_any A n c _ KL.out.bytes hn).mono ?_
        rintro e W13 ⟨Ac, nc, cc, L2, rfl, hr, hge, hL, hb⟩
        have HSP2 := Lib.hid hL
        have RC0 := Lib.hid hr
        clear hr hge hL
        replace KL := Lib.hid (KL.out.next hb)
        clear hb
        have tqc := (KpC.new W13 (.slice Ac nc cc) 26).cell
        go_wp2_with fail
        have Kc : Hid (KpC W13.heap.size (.slice Ac nc cc) (W13.alloc (.cells #[.slice Ac nc cc] 26))) := Lib.hid (KpC.new _ _ _)
        have hb : Below W13.heap.size W13 (W13.alloc (.cells #[.slice Ac nc cc] 26)) := box_below _ _
        generalize W13.alloc (.cells #[.slice Ac nc cc] 26) = W14 at *
        replace KL := Lib.hid (KL.out.next hb)
        replace RC0 := Lib.hid (RC0.out.next hb)
        have qc := Kc.out.cell
        clear hb tqc
        have HN2 : Hid (L2.length ≤ 1048576) := Lib.hid (by have := HSP2.out.1; omega)
        have HWF2 := Lib.hid HSP2.out.wf
        have HSL2 : Hid ((stA L2).length ≤ 9223372036854775807) := Lib.hid (by have := stA_len L2; omega)
        by_cases hs6 : lqC L2 1 = 0
        · obtain ⟨R, J, hsx⟩ := SxOK.make hs6
          have HS := Lib.hid hsx
          have ES := Lib.hid hs6
          clear hsx hs6
          go_wp2_with fail
          refine (implStrictTransform_any _ L2 _ RC0.out HN2.out HWF2.out).mono ?_
          rintro e W15 ⟨v5, rfl, ho, hb⟩
          rw [ES.out]
          have Q5 := Lib.hid ho.reads
          obtain ⟨A5, c5, e5⟩ : ∃ A c, v5 = .slice A _ c := by obtain ⟨A, c, e, _⟩ := Q5.out; exact ⟨A, c, e⟩
          subst e5
          clear ho
          replace KL := Lib.hid (KL.out.next hb)
          replace Kc := Lib.hid (Kc.out.next hb)
          replace qc := Kc.out.cell
          replace RC0 := Lib.hid (RC0.out.next hb)
          clear hb
          have tqc := (Kc.out.next (box_below W15 (.cells #[.slice A5 (stA L2).length c5] 26))).cell
          have tqd := (KpC.new W15 (.slice A5 (stA L2).length c5) 26).cell
          go_wp2_with fail
          have Kd : Hid (KpC W15.heap.size (.slice A5 (stA L2).length c5) (W15.alloc (.cells #[.slice A5 (stA L2).length c5] 26))) := Lib.hid (KpC.new _ _ _)
          have hb : Below W15.heap.size W15 (W15.alloc (.cells #[.slice A5 (stA L2).length c5] 26)) := box_below _ _
          generalize W15.alloc (.cells #[.slice A5 (stA L2).length c5] 26) = W16 at *
          replace KL := Lib.hid (KL.out.next hb)
          replace Kc := Lib.hid (Kc.out.next hb)
          replace qc := Kc.out.cell
          replace RC0 := Lib.hid (RC0.out.next hb)
          replace Q5 := Lib.hid (Q5.out.next hb)
          have qd := Kd.out.cell
          clear hb tqc tqd
          go_wp2_with fail
          refine (specStrictTransform_any _ L2 _ RC0.out HN2.out HWF2.out).mono ?_
          rintro e W17 ⟨v6, rfl, ho, hb⟩
          rw [ES.out]
          have Q6 := Lib.hid ho.reads
          obtain ⟨A6, c6, e6⟩ : ∃ A c, v6 = .slice A _ c := by obtain ⟨A, c, e, _⟩ := Q6.out; exact ⟨A, c, e⟩
          subst e6
          clear ho
          replace KL := Lib.hid (KL.out.next hb)
          replace Kc := Lib.hid (Kc.out.next hb)
          replace qc := Kc.out.cell
          replace Kd := Lib.hid (Kd.out.next hb)
          replace qd := Kd.out.cell
          replace RC0 := Lib.hid (RC0.out.next hb)
          replace Q5 := Lib.hid (Q5.out.next hb)
          clear hb
          have tqc := (Kc.out.next (box_below W17 (.cells #[.slice A6 (stA L2).length c6] 26))).cell
          have tqd := (Kd.out.next (box_below W17 (.cells #[.slice A6 (stA L2).length c6] 26))).cell
          have tqe := (KpC.new W17 (.slice A6 (stA L2).length c6) 26).cell
          go_wp2_with fail
          have Ke : Hid (KpC W17.heap.size (.slice A6 (stA L2).length c6) (W17.alloc (.cells #[.slice A6 (stA L2).length c6] 26))) := Lib.hid (KpC.new _ _ _)
          have hb : Below W17.heap.size W17 (W17.alloc (.cells #[.slice A6 (stA L2).length c6] 26)) := box_below _ _
          generalize W17.alloc (.cells #[.slice A6 (stA L2).length c6] 26) = W18 at *
          replace KL := Lib.hid (KL.out.next hb)
          replace Kc := Lib.hid (Kc.out.next hb)
          replace qc := Kc.out.cell
          replace Kd := Lib.hid (Kd.out.next hb)
          replace qd := Kd.out.cell
          replace RC0 := Lib.hid (RC0.out.next hb)
          replace Q5 := Lib.hid (Q5.out.next hb)
          replace Q6 := Lib.hid (Q6.out.next hb)
          have qe := Ke.out.cell
          clear hb tqc tqd tqe
          go_wp2_with fail
          refine (likeI _ _ (stA L2) _ Q5.out Q6.out HSL2.out).mono ?_
          rintro e W19 ⟨rfl, hb⟩
          replace KL := Lib.hid (KL.out.next hb)
          replace Kc := Lib.hid (Kc.out.next hb)
          replace qc := Kc.out.cell
          replace Kd := Lib.hid (Kd.out.next hb)
          replace qd := Kd.out.cell
          replace Ke := Lib.hid (Ke.out.next hb)
          replace qe := Ke.out.cell
          replace RC0 := Lib.hid (RC0.out.next hb)
          replace Q5 := Lib.hid (Q5.out.next hb)
          replace Q6 := Lib.hid (Q6.out.next hb)
          clear hb
          go_wp2_with fail
          refine (implLongSequence_any _ L2 1 _ RC0.out HN2.out HWF2.out (i64_wf (by omega) (by omega))).mono ?_
          rintro e W20 ⟨v7, rfl, ho, hb⟩
          rw [ES.out]
          have Q7 := Lib.hid ho.reads
          obtain ⟨A7, c7, e7⟩ : ∃ A c, v7 = .slice A (R + 1) c := by obtain ⟨A, c, e, _⟩ := Q7.out; rw [HS.out.len] at e; exact ⟨A, c, e⟩
          subst e7
          obtain ⟨gw, e0, _, _, _, _⟩ := own_at ho HS.out.len (j := 0) (by omega)
          subst e0
          have hcw : R + 1 ≤ c7 := by obtain ⟨A', c', e7, _, _, h5, _, h6⟩ := Q7.out; rw [HS.out.len] at e7 h5; cases e7; exact h5
          obtain ⟨C7, rfl⟩ : ∃ C, c7 = C + 1 := ⟨c7 - 1, by omega⟩
          have RW := Lib.hid (own_tail ho HS.out.len)
          clear ho
          replace KL := Lib.hid (KL.out.next hb)
          replace Kc := Lib.hid (Kc.out.next hb)
          replace qc := Kc.out.cell
          replace Kd := Lib.hid (Kd.out.next hb)
          replace qd := Kd.out.cell
          replace Ke := Lib.hid (Ke.out.next hb)
          replace qe := Ke.out.cell
          replace RC0 := Lib.hid (RC0.out.next hb)
          replace Q5 := Lib.hid (Q5.out.next hb)
          replace Q6 := Lib.hid (Q6.out.next hb)
          clear hb
          go_wp2_with fail
          refine (implCountBranchPoints_any _ (stA L2) _ Q5.out (by have := HS.out.dl; omega) HS.out.dw).mono ?_
          rintro e W21 ⟨rfl, hb⟩
          rw [HS.out.sq, HS.out.cb]
          replace KL := Lib.hid (KL.out.next hb)
          replace Kc := Lib.hid (Kc.out.next hb)
          replace qc := Kc.out.cell
          replace Kd := Lib.hid (Kd.out.next hb)
          replace qd := Kd.out.cell
          replace Ke := Lib.hid (Ke.out.next hb)
          replace qe := Ke.out.cell
          replace RC0 := Lib.hid (RC0.out.next hb)
          replace Q5 := Lib.hid (Q5.out.next hb)
          replace Q6 := Lib.hid (Q6.out.next hb)
          replace Q7 := Lib.hid (Q7.out.next hb)
          replace RW := Lib.hid (RW.out.next hb)
          clear hb
          have hRn := HS.out.n
          have hJn := HS.out.jn
          have hC0 : ¬ C7 = 0 := by omega
          have q1 : IntKind.i64.wrap (((R + 1 : Nat) : Int) - 1) = (R : Int) := by rw [show ((R + 1 : Nat) : Int) - 1 = (R : Int) by omega]; exact IntWalk.i64_in _ (by omega)
          have q1b : IntKind.i64.wrap ((R : Int) + 1 - 1) = (R : Int) := by rw [show (R : Int) + 1 - 1 = (R : Int) by omega]; exact IntWalk.i64_in _ (by omega)
          have q2 : IntKind.i64.wrap ((R : Int) - ((R : Int) - (J : Int))) = (J : Int) := by rw [show (R : Int) - ((R : Int) - (J : Int)) = (J : Int) by omega]; exact IntWalk.i64_in _ (by omega)
          have q3 : (if 0 < (J : Int) then (J : Int) else 0) = (J : Int) := by split <;> omega
          have q4 : (if 0 < J then (J : Int) else 0) = (J : Int) := by split <;> omega
          have q5 : max 0 (J : Int) = (J : Int) := by omega
          have h1R : (1 : Int) ≤ (R : Int) + 1 := by omega
          have hdl : ((lqA L2 1).drop 1).length = R := by rw [List.length_drop, HS.out.len]; omega
          go_wp2_with fail
          refine (implLongSequence_any _ (stA L2) (J : Int) _ Q5.out (by have := HS.out.dl; omega) HS.out.dw (i64_wf (by omega) (by omega))).mono ?_
          rintro e W22 ⟨v8, rfl, ho, hb⟩
          rw [HS.out.lc]
          rw [HS.out.la] at ho
          have Q8 := Lib.hid ho.reads
          obtain ⟨A8, c8, e8⟩ : ∃ A c, v8 = .slice A R c := by obtain ⟨A, c, e, _⟩ := Q8.out; rw [hdl] at e; exact ⟨A, c, e⟩
          subst e8
          clear ho
          replace KL := Lib.hid (KL.out.next hb)
          replace Kc := Lib.hid (Kc.out.next hb)
          replace qc := Kc.out.cell
          replace Kd := Lib.hid (Kd.out.next hb)
          replace qd := Kd.out.cell
          replace Ke := Lib.hid (Ke.out.next hb)
          replace qe := Ke.out.cell
          replace RC0 := Lib.hid (RC0.out.next hb)
          replace Q5 := Lib.hid (Q5.out.next hb)
          replace Q6 := Lib.hid (Q6.out.next hb)
          replace Q7 := Lib.hid (Q7.out.next hb)
          replace RW := Lib.hid (RW.out.next hb)
          clear hb
          go_wp2_with fail
          refine (likeI _ _ ((lqA L2 1).drop 1) _ Q8.out RW.out (by rw [List.length_drop, HS.out.len]; omega)).mono ?_
          rintro e W23 ⟨rfl, hb⟩
          replace KL := Lib.hid (KL.out.next hb)
          replace Kc := Lib.hid (Kc.out.next hb)
          replace qc := Kc.out.cell
          replace Kd := Lib.hid (Kd.out.next hb)
          replace qd := Kd.out.cell
          replace Ke := Lib.hid (Ke.out.next hb)
          replace qe := Ke.out.cell
          replace RC0 := Lib.hid (RC0.out.next hb)
          replace Q5 := Lib.hid (Q5.out.next hb)
          replace Q6 := Lib.hid (Q6.out.next hb)
          replace Q7 := Lib.hid (Q7.out.next hb)
          replace RW := Lib.hid (RW.out.next hb)
          replace Q8 := Lib.hid (Q8.out.next hb)
          clear hb
          go_wp2_with fail
          refine (DrawBranchOfSequence_any A n c _ KL.out.bytes hn).mono ?_
          rintro e W24 ⟨Af, nf, cf, L3, rfl, hr, hL, hb⟩
          have HSP3 := Lib.hid hL
          have RD0 := Lib.hid hr
          clear hr hL
          replace KL := Lib.hid (KL.out.next hb)
          replace Kc := Lib.hid (Kc.out.next hb)
          replace qc := Kc.out.cell
          replace Kd := Lib.hid (Kd.out.next hb)
          replace qd := Kd.out.cell
          replace Ke := Lib.hid (Ke.out.next hb)
          replace qe := Ke.out.cell
          replace RC0 := Lib.hid (RC0.out.next hb)
          replace Q5 := Lib.hid (Q5.out.next hb)
          replace Q6 := Lib.hid (Q6.out.next hb)
          replace Q7 := Lib.hid (Q7.out.next hb)
          replace RW := Lib.hid (RW.out.next hb)
          replace Q8 := Lib.hid (Q8.out.next hb)
          clear hb
          have HN3 : Hid (L3.length ≤ 1048576) := Lib.hid (by have := HSP3.out.1; omega)
          have HWF3 := Lib.hid HSP3.out.wf
          have HBL := Lib.hid (bsA_len L3)
          have hiq : (isqB L3 = true ∧ bsC L3 = 0) ∨ (isqB L3 = false ∧ (bsC L3 = 2 ∨ bsC L3 = 5)) := by
            unfold isqB bsC
            cases sqlB L3 <;> cases bsB L3 <;> simp
          rcases hiq with ⟨h1, h2⟩ | ⟨h1, h2 | h2⟩
          · have EI := Lib.hid h1
            have EB := Lib.hid h2
            clear h1 h2
            go_wp2_with fail
            refine (implBranchOfSequence_any _ L3 _ RD0.out HN3.out HWF3.out).mono ?_
            rintro e W25 ⟨vx, rfl, ho, hb⟩
            rw [EB.out]
            have Qx := Lib.hid ho.reads
            obtain ⟨Ax, cx, ex⟩ : ∃ A c, vx = .slice A _ c := by obtain ⟨A, c, e, _⟩ := Qx.out; exact ⟨A, c, e⟩
            subst ex
            clear ho
            replace KL := Lib.hid (KL.out.next hb)
            replace RD0 := Lib.hid (RD0.out.next hb)
            clear hb
            have tqx := (KpC.new W25 (.slice Ax (bsA L3).length cx) 26).cell
            go_wp2_with fail
            have Kx : Hid (KpC W25.heap.size (.slice Ax (bsA L3).length cx) (W25.alloc (.cells #[.slice Ax (bsA L3).length cx] 26))) := Lib.hid (KpC.new _ _ _)
            have hb : Below W25.heap.size W25 (W25.alloc (.cells #[.slice Ax (bsA L3).length cx] 26)) := box_below _ _
            generalize W25.alloc (.cells #[.slice Ax (bsA L3).length cx] 26) = W26 at *
            replace KL := Lib.hid (KL.out.next hb)
            replace RD0 := Lib.hid (RD0.out.next hb)
            replace Qx := Lib.hid (Qx.out.next hb)
            have qx := Kx.out.cell
            clear hb tqx
            go_wp2_with fail
            refine (specBranchOfSequence_any _ L3 _ RD0.out HN3.out HWF3.out).mono ?_
            rintro e W27 ⟨vy, rfl, ho, hb⟩
            rw [EB.out]
            have Qy := Lib.hid ho.reads
            obtain ⟨Ay, cy, ey⟩ : ∃ A c, vy = .slice A _ c := by obtain ⟨A, c, e, _⟩ := Qy.out; exact ⟨A, c, e⟩
            subst ey
            clear ho
            replace KL := Lib.hid (KL.out.next hb)
            replace Kx := Lib.hid (Kx.out.next hb)
            replace qx := Kx.out.cell
            replace RD0 := Lib.hid (RD0.out.next hb)
            replace Qx := Lib.hid (Qx.out.next hb)
            clear hb
            have tqx := (Kx.out.next (box_below W27 (.cells #[.slice Ay (bsA L3).length cy] 26))).cell
            have tqy := (KpC.new W27 (.slice Ay (bsA L3).length cy) 26).cell
            go_wp2_with fail
            have Ky : Hid (KpC W27.heap.size (.slice Ay (bsA L3).length cy) (W27.alloc (.cells #[.slice Ay (bsA L3).length cy] 26))) := Lib.hid (KpC.new _ _ _)
            have hb : Below W27.heap.size W27 (W27.alloc (.cells #[.slice Ay (bsA L3).length cy] 26)) := box_below _ _
            generalize W27.alloc (.cells #[.slice Ay (bsA L3).length cy] 26) = W28 at *
            replace KL := Lib.hid (KL.out.next hb)
            replace Kx := Lib.hid (Kx.out.next hb)
            replace qx := Kx.out.cell
            replace RD0 := Lib.hid (RD0.out.next hb)
            replace Qx := Lib.hid (Qx.out.next hb)
            replace Qy := Lib.hid (Qy.out.next hb)
            have qy := Ky.out.cell
            clear hb tqx tqy
            go_wp2_with fail
            refine (likeI _ _ (bsA L3) _ Qx.out Qy.out (by have := HBL.out; omega)).mono ?_
            rintro e W29 ⟨rfl, hb⟩
            replace KL := Lib.hid (KL.out.next hb)
            replace Kx := Lib.hid (Kx.out.next hb)
            replace qx := Kx.out.cell
            replace Ky := Lib.hid (Ky.out.next hb)
            replace qy := Ky.out.cell
            replace RD0 := Lib.hid (RD0.out.next hb)
            replace Qx := Lib.hid (Qx.out.next hb)
            replace Qy := Lib.hid (Qy.out.next hb)
            clear hb
            go_wp2_with fail
            refine (implIsSequence_any _ L3 _ RD0.out HN3.out HWF3.out).mono ?_
            rintro e W30 ⟨rfl, hb⟩
            rw [EI.out]
            replace KL := Lib.hid (KL.out.next hb)
            replace Kx := Lib.hid (Kx.out.next hb)
            replace qx := Kx.out.cell
            replace Ky := Lib.hid (Ky.out.next hb)
            replace qy := Ky.out.cell
            replace RD0 := Lib.hid (RD0.out.next hb)
            replace Qx := Lib.hid (Qx.out.next hb)
            replace Qy := Lib.hid (Qy.out.next hb)
            clear hb
            go_wp2_with fail
            refine (specIsSequence_any _ L3 _ RD0.out HN3.out HWF3.out).mono ?_
            rintro e W31 ⟨rfl, hb⟩
            rw [EI.out]
            replace KL := Lib.hid (KL.out.next hb)
            replace Kx := Lib.hid (Kx.out.next hb)
            replace qx := Kx.out.cell
            replace Ky := Lib.hid (Ky.out.next hb)
            replace qy := Ky.out.cell
            replace RD0 := Lib.hid (RD0.out.next hb)
            replace Qx := Lib.hid (Qx.out.next hb)
            replace Qy := Lib.hid (Qy.out.next hb)
            clear hb
            go_wp2_with fail
            refine (implIsSequence_any _ L3 _ RD0.out HN3.out HWF3.out).mono ?_
            rintro e W32 ⟨rfl, hb⟩
            rw [EI.out]
            replace KL := Lib.hid (KL.out.next hb)
            replace Kx := Lib.hid (Kx.out.next hb)
            replace qx := Kx.out.cell
            replace Ky := Lib.hid (Ky.out.next hb)
            replace qy := Ky.out.cell
            replace RD0 := Lib.hid (RD0.out.next hb)
            replace Qx := Lib.hid (Qx.out.next hb)
            replace Qy := Lib.hid (Qy.out.next hb)
            clear hb
            go_wp2_with fail
            go_ret
            exact ⟨rfl, KL.out.below⟩
          · have EI := Lib.hid h1
            have EB := Lib.hid h2
            clear h1 h2
            go_wp2_with fail
            refine (implBranchOfSequence_any _ L3 _ RD0.out HN3.out HWF3.out).mono ?_
            rintro e W25 ⟨vx, rfl, ho, hb⟩
            rw [EB.out]
            have Qx := Lib.hid ho.reads
            obtain ⟨Ax, cx, ex⟩ : ∃ A c, vx = .slice A _ c := by obtain ⟨A, c, e, _⟩ := Qx.out; exact ⟨A, c, e⟩
            subst ex
            clear ho
            replace KL := Lib.hid (KL.out.next hb)
            replace RD0 := Lib.hid (RD0.out.next hb)
            clear hb
            have tqx := (KpC.new W25 (.slice Ax (bsA L3).length cx) 26).cell
            go_wp2_with fail
            have Kx : Hid (KpC W25.heap.size (.slice Ax (bsA L3).length cx) (W25.alloc (.cells #[.slice Ax (bsA L3).length cx] 26))) := Lib.hid (KpC.new _ _ _)
            have hb : Below W25.heap.size W25 (W25.alloc (.cells #[.slice Ax (bsA L3).length cx] 26)) := box_below _ _
            generalize W25.alloc (.cells #[.slice Ax (bsA L3).length cx] 26) = W26 at *
            replace KL := Lib.hid (KL.out.next hb)
            replace RD0 := Lib.hid (RD0.out.next hb)
            replace Qx := Lib.hid (Qx.out.next hb)
            have qx := Kx.out.cell
            clear hb tqx
            go_wp2_with fail
            refine (specBranchOfSequence_any _ L3 _ RD0.out HN3.out HWF3.out).mono ?_
            rintro e W27 ⟨vy, rfl, ho, hb⟩
            rw [EB.out]
            have Qy := Lib.hid ho.reads
            obtain ⟨Ay, cy, ey⟩ : ∃ A c, vy = .slice A _ c := by obtain ⟨A, c, e, _⟩ := Qy.out; exact ⟨A, c, e⟩
            subst ey
            clear ho
            replace KL := Lib.hid (KL.out.next hb)
            replace Kx := Lib.hid (Kx.out.next hb)
            replace qx := Kx.out.cell
            replace RD0 := Lib.hid (RD0.out.next hb)
            replace Qx := Lib.hid (Qx.out.next hb)
            clear hb
            have tqx := (Kx.out.next (box_below W27 (.cells #[.slice Ay (bsA L3).length cy] 26))).cell
            have tqy := (KpC.new W27 (.slice Ay (bsA L3).length cy) 26).cell
            go_wp2_with fail
            have Ky : Hid (KpC W27.heap.size (.slice Ay (bsA L3).length cy) (W27.alloc (.cells #[.slice Ay (bsA L3).length cy] 26))) := Lib.hid (KpC.new _ _ _)
            have hb : Below W27.heap.size W27 (W27.alloc (.cells #[.slice Ay (bsA L3).length cy] 26)) := box_below _ _
            generalize W27.alloc (.cells #[.slice Ay (bsA L3).length cy] 26) = W28 at *
            replace KL := Lib.hid (KL.out.next hb)
            replace Kx := Lib.hid (Kx.out.next hb)
            replace qx := Kx.out.cell
            replace RD0 := Lib.hid (RD0.out.next hb)
            replace Qx := Lib.hid (Qx.out.next hb)
            replace Qy := Lib.hid (Qy.out.next hb)
            have qy := Ky.out.cell
            clear hb tqx tqy
            go_wp2_with fail
            refine (likeI _ _ (bsA L3) _ Qx.out Qy.out (by have := HBL.out; omega)).mono ?_
            rintro e W29 ⟨rfl, hb⟩
            replace KL := Lib.hid (KL.out.next hb)
            replace Kx := Lib.hid (Kx.out.next hb)
            replace qx := Kx.out.cell
            replace Ky := Lib.hid (Ky.out.next hb)
            replace qy := Ky.out.cell
            replace RD0 := Lib.hid (RD0.out.next hb)
            replace Qx := Lib.hid (Qx.out.next hb)
            replace Qy := Lib.hid (Qy.out.next hb)
            clear hb
            go_wp2_with fail
            refine (implIsSequence_any _ L3 _ RD0.out HN3.out HWF3.out).mono ?_
            rintro e W30 ⟨rfl, hb⟩
            rw [EI.out]
            replace KL := Lib.hid (KL.out.next hb)
            replace Kx := Lib.hid (Kx.out.next hb)
            replace qx := Kx.out.cell
            replace Ky := Lib.hid (Ky.out.next hb)
            replace qy := Ky.out.cell
            replace RD0 := Lib.hid (RD0.out.next hb)
            replace Qx := Lib.hid (Qx.out.next hb)
            replace Qy := Lib.hid (Qy.out.next hb)
            clear hb
            go_wp2_with fail
            refine (specIsSequence_any _ L3 _ RD0.out HN3.out HWF3.out).mono ?_
            rintro e W31 ⟨rfl, hb⟩
            rw [EI.out]
            replace KL := Lib.hid (KL.out.next hb)
            replace Kx := Lib.hid (Kx.out.next hb)
            replace qx := Kx.out.cell
            replace Ky := Lib.hid (Ky.out.next hb)
            replace qy := Ky.out.cell
            replace RD0 := Lib.hid (RD0.out.next hb)
            replace Qx := Lib.hid (Qx.out.next hb)
            replace Qy := Lib.hid (Qy.out.next hb)
            clear hb
            go_wp2_with fail
            refine (implIsSequence_any _ L3 _ RD0.out HN3.out HWF3.out).mono ?_
            rintro e W32 ⟨rfl, hb⟩
            rw [EI.out]
            replace KL := Lib.hid (KL.out.next hb)
            replace Kx := Lib.hid (Kx.out.next hb)
            replace qx := Kx.out.cell
            replace Ky := Lib.hid (Ky.out.next hb)
            replace qy := Ky.out.cell
            replace RD0 := Lib.hid (RD0.out.next hb)
            replace Qx := Lib.hid (Qx.out.next hb)
            replace Qy := Lib.hid (Qy.out.next hb)
            clear hb
            go_wp2_with fail
            go_ret
            exact ⟨rfl, KL.out.below⟩
          · have EI := Lib.hid h1
            have EB := Lib.hid h2
            clear h1 h2
            go_wp2_with fail
            refine (implBranchOfSequence_any _ L3 _ RD0.out HN3.out HWF3.out).mono ?_
            rintro e W25 ⟨vx, rfl, ho, hb⟩
            rw [EB.out]
            have Qx := Lib.hid ho.reads
            obtain ⟨Ax, cx, ex⟩ : ∃ A c, vx = .slice A _ c := by obtain ⟨A, c, e, _⟩ := Qx.out; exact ⟨A, c, e⟩
            subst ex
            clear ho
            replace KL := Lib.hid (KL.out.next hb)
            replace RD0 := Lib.hid (RD0.out.next hb)
            clear hb
            have tqx := (KpC.new W25 (.slice Ax (bsA L3).length cx) 26).cell
            go_wp2_with fail
            have Kx : Hid (KpC W25.heap.size (.slice Ax (bsA L3).length cx) (W25.alloc (.cells #[.slice Ax (bsA L3).length cx] 26))) := Lib.hid (KpC.new _ _ _)
            have hb : Below W25.heap.size W25 (W25.alloc (.cells #[.slice Ax (bsA L3).length cx] 26)) := box_below _ _
            generalize W25.alloc (.cells #[.slice Ax (bsA L3).length cx] 26) = W26 at *
            replace KL := Lib.hid (KL.out.next hb)
            replace RD0 := Lib.hid (RD0.out.next hb)
            replace Qx := Lib.hid (Qx.out.next hb)
            have qx := Kx.out.cell
            clear hb tqx
            go_wp2_with fail
            refine (specBranchOfSequence_any _ L3 _ RD0.out HN3.out HWF3.out).mono ?_
            rintro e W27 ⟨vy, rfl, ho, hb⟩
            rw [EB.out]
            have Qy := Lib.hid ho.reads
            obtain ⟨Ay, cy, ey⟩ : ∃ A c, vy = .slice A _ c := by obtain ⟨A, c, e, _⟩ := Qy.out; exact ⟨A, c, e⟩
            subst ey
            clear ho
            replace KL := Lib.hid (KL.out.next hb)
            replace Kx := Lib.hid (Kx.out.next hb)
            replace qx := Kx.out.cell
            replace RD0 := Lib.hid (RD0.out.next hb)
            replace Qx := Lib.hid (Qx.out.next hb)
            clear hb
            have tqx := (Kx.out.next (box_below W27 (.cells #[.slice Ay (bsA L3).length cy] 26))).cell
            have tqy := (KpC.new W27 (.slice Ay (bsA L3).length cy) 26).cell
            go_wp2_with fail
            have Ky : Hid (KpC W27.heap.size (.slice Ay (bsA L3).length cy) (W27.alloc (.cells #[.slice Ay (bsA L3).length cy] 26))) := Lib.hid (KpC.new _ _ _)
            have hb : Below W27.heap.size W27 (W27.alloc (.cells #[.slice Ay (bsA L3).length cy] 26)) := box_below _ _
            generalize W27.alloc (.cells #[.slice Ay (bsA L3).length cy] 26) = W28 at *
            replace KL := Lib.hid (KL.out.next hb)
            replace Kx := Lib.hid (Kx.out.next hb)
            replace qx := Kx.out.cell
            replace RD0 := Lib.hid (RD0.out.next hb)
            replace Qx := Lib.hid (Qx.out.next hb)
            replace Qy := Lib.hid (Qy.out.next hb)
            have qy := Ky.out.cell
            clear hb tqx tqy
            go_wp2_with fail
            refine (likeI _ _ (bsA L3) _ Qx.out Qy.out (by have := HBL.out; omega)).mono ?_
            rintro e W29 ⟨rfl, hb⟩
            replace KL := Lib.hid (KL.out.next hb)
            replace Kx := Lib.hid (Kx.out.next hb)
            replace qx := Kx.out.cell
            replace Ky := Lib.hid (Ky.out.next hb)
            replace qy := Ky.out.cell
            replace RD0 := Lib.hid (RD0.out.next hb)
            replace Qx := Lib.hid (Qx.out.next hb)
            replace Qy := Lib.hid (Qy.out.next hb)
            clear hb
            go_wp2_with fail
            refine (implIsSequence_any _ L3 _ RD0.out HN3.out HWF3.out).mono ?_
            rintro e W30 ⟨rfl, hb⟩
            rw [EI.out]
            replace KL := Lib.hid (KL.out.next hb)
            replace Kx := Lib.hid (Kx.out.next hb)
            replace qx := Kx.out.cell
            replace Ky := Lib.hid (Ky.out.next hb)
            replace qy := Ky.out.cell
            replace RD0 := Lib.hid (RD0.out.next hb)
            replace Qx := Lib.hid (Qx.out.next hb)
            replace Qy := Lib.hid (Qy.out.next hb)
            clear hb
            go_wp2_with fail
            refine (specIsSequence_any _ L3 _ RD0.out HN3.out HWF3.out).mono ?_
            rintro e W31 ⟨rfl, hb⟩
            rw [EI.out]
            replace KL := Lib.hid (KL.out.next hb)
            replace Kx := Lib.hid (Kx.out.next hb)
            replace qx := Kx.out.cell
            replace Ky := Lib.hid (Ky.out.next hb)
            replace qy := Ky.out.cell
            replace RD0 := Lib.hid (RD0.out.next hb)
            replace Qx := Lib.hid (Qx.out.next hb)
            replace Qy := Lib.hid (Qy.out.next hb)
            clear hb
            go_wp2_with fail
            refine (implIsSequence_any _ L3 _ RD0.out HN3.out HWF3.out).mono ?_
            rintro e W32 ⟨rfl, hb⟩
            rw [EI.out]
            replace KL := Lib.hid (KL.out.next hb)
            replace Kx := Lib.hid (Kx.out.next hb)
            replace qx := Kx.out.cell
            replace Ky := Lib.hid (Ky.out.next hb)
            replace qy := Ky.out.cell
            replace RD0 := Lib.hid (RD0.out.next hb)
            replace Qx := Lib.hid (Qx.out.next hb)
            replace Qy := Lib.hid (Qy.out.next hb)
            clear hb
            go_wp2_with fail
            go_ret
            exact ⟨rfl, KL.out.below⟩
        · generalize hC2 : lqC L2 1 = C2 at *
          have ES := Lib.hid hC2
          have hCb2 : (C2 == 0) = false := by simpa using hs6
          clear hC2
          go_wp2_with fail
          refine (implStrictTransform_any _ L2 _ RC0.out HN2.out HWF2.out).mono ?_
          rintro e W15 ⟨v5, rfl, ho, hb⟩
          rw [ES.out]
          have Q5 := Lib.hid ho.reads
          obtain ⟨A5, c5, e5⟩ : ∃ A c, v5 = .slice A _ c := by obtain ⟨A, c, e, _⟩ := Q5.out; exact ⟨A, c, e⟩
          subst e5
          clear ho
          replace KL := Lib.hid (KL.out.next hb)
          replace Kc := Lib.hid (Kc.out.next hb)
          replace qc := Kc.out.cell
          replace RC0 := Lib.hid (RC0.out.next hb)
          clear hb
          have tqc := (Kc.out.next (box_below W15 (.cells #[.slice A5 (stA L2).length c5] 26))).cell
          have tqd := (KpC.new W15 (.slice A5 (stA L2).length c5) 26).cell
          go_wp2_with fail
          have Kd : Hid (KpC W15.heap.size (.slice A5 (stA L2).length c5) (W15.alloc (.cells #[.slice A5 (stA L2).length c5] 26))) := Lib.hid (KpC.new _ _ _)
          have hb : Below W15.heap.size W15 (W15.alloc (.cells #[.slice A5 (stA L2).length c5] 26)) := box_below _ _
          generalize W15.alloc (.cells #[.slice A5 (stA L2).length c5] 26) = W16 at *
          replace KL := Lib.hid (KL.out.next hb)
          replace Kc := Lib.hid (Kc.out.next hb)
          replace qc := Kc.out.cell
          replace RC0 := Lib.hid (RC0.out.next hb)
          replace Q5 := Lib.hid (Q5.out.next hb)
          have qd := Kd.out.cell
          clear hb tqc tqd
          go_wp2_with fail
          refine (specStrictTransform_any _ L2 _ RC0.out HN2.out HWF2.out).mono ?_
          rintro e W17 ⟨v6, rfl, ho, hb⟩
          rw [ES.out]
          have Q6 := Lib.hid ho.reads
          obtain ⟨A6, c6, e6⟩ : ∃ A c, v6 = .slice A _ c := by obtain ⟨A, c, e, _⟩ := Q6.out; exact ⟨A, c, e⟩
          subst e6
          clear ho
          replace KL := Lib.hid (KL.out.next hb)
          replace Kc := Lib.hid (Kc.out.next hb)
          replace qc := Kc.out.cell
          replace Kd := Lib.hid (Kd.out.next hb)
          replace qd := Kd.out.cell
          replace RC0 := Lib.hid (RC0.out.next hb)
          replace Q5 := Lib.hid (Q5.out.next hb)
          clear hb
          have tqc := (Kc.out.next (box_below W17 (.cells #[.slice A6 (stA L2).length c6] 26))).cell
          have tqd := (Kd.out.next (box_below W17 (.cells #[.slice A6 (stA L2).length c6] 26))).cell
          have tqe := (KpC.new W17 (.slice A6 (stA L2).length c6) 26).cell
          go_wp2_with fail
          have Ke : Hid (KpC W17.heap.size (.slice A6 (stA L2).length c6) (W17.alloc (.cells #[.slice A6 (stA L2).length c6] 26))) := Lib.hid (KpC.new _ _ _)
          have hb : Below W17.heap.size W17 (W17.alloc (.cells #[.slice A6 (stA L2).length c6] 26)) := box_below _ _
          generalize W17.alloc (.cells #[.slice A6 (stA L2).length c6] 26) = W18 at *
          replace KL := Lib.hid (KL.out.next hb)
          replace Kc := Lib.hid (Kc.out.next hb)
          replace qc := Kc.out.cell
          replace Kd := Lib.hid (Kd.out.next hb)
          replace qd := Kd.out.cell
          replace RC0 := Lib.hid (RC0.out.next hb)
          replace Q5 := Lib.hid (Q5.out.next hb)
          replace Q6 := Lib.hid (Q6.out.next hb)
          have qe := Ke.out.cell
          clear hb tqc tqd tqe
          go_wp2_with fail
          refine (likeI _ _ (stA L2) _ Q5.out Q6.out HSL2.out).mono ?_
          rintro e W19 ⟨rfl, hb⟩
          replace KL := Lib.hid (KL.out.next hb)
          replace Kc := Lib.hid (Kc.out.next hb)
          replace qc := Kc.out.cell
          replace Kd := Lib.hid (Kd.out.next hb)
          replace qd := Kd.out.cell
          replace Ke := Lib.hid (Ke.out.next hb)
          replace qe := Ke.out.cell
          replace RC0 := Lib.hid (RC0.out.next hb)
          replace Q5 := Lib.hid (Q5.out.next hb)
          replace Q6 := Lib.hid (Q6.out.next hb)
          clear hb
          go_wp2_with fail
          refine (DrawBranchOfSequence_any A n c _ KL.out.bytes hn).mono ?_
          rintro e W20 ⟨Af, nf, cf, L3, rfl, hr, hL, hb⟩
          have HSP3 := Lib.hid hL
          have RD0 := Lib.hid hr
          clear hr hL
          replace KL := Lib.hid (KL.out.next hb)
          replace Kc := Lib.hid (Kc.out.next hb)
          replace qc := Kc.out.cell
          replace Kd := Lib.hid (Kd.out.next hb)
          replace qd := Kd.out.cell
          replace Ke := Lib.hid (Ke.out.next hb)
          replace qe := Ke.out.cell
          replace RC0 := Lib.hid (RC0.out.next hb)
          replace Q5 := Lib.hid (Q5.out.next hb)
          replace Q6 := Lib.hid (Q6.out.next hb)
          clear hb
          have HN3 : Hid (L3.length ≤ 1048576) := Lib.hid (by have := HSP3.out.1; omega)
          have HWF3 := Lib.hid HSP3.out.wf
          have HBL := Lib.hid (bsA_len L3)
          have hiq : (isqB L3 = true ∧ bsC L3 = 0) ∨ (isqB L3 = false ∧ (bsC L3 = 2 ∨ bsC L3 = 5)) := by
            unfold isqB bsC
            cases sqlB L3 <;> cases bsB L3 <;> simp
          rcases hiq with ⟨h1, h2⟩ | ⟨h1, h2 | h2⟩
          · have EI := Lib.hid h1
            have EB := Lib.hid h2
            clear h1 h2
            go_wp2_with fail
            refine (implBranchOfSequence_any _ L3 _ RD0.out HN3.out HWF3.out).mono ?_
            rintro e W21 ⟨vx, rfl, ho, hb⟩
            rw [EB.out]
            have Qx := Lib.hid ho.reads
            obtain ⟨Ax, cx, ex⟩ : ∃ A c, vx = .slice A _ c := by obtain ⟨A, c, e, _⟩ := Qx.out; exact ⟨A, c, e⟩
            subst ex
            clear ho
            replace KL := Lib.hid (KL.out.next hb)
            replace RD0 := Lib.hid (RD0.out.next hb)
            clear hb
            have tqx := (KpC.new W21 (.slice Ax (bsA L3).length cx) 26).cell
            go_wp2_with fail
            have Kx : Hid (KpC W21.heap.size (.slice Ax (bsA L3).length cx) (W21.alloc (.cells #[.slice Ax (bsA L3).length cx] 26))) := Lib.hid (KpC.new _ _ _)
            have hb : Below W21.heap.size W21 (W21.alloc (.cells #[.slice Ax (bsA L3).length cx] 26)) := box_below _ _
            generalize W21.alloc (.cells #[.slice Ax (bsA L3).length cx] 26) = W22 at *
            replace KL := Lib.hid (KL.out.next hb)
            replace RD0 := Lib.hid (RD0.out.next hb)
            replace Qx := Lib.hid (Qx.out.next hb)
            have qx := Kx.out.cell
            clear hb tqx
            go_wp2_with fail
            refine (specBranchOfSequence_any _ L3 _ RD0.out HN3.out HWF3.out).mono ?_
            rintro e W23 ⟨vy, rfl, ho, hb⟩
            rw [EB.out]
            have Qy := Lib.hid ho.reads
            obtain ⟨Ay, cy, ey⟩ : ∃ A c, vy = .slice A _ c := by obtain ⟨A, c, e, _⟩ := Qy.out; exact ⟨A, c, e⟩
            subst ey
            clear ho
            replace KL := Lib.hid (KL.out.next hb)
            replace Kx := Lib.hid (Kx.out.next hb)
            replace qx := Kx.out.cell
            replace RD0 := Lib.hid (RD0.out.next hb)
            replace Qx := Lib.hid (Qx.out.next hb)
            clear hb
            have tqx := (Kx.out.next (box_below W23 (.cells #[.slice Ay (bsA L3).length cy] 26))).cell
            have tqy := (KpC.new W23 (.slice Ay (bsA L3).length cy) 26).cell
            go_wp2_with fail
            have Ky : Hid (KpC W23.heap.size (.slice Ay (bsA L3).length cy) (W23.alloc (.cells #[.slice Ay (bsA L3).length cy] 26))) := Lib.hid (KpC.new _ _ _)
            have hb : Below W23.heap.size W23 (W23.alloc (.cells #[.slice Ay (bsA L3).length cy] 26)) := box_below _ _
            generalize W23.alloc (.cells #[.slice Ay (bsA L3).length cy] 26) = W24 at *
            replace KL := Lib.hid (KL.out.next hb)
            replace Kx := Lib.hid (Kx.out.next hb)
            replace qx := Kx.out.cell
            replace RD0 := Lib.hid (RD0.out.next hb)
            replace Qx := Lib.hid (Qx.out.next hb)
            replace Qy := Lib.hid (Qy.out.next hb)
            have qy := Ky.out.cell
            clear hb tqx tqy
            go_wp2_with fail
            refine (likeI _ _ (bsA L3) _ Qx.out Qy.out (by have := HBL.out; omega)).mono ?_
            rintro e W25 ⟨rfl, hb⟩
            replace KL := Lib.hid (KL.out.next hb)
            replace Kx := Lib.hid (Kx.out.next hb)
            replace qx := Kx.out.cell
            replace Ky := Lib.hid (Ky.out.next hb)
            replace qy := Ky.out.cell
            replace RD0 := Lib.hid (RD0.out.next hb)
            replace Qx := Lib.hid (Qx.out.next hb)
            replace Qy := Lib.hid (Qy.out.next hb)
            clear hb
            go_wp2_with fail
            refine (implIsSequence_any _ L3 _ RD0.out HN3.out HWF3.out).mono ?_
            rintro e W26 ⟨rfl, hb⟩
            rw [EI.out]
            replace KL := Lib.hid (KL.out.next hb)
            replace Kx := Lib.hid (Kx.out.next hb)
            replace qx := Kx.out.cell
            replace Ky := Lib.hid (Ky.out.next hb)
            replace qy := Ky.out.cell
            replace RD0 := Lib.hid (RD0.out.next hb)
            replace Qx := Lib.hid (Qx.out.next hb)
            replace Qy := Lib.hid (Qy.out.next hb)
            clear hb
            go_wp2_with fail
            refine (specIsSequence_any _ L3 _ RD0.out HN3.out HWF3.out).mono ?_
            rintro e W27 ⟨rfl, hb⟩
            rw [EI.out]
            replace KL := Lib.hid (KL.out.next hb)
            replace Kx := Lib.hid (Kx.out.next hb)
            replace qx := Kx.out.cell
            replace Ky := Lib.hid (Ky.out.next hb)
            replace qy := Ky.out.cell
            replace RD0 := Lib.hid (RD0.out.next hb)
            replace Qx := Lib.hid (Qx.out.next hb)
            replace Qy := Lib.hid (Qy.out.next hb)
            clear hb
            go_wp2_with fail
            refine (implIsSequence_any _ L3 _ RD0.out HN3.out HWF3.out).mono ?_
            rintro e W28 ⟨rfl, hb⟩
            rw [EI.out]
            replace KL := Lib.hid (KL.out.next hb)
            replace Kx := Lib.hid (Kx.out.next hb)
            replace qx := Kx.out.cell
            replace Ky := Lib.hid (Ky.out.next hb)
            replace qy := Ky.out.cell
            replace RD0 := Lib.hid (RD0.out.next hb)
            replace Qx := Lib.hid (Qx.out.next hb)
            replace Qy := Lib.hid (Qy.out.next hb)
            clear hb
            go_wp2_with fail
            go_ret
            exact ⟨rfl, KL.out.below⟩
          · have EI := Lib.hid h1
            have EB := Lib.hid h2
            clear h1 h2
            go_wp2_with fail
            refine (implBranchOfSequence_any _ L3 _ RD0.out HN3.out HWF3.out).mono ?_
            rintro e W21 ⟨vx, rfl, ho, hb⟩
            rw [EB.out]
            have Qx := Lib.hid ho.reads
            obtain ⟨Ax, cx, ex⟩ : ∃ A c, vx = .slice A _ c := by obtain ⟨A, c, e, _⟩ := Qx.out; exact ⟨A, c, e⟩
            subst ex
            clear ho
            replace KL := Lib.hid (KL.out.next hb)
            replace RD0 := Lib.hid (RD0.out.next hb)
            clear hb
            have tqx := (KpC.new W21 (.slice Ax (bsA L3).length cx) 26).cell
            go_wp2_with fail
            have Kx : Hid (KpC W21.heap.size (.slice Ax (bsA L3).length cx) (W21.alloc (.cells #[.slice Ax (bsA L3).length cx] 26))) := Lib.hid (KpC.new _ _ _)
            have hb : Below W21.heap.size W21 (W21.alloc (.cells #[.slice Ax (bsA L3).length cx] 26)) := box_below _ _
            generalize W21.alloc (.cells #[.slice Ax (bsA L3).length cx] 26) = W22 at *
            replace KL := Lib.hid (KL.out.next hb)
            replace RD0 := Lib.hid (RD0.out.next hb)
            replace Qx := Lib.hid (Qx.out.next hb)
            have qx := Kx.out.cell
            clear hb tqx
            go_wp2_with fail
            refine (specBranchOfSequence_any _ L3 _ RD0.out HN3.out HWF3.out).mono ?_
            rintro e W23 ⟨vy, rfl, ho, hb⟩
            rw [EB.out]
            have Qy := Lib.hid ho.reads
            obtain ⟨Ay, cy, ey⟩ : ∃ A c, vy = .slice A _ c := by obtain ⟨A, c, e, _⟩ := Qy.out; exact ⟨A, c, e⟩
            subst ey
            clear ho
            replace KL := Lib.hid (KL.out.next hb)
            replace Kx := Lib.hid (Kx.out.next hb)
            replace qx := Kx.out.cell
            replace RD0 := Lib.hid (RD0.out.next hb)
            replace Qx := Lib.hid (Qx.out.next hb)
            clear hb
            have tqx := (Kx.out.next (box_below W23 (.cells #[.slice Ay (bsA L3).length cy] 26))).cell
            have tqy := (KpC.new W23 (.slice Ay (bsA L3).length cy) 26).cell
            go_wp2_with fail
            have Ky : Hid (KpC W23.heap.size (.slice Ay (bsA L3).length cy) (W23.alloc (.cells #[.slice Ay (bsA L3).length cy] 26))) := Lib.hid (KpC.new _ _ _)
            have hb : Below W23.heap.size W23 (W23.alloc (.cells #[.slice Ay (bsA L3).length cy] 26)) := box_below _ _
            generalize W23.alloc (.cells #[.slice Ay (bsA L3).length cy] 26) = W24 at *
            replace KL := Lib.hid (KL.out.next hb)
            replace Kx := Lib.hid (Kx.out.next hb)
            replace qx := Kx.out.cell
            replace RD0 := Lib.hid (RD0.out.next hb)
            replace Qx := Lib.hid (Qx.out.next hb)
            replace Qy := Lib.hid (Qy.out.next hb)
            have qy := Ky.out.cell
            clear hb tqx tqy
            go_wp2_with fail
            refine (likeI _ _ (bsA L3) _ Qx.out Qy.out (by have := HBL.out; omega)).mono ?_
            rintro e W25 ⟨rfl, hb⟩
            replace KL := Lib.hid (KL.out.next hb)
            replace Kx := Lib.hid (Kx.out.next hb)
            replace qx := Kx.out.cell
            replace Ky := Lib.hid (Ky.out.next hb)
            replace qy := Ky.out.cell
            replace RD0 := Lib.hid (RD0.out.next hb)
            replace Qx := Lib.hid (Qx.out.next hb)
            replace Qy := Lib.hid (Qy.out.next hb)
            clear hb
            go_wp2_with fail
            refine (implIsSequence_any _ L3 _ RD0.out HN3.out HWF3.out).mono ?_
            rintro e W26 ⟨rfl, hb⟩
            rw [EI.out]
            replace KL := Lib.hid (KL.out.next hb)
            replace Kx := Lib.hid (Kx.out.next hb)
            replace qx := Kx.out.cell
            replace Ky := Lib.hid (Ky.out.next hb)
            replace qy := Ky.out.cell
            replace RD0 := Lib.hid (RD0.out.next hb)
            replace Qx := Lib.hid (Qx.out.next hb)
            replace Qy := Lib.hid (Qy.out.next hb)
            clear hb
            go_wp2_with fail
            refine (specIsSequence_any _ L3 _ RD0.out HN3.out HWF3.out).mono ?_
            rintro e W27 ⟨rfl, hb⟩
            rw [EI.out]
            replace KL := Lib.hid (KL.out.next hb)
            replace Kx := Lib.hid (Kx.out.next hb)
            replace qx := Kx.out.cell
            replace Ky := Lib.hid (Ky.out.next hb)
            replace qy := Ky.out.cell
            replace RD0 := Lib.hid (RD0.out.next hb)
            replace Qx := Lib.hid (Qx.out.next hb)
            replace Qy := Lib.hid (Qy.out.next hb)
            clear hb
            go_wp2_with fail
            refine (implIsSequence_any _ L3 _ RD0.out HN3.out HWF3.out).mono ?_
            rintro e W28 ⟨rfl, hb⟩
            rw [EI.out]
            replace KL := Lib.hid (KL.out.next hb)
            replace Kx := Lib.hid (Kx.out.next hb)
            replace qx := Kx.out.cell
            replace Ky := Lib.hid (Ky.out.next hb)
            replace qy := Ky.out.cell
            replace RD0 := Lib.hid (RD0.out.next hb)
            replace Qx := Lib.hid (Qx.out.next hb)
            replace Qy := Lib.hid (Qy.out.next hb)
            clear hb
            go_wp2_with fail
            go_ret
            exact ⟨rfl, KL.out.below⟩
          · have EI := Lib.hid h1
            have EB := Lib.hid h2
            clear h1 h2
            go_wp2_with fail
            refine (implBranchOfSequence_any _ L3 _ RD0.out HN3.out HWF3.out).mono ?_
            rintro e W21 ⟨vx, rfl, ho, hb⟩
            rw [EB.out]
            have Qx := Lib.hid ho.reads
            obtain ⟨Ax, cx, ex⟩ : ∃ A c, vx = .slice A _ c := by obtain ⟨A, c, e, _⟩ := Qx.out; exact ⟨A, c, e⟩
            subst ex
            clear ho
            replace KL := Lib.hid (KL.out.next hb)
            replace RD0 := Lib.hid (RD0.out.next hb)
            clear hb
            have tqx := (KpC.new W21 (.slice Ax (bsA L3).length cx) 26).cell
            go_wp2_with fail
            have Kx : Hid (KpC W21.heap.size (.slice Ax (bsA L3).length cx) (W21.alloc (.cells #[.slice Ax (bsA L3).length cx] 26))) := Lib.hid (KpC.new _ _ _)
            have hb : Below W21.heap.size W21 (W21.alloc (.cells #[.slice Ax (bsA L3).length cx] 26)) := box_below _ _
            generalize W21.alloc (.cells #[.slice Ax (bsA L3).length cx] 26) = W22 at *
            replace KL := Lib.hid (KL.out.next hb)
            replace RD0 := Lib.hid (RD0.out.next hb)
            replace Qx := Lib.hid (Qx.out.next hb)
            have qx := Kx.out.cell
            clear hb tqx
            go_wp2_with fail
            refine (specBranchOfSequence_any _ L3 _ RD0.out HN3.out HWF3.out).mono ?_
            rintro e W23 ⟨vy, rfl, ho, hb⟩
            rw [EB.out]
            have Qy := Lib.hid ho.reads
            obtain ⟨Ay, cy, ey⟩ : ∃ A c, vy = .slice A _ c := by obtain ⟨A, c, e, _⟩ := Qy.out; exact ⟨A, c, e⟩
            subst ey
            clear ho
            replace KL := Lib.hid (KL.out.next hb)
            replace Kx := Lib.hid (Kx.out.next hb)
            replace qx := Kx.out.cell
            replace RD0 := Lib.hid (RD0.out.next hb)
            replace Qx := Lib.hid (Qx.out.next hb)
            clear hb
            have tqx := (Kx.out.next (box_below W23 (.cells #[.slice Ay (bsA L3).length cy] 26))).cell
            have tqy := (KpC.new W23 (.slice Ay (bsA L3).length cy) 26).cell
            go_wp2_with fail
            have Ky : Hid (KpC W23.heap.size (.slice Ay (bsA L3).length cy) (W23.alloc (.cells #[.slice Ay (bsA L3).length cy] 26))) := Lib.hid (KpC.new _ _ _)
            have hb : Below W23.heap.size W23 (W23.alloc (.cells #[.slice Ay (bsA L3).length cy] 26)) := box_below _ _
            generalize W23.alloc (.cells #[.slice Ay (bsA L3).length cy] 26) = W24 at *
            replace KL := Lib.hid (KL.out.next hb)
            replace Kx := Lib.hid (Kx.out.next hb)
            replace qx := Kx.out.cell
            replace RD0 := Lib.hid (RD0.out.next hb)
            replace Qx := Lib.hid (Qx.out.next hb)
            replace Qy := Lib.hid (Qy.out.next hb)
            have qy := Ky.out.cell
            clear hb tqx tqy
            go_wp2_with fail
            refine (likeI _ _ (bsA L3) _ Qx.out Qy.out (by have := HBL.out; omega)).mono ?_
            rintro e W25 ⟨rfl, hb⟩
            replace KL := Lib.hid (KL.out.next hb)
            replace Kx := Lib.hid (Kx.out.next hb)
            replace qx := Kx.out.cell
            replace Ky := Lib.hid (Ky.out.next hb)
            replace qy := Ky.out.cell
            replace RD0 := Lib.hid (RD0.out.next hb)
            replace Qx := Lib.hid (Qx.out.next hb)
            replace Qy := Lib.hid (Qy.out.next hb)
            clear hb
            go_wp2_with fail
            refine (implIsSequence_any _ L3 _ RD0.out HN3.out HWF3.out).mono ?_
            rintro e W26 ⟨rfl, hb⟩
            rw [EI.out]
            replace KL := Lib.hid (KL.out.next hb)
            replace Kx := Lib.hid (Kx.out.next hb)
            replace qx := Kx.out.cell
            replace Ky := Lib.hid (Ky.out.next hb)
            replace qy := Ky.out.cell
            replace RD0 := Lib.hid (RD0.out.next hb)
            replace Qx := Lib.hid (Qx.out.next hb)
            replace Qy := Lib.hid (Qy.out.next hb)
            clear hb
            go_wp2_with fail
            refine (specIsSequence_any _ L3 _ RD0.out HN3.out HWF3.out).mono ?_
            rintro e W27 ⟨rfl, hb⟩
            rw [EI.out]
            replace KL := Lib.hid (KL.out.next hb)
            replace Kx := Lib.hid (Kx.out.next hb)
            replace qx := Kx.out.cell
            replace Ky := Lib.hid (Ky.out.next hb)
            replace qy := Ky.out.cell
            replace RD0 := Lib.hid (RD0.out.next hb)
            replace Qx := Lib.hid (Qx.out.next hb)
            replace Qy := Lib.hid (Qy.out.next hb)
            clear hb
            go_wp2_with fail
            refine (implIsSequence_any _ L3 _ RD0.out HN3.out HWF3.out).mono ?_
            rintro e W28 ⟨rfl, hb⟩
            rw [EI.out]
            replace KL := Lib.hid (KL.out.next hb)
            replace Kx := Lib.hid (Kx.out.next hb)
            replace qx := Kx.out.cell
            replace Ky := Lib.hid (Ky.out.next hb)
            replace qy := Ky.out.cell
            replace RD0 := Lib.hid (RD0.out.next hb)
            replace Qx := Lib.hid (Qx.out.next hb)
            replace Qy := Lib.hid (Qy.out.next hb)
            clear hb
            go_wp2_with fail
            go_ret
            exact ⟨rfl, KL.out.below⟩
      have hi0 : (0 : Int) ≤ (i : Int) := by omega
      have hi1 : (i : Int) < (N : Int) := by omega
      have d1 : wr.cell? ⟨go, i, none⟩ = some (.int .i64 (s[i]?.getD 0)) := by rw [hw.out]; exact HCC.out m i hlt
      have hr := HRG.out i hlt
      have p1 : IntKind.i64.wrap ((i : Int) + 1) = (i : Int) + 1 := IntWalk.i64_in _ (by omega)
      have hpx : 1 < s[i]?.getD 0 → ∃ k, i + 1 + k ≤ N ∧ psum s (i + 1) k = s[i]?.getD 0 := HPX.out i hlt
      have hone : M ≤ i → s[i]?.getD 0 = 1 := fun h => HON.out i h hlt
      obtain ⟨K, hK1, hK2⟩ : ∃ K, i + 1 + K ≤ N ∧ (1 < s[i]?.getD 0 → psum s (i + 1) K = s[i]?.getD 0) := by
        by_cases h1 : 1 < s[i]?.getD 0
        · obtain ⟨k, h2, h3⟩ := hpx h1; exact ⟨k, h2, fun _ => h3⟩
        · exact ⟨0, by omega, fun h => absurd h h1⟩
      clear hpx
      generalize hz : s[i]?.getD 0 = z at *
      have HK2 := Lib.hid hK2
      clear hK2
      have HDZ : Hid (∀ m, (W12.drewN m).cell? ⟨go, i, none⟩ = some (.int .i64 z)) := Lib.hid (fun m => by rw [← hz]; exact HCC.out m i hlt)
      have HSL : Hid (s.length = N) := HLE
      have hz2 := Lib.hid hz
      clear hz
      by_cases hMi : (M : Int) ≤ (i : Int)
      all_goals skip
      · have bM : decide ((M : Int) ≤ (i : Int)) = true := by simpa using hMi
        have hz9 := hone (by omega)
        have bz : (z == 1) = true := by simpa using hz9
        have bz2 : (z != 1) = false := by simpa using hz9
        clear hone hz9
        go_wp2_with fail
        clear bz bz2
        have HNQ := hw
        go_loopw [16, 17] (fun vt vj wr => ∃ (t j m : Nat) (u : Int), Hid (j = i + 1 + t) ∧ j ≤ N ∧ (0 ≤ u ∧ u ≤ 64 * (t : Int)) ∧ vt = .int .i64 u ∧ vj = .int .i64 j ∧ Hid (u = psum s (i + 1) t) ∧ (1 < z → t ≤ K) ∧ Hid (wr = W12.drewN m)) (fun _ vj _ => N - (intOf vj).toNat)
        case atStart => exact ⟨0, i + 1, _, 0, Lib.hid rfl, by omega, by omega, rfl, by go_num, Lib.hid rfl, fun _ => by omega, HNQ⟩
        case round =>
          clear HNQ hw d1
          obtain ⟨t, j, m2, u, HJ, ht, hu, rfl, rfl, HU, htk, hw⟩ := hrel
          have hjt := HJ.out
          by_cases hgo : j < N ∧ u < z
          rotate_left
          · have d1 := HDZ.out m2
            rw [← hw.out] at d1
            have hend : 1 < z → u = z := fun h => by
              have h1 := HK2.out h
              have h2 := htk h
              rcases Nat.lt_or_ge t K with h3 | h3
              · exfalso; have h4 := psum_lt (s := s) (a := i + 1) (fun j hj => (HRG.out j (by have := HSL.out; omega)).1) h3 (by have := HSL.out; omega)
                have h5 := HU.out; exact hgo ⟨by have := HSL.out; omega, by omega⟩
              · obtain rfl : t = K := by omega
                rw [HU.out, h1]
            by_cases hj1 : (j : Int) < (N : Int)
            · have b1 : decide ((j : Int) < (N : Int)) = true := by simpa using hj1
              have b2 : decide (u < z) = false := by simp; rcases Int.lt_or_le u z with h | h; (exact absurd ⟨by omega, h⟩ hgo); exact h
              by_cases hz1 : 1 < z
              · obtain rfl := hend hz1
                have b3 : decide (1 < u) = true := by simpa using hz1
                go_wp2_with fail
                refine ⟨⟨i + 1, m2, by omega, by go_num, hw⟩, ?_⟩
                simp [intOf]; omega
              · have b3 : decide (1 < z) = false := by simpa using hz1
                go_wp2_with fail
                refine ⟨⟨i + 1, m2, by omega, by go_num, hw⟩, ?_⟩
                simp [intOf]; omega
            · have b1 : decide ((j : Int) < (N : Int)) = false := by simp; omega
              by_cases hz1 : 1 < z
              · obtain rfl := hend hz1
                have b3 : decide (1 < u) = true := by simpa using hz1
                go_wp2_with fail
                refine ⟨⟨i + 1, m2, by omega, by go_num, hw⟩, ?_⟩
                simp [intOf]; omega
              · have b3 : decide (1 < z) = false := by simpa using hz1
                go_wp2_with fail
                refine ⟨⟨i + 1, m2, by omega, by go_num, hw⟩, ?_⟩
                simp [intOf]; omega
          obtain ⟨hj, huz⟩ := hgo
          have d1 := HDZ.out m2
          rw [← hw.out] at d1
          have d2 := HCC.out m2 j hj
          rw [← hw.out] at d2
          have hr2 := HRG.out j hj
          have b1 : decide ((j : Int) < (N : Int)) = true := by simp; omega
          have b2 : decide (u < z) = true := by simpa using huz
          have hps : psum s (i + 1) (t + 1) = u + s[j]?.getD 0 := by rw [HU.out, hjt]; rfl
          have hj0 : (0 : Int) ≤ (j : Int) := by omega
          have hj2 : (j : Int) < (N : Int) := by omega
          have htk2 : 1 < z → t + 1 ≤ K := fun h => by
            have h1 := HK2.out h
            have h2 := htk h
            rcases Nat.lt_or_ge t K with h3 | h3
            · exact h3
            · exfalso; obtain rfl : t = K := by omega
              have h5 := HU.out; omega
          generalize (s[j]?.getD 0 : Int) = y at *
          have HPS := Lib.hid hps.symm
          clear hps
          have p3 : IntKind.i64.wrap (u + y) = u + y := IntWalk.i64_in _ (by omega)
          have p4 : IntKind.i64.wrap ((j : Int) + 1) = (j : Int) + 1 := IntWalk.i64_in _ (by omega)
          clear hjt
          go_wp2_with fail
          go_roundw
          case rel => exact ⟨t + 1, j + 1, m2, u + y, Lib.hid (by have := HJ.out; omega), by omega, by omega, by go_num, by go_num, HPS, htk2, hw⟩
          case measure => simp [intOf]; omega
      · have bM : decide ((M : Int) ≤ (i : Int)) = false := by simpa using hMi
        clear hone
        go_wp2_with fail
        have HNQ := hw
        go_loopw [16, 17] (fun vt vj wr => ∃ (t j m : Nat) (u : Int), Hid (j = i + 1 + t) ∧ j ≤ N ∧ (0 ≤ u ∧ u ≤ 64 * (t : Int)) ∧ vt = .int .i64 u ∧ vj = .int .i64 j ∧ Hid (u = psum s (i + 1) t) ∧ (1 < z → t ≤ K) ∧ Hid (wr = W12.drewN m)) (fun _ vj _ => N - (intOf vj).toNat)
        case atStart => exact ⟨0, i + 1, _, 0, Lib.hid rfl, by omega, by omega, rfl, by go_num, Lib.hid rfl, fun _ => by omega, HNQ⟩
        case round =>
          clear HNQ hw d1
          obtain ⟨t, j, m2, u, HJ, ht, hu, rfl, rfl, HU, htk, hw⟩ := hrel
          have hjt := HJ.out
          by_cases hgo : j < N ∧ u < z
          rotate_left
          · have d1 := HDZ.out m2
            rw [← hw.out] at d1
            have hend : 1 < z → u = z := fun h => by
              have h1 := HK2.out h
              have h2 := htk h
              rcases Nat.lt_or_ge t K with h3 | h3
              · exfalso; have h4 := psum_lt (s := s) (a := i + 1) (fun j hj => (HRG.out j (by have := HSL.out; omega)).1) h3 (by have := HSL.out; omega)
                have h5 := HU.out; exact hgo ⟨by have := HSL.out; omega, by omega⟩
              · obtain rfl : t = K := by omega
                rw [HU.out, h1]
            by_cases hj1 : (j : Int) < (N : Int)
            · have b1 : decide ((j : Int) < (N : Int)) = true := by simpa using hj1
              have b2 : decide (u < z) = false := by simp; rcases Int.lt_or_le u z with h | h; (exact absurd ⟨by omega, h⟩ hgo); exact h
              by_cases hz1 : 1 < z
              · obtain rfl := hend hz1
                have b3 : decide (1 < u) = true := by simpa using hz1
                go_wp2_with fail
                refine ⟨⟨i + 1, m2, by omega, by go_num, hw⟩, ?_⟩
                simp [intOf]; omega
              · have b3 : decide (1 < z) = false := by simpa using hz1
                go_wp2_with fail
                refine ⟨⟨i + 1, m2, by omega, by go_num, hw⟩, ?_⟩
                simp [intOf]; omega
            · have b1 : decide ((j : Int) < (N : Int)) = false := by simp; omega
              by_cases hz1 : 1 < z
              · obtain rfl := hend hz1
                have b3 : decide (1 < u) = true := by simpa using hz1
                go_wp2_with fail
                refine ⟨⟨i + 1, m2, by omega, by go_num, hw⟩, ?_⟩
                simp [intOf]; omega
              · have b3 : decide (1 < z) = false := by simpa using hz1
                go_wp2_with fail
                refine ⟨⟨i + 1, m2, by omega, by go_num, hw⟩, ?_⟩
                simp [intOf]; omega
          obtain ⟨hj, huz⟩ := hgo
          have d1 := HDZ.out m2
          rw [← hw.out] at d1
          have d2 := HCC.out m2 j hj
          rw [← hw.out] at d2
          have hr2 := HRG.out j hj
          have b1 : decide ((j : Int) < (N : Int)) = true := by simp; omega
          have b2 : decide (u < z) = true := by simpa using huz
          have hps : psum s (i + 1) (t + 1) = u + s[j]?.getD 0 := by rw [HU.out, hjt]; rfl
          have hj0 : (0 : Int) ≤ (j : Int) := by omega
          have hj2 : (j : Int) < (N : Int) := by omega
          have htk2 : 1 < z → t + 1 ≤ K := fun h => by
            have h1 := HK2.out h
            have h2 := htk h
            rcases Nat.lt_or_ge t K with h3 | h3
            · exact h3
            · exfalso; obtain rfl : t = K := by omega
              have h5 := HU.out; omega
          generalize (s[j]?.getD 0 : Int) = y at *
          have HPS := Lib.hid hps.symm
          clear hps
          have p3 : IntKind.i64.wrap (u + y) = u + y := IntWalk.i64_in _ (by omega)
          have p4 : IntKind.i64.wrap ((j : Int) + 1) = (j : Int) + 1 := IntWalk.i64_in _ (by omega)
          clear hjt
          go_wp2_with fail
          go_roundw
          case rel => exact ⟨t + 1, j + 1, m2, u + y, Lib.hid (by have := HJ.out; omega), by omega, by omega, by go_num, by go_num, HPS, htk2, hw⟩
          case measure => simp [intOf]; omega
  generalize hC : lqC L x = C at *
  have EC := Lib.hid hC
  have hCb : (C == 0) = false := by simpa using hc
  clear hC hc
  go_wp2_with fail
  refine (implLongSequence_any _ L x _ RB0.out HN.out HWF.out HWX.out).mono ?_
  rintro e W3 ⟨v1, rfl, ho, hb⟩
  rw [EC.out]
  have Q1 := Lib.hid ho.reads
  obtain ⟨A1, c1, e1⟩ : ∃ A c, v1 = .slice A _ c := by obtain ⟨A, c, e, _⟩ := Q1.out; exact ⟨A, c, e⟩
  subst e1
  clear ho
  replace KL := Lib.hid (KL.out.next hb)
  replace Kb := Lib.hid (Kb.out.next hb)
  replace qb := Kb.out.cell
  replace RB0 := Lib.hid (RB0.out.next hb)
  clear hb
  go_wp2_with fail
  refine (specLongSequence_any _ L x _ RB0.out HN.out HWF.out HWX.out).mono ?_
  rintro e W4 ⟨v2, rfl, ho, hb⟩
  rw [EC.out]
  have Q2 := Lib.hid ho.reads
  obtain ⟨A2, c2, e2⟩ : ∃ A c, v2 = .slice A _ c := by obtain ⟨A, c, e, _⟩ := Q2.out; exact ⟨A, c, e⟩
  subst e2
  clear ho
  replace KL := Lib.hid (KL.out.next hb)
  replace Kb := Lib.hid (Kb.out.next hb)
  replace qb := Kb.out.cell
  replace RB0 := Lib.hid (RB0.out.next hb)
  replace Q1 := Lib.hid (Q1.out.next hb)
  clear hb
  go_wp2_with fail
  refine (likeI _ _ (lqA L x) _ Q1.out Q2.out (by have := HLL.out; omega)).mono ?_
  rintro e W5 ⟨rfl, hb⟩
  replace KL := Lib.hid (KL.out.next hb)
  replace Kb := Lib.hid (Kb.out.next hb)
  replace qb := Kb.out.cell
  replace RB0 := Lib.hid (RB0.out.next hb)
  replace Q1 := Lib.hid (Q1.out.next hb)
  replace Q2 := Lib.hid (Q2.out.next hb)
  clear hb
  have KL00 := KL
  go_wp2_with fail
  refine (DrawStrictTransform_any A n c _ KL.out.bytes hn).mono ?_
  rintro e W6 ⟨Ac, nc, cc, L2, rfl, hr, hge, hL, hb⟩
  have HSP2 := Lib.hid hL
  have RC0 := Lib.hid hr
  clear hr hge hL
  replace KL := Lib.hid (KL.out.next hb)
  clear hb
  have tqc := (KpC.new W6 (.slice Ac nc cc) 26).cell
  go_wp2_with fail
  have Kc : Hid (KpC W6.heap.size (.slice Ac nc cc) (W6.alloc (.cells #[.slice Ac nc cc] 26))) := Lib.hid (KpC.new _ _ _)
  have hb : Below W6.heap.size W6 (W6.alloc (.cells #[.slice Ac nc cc] 26)) := box_below _ _
  generalize W6.alloc (.cells #[.slice Ac nc cc] 26) = W7 at *
  replace KL := Lib.hid (KL.out.next hb)
  replace RC0 := Lib.hid (RC0.out.next hb)
  have qc := Kc.out.cell
  clear hb tqc
  have HN2 : Hid (L2.length ≤ 1048576) := Lib.hid (by have := HSP2.out.1; omega)
  have HWF2 := Lib.hid HSP2.out.wf
  have HSL2 : Hid ((stA L2).length ≤ 9223372036854775807) := Lib.hid (by have := stA_len L2; omega)
  by_cases hs6 : lqC L2 1 = 0
  · obtain ⟨R, J, hsx⟩ := SxOK.make hs6
    have HS := Lib.hid hsx
    have ES := Lib.hid hs6
    clear hsx hs6
    go_wp2_with fail
    refine (implStrictTransform_any _ L2 _ RC0.out HN2.out HWF2.out).mono ?_
    rintro e W8 ⟨v5, rfl, ho, hb⟩
    rw [ES.out]
    have Q5 := Lib.hid ho.reads
    obtain ⟨A5, c5, e5⟩ : ∃ A c, v5 = .slice A _ c := by obtain ⟨A, c, e, _⟩ := Q5.out; exact ⟨A, c, e⟩
    subst e5
    clear ho
    replace KL := Lib.hid (KL.out.next hb)
    replace Kc := Lib.hid (Kc.out.next hb)
    replace qc := Kc.out.cell
    replace RC0 := Lib.hid (RC0.out.next hb)
    clear hb
    have tqc := (Kc.out.next (box_below W8 (.cells #[.slice A5 (stA L2).length c5] 26))).cell
    have tqd := (KpC.new W8 (.slice A5 (stA L2).length c5) 26).cell
    go_wp2_with fail
    have Kd : Hid (KpC W8.heap.size (.slice A5 (stA L2).length c5) (W8.alloc (.cells #[.slice A5 (stA L2).length c5] 26))) := Lib.hid (KpC.new _ _ _)
    have hb : Below W8.heap.size W8 (W8.alloc (.cells #[.slice A5 (stA L2).length c5] 26)) := box_below _ _
    generalize W8.alloc (.cells #[.slice A5 (stA L2).length c5] 26) = W9 at *
    replace KL := Lib.hid (KL.out.next hb)
    replace Kc := Lib.hid (Kc.out.next hb)
    replace qc := Kc.out.cell
    replace RC0 := Lib.hid (RC0.out.next hb)
    replace Q5 := Lib.hid (Q5.out.next hb)
    have qd := Kd.out.cell
    clear hb tqc tqd
    go_wp2_with fail
    refine (specStrictTransform_any _ L2 _ RC0.out HN2.out HWF2.out).mono ?_
    rintro e W10 ⟨v6, rfl, ho, hb⟩
    rw [ES.out]
    have Q6 := Lib.hid ho.reads
    obtain ⟨A6, c6, e6⟩ : ∃ A c, v6 = .slice A _ c := by obtain ⟨A, c, e, _⟩ := Q6.out; exact ⟨A, c, e⟩
    subst e6
    clear ho
    replace KL := Lib.hid (KL.out.next hb)
    replace Kc := Lib.hid (Kc.out.next hb)
    replace qc := Kc.out.cell
    replace Kd := Lib.hid (Kd.out.next hb)
    replace qd := Kd.out.cell
    replace RC0 := Lib.hid (RC0.out.next hb)
    replace Q5 := Lib.hid (Q5.out.next hb)
    clear hb
    have tqc := (Kc.out.next (box_below W10 (.cells #[.slice A6 (stA L2).length c6] 26))).cell
    have tqd := (Kd.out.next (box_below W10 (.cells #[.slice A6 (stA L2).length c6] 26))).cell
    have tqe := (KpC.new W10 (.slice A6 (stA L2).length c6) 26).cell
    go_wp2_with fail
    have Ke : Hid (KpC W10.heap.size (.slice A6 (stA L2).length c6) (W10.alloc (.cells #[.slice A6 (stA L2).length c6] 26))) := Lib.hid (KpC.new _ _ _)
    have hb : Below W10.heap.size W10 (W10.alloc (.cells #[.slice A6 (stA L2).length c6] 26)) := box_below _ _
    generalize W10.alloc (.cells #[.slice A6 (stA L2).length c6] 26) = W11 at *
    replace KL := Lib.hid (KL.out.next hb)
    replace Kc := Lib.hid (Kc.out.next hb)
    replace qc := Kc.out.cell
    replace Kd := Lib.hid (Kd.out.next hb)
    replace qd := Kd.out.cell
    replace RC0 := Lib.hid (RC0.out.next hb)
    replace Q5 := Lib.hid (Q5.out.next hb)
    replace Q6 := Lib.hid (Q6.out.next hb)
    have qe := Ke.out.cell
    clear hb tqc tqd tqe
    go_wp2_with fail
    refine (likeI _ _ (stA L2) _ Q5.out Q6.out HSL2.out).mono ?_
    rintro e W12 ⟨rfl, hb⟩
    replace KL := Lib.hid (KL.out.next hb)
    replace Kc := Lib.hid (Kc.out.next hb)
    replace qc := Kc.out.cell
    replace Kd := Lib.hid (Kd.out.next hb)
    replace qd := Kd.out.cell
    replace Ke := Lib.hid (Ke.out.next hb)
    replace qe := Ke.out.cell
    replace RC0 := Lib.hid (RC0.out.next hb)
    replace Q5 := Lib.hid (Q5.out.next hb)
    replace Q6 := Lib.hid (Q6.out.next hb)
    clear hb
    go_wp2_with fail
    refine (implLongSequence_any _ L2 1 _ RC0.out HN2.out HWF2.out (i64_wf (by omega) (by omega))).mono ?_
    rintro e W13 ⟨v7, rfl, ho, hb⟩
    rw [ES.out]
    have Q7 := Lib.hid ho.reads
    obtain ⟨A7, c7, e7⟩ : ∃ A c, v7 = .slice A (R + 1) c := by obtain ⟨A, c, e, _⟩ := Q7.out; rw [HS.out.len] at e; exact ⟨A, c, e⟩
    subst e7
    obtain ⟨gw, e0, _, _, _, _⟩ := own_at ho HS.out.len (j := 0) (by omega)
    subst e0
    have hcw : R + 1 ≤ c7 := by obtain ⟨A', c', e7, _, _, h5, _, h6⟩ := Q7.out; rw [HS.out.len] at e7 h5; cases e7; exact h5
    obtain ⟨C7, rfl⟩ : ∃ C, c7 = C + 1 := ⟨c7 - 1, by omega⟩
    have RW := Lib.hid (own_tail ho HS.out.len)
    clear ho
    replace KL := Lib.hid (KL.out.next hb)
    replace Kc := Lib.hid (Kc.out.next hb)
    replace qc := Kc.out.cell
    replace Kd := Lib.hid (Kd.out.next hb)
    replace qd := Kd.out.cell
    replace Ke := Lib.hid (Ke.out.next hb)
    replace qe := Ke.out.cell
    replace RC0 := Lib.hid (RC0.out.next hb)
    replace Q5 := Lib.hid (Q5.out.next hb)
    replace Q6 := Lib.hid (Q6.out.next hb)
    clear hb
    go_wp2_with fail
    refine (implCountBranchPoints_any _ (stA L2) _ Q5.out (by have := HS.out.dl; omega) HS.out.dw).mono ?_
    rintro e W14 ⟨rfl, hb⟩
    rw [HS.out.sq, HS.out.cb]
    replace KL := Lib.hid (KL.out.next hb)
    replace Kc := Lib.hid (Kc.out.next hb)
    replace qc := Kc.out.cell
    replace Kd := Lib.hid (Kd.out.next hb)
    replace qd := Kd.out.cell
    replace Ke := Lib.hid (Ke.out.next hb)
    replace qe := Ke.out.cell
    replace RC0 := Lib.hid (RC0.out.next hb)
    replace Q5 := Lib.hid (Q5.out.next hb)
    replace Q6 := Lib.hid (Q6.out.next hb)
    replace Q7 := Lib.hid (Q7.out.next hb)
    replace RW := Lib.hid (RW.out.next hb)
    clear hb
    have hRn := HS.out.n
    have hJn := HS.out.jn
    have hC0 : ¬ C7 = 0 := by omega
    have q1 : IntKind.i64.wrap (((R + 1 : Nat) : Int) - 1) = (R : Int) := by rw [show ((R + 1 : Nat) : Int) - 1 = (R : Int) by omega]; exact IntWalk.i64_in _ (by omega)
    have q1b : IntKind.i64.wrap ((R : Int) + 1 - 1) = (R : Int) := by rw [show (R : Int) + 1 - 1 = (R : Int) by omega]; exact IntWalk.i64_in _ (by omega)
    have q2 : IntKind.i64.wrap ((R : Int) - ((R : Int) - (J : Int))) = (J : Int) := by rw [show (R : Int) - ((R : Int) - (J : Int)) = (J : Int) by omega]; exact IntWalk.i64_in _ (by omega)
    have q3 : (if 0 < (J : Int) then (J : Int) else 0) = (J : Int) := by split <;> omega
    have q4 : (if 0 < J then (J : Int) else 0) = (J : Int) := by split <;> omega
    have q5 : max 0 (J : Int) = (J : Int) := by omega
    have h1R : (1 : Int) ≤ (R : Int) + 1 := by omega
    have hdl : ((lqA L2 1).drop 1).length = R := by rw [List.length_drop, HS.out.len]; omega
    go_wp2_with fail
    refine (implLongSequence_any _ (stA L2) (J : Int) _ Q5.out (by have := HS.out.dl; omega) HS.out.dw (i64_wf (by omega) (by omega))).mono ?_
    rintro e W15 ⟨v8, rfl, ho, hb⟩
    rw [HS.out.lc]
    rw [HS.out.la] at ho
    have Q8 := Lib.hid ho.reads
    obtain ⟨A8, c8, e8⟩ : ∃ A c, v8 = .slice A R c := by obtain ⟨A, c, e, _⟩ := Q8.out; rw [hdl] at e; exact ⟨A, c, e⟩
    subst e8
    clear ho
    replace KL := Lib.hid (KL.out.next hb)
    replace Kc := Lib.hid (Kc.out.next hb)
    replace qc := Kc.out.cell
    replace Kd := Lib.hid (Kd.out.next hb)
    replace qd := Kd.out.cell
    replace Ke := Lib.hid (Ke.out.next hb)
    replace qe := Ke.out.cell
    replace RC0 := Lib.hid (RC0.out.next hb)
    replace Q5 := Lib.hid (Q5.out.next hb)
    replace Q6 := Lib.hid (Q6.out.next hb)
    replace Q7 := Lib.hid (Q7.out.next hb)
    replace RW := Lib.hid (RW.out.next hb)
    clear hb
    go_wp2_with fail
    refine (likeI _ _ ((lqA L2 1).drop 1) _ Q8.out RW.out (by rw [List.length_drop, HS.out.len]; omega)).mono ?_
    rintro e W16 ⟨rfl, hb⟩
    replace KL := Lib.hid (KL.out.next hb)
    replace Kc := Lib.hid (Kc.out.next hb)
    replace qc := Kc.out.cell
    replace Kd := Lib.hid (Kd.out.next hb)
    replace qd := Kd.out.cell
    replace Ke := Lib.hid (Ke.out.next hb)
    replace qe := Ke.out.cell
    replace RC0 := Lib.hid (RC0.out.next hb)
    replace Q5 := Lib.hid (Q5.out.next hb)
    replace Q6 := Lib.hid (Q6.out.next hb)
    replace Q7 := Lib.hid (Q7.out.next hb)
    replace RW := Lib.hid (RW.out.next hb)
    replace Q8 := Lib.hid (Q8.out.next hb)
    clear hb
    go_wp2_with fail
    refine (DrawBranchOfSequence_any A n c _ KL.out.bytes hn).mono ?_
    rintro e W17 ⟨Af, nf, cf, L3, rfl, hr, hL, hb⟩
    have HSP3 := Lib.hid hL
    have RD0 := Lib.hid hr
    clear hr hL
    replace KL := Lib.hid (KL.out.next hb)
    replace Kc := Lib.hid (Kc.out.next hb)
    replace qc := Kc.out.cell
    replace Kd := Lib.hid (Kd.out.next hb)
    replace qd := Kd.out.cell
    replace Ke := Lib.hid (Ke.out.next hb)
    replace qe := Ke.out.cell
    replace RC0 := Lib.hid (RC0.out.next hb)
    replace Q5 := Lib.hid (Q5.out.next hb)
    replace Q6 := Lib.hid (Q6.out.next hb)
    replace Q7 := Lib.hid (Q7.out.next hb)
    replace RW := Lib.hid (RW.out.next hb)
    replace Q8 := Lib.hid (Q8.out.next hb)
    clear hb
    have HN3 : Hid (L3.length ≤ 1048576) := Lib.hid (by have := HSP3.out.1; omega)
    have HWF3 := Lib.hid HSP3.out.wf
    have HBL := Lib.hid (bsA_len L3)
    have hiq : (isqB L3 = true ∧ bsC L3 = 0) ∨ (isqB L3 = false ∧ (bsC L3 = 2 ∨ bsC L3 = 5)) := by
      unfold isqB bsC
      cases sqlB L3 <;> cases bsB L3 <;> simp
    rcases hiq with ⟨h1, h2⟩ | ⟨h1, h2 | h2⟩
    · have EI := Lib.hid h1
      have EB := Lib.hid h2
      clear h1 h2
      go_wp2_with fail
      refine (implBranchOfSequence_any _ L3 _ RD0.out HN3.out HWF3.out).mono ?_
      rintro e W18 ⟨vx, rfl, ho, hb⟩
      rw [EB.out]
      have Qx := Lib.hid ho.reads
      obtain ⟨Ax, cx, ex⟩ : ∃ A c, vx = .slice A _ c := by obtain ⟨A, c, e, _⟩ := Qx.out; exact ⟨A, c, e⟩
      subst ex
      clear ho
      replace KL := Lib.hid (KL.out.next hb)
      replace RD0 := Lib.hid (RD0.out.next hb)
      clear hb
      have tqx := (KpC.new W18 (.slice Ax (bsA L3).length cx) 26).cell
      go_wp2_with fail
      have Kx : Hid (KpC W18.heap.size (.slice Ax (bsA L3).length cx) (W18.alloc (.cells #[.slice Ax (bsA L3).length cx] 26))) := Lib.hid (KpC.new _ _ _)
      have hb : Below W18.heap.size W18 (W18.alloc (.cells #[.slice Ax (bsA L3).length cx] 26)) := box_below _ _
      generalize W18.alloc (.cells #[.slice Ax (bsA L3).length cx] 26) = W19 at *
      replace KL := Lib.hid (KL.out.next hb)
      replace RD0 := Lib.hid (RD0.out.next hb)
      replace Qx := Lib.hid (Qx.out.next hb)
      have qx := Kx.out.cell
      clear hb tqx
      go_wp2_with fail
      refine (specBranchOfSequence_any _ L3 _ RD0.out HN3.out HWF3.out).mono ?_
      rintro e W20 ⟨vy, rfl, ho, hb⟩
      rw [EB.out]
      have Qy := Lib.hid ho.reads
      obtain ⟨Ay, cy, ey⟩ : ∃ A c, vy = .slice A _ c := by obtain ⟨A, c, e, _⟩ := Qy.out; exact ⟨A, c, e⟩
      subst ey
      clear ho
      replace KL := Lib.hid (KL.out.next hb)
      replace Kx := Lib.hid (Kx.out.next hb)
      replace qx := Kx.out.cell
      replace RD0 := Lib.hid (RD0.out.next hb)
      replace Qx := Lib.hid (Qx.out.next hb)
      clear hb
      have tqx := (Kx.out.next (box_below W20 (.cells #[.slice Ay (bsA L3).length cy] 26))).cell
      have tqy := (KpC.new W20 (.slice Ay (bsA L3).length cy) 26).cell
      go_wp2_with fail
      have Ky : Hid (KpC W20.heap.size (.slice Ay (bsA L3).length cy) (W20.alloc (.cells #[.slice Ay (bsA L3).length cy] 26))) := Lib.hid (KpC.new _ _ _)
      have hb : Below W20.heap.size W20 (W20.alloc (.cells #[.slice Ay (bsA L3).length cy] 26)) := box_below _ _
      generalize W20.alloc (.cells #[.slice Ay (bsA L3).length cy] 26) = W21 at *
      replace KL := Lib.hid (KL.out.next hb)
      replace Kx := Lib.hid (Kx.out.next hb)
      replace qx := Kx.out.cell
      replace RD0 := Lib.hid (RD0.out.next hb)
      replace Qx := Lib.hid (Qx.out.next hb)
      replace Qy := Lib.hid (Qy.out.next hb)
      have qy := Ky.out.cell
      clear hb tqx tqy
      go_wp2_with fail
      refine (likeI _ _ (bsA L3) _ Qx.out Qy.out (by have := HBL.out; omega)).mono ?_
      rintro e W22 ⟨rfl, hb⟩
      replace KL := Lib.hid (KL.out.next hb)
      replace Kx := Lib.hid (Kx.out.next hb)
      replace qx := Kx.out.cell
      replace Ky := Lib.hid (Ky.out.next hb)
      replace qy := Ky.out.cell
      replace RD0 := Lib.hid (RD0.out.next hb)
      replace Qx := Lib.hid (Qx.out.next hb)
      replace Qy := Lib.hid (Qy.out.next hb)
      clear hb
      go_wp2_with fail
      refine (implIsSequence_any _ L3 _ RD0.out HN3.out HWF3.out).mono ?_
      rintro e W23 ⟨rfl, hb⟩
      rw [EI.out]
      replace KL := Lib.hid (KL.out.next hb)
      replace Kx := Lib.hid (Kx.out.next hb)
      replace qx := Kx.out.cell
      replace Ky := Lib.hid (Ky.out.next hb)
      replace qy := Ky.out.cell
      replace RD0 := Lib.hid (RD0.out.next hb)
      replace Qx := Lib.hid (Qx.out.next hb)
      replace Qy := Lib.hid (Qy.out.next hb)
      clear hb
      go_wp2_with fail
      refine (specIsSequence_any _ L3 _ RD0.out HN3.out HWF3.out).mono ?_
      rintro e W24 ⟨rfl, hb⟩
      rw [EI.out]
      replace KL := Lib.hid (KL.out.next hb)
      replace Kx := Lib.hid (Kx.out.next hb)
      replace qx := Kx.out.cell
      replace Ky := Lib.hid (Ky.out.next hb)
      replace qy := Ky.out.cell
      replace RD0 := Lib.hid (RD0.out.next hb)
      replace Qx := Lib.hid (Qx.out.next hb)
      replace Qy := Lib.hid (Qy.out.next hb)
      clear hb
      go_wp2_with fail
      refine (implIsSequence_any _ L3 _ RD0.out HN3.out HWF3.out).mono ?_
      rintro e W25 ⟨rfl, hb⟩
      rw [EI.out]
      replace KL := Lib.hid (KL.out.next hb)
      replace Kx := Lib.hid (Kx.out.next hb)
      replace qx := Kx.out.cell
      replace Ky := Lib.hid (Ky.out.next hb)
      replace qy := Ky.out.cell
      replace RD0 := Lib.hid (RD0.out.next hb)
      replace Qx := Lib.hid (Qx.out.next hb)
      replace Qy := Lib.hid (Qy.out.next hb)
      clear hb
      go_wp2_with fail
      go_ret
      exact ⟨rfl, KL.out.below⟩
    · have EI := Lib.hid h1
      have EB := Lib.hid h2
      clear h1 h2
      go_wp2_with fail
      refine (implBranchOfSequence_any _ L3 _ RD0.out HN3.out HWF3.out).mono ?_
      rintro e W18 ⟨vx, rfl, ho, hb⟩
      rw [EB.out]
      have Qx := Lib.hid ho.reads
      obtain ⟨Ax, cx, ex⟩ : ∃ A c, vx = .slice A _ c := by obtain ⟨A, c, e, _⟩ := Qx.out; exact ⟨A, c, e⟩
      subst ex
      clear ho
      replace KL := Lib.hid (KL.out.next hb)
      replace RD0 := Lib.hid (RD0.out.next hb)
      clear hb
      have tqx := (KpC.new W18 (.slice Ax (bsA L3).length cx) 26).cell
      go_wp2_with fail
      have Kx : Hid (KpC W18.heap.size (.slice Ax (bsA L3).length cx) (W18.alloc (.cells #[.slice Ax (bsA L3).length cx] 26))) := Lib.hid (KpC.new _ _ _)
      have hb : Below W18.heap.size W18 (W18.alloc (.cells #[.slice Ax (bsA L3).length cx] 26)) := box_below _ _
      generalize W18.alloc (.cells #[.slice Ax (bsA L3).length cx] 26) = W19 at *
      replace KL := Lib.hid (KL.out.next hb)
      replace RD0 := Lib.hid (RD0.out.next hb)
      replace Qx := Lib.hid (Qx.out.next hb)
      have qx := Kx.out.cell
      clear hb tqx
      go_wp2_with fail
      refine (specBranchOfSequence_any _ L3 _ RD0.out HN3.out HWF3.out).mono ?_
      rintro e W20 ⟨vy, rfl, ho, hb⟩
      rw [EB.out]
      have Qy := Lib.hid ho.reads
      obtain ⟨Ay, cy, ey⟩ : ∃ A c, vy = .slice A _ c := by obtain ⟨A, c, e, _⟩ := Qy.out; exact ⟨A, c, e⟩
      subst ey
      clear ho
      replace KL := Lib.hid (KL.out.next hb)
      replace Kx := Lib.hid (Kx.out.next hb)
      replace qx := Kx.out.cell
      replace RD0 := Lib.hid (RD0.out.next hb)
      replace Qx := Lib.hid (Qx.out.next hb)
      clear hb
      have tqx := (Kx.out.next (box_below W20 (.cells #[.slice Ay (bsA L3).length cy] 26))).cell
      have tqy := (KpC.new W20 (.slice Ay (bsA L3).length cy) 26).cell
      go_wp2_with fail
      have Ky : Hid (KpC W20.heap.size (.slice Ay (bsA L3).length cy) (W20.alloc (.cells #[.slice Ay (bsA L3).length cy] 26))) := Lib.hid (KpC.new _ _ _)
      have hb : Below W20.heap.size W20 (W20.alloc (.cells #[.slice Ay (bsA L3).length cy] 26)) := box_below _ _
      generalize W20.alloc (.cells #[.slice Ay (bsA L3).length cy] 26) = W21 at *
      replace KL := Lib.hid (KL.out.next hb)
      replace Kx := Lib.hid (Kx.out.next hb)
      replace qx := Kx.out.cell
      replace RD0 := Lib.hid (RD0.out.next hb)
      replace Qx := Lib.hid (Qx.out.next hb)
      replace Qy := Lib.hid (Qy.out.next hb)
      have qy := Ky.out.cell
      clear hb tqx tqy
      go_wp2_with fail
      refine (likeI _ _ (bsA L3) _ Qx.out Qy.out (by have := HBL.out; omega)).mono ?_
      rintro e W22 ⟨rfl, hb⟩
      replace KL := Lib.hid (KL.out.next hb)
      replace Kx := Lib.hid (Kx.out.next hb)
      replace qx := Kx.out.cell
      replace Ky := Lib.hid (Ky.out.next hb)
      replace qy := Ky.out.cell
      replace RD0 := Lib.hid (RD0.out.next hb)
      replace Qx := Lib.hid (Qx.out.next hb)
      replace Qy := Lib.hid (Qy.out.next hb)
      clear hb
      go_wp2_with fail
      refine (implIsSequence_any _ L3 _ RD0.out HN3.out HWF3.out).mono ?_
      rintro e W23 ⟨rfl, hb⟩
      rw [EI.out]
      replace KL := Lib.hid (KL.out.next hb)
      replace Kx := Lib.hid (Kx.out.next hb)
      replace qx := Kx.out.cell
      replace Ky := Lib.hid (Ky.out.next hb)
      replace qy := Ky.out.cell
      replace RD0 := Lib.hid (RD0.out.next hb)
      replace Qx := Lib.hid (Qx.out.next hb)
      replace Qy := Lib.hid (Qy.out.next hb)
      clear hb
      go_wp2_with fail
      refine (specIsSequence_any _ L3 _ RD0.out HN3.out HWF3.out).mono ?_
      rintro e W24 ⟨rfl, hb⟩
      rw [EI.out]
      replace KL := Lib.hid (KL.out.next hb)
      replace Kx := Lib.hid (Kx.out.next hb)
      replace qx := Kx.out.cell
      replace Ky := Lib.hid (Ky.out.next hb)
      replace qy := Ky.out.cell
      replace RD0 := Lib.hid (RD0.out.next hb)
      replace Qx := Lib.hid (Qx.out.next hb)
      replace Qy := Lib.hid (Qy.out.next hb)
      clear hb
      go_wp2_with fail
      refine (implIsSequence_any _ L3 _ RD0.out HN3.out HWF3.out).mono ?_
      rintro e W25 ⟨rfl, hb⟩
      rw [EI.out]
      replace KL := Lib.hid (KL.out.next hb)
      replace Kx := Lib.hid (Kx.out.next hb)
      replace qx := Kx.out.cell
      replace Ky := Lib.hid (Ky.out.next hb)
      replace qy := Ky.out.cell
      replace RD0 := Lib.hid (RD0.out.next hb)
      replace Qx := Lib.hid (Qx.out.next hb)
      replace Qy := Lib.hid (Qy.out.next hb)
      clear hb
      go_wp2_with fail
      go_ret
      exact ⟨rfl, KL.out.below⟩
    · have EI := Lib.hid h1
      have EB := Lib.hid h2
      clear h1 h2
      go_wp2_with fail
      refine (implBranchOfSequence_any _ L3 _ RD0.out HN3.out HWF3.out).mono ?_
      rintro e W18 ⟨vx, rfl, ho, hb⟩
      rw [EB.out]
      have Qx := Lib.hid ho.reads
      obtain ⟨Ax, cx, ex⟩ : ∃ A c, vx = .slice A _ c := by obtain ⟨A, c, e, _⟩ := Qx.out; exact ⟨A, c, e⟩
      subst ex
      clear ho
      replace KL := Lib.hid (KL.out.next hb)
      replace RD0 := Lib.hid (RD0.out.next hb)
      clear hb
      have tqx := (KpC.new W18 (.slice Ax (bsA L3).length cx) 26).cell
      go_wp2_with fail
      have Kx : Hid (KpC W18.heap.size (.slice Ax (bsA L3).length cx) (W18.alloc (.cells #[.slice Ax (bsA L3).length cx] 26))) := Lib.hid (KpC.new _ _ _)
      have hb : Below W18.heap.size W18 (W18.alloc (.cells #[.slice Ax (bsA L3).length cx] 26)) := box_below _ _
      generalize W18.alloc (.cells #[.slice Ax (bsA L3).length cx] 26) = W19 at *
      replace KL := Lib.hid (KL.out.next hb)
      replace RD0 := Lib.hid (RD0.out.next hb)
      replace Qx := Lib.hid (Qx.out.next hb)
      have qx := Kx.out.cell
      clear hb tqx
      go_wp2_with fail
      refine (specBranchOfSequence_any _ L3 _ RD0.out HN3.out HWF3.out).mono ?_
      rintro e W20 ⟨vy, rfl, ho, hb⟩
      rw [EB.out]
      have Qy := Lib.hid ho.reads
      obtain ⟨Ay, cy, ey⟩ : ∃ A c, vy = .slice A _ c := by obtain ⟨A, c, e, _⟩ := Qy.out; exact ⟨A, c, e⟩
      subst ey
      clear ho
      replace KL := Lib.hid (KL.out.next hb)
      replace Kx := Lib.hid (Kx.out.next hb)
      replace qx := Kx.out.cell
      replace RD0 := Lib.hid (RD0.out.next hb)
      replace Qx := Lib.hid (Qx.out.next hb)
      clear hb
      have tqx := (Kx.out.next (box_below W20 (.cells #[.slice Ay (bsA L3).length cy] 26))).cell
      have tqy := (KpC.new W20 (.slice Ay (bsA L3).length cy) 26).cell
      go_wp2_with fail
      have Ky : Hid (KpC W20.heap.size (.slice Ay (bsA L3).length cy) (W20.alloc (.cells #[.slice Ay (bsA L3).length cy] 26))) := Lib.hid (KpC.new _ _ _)
      have hb : Below W20.heap.size W20 (W20.alloc (.cells #[.slice Ay (bsA L3).length cy] 26)) := box_below _ _
      generalize W20.alloc (.cells #[.slice Ay (bsA L3).length cy] 26) = W21 at *
      replace KL := Lib.hid (KL.out.next hb)
      replace Kx := Lib.hid (Kx.out.next hb)
      replace qx := Kx.out.cell
      replace RD0 := Lib.hid (RD0.out.next hb)
      replace Qx := Lib.hid (Qx.out.next hb)
      replace Qy := Lib.hid (Qy.out.next hb)
      have qy := Ky.out.cell
      clear hb tqx tqy
      go_wp2_with fail
      refine (likeI _ _ (bsA L3) _ Qx.out Qy.out (by have := HBL.out; omega)).mono ?_
      rintro e W22 ⟨rfl, hb⟩
      replace KL := Lib.hid (KL.out.next hb)
      replace Kx := Lib.hid (Kx.out.next hb)
      replace qx := Kx.out.cell
      replace Ky := Lib.hid (Ky.out.next hb)
      replace qy := Ky.out.cell
      replace RD0 := Lib.hid (RD0.out.next hb)
      replace Qx := Lib.hid (Qx.out.next hb)
      replace Qy := Lib.hid (Qy.out.next hb)
      clear hb
      go_wp2_with fail
      refine (implIsSequence_any _ L3 _ RD0.out HN3.out HWF3.out).mono ?_
      rintro e W23 ⟨rfl, hb⟩
      rw [EI.out]
      replace KL := Lib.hid (KL.out.next hb)
      replace Kx := Lib.hid (Kx.out.next hb)
      replace qx := Kx.out.cell
      replace Ky := Lib.hid (Ky.out.next hb)
      replace qy := Ky.out.cell
      replace RD0 := Lib.hid (RD0.out.next hb)
      replace Qx := Lib.hid (Qx.out.next hb)
      replace Qy := Lib.hid (Qy.out.next hb)
      clear hb
      go_wp2_with fail
      refine (specIsSequence_any _ L3 _ RD0.out HN3.out HWF3.out).mono ?_
      rintro e W24 ⟨rfl, hb⟩
      rw [EI.out]
      replace KL := Lib.hid (KL.out.next hb)
      replace Kx := Lib.hid (Kx.out.next hb)
      replace qx := Kx.out.cell
      replace Ky := Lib.hid (Ky.out.next hb)
      replace qy := Ky.out.cell
      replace RD0 := Lib.hid (RD0.out.next hb)
      replace Qx := Lib.hid (Qx.out.next hb)
      replace Qy := Lib.hid (Qy.out.next hb)
      clear hb
      go_wp2_with fail
      refine (implIsSequence_any _ L3 _ RD0.out HN3.out HWF3.out).mono ?_
      rintro e W25 ⟨rfl, hb⟩
      rw [EI.out]
      replace KL := Lib.hid (KL.out.next hb)
      replace Kx := Lib.hid (Kx.out.next hb)
      replace qx := Kx.out.cell
      replace Ky := Lib.hid (Ky.out.next hb)
      replace qy := Ky.out.cell
      replace RD0 := Lib.hid (RD0.out.next hb)
      replace Qx := Lib.hid (Qx.out.next hb)
      replace Qy := Lib.hid (Qy.out.next hb)
      clear hb
      go_wp2_with fail
      go_ret
      exact ⟨rfl, KL.out.below⟩
  · generalize hC2 : lqC L2 1 = C2 at *
    have ES := Lib.hid hC2
    have hCb2 : (C2 == 0) = false := by simpa using hs6
    clear hC2
    go_wp2_with fail
    refine (implStrictTransform_any _ L2 _ RC0.out HN2.out HWF2.out).mono ?_
    rintro e W8 ⟨v5, rfl, ho, hb⟩
    rw [ES.out]
    have Q5 := Lib.hid ho.reads
    obtain ⟨A5, c5, e5⟩ : ∃ A c, v5 = .slice A _ c := by obtain ⟨A, c, e, _⟩ := Q5.out; exact ⟨A, c, e⟩
    subst e5
    clear ho
    replace KL := Lib.hid (KL.out.next hb)
    replace Kc := Lib.hid (Kc.out.next hb)
    replace qc := Kc.out.cell
    replace RC0 := Lib.hid (RC0.out.next hb)
    clear hb
    have tqc := (Kc.out.next (box_below W8 (.cells #[.slice A5 (stA L2).length c5] 26))).cell
    have tqd := (KpC.new W8 (.slice A5 (stA L2).length c5) 26).cell
    go_wp2_with fail
    have Kd : Hid (KpC W8.heap.size (.slice A5 (stA L2).length c5) (W8.alloc (.cells #[.slice A5 (stA L2).length c5] 26))) := Lib.hid (KpC.new _ _ _)
    have hb : Below W8.heap.size W8 (W8.alloc (.cells #[.slice A5 (stA L2).length c5] 26)) := box_below _ _
    generalize W8.alloc (.cells #[.slice A5 (stA L2).length c5] 26) = W9 at *
    replace KL := Lib.hid (KL.out.next hb)
    replace Kc := Lib.hid (Kc.out.next hb)
    replace qc := Kc.out.cell
    replace RC0 := Lib.hid (RC0.out.next hb)
    replace Q5 := Lib.hid (Q5.out.next hb)
    have qd := Kd.out.cell
    clear hb tqc tqd
    go_wp2_with fail
    refine (specStrictTransform_any _ L2 _ RC0.out HN2.out HWF2.out).mono ?_
    rintro e W10 ⟨v6, rfl, ho, hb⟩
    rw [ES.out]
    have Q6 := Lib.hid ho.reads
    obtain ⟨A6, c6, e6⟩ : ∃ A c, v6 = .slice A _ c := by obtain ⟨A, c, e, _⟩ := Q6.out; exact ⟨A, c, e⟩
    subst e6
    clear ho
    replace KL := Lib.hid (KL.out.next hb)
    replace Kc := Lib.hid (Kc.out.next hb)
    replace qc := Kc.out.cell
    replace Kd := Lib.hid (Kd.out.next hb)
    replace qd := Kd.out.cell
    replace RC0 := Lib.hid (RC0.out.next hb)
    replace Q5 := Lib.hid (Q5.out.next hb)
    clear hb
    have tqc := (Kc.out.next (box_below W10 (.cells #[.slice A6 (stA L2).length c6] 26))).cell
    have tqd := (Kd.out.next (box_below W10 (.cells #[.slice A6 (stA L2).length c6] 26))).cell
    have tqe := (KpC.new W10 (.slice A6 (stA L2).length c6) 26).cell
    go_wp2_with fail
    have Ke : Hid (KpC W10.heap.size (.slice A6 (stA L2).length c6) (W10.alloc (.cells #[.slice A6 (stA L2).length c6] 26))) := Lib.hid (KpC.new _ _ _)
    have hb : Below W10.heap.size W10 (W10.alloc (.cells #[.slice A6 (stA L2).length c6] 26)) := box_below _ _
    generalize W10.alloc (.cells #[.slice A6 (stA L2).length c6] 26) = W11 at *
    replace KL := Lib.hid (KL.out.next hb)
    replace Kc := Lib.hid (Kc.out.next hb)
    replace qc := Kc.out.cell
    replace Kd := Lib.hid (Kd.out.next hb)
    replace qd := Kd.out.cell
    replace RC0 := Lib.hid (RC0.out.next hb)
    replace Q5 := Lib.hid (Q5.out.next hb)
    replace Q6 := Lib.hid (Q6.out.next hb)
    have qe := Ke.out.cell
    clear hb tqc tqd tqe
    go_wp2_with fail
    refine (likeI _ _ (stA L2) _ Q5.out Q6.out HSL2.out).mono ?_
    rintro e W12 ⟨rfl, hb⟩
    replace KL := Lib.hid (KL.out.next hb)
    replace Kc := Lib.hid (Kc.out.next hb)
    replace qc := Kc.out.cell
    replace Kd := Lib.hid (Kd.out.next hb)
    replace qd := Kd.out.cell
    replace Ke := Lib.hid (Ke.out.next hb)
    replace qe := Ke.out.cell
    replace RC0 := Lib.hid (RC0.out.next hb)
    replace Q5 := Lib.hid (Q5.out.next hb)
    replace Q6 := Lib.hid (Q6.out.next hb)
    clear hb
    go_wp2_with fail
    refine (DrawBranchOfSequence_any A n c _ KL.out.bytes hn).mono ?_
    rintro e W13 ⟨Af, nf, cf, L3, rfl, hr, hL, hb⟩
    have HSP3 := Lib.hid hL
    have RD0 := Lib.hid hr
    clear hr hL
    replace KL := Lib.hid (KL.out.next hb)
    replace Kc := Lib.hid (Kc.out.next hb)
    replace qc := Kc.out.cell
    replace Kd := Lib.hid (Kd.out.next hb)
    replace qd := Kd.out.cell
    replace Ke := Lib.hid (Ke.out.next hb)
    replace qe := Ke.out.cell
    replace RC0 := Lib.hid (RC0.out.next hb)
    replace Q5 := Lib.hid (Q5.out.next hb)
    replace Q6 := Lib.hid (Q6.out.next hb)
    clear hb
    have HN3 : Hid (L3.length ≤ 1048576) := Lib.hid (by have := HSP3.out.1; omega)
    have HWF3 := Lib.hid HSP3.out.wf
    have HBL := Lib.hid (bsA_len L3)
    have hiq : (isqB L3 = true ∧ bsC L3 = 0) ∨ (isqB L3 = false ∧ (bsC L3 = 2 ∨ bsC L3 = 5)) := by
      unfold isqB bsC
      cases sqlB L3 <;> cases bsB L3 <;> simp
    rcases hiq with ⟨h1, h2⟩ | ⟨h1, h2 | h2⟩
    · have EI := Lib.hid h1
      have EB := Lib.hid h2
      clear h1 h2
      go_wp2_with fail
      refine (implBranchOfSequence_any _ L3 _ RD0.out HN3.out HWF3.out).mono ?_
      rintro e W14 ⟨vx, rfl, ho, hb⟩
      rw [EB.out]
      have Qx := Lib.hid ho.reads
      obtain ⟨Ax, cx, ex⟩ : ∃ A c, vx = .slice A _ c := by obtain ⟨A, c, e, _⟩ := Qx.out; exact ⟨A, c, e⟩
      subst ex
      clear ho
      replace KL := Lib.hid (KL.out.next hb)
      replace RD0 := Lib.hid (RD0.out.next hb)
      clear hb
      have tqx := (KpC.new W14 (.slice Ax (bsA L3).length cx) 26).cell
      go_wp2_with fail
      have Kx : Hid (KpC W14.heap.size (.slice Ax (bsA L3).length cx) (W14.alloc (.cells #[.slice Ax (bsA L3).length cx] 26))) := Lib.hid (KpC.new _ _ _)
      have hb : Below W14.heap.size W14 (W14.alloc (.cells #[.slice Ax (bsA L3).length cx] 26)) := box_below _ _
      generalize W14.alloc (.cells #[.slice Ax (bsA L3).length cx] 26) = W15 at *
      replace KL := Lib.hid (KL.out.next hb)
      replace RD0 := Lib.hid (RD0.out.next hb)
      replace Qx := Lib.hid (Qx.out.next hb)
      have qx := Kx.out.cell
      clear hb tqx
      go_wp2_with fail
      refine (specBranchOfSequence_any _ L3 _ RD0.out HN3.out HWF3.out).mono ?_
      rintro e W16 ⟨vy, rfl, ho, hb⟩
      rw [EB.out]
      have Qy := Lib.hid ho.reads
      obtain ⟨Ay, cy, ey⟩ : ∃ A c, vy = .slice A _ c := by obtain ⟨A, c, e, _⟩ := Qy.out; exact ⟨A, c, e⟩
      subst ey
      clear ho
      replace KL := Lib.hid (KL.out.next hb)
      replace Kx := Lib.hid (Kx.out.next hb)
      replace qx := Kx.out.cell
      replace RD0 := Lib.hid (RD0.out.next hb)
      replace Qx := Lib.hid (Qx.out.next hb)
      clear hb
      have tqx := (Kx.out.next (box_below W16 (.cells #[.slice Ay (bsA L3).length cy] 26))).cell
      have tqy := (KpC.new W16 (.slice Ay (bsA L3).length cy) 26).cell
      go_wp2_with fail
      have Ky : Hid (KpC W16.heap.size (.slice Ay (bsA L3).length cy) (W16.alloc (.cells #[.slice Ay (bsA L3).length cy] 26))) := Lib.hid (KpC.new _ _ _)
      have hb : Below W16.heap.size W16 (W16.alloc (.cells #[.slice Ay (bsA L3).length cy] 26)) := box_below _ _
      generalize W16.alloc (.cells #[.slice Ay (bsA L3).length cy] 26) = W17 at *
      replace KL := Lib.hid (KL.out.next hb)
      replace Kx := Lib.hid (Kx.out.next hb)
      replace qx := Kx.out.cell
      replace RD0 := Lib.hid (RD0.out.next hb)
      replace Qx := Lib.hid (Qx.out.next hb)
      replace Qy := Lib.hid (Qy.out.next hb)
      have qy := Ky.out.cell
      clear hb tqx tqy
      go_wp2_with fail
      refine (likeI _ _ (bsA L3) _ Qx.out Qy.out (by have := HBL.out; omega)).mono ?_
      rintro e W18 ⟨rfl, hb⟩
      replace KL := Lib.hid (KL.out.next hb)
      replace Kx := Lib.hid (Kx.out.next hb)
      replace qx := Kx.out.cell
      replace Ky := Lib.hid (Ky.out.next hb)
      replace qy := Ky.out.cell
      replace RD0 := Lib.hid (RD0.out.next hb)
      replace Qx := Lib.hid (Qx.out.next hb)
      replace Qy := Lib.hid (Qy.out.next hb)
      clear hb
      go_wp2_with fail
      refine (implIsSequence_any _ L3 _ RD0.out HN3.out HWF3.out).mono ?_
      rintro e W19 ⟨rfl, hb⟩
      rw [EI.out]
      replace KL := Lib.hid (KL.out.next hb)
      replace Kx := Lib.hid (Kx.out.next hb)
      replace qx := Kx.out.cell
      replace Ky := Lib.hid (Ky.out.next hb)
      replace qy := Ky.out.cell
      replace RD0 := Lib.hid (RD0.out.next hb)
      replace Qx := Lib.hid (Qx.out.next hb)
      replace Qy := Lib.hid (Qy.out.next hb)
      clear hb
      go_wp2_with fail
      refine (specIsSequence_any _ L3 _ RD0.out HN3.out HWF3.out).mono ?_
      rintro e W20 ⟨rfl, hb⟩
      rw [EI.out]
      replace KL := Lib.hid (KL.out.next hb)
      replace Kx := Lib.hid (Kx.out.next hb)
      replace qx := Kx.out.cell
      replace Ky := Lib.hid (Ky.out.next hb)
      replace qy := Ky.out.cell
      replace RD0 := Lib.hid (RD0.out.next hb)
      replace Qx := Lib.hid (Qx.out.next hb)
      replace Qy := Lib.hid (Qy.out.next hb)
      clear hb
      go_wp2_with fail
      refine (implIsSequence_any _ L3 _ RD0.out HN3.out HWF3.out).mono ?_
      rintro e W21 ⟨rfl, hb⟩
      rw [EI.out]
      replace KL := Lib.hid (KL.out.next hb)
      replace Kx := Lib.hid (Kx.out.next hb)
      replace qx := Kx.out.cell
      replace Ky := Lib.hid (Ky.out.next hb)
      replace qy := Ky.out.cell
      replace RD0 := Lib.hid (RD0.out.next hb)
      replace Qx := Lib.hid (Qx.out.next hb)
      replace Qy := Lib.hid (Qy.out.next hb)
      clear hb
      go_wp2_with fail
      go_ret
      exact ⟨rfl, KL.out.below⟩
    · have EI := Lib.hid h1
      have EB := Lib.hid h2
      clear h1 h2
      go_wp2_with fail
      refine (implBranchOfSequence_any _ L3 _ RD0.out HN3.out HWF3.out).mono ?_
      rintro e W14 ⟨vx, rfl, ho, hb⟩
      rw [EB.out]
      have Qx := Lib.hid ho.reads
      obtain ⟨Ax, cx, ex⟩ : ∃ A c, vx = .slice A _ c := by obtain ⟨A, c, e, _⟩ := Qx.out; exact ⟨A, c, e⟩
      subst ex
      clear ho
      replace KL := Lib.hid (KL.out.next hb)
      replace RD0 := Lib.hid (RD0.out.next hb)
      clear hb
      have tqx := (KpC.new W14 (.slice Ax (bsA L3).length cx) 26).cell
      go_wp2_with fail
      have Kx : Hid (KpC W14.heap.size (.slice Ax (bsA L3).length cx) (W14.alloc (.cells #[.slice Ax (bsA L3).length cx] 26))) := Lib.hid (KpC.new _ _ _)
      have hb : Below W14.heap.size W14 (W14.alloc (.cells #[.slice Ax (bsA L3).length cx] 26)) := box_below _ _
      generalize W14.alloc (.cells #[.slice Ax (bsA L3).length cx] 26) = W15 at *
      replace KL := Lib.hid (KL.out.next hb)
      replace RD0 := Lib.hid (RD0.out.next hb)
      replace Qx := Lib.hid (Qx.out.next hb)
      have qx := Kx.out.cell
      clear hb tqx
      go_wp2_with fail
      refine (specBranchOfSequence_any _ L3 _ RD0.out HN3.out HWF3.out).mono ?_
      rintro e W16 ⟨vy, rfl, ho, hb⟩
      rw [EB.out]
      have Qy := Lib.hid ho.reads
      obtain ⟨Ay, cy, ey⟩ : ∃ A c, vy = .slice A _ c := by obtain ⟨A, c, e, _⟩ := Qy.out; exact ⟨A, c, e⟩
      subst ey
      clear ho
      replace KL := Lib.hid (KL.out.next hb)
      replace Kx := Lib.hid (Kx.out.next hb)
      replace qx := Kx.out.cell
      replace RD0 := Lib.hid (RD0.out.next hb)
      replace Qx := Lib.hid (Qx.out.next hb)
      clear hb
      have tqx := (Kx.out.next (box_below W16 (.cells #[.slice Ay (bsA L3).length cy] 26))).cell
      have tqy := (KpC.new W16 (.slice Ay (bsA L3).length cy) 26).cell
      go_wp2_with fail
      have Ky : Hid (KpC W16.heap.size (.slice Ay (bsA L3).length cy) (W16.alloc (.cells #[.slice Ay (bsA L3).length cy] 26))) := Lib.hid (KpC.new _ _ _)
      have hb : Below W16.heap.size W16 (W16.alloc (.cells #[.slice Ay (bsA L3).length cy] 26)) := box_below _ _
      generalize W16.alloc (.cells #[.slice Ay (bsA L3).length cy] 26) = W17 at *
      replace KL := Lib.hid (KL.out.next hb)
      replace Kx := Lib.hid (Kx.out.next hb)
      replace qx := Kx.out.cell
      replace RD0 := Lib.hid (RD0.out.next hb)
      replace Qx := Lib.hid (Qx.out.next hb)
      replace Qy := Lib.hid (Qy.out.next hb)
      have qy := Ky.out.cell
      clear hb tqx tqy
      go_wp2_with fail
      refine (likeI _ _ (bsA L3) _ Qx.out Qy.out (by have := HBL.out; omega)).mono ?_
      rintro e W18 ⟨rfl, hb⟩
      replace KL := Lib.hid (KL.out.next hb)
      replace Kx := Lib.hid (Kx.out.next hb)
      replace qx := Kx.out.cell
      replace Ky := Lib.hid (Ky.out.next hb)
      replace qy := Ky.out.cell
      replace RD0 := Lib.hid (RD0.out.next hb)
      replace Qx := Lib.hid (Qx.out.next hb)
      replace Qy := Lib.hid (Qy.out.next hb)
      clear hb
      go_wp2_with fail
      refine (implIsSequence_any _ L3 _ RD0.out HN3.out HWF3.out).mono ?_
      rintro e W19 ⟨rfl, hb⟩
      rw [EI.out]
      replace KL := Lib.hid (KL.out.next hb)
      replace Kx := Lib.hid (Kx.out.next hb)
      replace qx := Kx.out.cell
      replace Ky := Lib.hid (Ky.out.next hb)
      replace qy := Ky.out.cell
      replace RD0 := Lib.hid (RD0.out.next hb)
      replace Qx := Lib.hid (Qx.out.next hb)
      replace Qy := Lib.hid (Qy.out.next hb)
      clear hb
      go_wp2_with fail
      refine (specIsSequence_any _ L3 _ RD0.out HN3.out HWF3.out).mono ?_
      rintro e W20 ⟨rfl, hb⟩
      rw [EI.out]
      replace KL := Lib.hid (KL.out.next hb)
      replace Kx := Lib.hid (Kx.out.next hb)
      replace qx := Kx.out.cell
      replace Ky := Lib.hid (Ky.out.next hb)
      replace qy := Ky.out.cell
      replace RD0 := Lib.hid (RD0.out.next hb)
      replace Qx := Lib.hid (Qx.out.next hb)
      replace Qy := Lib.hid (Qy.out.next hb)
      clear hb
      go_wp2_with fail
      refine (implIsSequence_any _ L3 _ RD0.out HN3.out HWF3.out).mono ?_
      rintro e W21 ⟨rfl, hb⟩
      rw [EI.out]
      replace KL := Lib.hid (KL.out.next hb)
      replace Kx := Lib.hid (Kx.out.next hb)
      replace qx := Kx.out.cell
      replace Ky := Lib.hid (Ky.out.next hb)
      replace qy := Ky.out.cell
      replace RD0 := Lib.hid (RD0.out.next hb)
      replace Qx := Lib.hid (Qx.out.next hb)
      replace Qy := Lib.hid (Qy.out.next hb)
      clear hb
      go_wp2_with fail
      go_ret
      exact ⟨rfl, KL.out.below⟩
    · have EI := Lib.hid h1
      have EB := Lib.hid h2
      clear h1 h2
      go_wp2_with fail
      refine (implBranchOfSequence_any _ L3 _ RD0.out HN3.out HWF3.out).mono ?_
      rintro e W14 ⟨vx, rfl, ho, hb⟩
      rw [EB.out]
      have Qx := Lib.hid ho.reads
      obtain ⟨Ax, cx, ex⟩ : ∃ A c, vx = .slice A _ c := by obtain ⟨A, c, e, _⟩ := Qx.out; exact ⟨A, c, e⟩
      subst ex
      clear ho
      replace KL := Lib.hid (KL.out.next hb)
      replace RD0 := Lib.hid (RD0.out.next hb)
      clear hb
      have tqx := (KpC.new W14 (.slice Ax (bsA L3).length cx) 26).cell
      go_wp2_with fail
      have Kx : Hid (KpC W14.heap.size (.slice Ax (bsA L3).length cx) (W14.alloc (.cells #[.slice Ax (bsA L3).length cx] 26))) := Lib.hid (KpC.new _ _ _)
      have hb : Below W14.heap.size W14 (W14.alloc (.cells #[.slice Ax (bsA L3).length cx] 26)) := box_below _ _
      generalize W14.alloc (.cells #[.slice Ax (bsA L3).length cx] 26) = W15 at *
      replace KL := Lib.hid (KL.out.next hb)
      replace RD0 := Lib.hid (RD0.out.next hb)
      replace Qx := Lib.hid (Qx.out.next hb)
      have qx := Kx.out.cell
      clear hb tqx
      go_wp2_with fail
      refine (specBranchOfSequence_any _ L3 _ RD0.out HN3.out HWF3.out).mono ?_
      rintro e W16 ⟨vy, rfl, ho, hb⟩
      rw [EB.out]
      have Qy := Lib.hid ho.reads
      obtain ⟨Ay, cy, ey⟩ : ∃ A c, vy = .slice A _ c := by obtain ⟨A, c, e, _⟩ := Qy.out; exact ⟨A, c, e⟩
      subst ey
      clear ho
      replace KL := Lib.hid (KL.out.next hb)
      replace Kx := Lib.hid (Kx.out.next hb)
      replace qx := Kx.out.cell
      replace RD0 := Lib.hid (RD0.out.next hb)
      replace Qx := Lib.hid (Qx.out.next hb)
      clear hb
      have tqx := (Kx.out.next (box_below W16 (.cells #[.slice Ay (bsA L3).length cy] 26))).cell
      have tqy := (KpC.new W16 (.slice Ay (bsA L3).length cy) 26).cell
      go_wp2_with fail
      have Ky : Hid (KpC W16.heap.size (.slice Ay (bsA L3).length cy) (W16.alloc (.cells #[.slice Ay (bsA L3).length cy] 26))) := Lib.hid (KpC.new _ _ _)
      have hb : Below W16.heap.size W16 (W16.alloc (.cells #[.slice Ay (bsA L3).length cy] 26)) := box_below _ _
      generalize W16.alloc (.cells #[.slice Ay (bsA L3).length cy] 26) = W17 at *
      replace KL := Lib.hid (KL.out.next hb)
      replace Kx := Lib.hid (Kx.out.next hb)
      replace qx := Kx.out.cell
      replace RD0 := Lib.hid (RD0.out.next hb)
      replace Qx := Lib.hid (Qx.out.next hb)
      replace Qy := Lib.hid (Qy.out.next hb)
      have qy := Ky.out.cell
      clear hb tqx tqy
      go_wp2_with fail
      refine (likeI _ _ (bsA L3) _ Qx.out Qy.out (by have := HBL.out; omega)).mono ?_
      rintro e W18 ⟨rfl, hb⟩
      replace KL := Lib.hid (KL.out.next hb)
      replace Kx := Lib.hid (Kx.out.next hb)
      replace qx := Kx.out.cell
      replace Ky := Lib.hid (Ky.out.next hb)
      replace qy := Ky.out.cell
      replace RD0 := Lib.hid (RD0.out.next hb)
      replace Qx := Lib.hid (Qx.out.next hb)
      replace Qy := Lib.hid (Qy.out.next hb)
      clear hb
      go_wp2_with fail
      refine (implIsSequence_any _ L3 _ RD0.out HN3.out HWF3.out).mono ?_
      rintro e W19 ⟨rfl, hb⟩
      rw [EI.out]
      replace KL := Lib.hid (KL.out.next hb)
      replace Kx := Lib.hid (Kx.out.next hb)
      replace qx := Kx.out.cell
      replace Ky := Lib.hid (Ky.out.next hb)
      replace qy := Ky.out.cell
      replace RD0 := Lib.hid (RD0.out.next hb)
      replace Qx := Lib.hid (Qx.out.next hb)
      replace Qy := Lib.hid (Qy.out.next hb)
      clear hb
      go_wp2_with fail
      refine (specIsSequence_any _ L3 _ RD0.out HN3.out HWF3.out).mono ?_
      rintro e W20 ⟨rfl, hb⟩
      rw [EI.out]
      replace KL := Lib.hid (KL.out.next hb)
      replace Kx := Lib.hid (Kx.out.next hb)
      replace qx := Kx.out.cell
      replace Ky := Lib.hid (Ky.out.next hb)
      replace qy := Ky.out.cell
      replace RD0 := Lib.hid (RD0.out.next hb)
      replace Qx := Lib.hid (Qx.out.next hb)
      replace Qy := Lib.hid (Qy.out.next hb)
      clear hb
      go_wp2_with fail
      refine (implIsSequence_any _ L3 _ RD0.out HN3.out HWF3.out).mono ?_
      rintro e W21 ⟨rfl, hb⟩
      rw [EI.out]
      replace KL := Lib.hid (KL.out.next hb)
      replace Kx := Lib.hid (Kx.out.next hb)
      replace qx := Kx.out.cell
      replace Ky := Lib.hid (Ky.out.next hb)
      replace qy := Ky.out.cell
      replace RD0 := Lib.hid (RD0.out.next hb)
      replace Qx := Lib.hid (Qx.out.next hb)
      replace Qy := Lib.hid (Qy.out.next hb)
      clear hb
      go_wp2_with fail
      go_ret
      exact ⟨rfl, KL.out.below⟩

set_option maxRecDepth 100000 in
theorem FnSequences_lifted (os : Os) (started : os.Started) (H : Type) (enc : TypeId × Value → H) :
    ReturnsInHanded {} Try.checked os 3 .any (Rows.fnSequencesSpec.pre6 enc Try.prog Try.f3 Rows.fnSequencesRow.domain false) (Rows.fnSequencesSpec.post enc Try.prog Try.f3 false true false false) := by
  refine returnsInHanded_of_change (C := Try.checked) Try.own started (by kernel_rfl) Try.func3
    (ChangeSpec.witness6 (enc := enc) (C := Try.checked) false ⟨#[], #[.slice none 0 0], []⟩ 8 (by kernel_rfl) (by kernel_rfl) (by kernel_rfl) (by kernel_rfl)) ?_
  intro W base args ds gs before hval0 hW hcnd _
  have hval : ∀ (j : Nat) t v, Try.f3.params[j]? = some t → args[j]? = some v → Value.okWide Try.prog W .any base t v := hval0
  have hW' := hW
  have hltW : ∀ x ∈ before, x.block < W.heap.size := fun x hx => by simpa using hW'.lt x hx
  obtain ⟨p, q, hA0, hV, rfl, hfz, hnd⟩ := hW
  have hA : DataW.TrodAll enc Try.prog W 0 (fun _ => true) true Try.f3.params.toList args.toList ds p := hA0
  rw [Try.params3] at hA hval
  obtain ⟨v0, vs0, d0, ds0, p0, q0, hargs, rfl, rfl, h0, r0⟩ := trodAll_cons hA
  obtain ⟨rfl, rfl, rfl⟩ := trodAll_nil r0
  obtain rfl : args = #[v0] := by cases args; simp_all
  obtain ⟨rfl, rfl⟩ := trodVars_none hV
  obtain ⟨A0, n0, c0, rfl, hr0, hn0⟩ := open_row_bytes (B := W.heap.size) (hval 0 22 v0 rfl rfl) h0 (fun x hx => hltW x (by simp [hx]))
  refine (FnSequences_walk A0 n0 c0 W hr0 hn0).mono fun e W' ⟨he, hb⟩ => ?_
  subst he
  exact ⟨_, rfl, law_post (tb := 4) Try.laidOut (by kernel_rfl) rfl Try.underlying4 rfl rfl hW' hb⟩

/-- The given statement. -/
theorem fnSequences_proved : Rows.FnSequencesSaid :=
  OpenClaim.holds_of_wide 3 Try.f3 rfl rfl rfl rfl rfl rfl rfl ⟨rfl, rfl, rfl, rfl, rfl⟩ rfl rfl rfl rfl rfl (by kernel_rfl) Try.func3 (by kernel_rfl)
    (of_decide_eq_true (by kernel_rfl)) (by unfold Func.isWrapper; first | (rw [if_pos (by decide +kernel)]; kernel_rfl) | (rw [if_neg (by decide +kernel)]; exact ⟨rfl, rfl⟩))
    (fun os started H enc _ => FnSequences_lifted os started H enc)
end Go.Proofs.Ytjgidalmgoifgaa
