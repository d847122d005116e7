/- laws.FnSemigroups: it returns true and leaves old memory as it was. Condition: the bytes read. -/
import Derived.Test.YtjgidalmgoifgaaFnSg
import Derived.Test.YtjgidalmgoifgaaFnH
import Derived.Test.YtjgidalmgoifgaaDrG
import Derived.Test.YtjgidalmgoifgaaDice
import Derived.Test.YtjgidalmgoifgaaZE
namespace Go.Proofs.Ytjgidalmgoifgaa
open Go.ChangeShapes Go.WideShapes Go.ChangeAt Go.RowKit Go.Deep
set_option linter.unusedVariables false
set_option linter.unusedSimpArgs false

set_option maxRecDepth 100000 in
set_option maxHeartbeats 8000000 in
theorem FnSemigroups_walk (A : Option Addr) (n c : Nat) (w : World) (hr : RB w w.heap.size A n) (hn : n ≤ 9223372036854775807) :
    Calls Try.prog 5 #[.slice A n c] w fun e w' => e = .returned (.bool true) ∧ Below w.heap.size w w' := by
  have KL : Hid (KpL w A n w) := Lib.hid ⟨hr, Below.refl _ _⟩
  clear hr
  rcases (show (4096 : Int) < (n : Int) ∨ (n : Int) ≤ 4096 by omega) with hn4 | hn4
  · go_enter Try.func5, Try.ntmps5
    go_wp2_with fail
    refine (bigF_any A n c _ hn).mono ?_
    rintro e w' ⟨rfl, rfl⟩
    go_wp2_with fail
    go_ret
    exact ⟨rfl, Below.refl _ _⟩
  go_enter Try.func5, Try.ntmps5
  go_wp2_with fail
  refine (bigF_any A n c _ hn).mono ?_
  rintro e w' ⟨rfl, rfl⟩
  go_wp2_with fail
  refine (DrawGapsOf_any A n c _ KL.out.bytes hn).mono ?_
  rintro e W1 ⟨Ab, nb, cb, L, rfl, hr, hge, hL, hb⟩
  have HSP := Lib.hid hL
  have RB0 := Lib.hid hr
  clear hr hge hL
  replace KL := Lib.hid (KL.out.next hb)
  clear hb
  have tqb := (KpC.new W1 (.slice Ab nb cb) 26).cell
  go_wp2_with fail
  have Kb : Hid (KpC W1.heap.size (.slice Ab nb cb) (W1.alloc (.cells #[.slice Ab nb cb] 26))) := Lib.hid (KpC.new _ _ _)
  have hb : Below W1.heap.size W1 (W1.alloc (.cells #[.slice Ab nb cb] 26)) := box_below _ _
  generalize W1.alloc (.cells #[.slice Ab nb cb] 26) = W2 at *
  replace KL := Lib.hid (KL.out.next hb)
  replace RB0 := Lib.hid (RB0.out.next hb)
  have qb := Kb.out.cell
  clear hb tqb
  have HN : Hid (L.length ≤ 1048576) := Lib.hid (by have := HSP.out.1; omega)
  have HWF := Lib.hid HSP.out.wf
  have HRL : Hid ((gpA L).length ≤ 1099511627776) := Lib.hid (gpA_len L)
  rcases gp_cases L with ⟨hp, hc⟩ | ⟨hp, hc⟩ | ⟨hp, hc⟩
  · have EC := Lib.hid hc
    clear hp hc
    go_wp2_with fail
    refine (implGapsOf_any _ L _ RB0.out HN.out HWF.out).mono ?_
    rintro e W3 ⟨v1, rfl, ho, hb⟩
    rw [EC.out]
    have Q1 := Lib.hid ho.reads
    obtain ⟨A1, c1, e1⟩ : ∃ A c, v1 = .slice A _ c := by obtain ⟨A, c, e, _⟩ := Q1.out; exact ⟨A, c, e⟩
    subst e1
    clear ho
    replace KL := Lib.hid (KL.out.next hb)
    replace Kb := Lib.hid (Kb.out.next hb)
    replace qb := Kb.out.cell
    replace RB0 := Lib.hid (RB0.out.next hb)
    clear hb
    go_wp2_with fail
    refine (specGapsOf_any _ L _ RB0.out HN.out HWF.out).mono ?_
    rintro e W4 ⟨v2, rfl, ho, hb⟩
    rw [EC.out]
    have Q2 := Lib.hid ho.reads
    obtain ⟨A2, c2, e2⟩ : ∃ A c, v2 = .slice A _ c := by obtain ⟨A, c, e, _⟩ := Q2.out; exact ⟨A, c, e⟩
    subst e2
    clear ho
    replace KL := Lib.hid (KL.out.next hb)
    replace Kb := Lib.hid (Kb.out.next hb)
    replace qb := Kb.out.cell
    replace RB0 := Lib.hid (RB0.out.next hb)
    replace Q1 := Lib.hid (Q1.out.next hb)
    clear hb
    go_wp2_with fail
    refine (likeI _ _ (gpA L) _ Q1.out Q2.out (by have := HRL.out; omega)).mono ?_
    rintro e W5 ⟨rfl, hb⟩
    replace KL := Lib.hid (KL.out.next hb)
    replace Kb := Lib.hid (Kb.out.next hb)
    replace qb := Kb.out.cell
    replace RB0 := Lib.hid (RB0.out.next hb)
    replace Q1 := Lib.hid (Q1.out.next hb)
    replace Q2 := Lib.hid (Q2.out.next hb)
    clear hb
    go_wp2_with fail
    refine (DrawBranchOfGenerators_any A n c _ KL.out.bytes hn).mono ?_
    rintro e W6 ⟨Ac, nc, cc, L2, rfl, hr, hL, hb⟩
    have HSP2 := Lib.hid hL
    have RC0 := Lib.hid hr
    clear hr hL
    replace KL := Lib.hid (KL.out.next hb)
    replace Kb := Lib.hid (Kb.out.next hb)
    replace qb := Kb.out.cell
    replace RB0 := Lib.hid (RB0.out.next hb)
    replace Q1 := Lib.hid (Q1.out.next hb)
    replace Q2 := Lib.hid (Q2.out.next hb)
    clear hb
    have HN2 : Hid (L2.length ≤ 1048576) := Lib.hid (by have := HSP2.out.1; omega)
    have HWF2 := Lib.hid HSP2.out.wf
    have HBL : Hid ((bgA L2).length ≤ 9223372036854775807) := Lib.hid (by have := bgA_len HN2.out; omega)
    by_cases hbg : bgC L2 = 0
    · have EG := Lib.hid hbg
      have HBK := Lib.hid (bg_back hbg)
      clear hbg
      go_wp2_with fail
      refine (implBranchOfGenerators_any _ L2 _ RC0.out HN2.out HWF2.out).mono ?_
      rintro e W7 ⟨v5, rfl, ho, hb⟩
      rw [EG.out]
      have Q5 := Lib.hid ho.reads
      obtain ⟨A5, c5, e5⟩ : ∃ A c, v5 = .slice A _ c := by obtain ⟨A, c, e, _⟩ := Q5.out; exact ⟨A, c, e⟩
      subst e5
      clear ho
      replace KL := Lib.hid (KL.out.next hb)
      replace Kb := Lib.hid (Kb.out.next hb)
      replace qb := Kb.out.cell
      replace RB0 := Lib.hid (RB0.out.next hb)
      replace Q1 := Lib.hid (Q1.out.next hb)
      replace Q2 := Lib.hid (Q2.out.next hb)
      replace RC0 := Lib.hid (RC0.out.next hb)
      clear hb
      have tqb := (Kb.out.next (box_below W7 (.cells #[.slice A5 (bgA L2).length c5] 26))).cell
      have tqx := (KpC.new W7 (.slice A5 (bgA L2).length c5) 26).cell
      go_wp2_with fail
      have Kx : Hid (KpC W7.heap.size (.slice A5 (bgA L2).length c5) (W7.alloc (.cells #[.slice A5 (bgA L2).length c5] 26))) := Lib.hid (KpC.new _ _ _)
      have hb : Below W7.heap.size W7 (W7.alloc (.cells #[.slice A5 (bgA L2).length c5] 26)) := box_below _ _
      generalize W7.alloc (.cells #[.slice A5 (bgA L2).length c5] 26) = W8 at *
      replace KL := Lib.hid (KL.out.next hb)
      replace Kb := Lib.hid (Kb.out.next hb)
      replace qb := Kb.out.cell
      replace RB0 := Lib.hid (RB0.out.next hb)
      replace Q1 := Lib.hid (Q1.out.next hb)
      replace Q2 := Lib.hid (Q2.out.next hb)
      replace RC0 := Lib.hid (RC0.out.next hb)
      replace Q5 := Lib.hid (Q5.out.next hb)
      have qx := Kx.out.cell
      clear hb tqb tqx
      go_wp2_with fail
      refine (specBranchOfGenerators_any _ L2 _ RC0.out HN2.out HWF2.out).mono ?_
      rintro e W9 ⟨v6, rfl, ho, hb⟩
      rw [EG.out]
      have Q6 := Lib.hid ho.reads
      obtain ⟨A6, c6, e6⟩ : ∃ A c, v6 = .slice A _ c := by obtain ⟨A, c, e, _⟩ := Q6.out; exact ⟨A, c, e⟩
      subst e6
      clear ho
      replace KL := Lib.hid (KL.out.next hb)
      replace Kb := Lib.hid (Kb.out.next hb)
      replace qb := Kb.out.cell
      replace Kx := Lib.hid (Kx.out.next hb)
      replace qx := Kx.out.cell
      replace RB0 := Lib.hid (RB0.out.next hb)
      replace Q1 := Lib.hid (Q1.out.next hb)
      replace Q2 := Lib.hid (Q2.out.next hb)
      replace RC0 := Lib.hid (RC0.out.next hb)
      replace Q5 := Lib.hid (Q5.out.next hb)
      clear hb
      have tqb := (Kb.out.next (box_below W9 (.cells #[.slice A6 (bgA L2).length c6] 26))).cell
      have tqx := (Kx.out.next (box_below W9 (.cells #[.slice A6 (bgA L2).length c6] 26))).cell
      have tqy := (KpC.new W9 (.slice A6 (bgA L2).length c6) 26).cell
      go_wp2_with fail
      have Ky : Hid (KpC W9.heap.size (.slice A6 (bgA L2).length c6) (W9.alloc (.cells #[.slice A6 (bgA L2).length c6] 26))) := Lib.hid (KpC.new _ _ _)
      have hb : Below W9.heap.size W9 (W9.alloc (.cells #[.slice A6 (bgA L2).length c6] 26)) := box_below _ _
      generalize W9.alloc (.cells #[.slice A6 (bgA L2).length c6] 26) = W10 at *
      replace KL := Lib.hid (KL.out.next hb)
      replace Kb := Lib.hid (Kb.out.next hb)
      replace qb := Kb.out.cell
      replace Kx := Lib.hid (Kx.out.next hb)
      replace qx := Kx.out.cell
      replace RB0 := Lib.hid (RB0.out.next hb)
      replace Q1 := Lib.hid (Q1.out.next hb)
      replace Q2 := Lib.hid (Q2.out.next hb)
      replace RC0 := Lib.hid (RC0.out.next hb)
      replace Q5 := Lib.hid (Q5.out.next hb)
      replace Q6 := Lib.hid (Q6.out.next hb)
      have qy := Ky.out.cell
      clear hb tqb tqx tqy
      go_wp2_with fail
      refine (likeI _ _ (bgA L2) _ Q5.out Q6.out HBL.out).mono ?_
      rintro e W11 ⟨rfl, hb⟩
      replace KL := Lib.hid (KL.out.next hb)
      replace Kb := Lib.hid (Kb.out.next hb)
      replace qb := Kb.out.cell
      replace Kx := Lib.hid (Kx.out.next hb)
      replace qx := Kx.out.cell
      replace Ky := Lib.hid (Ky.out.next hb)
      replace qy := Ky.out.cell
      replace RB0 := Lib.hid (RB0.out.next hb)
      replace Q1 := Lib.hid (Q1.out.next hb)
      replace Q2 := Lib.hid (Q2.out.next hb)
      replace RC0 := Lib.hid (RC0.out.next hb)
      replace Q5 := Lib.hid (Q5.out.next hb)
      replace Q6 := Lib.hid (Q6.out.next hb)
      clear hb
      go_wp2_with fail
      refine (implGeneratorsOf_any _ (bgA L2) _ Q5.out (by have := HBK.out.2.2.1; omega) HBK.out.2.2.2).mono ?_
      rintro e W12 ⟨v7, rfl, ho, hb⟩
      rw [HBK.out.2.1]
      rw [HBK.out.1] at ho
      have Q7 := Lib.hid ho.reads
      obtain ⟨A7, c7, e7⟩ : ∃ A c, v7 = .slice A _ c := by obtain ⟨A, c, e, _⟩ := Q7.out; exact ⟨A, c, e⟩
      subst e7
      clear ho
      replace KL := Lib.hid (KL.out.next hb)
      replace Kb := Lib.hid (Kb.out.next hb)
      replace qb := Kb.out.cell
      replace Kx := Lib.hid (Kx.out.next hb)
      replace qx := Kx.out.cell
      replace Ky := Lib.hid (Ky.out.next hb)
      replace qy := Ky.out.cell
      replace RB0 := Lib.hid (RB0.out.next hb)
      replace Q1 := Lib.hid (Q1.out.next hb)
      replace Q2 := Lib.hid (Q2.out.next hb)
      replace RC0 := Lib.hid (RC0.out.next hb)
      replace Q5 := Lib.hid (Q5.out.next hb)
      replace Q6 := Lib.hid (Q6.out.next hb)
      clear hb
      go_wp2_with fail
      refine (likeI _ _ L2 _ Q7.out RC0.out (by have := HN2.out; omega)).mono ?_
      rintro e W13 ⟨rfl, hb⟩
      replace KL := Lib.hid (KL.out.next hb)
      replace Kb := Lib.hid (Kb.out.next hb)
      replace qb := Kb.out.cell
      replace Kx := Lib.hid (Kx.out.next hb)
      replace qx := Kx.out.cell
      replace Ky := Lib.hid (Ky.out.next hb)
      replace qy := Ky.out.cell
      replace RB0 := Lib.hid (RB0.out.next hb)
      replace Q1 := Lib.hid (Q1.out.next hb)
      replace Q2 := Lib.hid (Q2.out.next hb)
      replace RC0 := Lib.hid (RC0.out.next hb)
      replace Q5 := Lib.hid (Q5.out.next hb)
      replace Q6 := Lib.hid (Q6.out.next hb)
      replace Q7 := Lib.hid (Q7.out.next hb)
      clear hb
      go_wp2_with fail
      go_ret
      exact ⟨rfl, KL.out.below⟩
    · generalize hC : bgC L2 = C at *
      have EG := Lib.hid hC
      have hCb : (C == 0) = false := by simpa using hbg
      clear hC
      go_wp2_with fail
      refine (implBranchOfGenerators_any _ L2 _ RC0.out HN2.out HWF2.out).mono ?_
      rintro e W7 ⟨v5, rfl, ho, hb⟩
      rw [EG.out]
      have Q5 := Lib.hid ho.reads
      obtain ⟨A5, c5, e5⟩ : ∃ A c, v5 = .slice A _ c := by obtain ⟨A, c, e, _⟩ := Q5.out; exact ⟨A, c, e⟩
      subst e5
      clear ho
      replace KL := Lib.hid (KL.out.next hb)
      replace Kb := Lib.hid (Kb.out.next hb)
      replace qb := Kb.out.cell
      replace RB0 := Lib.hid (RB0.out.next hb)
      replace Q1 := Lib.hid (Q1.out.next hb)
      replace Q2 := Lib.hid (Q2.out.next hb)
      replace RC0 := Lib.hid (RC0.out.next hb)
      clear hb
      have tqb := (Kb.out.next (box_below W7 (.cells #[.slice A5 (bgA L2).length c5] 26))).cell
      have tqx := (KpC.new W7 (.slice A5 (bgA L2).length c5) 26).cell
      go_wp2_with fail
      have Kx : Hid (KpC W7.heap.size (.slice A5 (bgA L2).length c5) (W7.alloc (.cells #[.slice A5 (bgA L2).length c5] 26))) := Lib.hid (KpC.new _ _ _)
      have hb : Below W7.heap.size W7 (W7.alloc (.cells #[.slice A5 (bgA L2).length c5] 26)) := box_below _ _
      generalize W7.alloc (.cells #[.slice A5 (bgA L2).length c5] 26) = W8 at *
      replace KL := Lib.hid (KL.out.next hb)
      replace Kb := Lib.hid (Kb.out.next hb)
      replace qb := Kb.out.cell
      replace RB0 := Lib.hid (RB0.out.next hb)
      replace Q1 := Lib.hid (Q1.out.next hb)
      replace Q2 := Lib.hid (Q2.out.next hb)
      replace RC0 := Lib.hid (RC0.out.next hb)
      replace Q5 := Lib.hid (Q5.out.next hb)
      have qx := Kx.out.cell
      clear hb tqb tqx
      go_wp2_with fail
      refine (specBranchOfGenerators_any _ L2 _ RC0.out HN2.out HWF2.out).mono ?_
      rintro e W9 ⟨v6, rfl, ho, hb⟩
      rw [EG.out]
      have Q6 := Lib.hid ho.reads
      obtain ⟨A6, c6, e6⟩ : ∃ A c, v6 = .slice A _ c := by obtain ⟨A, c, e, _⟩ := Q6.out; exact ⟨A, c, e⟩
      subst e6
      clear ho
      replace KL := Lib.hid (KL.out.next hb)
      replace Kb := Lib.hid (Kb.out.next hb)
      replace qb := Kb.out.cell
      replace Kx := Lib.hid (Kx.out.next hb)
      replace qx := Kx.out.cell
      replace RB0 := Lib.hid (RB0.out.next hb)
      replace Q1 := Lib.hid (Q1.out.next hb)
      replace Q2 := Lib.hid (Q2.out.next hb)
      replace RC0 := Lib.hid (RC0.out.next hb)
      replace Q5 := Lib.hid (Q5.out.next hb)
      clear hb
      have tqb := (Kb.out.next (box_below W9 (.cells #[.slice A6 (bgA L2).length c6] 26))).cell
      have tqx := (Kx.out.next (box_below W9 (.cells #[.slice A6 (bgA L2).length c6] 26))).cell
      have tqy := (KpC.new W9 (.slice A6 (bgA L2).length c6) 26).cell
      go_wp2_with fail
      have Ky : Hid (KpC W9.heap.size (.slice A6 (bgA L2).length c6) (W9.alloc (.cells #[.slice A6 (bgA L2).length c6] 26))) := Lib.hid (KpC.new _ _ _)
      have hb : Below W9.heap.size W9 (W9.alloc (.cells #[.slice A6 (bgA L2).length c6] 26)) := box_below _ _
      generalize W9.alloc (.cells #[.slice A6 (bgA L2).length c6] 26) = W10 at *
      replace KL := Lib.hid (KL.out.next hb)
      replace Kb := Lib.hid (Kb.out.next hb)
      replace qb := Kb.out.cell
      replace Kx := Lib.hid (Kx.out.next hb)
      replace qx := Kx.out.cell
      replace RB0 := Lib.hid (RB0.out.next hb)
      replace Q1 := Lib.hid (Q1.out.next hb)
      replace Q2 := Lib.hid (Q2.out.next hb)
      replace RC0 := Lib.hid (RC0.out.next hb)
      replace Q5 := Lib.hid (Q5.out.next hb)
      replace Q6 := Lib.hid (Q6.out.next hb)
      have qy := Ky.out.cell
      clear hb tqb tqx tqy
      go_wp2_with fail
      refine (likeI _ _ (bgA L2) _ Q5.out Q6.out HBL.out).mono ?_
      rintro e W11 ⟨rfl, hb⟩
      replace KL := Lib.hid (KL.out.next hb)
      replace Kb := Lib.hid (Kb.out.next hb)
      replace qb := Kb.out.cell
      replace Kx := Lib.hid (Kx.out.next hb)
      replace qx := Kx.out.cell
      replace Ky := Lib.hid (Ky.out.next hb)
      replace qy := Ky.out.cell
      replace RB0 := Lib.hid (RB0.out.next hb)
      replace Q1 := Lib.hid (Q1.out.next hb)
      replace Q2 := Lib.hid (Q2.out.next hb)
      replace RC0 := Lib.hid (RC0.out.next hb)
      replace Q5 := Lib.hid (Q5.out.next hb)
      replace Q6 := Lib.hid (Q6.out.next hb)
      clear hb
      go_wp2_with fail
      go_ret
      exact ⟨rfl, KL.out.below⟩
  · have EC := Lib.hid hc
    have HP := Lib.hid hp.1
    clear hp hc
    go_wp2_with fail
    refine (implGapsOf_any _ L _ RB0.out HN.out HWF.out).mono ?_
    rintro e W3 ⟨v1, rfl, ho, hb⟩
    rw [EC.out]
    have Q1 := Lib.hid ho.reads
    obtain ⟨A1, c1, e1⟩ : ∃ A c, v1 = .slice A _ c := by obtain ⟨A, c, e, _⟩ := Q1.out; exact ⟨A, c, e⟩
    subst e1
    clear ho
    replace KL := Lib.hid (KL.out.next hb)
    replace Kb := Lib.hid (Kb.out.next hb)
    replace qb := Kb.out.cell
    replace RB0 := Lib.hid (RB0.out.next hb)
    clear hb
    go_wp2_with fail
    refine (specGapsOf_any _ L _ RB0.out HN.out HWF.out).mono ?_
    rintro e W4 ⟨v2, rfl, ho, hb⟩
    rw [EC.out]
    have Q2 := Lib.hid ho.reads
    obtain ⟨A2, c2, e2⟩ : ∃ A c, v2 = .slice A _ c := by obtain ⟨A, c, e, _⟩ := Q2.out; exact ⟨A, c, e⟩
    subst e2
    clear ho
    replace KL := Lib.hid (KL.out.next hb)
    replace Kb := Lib.hid (Kb.out.next hb)
    replace qb := Kb.out.cell
    replace RB0 := Lib.hid (RB0.out.next hb)
    replace Q1 := Lib.hid (Q1.out.next hb)
    clear hb
    go_wp2_with fail
    refine (likeI _ _ (gpA L) _ Q1.out Q2.out (by have := HRL.out; omega)).mono ?_
    rintro e W5 ⟨rfl, hb⟩
    replace KL := Lib.hid (KL.out.next hb)
    replace Kb := Lib.hid (Kb.out.next hb)
    replace qb := Kb.out.cell
    replace RB0 := Lib.hid (RB0.out.next hb)
    replace Q1 := Lib.hid (Q1.out.next hb)
    replace Q2 := Lib.hid (Q2.out.next hb)
    clear hb
    have HGO := Lib.hid (GapOK.make HP.out)
    go_wp2_with fail
    refine (implGeneratorsOf_any _ L _ RB0.out HN.out HWF.out).mono ?_
    rintro e W6 ⟨v3, rfl, ho, hb⟩
    rw [HGO.out.g]
    have Q3 := Lib.hid ho.reads
    obtain ⟨A3, c3, e3⟩ : ∃ A c, v3 = .slice A _ c := by obtain ⟨A, c, e, _⟩ := Q3.out; exact ⟨A, c, e⟩
    subst e3
    clear ho
    replace KL := Lib.hid (KL.out.next hb)
    replace Kb := Lib.hid (Kb.out.next hb)
    replace qb := Kb.out.cell
    replace RB0 := Lib.hid (RB0.out.next hb)
    replace Q1 := Lib.hid (Q1.out.next hb)
    replace Q2 := Lib.hid (Q2.out.next hb)
    clear hb
    go_wp2_with fail
    refine (implBranchOfGenerators_any _ (goA L) _ Q3.out (by have := HGO.out.gl; omega) HGO.out.gw).mono ?_
    rintro e W7 ⟨v4, rfl, ho, hb⟩
    rw [HGO.out.bc]
    rw [HGO.out.ba] at ho
    have Q4 := Lib.hid ho.reads
    obtain ⟨A4, c4, e4⟩ : ∃ A c, v4 = .slice A _ c := by obtain ⟨A, c, e, _⟩ := Q4.out; exact ⟨A, c, e⟩
    subst e4
    clear ho
    replace KL := Lib.hid (KL.out.next hb)
    replace Kb := Lib.hid (Kb.out.next hb)
    replace qb := Kb.out.cell
    replace RB0 := Lib.hid (RB0.out.next hb)
    replace Q1 := Lib.hid (Q1.out.next hb)
    replace Q2 := Lib.hid (Q2.out.next hb)
    replace Q3 := Lib.hid (Q3.out.next hb)
    clear hb
    have tqb := (Kb.out.next (box_below W7 (.cells #[.slice A4 L.length c4] 26))).cell
    have tqk := (KpC.new W7 (.slice A4 L.length c4) 26).cell
    go_wp2_with fail
    have Kk : Hid (KpC W7.heap.size (.slice A4 L.length c4) (W7.alloc (.cells #[.slice A4 L.length c4] 26))) := Lib.hid (KpC.new _ _ _)
    have hb : Below W7.heap.size W7 (W7.alloc (.cells #[.slice A4 L.length c4] 26)) := box_below _ _
    generalize W7.alloc (.cells #[.slice A4 L.length c4] 26) = W8 at *
    replace KL := Lib.hid (KL.out.next hb)
    replace Kb := Lib.hid (Kb.out.next hb)
    replace qb := Kb.out.cell
    replace RB0 := Lib.hid (RB0.out.next hb)
    replace Q1 := Lib.hid (Q1.out.next hb)
    replace Q2 := Lib.hid (Q2.out.next hb)
    replace Q3 := Lib.hid (Q3.out.next hb)
    replace Q4 := Lib.hid (Q4.out.next hb)
    have qk := Kk.out.cell
    clear hb tqb tqk
    go_wp2_with fail
    refine (implConductorOf_any _ L _ RB0.out HN.out HWF.out).mono ?_
    rintro e W9 ⟨rfl, hb⟩
    rw [HGO.out.g]
    replace KL := Lib.hid (KL.out.next hb)
    replace Kb := Lib.hid (Kb.out.next hb)
    replace qb := Kb.out.cell
    replace Kk := Lib.hid (Kk.out.next hb)
    replace qk := Kk.out.cell
    replace RB0 := Lib.hid (RB0.out.next hb)
    replace Q1 := Lib.hid (Q1.out.next hb)
    replace Q2 := Lib.hid (Q2.out.next hb)
    replace Q3 := Lib.hid (Q3.out.next hb)
    replace Q4 := Lib.hid (Q4.out.next hb)
    clear hb
    go_wp2_with fail
    refine (implMilnorOfBranch_any _ L _ RB0.out HN.out HWF.out).mono ?_
    rintro e W10 ⟨rfl, hb⟩
    rw [HGO.out.m, HGO.out.mu]
    replace KL := Lib.hid (KL.out.next hb)
    replace Kb := Lib.hid (Kb.out.next hb)
    replace qb := Kb.out.cell
    replace Kk := Lib.hid (Kk.out.next hb)
    replace qk := Kk.out.cell
    replace RB0 := Lib.hid (RB0.out.next hb)
    replace Q1 := Lib.hid (Q1.out.next hb)
    replace Q2 := Lib.hid (Q2.out.next hb)
    replace Q3 := Lib.hid (Q3.out.next hb)
    replace Q4 := Lib.hid (Q4.out.next hb)
    clear hb
    go_wp2_with fail
    refine (likeI _ _ L _ Q4.out RB0.out (by have := HN.out; omega)).mono ?_
    rintro e W11 ⟨rfl, hb⟩
    replace KL := Lib.hid (KL.out.next hb)
    replace Kb := Lib.hid (Kb.out.next hb)
    replace qb := Kb.out.cell
    replace Kk := Lib.hid (Kk.out.next hb)
    replace qk := Kk.out.cell
    replace RB0 := Lib.hid (RB0.out.next hb)
    replace Q1 := Lib.hid (Q1.out.next hb)
    replace Q2 := Lib.hid (Q2.out.next hb)
    replace Q3 := Lib.hid (Q3.out.next hb)
    replace Q4 := Lib.hid (Q4.out.next hb)
    clear hb
    go_wp2_with fail
    refine (DrawBranchOfGenerators_any A n c _ KL.out.bytes hn).mono ?_
    rintro e W12 ⟨Ac, nc, cc, L2, rfl, hr, hL, hb⟩
    have HSP2 := Lib.hid hL
    have RC0 := Lib.hid hr
    clear hr hL
    replace KL := Lib.hid (KL.out.next hb)
    replace Kb := Lib.hid (Kb.out.next hb)
    replace qb := Kb.out.cell
    replace Kk := Lib.hid (Kk.out.next hb)
    replace qk := Kk.out.cell
    replace RB0 := Lib.hid (RB0.out.next hb)
    replace Q1 := Lib.hid (Q1.out.next hb)
    replace Q2 := Lib.hid (Q2.out.next hb)
    replace Q3 := Lib.hid (Q3.out.next hb)
    replace Q4 := Lib.hid (Q4.out.next hb)
    clear hb
    have HN2 : Hid (L2.length ≤ 1048576) := Lib.hid (by have := HSP2.out.1; omega)
    have HWF2 := Lib.hid HSP2.out.wf
    have HBL : Hid ((bgA L2).length ≤ 9223372036854775807) := Lib.hid (by have := bgA_len HN2.out; omega)
    by_cases hbg : bgC L2 = 0
    · have EG := Lib.hid hbg
      have HBK := Lib.hid (bg_back hbg)
      clear hbg
      go_wp2_with fail
      refine (implBranchOfGenerators_any _ L2 _ RC0.out HN2.out HWF2.out).mono ?_
      rintro e W13 ⟨v5, rfl, ho, hb⟩
      rw [EG.out]
      have Q5 := Lib.hid ho.reads
      obtain ⟨A5, c5, e5⟩ : ∃ A c, v5 = .slice A _ c := by obtain ⟨A, c, e, _⟩ := Q5.out; exact ⟨A, c, e⟩
      subst e5
      clear ho
      replace KL := Lib.hid (KL.out.next hb)
      replace Kb := Lib.hid (Kb.out.next hb)
      replace qb := Kb.out.cell
      replace Kk := Lib.hid (Kk.out.next hb)
      replace qk := Kk.out.cell
      replace RB0 := Lib.hid (RB0.out.next hb)
      replace Q1 := Lib.hid (Q1.out.next hb)
      replace Q2 := Lib.hid (Q2.out.next hb)
      replace Q3 := Lib.hid (Q3.out.next hb)
      replace Q4 := Lib.hid (Q4.out.next hb)
      replace RC0 := Lib.hid (RC0.out.next hb)
      clear hb
      have tqb := (Kb.out.next (box_below W13 (.cells #[.slice A5 (bgA L2).length c5] 26))).cell
      have tqk := (Kk.out.next (box_below W13 (.cells #[.slice A5 (bgA L2).length c5] 26))).cell
      have tqx := (KpC.new W13 (.slice A5 (bgA L2).length c5) 26).cell
      go_wp2_with fail
      have Kx : Hid (KpC W13.heap.size (.slice A5 (bgA L2).length c5) (W13.alloc (.cells #[.slice A5 (bgA L2).length c5] 26))) := Lib.hid (KpC.new _ _ _)
      have hb : Below W13.heap.size W13 (W13.alloc (.cells #[.slice A5 (bgA L2).length c5] 26)) := box_below _ _
      generalize W13.alloc (.cells #[.slice A5 (bgA L2).length c5] 26) = W14 at *
      replace KL := Lib.hid (KL.out.next hb)
      replace Kb := Lib.hid (Kb.out.next hb)
      replace qb := Kb.out.cell
      replace Kk := Lib.hid (Kk.out.next hb)
      replace qk := Kk.out.cell
      replace RB0 := Lib.hid (RB0.out.next hb)
      replace Q1 := Lib.hid (Q1.out.next hb)
      replace Q2 := Lib.hid (Q2.out.next hb)
      replace Q3 := Lib.hid (Q3.out.next hb)
      replace Q4 := Lib.hid (Q4.out.next hb)
      replace RC0 := Lib.hid (RC0.out.next hb)
      replace Q5 := Lib.hid (Q5.out.next hb)
      have qx := Kx.out.cell
      clear hb tqb tqk tqx
      go_wp2_with fail
      refine (specBranchOfGenerators_any _ L2 _ RC0.out HN2.out HWF2.out).mono ?_
      rintro e W15 ⟨v6, rfl, ho, hb⟩
      rw [EG.out]
      have Q6 := Lib.hid ho.reads
      obtain ⟨A6, c6, e6⟩ : ∃ A c, v6 = .slice A _ c := by obtain ⟨A, c, e, _⟩ := Q6.out; exact ⟨A, c, e⟩
      subst e6
      clear ho
      replace KL := Lib.hid (KL.out.next hb)
      replace Kb := Lib.hid (Kb.out.next hb)
      replace qb := Kb.out.cell
      replace Kk := Lib.hid (Kk.out.next hb)
      replace qk := Kk.out.cell
      replace Kx := Lib.hid (Kx.out.next hb)
      replace qx := Kx.out.cell
      replace RB0 := Lib.hid (RB0.out.next hb)
      replace Q1 := Lib.hid (Q1.out.next hb)
      replace Q2 := Lib.hid (Q2.out.next hb)
      replace Q3 := Lib.hid (Q3.out.next hb)
      replace Q4 := Lib.hid (Q4.out.next hb)
      replace RC0 := Lib.hid (RC0.out.next hb)
      replace Q5 := Lib.hid (Q5.out.next hb)
      clear hb
      have tqb := (Kb.out.next (box_below W15 (.cells #[.slice A6 (bgA L2).length c6] 26))).cell
      have tqk := (Kk.out.next (box_below W15 (.cells #[.slice A6 (bgA L2).length c6] 26))).cell
      have tqx := (Kx.out.next (box_below W15 (.cells #[.slice A6 (bgA L2).length c6] 26))).cell
      have tqy := (KpC.new W15 (.slice A6 (bgA L2).length c6) 26).cell
      go_wp2_with fail
      have Ky : Hid (KpC W15.heap.size (.slice A6 (bgA L2).length c6) (W15.alloc (.cells #[.slice A6 (bgA L2).length c6] 26))) := Lib.hid (KpC.new _ _ _)
      have hb : Below W15.heap.size W15 (W15.alloc (.cells #[.slice A6 (bgA L2).length c6] 26)) := box_below _ _
      generalize W15.alloc (.cells #[.slice A6 (bgA L2).length c6] 26) = W16 at *
      replace KL := Lib.hid (KL.out.next hb)
      replace Kb := Lib.hid (Kb.out.next hb)
      replace qb := Kb.out.cell
      replace Kk := Lib.hid (Kk.out.next hb)
      replace qk := Kk.out.cell
      replace Kx := Lib.hid (Kx.out.next hb)
      replace qx := Kx.out.cell
      replace RB0 := Lib.hid (RB0.out.next hb)
      replace Q1 := Lib.hid (Q1.out.next hb)
      replace Q2 := Lib.hid (Q2.out.next hb)
      replace Q3 := Lib.hid (Q3.out.next hb)
      replace Q4 := Lib.hid (Q4.out.next hb)
      replace RC0 := Lib.hid (RC0.out.next hb)
      replace Q5 := Lib.hid (Q5.out.next hb)
      replace Q6 := Lib.hid (Q6.out.next hb)
      have qy := Ky.out.cell
      clear hb tqb tqk tqx tqy
      go_wp2_with fail
      refine (likeI _ _ (bgA L2) _ Q5.out Q6.out HBL.out).mono ?_
      rintro e W17 ⟨rfl, hb⟩
      replace KL := Lib.hid (KL.out.next hb)
      replace Kb := Lib.hid (Kb.out.next hb)
      replace qb := Kb.out.cell
      replace Kk := Lib.hid (Kk.out.next hb)
      replace qk := Kk.out.cell
      replace Kx := Lib.hid (Kx.out.next hb)
      replace qx := Kx.out.cell
      replace Ky := Lib.hid (Ky.out.next hb)
      replace qy := Ky.out.cell
      replace RB0 := Lib.hid (RB0.out.next hb)
      replace Q1 := Lib.hid (Q1.out.next hb)
      replace Q2 := Lib.hid (Q2.out.next hb)
      replace Q3 := Lib.hid (Q3.out.next hb)
      replace Q4 := Lib.hid (Q4.out.next hb)
      replace RC0 := Lib.hid (RC0.out.next hb)
      replace Q5 := Lib.hid (Q5.out.next hb)
      replace Q6 := Lib.hid (Q6.out.next hb)
      clear hb
      go_wp2_with fail
      refine (implGeneratorsOf_any _ (bgA L2) _ Q5.out (by have := HBK.out.2.2.1; omega) HBK.out.2.2.2).mono ?_
      rintro e W18 ⟨v7, rfl, ho, hb⟩
      rw [HBK.out.2.1]
      rw [HBK.out.1] at ho
      have Q7 := Lib.hid ho.reads
      obtain ⟨A7, c7, e7⟩ : ∃ A c, v7 = .slice A _ c := by obtain ⟨A, c, e, _⟩ := Q7.out; exact ⟨A, c, e⟩
      subst e7
      clear ho
      replace KL := Lib.hid (KL.out.next hb)
      replace Kb := Lib.hid (Kb.out.next hb)
      replace qb := Kb.out.cell
      replace Kk := Lib.hid (Kk.out.next hb)
      replace qk := Kk.out.cell
      replace Kx := Lib.hid (Kx.out.next hb)
      replace qx := Kx.out.cell
      replace Ky := Lib.hid (Ky.out.next hb)
      replace qy := Ky.out.cell
      replace RB0 := Lib.hid (RB0.out.next hb)
      replace Q1 := Lib.hid (Q1.out.next hb)
      replace Q2 := Lib.hid (Q2.out.next hb)
      replace Q3 := Lib.hid (Q3.out.next hb)
      replace Q4 := Lib.hid (Q4.out.next hb)
      replace RC0 := Lib.hid (RC0.out.next hb)
      replace Q5 := Lib.hid (Q5.out.next hb)
      replace Q6 := Lib.hid (Q6.out.next hb)
      clear hb
      go_wp2_with fail
      refine (likeI _ _ L2 _ Q7.out RC0.out (by have := HN2.out; omega)).mono ?_
      rintro e W19 ⟨rfl, hb⟩
      replace KL := Lib.hid (KL.out.next hb)
      replace Kb := Lib.hid (Kb.out.next hb)
      replace qb := Kb.out.cell
      replace Kk := Lib.hid (Kk.out.next hb)
      replace qk := Kk.out.cell
      replace Kx := Lib.hid (Kx.out.next hb)
      replace qx := Kx.out.cell
      replace Ky := Lib.hid (Ky.out.next hb)
      replace qy := Ky.out.cell
      replace RB0 := Lib.hid (RB0.out.next hb)
      replace Q1 := Lib.hid (Q1.out.next hb)
      replace Q2 := Lib.hid (Q2.out.next hb)
      replace Q3 := Lib.hid (Q3.out.next hb)
      replace Q4 := Lib.hid (Q4.out.next hb)
      replace RC0 := Lib.hid (RC0.out.next hb)
      replace Q5 := Lib.hid (Q5.out.next hb)
      replace Q6 := Lib.hid (Q6.out.next hb)
      replace Q7 := Lib.hid (Q7.out.next hb)
      clear hb
      go_wp2_with fail
      go_ret
      exact ⟨rfl, KL.out.below⟩
    · generalize hC : bgC L2 = C at *
      have EG := Lib.hid hC
      have hCb : (C == 0) = false := by simpa using hbg
      clear hC
      go_wp2_with fail
      refine (implBranchOfGenerators_any _ L2 _ RC0.out HN2.out HWF2.out).mono ?_
      rintro e W13 ⟨v5, rfl, ho, hb⟩
      rw [EG.out]
      have Q5 := Lib.hid ho.reads
      obtain ⟨A5, c5, e5⟩ : ∃ A c, v5 = .slice A _ c := by obtain ⟨A, c, e, _⟩ := Q5.out; exact ⟨A, c, e⟩
      subst e5
      clear ho
      replace KL := Lib.hid (KL.out.next hb)
      replace Kb := Lib.hid (Kb.out.next hb)
      replace qb := Kb.out.cell
      replace Kk := Lib.hid (Kk.out.next hb)
      replace qk := Kk.out.cell
      replace RB0 := Lib.hid (RB0.out.next hb)
      replace Q1 := Lib.hid (Q1.out.next hb)
      replace Q2 := Lib.hid (Q2.out.next hb)
      replace Q3 := Lib.hid (Q3.out.next hb)
      replace Q4 := Lib.hid (Q4.out.next hb)
      replace RC0 := Lib.hid (RC0.out.next hb)
      clear hb
      have tqb := (Kb.out.next (box_below W13 (.cells #[.slice A5 (bgA L2).length c5] 26))).cell
      have tqk := (Kk.out.next (box_below W13 (.cells #[.slice A5 (bgA L2).length c5] 26))).cell
      have tqx := (KpC.new W13 (.slice A5 (bgA L2).length c5) 26).cell
      go_wp2_with fail
      have Kx : Hid (KpC W13.heap.size (.slice A5 (bgA L2).length c5) (W13.alloc (.cells #[.slice A5 (bgA L2).length c5] 26))) := Lib.hid (KpC.new _ _ _)
      have hb : Below W13.heap.size W13 (W13.alloc (.cells #[.slice A5 (bgA L2).length c5] 26)) := box_below _ _
      generalize W13.alloc (.cells #[.slice A5 (bgA L2).length c5] 26) = W14 at *
      replace KL := Lib.hid (KL.out.next hb)
      replace Kb := Lib.hid (Kb.out.next hb)
      replace qb := Kb.out.cell
      replace Kk := Lib.hid (Kk.out.next hb)
      replace qk := Kk.out.cell
      replace RB0 := Lib.hid (RB0.out.next hb)
      replace Q1 := Lib.hid (Q1.out.next hb)
      replace Q2 := Lib.hid (Q2.out.next hb)
      replace Q3 := Lib.hid (Q3.out.next hb)
      replace Q4 := Lib.hid (Q4.out.next hb)
      replace RC0 := Lib.hid (RC0.out.next hb)
      replace Q5 := Lib.hid (Q5.out.next hb)
      have qx := Kx.out.cell
      clear hb tqb tqk tqx
      go_wp2_with fail
      refine (specBranchOfGenerators_any _ L2 _ RC0.out HN2.out HWF2.out).mono ?_
      rintro e W15 ⟨v6, rfl, ho, hb⟩
      rw [EG.out]
      have Q6 := Lib.hid ho.reads
      obtain ⟨A6, c6, e6⟩ : ∃ A c, v6 = .slice A _ c := by obtain ⟨A, c, e, _⟩ := Q6.out; exact ⟨A, c, e⟩
      subst e6
      clear ho
      replace KL := Lib.hid (KL.out.next hb)
      replace Kb := Lib.hid (Kb.out.next hb)
      replace qb := Kb.out.cell
      replace Kk := Lib.hid (Kk.out.next hb)
      replace qk := Kk.out.cell
      replace Kx := Lib.hid (Kx.out.next hb)
      replace qx := Kx.out.cell
      replace RB0 := Lib.hid (RB0.out.next hb)
      replace Q1 := Lib.hid (Q1.out.next hb)
      replace Q2 := Lib.hid (Q2.out.next hb)
      replace Q3 := Lib.hid (Q3.out.next hb)
      replace Q4 := Lib.hid (Q4.out.next hb)
      replace RC0 := Lib.hid (RC0.out.next hb)
      replace Q5 := Lib.hid (Q5.out.next hb)
      clear hb
      have tqb := (Kb.out.next (box_below W15 (.cells #[.slice A6 (bgA L2).length c6] 26))).cell
      have tqk := (Kk.out.next (box_below W15 (.cells #[.slice A6 (bgA L2).length c6] 26))).cell
      have tqx := (Kx.out.next (box_below W15 (.cells #[.slice A6 (bgA L2).length c6] 26))).cell
      have tqy := (KpC.new W15 (.slice A6 (bgA L2).length c6) 26).cell
      go_wp2_with fail
      have Ky : Hid (KpC W15.heap.size (.slice A6 (bgA L2).length c6) (W15.alloc (.cells #[.slice A6 (bgA L2).length c6] 26))) := Lib.hid (KpC.new _ _ _)
      have hb : Below W15.heap.size W15 (W15.alloc (.cells #[.slice A6 (bgA L2).length c6] 26)) := box_below _ _
      generalize W15.alloc (.cells #[.slice A6 (bgA L2).length c6] 26) = W16 at *
      replace KL := Lib.hid (KL.out.next hb)
      replace Kb := Lib.hid (Kb.out.next hb)
      replace qb := Kb.out.cell
      replace Kk := Lib.hid (Kk.out.next hb)
      replace qk := Kk.out.cell
      replace Kx := Lib.hid (Kx.out.next hb)
      replace qx := Kx.out.cell
      replace RB0 := Lib.hid (RB0.out.next hb)
      replace Q1 := Lib.hid (Q1.out.next hb)
      replace Q2 := Lib.hid (Q2.out.next hb)
      replace Q3 := Lib.hid (Q3.out.next hb)
      replace Q4 := Lib.hid (Q4.out.next hb)
      replace RC0 := Lib.hid (RC0.out.next hb)
      replace Q5 := Lib.hid (Q5.out.next hb)
      replace Q6 := Lib.hid (Q6.out.next hb)
      have qy := Ky.out.cell
      clear hb tqb tqk tqx tqy
      go_wp2_with fail
      refine (likeI _ _ (bgA L2) _ Q5.out Q6.out HBL.out).mono ?_
      rintro e W17 ⟨rfl, hb⟩
      replace KL := Lib.hid (KL.out.next hb)
      replace Kb := Lib.hid (Kb.out.next hb)
      replace qb := Kb.out.cell
      replace Kk := Lib.hid (Kk.out.next hb)
      replace qk := Kk.out.cell
      replace Kx := Lib.hid (Kx.out.next hb)
      replace qx := Kx.out.cell
      replace Ky := Lib.hid (Ky.out.next hb)
      replace qy := Ky.out.cell
      replace RB0 := Lib.hid (RB0.out.next hb)
      replace Q1 := Lib.hid (Q1.out.next hb)
      replace Q2 := Lib.hid (Q2.out.next hb)
      replace Q3 := Lib.hid (Q3.out.next hb)
      replace Q4 := Lib.hid (Q4.out.next hb)
      replace RC0 := Lib.hid (RC0.out.next hb)
      replace Q5 := Lib.hid (Q5.out.next hb)
      replace Q6 := Lib.hid (Q6.out.next hb)
      clear hb
      go_wp2_with fail
      go_ret
      exact ⟨rfl, KL.out.below⟩
  · have EC := Lib.hid hc
    have HP := Lib.hid hp.1
    have HLE := Lib.hid hp.2
    clear hp hc
    go_wp2_with fail
    refine (implGapsOf_any _ L _ RB0.out HN.out HWF.out).mono ?_
    rintro e W3 ⟨v1, rfl, ho, hb⟩
    rw [EC.out]
    have Q1 := Lib.hid ho.reads
    obtain ⟨A1, c1, e1⟩ : ∃ A c, v1 = .slice A _ c := by obtain ⟨A, c, e, _⟩ := Q1.out; exact ⟨A, c, e⟩
    subst e1
    clear ho
    replace KL := Lib.hid (KL.out.next hb)
    replace Kb := Lib.hid (Kb.out.next hb)
    replace qb := Kb.out.cell
    replace RB0 := Lib.hid (RB0.out.next hb)
    clear hb
    go_wp2_with fail
    refine (specGapsOf_any _ L _ RB0.out HN.out HWF.out).mono ?_
    rintro e W4 ⟨v2, rfl, ho, hb⟩
    rw [EC.out]
    have Q2 := Lib.hid ho.reads
    obtain ⟨A2, c2, e2⟩ : ∃ A c, v2 = .slice A _ c := by obtain ⟨A, c, e, _⟩ := Q2.out; exact ⟨A, c, e⟩
    subst e2
    clear ho
    replace KL := Lib.hid (KL.out.next hb)
    replace Kb := Lib.hid (Kb.out.next hb)
    replace qb := Kb.out.cell
    replace RB0 := Lib.hid (RB0.out.next hb)
    replace Q1 := Lib.hid (Q1.out.next hb)
    clear hb
    go_wp2_with fail
    refine (likeI _ _ (gpA L) _ Q1.out Q2.out (by have := HRL.out; omega)).mono ?_
    rintro e W5 ⟨rfl, hb⟩
    replace KL := Lib.hid (KL.out.next hb)
    replace Kb := Lib.hid (Kb.out.next hb)
    replace qb := Kb.out.cell
    replace RB0 := Lib.hid (RB0.out.next hb)
    replace Q1 := Lib.hid (Q1.out.next hb)
    replace Q2 := Lib.hid (Q2.out.next hb)
    clear hb
    have HGO := Lib.hid (GapOK.make HP.out)
    go_wp2_with fail
    refine (implGeneratorsOf_any _ L _ RB0.out HN.out HWF.out).mono ?_
    rintro e W6 ⟨v3, rfl, ho, hb⟩
    rw [HGO.out.g]
    have Q3 := Lib.hid ho.reads
    obtain ⟨A3, c3, e3⟩ : ∃ A c, v3 = .slice A _ c := by obtain ⟨A, c, e, _⟩ := Q3.out; exact ⟨A, c, e⟩
    subst e3
    clear ho
    replace KL := Lib.hid (KL.out.next hb)
    replace Kb := Lib.hid (Kb.out.next hb)
    replace qb := Kb.out.cell
    replace RB0 := Lib.hid (RB0.out.next hb)
    replace Q1 := Lib.hid (Q1.out.next hb)
    replace Q2 := Lib.hid (Q2.out.next hb)
    clear hb
    go_wp2_with fail
    refine (implBranchOfGenerators_any _ (goA L) _ Q3.out (by have := HGO.out.gl; omega) HGO.out.gw).mono ?_
    rintro e W7 ⟨v4, rfl, ho, hb⟩
    rw [HGO.out.bc]
    rw [HGO.out.ba] at ho
    have Q4 := Lib.hid ho.reads
    obtain ⟨A4, c4, e4⟩ : ∃ A c, v4 = .slice A _ c := by obtain ⟨A, c, e, _⟩ := Q4.out; exact ⟨A, c, e⟩
    subst e4
    clear ho
    replace KL := Lib.hid (KL.out.next hb)
    replace Kb := Lib.hid (Kb.out.next hb)
    replace qb := Kb.out.cell
    replace RB0 := Lib.hid (RB0.out.next hb)
    replace Q1 := Lib.hid (Q1.out.next hb)
    replace Q2 := Lib.hid (Q2.out.next hb)
    replace Q3 := Lib.hid (Q3.out.next hb)
    clear hb
    have tqb := (Kb.out.next (box_below W7 (.cells #[.slice A4 L.length c4] 26))).cell
    have tqk := (KpC.new W7 (.slice A4 L.length c4) 26).cell
    go_wp2_with fail
    have Kk : Hid (KpC W7.heap.size (.slice A4 L.length c4) (W7.alloc (.cells #[.slice A4 L.length c4] 26))) := Lib.hid (KpC.new _ _ _)
    have hb : Below W7.heap.size W7 (W7.alloc (.cells #[.slice A4 L.length c4] 26)) := box_below _ _
    generalize W7.alloc (.cells #[.slice A4 L.length c4] 26) = W8 at *
    replace KL := Lib.hid (KL.out.next hb)
    replace Kb := Lib.hid (Kb.out.next hb)
    replace qb := Kb.out.cell
    replace RB0 := Lib.hid (RB0.out.next hb)
    replace Q1 := Lib.hid (Q1.out.next hb)
    replace Q2 := Lib.hid (Q2.out.next hb)
    replace Q3 := Lib.hid (Q3.out.next hb)
    replace Q4 := Lib.hid (Q4.out.next hb)
    have qk := Kk.out.cell
    clear hb tqb tqk
    go_wp2_with fail
    refine (implConductorOf_any _ L _ RB0.out HN.out HWF.out).mono ?_
    rintro e W9 ⟨rfl, hb⟩
    rw [HGO.out.g]
    replace KL := Lib.hid (KL.out.next hb)
    replace Kb := Lib.hid (Kb.out.next hb)
    replace qb := Kb.out.cell
    replace Kk := Lib.hid (Kk.out.next hb)
    replace qk := Kk.out.cell
    replace RB0 := Lib.hid (RB0.out.next hb)
    replace Q1 := Lib.hid (Q1.out.next hb)
    replace Q2 := Lib.hid (Q2.out.next hb)
    replace Q3 := Lib.hid (Q3.out.next hb)
    replace Q4 := Lib.hid (Q4.out.next hb)
    clear hb
    go_wp2_with fail
    refine (implMilnorOfBranch_any _ L _ RB0.out HN.out HWF.out).mono ?_
    rintro e W10 ⟨rfl, hb⟩
    rw [HGO.out.m, HGO.out.mu]
    replace KL := Lib.hid (KL.out.next hb)
    replace Kb := Lib.hid (Kb.out.next hb)
    replace qb := Kb.out.cell
    replace Kk := Lib.hid (Kk.out.next hb)
    replace qk := Kk.out.cell
    replace RB0 := Lib.hid (RB0.out.next hb)
    replace Q1 := Lib.hid (Q1.out.next hb)
    replace Q2 := Lib.hid (Q2.out.next hb)
    replace Q3 := Lib.hid (Q3.out.next hb)
    replace Q4 := Lib.hid (Q4.out.next hb)
    clear hb
    go_wp2_with fail
    refine (likeI _ _ L _ Q4.out RB0.out (by have := HN.out; omega)).mono ?_
    rintro e W11 ⟨rfl, hb⟩
    replace KL := Lib.hid (KL.out.next hb)
    replace Kb := Lib.hid (Kb.out.next hb)
    replace qb := Kb.out.cell
    replace Kk := Lib.hid (Kk.out.next hb)
    replace qk := Kk.out.cell
    replace RB0 := Lib.hid (RB0.out.next hb)
    replace Q1 := Lib.hid (Q1.out.next hb)
    replace Q2 := Lib.hid (Q2.out.next hb)
    replace Q3 := Lib.hid (Q3.out.next hb)
    replace Q4 := Lib.hid (Q4.out.next hb)
    clear hb
    have HGS := Lib.hid (GapsOK.make HP.out HLE.out)
    have HC1 := HGO.out.c0
    have HC2 := HGS.out.c
    have p1 : IntKind.i64.wrap (2 * (((gpA L).length : Nat) : Int)) = coA L := by rw [HGS.out.half]; exact IntWalk.i64_in _ (by omega)
    have HAT := Lib.hid HGS.out.at'
    generalize coA L = cc1 at *
    have p2 : IntKind.i64.wrap (cc1 + 1) = cc1 + 1 := IntWalk.i64_in _ (by omega)
    have p3 : IntKind.i64.wrap (cc1 - 1) = cc1 - 1 := IntWalk.i64_in _ (by omega)
    go_wp2_with fail
    refine (roll_any A n c 913 _ KL.out.bytes (by omega) (by omega)).mono ?_
    rintro e W12 ⟨g, rfl, hd, hb0⟩
    have HDI := Lib.hid hd
    clear hd
    go_wp2_with fail
    refine (below_any W11.heap.size g n (cc1 + 1) W12 HDI.out (by omega)).mono ?_
    rintro e W13 ⟨v, rfl, hv0, hv1, hs, hg⟩
    have hb : Below W11.heap.size W11 W13 := below_grown hb0 hg (by obtain ⟨_, _, _, _, _, _, _, _, h, _⟩ := HDI.out; exact h) hb0.size
    replace KL := Lib.hid (KL.out.next hb)
    replace Kb := Lib.hid (Kb.out.next hb)
    replace qb := Kb.out.cell
    replace Kk := Lib.hid (Kk.out.next hb)
    replace qk := Kk.out.cell
    replace RB0 := Lib.hid (RB0.out.next hb)
    replace Q1 := Lib.hid (Q1.out.next hb)
    replace Q2 := Lib.hid (Q2.out.next hb)
    replace Q3 := Lib.hid (Q3.out.next hb)
    replace Q4 := Lib.hid (Q4.out.next hb)
    clear hb hb0 hg hs HDI
    by_cases hvc : v < cc1
    rotate_left
    · have hvb : decide (v < cc1) = false := by simpa using hvc
      go_wp2_with fail
      refine (DrawBranchOfGenerators_any A n c _ KL.out.bytes hn).mono ?_
      rintro e W14 ⟨Ac, nc, cc, L2, rfl, hr, hL, hb⟩
      have HSP2 := Lib.hid hL
      have RC0 := Lib.hid hr
      clear hr hL
      replace KL := Lib.hid (KL.out.next hb)
      replace Kb := Lib.hid (Kb.out.next hb)
      replace qb := Kb.out.cell
      replace Kk := Lib.hid (Kk.out.next hb)
      replace qk := Kk.out.cell
      replace RB0 := Lib.hid (RB0.out.next hb)
      replace Q1 := Lib.hid (Q1.out.next hb)
      replace Q2 := Lib.hid (Q2.out.next hb)
      replace Q3 := Lib.hid (Q3.out.next hb)
      replace Q4 := Lib.hid (Q4.out.next hb)
      clear hb
      have HN2 : Hid (L2.length ≤ 1048576) := Lib.hid (by have := HSP2.out.1; omega)
      have HWF2 := Lib.hid HSP2.out.wf
      have HBL : Hid ((bgA L2).length ≤ 9223372036854775807) := Lib.hid (by have := bgA_len HN2.out; omega)
      by_cases hbg : bgC L2 = 0
      · have EG := Lib.hid hbg
        have HBK := Lib.hid (bg_back hbg)
        clear hbg
        go_wp2_with fail
        refine (implBranchOfGenerators_any _ L2 _ RC0.out HN2.out HWF2.out).mono ?_
        rintro e W15 ⟨v5, rfl, ho, hb⟩
        rw [EG.out]
        have Q5 := Lib.hid ho.reads
        obtain ⟨A5, c5, e5⟩ : ∃ A c, v5 = .slice A _ c := by obtain ⟨A, c, e, _⟩ := Q5.out; exact ⟨A, c, e⟩
        subst e5
        clear ho
        replace KL := Lib.hid (KL.out.next hb)
        replace Kb := Lib.hid (Kb.out.next hb)
        replace qb := Kb.out.cell
        replace Kk := Lib.hid (Kk.out.next hb)
        replace qk := Kk.out.cell
        replace RB0 := Lib.hid (RB0.out.next hb)
        replace Q1 := Lib.hid (Q1.out.next hb)
        replace Q2 := Lib.hid (Q2.out.next hb)
        replace Q3 := Lib.hid (Q3.out.next hb)
        replace Q4 := Lib.hid (Q4.out.next hb)
        replace RC0 := Lib.hid (RC0.out.next hb)
        clear hb
        have tqb := (Kb.out.next (box_below W15 (.cells #[.slice A5 (bgA L2).length c5] 26))).cell
        have tqk := (Kk.out.next (box_below W15 (.cells #[.slice A5 (bgA L2).length c5] 26))).cell
        have tqx := (KpC.new W15 (.slice A5 (bgA L2).length c5) 26).cell
        go_wp2_with fail
        have Kx : Hid (KpC W15.heap.size (.slice A5 (bgA L2).length c5) (W15.alloc (.cells #[.slice A5 (bgA L2).length c5] 26))) := Lib.hid (KpC.new _ _ _)
        have hb : Below W15.heap.size W15 (W15.alloc (.cells #[.slice A5 (bgA L2).length c5] 26)) := box_below _ _
        generalize W15.alloc (.cells #[.slice A5 (bgA L2).length c5] 26) = W16 at *
        replace KL := Lib.hid (KL.out.next hb)
        replace Kb := Lib.hid (Kb.out.next hb)
        replace qb := Kb.out.cell
        replace Kk := Lib.hid (Kk.out.next hb)
        replace qk := Kk.out.cell
        replace RB0 := Lib.hid (RB0.out.next hb)
        replace Q1 := Lib.hid (Q1.out.next hb)
        replace Q2 := Lib.hid (Q2.out.next hb)
        replace Q3 := Lib.hid (Q3.out.next hb)
        replace Q4 := Lib.hid (Q4.out.next hb)
        replace RC0 := Lib.hid (RC0.out.next hb)
        replace Q5 := Lib.hid (Q5.out.next hb)
        have qx := Kx.out.cell
        clear hb tqb tqk tqx
        go_wp2_with fail
        refine (specBranchOfGenerators_any _ L2 _ RC0.out HN2.out HWF2.out).mono ?_
        rintro e W17 ⟨v6, rfl, ho, hb⟩
        rw [EG.out]
        have Q6 := Lib.hid ho.reads
        obtain ⟨A6, c6, e6⟩ : ∃ A c, v6 = .slice A _ c := by obtain ⟨A, c, e, _⟩ := Q6.out; exact ⟨A, c, e⟩
        subst e6
        clear ho
        replace KL := Lib.hid (KL.out.next hb)
        replace Kb := Lib.hid (Kb.out.next hb)
        replace qb := Kb.out.cell
        replace Kk := Lib.hid (Kk.out.next hb)
        replace qk := Kk.out.cell
        replace Kx := Lib.hid (Kx.out.next hb)
        replace qx := Kx.out.cell
        replace RB0 := Lib.hid (RB0.out.next hb)
        replace Q1 := Lib.hid (Q1.out.next hb)
        replace Q2 := Lib.hid (Q2.out.next hb)
        replace Q3 := Lib.hid (Q3.out.next hb)
        replace Q4 := Lib.hid (Q4.out.next hb)
        replace RC0 := Lib.hid (RC0.out.next hb)
        replace Q5 := Lib.hid (Q5.out.next hb)
        clear hb
        have tqb := (Kb.out.next (box_below W17 (.cells #[.slice A6 (bgA L2).length c6] 26))).cell
        have tqk := (Kk.out.next (box_below W17 (.cells #[.slice A6 (bgA L2).length c6] 26))).cell
        have tqx := (Kx.out.next (box_below W17 (.cells #[.slice A6 (bgA L2).length c6] 26))).cell
        have tqy := (KpC.new W17 (.slice A6 (bgA L2).length c6) 26).cell
        go_wp2_with fail
        have Ky : Hid (KpC W17.heap.size (.slice A6 (bgA L2).length c6) (W17.alloc (.cells #[.slice A6 (bgA L2).length c6] 26))) := Lib.hid (KpC.new _ _ _)
        have hb : Below W17.heap.size W17 (W17.alloc (.cells #[.slice A6 (bgA L2).length c6] 26)) := box_below _ _
        generalize W17.alloc (.cells #[.slice A6 (bgA L2).length c6] 26) = W18 at *
        replace KL := Lib.hid (KL.out.next hb)
        replace Kb := Lib.hid (Kb.out.next hb)
        replace qb := Kb.out.cell
        replace Kk := Lib.hid (Kk.out.next hb)
        replace qk := Kk.out.cell
        replace Kx := Lib.hid (Kx.out.next hb)
        replace qx := Kx.out.cell
        replace RB0 := Lib.hid (RB0.out.next hb)
        replace Q1 := Lib.hid (Q1.out.next hb)
        replace Q2 := Lib.hid (Q2.out.next hb)
        replace Q3 := Lib.hid (Q3.out.next hb)
        replace Q4 := Lib.hid (Q4.out.next hb)
        replace RC0 := Lib.hid (RC0.out.next hb)
        replace Q5 := Lib.hid (Q5.out.next hb)
        replace Q6 := Lib.hid (Q6.out.next hb)
        have qy := Ky.out.cell
        clear hb tqb tqk tqx tqy
        go_wp2_with fail
        refine (likeI _ _ (bgA L2) _ Q5.out Q6.out HBL.out).mono ?_
        rintro e W19 ⟨rfl, hb⟩
        replace KL := Lib.hid (KL.out.next hb)
        replace Kb := Lib.hid (Kb.out.next hb)
        replace qb := Kb.out.cell
        replace Kk := Lib.hid (Kk.out.next hb)
        replace qk := Kk.out.cell
        replace Kx := Lib.hid (Kx.out.next hb)
        replace qx := Kx.out.cell
        replace Ky := Lib.hid (Ky.out.next hb)
        replace qy := Ky.out.cell
        replace RB0 := Lib.hid (RB0.out.next hb)
        replace Q1 := Lib.hid (Q1.out.next hb)
        replace Q2 := Lib.hid (Q2.out.next hb)
        replace Q3 := Lib.hid (Q3.out.next hb)
        replace Q4 := Lib.hid (Q4.out.next hb)
        replace RC0 := Lib.hid (RC0.out.next hb)
        replace Q5 := Lib.hid (Q5.out.next hb)
        replace Q6 := Lib.hid (Q6.out.next hb)
        clear hb
        go_wp2_with fail
        refine (implGeneratorsOf_any _ (bgA L2) _ Q5.out (by have := HBK.out.2.2.1; omega) HBK.out.2.2.2).mono ?_
        rintro e W20 ⟨v7, rfl, ho, hb⟩
        rw [HBK.out.2.1]
        rw [HBK.out.1] at ho
        have Q7 := Lib.hid ho.reads
        obtain ⟨A7, c7, e7⟩ : ∃ A c, v7 = .slice A _ c := by obtain ⟨A, c, e, _⟩ := Q7.out; exact ⟨A, c, e⟩
        subst e7
        clear ho
        replace KL := Lib.hid (KL.out.next hb)
        replace Kb := Lib.hid (Kb.out.next hb)
        replace qb := Kb.out.cell
        replace Kk := Lib.hid (Kk.out.next hb)
        replace qk := Kk.out.cell
        replace Kx := Lib.hid (Kx.out.next hb)
        replace qx := Kx.out.cell
        replace Ky := Lib.hid (Ky.out.next hb)
        replace qy := Ky.out.cell
        replace RB0 := Lib.hid (RB0.out.next hb)
        replace Q1 := Lib.hid (Q1.out.next hb)
        replace Q2 := Lib.hid (Q2.out.next hb)
        replace Q3 := Lib.hid (Q3.out.next hb)
        replace Q4 := Lib.hid (Q4.out.next hb)
        replace RC0 := Lib.hid (RC0.out.next hb)
        replace Q5 := Lib.hid (Q5.out.next hb)
        replace Q6 := Lib.hid (Q6.out.next hb)
        clear hb
        go_wp2_with fail
        refine (likeI _ _ L2 _ Q7.out RC0.out (by have := HN2.out; omega)).mono ?_
        rintro e W21 ⟨rfl, hb⟩
        replace KL := Lib.hid (KL.out.next hb)
        replace Kb := Lib.hid (Kb.out.next hb)
        replace qb := Kb.out.cell
        replace Kk := Lib.hid (Kk.out.next hb)
        replace qk := Kk.out.cell
        replace Kx := Lib.hid (Kx.out.next hb)
        replace qx := Kx.out.cell
        replace Ky := Lib.hid (Ky.out.next hb)
        replace qy := Ky.out.cell
        replace RB0 := Lib.hid (RB0.out.next hb)
        replace Q1 := Lib.hid (Q1.out.next hb)
        replace Q2 := Lib.hid (Q2.out.next hb)
        replace Q3 := Lib.hid (Q3.out.next hb)
        replace Q4 := Lib.hid (Q4.out.next hb)
        replace RC0 := Lib.hid (RC0.out.next hb)
        replace Q5 := Lib.hid (Q5.out.next hb)
        replace Q6 := Lib.hid (Q6.out.next hb)
        replace Q7 := Lib.hid (Q7.out.next hb)
        clear hb
        go_wp2_with fail
        go_ret
        exact ⟨rfl, KL.out.below⟩
      · generalize hC : bgC L2 = C at *
        have EG := Lib.hid hC
        have hCb : (C == 0) = false := by simpa using hbg
        clear hC
        go_wp2_with fail
        refine (implBranchOfGenerators_any _ L2 _ RC0.out HN2.out HWF2.out).mono ?_
        rintro e W15 ⟨v5, rfl, ho, hb⟩
        rw [EG.out]
        have Q5 := Lib.hid ho.reads
        obtain ⟨A5, c5, e5⟩ : ∃ A c, v5 = .slice A _ c := by obtain ⟨A, c, e, _⟩ := Q5.out; exact ⟨A, c, e⟩
        subst e5
        clear ho
        replace KL := Lib.hid (KL.out.next hb)
        replace Kb := Lib.hid (Kb.out.next hb)
        replace qb := Kb.out.cell
        replace Kk := Lib.hid (Kk.out.next hb)
        replace qk := Kk.out.cell
        replace RB0 := Lib.hid (RB0.out.next hb)
        replace Q1 := Lib.hid (Q1.out.next hb)
        replace Q2 := Lib.hid (Q2.out.next hb)
        replace Q3 := Lib.hid (Q3.out.next hb)
        replace Q4 := Lib.hid (Q4.out.next hb)
        replace RC0 := Lib.hid (RC0.out.next hb)
        clear hb
        have tqb := (Kb.out.next (box_below W15 (.cells #[.slice A5 (bgA L2).length c5] 26))).cell
        have tqk := (Kk.out.next (box_below W15 (.cells #[.slice A5 (bgA L2).length c5] 26))).cell
        have tqx := (KpC.new W15 (.slice A5 (bgA L2).length c5) 26).cell
        go_wp2_with fail
        have Kx : Hid (KpC W15.heap.size (.slice A5 (bgA L2).length c5) (W15.alloc (.cells #[.slice A5 (bgA L2).length c5] 26))) := Lib.hid (KpC.new _ _ _)
        have hb : Below W15.heap.size W15 (W15.alloc (.cells #[.slice A5 (bgA L2).length c5] 26)) := box_below _ _
        generalize W15.alloc (.cells #[.slice A5 (bgA L2).length c5] 26) = W16 at *
        replace KL := Lib.hid (KL.out.next hb)
        replace Kb := Lib.hid (Kb.out.next hb)
        replace qb := Kb.out.cell
        replace Kk := Lib.hid (Kk.out.next hb)
        replace qk := Kk.out.cell
        replace RB0 := Lib.hid (RB0.out.next hb)
        replace Q1 := Lib.hid (Q1.out.next hb)
        replace Q2 := Lib.hid (Q2.out.next hb)
        replace Q3 := Lib.hid (Q3.out.next hb)
        replace Q4 := Lib.hid (Q4.out.next hb)
        replace RC0 := Lib.hid (RC0.out.next hb)
        replace Q5 := Lib.hid (Q5.out.next hb)
        have qx := Kx.out.cell
        clear hb tqb tqk tqx
        go_wp2_with fail
        refine (specBranchOfGenerators_any _ L2 _ RC0.out HN2.out HWF2.out).mono ?_
        rintro e W17 ⟨v6, rfl, ho, hb⟩
        rw [EG.out]
        have Q6 := Lib.hid ho.reads
        obtain ⟨A6, c6, e6⟩ : ∃ A c, v6 = .slice A _ c := by obtain ⟨A, c, e, _⟩ := Q6.out; exact ⟨A, c, e⟩
        subst e6
        clear ho
        replace KL := Lib.hid (KL.out.next hb)
        replace Kb := Lib.hid (Kb.out.next hb)
        replace qb := Kb.out.cell
        replace Kk := Lib.hid (Kk.out.next hb)
        replace qk := Kk.out.cell
        replace Kx := Lib.hid (Kx.out.next hb)
        replace qx := Kx.out.cell
        replace RB0 := Lib.hid (RB0.out.next hb)
        replace Q1 := Lib.hid (Q1.out.next hb)
        replace Q2 := Lib.hid (Q2.out.next hb)
        replace Q3 := Lib.hid (Q3.out.next hb)
        replace Q4 := Lib.hid (Q4.out.next hb)
        replace RC0 := Lib.hid (RC0.out.next hb)
        replace Q5 := Lib.hid (Q5.out.next hb)
        clear hb
        have tqb := (Kb.out.next (box_below W17 (.cells #[.slice A6 (bgA L2).length c6] 26))).cell
        have tqk := (Kk.out.next (box_below W17 (.cells #[.slice A6 (bgA L2).length c6] 26))).cell
        have tqx := (Kx.out.next (box_below W17 (.cells #[.slice A6 (bgA L2).length c6] 26))).cell
        have tqy := (KpC.new W17 (.slice A6 (bgA L2).length c6) 26).cell
        go_wp2_with fail
        have Ky : Hid (KpC W17.heap.size (.slice A6 (bgA L2).length c6) (W17.alloc (.cells #[.slice A6 (bgA L2).length c6] 26))) := Lib.hid (KpC.new _ _ _)
        have hb : Below W17.heap.size W17 (W17.alloc (.cells #[.slice A6 (bgA L2).length c6] 26)) := box_below _ _
        generalize W17.alloc (.cells #[.slice A6 (bgA L2).length c6] 26) = W18 at *
        replace KL := Lib.hid (KL.out.next hb)
        replace Kb := Lib.hid (Kb.out.next hb)
        replace qb := Kb.out.cell
        replace Kk := Lib.hid (Kk.out.next hb)
        replace qk := Kk.out.cell
        replace Kx := Lib.hid (Kx.out.next hb)
        replace qx := Kx.out.cell
        replace RB0 := Lib.hid (RB0.out.next hb)
        replace Q1 := Lib.hid (Q1.out.next hb)
        replace Q2 := Lib.hid (Q2.out.next hb)
        replace Q3 := Lib.hid (Q3.out.next hb)
        replace Q4 := Lib.hid (Q4.out.next hb)
        replace RC0 := Lib.hid (RC0.out.next hb)
        replace Q5 := Lib.hid (Q5.out.next hb)
        replace Q6 := Lib.hid (Q6.out.next hb)
        have qy := Ky.out.cell
        clear hb tqb tqk tqx tqy
        go_wp2_with fail
        refine (likeI _ _ (bgA L2) _ Q5.out Q6.out HBL.out).mono ?_
        rintro e W19 ⟨rfl, hb⟩
        replace KL := Lib.hid (KL.out.next hb)
        replace Kb := Lib.hid (Kb.out.next hb)
        replace qb := Kb.out.cell
        replace Kk := Lib.hid (Kk.out.next hb)
        replace qk := Kk.out.cell
        replace Kx := Lib.hid (Kx.out.next hb)
        replace qx := Kx.out.cell
        replace Ky := Lib.hid (Ky.out.next hb)
        replace qy := Ky.out.cell
        replace RB0 := Lib.hid (RB0.out.next hb)
        replace Q1 := Lib.hid (Q1.out.next hb)
        replace Q2 := Lib.hid (Q2.out.next hb)
        replace Q3 := Lib.hid (Q3.out.next hb)
        replace Q4 := Lib.hid (Q4.out.next hb)
        replace RC0 := Lib.hid (RC0.out.next hb)
        replace Q5 := Lib.hid (Q5.out.next hb)
        replace Q6 := Lib.hid (Q6.out.next hb)
        clear hb
        go_wp2_with fail
        go_ret
        exact ⟨rfl, KL.out.below⟩
    have hvb : decide (v < cc1) = true := by simpa using hvc
    have hat := HAT.out v hv0 hvc
    obtain ⟨⟨i1, i2⟩, ⟨i3, i4⟩, i5⟩ := hat
    have p4 : IntKind.i64.wrap (cc1 - 1 - v) = cc1 - 1 - v := IntWalk.i64_in _ (by omega)
    have w1 : (Lit.int .i64 v).wf = true := i64_wf (by omega) (by omega)
    have w2 : (Lit.int .i64 (cc1 - 1 - v)).wf = true := i64_wf (by omega) (by omega)
    clear p1 p2 HAT HGS
    have HI1 := Lib.hid i1
    have HI2 := Lib.hid i2
    have HI3 := Lib.hid i3
    have HI4 := Lib.hid i4
    have HI5 := Lib.hid i5
    clear i1 i2 i3 i4 i5
    cases hx : reB L v
    · have HX := Lib.hid hx
      clear hx
      go_wp2_with fail
      refine (implIsValue_any _ L v _ RB0.out HN.out HWF.out w1).mono ?_
      rintro e W14 ⟨rfl, hb⟩
      rw [HI1.out, HX.out, HI2.out]
      replace KL := Lib.hid (KL.out.next hb)
      replace Kb := Lib.hid (Kb.out.next hb)
      replace qb := Kb.out.cell
      replace Kk := Lib.hid (Kk.out.next hb)
      replace qk := Kk.out.cell
      replace RB0 := Lib.hid (RB0.out.next hb)
      replace Q1 := Lib.hid (Q1.out.next hb)
      replace Q2 := Lib.hid (Q2.out.next hb)
      replace Q3 := Lib.hid (Q3.out.next hb)
      replace Q4 := Lib.hid (Q4.out.next hb)
      clear hb
      go_wp2_with fail
      refine (implIsValue_any _ L (cc1 - 1 - v) _ RB0.out HN.out HWF.out w2).mono ?_
      rintro e W15 ⟨rfl, hb⟩
      rw [HI3.out, HX.out, HI4.out]
      replace KL := Lib.hid (KL.out.next hb)
      replace Kb := Lib.hid (Kb.out.next hb)
      replace qb := Kb.out.cell
      replace Kk := Lib.hid (Kk.out.next hb)
      replace qk := Kk.out.cell
      replace RB0 := Lib.hid (RB0.out.next hb)
      replace Q1 := Lib.hid (Q1.out.next hb)
      replace Q2 := Lib.hid (Q2.out.next hb)
      replace Q3 := Lib.hid (Q3.out.next hb)
      replace Q4 := Lib.hid (Q4.out.next hb)
      clear hb
      go_wp2_with fail
      refine (hasInt_any _ (gpA L) v _ Q1.out HRL.out).mono ?_
      rintro e W16 ⟨rfl, hb⟩
      rw [HI5.out, HX.out]
      replace KL := Lib.hid (KL.out.next hb)
      replace Kb := Lib.hid (Kb.out.next hb)
      replace qb := Kb.out.cell
      replace Kk := Lib.hid (Kk.out.next hb)
      replace qk := Kk.out.cell
      replace RB0 := Lib.hid (RB0.out.next hb)
      replace Q1 := Lib.hid (Q1.out.next hb)
      replace Q2 := Lib.hid (Q2.out.next hb)
      replace Q3 := Lib.hid (Q3.out.next hb)
      replace Q4 := Lib.hid (Q4.out.next hb)
      clear hb
      go_wp2_with fail
      refine (DrawBranchOfGenerators_any A n c _ KL.out.bytes hn).mono ?_
      rintro e W17 ⟨Ac, nc, cc, L2, rfl, hr, hL, hb⟩
      have HSP2 := Lib.hid hL
      have RC0 := Lib.hid hr
      clear hr hL
      replace KL := Lib.hid (KL.out.next hb)
      replace Kb := Lib.hid (Kb.out.next hb)
      replace qb := Kb.out.cell
      replace Kk := Lib.hid (Kk.out.next hb)
      replace qk := Kk.out.cell
      replace RB0 := Lib.hid (RB0.out.next hb)
      replace Q1 := Lib.hid (Q1.out.next hb)
      replace Q2 := Lib.hid (Q2.out.next hb)
      replace Q3 := Lib.hid (Q3.out.next hb)
      replace Q4 := Lib.hid (Q4.out.next hb)
      clear hb
      have HN2 : Hid (L2.length ≤ 1048576) := Lib.hid (by have := HSP2.out.1; omega)
      have HWF2 := Lib.hid HSP2.out.wf
      have HBL : Hid ((bgA L2).length ≤ 9223372036854775807) := Lib.hid (by have := bgA_len HN2.out; omega)
      by_cases hbg : bgC L2 = 0
      · have EG := Lib.hid hbg
        have HBK := Lib.hid (bg_back hbg)
        clear hbg
        go_wp2_with fail
        refine (implBranchOfGenerators_any _ L2 _ RC0.out HN2.out HWF2.out).mono ?_
        rintro e W18 ⟨v5, rfl, ho, hb⟩
        rw [EG.out]
        have Q5 := Lib.hid ho.reads
        obtain ⟨A5, c5, e5⟩ : ∃ A c, v5 = .slice A _ c := by obtain ⟨A, c, e, _⟩ := Q5.out; exact ⟨A, c, e⟩
        subst e5
        clear ho
        replace KL := Lib.hid (KL.out.next hb)
        replace Kb := Lib.hid (Kb.out.next hb)
        replace qb := Kb.out.cell
        replace Kk := Lib.hid (Kk.out.next hb)
        replace qk := Kk.out.cell
        replace RB0 := Lib.hid (RB0.out.next hb)
        replace Q1 := Lib.hid (Q1.out.next hb)
        replace Q2 := Lib.hid (Q2.out.next hb)
        replace Q3 := Lib.hid (Q3.out.next hb)
        replace Q4 := Lib.hid (Q4.out.next hb)
        replace RC0 := Lib.hid (RC0.out.next hb)
        clear hb
        have tqb := (Kb.out.next (box_below W18 (.cells #[.slice A5 (bgA L2).length c5] 26))).cell
        have tqk := (Kk.out.next (box_below W18 (.cells #[.slice A5 (bgA L2).length c5] 26))).cell
        have tqx := (KpC.new W18 (.slice A5 (bgA L2).length c5) 26).cell
        go_wp2_with fail
        have Kx : Hid (KpC W18.heap.size (.slice A5 (bgA L2).length c5) (W18.alloc (.cells #[.slice A5 (bgA L2).length c5] 26))) := Lib.hid (KpC.new _ _ _)
        have hb : Below W18.heap.size W18 (W18.alloc (.cells #[.slice A5 (bgA L2).length c5] 26)) := box_below _ _
        generalize W18.alloc (.cells #[.slice A5 (bgA L2).length c5] 26) = W19 at *
        replace KL := Lib.hid (KL.out.next hb)
        replace Kb := Lib.hid (Kb.out.next hb)
        replace qb := Kb.out.cell
        replace Kk := Lib.hid (Kk.out.next hb)
        replace qk := Kk.out.cell
        replace RB0 := Lib.hid (RB0.out.next hb)
        replace Q1 := Lib.hid (Q1.out.next hb)
        replace Q2 := Lib.hid (Q2.out.next hb)
        replace Q3 := Lib.hid (Q3.out.next hb)
        replace Q4 := Lib.hid (Q4.out.next hb)
        replace RC0 := Lib.hid (RC0.out.next hb)
        replace Q5 := Lib.hid (Q5.out.next hb)
        have qx := Kx.out.cell
        clear hb tqb tqk tqx
        go_wp2_with fail
        refine (specBranchOfGenerators_any _ L2 _ RC0.out HN2.out HWF2.out).mono ?_
        rintro e W20 ⟨v6, rfl, ho, hb⟩
        rw [EG.out]
        have Q6 := Lib.hid ho.reads
        obtain ⟨A6, c6, e6⟩ : ∃ A c, v6 = .slice A _ c := by obtain ⟨A, c, e, _⟩ := Q6.out; exact ⟨A, c, e⟩
        subst e6
        clear ho
        replace KL := Lib.hid (KL.out.next hb)
        replace Kb := Lib.hid (Kb.out.next hb)
        replace qb := Kb.out.cell
        replace Kk := Lib.hid (Kk.out.next hb)
        replace qk := Kk.out.cell
        replace Kx := Lib.hid (Kx.out.next hb)
        replace qx := Kx.out.cell
        replace RB0 := Lib.hid (RB0.out.next hb)
        replace Q1 := Lib.hid (Q1.out.next hb)
        replace Q2 := Lib.hid (Q2.out.next hb)
        replace Q3 := Lib.hid (Q3.out.next hb)
        replace Q4 := Lib.hid (Q4.out.next hb)
        replace RC0 := Lib.hid (RC0.out.next hb)
        replace Q5 := Lib.hid (Q5.out.next hb)
        clear hb
        have tqb := (Kb.out.next (box_below W20 (.cells #[.slice A6 (bgA L2).length c6] 26))).cell
        have tqk := (Kk.out.next (box_below W20 (.cells #[.slice A6 (bgA L2).length c6] 26))).cell
        have tqx := (Kx.out.next (box_below W20 (.cells #[.slice A6 (bgA L2).length c6] 26))).cell
        have tqy := (KpC.new W20 (.slice A6 (bgA L2).length c6) 26).cell
        go_wp2_with fail
        have Ky : Hid (KpC W20.heap.size (.slice A6 (bgA L2).length c6) (W20.alloc (.cells #[.slice A6 (bgA L2).length c6] 26))) := Lib.hid (KpC.new _ _ _)
        have hb : Below W20.heap.size W20 (W20.alloc (.cells #[.slice A6 (bgA L2).length c6] 26)) := box_below _ _
        generalize W20.alloc (.cells #[.slice A6 (bgA L2).length c6] 26) = W21 at *
        replace KL := Lib.hid (KL.out.next hb)
        replace Kb := Lib.hid (Kb.out.next hb)
        replace qb := Kb.out.cell
        replace Kk := Lib.hid (Kk.out.next hb)
        replace qk := Kk.out.cell
        replace Kx := Lib.hid (Kx.out.next hb)
        replace qx := Kx.out.cell
        replace RB0 := Lib.hid (RB0.out.next hb)
        replace Q1 := Lib.hid (Q1.out.next hb)
        replace Q2 := Lib.hid (Q2.out.next hb)
        replace Q3 := Lib.hid (Q3.out.next hb)
        replace Q4 := Lib.hid (Q4.out.next hb)
        replace RC0 := Lib.hid (RC0.out.next hb)
        replace Q5 := Lib.hid (Q5.out.next hb)
        replace Q6 := Lib.hid (Q6.out.next hb)
        have qy := Ky.out.cell
        clear hb tqb tqk tqx tqy
        go_wp2_with fail
        refine (likeI _ _ (bgA L2) _ Q5.out Q6.out HBL.out).mono ?_
        rintro e W22 ⟨rfl, hb⟩
        replace KL := Lib.hid (KL.out.next hb)
        replace Kb := Lib.hid (Kb.out.next hb)
        replace qb := Kb.out.cell
        replace Kk := Lib.hid (Kk.out.next hb)
        replace qk := Kk.out.cell
        replace Kx := Lib.hid (Kx.out.next hb)
        replace qx := Kx.out.cell
        replace Ky := Lib.hid (Ky.out.next hb)
        replace qy := Ky.out.cell
        replace RB0 := Lib.hid (RB0.out.next hb)
        replace Q1 := Lib.hid (Q1.out.next hb)
        replace Q2 := Lib.hid (Q2.out.next hb)
        replace Q3 := Lib.hid (Q3.out.next hb)
        replace Q4 := Lib.hid (Q4.out.next hb)
        replace RC0 := Lib.hid (RC0.out.next hb)
        replace Q5 := Lib.hid (Q5.out.next hb)
        replace Q6 := Lib.hid (Q6.out.next hb)
        clear hb
        go_wp2_with fail
        refine (implGeneratorsOf_any _ (bgA L2) _ Q5.out (by have := HBK.out.2.2.1; omega) HBK.out.2.2.2).mono ?_
        rintro e W23 ⟨v7, rfl, ho, hb⟩
        rw [HBK.out.2.1]
        rw [HBK.out.1] at ho
        have Q7 := Lib.hid ho.reads
        obtain ⟨A7, c7, e7⟩ : ∃ A c, v7 = .slice A _ c := by obtain ⟨A, c, e, _⟩ := Q7.out; exact ⟨A, c, e⟩
        subst e7
        clear ho
        replace KL := Lib.hid (KL.out.next hb)
        replace Kb := Lib.hid (Kb.out.next hb)
        replace qb := Kb.out.cell
        replace Kk := Lib.hid (Kk.out.next hb)
        replace qk := Kk.out.cell
        replace Kx := Lib.hid (Kx.out.next hb)
        replace qx := Kx.out.cell
        replace Ky := Lib.hid (Ky.out.next hb)
        replace qy := Ky.out.cell
        replace RB0 := Lib.hid (RB0.out.next hb)
        replace Q1 := Lib.hid (Q1.out.next hb)
        replace Q2 := Lib.hid (Q2.out.next hb)
        replace Q3 := Lib.hid (Q3.out.next hb)
        replace Q4 := Lib.hid (Q4.out.next hb)
        replace RC0 := Lib.hid (RC0.out.next hb)
        replace Q5 := Lib.hid (Q5.out.next hb)
        replace Q6 := Lib.hid (Q6.out.next hb)
        clear hb
        go_wp2_with fail
        refine (likeI _ _ L2 _ Q7.out RC0.out (by have := HN2.out; omega)).mono ?_
        rintro e W24 ⟨rfl, hb⟩
        replace KL := Lib.hid (KL.out.next hb)
        replace Kb := Lib.hid (Kb.out.next hb)
        replace qb := Kb.out.cell
        replace Kk := Lib.hid (Kk.out.next hb)
        replace qk := Kk.out.cell
        replace Kx := Lib.hid (Kx.out.next hb)
        replace qx := Kx.out.cell
        replace Ky := Lib.hid (Ky.out.next hb)
        replace qy := Ky.out.cell
        replace RB0 := Lib.hid (RB0.out.next hb)
        replace Q1 := Lib.hid (Q1.out.next hb)
        replace Q2 := Lib.hid (Q2.out.next hb)
        replace Q3 := Lib.hid (Q3.out.next hb)
        replace Q4 := Lib.hid (Q4.out.next hb)
        replace RC0 := Lib.hid (RC0.out.next hb)
        replace Q5 := Lib.hid (Q5.out.next hb)
        replace Q6 := Lib.hid (Q6.out.next hb)
        replace Q7 := Lib.hid (Q7.out.next hb)
        clear hb
        go_wp2_with fail
        go_ret
        exact ⟨rfl, KL.out.below⟩
      · generalize hC : bgC L2 = C at *
        have EG := Lib.hid hC
        have hCb : (C == 0) = false := by simpa using hbg
        clear hC
        go_wp2_with fail
        refine (implBranchOfGenerators_any _ L2 _ RC0.out HN2.out HWF2.out).mono ?_
        rintro e W18 ⟨v5, rfl, ho, hb⟩
        rw [EG.out]
        have Q5 := Lib.hid ho.reads
        obtain ⟨A5, c5, e5⟩ : ∃ A c, v5 = .slice A _ c := by obtain ⟨A, c, e, _⟩ := Q5.out; exact ⟨A, c, e⟩
        subst e5
        clear ho
        replace KL := Lib.hid (KL.out.next hb)
        replace Kb := Lib.hid (Kb.out.next hb)
        replace qb := Kb.out.cell
        replace Kk := Lib.hid (Kk.out.next hb)
        replace qk := Kk.out.cell
        replace RB0 := Lib.hid (RB0.out.next hb)
        replace Q1 := Lib.hid (Q1.out.next hb)
        replace Q2 := Lib.hid (Q2.out.next hb)
        replace Q3 := Lib.hid (Q3.out.next hb)
        replace Q4 := Lib.hid (Q4.out.next hb)
        replace RC0 := Lib.hid (RC0.out.next hb)
        clear hb
        have tqb := (Kb.out.next (box_below W18 (.cells #[.slice A5 (bgA L2).length c5] 26))).cell
        have tqk := (Kk.out.next (box_below W18 (.cells #[.slice A5 (bgA L2).length c5] 26))).cell
        have tqx := (KpC.new W18 (.slice A5 (bgA L2).length c5) 26).cell
        go_wp2_with fail
        have Kx : Hid (KpC W18.heap.size (.slice A5 (bgA L2).length c5) (W18.alloc (.cells #[.slice A5 (bgA L2).length c5] 26))) := Lib.hid (KpC.new _ _ _)
        have hb : Below W18.heap.size W18 (W18.alloc (.cells #[.slice A5 (bgA L2).length c5] 26)) := box_below _ _
        generalize W18.alloc (.cells #[.slice A5 (bgA L2).length c5] 26) = W19 at *
        replace KL := Lib.hid (KL.out.next hb)
        replace Kb := Lib.hid (Kb.out.next hb)
        replace qb := Kb.out.cell
        replace Kk := Lib.hid (Kk.out.next hb)
        replace qk := Kk.out.cell
        replace RB0 := Lib.hid (RB0.out.next hb)
        replace Q1 := Lib.hid (Q1.out.next hb)
        replace Q2 := Lib.hid (Q2.out.next hb)
        replace Q3 := Lib.hid (Q3.out.next hb)
        replace Q4 := Lib.hid (Q4.out.next hb)
        replace RC0 := Lib.hid (RC0.out.next hb)
        replace Q5 := Lib.hid (Q5.out.next hb)
        have qx := Kx.out.cell
        clear hb tqb tqk tqx
        go_wp2_with fail
        refine (specBranchOfGenerators_any _ L2 _ RC0.out HN2.out HWF2.out).mono ?_
        rintro e W20 ⟨v6, rfl, ho, hb⟩
        rw [EG.out]
        have Q6 := Lib.hid ho.reads
        obtain ⟨A6, c6, e6⟩ : ∃ A c, v6 = .slice A _ c := by obtain ⟨A, c, e, _⟩ := Q6.out; exact ⟨A, c, e⟩
        subst e6
        clear ho
        replace KL := Lib.hid (KL.out.next hb)
        replace Kb := Lib.hid (Kb.out.next hb)
        replace qb := Kb.out.cell
        replace Kk := Lib.hid (Kk.out.next hb)
        replace qk := Kk.out.cell
        replace Kx := Lib.hid (Kx.out.next hb)
        replace qx := Kx.out.cell
        replace RB0 := Lib.hid (RB0.out.next hb)
        replace Q1 := Lib.hid (Q1.out.next hb)
        replace Q2 := Lib.hid (Q2.out.next hb)
        replace Q3 := Lib.hid (Q3.out.next hb)
        replace Q4 := Lib.hid (Q4.out.next hb)
        replace RC0 := Lib.hid (RC0.out.next hb)
        replace Q5 := Lib.hid (Q5.out.next hb)
        clear hb
        have tqb := (Kb.out.next (box_below W20 (.cells #[.slice A6 (bgA L2).length c6] 26))).cell
        have tqk := (Kk.out.next (box_below W20 (.cells #[.slice A6 (bgA L2).length c6] 26))).cell
        have tqx := (Kx.out.next (box_below W20 (.cells #[.slice A6 (bgA L2).length c6] 26))).cell
        have tqy := (KpC.new W20 (.slice A6 (bgA L2).length c6) 26).cell
        go_wp2_with fail
        have Ky : Hid (KpC W20.heap.size (.slice A6 (bgA L2).length c6) (W20.alloc (.cells #[.slice A6 (bgA L2).length c6] 26))) := Lib.hid (KpC.new _ _ _)
        have hb : Below W20.heap.size W20 (W20.alloc (.cells #[.slice A6 (bgA L2).length c6] 26)) := box_below _ _
        generalize W20.alloc (.cells #[.slice A6 (bgA L2).length c6] 26) = W21 at *
        replace KL := Lib.hid (KL.out.next hb)
        replace Kb := Lib.hid (Kb.out.next hb)
        replace qb := Kb.out.cell
        replace Kk := Lib.hid (Kk.out.next hb)
        replace qk := Kk.out.cell
        replace Kx := Lib.hid (Kx.out.next hb)
        replace qx := Kx.out.cell
        replace RB0 := Lib.hid (RB0.out.next hb)
        replace Q1 := Lib.hid (Q1.out.next hb)
        replace Q2 := Lib.hid (Q2.out.next hb)
        replace Q3 := Lib.hid (Q3.out.next hb)
        replace Q4 := Lib.hid (Q4.out.next hb)
        replace RC0 := Lib.hid (RC0.out.next hb)
        replace Q5 := Lib.hid (Q5.out.next hb)
        replace Q6 := Lib.hid (Q6.out.next hb)
        have qy := Ky.out.cell
        clear hb tqb tqk tqx tqy
        go_wp2_with fail
        refine (likeI _ _ (bgA L2) _ Q5.out Q6.out HBL.out).mono ?_
        rintro e W22 ⟨rfl, hb⟩
        replace KL := Lib.hid (KL.out.next hb)
        replace Kb := Lib.hid (Kb.out.next hb)
        replace qb := Kb.out.cell
        replace Kk := Lib.hid (Kk.out.next hb)
        replace qk := Kk.out.cell
        replace Kx := Lib.hid (Kx.out.next hb)
        replace qx := Kx.out.cell
        replace Ky := Lib.hid (Ky.out.next hb)
        replace qy := Ky.out.cell
        replace RB0 := Lib.hid (RB0.out.next hb)
        replace Q1 := Lib.hid (Q1.out.next hb)
        replace Q2 := Lib.hid (Q2.out.next hb)
        replace Q3 := Lib.hid (Q3.out.next hb)
        replace Q4 := Lib.hid (Q4.out.next hb)
        replace RC0 := Lib.hid (RC0.out.next hb)
        replace Q5 := Lib.hid (Q5.out.next hb)
        replace Q6 := Lib.hid (Q6.out.next hb)
        clear hb
        go_wp2_with fail
        go_ret
        exact ⟨rfl, KL.out.below⟩
    · have HX := Lib.hid hx
      clear hx
      go_wp2_with fail
      refine (implIsValue_any _ L v _ RB0.out HN.out HWF.out w1).mono ?_
      rintro e W14 ⟨rfl, hb⟩
      rw [HI1.out, HX.out, HI2.out]
      replace KL := Lib.hid (KL.out.next hb)
      replace Kb := Lib.hid (Kb.out.next hb)
      replace qb := Kb.out.cell
      replace Kk := Lib.hid (Kk.out.next hb)
      replace qk := Kk.out.cell
      replace RB0 := Lib.hid (RB0.out.next hb)
      replace Q1 := Lib.hid (Q1.out.next hb)
      replace Q2 := Lib.hid (Q2.out.next hb)
      replace Q3 := Lib.hid (Q3.out.next hb)
      replace Q4 := Lib.hid (Q4.out.next hb)
      clear hb
      go_wp2_with fail
      refine (implIsValue_any _ L (cc1 - 1 - v) _ RB0.out HN.out HWF.out w2).mono ?_
      rintro e W15 ⟨rfl, hb⟩
      rw [HI3.out, HX.out, HI4.out]
      replace KL := Lib.hid (KL.out.next hb)
      replace Kb := Lib.hid (Kb.out.next hb)
      replace qb := Kb.out.cell
      replace Kk := Lib.hid (Kk.out.next hb)
      replace qk := Kk.out.cell
      replace RB0 := Lib.hid (RB0.out.next hb)
      replace Q1 := Lib.hid (Q1.out.next hb)
      replace Q2 := Lib.hid (Q2.out.next hb)
      replace Q3 := Lib.hid (Q3.out.next hb)
      replace Q4 := Lib.hid (Q4.out.next hb)
      clear hb
      go_wp2_with fail
      refine (hasInt_any _ (gpA L) v _ Q1.out HRL.out).mono ?_
      rintro e W16 ⟨rfl, hb⟩
      rw [HI5.out, HX.out]
      replace KL := Lib.hid (KL.out.next hb)
      replace Kb := Lib.hid (Kb.out.next hb)
      replace qb := Kb.out.cell
      replace Kk := Lib.hid (Kk.out.next hb)
      replace qk := Kk.out.cell
      replace RB0 := Lib.hid (RB0.out.next hb)
      replace Q1 := Lib.hid (Q1.out.next hb)
      replace Q2 := Lib.hid (Q2.out.next hb)
      replace Q3 := Lib.hid (Q3.out.next hb)
      replace Q4 := Lib.hid (Q4.out.next hb)
      clear hb
      go_wp2_with fail
      refine (DrawBranchOfGenerators_any A n c _ KL.out.bytes hn).mono ?_
      rintro e W17 ⟨Ac, nc, cc, L2, rfl, hr, hL, hb⟩
      have HSP2 := Lib.hid hL
      have RC0 := Lib.hid hr
      clear hr hL
      replace KL := Lib.hid (KL.out.next hb)
      replace Kb := Lib.hid (Kb.out.next hb)
      replace qb := Kb.out.cell
      replace Kk := Lib.hid (Kk.out.next hb)
      replace qk := Kk.out.cell
      replace RB0 := Lib.hid (RB0.out.next hb)
      replace Q1 := Lib.hid (Q1.out.next hb)
      replace Q2 := Lib.hid (Q2.out.next hb)
      replace Q3 := Lib.hid (Q3.out.next hb)
      replace Q4 := Lib.hid (Q4.out.next hb)
      clear hb
      have HN2 : Hid (L2.length ≤ 1048576) := Lib.hid (by have := HSP2.out.1; omega)
      have HWF2 := Lib.hid HSP2.out.wf
      have HBL : Hid ((bgA L2).length ≤ 9223372036854775807) := Lib.hid (by have := bgA_len HN2.out; omega)
      by_cases hbg : bgC L2 = 0
      · have EG := Lib.hid hbg
        have HBK := Lib.hid (bg_back hbg)
        clear hbg
        go_wp2_with fail
        refine (implBranchOfGenerators_any _ L2 _ RC0.out HN2.out HWF2.out).mono ?_
        rintro e W18 ⟨v5, rfl, ho, hb⟩
        rw [EG.out]
        have Q5 := Lib.hid ho.reads
        obtain ⟨A5, c5, e5⟩ : ∃ A c, v5 = .slice A _ c := by obtain ⟨A, c, e, _⟩ := Q5.out; exact ⟨A, c, e⟩
        subst e5
        clear ho
        replace KL := Lib.hid (KL.out.next hb)
        replace Kb := Lib.hid (Kb.out.next hb)
        replace qb := Kb.out.cell
        replace Kk := Lib.hid (Kk.out.next hb)
        replace qk := Kk.out.cell
        replace RB0 := Lib.hid (RB0.out.next hb)
        replace Q1 := Lib.hid (Q1.out.next hb)
        replace Q2 := Lib.hid (Q2.out.next hb)
        replace Q3 := Lib.hid (Q3.out.next hb)
        replace Q4 := Lib.hid (Q4.out.next hb)
        replace RC0 := Lib.hid (RC0.out.next hb)
        clear hb
        have tqb := (Kb.out.next (box_below W18 (.cells #[.slice A5 (bgA L2).length c5] 26))).cell
        have tqk := (Kk.out.next (box_below W18 (.cells #[.slice A5 (bgA L2).length c5] 26))).cell
        have tqx := (KpC.new W18 (.slice A5 (bgA L2).length c5) 26).cell
        go_wp2_with fail
        have Kx : Hid (KpC W18.heap.size (.slice A5 (bgA L2).length c5) (W18.alloc (.cells #[.slice A5 (bgA L2).length c5] 26))) := Lib.hid (KpC.new _ _ _)
        have hb : Below W18.heap.size W18 (W18.alloc (.cells #[.slice A5 (bgA L2).length c5] 26)) := box_below _ _
        generalize W18.alloc (.cells #[.slice A5 (bgA L2).length c5] 26) = W19 at *
        replace KL := Lib.hid (KL.out.next hb)
        replace Kb := Lib.hid (Kb.out.next hb)
        replace qb := Kb.out.cell
        replace Kk := Lib.hid (Kk.out.next hb)
        replace qk := Kk.out.cell
        replace RB0 := Lib.hid (RB0.out.next hb)
        replace Q1 := Lib.hid (Q1.out.next hb)
        replace Q2 := Lib.hid (Q2.out.next hb)
        replace Q3 := Lib.hid (Q3.out.next hb)
        replace Q4 := Lib.hid (Q4.out.next hb)
        replace RC0 := Lib.hid (RC0.out.next hb)
        replace Q5 := Lib.hid (Q5.out.next hb)
        have qx := Kx.out.cell
        clear hb tqb tqk tqx
        go_wp2_with fail
        refine (specBranchOfGenerators_any _ L2 _ RC0.out HN2.out HWF2.out).mono ?_
        rintro e W20 ⟨v6, rfl, ho, hb⟩
        rw [EG.out]
        have Q6 := Lib.hid ho.reads
        obtain ⟨A6, c6, e6⟩ : ∃ A c, v6 = .slice A _ c := by obtain ⟨A, c, e, _⟩ := Q6.out; exact ⟨A, c, e⟩
        subst e6
        clear ho
        replace KL := Lib.hid (KL.out.next hb)
        replace Kb := Lib.hid (Kb.out.next hb)
        replace qb := Kb.out.cell
        replace Kk := Lib.hid (Kk.out.next hb)
        replace qk := Kk.out.cell
        replace Kx := Lib.hid (Kx.out.next hb)
        replace qx := Kx.out.cell
        replace RB0 := Lib.hid (RB0.out.next hb)
        replace Q1 := Lib.hid (Q1.out.next hb)
        replace Q2 := Lib.hid (Q2.out.next hb)
        replace Q3 := Lib.hid (Q3.out.next hb)
        replace Q4 := Lib.hid (Q4.out.next hb)
        replace RC0 := Lib.hid (RC0.out.next hb)
        replace Q5 := Lib.hid (Q5.out.next hb)
        clear hb
        have tqb := (Kb.out.next (box_below W20 (.cells #[.slice A6 (bgA L2).length c6] 26))).cell
        have tqk := (Kk.out.next (box_below W20 (.cells #[.slice A6 (bgA L2).length c6] 26))).cell
        have tqx := (Kx.out.next (box_below W20 (.cells #[.slice A6 (bgA L2).length c6] 26))).cell
        have tqy := (KpC.new W20 (.slice A6 (bgA L2).length c6) 26).cell
        go_wp2_with fail
        have Ky : Hid (KpC W20.heap.size (.slice A6 (bgA L2).length c6) (W20.alloc (.cells #[.slice A6 (bgA L2).length c6] 26))) := Lib.hid (KpC.new _ _ _)
        have hb : Below W20.heap.size W20 (W20.alloc (.cells #[.slice A6 (bgA L2).length c6] 26)) := box_below _ _
        generalize W20.alloc (.cells #[.slice A6 (bgA L2).length c6] 26) = W21 at *
        replace KL := Lib.hid (KL.out.next hb)
        replace Kb := Lib.hid (Kb.out.next hb)
        replace qb := Kb.out.cell
        replace Kk := Lib.hid (Kk.out.next hb)
        replace qk := Kk.out.cell
        replace Kx := Lib.hid (Kx.out.next hb)
        replace qx := Kx.out.cell
        replace RB0 := Lib.hid (RB0.out.next hb)
        replace Q1 := Lib.hid (Q1.out.next hb)
        replace Q2 := Lib.hid (Q2.out.next hb)
        replace Q3 := Lib.hid (Q3.out.next hb)
        replace Q4 := Lib.hid (Q4.out.next hb)
        replace RC0 := Lib.hid (RC0.out.next hb)
        replace Q5 := Lib.hid (Q5.out.next hb)
        replace Q6 := Lib.hid (Q6.out.next hb)
        have qy := Ky.out.cell
        clear hb tqb tqk tqx tqy
        go_wp2_with fail
        refine (likeI _ _ (bgA L2) _ Q5.out Q6.out HBL.out).mono ?_
        rintro e W22 ⟨rfl, hb⟩
        replace KL := Lib.hid (KL.out.next hb)
        replace Kb := Lib.hid (Kb.out.next hb)
        replace qb := Kb.out.cell
        replace Kk := Lib.hid (Kk.out.next hb)
        replace qk := Kk.out.cell
        replace Kx := Lib.hid (Kx.out.next hb)
        replace qx := Kx.out.cell
        replace Ky := Lib.hid (Ky.out.next hb)
        replace qy := Ky.out.cell
        replace RB0 := Lib.hid (RB0.out.next hb)
        replace Q1 := Lib.hid (Q1.out.next hb)
        replace Q2 := Lib.hid (Q2.out.next hb)
        replace Q3 := Lib.hid (Q3.out.next hb)
        replace Q4 := Lib.hid (Q4.out.next hb)
        replace RC0 := Lib.hid (RC0.out.next hb)
        replace Q5 := Lib.hid (Q5.out.next hb)
        replace Q6 := Lib.hid (Q6.out.next hb)
        clear hb
        go_wp2_with fail
        refine (implGeneratorsOf_any _ (bgA L2) _ Q5.out (by have := HBK.out.2.2.1; omega) HBK.out.2.2.2).mono ?_
        rintro e W23 ⟨v7, rfl, ho, hb⟩
        rw [HBK.out.2.1]
        rw [HBK.out.1] at ho
        have Q7 := Lib.hid ho.reads
        obtain ⟨A7, c7, e7⟩ : ∃ A c, v7 = .slice A _ c := by obtain ⟨A, c, e, _⟩ := Q7.out; exact ⟨A, c, e⟩
        subst e7
        clear ho
        replace KL := Lib.hid (KL.out.next hb)
        replace Kb := Lib.hid (Kb.out.next hb)
        replace qb := Kb.out.cell
        replace Kk := Lib.hid (Kk.out.next hb)
        replace qk := Kk.out.cell
        replace Kx := Lib.hid (Kx.out.next hb)
        replace qx := Kx.out.cell
        replace Ky := Lib.hid (Ky.out.next hb)
        replace qy := Ky.out.cell
        replace RB0 := Lib.hid (RB0.out.next hb)
        replace Q1 := Lib.hid (Q1.out.next hb)
        replace Q2 := Lib.hid (Q2.out.next hb)
        replace Q3 := Lib.hid (Q3.out.next hb)
        replace Q4 := Lib.hid (Q4.out.next hb)
        replace RC0 := Lib.hid (RC0.out.next hb)
        replace Q5 := Lib.hid (Q5.out.next hb)
        replace Q6 := Lib.hid (Q6.out.next hb)
        clear hb
        go_wp2_with fail
        refine (likeI _ _ L2 _ Q7.out RC0.out (by have := HN2.out; omega)).mono ?_
        rintro e W24 ⟨rfl, hb⟩
        replace KL := Lib.hid (KL.out.next hb)
        replace Kb := Lib.hid (Kb.out.next hb)
        replace qb := Kb.out.cell
        replace Kk := Lib.hid (Kk.out.next hb)
        replace qk := Kk.out.cell
        replace Kx := Lib.hid (Kx.out.next hb)
        replace qx := Kx.out.cell
        replace Ky := Lib.hid (Ky.out.next hb)
        replace qy := Ky.out.cell
        replace RB0 := Lib.hid (RB0.out.next hb)
        replace Q1 := Lib.hid (Q1.out.next hb)
        replace Q2 := Lib.hid (Q2.out.next hb)
        replace Q3 := Lib.hid (Q3.out.next hb)
        replace Q4 := Lib.hid (Q4.out.next hb)
        replace RC0 := Lib.hid (RC0.out.next hb)
        replace Q5 := Lib.hid (Q5.out.next hb)
        replace Q6 := Lib.hid (Q6.out.next hb)
        replace Q7 := Lib.hid (Q7.out.next hb)
        clear hb
        go_wp2_with fail
        go_ret
        exact ⟨rfl, KL.out.below⟩
      · generalize hC : bgC L2 = C at *
        have EG := Lib.hid hC
        have hCb : (C == 0) = false := by simpa using hbg
        clear hC
        go_wp2_with fail
        refine (implBranchOfGenerators_any _ L2 _ RC0.out HN2.out HWF2.out).mono ?_
        rintro e W18 ⟨v5, rfl, ho, hb⟩
        rw [EG.out]
        have Q5 := Lib.hid ho.reads
        obtain ⟨A5, c5, e5⟩ : ∃ A c, v5 = .slice A _ c := by obtain ⟨A, c, e, _⟩ := Q5.out; exact ⟨A, c, e⟩
        subst e5
        clear ho
        replace KL := Lib.hid (KL.out.next hb)
        replace Kb := Lib.hid (Kb.out.next hb)
        replace qb := Kb.out.cell
        replace Kk := Lib.hid (Kk.out.next hb)
        replace qk := Kk.out.cell
        replace RB0 := Lib.hid (RB0.out.next hb)
        replace Q1 := Lib.hid (Q1.out.next hb)
        replace Q2 := Lib.hid (Q2.out.next hb)
        replace Q3 := Lib.hid (Q3.out.next hb)
        replace Q4 := Lib.hid (Q4.out.next hb)
        replace RC0 := Lib.hid (RC0.out.next hb)
        clear hb
        have tqb := (Kb.out.next (box_below W18 (.cells #[.slice A5 (bgA L2).length c5] 26))).cell
        have tqk := (Kk.out.next (box_below W18 (.cells #[.slice A5 (bgA L2).length c5] 26))).cell
        have tqx := (KpC.new W18 (.slice A5 (bgA L2).length c5) 26).cell
        go_wp2_with fail
        have Kx : Hid (KpC W18.heap.size (.slice A5 (bgA L2).length c5) (W18.alloc (.cells #[.slice A5 (bgA L2).length c5] 26))) := Lib.hid (KpC.new _ _ _)
        have hb : Below W18.heap.size W18 (W18.alloc (.cells #[.slice A5 (bgA L2).length c5] 26)) := box_below _ _
        generalize W18.alloc (.cells #[.slice A5 (bgA L2).length c5] 26) = W19 at *
        replace KL := Lib.hid (KL.out.next hb)
        replace Kb := Lib.hid (Kb.out.next hb)
        replace qb := Kb.out.cell
        replace Kk := Lib.hid (Kk.out.next hb)
        replace qk := Kk.out.cell
        replace RB0 := Lib.hid (RB0.out.next hb)
        replace Q1 := Lib.hid (Q1.out.next hb)
        replace Q2 := Lib.hid (Q2.out.next hb)
        replace Q3 := Lib.hid (Q3.out.next hb)
        replace Q4 := Lib.hid (Q4.out.next hb)
        replace RC0 := Lib.hid (RC0.out.next hb)
        replace Q5 := Lib.hid (Q5.out.next hb)
        have qx := Kx.out.cell
        clear hb tqb tqk tqx
        go_wp2_with fail
        refine (specBranchOfGenerators_any _ L2 _ RC0.out HN2.out HWF2.out).mono ?_
        rintro e W20 ⟨v6, rfl, ho, hb⟩
        rw [EG.out]
        have Q6 := Lib.hid ho.reads
        obtain ⟨A6, c6, e6⟩ : ∃ A c, v6 = .slice A _ c := by obtain ⟨A, c, e, _⟩ := Q6.out; exact ⟨A, c, e⟩
        subst e6
        clear ho
        replace KL := Lib.hid (KL.out.next hb)
        replace Kb := Lib.hid (Kb.out.next hb)
        replace qb := Kb.out.cell
        replace Kk := Lib.hid (Kk.out.next hb)
        replace qk := Kk.out.cell
        replace Kx := Lib.hid (Kx.out.next hb)
        replace qx := Kx.out.cell
        replace RB0 := Lib.hid (RB0.out.next hb)
        replace Q1 := Lib.hid (Q1.out.next hb)
        replace Q2 := Lib.hid (Q2.out.next hb)
        replace Q3 := Lib.hid (Q3.out.next hb)
        replace Q4 := Lib.hid (Q4.out.next hb)
        replace RC0 := Lib.hid (RC0.out.next hb)
        replace Q5 := Lib.hid (Q5.out.next hb)
        clear hb
        have tqb := (Kb.out.next (box_below W20 (.cells #[.slice A6 (bgA L2).length c6] 26))).cell
        have tqk := (Kk.out.next (box_below W20 (.cells #[.slice A6 (bgA L2).length c6] 26))).cell
        have tqx := (Kx.out.next (box_below W20 (.cells #[.slice A6 (bgA L2).length c6] 26))).cell
        have tqy := (KpC.new W20 (.slice A6 (bgA L2).length c6) 26).cell
        go_wp2_with fail
        have Ky : Hid (KpC W20.heap.size (.slice A6 (bgA L2).length c6) (W20.alloc (.cells #[.slice A6 (bgA L2).length c6] 26))) := Lib.hid (KpC.new _ _ _)
        have hb : Below W20.heap.size W20 (W20.alloc (.cells #[.slice A6 (bgA L2).length c6] 26)) := box_below _ _
        generalize W20.alloc (.cells #[.slice A6 (bgA L2).length c6] 26) = W21 at *
        replace KL := Lib.hid (KL.out.next hb)
        replace Kb := Lib.hid (Kb.out.next hb)
        replace qb := Kb.out.cell
        replace Kk := Lib.hid (Kk.out.next hb)
        replace qk := Kk.out.cell
        replace Kx := Lib.hid (Kx.out.next hb)
        replace qx := Kx.out.cell
        replace RB0 := Lib.hid (RB0.out.next hb)
        replace Q1 := Lib.hid (Q1.out.next hb)
        replace Q2 := Lib.hid (Q2.out.next hb)
        replace Q3 := Lib.hid (Q3.out.next hb)
        replace Q4 := Lib.hid (Q4.out.next hb)
        replace RC0 := Lib.hid (RC0.out.next hb)
        replace Q5 := Lib.hid (Q5.out.next hb)
        replace Q6 := Lib.hid (Q6.out.next hb)
        have qy := Ky.out.cell
        clear hb tqb tqk tqx tqy
        go_wp2_with fail
        refine (likeI _ _ (bgA L2) _ Q5.out Q6.out HBL.out).mono ?_
        rintro e W22 ⟨rfl, hb⟩
        replace KL := Lib.hid (KL.out.next hb)
        replace Kb := Lib.hid (Kb.out.next hb)
        replace qb := Kb.out.cell
        replace Kk := Lib.hid (Kk.out.next hb)
        replace qk := Kk.out.cell
        replace Kx := Lib.hid (Kx.out.next hb)
        replace qx := Kx.out.cell
        replace Ky := Lib.hid (Ky.out.next hb)
        replace qy := Ky.out.cell
        replace RB0 := Lib.hid (RB0.out.next hb)
        replace Q1 := Lib.hid (Q1.out.next hb)
        replace Q2 := Lib.hid (Q2.out.next hb)
        replace Q3 := Lib.hid (Q3.out.next hb)
        replace Q4 := Lib.hid (Q4.out.next hb)
        replace RC0 := Lib.hid (RC0.out.next hb)
        replace Q5 := Lib.hid (Q5.out.next hb)
        replace Q6 := Lib.hid (Q6.out.next hb)
        clear hb
        go_wp2_with fail
        go_ret
        exact ⟨rfl, KL.out.below⟩

set_option maxRecDepth 100000 in
theorem FnSemigroups_lifted (os : Os) (started : os.Started) (H : Type) (enc : TypeId × Value → H) :
    ReturnsInHanded {} Try.checked os 5 .any (Rows.fnSemigroupsSpec.pre6 enc Try.prog Try.f5 Rows.fnSemigroupsRow.domain false) (Rows.fnSemigroupsSpec.post enc Try.prog Try.f5 false true false false) := by
  refine returnsInHanded_of_change (C := Try.checked) Try.own started (by kernel_rfl) Try.func5
    (ChangeSpec.witness6 (enc := enc) (C := Try.checked) false ⟨#[], #[.slice none 0 0], []⟩ 8 (by kernel_rfl) (by kernel_rfl) (by kernel_rfl) (by kernel_rfl)) ?_
  intro W base args ds gs before hval0 hW hcnd _
  have hval : ∀ (j : Nat) t v, Try.f5.params[j]? = some t → args[j]? = some v → Value.okWide Try.prog W .any base t v := hval0
  have hW' := hW
  have hltW : ∀ x ∈ before, x.block < W.heap.size := fun x hx => by simpa using hW'.lt x hx
  obtain ⟨p, q, hA0, hV, rfl, hfz, hnd⟩ := hW
  have hA : DataW.TrodAll enc Try.prog W 0 (fun _ => true) true Try.f5.params.toList args.toList ds p := hA0
  rw [Try.params5] at hA hval
  obtain ⟨v0, vs0, d0, ds0, p0, q0, hargs, rfl, rfl, h0, r0⟩ := trodAll_cons hA
  obtain ⟨rfl, rfl, rfl⟩ := trodAll_nil r0
  obtain rfl : args = #[v0] := by cases args; simp_all
  obtain ⟨rfl, rfl⟩ := trodVars_none hV
  obtain ⟨A0, n0, c0, rfl, hr0, hn0⟩ := open_row_bytes (B := W.heap.size) (hval 0 22 v0 rfl rfl) h0 (fun x hx => hltW x (by simp [hx]))
  refine (FnSemigroups_walk A0 n0 c0 W hr0 hn0).mono fun e W' ⟨he, hb⟩ => ?_
  subst he
  exact ⟨_, rfl, law_post (tb := 4) Try.laidOut (by kernel_rfl) rfl Try.underlying4 rfl rfl hW' hb⟩

/-- The given statement. -/
theorem fnSemigroups_proved : Rows.FnSemigroupsSaid :=
  OpenClaim.holds_of_wide 5 Try.f5 rfl rfl rfl rfl rfl rfl rfl ⟨rfl, rfl, rfl, rfl, rfl⟩ rfl rfl rfl rfl rfl (by kernel_rfl) Try.func5 (by kernel_rfl)
    (of_decide_eq_true (by kernel_rfl)) (by unfold Func.isWrapper; first | (rw [if_pos (by decide +kernel)]; kernel_rfl) | (rw [if_neg (by decide +kernel)]; exact ⟨rfl, rfl⟩))
    (fun os started H enc _ => FnSemigroups_lifted os started H enc)
end Go.Proofs.Ytjgidalmgoifgaa
