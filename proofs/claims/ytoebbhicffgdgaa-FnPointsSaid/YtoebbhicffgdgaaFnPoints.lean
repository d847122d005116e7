/- laws.FnPoints: it returns true and leaves old memory as it was. Condition: the bytes read. -/
import Derived.Test.YtoebbhicffgdgaaFnPw
import Derived.Test.YtoebbhicffgdgaaDrO
import Derived.Test.YtoebbhicffgdgaaPoI
import Derived.Test.YtoebbhicffgdgaaPtW
import Derived.Test.YtoebbhicffgdgaaZA
import Derived.Test.YtoebbhicffgdgaaZB
import Derived.Test.YtoebbhicffgdgaaZE
namespace Go.Proofs.Ytoebbhicffgdgaa
open Go.ChangeShapes Go.WideShapes Go.ChangeAt Go.RowKit Go.Deep
set_option linter.unusedVariables false
set_option linter.unusedSimpArgs false

set_option maxRecDepth 100000 in
set_option maxHeartbeats 8000000 in
theorem FnPoints_walk (A : Option Addr) (n c : Nat) (w : World) (hr : RB w w.heap.size A n) (hn : n ≤ 9223372036854775807) :
    Calls Try.prog 3 #[.slice A n c] w fun e w' => e = .returned (.bool true) ∧ Below w.heap.size w w' := by
  have KL : Hid (KpL w A n w) := Lib.hid ⟨hr, Below.refl _ _⟩
  clear hr
  rcases (show (4096 : Int) < (n : Int) ∨ (n : Int) ≤ 4096 by omega) with hn4 | hn4
  · go_enter Try.func3, Try.ntmps3
    go_wp2_with fail
    refine (bigF_any A n c _ hn).mono ?_
    rintro e w' ⟨rfl, rfl⟩
    go_wp2_with fail
    go_ret
    exact ⟨rfl, Below.refl _ _⟩
  go_enter Try.func3, Try.ntmps3
  go_wp2_with fail
  refine (bigF_any A n c _ hn).mono ?_
  rintro e w' ⟨rfl, rfl⟩
  go_wp2_with fail
  refine (DrawOrdersOf_any A n c _ KL.out.bytes hn).mono ?_
  rintro e W1 ⟨Ab, nb, cb, L, x, rfl, hr, hge, hL, hx, hb⟩
  have HSP := Lib.hid hL
  have RB0 := Lib.hid hr
  have HX := Lib.hid hx
  clear hr hge hL hx
  replace KL := Lib.hid (KL.out.next hb)
  clear hb
  have tqb := (KpC.new W1 (.slice Ab nb cb) 26).cell
  go_wp2_with fail
  have Kb : Hid (KpC W1.heap.size (.slice Ab nb cb) (W1.alloc (.cells #[.slice Ab nb cb] 26))) := Lib.hid (KpC.new _ _ _)
  have hb : Below W1.heap.size W1 (W1.alloc (.cells #[.slice Ab nb cb] 26)) := box_below _ _
  generalize W1.alloc (.cells #[.slice Ab nb cb] 26) = W2 at *
  replace KL := Lib.hid (KL.out.next hb)
  replace RB0 := Lib.hid (RB0.out.next hb)
  have qb := Kb.out.cell
  clear hb tqb
  have HN : Hid (L.length ≤ 1048576) := Lib.hid (by have := HSP.out.1; omega)
  have HWF := Lib.hid HSP.out.wf
  have HWX : Hid ((Lit.int .i64 x).wf = true) := Lib.hid (i64_wf (by have := HX.out; omega) (by have := HX.out; omega))
  rcases (show (∃ C, ptC L x = C ∧ C ≠ 0) ∨ ∃ N : Nat, brB L = true ∧ x = (N : Int) ∧ 1 ≤ N ∧ N ≤ 400 ∧ ptC L x = 0 by
    rcases pt_cases L x with ⟨_, h⟩ | ⟨_, _, h⟩ | h
    · exact .inl ⟨_, h, by omega⟩
    · exact .inl ⟨_, h, by omega⟩
    · exact .inr h) with ⟨C, hC, hC0⟩ | ⟨N, hp, rfl, h1, h4, hc⟩
  · as_aux_lemma =>
      have EC := Lib.hid hC
      have HC0 := Lib.hid hC0
      have hCb : (C == 0) = false := by simpa using hC0
      clear hC hC0
      go_wp2_with fail
      refine (implOrdersOf_any _ L _ _ RB0.out HN.out HWF.out HWX.out).mono ?_
      rintro e W3 ⟨v1, rfl, ho, hb⟩
      rw [EC.out]
      rw [orA_no EC.out HC0.out] at ho
      have Q1 := Lib.hid ho.reads
      obtain ⟨A1, c1, e1⟩ : ∃ A c, v1 = .slice A _ c := by obtain ⟨A, c, e, _⟩ := Q1.out; exact ⟨A, c, e⟩
      subst e1
      clear ho
      replace KL := Lib.hid (KL.out.next hb)
      replace Kb := Lib.hid (Kb.out.next hb)
      replace qb := Kb.out.cell
      replace RB0 := Lib.hid (RB0.out.next hb)
      clear hb
      go_wp2_with fail
      refine (specOrdersOf_any _ L _ _ RB0.out HN.out HWF.out HWX.out).mono ?_
      rintro e W4 ⟨v2, rfl, ho, hb⟩
      rw [EC.out]
      rw [orA_no EC.out HC0.out] at ho
      have Q2 := Lib.hid ho.reads
      obtain ⟨A2, c2, e2⟩ : ∃ A c, v2 = .slice A _ c := by obtain ⟨A, c, e, _⟩ := Q2.out; exact ⟨A, c, e⟩
      subst e2
      clear ho
      replace KL := Lib.hid (KL.out.next hb)
      replace Kb := Lib.hid (Kb.out.next hb)
      replace qb := Kb.out.cell
      replace RB0 := Lib.hid (RB0.out.next hb)
      replace Q1 := Lib.hid (Q1.out.next hb)
      clear hb
      go_wp2_with fail
      refine (implProximatesOf_any _ L _ _ RB0.out HN.out HWF.out HWX.out).mono ?_
      rintro e W5 ⟨v3, rfl, ho, hb⟩
      rw [EC.out]
      rw [prA_no EC.out HC0.out] at ho
      have Q3 := Lib.hid ho.reads
      obtain ⟨A3, c3, e3⟩ : ∃ A c, v3 = .slice A _ c := by obtain ⟨A, c, e, _⟩ := Q3.out; exact ⟨A, c, e⟩
      subst e3
      clear ho
      replace KL := Lib.hid (KL.out.next hb)
      replace Kb := Lib.hid (Kb.out.next hb)
      replace qb := Kb.out.cell
      replace RB0 := Lib.hid (RB0.out.next hb)
      replace Q1 := Lib.hid (Q1.out.next hb)
      replace Q2 := Lib.hid (Q2.out.next hb)
      clear hb
      go_wp2_with fail
      refine (specProximatesOf_any _ L _ _ RB0.out HN.out HWF.out HWX.out).mono ?_
      rintro e W6 ⟨v4, rfl, ho, hb⟩
      rw [EC.out]
      rw [prA_no EC.out HC0.out] at ho
      have Q4 := Lib.hid ho.reads
      obtain ⟨A4, c4, e4⟩ : ∃ A c, v4 = .slice A _ c := by obtain ⟨A, c, e, _⟩ := Q4.out; exact ⟨A, c, e⟩
      subst e4
      clear ho
      replace KL := Lib.hid (KL.out.next hb)
      replace Kb := Lib.hid (Kb.out.next hb)
      replace qb := Kb.out.cell
      replace RB0 := Lib.hid (RB0.out.next hb)
      replace Q1 := Lib.hid (Q1.out.next hb)
      replace Q2 := Lib.hid (Q2.out.next hb)
      replace Q3 := Lib.hid (Q3.out.next hb)
      clear hb
      go_wp2_with fail
      refine (implCodeOf_any _ L _ _ RB0.out HN.out HWF.out HWX.out).mono ?_
      rintro e W7 ⟨v5, rfl, ho, hb⟩
      rw [EC.out]
      rw [ptK_no EC.out HC0.out] at ho
      have Q5 := Lib.hid ho.reads
      obtain ⟨A5, c5, e5⟩ : ∃ A c, v5 = .slice A _ c := by obtain ⟨A, c, e, _⟩ := Q5.out; exact ⟨A, c, e⟩
      subst e5
      clear ho
      replace KL := Lib.hid (KL.out.next hb)
      replace Kb := Lib.hid (Kb.out.next hb)
      replace qb := Kb.out.cell
      replace RB0 := Lib.hid (RB0.out.next hb)
      replace Q1 := Lib.hid (Q1.out.next hb)
      replace Q2 := Lib.hid (Q2.out.next hb)
      replace Q3 := Lib.hid (Q3.out.next hb)
      replace Q4 := Lib.hid (Q4.out.next hb)
      clear hb
      go_wp2_with fail
      refine (specCodeOf_any _ L _ _ RB0.out HN.out HWF.out HWX.out).mono ?_
      rintro e W8 ⟨v6, rfl, ho, hb⟩
      rw [EC.out]
      rw [ptK_no EC.out HC0.out] at ho
      have Q6 := Lib.hid ho.reads
      obtain ⟨A6, c6, e6⟩ : ∃ A c, v6 = .slice A _ c := by obtain ⟨A, c, e, _⟩ := Q6.out; exact ⟨A, c, e⟩
      subst e6
      clear ho
      replace KL := Lib.hid (KL.out.next hb)
      replace Kb := Lib.hid (Kb.out.next hb)
      replace qb := Kb.out.cell
      replace RB0 := Lib.hid (RB0.out.next hb)
      replace Q1 := Lib.hid (Q1.out.next hb)
      replace Q2 := Lib.hid (Q2.out.next hb)
      replace Q3 := Lib.hid (Q3.out.next hb)
      replace Q4 := Lib.hid (Q4.out.next hb)
      replace Q5 := Lib.hid (Q5.out.next hb)
      clear hb
      go_wp2_with fail
      refine (implMultiplicitiesAt_any _ L _ _ RB0.out HN.out HWF.out HWX.out).mono ?_
      rintro e W9 ⟨v7, rfl, ho, hb⟩
      rw [EC.out]
      rw [mqA_no EC.out HC0.out] at ho
      have Q7 := Lib.hid ho.reads
      obtain ⟨A7, c7, e7⟩ : ∃ A c, v7 = .slice A _ c := by obtain ⟨A, c, e, _⟩ := Q7.out; exact ⟨A, c, e⟩
      subst e7
      clear ho
      replace KL := Lib.hid (KL.out.next hb)
      replace Kb := Lib.hid (Kb.out.next hb)
      replace qb := Kb.out.cell
      replace RB0 := Lib.hid (RB0.out.next hb)
      replace Q1 := Lib.hid (Q1.out.next hb)
      replace Q2 := Lib.hid (Q2.out.next hb)
      replace Q3 := Lib.hid (Q3.out.next hb)
      replace Q4 := Lib.hid (Q4.out.next hb)
      replace Q5 := Lib.hid (Q5.out.next hb)
      replace Q6 := Lib.hid (Q6.out.next hb)
      clear hb
      go_wp2_with fail
      refine (specMultiplicitiesAt_any _ L _ _ RB0.out HN.out HWF.out HWX.out).mono ?_
      rintro e W10 ⟨v8, rfl, ho, hb⟩
      rw [EC.out]
      rw [mqA_no EC.out HC0.out] at ho
      have Q8 := Lib.hid ho.reads
      obtain ⟨A8, c8, e8⟩ : ∃ A c, v8 = .slice A _ c := by obtain ⟨A, c, e, _⟩ := Q8.out; exact ⟨A, c, e⟩
      subst e8
      clear ho
      replace KL := Lib.hid (KL.out.next hb)
      replace Kb := Lib.hid (Kb.out.next hb)
      replace qb := Kb.out.cell
      replace RB0 := Lib.hid (RB0.out.next hb)
      replace Q1 := Lib.hid (Q1.out.next hb)
      replace Q2 := Lib.hid (Q2.out.next hb)
      replace Q3 := Lib.hid (Q3.out.next hb)
      replace Q4 := Lib.hid (Q4.out.next hb)
      replace Q5 := Lib.hid (Q5.out.next hb)
      replace Q6 := Lib.hid (Q6.out.next hb)
      replace Q7 := Lib.hid (Q7.out.next hb)
      clear hb
      go_wp2_with fail
      refine (implCountSatellites_any _ L _ _ RB0.out HN.out HWF.out HWX.out).mono ?_
      rintro e W11 ⟨rfl, hb⟩
      rw [EC.out, satA_no EC.out HC0.out]
      replace KL := Lib.hid (KL.out.next hb)
      replace Kb := Lib.hid (Kb.out.next hb)
      replace qb := Kb.out.cell
      replace RB0 := Lib.hid (RB0.out.next hb)
      replace Q1 := Lib.hid (Q1.out.next hb)
      replace Q2 := Lib.hid (Q2.out.next hb)
      replace Q3 := Lib.hid (Q3.out.next hb)
      replace Q4 := Lib.hid (Q4.out.next hb)
      replace Q5 := Lib.hid (Q5.out.next hb)
      replace Q6 := Lib.hid (Q6.out.next hb)
      replace Q7 := Lib.hid (Q7.out.next hb)
      replace Q8 := Lib.hid (Q8.out.next hb)
      clear hb
      go_wp2_with fail
      refine (specCountSatellites_any _ L _ _ RB0.out HN.out HWF.out HWX.out).mono ?_
      rintro e W12 ⟨rfl, hb⟩
      rw [EC.out, satA_no EC.out HC0.out]
      replace KL := Lib.hid (KL.out.next hb)
      replace Kb := Lib.hid (Kb.out.next hb)
      replace qb := Kb.out.cell
      replace RB0 := Lib.hid (RB0.out.next hb)
      replace Q1 := Lib.hid (Q1.out.next hb)
      replace Q2 := Lib.hid (Q2.out.next hb)
      replace Q3 := Lib.hid (Q3.out.next hb)
      replace Q4 := Lib.hid (Q4.out.next hb)
      replace Q5 := Lib.hid (Q5.out.next hb)
      replace Q6 := Lib.hid (Q6.out.next hb)
      replace Q7 := Lib.hid (Q7.out.next hb)
      replace Q8 := Lib.hid (Q8.out.next hb)
      clear hb
      go_wp2_with fail
      refine (likeI _ _ [] _ Q1.out Q2.out (by simp)).mono ?_
      rintro e W13 ⟨rfl, hb⟩
      replace KL := Lib.hid (KL.out.next hb)
      replace Kb := Lib.hid (Kb.out.next hb)
      replace qb := Kb.out.cell
      replace RB0 := Lib.hid (RB0.out.next hb)
      replace Q1 := Lib.hid (Q1.out.next hb)
      replace Q2 := Lib.hid (Q2.out.next hb)
      replace Q3 := Lib.hid (Q3.out.next hb)
      replace Q4 := Lib.hid (Q4.out.next hb)
      replace Q5 := Lib.hid (Q5.out.next hb)
      replace Q6 := Lib.hid (Q6.out.next hb)
      replace Q7 := Lib.hid (Q7.out.next hb)
      replace Q8 := Lib.hid (Q8.out.next hb)
      clear hb
      go_wp2_with fail
      refine (likeQ _ _ [] _ Q3.out Q4.out (by simp) (fun k => by simp [lens])).mono ?_
      rintro e W14 ⟨rfl, hb⟩
      replace KL := Lib.hid (KL.out.next hb)
      replace Kb := Lib.hid (Kb.out.next hb)
      replace qb := Kb.out.cell
      replace RB0 := Lib.hid (RB0.out.next hb)
      replace Q1 := Lib.hid (Q1.out.next hb)
      replace Q2 := Lib.hid (Q2.out.next hb)
      replace Q3 := Lib.hid (Q3.out.next hb)
      replace Q4 := Lib.hid (Q4.out.next hb)
      replace Q5 := Lib.hid (Q5.out.next hb)
      replace Q6 := Lib.hid (Q6.out.next hb)
      replace Q7 := Lib.hid (Q7.out.next hb)
      replace Q8 := Lib.hid (Q8.out.next hb)
      clear hb
      go_wp2_with fail
      refine (likeI _ _ [] _ Q5.out Q6.out (by simp)).mono ?_
      rintro e W15 ⟨rfl, hb⟩
      replace KL := Lib.hid (KL.out.next hb)
      replace Kb := Lib.hid (Kb.out.next hb)
      replace qb := Kb.out.cell
      replace RB0 := Lib.hid (RB0.out.next hb)
      replace Q1 := Lib.hid (Q1.out.next hb)
      replace Q2 := Lib.hid (Q2.out.next hb)
      replace Q3 := Lib.hid (Q3.out.next hb)
      replace Q4 := Lib.hid (Q4.out.next hb)
      replace Q5 := Lib.hid (Q5.out.next hb)
      replace Q6 := Lib.hid (Q6.out.next hb)
      replace Q7 := Lib.hid (Q7.out.next hb)
      replace Q8 := Lib.hid (Q8.out.next hb)
      clear hb
      go_wp2_with fail
      refine (likeI _ _ [] _ Q7.out Q8.out (by simp)).mono ?_
      rintro e W16 ⟨rfl, hb⟩
      replace KL := Lib.hid (KL.out.next hb)
      replace Kb := Lib.hid (Kb.out.next hb)
      replace qb := Kb.out.cell
      replace RB0 := Lib.hid (RB0.out.next hb)
      replace Q1 := Lib.hid (Q1.out.next hb)
      replace Q2 := Lib.hid (Q2.out.next hb)
      replace Q3 := Lib.hid (Q3.out.next hb)
      replace Q4 := Lib.hid (Q4.out.next hb)
      replace Q5 := Lib.hid (Q5.out.next hb)
      replace Q6 := Lib.hid (Q6.out.next hb)
      replace Q7 := Lib.hid (Q7.out.next hb)
      replace Q8 := Lib.hid (Q8.out.next hb)
      clear hb
      go_wp2_with fail
      go_ret
      exact ⟨rfl, KL.out.below⟩
  · as_aux_lemma =>
      obtain ⟨mm, ho⟩ := PtOK.make hp h1 h4 hc
      have HO := Lib.hid ho
      have EC := Lib.hid ho.code
      clear ho hc hp h1 h4
      go_wp2_with fail
      refine (implOrdersOf_any _ L _ _ RB0.out HN.out HWF.out HWX.out).mono ?_
      rintro e W3 ⟨v1, rfl, ho, hb⟩
      rw [EC.out]
      rw [HO.out.oa] at ho
      have Q1 := Lib.hid ho.reads
      obtain ⟨A1, c1, e1⟩ : ∃ A c, v1 = .slice A N c := by obtain ⟨A, c, e, _⟩ := Q1.out; rw [HO.out.olen] at e; exact ⟨A, c, e⟩
      subst e1
      obtain ⟨g1, e0, _, _, _, _⟩ := own_at ho HO.out.olen (j := 0) HO.out.n1
      subst e0
      clear ho
      replace KL := Lib.hid (KL.out.next hb)
      replace Kb := Lib.hid (Kb.out.next hb)
      replace qb := Kb.out.cell
      replace RB0 := Lib.hid (RB0.out.next hb)
      clear hb
      go_wp2_with fail
      refine (specOrdersOf_any _ L _ _ RB0.out HN.out HWF.out HWX.out).mono ?_
      rintro e W4 ⟨v2, rfl, ho, hb⟩
      rw [EC.out]
      rw [HO.out.oa] at ho
      have Q2 := Lib.hid ho.reads
      obtain ⟨A2, c2, e2⟩ : ∃ A c, v2 = .slice A N c := by obtain ⟨A, c, e, _⟩ := Q2.out; rw [HO.out.olen] at e; exact ⟨A, c, e⟩
      subst e2
      clear ho
      replace KL := Lib.hid (KL.out.next hb)
      replace Kb := Lib.hid (Kb.out.next hb)
      replace qb := Kb.out.cell
      replace RB0 := Lib.hid (RB0.out.next hb)
      replace Q1 := Lib.hid (Q1.out.next hb)
      clear hb
      go_wp2_with fail
      refine (implProximatesOf_any _ L _ _ RB0.out HN.out HWF.out HWX.out).mono ?_
      rintro e W5 ⟨v3, rfl, ho, hb⟩
      rw [EC.out]
      rw [HO.out.pa] at ho
      have Q3 := Lib.hid ho.reads
      obtain ⟨A3, c3, e3⟩ : ∃ A c, v3 = .slice A N c := by obtain ⟨A, c, e, _⟩ := Q3.out; rw [HO.out.plen] at e; exact ⟨A, c, e⟩
      subst e3
      obtain ⟨gn, on, cn, A3n, c3n, e0, hgn, _⟩ := near_row Q3.out HO.out.mq (j := 0) HO.out.n1
      simp only [Value.slice.injEq] at e0
      obtain ⟨rfl, _, rfl⟩ := e0
      clear hgn
      clear ho
      replace KL := Lib.hid (KL.out.next hb)
      replace Kb := Lib.hid (Kb.out.next hb)
      replace qb := Kb.out.cell
      replace RB0 := Lib.hid (RB0.out.next hb)
      replace Q1 := Lib.hid (Q1.out.next hb)
      replace Q2 := Lib.hid (Q2.out.next hb)
      clear hb
      go_wp2_with fail
      refine (specProximatesOf_any _ L _ _ RB0.out HN.out HWF.out HWX.out).mono ?_
      rintro e W6 ⟨v4, rfl, ho, hb⟩
      rw [EC.out]
      rw [HO.out.pa] at ho
      have Q4 := Lib.hid ho.reads
      obtain ⟨A4, c4, e4⟩ : ∃ A c, v4 = .slice A N c := by obtain ⟨A, c, e, _⟩ := Q4.out; rw [HO.out.plen] at e; exact ⟨A, c, e⟩
      subst e4
      clear ho
      replace KL := Lib.hid (KL.out.next hb)
      replace Kb := Lib.hid (Kb.out.next hb)
      replace qb := Kb.out.cell
      replace RB0 := Lib.hid (RB0.out.next hb)
      replace Q1 := Lib.hid (Q1.out.next hb)
      replace Q2 := Lib.hid (Q2.out.next hb)
      replace Q3 := Lib.hid (Q3.out.next hb)
      clear hb
      go_wp2_with fail
      refine (implCodeOf_any _ L _ _ RB0.out HN.out HWF.out HWX.out).mono ?_
      rintro e W7 ⟨v5, rfl, ho, hb⟩
      rw [EC.out]
      rw [HO.out.ka] at ho
      have Q5 := Lib.hid ho.reads
      obtain ⟨A5, c5, e5⟩ : ∃ A c, v5 = .slice A (N - 1) c := by obtain ⟨A, c, e, _⟩ := Q5.out; rw [HO.out.klen] at e; exact ⟨A, c, e⟩
      subst e5
      clear ho
      replace KL := Lib.hid (KL.out.next hb)
      replace Kb := Lib.hid (Kb.out.next hb)
      replace qb := Kb.out.cell
      replace RB0 := Lib.hid (RB0.out.next hb)
      replace Q1 := Lib.hid (Q1.out.next hb)
      replace Q2 := Lib.hid (Q2.out.next hb)
      replace Q3 := Lib.hid (Q3.out.next hb)
      replace Q4 := Lib.hid (Q4.out.next hb)
      clear hb
      go_wp2_with fail
      refine (specCodeOf_any _ L _ _ RB0.out HN.out HWF.out HWX.out).mono ?_
      rintro e W8 ⟨v6, rfl, ho, hb⟩
      rw [EC.out]
      rw [HO.out.ka] at ho
      have Q6 := Lib.hid ho.reads
      obtain ⟨A6, c6, e6⟩ : ∃ A c, v6 = .slice A (N - 1) c := by obtain ⟨A, c, e, _⟩ := Q6.out; rw [HO.out.klen] at e; exact ⟨A, c, e⟩
      subst e6
      clear ho
      replace KL := Lib.hid (KL.out.next hb)
      replace Kb := Lib.hid (Kb.out.next hb)
      replace qb := Kb.out.cell
      replace RB0 := Lib.hid (RB0.out.next hb)
      replace Q1 := Lib.hid (Q1.out.next hb)
      replace Q2 := Lib.hid (Q2.out.next hb)
      replace Q3 := Lib.hid (Q3.out.next hb)
      replace Q4 := Lib.hid (Q4.out.next hb)
      replace Q5 := Lib.hid (Q5.out.next hb)
      clear hb
      go_wp2_with fail
      refine (implMultiplicitiesAt_any _ L _ _ RB0.out HN.out HWF.out HWX.out).mono ?_
      rintro e W9 ⟨v7, rfl, ho, hb⟩
      rw [EC.out]
      rw [HO.out.ma] at ho
      have Q7 := Lib.hid ho.reads
      obtain ⟨A7, c7, e7⟩ : ∃ A c, v7 = .slice A N c := by obtain ⟨A, c, e, _⟩ := Q7.out; rw [HO.out.mq.len] at e; exact ⟨A, c, e⟩
      subst e7
      obtain ⟨g7, e0, _, _, _, _⟩ := own_at ho HO.out.mq.len (j := 0) HO.out.n1
      subst e0
      clear ho
      replace KL := Lib.hid (KL.out.next hb)
      replace Kb := Lib.hid (Kb.out.next hb)
      replace qb := Kb.out.cell
      replace RB0 := Lib.hid (RB0.out.next hb)
      replace Q1 := Lib.hid (Q1.out.next hb)
      replace Q2 := Lib.hid (Q2.out.next hb)
      replace Q3 := Lib.hid (Q3.out.next hb)
      replace Q4 := Lib.hid (Q4.out.next hb)
      replace Q5 := Lib.hid (Q5.out.next hb)
      replace Q6 := Lib.hid (Q6.out.next hb)
      clear hb
      go_wp2_with fail
      refine (specMultiplicitiesAt_any _ L _ _ RB0.out HN.out HWF.out HWX.out).mono ?_
      rintro e W10 ⟨v8, rfl, ho, hb⟩
      rw [EC.out]
      rw [HO.out.ma] at ho
      have Q8 := Lib.hid ho.reads
      obtain ⟨A8, c8, e8⟩ : ∃ A c, v8 = .slice A N c := by obtain ⟨A, c, e, _⟩ := Q8.out; rw [HO.out.mq.len] at e; exact ⟨A, c, e⟩
      subst e8
      clear ho
      replace KL := Lib.hid (KL.out.next hb)
      replace Kb := Lib.hid (Kb.out.next hb)
      replace qb := Kb.out.cell
      replace RB0 := Lib.hid (RB0.out.next hb)
      replace Q1 := Lib.hid (Q1.out.next hb)
      replace Q2 := Lib.hid (Q2.out.next hb)
      replace Q3 := Lib.hid (Q3.out.next hb)
      replace Q4 := Lib.hid (Q4.out.next hb)
      replace Q5 := Lib.hid (Q5.out.next hb)
      replace Q6 := Lib.hid (Q6.out.next hb)
      replace Q7 := Lib.hid (Q7.out.next hb)
      clear hb
      go_wp2_with fail
      refine (implCountSatellites_any _ L _ _ RB0.out HN.out HWF.out HWX.out).mono ?_
      rintro e W11 ⟨rfl, hb⟩
      rw [EC.out, HO.out.sa]
      replace KL := Lib.hid (KL.out.next hb)
      replace Kb := Lib.hid (Kb.out.next hb)
      replace qb := Kb.out.cell
      replace RB0 := Lib.hid (RB0.out.next hb)
      replace Q1 := Lib.hid (Q1.out.next hb)
      replace Q2 := Lib.hid (Q2.out.next hb)
      replace Q3 := Lib.hid (Q3.out.next hb)
      replace Q4 := Lib.hid (Q4.out.next hb)
      replace Q5 := Lib.hid (Q5.out.next hb)
      replace Q6 := Lib.hid (Q6.out.next hb)
      replace Q7 := Lib.hid (Q7.out.next hb)
      replace Q8 := Lib.hid (Q8.out.next hb)
      clear hb
      go_wp2_with fail
      refine (specCountSatellites_any _ L _ _ RB0.out HN.out HWF.out HWX.out).mono ?_
      rintro e W12 ⟨rfl, hb⟩
      rw [EC.out, HO.out.sa]
      replace KL := Lib.hid (KL.out.next hb)
      replace Kb := Lib.hid (Kb.out.next hb)
      replace qb := Kb.out.cell
      replace RB0 := Lib.hid (RB0.out.next hb)
      replace Q1 := Lib.hid (Q1.out.next hb)
      replace Q2 := Lib.hid (Q2.out.next hb)
      replace Q3 := Lib.hid (Q3.out.next hb)
      replace Q4 := Lib.hid (Q4.out.next hb)
      replace Q5 := Lib.hid (Q5.out.next hb)
      replace Q6 := Lib.hid (Q6.out.next hb)
      replace Q7 := Lib.hid (Q7.out.next hb)
      replace Q8 := Lib.hid (Q8.out.next hb)
      clear hb
      go_wp2_with fail
      refine (likeI _ _ (odL mm N fun j => mm[j]?.getD 0) _ Q1.out Q2.out (by rw [HO.out.olen]; have := HO.out.n4; omega)).mono ?_
      rintro e W13 ⟨rfl, hb⟩
      replace KL := Lib.hid (KL.out.next hb)
      replace Kb := Lib.hid (Kb.out.next hb)
      replace qb := Kb.out.cell
      replace RB0 := Lib.hid (RB0.out.next hb)
      replace Q1 := Lib.hid (Q1.out.next hb)
      replace Q2 := Lib.hid (Q2.out.next hb)
      replace Q3 := Lib.hid (Q3.out.next hb)
      replace Q4 := Lib.hid (Q4.out.next hb)
      replace Q5 := Lib.hid (Q5.out.next hb)
      replace Q6 := Lib.hid (Q6.out.next hb)
      replace Q7 := Lib.hid (Q7.out.next hb)
      replace Q8 := Lib.hid (Q8.out.next hb)
      clear hb
      go_wp2_with fail
      refine (likeQ _ _ (prQ mm N) _ Q3.out Q4.out (by rw [HO.out.plen]; have := HO.out.n4; omega) (fun k => prQ_one HO.out.mq k)).mono ?_
      rintro e W14 ⟨rfl, hb⟩
      replace KL := Lib.hid (KL.out.next hb)
      replace Kb := Lib.hid (Kb.out.next hb)
      replace qb := Kb.out.cell
      replace RB0 := Lib.hid (RB0.out.next hb)
      replace Q1 := Lib.hid (Q1.out.next hb)
      replace Q2 := Lib.hid (Q2.out.next hb)
      replace Q3 := Lib.hid (Q3.out.next hb)
      replace Q4 := Lib.hid (Q4.out.next hb)
      replace Q5 := Lib.hid (Q5.out.next hb)
      replace Q6 := Lib.hid (Q6.out.next hb)
      replace Q7 := Lib.hid (Q7.out.next hb)
      replace Q8 := Lib.hid (Q8.out.next hb)
      clear hb
      go_wp2_with fail
      refine (likeI _ _ (cdL mm N) _ Q5.out Q6.out (by rw [HO.out.klen]; have := HO.out.n4; omega)).mono ?_
      rintro e W15 ⟨rfl, hb⟩
      replace KL := Lib.hid (KL.out.next hb)
      replace Kb := Lib.hid (Kb.out.next hb)
      replace qb := Kb.out.cell
      replace RB0 := Lib.hid (RB0.out.next hb)
      replace Q1 := Lib.hid (Q1.out.next hb)
      replace Q2 := Lib.hid (Q2.out.next hb)
      replace Q3 := Lib.hid (Q3.out.next hb)
      replace Q4 := Lib.hid (Q4.out.next hb)
      replace Q5 := Lib.hid (Q5.out.next hb)
      replace Q6 := Lib.hid (Q6.out.next hb)
      replace Q7 := Lib.hid (Q7.out.next hb)
      replace Q8 := Lib.hid (Q8.out.next hb)
      clear hb
      go_wp2_with fail
      refine (likeI _ _ mm _ Q7.out Q8.out (by rw [HO.out.mq.len]; have := HO.out.n4; omega)).mono ?_
      rintro e W16 ⟨rfl, hb⟩
      replace KL := Lib.hid (KL.out.next hb)
      replace Kb := Lib.hid (Kb.out.next hb)
      replace qb := Kb.out.cell
      replace RB0 := Lib.hid (RB0.out.next hb)
      replace Q1 := Lib.hid (Q1.out.next hb)
      replace Q2 := Lib.hid (Q2.out.next hb)
      replace Q3 := Lib.hid (Q3.out.next hb)
      replace Q4 := Lib.hid (Q4.out.next hb)
      replace Q5 := Lib.hid (Q5.out.next hb)
      replace Q6 := Lib.hid (Q6.out.next hb)
      replace Q7 := Lib.hid (Q7.out.next hb)
      replace Q8 := Lib.hid (Q8.out.next hb)
      clear hb
      go_wp2_with fail
      refine (implIsCode_any _ (cdL mm N) _ Q5.out (by rw [HO.out.klen]; have := HO.out.n4; omega) HO.out.kwf).mono ?_
      rintro e W17 ⟨rfl, hb⟩
      rw [HO.out.ic]
      replace KL := Lib.hid (KL.out.next hb)
      replace Kb := Lib.hid (Kb.out.next hb)
      replace qb := Kb.out.cell
      replace RB0 := Lib.hid (RB0.out.next hb)
      replace Q1 := Lib.hid (Q1.out.next hb)
      replace Q2 := Lib.hid (Q2.out.next hb)
      replace Q3 := Lib.hid (Q3.out.next hb)
      replace Q4 := Lib.hid (Q4.out.next hb)
      replace Q5 := Lib.hid (Q5.out.next hb)
      replace Q6 := Lib.hid (Q6.out.next hb)
      replace Q7 := Lib.hid (Q7.out.next hb)
      replace Q8 := Lib.hid (Q8.out.next hb)
      clear hb
      obtain ⟨W0, HE1⟩ : ∃ W, W = W17.alloc (.cells (madeCells #[.int .i64 0] N) 2) := ⟨_, rfl⟩
      have HB1 : Hid (Below W17.heap.size W17 W0) := Lib.hid (by rw [HE1]; exact below_box2 _ _)
      have HR1 : Hid (W0.rowIs W17.heap.size 2 N (fun x => .int .i64 (pw mm x 0))) := Lib.hid (by rw [HE1]; exact (World.rowIs_made _ _ _ _).congr fun x hx => by rfl)
      have HEQ1 := Lib.hid HE1
      have hn1 := HO.out.n1
      have hn4 := HO.out.n4
      have hmk := fun (W : World) => run_make_row' (P := Try.prog) 24 2 (.int .i64 0) 8 Try.underlying24 int_info rfl .i64 .i64 N (by omega) (by omega) W
      have HM := Lib.hid HO.out.mq
      have HD := Lib.hid HO.out.od
      have HKL := Lib.hid HO.out.klen
      have HCO : Hid (∀ i, i < N → g1 < W17.heap.size ∧ W17.cell? ⟨g1, i, none⟩ = some (.int .i64 (oD mm N (fun j => mm[j]?.getD 0) i))) := Lib.hid (fun i hi => by obtain ⟨g9, o9, e9, h8, h9⟩ := Q1.out.atP HO.out.olen hi; cases e9; rw [Nat.zero_add, odL_at hi] at h9; exact ⟨h8, h9⟩)
      have HCM : Hid (∀ i, i < N → g7 < W17.heap.size ∧ W17.cell? ⟨g7, i, none⟩ = some (.int .i64 (mm[i]?.getD 0))) := Lib.hid (fun i hi => by obtain ⟨g9, o9, e9, h8, h9⟩ := Q7.out.atP HO.out.mq.len hi; cases e9; rw [Nat.zero_add] at h9; exact ⟨h8, h9⟩)
      have HCK : Hid (∀ i, i < N - 1 → ∃ g o, A5 = some ⟨g, o, none⟩ ∧ g < W17.heap.size ∧ W17.cell? ⟨g, o + i, none⟩ = some (.int .i64 (cdI mm N (i + 1)))) := Lib.hid (fun i hi => by obtain ⟨g9, o9, e9, h8, h9⟩ := Q5.out.atP HO.out.klen hi; rw [cdL_at hi] at h9; exact ⟨g9, o9, e9, h8, h9⟩)
      have HNR := Lib.hid (fun j (hj : j < N) => near_row Q3.out HO.out.mq hj)
      clear HE1 Q1 Q2 Q3 Q4 Q5 Q6 Q7 Q8 HO HWX HWF HN RB0 HSP EC Kb qb HX
      go_wp2_with fail
      rw [← HEQ1.out]
      clear hmk HEQ1
      go_loopw [26, 27] (fun vs vi wr => ∃ (p : Nat), p ≤ N ∧ vs = .int .i64 (satN mm N (p - 1)) ∧ vi = .int .i64 p ∧ Hid (wr.rowIs W17.heap.size 2 N (fun x => .int .i64 (pw mm x p))) ∧ Hid (Below W17.heap.size W17 wr)) (fun _ vi _ => N - (intOf vi).toNat)
      case atStart => exact ⟨0, by omega, rfl, rfl, HR1, HB1⟩
      case round =>
        clear HR1 HB1
        obtain ⟨p, hp, rfl, rfl, hrow, hb⟩ := hrel
        by_cases hpk : p < N
        rotate_left
        · as_aux_lemma =>
            obtain rfl : N = p := by omega
            have HBW := hb
            have HRW := hrow
            go_wp2_with fail
            go_loopw [30] (fun vi wr => ∃ (i : Nat), i ≤ N ∧ vi = .int .i64 i ∧ Hid (wr.rowIs W17.heap.size 2 N (fun x => .int .i64 (pw mm x N))) ∧ Hid (Below W17.heap.size W17 wr)) (fun vi _ => N - (intOf vi).toNat)
            case atStart => exact ⟨0, by omega, rfl, HRW, HBW⟩
            case round =>
              clear HBW HRW hrow hb
              obtain ⟨i, hi, rfl, hrow, hb⟩ := hrel
              by_cases hik : i < N
              · as_aux_lemma =>
                  have d1 := hrow.out.cell hik
                  have dM : wr.cell? ⟨g7, i, none⟩ = some (.int .i64 (mm[i]?.getD 0)) := (hb.out.cell (p := ⟨g7, i, none⟩) (HCM.out i hik).1).trans (HCM.out i hik).2
                  have hpa := pw_all HM.out hik
                  have hik2 : (i : Int) < (N : Int) := by omega
                  have hi0 : (0 : Int) ≤ (i : Int) := by omega
                  have p1 : IntKind.i64.wrap ((i : Int) + 1) = (i : Int) + 1 := IntWalk.i64_in _ (by omega)
                  obtain ⟨u, hu⟩ : ∃ u, pw mm i N = u := ⟨_, rfl⟩
                  obtain ⟨z, hz⟩ : ∃ z, mm[i]?.getD 0 = z := ⟨_, rfl⟩
                  rw [hu] at d1 hpa
                  rw [hz] at dM hpa
                  clear hu hz
                  have b1 : decide (z < u) = false := by simp; omega
                  go_wp2_with fail
                  go_quiet (fail)
                  go_wp2_with fail
                  go_roundw
                  case rel => exact ⟨i + 1, by omega, by go_num, hrow, Lib.hid (hb.out.trans ((drewN_below _ _).mono hb.out.size))⟩
                  case measure => simp [intOf]; omega
              · as_aux_lemma =>
                  obtain rfl : N = i := by omega
                  go_wp2_with fail
                  go_ret
                  exact ⟨rfl, (KL.out.next hb.out).below⟩
        obtain ⟨g, o, cc, A3, c3, e1, hg, hcell, hnx⟩ := HNR.out p hpk
        simp only [Value.slice.injEq, Option.some.injEq, Addr.mk.injEq] at e1
        obtain ⟨⟨rfl, rfl, _⟩, _, rfl⟩ := e1
        have hsat := satN_le mm N (p - 1)
        have d1 : wr.cell? ⟨gn, on + p, none⟩ = _ := (hb.out.cell (p := ⟨gn, on + p, none⟩) hg).trans hcell
        have HD1 : Hid (∀ wr, Below W17.heap.size W17 wr → wr.cell? ⟨gn, on + p, none⟩ = some (.slice A3 (prx mm N p).length c3)) := Lib.hid (fun wr h => (h.cell (p := ⟨gn, on + p, none⟩) hg).trans hcell)
        have HNX := Lib.hid hnx
        have hpk2 : (p : Int) < (N : Int) := by omega
        have dM : wr.cell? ⟨g7, p, none⟩ = some (.int .i64 (mm[p]?.getD 0)) := (hb.out.cell (p := ⟨g7, p, none⟩) (HCM.out p hpk).1).trans (HCM.out p hpk).2
        have hmr := HM.out.rng p hpk
        have HMR := Lib.hid hmr
        have p1 : IntKind.i64.wrap ((p : Int) + 1) = (p : Int) + 1 := IntWalk.i64_in _ (by omega)
        obtain ⟨s, hs⟩ : ∃ s, satN mm N (p - 1) = s := ⟨_, rfl⟩
        rw [hs] at hsat ⊢
        have HSE := Lib.hid hs
        clear hcell hnx hs
        have p2 : IntKind.i64.wrap (s + 1) = s + 1 := IntWalk.i64_in _ (by omega)
        rcases pt_shape HM.out hpk with ⟨hp0, hpr, hcd⟩ | ⟨hp0, hpr, hcd⟩ | ⟨i0, hp0, hi0, hpr, hcd, hcd0⟩
        · as_aux_lemma =>
            have hK : (prx mm N p).length = 0 := by rw [hpr]; rfl
            have HK := Lib.hid hK
            rw [hK] at d1 HNX HD1
            clear hK
            have HPR := Lib.hid hpr
            have HCD := Lib.hid hcd
            clear hpr hcd
            have HRS : Hid (wr.rowIs W17.heap.size 2 N (fun x => .int .i64 (pwT mm N p 0 x))) := Lib.hid (hrow.out.congr fun x hx => by rw [pwT_zero])
            have HBS := hb
            have HP0 : Hid (psO mm N (fun j => mm[j]?.getD 0) p 0 = mm[p]?.getD 0) := Lib.hid (psO_zero _ _ _ _)
            have HPE : Hid (psO mm N (fun j => mm[j]?.getD 0) p 0 = oD mm N (fun j => mm[j]?.getD 0) p) := Lib.hid (psO_end HM.out hpk HK.out)
            have HPS := Lib.hid (fun t => psO_range (t := t) HM.out hpk HMR.out.1 (fun x hx => (HD.out x hx).1))
            have HOP := Lib.hid (HD.out p hpk)
            have z0 : ((p : Int) == 0) = true := by simpa using hp0
            have z1 : decide (0 < (p : Int)) = false := by simp; omega
            have z2 : ¬ 0 < p := by omega
            have HZ := Lib.hid hp0
            clear hp0
            have HSN : Hid (satN mm N (p + 1 - 1) = s) := Lib.hid (by rw [← HSE.out, HZ.out])
            go_wp2_with fail
            go_loopw [28, 29] (fun vo vt wr => ∃ (t : Nat), t ≤ 0 ∧ vo = .int .i64 (psO mm N (fun j => mm[j]?.getD 0) p t) ∧ vt = .int .i64 t ∧ Hid (wr.rowIs W17.heap.size 2 N (fun x => .int .i64 (pwT mm N p t x))) ∧ Hid (Below W17.heap.size W17 wr)) (fun _ vt _ => 0 - (intOf vt).toNat)
            case atStart => exact ⟨0, by omega, by rw [HP0.out], rfl, HRS, HBS⟩
            case round =>
              clear HRS HBS d1 dM hrow hb
              obtain ⟨t, ht, rfl, rfl, hrow, hb⟩ := hrel
              have d1 := HD1.out wr hb.out
              by_cases htN : t < 0
              rotate_left
              · as_aux_lemma =>
                  obtain rfl : t = 0 := by omega
                  rw [HPE.out]
                  have HRN : Hid (wr.rowIs W17.heap.size 2 N (fun x => .int .i64 (pw mm x (p + 1)))) := Lib.hid (hrow.out.congr fun x hx => by rw [pwT_end HM.out hpk HK.out])
                  have dO : wr.cell? ⟨g1, p, none⟩ = some (.int .i64 (oD mm N (fun j => mm[j]?.getD 0) p)) := (hb.out.cell (p := ⟨g1, p, none⟩) (HCO.out p hpk).1).trans (HCO.out p hpk).2
                  obtain ⟨op, hoe⟩ : ∃ z, oD mm N (fun j => mm[j]?.getD 0) p = z := ⟨_, rfl⟩
                  rw [hoe] at dO ⊢
                  clear hoe
                  go_wp2_with fail
                  go_quiet (fail)
                  go_wp2_with fail
                  go_roundw
                  case rel => exact ⟨p + 1, by omega, by rw [HSN.out], by go_num, HRN, Lib.hid (hb.out.trans ((drewN_below _ _).mono hb.out.size))⟩
                  case measure => simp [intOf]; omega
              exact absurd htN (Nat.not_lt_zero _)
        · as_aux_lemma =>
            have hK : (prx mm N p).length = 1 := by rw [hpr]; rfl
            have HK := Lib.hid hK
            rw [hK] at d1 HNX HD1
            clear hK
            have HPR := Lib.hid hpr
            have HCD := Lib.hid hcd
            clear hpr hcd
            have HRS : Hid (wr.rowIs W17.heap.size 2 N (fun x => .int .i64 (pwT mm N p 0 x))) := Lib.hid (hrow.out.congr fun x hx => by rw [pwT_zero])
            have HBS := hb
            have HP0 : Hid (psO mm N (fun j => mm[j]?.getD 0) p 0 = mm[p]?.getD 0) := Lib.hid (psO_zero _ _ _ _)
            have HPE : Hid (psO mm N (fun j => mm[j]?.getD 0) p 1 = oD mm N (fun j => mm[j]?.getD 0) p) := Lib.hid (psO_end HM.out hpk HK.out)
            have HPS := Lib.hid (fun t => psO_range (t := t) HM.out hpk HMR.out.1 (fun x hx => (HD.out x hx).1))
            have HOP := Lib.hid (HD.out p hpk)
            have z0 : ((p : Int) == 0) = false := by simp; omega
            have z1 : decide (0 < (p : Int)) = true := by simp; omega
            have z2 : 0 < p := hp0
            obtain ⟨q, hq⟩ : ∃ q, p = q + 1 := ⟨p - 1, by omega⟩
            have HQ := Lib.hid hq
            have p6 : IntKind.i64.wrap ((p : Int) - 1) = (q : Int) := by rw [show (p : Int) - 1 = (q : Int) by omega]; exact IntWalk.i64_in _ (by omega)
            have hq0 : (0 : Int) ≤ (q : Int) := by omega
            have hq1 : (q : Int) < ((N - 1 : Nat) : Int) := by omega
            have hq2 : q < N - 1 := by omega
            obtain ⟨g5, o5, e5, hg5, hc5⟩ := HCK.out q hq2
            subst e5
            rw [show q + 1 = p by omega, HCD.out] at hc5
            have HC5 := Lib.hid hc5
            have HQQ : Hid (q = p - 1) := Lib.hid (by omega)
            clear hq hc5
            have HNL := Lib.hid (HNX.out 0 (by omega))
            have HSN : Hid (satN mm N (p + 1 - 1) = s) := Lib.hid (by rw [show p + 1 - 1 = p by omega, satN_step z2, HCD.out, if_pos rfl, HSE.out]; omega)
            go_wp2_with fail
            go_loopw [28, 29] (fun vo vt wr => ∃ (t : Nat), t ≤ 1 ∧ vo = .int .i64 (psO mm N (fun j => mm[j]?.getD 0) p t) ∧ vt = .int .i64 t ∧ Hid (wr.rowIs W17.heap.size 2 N (fun x => .int .i64 (pwT mm N p t x))) ∧ Hid (Below W17.heap.size W17 wr)) (fun _ vt _ => 1 - (intOf vt).toNat)
            case atStart => exact ⟨0, by omega, by rw [HP0.out], rfl, HRS, HBS⟩
            case round =>
              clear HRS HBS d1 dM hrow hb
              obtain ⟨t, ht, rfl, rfl, hrow, hb⟩ := hrel
              have d1 := HD1.out wr hb.out
              by_cases htN : t < 1
              rotate_left
              · as_aux_lemma =>
                  obtain rfl : t = 1 := by omega
                  rw [HPE.out]
                  have HRN : Hid (wr.rowIs W17.heap.size 2 N (fun x => .int .i64 (pw mm x (p + 1)))) := Lib.hid (hrow.out.congr fun x hx => by rw [pwT_end HM.out hpk HK.out])
                  have dO : wr.cell? ⟨g1, p, none⟩ = some (.int .i64 (oD mm N (fun j => mm[j]?.getD 0) p)) := (hb.out.cell (p := ⟨g1, p, none⟩) (HCO.out p hpk).1).trans (HCO.out p hpk).2
                  obtain ⟨op, hoe⟩ : ∃ z, oD mm N (fun j => mm[j]?.getD 0) p = z := ⟨_, rfl⟩
                  rw [hoe] at dO ⊢
                  clear hoe
                  obtain ⟨h3, o3, i, e3, hg3, hpi, hip, hc3⟩ := HNL.out
                  rw [HPR.out] at hpi
                  obtain rfl : q = i := by have := HQQ.out; simp at hpi; omega
                  subst e3
                  have d3 : wr.cell? ⟨h3, o3 + 0, none⟩ = some (.int .i64 q) := (hb.out.cell (p := ⟨h3, o3 + 0, none⟩) hg3).trans hc3
                  have d5 := (hb.out.cell (p := ⟨g5, o5 + q, none⟩) hg5).trans HC5.out
                  clear hpi hc3
                  rw [Nat.add_zero] at d3
                  go_wp2_with fail
                  go_quiet (fail)
                  go_wp2_with fail
                  go_roundw
                  case rel => exact ⟨p + 1, by omega, by rw [HSN.out], by go_num, HRN, Lib.hid (hb.out.trans ((drewN_below _ _).mono hb.out.size))⟩
                  case measure => simp [intOf]; omega
              as_aux_lemma =>
                obtain ⟨h3, o3, i, rfl, hg3, hpi, hip, hc3⟩ := HNX.out t htN
                have d3 : wr.cell? ⟨h3, o3 + t, none⟩ = some (.int .i64 i) := (hb.out.cell (p := ⟨h3, o3 + t, none⟩) hg3).trans hc3
                have d4 := hrow.out.cell (i := i) (by omega)
                have hfz := hrow.out.frozen i
                have dO : wr.cell? ⟨g1, i, none⟩ = some (.int .i64 (oD mm N (fun j => mm[j]?.getD 0) i)) := (hb.out.cell (p := ⟨g1, i, none⟩) (HCO.out i (by omega)).1).trans (HCO.out i (by omega)).2
                have dM : wr.cell? ⟨g7, p, none⟩ = some (.int .i64 (mm[p]?.getD 0)) := (hb.out.cell (p := ⟨g7, p, none⟩) (HCM.out p hpk).1).trans (HCM.out p hpk).2
                have hnxt := fun x => (pwT_next HM.out hpk hpi x).1
                have hval := (pwT_next HM.out hpk hpi 0).2
                have HNXT := Lib.hid hnxt
                rw [hval] at d4
                have hpwr := pw_range HM.out (i := i) (by omega) hp
                have hoi := HD.out i (by omega)
                have hps := HPS.out t
                have hps2 := HPS.out (t + 1)
                have hop := HOP.out
                have HPX : Hid (psO mm N (fun j => mm[j]?.getD 0) p (t + 1) = psO mm N (fun j => mm[j]?.getD 0) p t + oD mm N (fun j => mm[j]?.getD 0) i) := Lib.hid (psO_next hpi)
                rw [HPX.out] at hps2
                have HVAL := Lib.hid hval
                clear hval hnxt hpi hc3
                obtain ⟨oi, hoe⟩ : ∃ z, oD mm N (fun j => mm[j]?.getD 0) i = z := ⟨_, rfl⟩
                obtain ⟨st, hse⟩ : ∃ z, psO mm N (fun j => mm[j]?.getD 0) p t = z := ⟨_, rfl⟩
                obtain ⟨pv, hpe⟩ : ∃ z, pw mm i p = z := ⟨_, rfl⟩
                obtain ⟨mp, hme⟩ : ∃ z, mm[p]?.getD 0 = z := ⟨_, rfl⟩
                rw [hoe] at dO hoi HPX hps2
                rw [hse] at hps hps2 HPX
                rw [hpe] at d4 hpwr HVAL
                have hmr := HMR.out
                rw [hme] at dM hmr
                have HSE2 := Lib.hid hse
                have HME := Lib.hid hme
                rw [hse]
                clear hoe hse hpe hme
                have htN2 : (t : Int) < 1 := by omega
                have i0 : (0 : Int) ≤ (i : Int) := by omega
                have hik2 : (i : Int) < (N : Int) := by omega
                have hi3 : ¬ (i : Int) < 0 := by omega
                have hi4 : (i : Int) < (p : Int) := by omega
                have b2 : decide ((p : Int) ≤ (i : Int)) = false := by simp; omega
                have p3 : IntKind.i64.wrap (st + oi) = st + oi := IntWalk.i64_in _ (by omega)
                have p4 : IntKind.i64.wrap (pv + mp) = pv + mp := IntWalk.i64_in _ (by omega)
                have p5 : IntKind.i64.wrap ((t : Int) + 1) = (t : Int) + 1 := IntWalk.i64_in _ (by omega)
                have HRN : Hid ((wr.drew.setCell ⟨W17.heap.size, i, none⟩ (.int .i64 (pv + mp))).rowIs W17.heap.size 2 N (fun x => .int .i64 (pwT mm N p (t + 1) x))) := Lib.hid ((World.rowIs.set (w := wr.drew) hrow.out i _).congr fun x hx => by
                  rw [← HNXT.out x, HVAL.out, HME.out]
                  by_cases e : x = i
                  · rw [if_pos e, if_pos e]
                  · rw [if_neg e, if_neg e])
                have HBN : Hid (Below W17.heap.size W17 (wr.drew.setCell ⟨W17.heap.size, i, none⟩ (.int .i64 (pv + mp)))) := Lib.hid (hb.out.drew.setCell (p := ⟨W17.heap.size, i, none⟩) (Nat.le_refl _) _)
                go_wp2_with fail
                go_region
                all_goals
                  go_wp2_with fail
                  go_roundw
                  case rel => exact ⟨t + 1, by omega, by rw [HPX.out], by go_num, HRN, HBN⟩
                  case measure => simp [intOf]; omega
        · as_aux_lemma =>
            have hK : (prx mm N p).length = 2 := by rw [hpr]; rfl
            have HK := Lib.hid hK
            rw [hK] at d1 HNX HD1
            clear hK
            have HPR := Lib.hid hpr
            have HCD := Lib.hid hcd
            clear hpr hcd
            have HRS : Hid (wr.rowIs W17.heap.size 2 N (fun x => .int .i64 (pwT mm N p 0 x))) := Lib.hid (hrow.out.congr fun x hx => by rw [pwT_zero])
            have HBS := hb
            have HP0 : Hid (psO mm N (fun j => mm[j]?.getD 0) p 0 = mm[p]?.getD 0) := Lib.hid (psO_zero _ _ _ _)
            have HPE : Hid (psO mm N (fun j => mm[j]?.getD 0) p 2 = oD mm N (fun j => mm[j]?.getD 0) p) := Lib.hid (psO_end HM.out hpk HK.out)
            have HPS := Lib.hid (fun t => psO_range (t := t) HM.out hpk HMR.out.1 (fun x hx => (HD.out x hx).1))
            have HOP := Lib.hid (HD.out p hpk)
            have z0 : ((p : Int) == 0) = false := by simp; omega
            have z1 : decide (0 < (p : Int)) = true := by simp; omega
            have z2 : 0 < p := hp0
            obtain ⟨q, hq⟩ : ∃ q, p = q + 1 := ⟨p - 1, by omega⟩
            have HQ := Lib.hid hq
            have p6 : IntKind.i64.wrap ((p : Int) - 1) = (q : Int) := by rw [show (p : Int) - 1 = (q : Int) by omega]; exact IntWalk.i64_in _ (by omega)
            have hq0 : (0 : Int) ≤ (q : Int) := by omega
            have hq1 : (q : Int) < ((N - 1 : Nat) : Int) := by omega
            have hq2 : q < N - 1 := by omega
            obtain ⟨g5, o5, e5, hg5, hc5⟩ := HCK.out q hq2
            subst e5
            rw [show q + 1 = p by omega, HCD.out] at hc5
            have HC5 := Lib.hid hc5
            have HQQ : Hid (q = p - 1) := Lib.hid (by omega)
            clear hq hc5
            have HNL := Lib.hid (HNX.out 1 (by omega))
            have HNF := Lib.hid (HNX.out 0 (by omega))
            have HSN : Hid (satN mm N (p + 1 - 1) = s + 1) := Lib.hid (by rw [show p + 1 - 1 = p by omega, satN_step z2, if_neg hcd0, HSE.out])
            have p8 : IntKind.i64.wrap ((p : Int) - (i0 : Int)) = (p : Int) - (i0 : Int) := IntWalk.i64_in _ (by omega)
            have HI0 := Lib.hid hi0
            clear hi0 hcd0
            go_wp2_with fail
            go_loopw [28, 29] (fun vo vt wr => ∃ (t : Nat), t ≤ 2 ∧ vo = .int .i64 (psO mm N (fun j => mm[j]?.getD 0) p t) ∧ vt = .int .i64 t ∧ Hid (wr.rowIs W17.heap.size 2 N (fun x => .int .i64 (pwT mm N p t x))) ∧ Hid (Below W17.heap.size W17 wr)) (fun _ vt _ => 2 - (intOf vt).toNat)
            case atStart => exact ⟨0, by omega, by rw [HP0.out], rfl, HRS, HBS⟩
            case round =>
              clear HRS HBS d1 dM hrow hb
              obtain ⟨t, ht, rfl, rfl, hrow, hb⟩ := hrel
              have d1 := HD1.out wr hb.out
              by_cases htN : t < 2
              rotate_left
              · as_aux_lemma =>
                  obtain rfl : t = 2 := by omega
                  rw [HPE.out]
                  have HRN : Hid (wr.rowIs W17.heap.size 2 N (fun x => .int .i64 (pw mm x (p + 1)))) := Lib.hid (hrow.out.congr fun x hx => by rw [pwT_end HM.out hpk HK.out])
                  have dO : wr.cell? ⟨g1, p, none⟩ = some (.int .i64 (oD mm N (fun j => mm[j]?.getD 0) p)) := (hb.out.cell (p := ⟨g1, p, none⟩) (HCO.out p hpk).1).trans (HCO.out p hpk).2
                  obtain ⟨op, hoe⟩ : ∃ z, oD mm N (fun j => mm[j]?.getD 0) p = z := ⟨_, rfl⟩
                  rw [hoe] at dO ⊢
                  clear hoe
                  obtain ⟨h3, o3, i, e3, hg3, hpi, hip, hc3⟩ := HNL.out
                  rw [HPR.out] at hpi
                  obtain rfl : q = i := by have := HQQ.out; simp at hpi; omega
                  subst e3
                  have d3 : wr.cell? ⟨h3, o3 + 1, none⟩ = some (.int .i64 q) := (hb.out.cell (p := ⟨h3, o3 + 1, none⟩) hg3).trans hc3
                  have d5 := (hb.out.cell (p := ⟨g5, o5 + q, none⟩) hg5).trans HC5.out
                  clear hpi hc3
                  obtain ⟨h6, o6, i6, e6, hg6, hpi, hip6, hc6⟩ := HNF.out
                  rw [HPR.out] at hpi
                  obtain rfl : i0 = i6 := by simp at hpi; omega
                  simp only [Option.some.injEq, Addr.mk.injEq] at e6
                  obtain ⟨rfl, rfl, _⟩ := e6
                  have d6 : wr.cell? ⟨h3, o3, none⟩ = some (.int .i64 i0) := (hb.out.cell (p := ⟨h3, o3 + 0, none⟩) hg6).trans hc6
                  clear hpi hc6
                  go_wp2_with fail
                  go_quiet (fail)
                  go_wp2_with fail
                  go_quiet (fail)
                  go_wp2_with fail
                  go_roundw
                  case rel => exact ⟨p + 1, by omega, by rw [HSN.out], by go_num, HRN, Lib.hid (hb.out.trans ((drewN_below _ _).mono hb.out.size))⟩
                  case measure => simp [intOf]; omega
              as_aux_lemma =>
                obtain ⟨h3, o3, i, rfl, hg3, hpi, hip, hc3⟩ := HNX.out t htN
                have d3 : wr.cell? ⟨h3, o3 + t, none⟩ = some (.int .i64 i) := (hb.out.cell (p := ⟨h3, o3 + t, none⟩) hg3).trans hc3
                have d4 := hrow.out.cell (i := i) (by omega)
                have hfz := hrow.out.frozen i
                have dO : wr.cell? ⟨g1, i, none⟩ = some (.int .i64 (oD mm N (fun j => mm[j]?.getD 0) i)) := (hb.out.cell (p := ⟨g1, i, none⟩) (HCO.out i (by omega)).1).trans (HCO.out i (by omega)).2
                have dM : wr.cell? ⟨g7, p, none⟩ = some (.int .i64 (mm[p]?.getD 0)) := (hb.out.cell (p := ⟨g7, p, none⟩) (HCM.out p hpk).1).trans (HCM.out p hpk).2
                have hnxt := fun x => (pwT_next HM.out hpk hpi x).1
                have hval := (pwT_next HM.out hpk hpi 0).2
                have HNXT := Lib.hid hnxt
                rw [hval] at d4
                have hpwr := pw_range HM.out (i := i) (by omega) hp
                have hoi := HD.out i (by omega)
                have hps := HPS.out t
                have hps2 := HPS.out (t + 1)
                have hop := HOP.out
                have HPX : Hid (psO mm N (fun j => mm[j]?.getD 0) p (t + 1) = psO mm N (fun j => mm[j]?.getD 0) p t + oD mm N (fun j => mm[j]?.getD 0) i) := Lib.hid (psO_next hpi)
                rw [HPX.out] at hps2
                have HVAL := Lib.hid hval
                clear hval hnxt hpi hc3
                obtain ⟨oi, hoe⟩ : ∃ z, oD mm N (fun j => mm[j]?.getD 0) i = z := ⟨_, rfl⟩
                obtain ⟨st, hse⟩ : ∃ z, psO mm N (fun j => mm[j]?.getD 0) p t = z := ⟨_, rfl⟩
                obtain ⟨pv, hpe⟩ : ∃ z, pw mm i p = z := ⟨_, rfl⟩
                obtain ⟨mp, hme⟩ : ∃ z, mm[p]?.getD 0 = z := ⟨_, rfl⟩
                rw [hoe] at dO hoi HPX hps2
                rw [hse] at hps hps2 HPX
                rw [hpe] at d4 hpwr HVAL
                have hmr := HMR.out
                rw [hme] at dM hmr
                have HSE2 := Lib.hid hse
                have HME := Lib.hid hme
                rw [hse]
                clear hoe hse hpe hme
                have htN2 : (t : Int) < 2 := by omega
                have i00 : (0 : Int) ≤ (i : Int) := by omega
                have hik2 : (i : Int) < (N : Int) := by omega
                have hi3 : ¬ (i : Int) < 0 := by omega
                have hi4 : (i : Int) < (p : Int) := by omega
                have b2 : decide ((p : Int) ≤ (i : Int)) = false := by simp; omega
                have p3 : IntKind.i64.wrap (st + oi) = st + oi := IntWalk.i64_in _ (by omega)
                have p4 : IntKind.i64.wrap (pv + mp) = pv + mp := IntWalk.i64_in _ (by omega)
                have p5 : IntKind.i64.wrap ((t : Int) + 1) = (t : Int) + 1 := IntWalk.i64_in _ (by omega)
                have HRN : Hid ((wr.drew.setCell ⟨W17.heap.size, i, none⟩ (.int .i64 (pv + mp))).rowIs W17.heap.size 2 N (fun x => .int .i64 (pwT mm N p (t + 1) x))) := Lib.hid ((World.rowIs.set (w := wr.drew) hrow.out i _).congr fun x hx => by
                  rw [← HNXT.out x, HVAL.out, HME.out]
                  by_cases e : x = i
                  · rw [if_pos e, if_pos e]
                  · rw [if_neg e, if_neg e])
                have HBN : Hid (Below W17.heap.size W17 (wr.drew.setCell ⟨W17.heap.size, i, none⟩ (.int .i64 (pv + mp)))) := Lib.hid (hb.out.drew.setCell (p := ⟨W17.heap.size, i, none⟩) (Nat.le_refl _) _)
                go_wp2_with fail
                go_region
                all_goals
                  go_wp2_with fail
                  go_roundw
                  case rel => exact ⟨t + 1, by omega, by rw [HPX.out], by go_num, HRN, HBN⟩
                  case measure => simp [intOf]; omega
end Go.Proofs.Ytoebbhicffgdgaa
