/- laws.FnBlocks: it returns true and leaves old memory as it was. Condition: the bytes read. -/
import Derived.Test.YtncgkoanckefmaaFnBw
import Derived.Test.YtncgkoanckefmaaZE
namespace Go.Proofs.Ytncgkoanckefmaa
open Go.ChangeShapes Go.WideShapes Go.ChangeAt Go.RowKit Go.Deep
set_option linter.unusedVariables false
set_option linter.unusedSimpArgs false

theorem blq_cases (L : List Int) : (lqC L 0 = 0 ∧ sqC L = 0) ∨ (lqC L 0 = 1 ∧ sqC L = 1) ∨ (lqC L 0 = 3 ∧ sqC L = 0) := by
  unfold lqC sqC
  cases brB L
  · simp
  · by_cases h : 400 < cntL (rsI L) <;> simp [h]
theorem blA_facts (L : List Int) : (blA L).length ≤ 9223372036854775807 ∧ ∀ k, lens (blA L) k ≤ 9223372036854775807 := by
  have := szTot_facts (blA_sz L)
  exact ⟨by omega, fun k => by have := this.2.1 k; omega⟩

set_option maxRecDepth 100000 in
set_option maxHeartbeats 8000000 in
theorem FnBlocks_walk (A : Option Addr) (n c : Nat) (w : World) (hr : RB w w.heap.size A n) (hn : n ≤ 9223372036854775807) :
    Calls Try.prog 12 #[.slice A n c] w fun e w' => e = .returned (.bool true) ∧ Below w.heap.size w w' := by
  have KL : Hid (KpL w A n w) := Lib.hid ⟨hr, Below.refl _ _⟩
  clear hr
  rcases (show (4096 : Int) < (n : Int) ∨ (n : Int) ≤ 4096 by omega) with hn4 | hn4
  · go_enter Try.func12, Try.ntmps12
    go_wp2_with fail
    refine (bigF_any A n c _ hn).mono ?_
    rintro e w' ⟨rfl, rfl⟩
    go_wp2_with fail
    go_ret
    exact ⟨rfl, Below.refl _ _⟩
  go_enter Try.func12, Try.ntmps12
  go_wp2_with fail
  refine (bigF_any A n c _ hn).mono ?_
  rintro e w' ⟨rfl, rfl⟩
  go_wp2_with fail
  refine (DrawBlocksOf_any A n c _ KL.out.bytes hn).mono ?_
  rintro e W1 ⟨Ab, nb, cb, L, rfl, hr, hge, hL, hb⟩
  have HSP := Lib.hid hL
  have RB0 := Lib.hid hr
  clear hr hge hL
  replace KL := Lib.hid (KL.out.next hb)
  clear hb
  go_wp2_with fail
  have Kb : Hid (KpC W1.heap.size (.slice Ab nb cb) (W1.alloc (.cells #[.slice Ab nb cb] 28))) := Lib.hid (KpC.new _ _ _)
  have hb : Below W1.heap.size W1 (W1.alloc (.cells #[.slice Ab nb cb] 28)) := box_below _ _
  generalize W1.alloc (.cells #[.slice Ab nb cb] 28) = W2 at *
  replace KL := Lib.hid (KL.out.next hb)
  replace RB0 := Lib.hid (RB0.out.next hb)
  have qb := Kb.out.cell
  clear hb
  have HN : Hid (L.length ≤ 1048576) := Lib.hid (by have := HSP.out.1; omega)
  have HWF := Lib.hid HSP.out.wf
  have HBL := Lib.hid (blA_facts L)
  rcases blq_cases L with ⟨hc, hs⟩ | ⟨hc, hs⟩ | ⟨hc, hs⟩
  · have EC := Lib.hid hc
    have ES := Lib.hid hs
    have HC0 := Lib.hid hc
    clear hc hs
    go_wp2_with fail
    refine (implBlocksOf_any _ L _ RB0.out HN.out HWF.out).mono ?_
    rintro e W3 ⟨v1, rfl, ho, hb⟩
    rw [EC.out]
    have Q1 := Lib.hid ho.reads
    obtain ⟨A1, c1, e1⟩ : ∃ A c, v1 = .slice A _ c := by obtain ⟨A, c, e, _⟩ := Q1.out; exact ⟨A, c, e⟩
    subst e1
    clear ho
    replace KL := Lib.hid (KL.out.next hb)
    replace Kb := Lib.hid (Kb.out.next hb)
    replace qb := Kb.out.cell
    replace RB0 := Lib.hid (RB0.out.next hb)
    clear hb
    go_wp2_with fail
    refine (specBlocksOf_any _ L _ RB0.out HN.out HWF.out).mono ?_
    rintro e W4 ⟨v2, rfl, ho, hb⟩
    rw [EC.out]
    have Q2 := Lib.hid ho.reads
    obtain ⟨A2, c2, e2⟩ : ∃ A c, v2 = .slice A _ c := by obtain ⟨A, c, e, _⟩ := Q2.out; exact ⟨A, c, e⟩
    subst e2
    clear ho
    replace KL := Lib.hid (KL.out.next hb)
    replace Kb := Lib.hid (Kb.out.next hb)
    replace qb := Kb.out.cell
    replace RB0 := Lib.hid (RB0.out.next hb)
    replace Q1 := Lib.hid (Q1.out.next hb)
    clear hb
    go_wp2_with fail
    refine (implDeltaInvariant_any _ L _ RB0.out HN.out HWF.out).mono ?_
    rintro e W5 ⟨rfl, hb⟩
    rw [ES.out]
    replace KL := Lib.hid (KL.out.next hb)
    replace Kb := Lib.hid (Kb.out.next hb)
    replace qb := Kb.out.cell
    replace RB0 := Lib.hid (RB0.out.next hb)
    replace Q1 := Lib.hid (Q1.out.next hb)
    replace Q2 := Lib.hid (Q2.out.next hb)
    clear hb
    go_wp2_with fail
    refine (specDeltaInvariant_any _ L _ RB0.out HN.out HWF.out).mono ?_
    rintro e W6 ⟨rfl, hb⟩
    rw [ES.out]
    replace KL := Lib.hid (KL.out.next hb)
    replace Kb := Lib.hid (Kb.out.next hb)
    replace qb := Kb.out.cell
    replace RB0 := Lib.hid (RB0.out.next hb)
    replace Q1 := Lib.hid (Q1.out.next hb)
    replace Q2 := Lib.hid (Q2.out.next hb)
    clear hb
    go_wp2_with fail
    refine (implCountBlowUps_any _ L _ RB0.out HN.out HWF.out).mono ?_
    rintro e W7 ⟨rfl, hb⟩
    rw [ES.out]
    replace KL := Lib.hid (KL.out.next hb)
    replace Kb := Lib.hid (Kb.out.next hb)
    replace qb := Kb.out.cell
    replace RB0 := Lib.hid (RB0.out.next hb)
    replace Q1 := Lib.hid (Q1.out.next hb)
    replace Q2 := Lib.hid (Q2.out.next hb)
    clear hb
    go_wp2_with fail
    refine (specCountBlowUps_any _ L _ RB0.out HN.out HWF.out).mono ?_
    rintro e W8 ⟨rfl, hb⟩
    rw [ES.out]
    replace KL := Lib.hid (KL.out.next hb)
    replace Kb := Lib.hid (Kb.out.next hb)
    replace qb := Kb.out.cell
    replace RB0 := Lib.hid (RB0.out.next hb)
    replace Q1 := Lib.hid (Q1.out.next hb)
    replace Q2 := Lib.hid (Q2.out.next hb)
    clear hb
    go_wp2_with fail
    refine (likeQ _ _ (blA L) _ Q1.out Q2.out HBL.out.1 HBL.out.2).mono ?_
    rintro e W9 ⟨rfl, hb⟩
    replace KL := Lib.hid (KL.out.next hb)
    replace Kb := Lib.hid (Kb.out.next hb)
    replace qb := Kb.out.cell
    replace RB0 := Lib.hid (RB0.out.next hb)
    replace Q1 := Lib.hid (Q1.out.next hb)
    replace Q2 := Lib.hid (Q2.out.next hb)
    clear hb
    have HY := Lib.hid (lq0_yes HC0.out)
    have HSQ := Lib.hid HY.out.2.1
    have HBQ : Hid (blA L = bkQ (seqL L)) := Lib.hid (by rw [blA, if_pos HC0.out])
    have HSO := Lib.hid (seq_range HY.out.1)
    have HDA := Lib.hid (dA_half HY.out.1)
    have HUA := Lib.hid (uA_more HY.out.1)
    have HDB := Lib.hid (dA_bound L)
    have HM2 : Hid (mA L = 2 * dA L) := Lib.hid rfl
    go_wp2_with fail
    refine (implSequenceOf_any _ L _ RB0.out HN.out HWF.out).mono ?_
    rintro e W10 ⟨v3, rfl, ho, hb⟩
    rw [EC.out]
    rw [HSQ.out] at ho
    have R3 := Lib.hid ho.reads
    obtain ⟨A3, c3, e3⟩ : ∃ A c, v3 = .slice A _ c := by obtain ⟨A, c, e, _⟩ := R3.out; exact ⟨A, c, e⟩
    subst e3
    clear ho
    replace KL := Lib.hid (KL.out.next hb)
    replace Kb := Lib.hid (Kb.out.next hb)
    replace qb := Kb.out.cell
    replace RB0 := Lib.hid (RB0.out.next hb)
    replace Q1 := Lib.hid (Q1.out.next hb)
    replace Q2 := Lib.hid (Q2.out.next hb)
    clear hb
    go_wp2_with fail
    refine (implMilnorOfBranch_any _ L _ RB0.out HN.out HWF.out).mono ?_
    rintro e W11 ⟨rfl, hb⟩
    rw [ES.out, HM2.out]
    replace KL := Lib.hid (KL.out.next hb)
    replace Kb := Lib.hid (Kb.out.next hb)
    replace qb := Kb.out.cell
    replace RB0 := Lib.hid (RB0.out.next hb)
    replace Q1 := Lib.hid (Q1.out.next hb)
    replace Q2 := Lib.hid (Q2.out.next hb)
    replace R3 := Lib.hid (R3.out.next hb)
    clear hb
    have hdb := HDB.out
    rw [HBQ.out] at Q1 ⊢
    generalize dA L = dl at *
    generalize uA L = ul at *
    generalize hs : seqL L = s at *
    obtain ⟨N, hN⟩ : ∃ N, (bkQ s).length = N := ⟨_, rfl⟩
    obtain ⟨M, hM⟩ : ∃ M, s.length = M := ⟨_, rfl⟩
    rw [hN, hM]
    rw [hN] at Q1
    rw [hM] at R3
    have HNN : Hid ((bkL s).length = N) := Lib.hid (by rw [← hN]; simp [bkQ])
    have HMM := Lib.hid hM
    have hM4 : M ≤ 400 := by have := HY.out.2.2.1; omega
    have hN4 : N ≤ 400 := by have := (bk_bound s).1; have := HNN.out; omega
    clear hs hN hM HY HSQ HBQ Q2 RB0 HN HWF HSP HBL HC0 EC ES HM2
    have p1 : IntKind.i64.wrap (2 * dl) = 2 * dl := IntWalk.i64_in _ (by omega)
    generalize hdd : 2 * dl = dd at *
    have HBB := Lib.hid (Below.refl W11.heap.size W11)
    have KB0 := Lib.hid KL.out.below
    have HKB : Hid (∀ i, i < N → 1 ≤ ((bkL s).getD i (0, 0)).2 ∧ ((bkL s).getD i (0, 0)).2 ≤ 400) := Lib.hid (fun i hi => by
      have h1 := (bk_bound s).2 ((bkL s).getD i (0, 0)) (by have := HNN.out; simp [List.getD, show i < (bkL s).length by omega])
      have := HMM.out; omega)
    have HDR : Hid (∀ i, i < N → (bkL s).drop i = (bkL s).getD i (0, 0) :: (bkL s).drop (i + 1)) := Lib.hid (fun i hi => by
      have := HNN.out
      rw [List.drop_eq_getElem_cons (show i < (bkL s).length by omega)]
      simp [List.getD, show i < (bkL s).length by omega])
    have HSX : Hid (∀ q, q < M → 1 ≤ s[q]?.getD 0 ∧ s[q]?.getD 0 ≤ 64) := Lib.hid (fun q hq => by
      have := HMM.out
      exact HSO.out _ (by simp [show q < s.length by omega]))
    have HST := Lib.hid (AtB.start s 0)
    clear KL Kb qb
    go_wp2_with fail
    go_loopw [20, 21, 22, 23] (fun vt vc va vi wr => ∃ (i q : Nat) (t u : Int), i ≤ N ∧ q ≤ M ∧ (0 ≤ t ∧ t ≤ 2016 * (q : Int)) ∧ (0 ≤ u ∧ u ≤ (q : Int)) ∧ vt = .int .i64 t ∧ vc = .int .i64 u ∧ va = .int .i64 q ∧ vi = .int .i64 i ∧ Hid (sumF halfF (s.take q) = t) ∧ Hid (sumF moreF (s.take q) = u) ∧ Hid (AtB s q 0 0 ((bkL s).drop i)) ∧ Hid (Below W11.heap.size W11 wr)) (fun _ _ _ vi _ => N - (intOf vi).toNat)
    case atStart => exact ⟨0, 0, 0, 0, by omega, by omega, by omega, by omega, rfl, rfl, rfl, rfl, Lib.hid rfl, Lib.hid rfl, HST, HBB⟩
    case round =>
      clear HST HBB
      obtain ⟨i, q, t, u, hi, hq, ht, hu, rfl, rfl, rfl, rfl, HT, HU, HA, hb⟩ := hrel
      by_cases hlt : i < N
      rotate_left
      · obtain rfl : i = N := by omega
        have hqM : q = M := by
          have h1 := HA.out
          rw [List.drop_eq_nil_of_le (by have := HNN.out; omega)] at h1
          have := h1.none (by have := HMM.out; omega)
          have := HMM.out; omega
        subst hqM
        have ht1 : t = dl := by have h1 := HT.out; rw [List.take_of_length_le (by have := HMM.out; omega), ← HDA.out] at h1; exact h1.symm
        have hu1 : u = ul := by have h1 := HU.out; rw [List.take_of_length_le (by have := HMM.out; omega), ← HUA.out] at h1; exact h1.symm
        subst ht1 hu1
        go_wp2_with fail
        go_ret
        exact ⟨rfl, below_next KB0.out KB0.out.size hb.out⟩
      obtain ⟨g, o, gi, oi, ci, rfl, k1, k2, k3⟩ := two_at (Q1.out.below hb.out) HNN.out hlt
      have hkb := HKB.out i hlt
      have HA2 : Hid (AtB s q ((bkL s).getD i (0, 0)).2 ((bkL s).getD i (0, 0)).1 ((bkL s).drop (i + 1))) := Lib.hid (by
        have h1 := HA.out
        rw [HDR.out i hlt] at h1
        exact h1.next)
      have HX2 : Hid (∀ w', Below W11.heap.size W11 w' → ∃ gi oi ci, w'.cell? ⟨g, o + i, none⟩ = some (.slice (some ⟨gi, oi, none⟩) 2 ci) ∧ w'.cell? ⟨gi, oi, none⟩ = some (.int .i64 ((bkL s).getD i (0, 0)).1)) := Lib.hid (fun w' hb' => by
        obtain ⟨g', o', gi, oi, ci, e, k1, k2, _⟩ := two_at (Q1.out.below hb') HNN.out hlt
        cases e
        exact ⟨gi, oi, ci, k1, k2⟩)
      generalize ((bkL s).getD i (0, 0)).1 = x at *
      generalize ((bkL s).getD i (0, 0)).2 = kk at *
      have hi1 : (i : Int) < (N : Int) := by omega
      have hi0 : (0 : Int) ≤ (i : Int) := by omega
      clear HA
      go_wp2_with fail
      have KK0 : Hid (AtB s q kk x ((bkL s).drop (i + 1))) := HA2
      go_loopw [20, 21, 22, 24] (fun vt vc va vk wr => ∃ (q : Nat) (t u kk : Int), (0 ≤ kk ∧ kk ≤ 400) ∧ q ≤ M ∧ (0 ≤ t ∧ t ≤ 2016 * (q : Int)) ∧ (0 ≤ u ∧ u ≤ (q : Int)) ∧ vt = .int .i64 t ∧ vc = .int .i64 u ∧ va = .int .i64 q ∧ vk = .int .i64 kk ∧ Hid (sumF halfF (s.take q) = t) ∧ Hid (sumF moreF (s.take q) = u) ∧ Hid (AtB s q kk x ((bkL s).drop (i + 1))) ∧ Hid (Below W11.heap.size W11 wr)) (fun _ _ _ vk _ => (intOf vk).toNat)
      case atStart => exact ⟨q, t, u, kk, by omega, by omega, by omega, by omega, rfl, rfl, rfl, rfl, HT, HU, KK0, hb⟩
      case round =>
        clear HT HU KK0 HA2 hb k1 k2 k3 hkb
        obtain ⟨q, t, u, kk, hkk, hq, ht, hu, rfl, rfl, rfl, rfl, HT, HU, HA, hb⟩ := hrel
        by_cases hk0 : kk > 0
        rotate_left
        · obtain rfl : kk = 0 := by omega
          go_wp2_with fail
          go_roundw
          case rel => exact ⟨i + 1, q, t, u, by omega, by omega, by omega, by omega, rfl, rfl, rfl, by go_num, HT, HU, Lib.hid HA.out.zero, hb⟩
          case measure => simp [intOf]; omega
        have hkb : decide (kk > 0) = true := by simpa using hk0
        obtain ⟨hql, hqx, hnx⟩ := HA.out.step hk0
        have hqM : q < M := by have := HMM.out; omega
        have hxr := HSX.out q hqM
        obtain ⟨g3, o3, rfl, d1⟩ := int_at (R3.out.below hb.out) HMM.out hqM
        obtain ⟨gi, oi, ci, k1, k2⟩ := HX2.out wr hb.out
        have HTN := Lib.hid (sum_take (f := halfF) hql)
        have HUN := Lib.hid (sum_take (f := moreF) hql)
        rw [hqx] at d1 hxr HTN HUN
        have HNX := Lib.hid hnx
        obtain ⟨h1, h2, h3, h4, h5⟩ := half_in hxr
        have p1 : IntKind.i64.wrap (x - 1) = x - 1 := IntWalk.i64_in _ (by omega)
        have p2 : IntKind.i64.wrap (x * (x - 1)) = x * (x - 1) := IntWalk.i64_in _ (by omega)
        have p3 : IntKind.i64.wrap (halfF x) = halfF x := IntWalk.i64_in _ (by omega)
        have p4 : IntKind.i64.wrap (t + halfF x) = t + halfF x := IntWalk.i64_in _ (by omega)
        have p5 : IntKind.i64.wrap (u + 1) = u + 1 := IntWalk.i64_in _ (by omega)
        have p6 : IntKind.i64.wrap ((q : Int) + 1) = (q : Int) + 1 := IntWalk.i64_in _ (by omega)
        have p7 : IntKind.i64.wrap (kk - 1) = kk - 1 := IntWalk.i64_in _ (by omega)
        have hq1 : (q : Int) < (M : Int) := by omega
        have hq2 : decide ((M : Int) ≤ (q : Int)) = false := by simp; omega
        have hq0 : (0 : Int) ≤ (q : Int) := by omega
        generalize halfF x = hx at *
        clear hnx hqx
        by_cases hx1 : 1 < x
        · have hxb : decide (1 < x) = true := by simpa using hx1
          have HMO : Hid (moreF x = 1) := Lib.hid (by unfold moreF; rw [if_pos hx1])
          go_wp2_with fail
          go_quiet (fail)
          go_wp2_with fail
          go_quiet (fail)
          go_wp2_with fail
          go_roundw
          case rel => exact ⟨q + 1, t + hx, u + 1, kk - 1, by omega, by omega, by omega, by omega, by go_num, by go_num, by go_num, by go_num, Lib.hid (by rw [HTN.out, HT.out]), Lib.hid (by rw [HUN.out, HU.out, HMO.out]), HNX, Lib.hid (below_drewN hb.out _)⟩
          case measure => simp [intOf]; omega
        have hxb : decide (1 < x) = false := by simpa using hx1
        have HMO : Hid (moreF x = 0) := Lib.hid (by unfold moreF; rw [if_neg hx1])
        go_wp2_with fail
        go_quiet (fail)
        go_wp2_with fail
        go_quiet (fail)
        go_wp2_with fail
        go_roundw
        case rel => exact ⟨q + 1, t + hx, u, kk - 1, by omega, by omega, by omega, by omega, by go_num, by go_num, by go_num, by go_num, Lib.hid (by rw [HTN.out, HT.out]), Lib.hid (by rw [HUN.out, HU.out, HMO.out]; omega), HNX, Lib.hid (below_drewN hb.out _)⟩
        case measure => simp [intOf]; omega
  · have EC := Lib.hid hc
    have ES := Lib.hid hs
    have HC0 := Lib.hid hc
    clear hc hs
    go_wp2_with fail
    refine (implBlocksOf_any _ L _ RB0.out HN.out HWF.out).mono ?_
    rintro e W3 ⟨v1, rfl, ho, hb⟩
    rw [EC.out]
    have Q1 := Lib.hid ho.reads
    obtain ⟨A1, c1, e1⟩ : ∃ A c, v1 = .slice A _ c := by obtain ⟨A, c, e, _⟩ := Q1.out; exact ⟨A, c, e⟩
    subst e1
    clear ho
    replace KL := Lib.hid (KL.out.next hb)
    replace Kb := Lib.hid (Kb.out.next hb)
    replace qb := Kb.out.cell
    replace RB0 := Lib.hid (RB0.out.next hb)
    clear hb
    go_wp2_with fail
    refine (specBlocksOf_any _ L _ RB0.out HN.out HWF.out).mono ?_
    rintro e W4 ⟨v2, rfl, ho, hb⟩
    rw [EC.out]
    have Q2 := Lib.hid ho.reads
    obtain ⟨A2, c2, e2⟩ : ∃ A c, v2 = .slice A _ c := by obtain ⟨A, c, e, _⟩ := Q2.out; exact ⟨A, c, e⟩
    subst e2
    clear ho
    replace KL := Lib.hid (KL.out.next hb)
    replace Kb := Lib.hid (Kb.out.next hb)
    replace qb := Kb.out.cell
    replace RB0 := Lib.hid (RB0.out.next hb)
    replace Q1 := Lib.hid (Q1.out.next hb)
    clear hb
    go_wp2_with fail
    refine (implDeltaInvariant_any _ L _ RB0.out HN.out HWF.out).mono ?_
    rintro e W5 ⟨rfl, hb⟩
    rw [ES.out]
    replace KL := Lib.hid (KL.out.next hb)
    replace Kb := Lib.hid (Kb.out.next hb)
    replace qb := Kb.out.cell
    replace RB0 := Lib.hid (RB0.out.next hb)
    replace Q1 := Lib.hid (Q1.out.next hb)
    replace Q2 := Lib.hid (Q2.out.next hb)
    clear hb
    go_wp2_with fail
    refine (specDeltaInvariant_any _ L _ RB0.out HN.out HWF.out).mono ?_
    rintro e W6 ⟨rfl, hb⟩
    rw [ES.out]
    replace KL := Lib.hid (KL.out.next hb)
    replace Kb := Lib.hid (Kb.out.next hb)
    replace qb := Kb.out.cell
    replace RB0 := Lib.hid (RB0.out.next hb)
    replace Q1 := Lib.hid (Q1.out.next hb)
    replace Q2 := Lib.hid (Q2.out.next hb)
    clear hb
    go_wp2_with fail
    refine (implCountBlowUps_any _ L _ RB0.out HN.out HWF.out).mono ?_
    rintro e W7 ⟨rfl, hb⟩
    rw [ES.out]
    replace KL := Lib.hid (KL.out.next hb)
    replace Kb := Lib.hid (Kb.out.next hb)
    replace qb := Kb.out.cell
    replace RB0 := Lib.hid (RB0.out.next hb)
    replace Q1 := Lib.hid (Q1.out.next hb)
    replace Q2 := Lib.hid (Q2.out.next hb)
    clear hb
    go_wp2_with fail
    refine (specCountBlowUps_any _ L _ RB0.out HN.out HWF.out).mono ?_
    rintro e W8 ⟨rfl, hb⟩
    rw [ES.out]
    replace KL := Lib.hid (KL.out.next hb)
    replace Kb := Lib.hid (Kb.out.next hb)
    replace qb := Kb.out.cell
    replace RB0 := Lib.hid (RB0.out.next hb)
    replace Q1 := Lib.hid (Q1.out.next hb)
    replace Q2 := Lib.hid (Q2.out.next hb)
    clear hb
    go_wp2_with fail
    refine (likeQ _ _ (blA L) _ Q1.out Q2.out HBL.out.1 HBL.out.2).mono ?_
    rintro e W9 ⟨rfl, hb⟩
    replace KL := Lib.hid (KL.out.next hb)
    replace Kb := Lib.hid (Kb.out.next hb)
    replace qb := Kb.out.cell
    replace RB0 := Lib.hid (RB0.out.next hb)
    replace Q1 := Lib.hid (Q1.out.next hb)
    replace Q2 := Lib.hid (Q2.out.next hb)
    clear hb
    go_wp2_with fail
    go_ret
    exact ⟨rfl, KL.out.below⟩
  · have EC := Lib.hid hc
    have ES := Lib.hid hs
    have HC0 := Lib.hid hc
    clear hc hs
    go_wp2_with fail
    refine (implBlocksOf_any _ L _ RB0.out HN.out HWF.out).mono ?_
    rintro e W3 ⟨v1, rfl, ho, hb⟩
    rw [EC.out]
    have Q1 := Lib.hid ho.reads
    obtain ⟨A1, c1, e1⟩ : ∃ A c, v1 = .slice A _ c := by obtain ⟨A, c, e, _⟩ := Q1.out; exact ⟨A, c, e⟩
    subst e1
    clear ho
    replace KL := Lib.hid (KL.out.next hb)
    replace Kb := Lib.hid (Kb.out.next hb)
    replace qb := Kb.out.cell
    replace RB0 := Lib.hid (RB0.out.next hb)
    clear hb
    go_wp2_with fail
    refine (specBlocksOf_any _ L _ RB0.out HN.out HWF.out).mono ?_
    rintro e W4 ⟨v2, rfl, ho, hb⟩
    rw [EC.out]
    have Q2 := Lib.hid ho.reads
    obtain ⟨A2, c2, e2⟩ : ∃ A c, v2 = .slice A _ c := by obtain ⟨A, c, e, _⟩ := Q2.out; exact ⟨A, c, e⟩
    subst e2
    clear ho
    replace KL := Lib.hid (KL.out.next hb)
    replace Kb := Lib.hid (Kb.out.next hb)
    replace qb := Kb.out.cell
    replace RB0 := Lib.hid (RB0.out.next hb)
    replace Q1 := Lib.hid (Q1.out.next hb)
    clear hb
    go_wp2_with fail
    refine (implDeltaInvariant_any _ L _ RB0.out HN.out HWF.out).mono ?_
    rintro e W5 ⟨rfl, hb⟩
    rw [ES.out]
    replace KL := Lib.hid (KL.out.next hb)
    replace Kb := Lib.hid (Kb.out.next hb)
    replace qb := Kb.out.cell
    replace RB0 := Lib.hid (RB0.out.next hb)
    replace Q1 := Lib.hid (Q1.out.next hb)
    replace Q2 := Lib.hid (Q2.out.next hb)
    clear hb
    go_wp2_with fail
    refine (specDeltaInvariant_any _ L _ RB0.out HN.out HWF.out).mono ?_
    rintro e W6 ⟨rfl, hb⟩
    rw [ES.out]
    replace KL := Lib.hid (KL.out.next hb)
    replace Kb := Lib.hid (Kb.out.next hb)
    replace qb := Kb.out.cell
    replace RB0 := Lib.hid (RB0.out.next hb)
    replace Q1 := Lib.hid (Q1.out.next hb)
    replace Q2 := Lib.hid (Q2.out.next hb)
    clear hb
    go_wp2_with fail
    refine (implCountBlowUps_any _ L _ RB0.out HN.out HWF.out).mono ?_
    rintro e W7 ⟨rfl, hb⟩
    rw [ES.out]
    replace KL := Lib.hid (KL.out.next hb)
    replace Kb := Lib.hid (Kb.out.next hb)
    replace qb := Kb.out.cell
    replace RB0 := Lib.hid (RB0.out.next hb)
    replace Q1 := Lib.hid (Q1.out.next hb)
    replace Q2 := Lib.hid (Q2.out.next hb)
    clear hb
    go_wp2_with fail
    refine (specCountBlowUps_any _ L _ RB0.out HN.out HWF.out).mono ?_
    rintro e W8 ⟨rfl, hb⟩
    rw [ES.out]
    replace KL := Lib.hid (KL.out.next hb)
    replace Kb := Lib.hid (Kb.out.next hb)
    replace qb := Kb.out.cell
    replace RB0 := Lib.hid (RB0.out.next hb)
    replace Q1 := Lib.hid (Q1.out.next hb)
    replace Q2 := Lib.hid (Q2.out.next hb)
    clear hb
    go_wp2_with fail
    refine (likeQ _ _ (blA L) _ Q1.out Q2.out HBL.out.1 HBL.out.2).mono ?_
    rintro e W9 ⟨rfl, hb⟩
    replace KL := Lib.hid (KL.out.next hb)
    replace Kb := Lib.hid (Kb.out.next hb)
    replace qb := Kb.out.cell
    replace RB0 := Lib.hid (RB0.out.next hb)
    replace Q1 := Lib.hid (Q1.out.next hb)
    replace Q2 := Lib.hid (Q2.out.next hb)
    clear hb
    go_wp2_with fail
    go_ret
    exact ⟨rfl, KL.out.below⟩

set_option maxRecDepth 100000 in
theorem FnBlocks_lifted (os : Os) (started : os.Started) (H : Type) (enc : TypeId × Value → H) :
    ReturnsInHanded {} Try.checked os 12 .any (Rows.fnBlocksSpec.pre6 enc Try.prog Try.f12 Rows.fnBlocksRow.domain false) (Rows.fnBlocksSpec.post enc Try.prog Try.f12 false true false false) := by
  refine returnsInHanded_of_change (C := Try.checked) Try.own started (by kernel_rfl) Try.func12
    (ChangeSpec.witness6 (enc := enc) (C := Try.checked) false ⟨#[], #[.slice none 0 0], []⟩ 8 (by kernel_rfl) (by kernel_rfl) (by kernel_rfl) (by kernel_rfl)) ?_
  intro W base args ds gs before hval0 hW hcnd _
  have hval : ∀ (j : Nat) t v, Try.f12.params[j]? = some t → args[j]? = some v → Value.okWide Try.prog W .any base t v := hval0
  have hW' := hW
  have hltW : ∀ x ∈ before, x.block < W.heap.size := fun x hx => by simpa using hW'.lt x hx
  obtain ⟨p, q, hA0, hV, rfl, hfz, hnd⟩ := hW
  have hA : DataW.TrodAll enc Try.prog W 0 (fun _ => true) true Try.f12.params.toList args.toList ds p := hA0
  rw [Try.params12] at hA hval
  obtain ⟨v0, vs0, d0, ds0, p0, q0, hargs, rfl, rfl, h0, r0⟩ := trodAll_cons hA
  obtain ⟨rfl, rfl, rfl⟩ := trodAll_nil r0
  obtain rfl : args = #[v0] := by cases args; simp_all
  obtain ⟨rfl, rfl⟩ := trodVars_none hV
  obtain ⟨A0, n0, c0, rfl, hr0, hn0⟩ := open_row_bytes (B := W.heap.size) (hval 0 44 v0 rfl rfl) h0 (fun x hx => hltW x (by simp [hx]))
  refine (FnBlocks_walk A0 n0 c0 W hr0 hn0).mono fun e W' ⟨he, hb⟩ => ?_
  subst he
  exact ⟨_, rfl, law_post (tb := 4) Try.laidOut (by kernel_rfl) rfl Try.underlying4 rfl rfl hW' hb⟩

/-- The given statement. -/
theorem fnBlocks_proved : Rows.FnBlocksSaid :=
  OpenClaim.holds_of_wide 12 Try.f12 rfl rfl rfl rfl rfl rfl rfl ⟨rfl, rfl, rfl, rfl, rfl⟩ rfl rfl rfl rfl rfl (by kernel_rfl) Try.func12 (by kernel_rfl)
    (of_decide_eq_true (by kernel_rfl)) (by unfold Func.isWrapper; first | (rw [if_pos (by decide +kernel)]; kernel_rfl) | (rw [if_neg (by decide +kernel)]; exact ⟨rfl, rfl⟩))
    (fun os started H enc _ => FnBlocks_lifted os started H enc)
end Go.Proofs.Ytncgkoanckefmaa
