/- Clusters of excesses, the model's: contract. Conditions: stated at each theorem. -/
import Derived.Test.YtbempmbnhfnlbaaClH
namespace Go.Proofs.Ytbempmbnhfnlbaa
open Go.ChangeShapes Go.WideShapes Go.ChangeAt Go.RowKit Go.Deep
set_option linter.unusedVariables false
set_option linter.unusedSimpArgs false

/-- The sum of the first k excesses times the weights of simple clusters. -/
def exS (P S E : List Int) (n k : Nat) (x : Nat) : Int := sgC (fun i => E[i]?.getD 0 * smF1 P S n i x) k
def exJ (P S E : List Int) (n k j : Nat) (x : Nat) : Int := if x < j then exS P S E n (k + 1) x else exS P S E n k x
theorem exS_next (P S E : List Int) (n k x : Nat) : exS P S E n (k + 1) x = exS P S E n k x + E[k]?.getD 0 * smF1 P S n k x := rfl
theorem exJ_zero (P S E : List Int) (n k : Nat) : exJ P S E n k 0 = exS P S E n k := by funext x; simp [exJ]
theorem exJ_at (P S E : List Int) (n k j : Nat) : exJ P S E n k j j = exS P S E n k j := by simp [exJ]
theorem exJ_set (P S E : List Int) (n k j : Nat) : (fun x => if x = j then exS P S E n k j + E[k]?.getD 0 * smF1 P S n k j else exJ P S E n k j x) = exJ P S E n k (j + 1) := by
  funext x
  unfold exJ
  by_cases h : x = j
  · subst h; rw [if_pos rfl, if_pos (show x < x + 1 by omega)]; rfl
  · rw [if_neg h]
    by_cases h2 : x < j
    · rw [if_pos h2, if_pos (show x < j + 1 by omega)]
    · rw [if_neg h2, if_neg (show ¬ x < j + 1 by omega)]
theorem exJ_end (P S E : List Int) (n k : Nat) : fnL (exJ P S E n k n) n = fnL (exS P S E n (k + 1)) n := fnL_congr fun x hx => by unfold exJ; rw [if_pos hx]
theorem mul_rng {z s : Int} (hz : -1000 ≤ z ∧ z ≤ 1000) (hs : 0 ≤ s ∧ s ≤ 46368) : -46368000 ≤ z * s ∧ z * s ≤ 46368000 := by
  have h1 := Int.mul_le_mul_of_nonneg_right hz.1 hs.1
  have h2 := Int.mul_le_mul_of_nonneg_right hz.2 hs.1
  omega
theorem exM_rng {P S E : List Int} {n k : Nat} (h : okAll P S n = true) (hn : n ≤ 24) (hE : ∀ x : Nat, -1000 ≤ E[x]?.getD 0 ∧ E[x]?.getD 0 ≤ 1000) (hk : k ≤ n) (x : Nat) : -1200000000 ≤ exS P S E n k x ∧ exS P S E n k x ≤ 1200000000 := by
  have := sgC_le (n := k) (F := fun i => E[i]?.getD 0 * smF1 P S n i x) (b := 46368000) (fun i hi => mul_rng (hE i) (sm_bound h hn (by omega)))
  unfold exS
  omega
theorem exS_wt {P S E : List Int} {n : Nat} (hl : E.length = n) : fnL (exS P S E n n) n = wtL P S E n := by
  show _ = fnL _ n
  refine fnL_congr fun x _ => ?_
  exact (wt_sum hl).symm

set_option maxRecDepth 100000 in
set_option maxHeartbeats 4000000 in
theorem specClusterOfExcesses_any (a b c : Value) (P S W : List Int)  (v : Value) (E : List Int) (w : World) (h : ReadC w w.heap.size a b c P S W) (hP : P.length ≤ 1048576) (hS : S.length ≤ 1048576) (hW : W.length ≤ 1048576) (hwp : ∀ z ∈ P, (Lit.int .i64 z).wf = true) (hws : ∀ z ∈ S, (Lit.int .i64 z).wf = true) (hww : ∀ z ∈ W, (Lit.int .i64 z).wf = true) (hv : ReadI w w.heap.size v E) (hE : E.length ≤ 1048576) (hwe : ∀ z ∈ E, (Lit.int .i64 z).wf = true) :
    Calls Try.prog 55 #[.agg #[a, b, c], v] w (AnsCC w (coP P S W E) (coS P S W E) (coW P S W E) (coC P S W E)) := by
  obtain ⟨A9, c9, rfl, _⟩ := id hv
  obtain ⟨n9, hn9⟩ : ∃ x, E.length = x := ⟨_, rfl⟩
  rw [hn9] at hv hE ⊢
  have HV := Lib.hid hv
  have HL9 := Lib.hid hn9
  clear hv hwe hn9
  obtain ⟨W0, HE⟩ : ∃ V, V = (w.alloc (.cells #[a, b, c] 26)).alloc (.cells #[.slice none 0 0, .slice none 0 0, .slice none 0 0] 26) := ⟨_, rfl⟩
  have hb0 : Below w.heap.size w W0 := by rw [HE]; exact (below_box2 _ _).alloc (by simp) _
  have hx : CBox W0 w.heap.size a b c := by rw [HE]; exact (CBox.new w a b c 26).alloc _
  have hy : CBox W0 (w.heap.size + 1) (.slice none 0 0) (.slice none 0 0) (.slice none 0 0) := by
    have := CBox.new (w.alloc (.cells #[a, b, c] 26)) (.slice none 0 0) (.slice none 0 0) (.slice none 0 0) 26
    rw [World.size_alloc] at this
    rw [HE]; exact this
  have HZ0 : Hid (W0.heap.size = w.heap.size + 2) := Lib.hid (by rw [HE]; simp)
  obtain ⟨A0, k0, rfl⟩ : ∃ A k, a = .slice A P.length k := by obtain ⟨A, k, e, _⟩ := h.1; exact ⟨A, k, e⟩
  obtain ⟨A1, k1, rfl⟩ : ∃ A k, b = .slice A S.length k := by obtain ⟨A, k, e, _⟩ := h.2.1; exact ⟨A, k, e⟩
  obtain ⟨A2, k2, rfl⟩ : ∃ A k, c = .slice A W.length k := by obtain ⟨A, k, e, _⟩ := h.2.2; exact ⟨A, k, e⟩
  have HR := Lib.hid ((h.below hb0).more hb0.size)
  have HB := Lib.hid hb0
  have HEQ := Lib.hid HE
  have HX := Lib.hid hx
  have HY := Lib.hid hy
  have x0 := hx.c0; have x1 := hx.c1; have x2 := hx.c2
  clear h hb0 hx hy HE hwp hws hww
  rcases bool_fs (clB P S W) with hp | hp
  · have HP := Lib.hid hp
    have hk : coC P S W E = 1 := by simp [coC, hp]
    have HK := Lib.hid hk; have HN := Lib.hid (co_no hk (by decide)); clear hk
    clear hp
    go_enter Try.func55, Try.ntmps55
    go_wp2_with fail
    rw [← HEQ.out]
    refine (l07Is_if _ _ _ P S W W0 HR.out hP hS hW false HP.out).mono ?_
    rintro e w1 ⟨rfl, hb1⟩
    have hY1 := HY.out.below hb1
    have p0 := hY1.c0; have p1 := hY1.c1; have p2 := hY1.c2; have p3 := hY1.f0; have p4 := hY1.f1; have p5 := hY1.f2; have p6 := hY1.lt
    have HY1 := Lib.hid hY1
    have HB1 := Lib.hid (HB.out.trans (hb1.mono HB.out.size))
    clear hb1 hY1
    go_wp2_with fail
    have cr := CBox.set3 (HY1.out) (.slice none 0 0) (.slice none 0 0) (.slice none 0 0)
    have cr0 := cr.c0; have cr1 := cr.c1; have cr2 := cr.c2
    refine bodyPost_ret (v := .tuple #[.agg #[.slice none 0 0, .slice none 0 0, .slice none 0 0], .int .i64 1]) (by simp [results, Try.results55, go_sem, cr0, cr1, cr2]) rfl ?_
    exact AnsCC.noneC (HN.out.1) (HN.out.2.1) (HN.out.2.2) (HK.out.symm) (Below.set3 (HB1.out) (by omega) _ _ _)
  · obtain ⟨n, hC⟩ := clB_true hp
    have HC := Lib.hid hC
    have HP := Lib.hid hp
    have HPN := Lib.hid hC.p
    have hn : P.length ≤ 24 := by rw [hC.p]; exact hC.hi
    have hn1 : 1 ≤ P.length := by rw [hC.p]; exact hC.lo
    clear hp hC
    go_enter Try.func55, Try.ntmps55
    go_wp2_with fail
    rw [← HEQ.out]
    refine (l07Is_if _ _ _ P S W W0 HR.out hP hS hW true HP.out).mono ?_
    rintro e w1 ⟨rfl, hb1⟩
    have hX1 := HX.out.below hb1; have hY1 := HY.out.below hb1
    have y0 := hX1.c0; have y1 := hX1.c1; have y2 := hX1.c2; have y6 := hX1.lt
    have p0 := hY1.c0; have p1 := hY1.c1; have p2 := hY1.c2; have p3 := hY1.f0; have p4 := hY1.f1; have p5 := hY1.f2; have p6 := hY1.lt
    have HX1 := Lib.hid hX1
    have HY1 := Lib.hid hY1
    have HB1 := Lib.hid (HB.out.trans (hb1.mono HB.out.size))
    have HR1 := Lib.hid ((HR.out.below hb1).more hb1.size)
    have HSW : Hid (w.heap.size + 2 ≤ w1.heap.size) := Lib.hid (by rw [← HZ0.out]; exact hb1.size)
    clear hb1 hX1 hY1 x0 x1 x2
    by_cases hne : n9 = P.length
    · subst hne
      have HCL : Hid (ClOK P S W P.length) := Lib.hid (by rw [HPN.out]; exact HC.out)
      obtain ⟨g9, o9, rfl, HE9, hg9⟩ := cells_of HV.out HL9.out hn1
      have HCE : Hid (∀ k, k < P.length → w1.cell? ⟨g9, o9 + k, none⟩ = some (.int .i64 (E[k]?.getD 0))) := Lib.hid fun k hk => by rw [HB1.out.cell (p := ⟨g9, o9 + k, none⟩) hg9]; exact HE9.out k hk
      have HA0 : Hid (∀ i, i < 0 → -1000 ≤ E[i]?.getD 0 ∧ E[i]?.getD 0 ≤ 1000) := Lib.hid fun i hi => by omega
      have hgw : g9 < w1.heap.size := by have := HB1.out.size; omega
      have hsw := HSW.out
      go_wp2_with fail
      go_loop [6] (fun vi => ∃ (j : Nat), j ≤ P.length ∧ vi = .int .i64 j ∧ Hid (∀ i, i < j → -1000 ≤ E[i]?.getD 0 ∧ E[i]?.getD 0 ≤ 1000)) (fun vi => P.length - (intOf vi).toNat)
      case atStart => exact ⟨0, by omega, rfl, HA0⟩
      case round =>
        obtain ⟨j, hj, rfl, HA⟩ := hrel
        by_cases hjn : j < P.length
        · have d1 := HCE.out j hjn
          obtain ⟨z, hz⟩ : ∃ z, E[j]?.getD 0 = z := ⟨_, rfl⟩
          have HZ := Lib.hid hz
          rw [hz] at d1
          have hjn2 : (j : Int) < (P.length : Int) := by omega
          clear hz
          by_cases hzz : -1000 ≤ z ∧ z ≤ 1000
          · have HA1 : Hid (∀ i, i < j + 1 → -1000 ≤ E[i]?.getD 0 ∧ E[i]?.getD 0 ≤ 1000) := Lib.hid fun i hi => by
              by_cases e : i = j
              · subst e; rw [HZ.out]; exact hzz
              · exact HA.out i (by omega)
            go_wp2_with (go_at_call 88; refine (inY z _ _ _ hzz.1 hzz.2).mono ?_; rintro e w' ⟨rfl, rfl⟩)
            go_round
            case rel => exact ⟨j + 1, by omega, by go_num, HA1⟩
            case measure => simp [intOf]; omega
          · have hk : coC P S W E = 2 := co_range HCL.out (fun h => by
              have := exOK_bad (E := E) (i := j) (by rw [HL9.out]; exact hjn) (by rw [HZ.out]; exact hzz)
              rw [this] at h; exact absurd h.2 (by decide))
            have HK := Lib.hid hk; have HN := Lib.hid (co_no hk (by decide)); clear hk
            go_wp2_with (go_at_call 88; refine (inN z _ _ _ hzz).mono ?_; rintro e w' ⟨rfl, rfl⟩)
            have cr := CBox.set3 (HY1.out) (.slice none 0 0) (.slice none 0 0) (.slice none 0 0)
            have cr0 := cr.c0; have cr1 := cr.c1; have cr2 := cr.c2
            refine bodyPost_ret (v := .tuple #[.agg #[.slice none 0 0, .slice none 0 0, .slice none 0 0], .int .i64 2]) (by simp [results, Try.results55, go_sem, cr0, cr1, cr2]) rfl ?_
            exact AnsCC.noneC (HN.out.1) (HN.out.2.1) (HN.out.2.2) (HK.out.symm) (Below.set3 (HB1.out) (by omega) _ _ _)
        · have hje : j = P.length := by omega
          subst hje
          have HXX : Hid (exOK E = true) := Lib.hid (exOK_yes HL9.out HA.out)
          have HEX := Lib.hid (fun x => exOK_at HXX.out x)
          have hjj : ¬ (P.length : Int) < (P.length : Int) := by omega
          obtain ⟨W2, HE2⟩ : ∃ V, V = w1.alloc (.cells (madeCells #[.int .i64 0] P.length) 2) := ⟨_, rfl⟩
          have HB2 : Hid (Below w1.heap.size w1 W2) := Lib.hid (by rw [HE2]; exact below_box2 _ _)
          have HW2 : Hid (OwnI W2 w1.heap.size (w1.heap.size + 1) (.slice (some ⟨w1.heap.size, 0, none⟩) P.length P.length) (fnL (exS P S E P.length 0) P.length)) := Lib.hid (by
            rw [HE2]
            exact row_ownC ((World.rowIs_made _ _ _ _).congr fun x hx => by simp [exS, sgC]) (by simp) (by omega))
          have HEQ2 := Lib.hid HE2
          have hmk2 := fun (V : World) => run_make_row' (P := Try.prog) 24 2 (.int .i64 0) 8 Try.underlying24 int_info rfl .i64 .i64 P.length (by omega) (by omega) V
          clear HE2 HA
          go_wp2_with fail
          rw [← HEQ2.out]
          clear hmk2 HEQ2 p0 p1 p2 p3 p4 p5 y0 y1 y2
          go_loopw [8] (fun vi wr => ∃ (k : Nat), k ≤ P.length ∧ vi = .int .i64 k ∧ Hid (OwnI wr w1.heap.size (w1.heap.size + 1) (.slice (some ⟨w1.heap.size, 0, none⟩) P.length P.length) (fnL (exS P S E P.length k) P.length)) ∧ Hid (Below w1.heap.size w1 wr)) (fun vi _ => P.length - (intOf vi).toNat)
          case atStart => exact ⟨0, by omega, rfl, HW2, HB2⟩
          case round =>
            obtain ⟨k, hk, rfl, how, hb⟩ := hrel
            have hX := HX1.out.below hb.out
            have v0 := hX.c0; have v1 := hX.c1; have v2 := hX.c2; have v6 := hX.lt
            by_cases hkn : k < P.length
            · have hkn2 : (k : Int) < (P.length : Int) := by omega
              have HRK := Lib.hid ((HR1.out.below hb.out).more hb.out.size)
              have HOW := Lib.hid how.out
              have HBR := Lib.hid hb.out
              obtain ⟨wo, rfl⟩ : ∃ wo : World, wo = wr := ⟨_, rfl⟩
              clear how hb hX
              go_wp2_with fail
              refine (l07Simple_any (.slice A0 P.length k0) (.slice A1 S.length k1) (.slice A2 W.length k2) P S W P.length k wo HRK.out HCL.out.toClP hkn).mono ?_
              rintro e w3 ⟨A3, c3, rfl, ho3, hb3⟩
              rw [smL_len]
              rw [smL_len] at ho3
              have HO3 := Lib.hid ho3
              have hsz : w1.heap.size + 1 ≤ wo.heap.size := own_size HOW.out
              have HOW3 : Hid (OwnI w3 w1.heap.size (w1.heap.size + 1) (.slice (some ⟨w1.heap.size, 0, none⟩) P.length P.length) (fnL (exJ P S E P.length k 0) P.length)) := Lib.hid (by rw [exJ_zero]; exact HOW.out.stay hb3)
              have HB3 : Hid (Below w1.heap.size w1 w3) := Lib.hid (HBR.out.trans (hb3.mono HBR.out.size))
              have HK3 := Lib.hid (Kept.refl wo.heap.size w3.heap.size w3)
              have hek := HEX.out k
              clear ho3 hb3 v0 v1 v2 v6 HOW
              go_wp2_with fail
              go_loopw [10] (fun vi wr => ∃ (j : Nat), j ≤ P.length ∧ vi = .int .i64 j ∧ Hid (OwnI wr w1.heap.size (w1.heap.size + 1) (.slice (some ⟨w1.heap.size, 0, none⟩) P.length P.length) (fnL (exJ P S E P.length k j) P.length)) ∧ Hid (Kept wo.heap.size w3.heap.size w3 wr) ∧ Hid (Below w1.heap.size w1 wr)) (fun vi _ => P.length - (intOf vi).toNat)
              case atStart => exact ⟨0, by omega, rfl, HOW3, HK3, HB3⟩
              case round =>
                obtain ⟨j, hj, rfl, how, hkp, hb⟩ := hrel
                by_cases hjn : j < P.length
                · have hjn2 : (j : Int) < (P.length : Int) := by omega
                  have dE := (hb.out.cell (p := ⟨g9, o9 + k, none⟩) hgw).trans (HCE.out k hkn)
                  obtain ⟨d', e', _, _, hcd, hfd⟩ := own_at how.out (fnL_len _ _) hjn
                  simp only [Option.some.injEq, Addr.mk.injEq, and_true] at e'
                  subst e'
                  obtain ⟨g3, e3, _, _, hcs, _⟩ := own_at (HO3.out.kept hkp.out) (smL_len _ _ _ _) hjn
                  subst e3
                  rw [fnL_at hjn, exJ_at] at hcd
                  rw [smL_at hjn] at hcs
                  have hsr := sm_bound (x := j) HCL.out.ok hn hkn
                  have hxr := exM_rng (k := k) HCL.out.ok hn HEX.out (by omega) j
                  have hmr := mul_rng hek hsr
                  have HST := Lib.hid (exJ_set P S E P.length k j)
                  obtain ⟨y, hy⟩ : ∃ y, exS P S E P.length k j = y := ⟨_, rfl⟩
                  obtain ⟨z, hz⟩ : ∃ z, E[k]?.getD 0 = z := ⟨_, rfl⟩
                  obtain ⟨s, hs⟩ : ∃ s, smF1 P S P.length k j = s := ⟨_, rfl⟩
                  rw [hy] at hcd hxr HST
                  rw [hz] at dE hmr HST
                  rw [hs] at hcs hmr HST
                  have HNW : Hid (OwnI ((wr.setCell ⟨w1.heap.size, j, none⟩ (.int .i64 (y + z * s))).drew) w1.heap.size (w1.heap.size + 1) (.slice (some ⟨w1.heap.size, 0, none⟩) P.length P.length) (fnL (exJ P S E P.length k (j + 1)) P.length)) := Lib.hid (by
                    have h6 := own_store (j := j) how.out (fnL_len _ _) (y + z * s)
                    rw [fnL_put, HST.out] at h6
                    exact h6)
                  have HKW : Hid (Kept wo.heap.size w3.heap.size w3 (wr.setCell ⟨w1.heap.size, j, none⟩ (.int .i64 (y + z * s))).drew) := Lib.hid ((hkp.out.trans (keptS wr (p := ⟨w1.heap.size, j, none⟩) (show w1.heap.size < wo.heap.size by omega) _)).trans (Kept.drewN _ _ _ 1))
                  have HBW : Hid (Below w1.heap.size w1 (wr.setCell ⟨w1.heap.size, j, none⟩ (.int .i64 (y + z * s))).drew) := Lib.hid ((hb.out.setCell (p := ⟨w1.heap.size, j, none⟩) (Nat.le_refl _) _).drew)
                  have p2 : IntKind.i64.wrap (z * s) = z * s := IntWalk.i64_in _ (by omega)
                  have p1 : IntKind.i64.wrap (y + z * s) = y + z * s := IntWalk.i64_in _ (by omega)
                  clear hy hz hs how hmr
                  go_wp2_with fail
                  go_still_tail 17, (by kernel_rfl)
                  go_wp2_with fail
                  go_roundw
                  case rel => exact ⟨j + 1, by omega, by go_num, HNW, HKW, HBW⟩
                  case measure => simp [intOf]; omega
                · have hje : j = P.length := by omega
                  subst hje
                  have HWE : Hid (OwnI wr w1.heap.size (w1.heap.size + 1) (.slice (some ⟨w1.heap.size, 0, none⟩) P.length P.length) (fnL (exS P S E P.length (k + 1)) P.length)) := Lib.hid (by rw [← exJ_end]; exact how.out)
                  go_wp2_with fail
                  go_roundw
                  case rel => exact ⟨k + 1, by omega, by go_num, HWE, hb⟩
                  case measure => simp [intOf]; omega
            · have hke : k = P.length := by omega
              subst hke
              have HOW := Lib.hid (exS_wt HL9.out ▸ how.out : OwnI wr w1.heap.size (w1.heap.size + 1) (.slice (some ⟨w1.heap.size, 0, none⟩) P.length P.length) (wtL P S E P.length))
              have HRK := Lib.hid ((HR1.out.below hb.out).more hb.out.size)
              have HBR := Lib.hid hb.out
              have hY := HY1.out.below hb.out
              have HYR := Lib.hid hY
              have hsz : w1.heap.size + 1 ≤ wr.heap.size := own_size HOW.out
              clear how hb hX hY
              go_wp2_with fail
              refine (l07With_any (.slice A0 P.length k0) (.slice A1 S.length k1) (.slice A2 W.length k2) (some ⟨w1.heap.size, 0, none⟩) P.length P.length P S W wr HRK.out hP hS).mono ?_
              rintro e w4 ⟨a', b', rfl, hw4, hb4⟩
              obtain ⟨m, hm1, hm2, oa, ob⟩ := hw4
              obtain ⟨A5, c5, rfl⟩ := own_form oa.1
              obtain ⟨A6, c6, rfl⟩ := own_form ob.1
              have HR4 : Hid (ReadC w4 w4.heap.size (.slice A5 P.length c5) (.slice A6 S.length c6) (.slice (some ⟨w1.heap.size, 0, none⟩) P.length P.length) P S (wtL P S E P.length)) := Lib.hid ⟨oa.reads, ob.reads, (HOW.out.stay hb4).reads⟩
              have HOA := Lib.hid oa; have HOB := Lib.hid ob
              have HOV := Lib.hid (HOW.out.stay hb4)
              have HY4' := Lib.hid (HYR.out.below hb4)
              have HB4 := Lib.hid (HB1.out.trans ((HBR.out.trans (hb4.mono HBR.out.size)).mono HB1.out.size))
              have hs4 := hb4.size
              clear hb4 oa ob v0 v1 v2 v6 HOW
              go_wp2_with fail
              obtain ⟨bb, hbb⟩ : ∃ x, wtOK (wtL P S E P.length) = x := ⟨_, rfl⟩
              have HBB := Lib.hid hbb
              refine (l07Fit_any (.slice A5 P.length c5) (.slice A6 S.length c6) (.slice (some ⟨w1.heap.size, 0, none⟩) P.length P.length) P S (wtL P S E P.length) w4 HR4.out hP hS (by rw [wtL_len]; exact hP) bb ((clB_with (W := W) HCL.out.toClP (wtL_len P S E P.length)).trans hbb)).mono ?_
              rintro e w5 ⟨rfl, hb5⟩
              have hY5 := HY4'.out.below hb5
              have p0 := hY5.c0; have p1 := hY5.c1; have p2 := hY5.c2; have p3 := hY5.f0; have p4 := hY5.f1; have p5 := hY5.f2; have p6_ := hY5.lt
              have HY5 := Lib.hid hY5
              have OA := Lib.hid (HOA.out.stay hb5)
              have OB := Lib.hid (HOB.out.stay hb5 |>.raise hb5.size (Nat.le_refl _))
              have OV := Lib.hid (HOV.out.stay hb5)
              have HB5 := Lib.hid (HB4.out.trans (hb5.mono HB4.out.size))
              have hs5 := hb5.size
              clear hbb hb5 hY5
              cases bb
              · have hk : coC P S W E = 3 := by rw [co_mid HCL.out HL9.out HXX.out, HBB.out]; rfl
                have HK := Lib.hid hk; have HN := Lib.hid (co_no hk (by decide)); clear hk
                have hbs : w.heap.size ≤ w5.heap.size := by omega
                go_wp2_with fail
                have cr := (CBox.set3 (HY5.out) (.slice none 0 0) (.slice none 0 0) (.slice none 0 0)).alloc (.cells #[.slice none 0 0, .slice none 0 0, .slice none 0 0] 26)
                have cr0 := cr.c0; have cr1 := cr.c1; have cr2 := cr.c2
                refine bodyPost_ret (v := .tuple #[.agg #[.slice none 0 0, .slice none 0 0, .slice none 0 0], .int .i64 3]) (by simp [results, Try.results55, go_sem, cr0, cr1, cr2]) rfl ?_
                exact AnsCC.noneC (HN.out.1) (HN.out.2.1) (HN.out.2.2) (HK.out.symm) ((Below.set3 (HB5.out) (by omega) _ _ _).alloc (by rw [size_set3]; exact hbs) (.cells #[.slice none 0 0, .slice none 0 0, .slice none 0 0] 26))
              · have HY4 := Lib.hid (co_yes HCL.out HL9.out HXX.out HBB.out)
                have cr := (CBox.set3 HY5.out (.slice A5 P.length c5) (.slice A6 S.length c6) (.slice (some ⟨w1.heap.size, 0, none⟩) P.length P.length)).alloc (.cells #[.slice A5 P.length c5, .slice A6 S.length c6, .slice (some ⟨w1.heap.size, 0, none⟩) P.length P.length] 26)
                have cr0 := cr.c0; have cr1 := cr.c1; have cr2 := cr.c2
                go_wp2_with fail
                refine bodyPost_ret (v := .tuple #[.agg #[.slice A5 P.length c5, .slice A6 S.length c6, .slice (some ⟨w1.heap.size, 0, none⟩) P.length P.length], .int .i64 0]) (by simp [results, Try.results55, go_sem, cr0, cr1, cr2]) rfl ?_
                obtain ⟨w6, hw6⟩ : ∃ V, V = (((w5.setCell ⟨w.heap.size + 1, 0, none⟩ (.slice A5 P.length c5)).setCell ⟨w.heap.size + 1, 1, none⟩ (.slice A6 S.length c6)).setCell ⟨w.heap.size + 1, 2, none⟩ (.slice (some ⟨w1.heap.size, 0, none⟩) P.length P.length)) := ⟨_, rfl⟩
                have hz6 : w6.heap.size = w5.heap.size := by rw [hw6, size_set3]
                have oa6 : OwnI w6 wr.heap.size m (.slice A5 P.length c5) P := by rw [hw6]; exact OwnI.newC3 OA.out (by omega) _ _ _
                have ob6 : OwnI w6 m w5.heap.size (.slice A6 S.length c6) S := by rw [hw6]; exact OwnI.newC3 OB.out (by omega) _ _ _
                have ov6 : OwnI w6 w1.heap.size (w1.heap.size + 1) (.slice (some ⟨w1.heap.size, 0, none⟩) P.length P.length) (wtL P S E P.length) := by rw [hw6]; exact OwnI.newC3 OV.out (by omega) _ _ _
                have hB6 : Below w.heap.size w w6 := by rw [hw6]; exact Below.set3 HB5.out (by omega) _ _ _
                rw [← hw6]
                have hb7 : Below w6.heap.size w6 (w6.alloc (.cells #[.slice A5 P.length c5, .slice A6 S.length c6, .slice (some ⟨w1.heap.size, 0, none⟩) P.length P.length] 26)) := below_box2 _ _
                have hz7 : (w6.alloc (.cells #[.slice A5 P.length c5, .slice A6 S.length c6, .slice (some ⟨w1.heap.size, 0, none⟩) P.length P.length] 26)).heap.size = w6.heap.size + 1 := by simp
                have ob7 : OwnI (w6.alloc (.cells #[.slice A5 P.length c5, .slice A6 S.length c6, .slice (some ⟨w1.heap.size, 0, none⟩) P.length P.length] 26)) m (w6.alloc (.cells #[.slice A5 P.length c5, .slice A6 S.length c6, .slice (some ⟨w1.heap.size, 0, none⟩) P.length P.length] 26)).heap.size (.slice A6 S.length c6) S := (ob6.stay hb7).raise (by omega) (Nat.le_refl _)
                have oa7 : OwnI (w6.alloc (.cells #[.slice A5 P.length c5, .slice A6 S.length c6, .slice (some ⟨w1.heap.size, 0, none⟩) P.length P.length] 26)) (w1.heap.size + 1) m (.slice A5 P.length c5) P := own_less (oa6.stay hb7) (by omega)
                exact AnsCC.someC (l := w1.heap.size) (k := w1.heap.size + 1) (m := m) HY4.out.2.1.symm HY4.out.2.2.1.symm HY4.out.2.2.2.symm HY4.out.1.symm (by omega) (by omega) (by omega) (by omega) oa7 ob7 (ov6.stay hb7) (hB6.trans (hb7.mono (by omega)))
    · have hk : coC P S W E = 2 := co_range HC.out (fun h => hne (HL9.out.symm.trans (h.1.trans HPN.out.symm)))
      have HK := Lib.hid hk; have HN := Lib.hid (co_no hk (by decide)); clear hk
      have hne3 : ¬ ((n9 : Int) = (P.length : Int)) := by omega
      clear hne
      go_wp2_with fail
      have cr := CBox.set3 (HY1.out) (.slice none 0 0) (.slice none 0 0) (.slice none 0 0)
      have cr0 := cr.c0; have cr1 := cr.c1; have cr2 := cr.c2
      refine bodyPost_ret (v := .tuple #[.agg #[.slice none 0 0, .slice none 0 0, .slice none 0 0], .int .i64 2]) (by simp [results, Try.results55, go_sem, cr0, cr1, cr2]) rfl ?_
      exact AnsCC.noneC (HN.out.1) (HN.out.2.1) (HN.out.2.2) (HK.out.symm) (Below.set3 (HB1.out) (by omega) _ _ _)

end Go.Proofs.Ytbempmbnhfnlbaa
