/- How often the curvette at a point meets the branch: contracts of MeetCurvette, the program's and the model's. Conditions: stated at each theorem. -/
import Derived.Test.YtohbgfmjnanlkaaCvA
import Derived.Test.YtohbgfmjnanlkaaCuP
namespace Go.Proofs.Ytohbgfmjnanlkaa
open Go.ChangeShapes Go.WideShapes Go.ChangeAt Go.RowKit Go.Deep
set_option linter.unusedVariables false
set_option linter.unusedSimpArgs false

/-- The sum of the products of the first n numbers. -/
def dotS (L M : List Int) : Nat → Int
  | 0 => 0
  | n + 1 => dotS L M n + L[n]?.getD 0 * M[n]?.getD 0
theorem dotS_dotN (L M : List Int) : ∀ n, dotS L M n = dotN L M n
  | 0 => rfl
  | n + 1 => by show dotS L M n + _ = dotN L M n + _; rw [dotS_dotN L M n]
theorem dotS_bound {L M : List Int} {n : Nat} (h : ∀ i, i < n → (1 ≤ L[i]?.getD 0 ∧ L[i]?.getD 0 ≤ 64) ∧ 1 ≤ M[i]?.getD 0 ∧ M[i]?.getD 0 ≤ 64) : ∀ t, t ≤ n → 0 ≤ dotS L M t ∧ dotS L M t ≤ 4096 * t
  | 0, _ => by simp [dotS]
  | t + 1, ht => by
    have h1 := dotS_bound h t (by omega)
    have h2 := h t (by omega)
    have h3 : 0 ≤ L[t]?.getD 0 * M[t]?.getD 0 := Int.mul_nonneg (by omega) (by omega)
    have h4 := Int.mul_le_mul h2.1.2 h2.2.2 (by omega) (by omega)
    show 0 ≤ dotS L M t + L[t]?.getD 0 * M[t]?.getD 0 ∧ dotS L M t + L[t]?.getD 0 * M[t]?.getD 0 ≤ _
    omega
def mcA (zs : List Int) (j : Int) : Int := if ptC zs (nx j) = 0 then dotS (mqL zs (nx j).toNat) (cvL (cdL (mqL zs (nx j).toNat) (nx j).toNat) ((nx j).toNat - 1)) (nx j).toNat else 0
def mcC (zs : List Int) (j : Int) : Int := ptC zs (nx j)
theorem mcA_no {zs : List Int} {j C : Int} (h : ptC zs (nx j) = C) (hC : C ≠ 0) : mcA zs j = 0 := by unfold mcA; rw [if_neg (by omega)]
theorem mcA_yes {zs : List Int} {j : Int} {p : Nat} (h : ptC zs (nx j) = 0) (hm : nx j = ((p + 1 : Nat) : Int)) : mcA zs j = dotS (mqL zs (p + 1)) (cvL (cdL (mqL zs (p + 1)) (p + 1)) p) (p + 1) := by
  unfold mcA; rw [if_pos h, hm, Int.toNat_natCast]; rfl

set_option maxRecDepth 100000 in
set_option maxHeartbeats 2000000 in
theorem implMeetCurvette_any (v : Value) (zs : List Int) (j : Int) (w : World) (h : ReadI w w.heap.size v zs) (hn : zs.length ≤ 1048576) (hw : ∀ z ∈ zs, (Lit.int .i64 z).wf = true) (hj : (Lit.int .i64 j).wf = true) :
    Calls Try.prog 18 #[.agg #[v], .int .i64 j] w (AnsII w (mcA zs j) (mcC zs j)) := by
  obtain ⟨n, A, c, rfl, hr, HL, HN, hnc, HF, hcm⟩ := h.split2
  obtain ⟨W0, HE⟩ : ∃ W, W = w.alloc (.cells #[.slice A n c] 28) := ⟨_, rfl⟩
  have hb0 : Below w.heap.size w W0 := by rw [HE]; exact below_box _ _
  have hq0 : BoxI W0 w.heap.size (.slice A n c) := by rw [HE]; exact BoxI.new _ _ _
  have H0 := Lib.hid ((h.below hb0).more hb0.size)
  have HNN := Lib.hid hn
  have HWW := Lib.hid hw
  have HEQ := Lib.hid HE
  obtain ⟨hkw, hkc⟩ := nx_cases hj
  have HCA1 := Lib.hid (fun C (hC : C ≠ 0) (h : ptC zs (nx j) = C) => mcA_no h hC)
  have HCA2 := Lib.hid (fun (p : Nat) (h : ptC zs (nx j) = 0) (hm : nx j = ((p + 1 : Nat) : Int)) => mcA_yes h hm)
  have HMC : Hid (mcC zs j = ptC zs (nx j)) := Lib.hid rfl
  obtain ⟨k, hk⟩ : ∃ k, nx j = k := ⟨_, rfl⟩
  have hnx : IntKind.i64.wrap (j + 1) = k := hk
  rw [hk] at hkw hkc HCA1 HCA2 HMC
  have HKW := Lib.hid hkw
  clear h hr HE HF hn hw hk hkw hj
  rcases pt_cases zs k with ⟨hp, hc⟩ | ⟨hp, hk2, hc⟩ | ⟨m, hp, rfl, hm1, hm2, hc⟩
  · have E := Lib.hid (HCA1.out 1 (by omega) hc)
    have HC := Lib.hid hc
    clear hc hp hkc
    go_enter Try.func18, Try.ntmps18
    go_wp2_with fail
    rw [← HEQ.out]
    refine (implMultiplicitiesAt_no _ zs k 1 W0 H0.out HNN.out HWW.out HKW.out HC.out (by omega)).mono ?_
    rintro e w1 ⟨v2, rfl, ho2, hb1⟩
    go_wp2_with fail
    go_ret2
    exact ⟨by rw [E.out, HMC.out, HC.out]; rfl, hb0.trans (hb1.mono hb0.size)⟩
  · have E := Lib.hid (HCA1.out 2 (by omega) hc)
    have HC := Lib.hid hc
    clear hc hp hkc hk2
    go_enter Try.func18, Try.ntmps18
    go_wp2_with fail
    rw [← HEQ.out]
    refine (implMultiplicitiesAt_no _ zs k 2 W0 H0.out HNN.out HWW.out HKW.out HC.out (by omega)).mono ?_
    rintro e w1 ⟨v2, rfl, ho2, hb1⟩
    go_wp2_with fail
    go_ret2
    exact ⟨by rw [E.out, HMC.out, HC.out]; rfl, hb0.trans (hb1.mono hb0.size)⟩
  · obtain ⟨p, rfl⟩ : ∃ p, m = p + 1 := ⟨m - 1, by omega⟩
    have E := Lib.hid (HCA2.out p hc rfl)
    have HC := Lib.hid hc
    have HP := Lib.hid hp
    have HM := Lib.hid (mq_ok hp (p + 1))
    have HCV := Lib.hid (cdL_cv (mq_ok hp (p + 1)))
    have HOK := Lib.hid (cdL_ok (mq_ok hp (p + 1)))
    have HRM : Hid (∀ i, i < p + 1 → 1 ≤ (mqL zs (p + 1))[i]?.getD 0 ∧ (mqL zs (p + 1))[i]?.getD 0 ≤ 64) := Lib.hid (mq_ok hp (p + 1)).rng
    have HRC : Hid (∀ i, i < p + 1 → 1 ≤ (cvL (cdL (mqL zs (p + 1)) (p + 1)) p)[i]?.getD 0 ∧ (cvL (cdL (mqL zs (p + 1)) (p + 1)) p)[i]?.getD 0 ≤ 64) := Lib.hid (fun i hi => by
      rw [cvL_at (by omega)]
      exact ⟨cvM_ge (by omega), cvOK_true.1 (cdL_ok (mq_ok hp (p + 1))) i (by omega)⟩)
    have HDB : Hid (∀ t, t ≤ p + 1 → 0 ≤ dotS (mqL zs (p + 1)) (cvL (cdL (mqL zs (p + 1)) (p + 1)) p) t ∧ dotS (mqL zs (p + 1)) (cvL (cdL (mqL zs (p + 1)) (p + 1)) p) t ≤ 4096 * t) := Lib.hid (dotS_bound (n := p + 1) (fun i hi => ⟨HRM.out i hi, HRC.out i hi⟩))
    have HLM : Hid ((mqL zs (p + 1)).length = p + 1) := Lib.hid (mq_len _ _)
    have HLC : Hid ((cdL (mqL zs (p + 1)) (p + 1)).length = p) := Lib.hid (by rw [cdL_len]; omega)
    have HLV : Hid ((cvL (cdL (mqL zs (p + 1)) (p + 1)) p).length = p + 1) := Lib.hid (cvL_len _ _)
    clear hc hp hkc
    go_enter Try.func18, Try.ntmps18
    go_wp2_with fail
    rw [← HEQ.out]
    refine (implMultiplicitiesAt_yes _ zs (p + 1) W0 H0.out HNN.out HWW.out HKW.out HC.out).mono ?_
    rintro e w1 ⟨A1, c1, rfl, ho1, hb1⟩
    have HO1 := Lib.hid ho1
    have hs0 := hb0.size
    have hs1 := hb1.size
    have B1 := Lib.hid (hb0.trans (hb1.mono hs0))
    have HR1 : Hid (ReadI w1 w1.heap.size (.slice A1 (p + 1) c1) (mqL zs (p + 1))) := Lib.hid ho1.reads
    clear ho1 hb1 hb0
    go_wp2_with fail
    refine (proximatesAt_any _ (mqL zs (p + 1)) (p + 1) w1 HR1.out HM.out hm2).mono ?_
    rintro e w2 ⟨A2, c2, rfl, ho2, hb2⟩
    have HQ2 := Lib.hid ho2.reads
    have HB2 := Lib.hid hb2
    have hs2 := hb2.size
    clear ho2 hb2
    go_wp2_with fail
    refine (codeAt_any _ (mqL zs (p + 1)) (p + 1) w2 HQ2.out HM.out hm1 hm2).mono ?_
    rintro e w3 ⟨A3, c3, rfl, ho3, hb3⟩
    have HR3 := Lib.hid ho3.reads
    have HB3 := Lib.hid (HB2.out.trans (hb3.mono hs2))
    have hs3 := hb3.size
    clear ho3 hb3
    go_wp2_with fail
    refine (curvette_any _ (cdL (mqL zs (p + 1)) (p + 1)) p w3 HR3.out HCV.out (by omega)).mono ?_
    rintro e w4 (⟨_, A4, c4, rfl, ho4, hb4⟩ | ⟨hno, _⟩)
    rotate_left
    · rw [HOK.out] at hno; cases hno
    have HOV := Lib.hid ho4
    have HB4 := Lib.hid (HB3.out.trans (hb4.mono HB3.out.size))
    have HOM : Hid (OwnI w4 W0.heap.size w1.heap.size (.slice A1 (p + 1) c1) (mqL zs (p + 1))) := Lib.hid (HO1.out.kept (Kept.of_below HB4.out (Nat.le_refl _)))
    have B4 := Lib.hid (B1.out.trans (HB4.out.mono B1.out.size))
    clear ho4 hb4
    go_wp2_with fail
    refine (implDot_any _ _ (cvL (cdL (mqL zs (p + 1)) (p + 1)) p) (mqL zs (p + 1)) (p + 1) w4 w4.heap.size w4.heap.size HOV.out.reads HOM.out.reads HLV.out HLM.out (by omega) hm2 (fun i hi => ⟨HRC.out i hi, HRM.out i hi⟩)).mono ?_
    rintro e w5 ⟨rfl, d, rfl⟩
    have HE2 : Hid (mcA zs j = dotN (cvL (cdL (mqL zs (p + 1)) (p + 1)) p) (mqL zs (p + 1)) (p + 1)) := Lib.hid (by rw [E.out, dotS_dotN, dotN_comm])
    go_wp2
    go_ret2
    exact ⟨by rw [HE2.out, HMC.out, HC.out]; rfl, below_drewN B4.out _⟩

set_option maxRecDepth 100000 in
set_option maxHeartbeats 2000000 in
theorem specMeetCurvette_any (v : Value) (zs : List Int) (j : Int) (w : World) (h : ReadI w w.heap.size v zs) (hn : zs.length ≤ 1048576) (hw : ∀ z ∈ zs, (Lit.int .i64 z).wf = true) (hj : (Lit.int .i64 j).wf = true) :
    Calls Try.prog 16 #[.agg #[v], .int .i64 j] w (AnsII w (mcA zs j) (mcC zs j)) := by
  obtain ⟨n, A, c, rfl, hr, HL, HN, hnc, HF, hcm⟩ := h.split2
  obtain ⟨W0, HE⟩ : ∃ W, W = w.alloc (.cells #[.slice A n c] 28) := ⟨_, rfl⟩
  have hb0 : Below w.heap.size w W0 := by rw [HE]; exact below_box _ _
  have hq0 : BoxI W0 w.heap.size (.slice A n c) := by rw [HE]; exact BoxI.new _ _ _
  have H0 := Lib.hid ((h.below hb0).more hb0.size)
  have HNN := Lib.hid hn
  have HWW := Lib.hid hw
  have HEQ := Lib.hid HE
  obtain ⟨hkw, hkc⟩ := nx_cases hj
  have HCA1 := Lib.hid (fun C (hC : C ≠ 0) (h : ptC zs (nx j) = C) => mcA_no h hC)
  have HCA2 := Lib.hid (fun (p : Nat) (h : ptC zs (nx j) = 0) (hm : nx j = ((p + 1 : Nat) : Int)) => mcA_yes h hm)
  have HMC : Hid (mcC zs j = ptC zs (nx j)) := Lib.hid rfl
  obtain ⟨k, hk⟩ : ∃ k, nx j = k := ⟨_, rfl⟩
  have hnx : IntKind.i64.wrap (j + 1) = k := hk
  rw [hk] at hkw hkc HCA1 HCA2 HMC
  have HKW := Lib.hid hkw
  clear h hr HE HF hn hw hk hkw hj
  rcases pt_cases zs k with ⟨hp, hc⟩ | ⟨hp, hk2, hc⟩ | ⟨m, hp, rfl, hm1, hm2, hc⟩
  · have E := Lib.hid (HCA1.out 1 (by omega) hc)
    have HC := Lib.hid hc
    have HP := Lib.hid hp
    clear hc hp hkc
    go_enter Try.func16, Try.ntmps16
    go_wp2_with fail
    rw [← HEQ.out]
    refine (l03Is_if _ zs W0 false H0.out HNN.out HWW.out HP.out).mono ?_
    rintro e w1 ⟨rfl, hb1⟩
    go_wp2_with fail
    go_ret2
    exact ⟨by rw [E.out, HMC.out, HC.out]; rfl, hb0.trans (hb1.mono hb0.size)⟩
  · have E := Lib.hid (HCA1.out 2 (by omega) hc)
    have HC := Lib.hid hc
    have HP := Lib.hid hp
    have hjo : ¬ (0 ≤ j ∧ j ≤ 399) := by
      intro h5
      have h6 : IntKind.i64.wrap (j + 1) = j + 1 := IntWalk.i64_in _ (by omega)
      omega
    clear hc hp hkc hk2
    go_enter Try.func16, Try.ntmps16
    go_wp2_with fail
    rw [← HEQ.out]
    refine (l03Is_if _ zs W0 true H0.out HNN.out HWW.out HP.out).mono ?_
    rintro e w1 ⟨rfl, hb1⟩
    go_wp2_with (go_at_call 60; refine (in_no _ _ _ _ hjo).mono ?_; rintro e w' ⟨rfl, rfl⟩)
    go_ret2
    exact ⟨by rw [E.out, HMC.out, HC.out]; rfl, hb0.trans (hb1.mono hb0.size)⟩
  · obtain ⟨p, rfl⟩ : ∃ p, m = p + 1 := ⟨m - 1, by omega⟩
    have E := Lib.hid (HCA2.out p hc rfl)
    have HC := Lib.hid hc
    have HP := Lib.hid hp
    have HM := Lib.hid (mq_ok hp (p + 1))
    have HCV := Lib.hid (cdL_cv (mq_ok hp (p + 1)))
    have HOK := Lib.hid (cdL_ok (mq_ok hp (p + 1)))
    have HRM : Hid (∀ i, i < p + 1 → 1 ≤ (mqL zs (p + 1))[i]?.getD 0 ∧ (mqL zs (p + 1))[i]?.getD 0 ≤ 64) := Lib.hid (mq_ok hp (p + 1)).rng
    have HRC : Hid (∀ i, i < p + 1 → 1 ≤ (cvL (cdL (mqL zs (p + 1)) (p + 1)) p)[i]?.getD 0 ∧ (cvL (cdL (mqL zs (p + 1)) (p + 1)) p)[i]?.getD 0 ≤ 64) := Lib.hid (fun i hi => by
      rw [cvL_at (by omega)]
      exact ⟨cvM_ge (by omega), cvOK_true.1 (cdL_ok (mq_ok hp (p + 1))) i (by omega)⟩)
    have HDB : Hid (∀ t, t ≤ p + 1 → 0 ≤ dotS (mqL zs (p + 1)) (cvL (cdL (mqL zs (p + 1)) (p + 1)) p) t ∧ dotS (mqL zs (p + 1)) (cvL (cdL (mqL zs (p + 1)) (p + 1)) p) t ≤ 4096 * t) := Lib.hid (dotS_bound (n := p + 1) (fun i hi => ⟨HRM.out i hi, HRC.out i hi⟩))
    have HLM : Hid ((mqL zs (p + 1)).length = p + 1) := Lib.hid (mq_len _ _)
    have HLC : Hid ((cdL (mqL zs (p + 1)) (p + 1)).length = p) := Lib.hid (by rw [cdL_len]; omega)
    have HLV : Hid ((cvL (cdL (mqL zs (p + 1)) (p + 1)) p).length = p + 1) := Lib.hid (cvL_len _ _)
    have hji : 0 ≤ j ∧ j ≤ 399 := by omega
    clear hc hp hkc
    go_enter Try.func16, Try.ntmps16
    go_wp2_with fail
    rw [← HEQ.out]
    refine (l03Is_if _ zs W0 true H0.out HNN.out HWW.out HP.out).mono ?_
    rintro e w1 ⟨rfl, hb1⟩
    have cb1 : w1.cell? ⟨w.heap.size, 0, none⟩ = some (.slice A n c) := by rw [hb1.cell (p := ⟨w.heap.size, 0, none⟩) hq0.2]; exact hq0.1
    have hbx : w.heap.size < w1.heap.size := Nat.lt_of_lt_of_le hq0.2 hb1.size
    have H1 := Lib.hid ((H0.out.below hb1).more hb1.size)
    have B1 := Lib.hid (hb0.trans (hb1.mono hb0.size))
    clear hb1 hb0 hq0
    go_wp2_with (go_at_call 60; refine (in_yes _ _ _ _ hji.1 hji.2).mono ?_; rintro e w' ⟨rfl, rfl⟩)
    refine (l06Sequence_any _ zs (p + 1) w1 H1.out HNN.out HP.out hm2).mono ?_
    rintro e w2 ⟨A2, c2, rfl, ho2, hb2⟩
    have cb2 : w2.cell? ⟨w.heap.size, 0, none⟩ = some (.slice A n c) := by rw [hb2.cell (p := ⟨w.heap.size, 0, none⟩) hbx]; exact cb1
    have H2 := Lib.hid ((H1.out.below hb2).more hb2.size)
    have HO2 := Lib.hid ho2
    have hs1 := B1.out.size
    have hs2 := hb2.size
    have B2 := Lib.hid (B1.out.trans (hb2.mono hs1))
    clear ho2 hb2 cb1
    go_wp2_with fail
    refine (l06Code_any _ zs (p + 1) w2 H2.out HNN.out HP.out hm1 hm2).mono ?_
    rintro e w3 ⟨A3, c3, rfl, ho3, hb3⟩
    have HR3 : Hid (ReadI w3 w3.heap.size (.slice A3 p c3) (cdL (mqL zs (p + 1)) (p + 1))) := Lib.hid ho3.reads
    have HB3 := Lib.hid hb3
    have hs3 := hb3.size
    clear ho3 hb3 cb2
    go_wp2_with fail
    refine (l06Curvette_any _ (cdL (mqL zs (p + 1)) (p + 1)) p w3 HR3.out HCV.out (by omega)).mono ?_
    rintro e w4 (⟨_, A4, c4, rfl, ho4, hb4⟩ | ⟨hno, _⟩)
    rotate_left
    · rw [HOK.out] at hno; cases hno
    have HOV := Lib.hid ho4
    have HB4 := Lib.hid (HB3.out.trans (hb4.mono HB3.out.size))
    have HOM : Hid (OwnI w4 w1.heap.size w2.heap.size (.slice A2 (p + 1) c2) (mqL zs (p + 1))) := Lib.hid (HO2.out.kept (Kept.of_below HB4.out (Nat.le_refl _)))
    have B4 := Lib.hid (B2.out.trans (HB4.out.mono B2.out.size))
    clear ho4 hb4
    go_wp2_with fail
    go_loopw [7, 10] (fun vs vi wr => ∃ (t : Nat) (s : Int), t ≤ p + 1 ∧ vs = .int .i64 s ∧ vi = .int .i64 t ∧ Hid (s = dotS (mqL zs (p + 1)) (cvL (cdL (mqL zs (p + 1)) (p + 1)) p) t) ∧ Hid (∃ d, wr = w4.drewN d)) (fun _ vi _ => p + 1 - (intOf vi).toNat)
    case atStart => exact ⟨0, 0, by omega, rfl, rfl, Lib.hid rfl, Lib.hid ⟨0, rfl⟩⟩
    case round =>
      obtain ⟨t, s, ht, rfl, rfl, hse, hd⟩ := hrel
      obtain ⟨d, hd⟩ := hd.out
      subst hd
      have hsb := HDB.out t ht
      rw [← hse.out] at hsb
      by_cases htp : t < p + 1
      · have htp2 : (t : Int) < ((p + 1 : Nat) : Int) := by omega
        have htp3 : (t : Int) < (p : Int) + 1 := by omega
        obtain ⟨g1, rfl, _, _, h1, _⟩ := own_at HOM.out HLM.out htp
        obtain ⟨g2, rfl, _, _, h2, _⟩ := own_at HOV.out HLV.out htp
        have hm1' := HRM.out t htp
        have hv1 := HRC.out t htp
        have HSN : Hid (s + (mqL zs (p + 1))[t]?.getD 0 * (cvL (cdL (mqL zs (p + 1)) (p + 1)) p)[t]?.getD 0 = dotS (mqL zs (p + 1)) (cvL (cdL (mqL zs (p + 1)) (p + 1)) p) (t + 1)) := Lib.hid (by rw [hse.out]; rfl)
        obtain ⟨x, hx⟩ : ∃ x, (mqL zs (p + 1))[t]?.getD 0 = x := ⟨_, rfl⟩
        obtain ⟨y, hy⟩ : ∃ y, (cvL (cdL (mqL zs (p + 1)) (p + 1)) p)[t]?.getD 0 = y := ⟨_, rfl⟩
        rw [hx] at h1 hm1' HSN
        rw [hy] at h2 hv1 HSN
        have hxy : 0 ≤ x * y ∧ x * y ≤ 4096 := ⟨Int.mul_nonneg (by omega) (by omega), by have := Int.mul_le_mul hm1'.2 hv1.2 (by omega) (by omega); omega⟩
        skip
        have r1 : IntKind.i64.wrap (x * y) = x * y := IntWalk.i64_in _ (by omega)
        have r2 : IntKind.i64.wrap (s + x * y) = s + x * y := IntWalk.i64_in _ (by omega)
        have h1d : (w4.drewN d).cell? ⟨g1, t, none⟩ = some (.int .i64 x) := h1
        have h2d : (w4.drewN d).cell? ⟨g2, t, none⟩ = some (.int .i64 y) := h2
        clear hx hy
        go_wp2_with fail
        go_quiet (fail)
        try simp only [World.drewN_drewN]
        go_wp2_with fail
        go_roundw
        case rel => exact ⟨t + 1, s + x * y, by omega, rfl, by go_num, HSN, Lib.hid ⟨_, rfl⟩⟩
        case measure => simp [intOf]; omega
      · obtain rfl : t = p + 1 := by omega
        have HE2 : Hid (mcA zs j = s) := Lib.hid (by rw [E.out, hse.out])
        go_wp2
        go_ret2
        exact ⟨by rw [HE2.out, HMC.out, HC.out]; rfl, below_drewN B4.out _⟩
end Go.Proofs.Ytohbgfmjnanlkaa
