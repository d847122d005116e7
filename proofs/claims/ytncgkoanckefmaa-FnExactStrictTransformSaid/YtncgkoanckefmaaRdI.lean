/- Runs that are read from a list, the program's: contract of impl.readRuns. Conditions: stated at each theorem. -/
import Derived.Test.YtncgkoanckefmaaRdM
import Derived.Test.YtncgkoanckefmaaBkI
import Derived.Test.YtncgkoanckefmaaBrI
import Derived.Test.YtncgkoanckefmaaBrW
import Derived.Test.YtncgkoanckefmaaSteps
import Derived.Test.YtncgkoanckefmaaBrV
import Derived.Test.YtncgkoanckefmaaPrI
import Derived.WalkMore
namespace Go.Proofs.Ytncgkoanckefmaa
open Go.ChangeShapes Go.WideShapes Go.ChangeAt Go.RowKit Go.Deep
set_option linter.unusedVariables false
set_option linter.unusedSimpArgs false

theorem stL_ok2 : ∀ (f : Nat) (a b : Int), (0 ≤ a ∧ a ≤ 1000000) → (0 ≤ b ∧ b ≤ 64) → ∀ p ∈ stL f a b, (0 ≤ p.1 ∧ p.1 ≤ 1000000) ∧ 1 ≤ p.2 ∧ p.2 ≤ 64
  | 0, _, _, _, _ => by simp [stL]
  | f + 1, a, b, ha, hb => by
    unfold stL
    split
    · simp
    · intro p hp
      rcases List.mem_cons.1 hp with rfl | hp
      · have h1 : 0 ≤ a / b ∧ a / b ≤ a := ⟨Int.ediv_nonneg (by omega) (by omega), Int.ediv_le_self _ (by omega)⟩
        exact ⟨by dsimp; omega, by dsimp; omega⟩
      · have h2 : 0 ≤ a % b ∧ a % b < b := ⟨Int.emod_nonneg _ (by omega), Int.emod_lt_of_pos _ (by omega)⟩
        exact stL_ok2 f b (a % b) (by omega) (by omega) p hp
theorem steps_mem2 {base : Nat} {w2 : World} {L : List (Int × Int)} {A : Option Addr} {c : Nat} {vf : Nat → Value}
    (ho : OwnSS w2 base A L.length c vf two (fun i => (stF L i).map (.int .i64))) : ∀ i, i < L.length →
    ∃ go gi ci, A = some ⟨go, 0, none⟩ ∧ go < w2.heap.size ∧ gi < w2.heap.size ∧ w2.cell? ⟨go, i, none⟩ = some (.slice (some ⟨gi, 0, none⟩) 2 ci) ∧ w2.cell? ⟨gi, 0, none⟩ = some (.int .i64 (L[i]?.getD (0, 0)).1) ∧ w2.cell? ⟨gi, 1, none⟩ = some (.int .i64 (L[i]?.getD (0, 0)).2) := by
  intro i hi
  obtain ⟨go, rfl, hgo, hc⟩ := ho.cell hi
  have hin := ho.inner i hi
  rcases hin.2 with ⟨_, e0⟩ | ⟨gi, ci, cur, e, hbi, hgi, _⟩
  · cases e0
  · have hlt := (World.ownsRow.lt hin gi (by rw [e]; rfl)).2
    rw [e] at hc hin
    have hi2 : two i = 2 := rfl
    rw [hi2] at hc hin
    exact ⟨go, gi, ci, rfl, hgo, hlt, hc, World.ownsRow.cellAt hin 0 (by omega), World.ownsRow.cellAt hin 1 (by omega)⟩
theorem ri_at {w W : World} {g o n M x : Nat} {zs R : List Int} (hC : ∀ k, k < n → w.cell? ⟨g, o + k, none⟩ = some (.int .i64 (zs[k]?.getD 0))) (hg : g < w.heap.size) (hb : Below w.heap.size w W) (hL : zs.length = n) (hM : M ≤ n) (hx : M = 0 ∨ x = o + (n - M)) (hR : zs.drop (n - M) = R) :
    RI W w.heap.size (some ⟨g, x, none⟩) M R := by
  subst hR
  refine ⟨by rw [List.length_drop, hL]; omega, fun k hk => ⟨_, rfl, hg, ?_⟩⟩
  rcases hx with h0 | h0
  · omega
  · rw [add_lit, h0, hb.cell (p := ⟨g, o + (n - M) + k, none⟩) hg, Nat.add_assoc, hC (n - M + k) (by omega)]
    simp [List.getD]
theorem mul_range2 {a b A B : Int} (h1 : 0 ≤ a ∧ a ≤ A) (h2 : 0 ≤ b ∧ b ≤ B) : 0 ≤ a * b ∧ a * b ≤ A * B :=
  ⟨Int.mul_nonneg h1.1 h2.1, Int.mul_le_mul h1.2 h2.2 h2.1 (by omega)⟩
/-- What reading runs leaves. -/
def RdAns (w : World) (zs : List Int) (e : Ending) (w' : World) : Prop :=
  ∃ vT T R A' M c', e = .returned (.tuple #[vT, .slice A' M c']) ∧ OwnI w' w.heap.size w'.heap.size vT T ∧ (RI w' w.heap.size A' M R ∧ M ≤ c' ∧ c' ≤ 9223372036854775807 ∧ ∀ x ∈ R, 1 ≤ x ∧ x ≤ 64) ∧ (T.length ≤ 64 ∧ (∀ z ∈ T, 0 ≤ z ∧ z ≤ 1642496) ∧ (bsR zs = some (T, R) ∨ (bsR zs = none ∧ gcF (zs[0]?.getD 0) T ≠ 1)) ∧ Below w.heap.size w w')

set_option maxRecDepth 100000 in
set_option maxHeartbeats 1500000 in
theorem readRuns_any (v : Value) (zs : List Int) (w : World) (h : ReadI w w.heap.size v zs) (hs : sqlB zs = true) :
    Calls Try.prog 91 #[v] w (RdAns w zs) := by
  obtain ⟨⟨hn1, hn2⟩, hz⟩ := sql_yes hs
  obtain ⟨n, A, c, rfl, hr, HL, _, hnc, HF, hcm⟩ := h.split2
  rw [HL.out] at hn1 hn2
  obtain ⟨a, rfl, hlt, hc0⟩ := hr.2 0 hn1
  obtain ⟨g, o, rfl⟩ := HF.out a rfl
  have hgw : g < w.heap.size := hlt
  have HC : Hid (∀ k, k < n → w.cell? ⟨g, o + k, none⟩ = some (.int .i64 (zs[k]?.getD 0))) := Lib.hid fun k hk => by
    obtain ⟨a', e1, _, h3⟩ := hr.2 k hk
    cases e1
    have h2 : (⟨g, o, none⟩ : Addr).add k = ⟨g, o + k, none⟩ := by rw [add_lit]
    rw [h2] at h3; rw [h3]; rfl
  have HZ := Lib.hid hz
  have hz0 : (1 : Int) ≤ zs[0]?.getD 0 ∧ zs[0]?.getD 0 ≤ 64 := by
    have h9 : 0 < zs.length := by rw [HL.out]; omega
    have := hz zs[0] (List.getElem_mem h9); simpa [h9] using this
  have hc0 := HC.out 0 hn1
  rw [Nat.add_zero] at hc0
  have HB0 : Hid (bsR zs = rdC [] (rd 65 (zs[0]?.getD 0) 0 (zs.drop (n - n)))) := Lib.hid (by rw [rdC_nil, Nat.sub_self]; rfl)
  have HWF : Hid (∀ (i : Nat), ∀ z ∈ zs.drop i, (Lit.int .i64 z).wf = true) := Lib.hid (fun i z hz' => by have := HZ.out z (List.mem_of_mem_drop hz'); exact WalkArith.wf_i64 (by omega))
  have HG0 : Hid (gcF (zs[0]?.getD 0) [] = zs[0]?.getD 0) := Lib.hid rfl
  obtain ⟨z0, hz00⟩ : ∃ z, zs[0]?.getD 0 = z := ⟨_, rfl⟩
  have HZ0 := Lib.hid hz00
  rw [hz00] at hz0 hc0 HB0 HG0
  have HC00 := Lib.hid hc0
  clear h hr hlt hz hz00
  obtain ⟨i0, hi0, hz0', hz1, hz2⟩ := info_parts int_info
  have HO0 : Hid (Own w w.heap.size (.slice none 0 0) 0 (([] : List Int).map (.int .i64))) := Lib.hid (Own.nil _ _)
  have HBB : Hid (Below w.heap.size w w) := Lib.hid (Below.refl _ _)
  go_enter Try.func91, Try.ntmps91
  go_wp2_with fail
  go_step3
  go_wp2_with fail
  go_step3
  go_wp2_with fail
  clear hc0
  go_loopw [2, 3, 4, 5] (fun v2 v3 v4 v5 wr => ∃ (T : List Int) (A2 : Option Addr) (c2 j M x c' : Nat) (t e : Int) (f : Nat), v2 = .slice A2 j c2 ∧ v3 = .slice (some ⟨g, x, none⟩) M c' ∧ v4 = .int .i64 t ∧ v5 = .int .i64 e ∧ (M ≤ n ∧ M ≤ c' ∧ c' ≤ 9223372036854775807) ∧ Hid (M = 0 ∨ x = o + (n - M)) ∧ (1 ≤ e ∧ e ≤ 64) ∧ e.toNat < f ∧ (0 ≤ t ∧ t ≤ (64 - e) * 25664) ∧ Hid (e ∣ t) ∧ Hid (gcF z0 T = e) ∧ Hid (T.length = j) ∧ Hid (∀ z ∈ T, 0 ≤ z ∧ z ≤ 1642496) ∧ (j : Int) + e ≤ 64 ∧ Hid (bsR zs = rdC T (rd f e t (zs.drop (n - M)))) ∧ Hid (Own wr w.heap.size (.slice A2 j c2) j (T.map (.int .i64))) ∧ Hid (Below w.heap.size w wr)) (fun _ _ _ v5 _ => (intOf v5).toNat)
  case atStart => exact ⟨[], none, 0, 0, n, o, c, 0, z0, 65, rfl, rfl, rfl, rfl, by omega, Lib.hid (.inr (by omega)), hz0, by omega, by omega, Lib.hid (Int.dvd_zero _), HG0, Lib.hid rfl, Lib.hid (fun z h => by cases h), by omega, HB0, HO0, HBB⟩
  case round =>
    clear HO0 HBB HB0 HG0
    obtain ⟨T, A2, c2, j, M, x, c', t, e, f, rfl, rfl, rfl, rfl, hM, hx, he, hf, ht, hdv, hg, hT, hTB, hje, hbs, ho, hb⟩ := hrel
    have hsz := hb.out.size
    obtain ⟨R, hR⟩ : ∃ R, zs.drop (n - M) = R := ⟨_, rfl⟩
    have HRL : Hid (R.length = M) := Lib.hid (by rw [← hR, List.length_drop, HL.out]; omega)
    have HR1 : Hid (∀ z ∈ R, (Lit.int .i64 z).wf = true) := Lib.hid (by rw [← hR]; exact HWF.out _)
    have HR64 : Hid (∀ y ∈ R, (1 : Int) ≤ y ∧ y ≤ 64) := Lib.hid (fun y hy => by rw [← hR] at hy; exact HZ.out y (List.mem_of_mem_drop hy))
    have HRI : Hid (RI wr w.heap.size (some ⟨g, x, none⟩) M R) := Lib.hid (ri_at HC.out hgw hb.out HL.out hM.1 hx.out hR)
    rw [hR] at hbs
    have HRR := Lib.hid hR
    clear hR
    have HOT : Hid (OwnI wr w.heap.size wr.heap.size (.slice A2 j c2) T) := Lib.hid (OwnI.mk' ho.out)
    have hTj := hT.out
    obtain ⟨f, rfl⟩ : ∃ f', f = f' + 1 := ⟨f - 1, by omega⟩
    by_cases he1 : e ≤ 1
    · have hei : ¬ (1 : Int) < e := by omega
      have HE : Hid (bsR zs = some (T, R)) := Lib.hid (by rw [hbs.out, rd_end he1]; simp [rdC])
      clear he1
      go_wp2_with fail
      go_ret2
      exact ⟨_, T, R, _, M, c', rfl, HOT.out, ⟨HRI.out, hM.2.1, hM.2.2, HR64.out⟩, by omega, hTB.out, .inl HE.out, hb.out⟩
    · have hei : (1 : Int) < e := by omega
      have HCL := fun W (h : RI W w.heap.size (some ⟨g, x, none⟩) M R) (h2 : w.heap.size ≤ W.heap.size) => hid_in (countLeading_any (some ⟨g, x, none⟩) M c' R e W w.heap.size h h2 (by omega) HR1.out)
      have hlk := lead_le e R
      rw [HRL.out] at hlk
      have HGNE : Hid (gcF z0 T ≠ 1) := Lib.hid (by rw [hg.out]; omega)
      have HKK : Hid (kk e R = (lead e R : Int) * e + R[lead e R]?.getD 0) := Lib.hid rfl
      obtain ⟨k, hk⟩ : ∃ k, lead e R = k := ⟨_, rfl⟩
      rw [hk] at hlk HCL HKK
      have HLK := Lib.hid hk
      have HE1 := Lib.hid he1
      clear hk he1
      go_wp2_with fail
      refine (HCL wr HRI.out hsz).out.mono ?_
      rintro e9 w1 ⟨rfl, hb1⟩
      have HB1 := Lib.hid (hb.out.trans (hb1.mono hsz))
      have HO1' := Lib.hid (Own.below ho.out hb1)
      have hsz1 := HB1.out.size
      have HRI1 : Hid (RI w1 w.heap.size (some ⟨g, x, none⟩) M R) := Lib.hid (ri_at HC.out hgw HB1.out HL.out hM.1 hx.out HRR.out)
      clear HCL hb1
      by_cases hkM : k = M
      · have hki : (k : Int) = (M : Int) := by omega
        have HE : Hid (bsR zs = none) := Lib.hid (by rw [hbs.out, rd_short (by have := HE1.out; omega) (by rw [HLK.out, HRL.out, hkM])]; rfl)
        have HOT1 : Hid (OwnI w1 w.heap.size w1.heap.size (.slice A2 j c2) T) := Lib.hid (OwnI.mk' HO1'.out)
        subst hkM
        clear hki
        go_wp2_with fail
        go_ret2
        exact ⟨_, T, R, _, k, c', rfl, HOT1.out, ⟨HRI1.out, hM.2.1, hM.2.2, HR64.out⟩, by omega, hTB.out, .inr ⟨HE.out, by rw [HZ0.out]; exact HGNE.out⟩, HB1.out⟩
      · have hkM2 : k < M := by omega
        have hki : ¬ (k : Int) = (M : Int) := by omega
        have hkMi : (k : Int) < (M : Int) := by omega
        have hxe : x = o + (n - M) := by
          rcases hx.out with h0 | h0
          · omega
          · exact h0
        subst hxe
        obtain ⟨a', e1, _, hck0⟩ := HRI1.out.2 k hkM2
        cases e1
        rw [add_lit] at hck0
        have hck : w1.cell? ⟨g, o + (n - M) + k, none⟩ = some (.int .i64 (R[k]?.getD 0)) := by simpa [List.getD] using hck0
        clear hck0
        have hy64 : (1 : Int) ≤ R[k]?.getD 0 ∧ R[k]?.getD 0 ≤ 64 := by
          have h9 : k < R.length := by rw [HRL.out]; exact hkM2
          have := HR64.out R[k] (List.getElem_mem h9); simpa [h9] using this
        have HLT : Hid (lead e R < R.length) := Lib.hid (by rw [HLK.out, HRL.out]; exact hkM2)
        obtain ⟨y, hy⟩ : ∃ y, R[k]?.getD 0 = y := ⟨_, rfl⟩
        rw [hy] at hck hy64 HKK
        have hke := mul_range2 (A := 400) (B := 64) (a := (k : Int)) (b := e) (by omega) (by omega)
        obtain ⟨K, hK⟩ : ∃ K, (k : Int) * e + y = K := ⟨_, rfl⟩
        have p1 : IntKind.i64.wrap ((k : Int) * e) = (k : Int) * e := IntWalk.i64_in _ (by omega)
        have p2 : IntKind.i64.wrap ((k : Int) * e + y) = K := by rw [hK]; exact IntWalk.i64_in _ (by omega)
        have hKb : 1 ≤ K ∧ K ≤ 25664 := by omega
        have E1 : Hid (esA K e = steps K e) := Lib.hid (by simp [esA, natB_true.2 (show 1 ≤ K ∧ K ≤ 1000000000 by omega), natB_true.2 (show 1 ≤ e ∧ e ≤ 1000000000 by omega)])
        rw [hK] at HKK
        have HYY := Lib.hid hy
        clear hy hK
        have HES := fun W => hid_in (implEuclidSteps_any K e W)
        simp only [E1.out] at HES
        have HSO := Lib.hid (stL_ok2 (e.toNat + 1) K e (by omega) (by omega))
        change Hid (∀ p ∈ steps K e, _) at HSO
        have hq660 := stL_len (e.toNat + 1) K e
        change (steps K e).length ≤ _ at hq660
        obtain ⟨L2, HL2⟩ : ∃ L2, steps K e = L2 := ⟨_, rfl⟩
        have HL2' := Lib.hid HL2
        simp only [HL2] at HES HSO hq660
        generalize esC K e = C9 at HES
        clear HL2 E1
        go_wp2_with fail
        refine (HES w1).out.mono ?_
        rintro e9 w2 ⟨A, cS, vf, rfl, hos, hb2⟩
        clear HES
        have HM := Lib.hid (steps_mem2 hos)
        have hq66 : L2.length ≤ 66 := by omega
        clear hq660
        obtain ⟨q, HQ⟩ : ∃ q, L2.length = q := ⟨_, rfl⟩
        rw [HQ] at HM hq66 ⊢
        have HQ' := Lib.hid HQ
        have HB2 := Lib.hid (HB1.out.trans (hb2.mono hsz1))
        have HO2' := Lib.hid (Own.below HO1'.out hb2)
        have hsz2 := hb2.size
        have HE0 : Hid (eat L2 e R = eat (L2.drop 0) e (zs.drop (n - M))) := Lib.hid (by rw [HRR.out]; rfl)
        clear HQ hos hb2 hck
        go_wp2_with fail
        go_loopw [3, 5, 43] (fun v3 v5 v43 wr2 => ∃ (i M2 x2 c3 : Nat) (e2 : Int), i ≤ q ∧ v43 = .int .i64 i ∧ v3 = .slice (some ⟨g, x2, none⟩) M2 c3 ∧ v5 = .int .i64 e2 ∧ (M2 ≤ n ∧ M2 ≤ c3 ∧ c3 ≤ 9223372036854775807) ∧ Hid (M2 = 0 ∨ x2 = o + (n - M2)) ∧ Hid (eat L2 e R = eat (L2.drop i) e2 (zs.drop (n - M2))) ∧ Hid (Below w2.heap.size w2 wr2)) (fun _ _ v43 _ => q - (intOf v43).toNat)
        case atStart => exact ⟨0, M, _, c', e, Nat.zero_le _, rfl, rfl, rfl, hM, Lib.hid (.inr rfl), HE0, Lib.hid (Below.refl _ _)⟩
        case round =>
          clear HE0 hM hx HRI HRI1
          obtain ⟨i, M, x, c', e2, hi, rfl, rfl, rfl, hM, hx, hea, hb3⟩ := hrel
          have hsz3 := hb3.out.size
          by_cases hiq : i < q
          · obtain ⟨go, gi, ci, rfl, s1, s2, d1, d2, d3⟩ := HM.out i hiq
            replace d1 := (hb3.out.cell (p := ⟨go, i, none⟩) s1).trans d1
            replace d2 := (hb3.out.cell (p := ⟨gi, 0, none⟩) s2).trans d2
            replace d3 := (hb3.out.cell (p := ⟨gi, 1, none⟩) s2).trans d3
            have HD : Hid (L2.drop i = (L2[i]?.getD (0, 0)) :: L2.drop (i + 1)) := Lib.hid (by
              have h6 : i < L2.length := by rw [HQ'.out]; exact hiq
              rw [List.drop_eq_getElem_cons h6]; simp [h6])
            have hpo := HSO.out (L2[i]?.getD (0, 0)) (by (have h6 : i < L2.length := (by rw [HQ'.out]; exact hiq)); simp [h6])
            obtain ⟨q1, r, hqr⟩ : ∃ q1 r, L2[i]?.getD (0, 0) = (q1, r) := ⟨_, _, rfl⟩
            rw [hqr] at d2 d3 HD hpo
            dsimp only at d2 d3 hpo
            obtain ⟨qn, rfl⟩ : ∃ qn : Nat, q1 = (qn : Int) := ⟨q1.toNat, by omega⟩
            have hiqi : (i : Int) < (q : Int) := by omega
            obtain ⟨R2, hR2⟩ : ∃ R2, zs.drop (n - M) = R2 := ⟨_, rfl⟩
            have HRL2 : Hid (R2.length = M) := Lib.hid (by rw [← hR2, List.length_drop, HL.out]; omega)
            have HRW2 : Hid (∀ z ∈ R2, (Lit.int .i64 z).wf = true) := Lib.hid (by rw [← hR2]; exact HWF.out _)
            have HR642 : Hid (∀ y ∈ R2, (1 : Int) ≤ y ∧ y ≤ 64) := Lib.hid (fun y hy => by rw [← hR2] at hy; exact HZ.out y (List.mem_of_mem_drop hy))
            have HRI2 : Hid (RI wr w.heap.size (some ⟨g, x, none⟩) M R2) := Lib.hid (ri_at HC.out hgw (HB2.out.trans (hb3.out.mono (by omega))) HL.out hM.1 hx.out hR2)
            have HCL := fun W (h : RI W w.heap.size (some ⟨g, x, none⟩) M R2) (h2 : w.heap.size ≤ W.heap.size) => hid_in (countLeading_any (some ⟨g, x, none⟩) M c' R2 r W w.heap.size h h2 (by omega) HRW2.out)
            have hlk2 := lead_le r R2
            rw [HRL2.out] at hlk2
            obtain ⟨k2, hk2⟩ : ∃ k, lead r R2 = k := ⟨_, rfl⟩
            rw [hk2] at hlk2 HCL
            have HLK2 := Lib.hid hk2
            rw [hR2, HD.out] at hea
            have HRR2 := Lib.hid hR2
            clear hk2 hR2 hqr
            go_wp2_with fail
            refine wp_region_held_drew (S := fun w' => w'.cell? ⟨gi, 0, none⟩ = some (.int .i64 (qn : Int)) ∧ w'.cell? ⟨gi, 1, none⟩ = some (.int .i64 r)) (by kernel_rfl) ⟨d2, d3⟩ (fun hHeld => ?_)
            refine takeY 0 _ (v := ?_) rfl rfl (by kernel_rfl) (by kernel_rfl) (by kernel_rfl) (fun _ _ _ h => h) (by kernel_rfl) ?_ (by assumption) ?_
            rotate_left 1
            · intro w hSw; (try dsimp only at hSw); go_simp; (try with_reducible rfl)
            try simp only [Act.put, List.setIfInBounds_toArray, List.set_cons_zero, List.set_cons_succ]
            refine takeY 1 _ (v := ?_) rfl rfl (by kernel_rfl) (by kernel_rfl) (by kernel_rfl) (fun _ _ _ h => h) (by kernel_rfl) ?_ (by assumption) ?_
            rotate_left 1
            · intro w hSw; (try dsimp only at hSw); go_simp; (try with_reducible rfl)
            try simp only [Act.put, List.setIfInBounds_toArray, List.set_cons_zero, List.set_cons_succ]
            refine takeY 2 _ (v := ?_) rfl rfl (by kernel_rfl) (by kernel_rfl) (by kernel_rfl) (fun _ _ _ h => h) (by kernel_rfl) ?_ (by assumption) ?_
            rotate_left 1
            · intro w hSw; (try dsimp only at hSw); go_simp; (try with_reducible rfl)
            try simp only [Act.put, List.setIfInBounds_toArray, List.set_cons_zero, List.set_cons_succ]
            refine takeY 3 _ (v := ?_) rfl rfl (by kernel_rfl) (by kernel_rfl) (by kernel_rfl) (fun _ _ _ h => h) (by kernel_rfl) ?_ (by assumption) ?_
            rotate_left 1
            · intro w hSw; (try dsimp only at hSw); go_simp; (try with_reducible rfl)
            try simp only [Act.put, List.setIfInBounds_toArray, List.set_cons_zero, List.set_cons_succ]
            refine takeY 4 _ (v := ?_) rfl rfl (by kernel_rfl) (by kernel_rfl) (by kernel_rfl) (fun _ _ _ h => h) (by kernel_rfl) ?_ (by assumption) ?_
            rotate_left 1
            · intro w hSw; (try dsimp only at hSw); go_simp; (try with_reducible rfl)
            try simp only [Act.put, List.setIfInBounds_toArray, List.set_cons_zero, List.set_cons_succ]
            refine takeY 5 _ (v := ?_) rfl rfl (by kernel_rfl) (by kernel_rfl) (by kernel_rfl) (fun _ _ _ h => h) (by kernel_rfl) ?_ (by assumption) ?_
            rotate_left 1
            · intro w hSw; (try dsimp only at hSw); go_simp; (try with_reducible rfl)
            try simp only [Act.put, List.setIfInBounds_toArray, List.set_cons_zero, List.set_cons_succ]
            refine takeY 6 _ (v := ?_) rfl rfl (by kernel_rfl) (by kernel_rfl) (by kernel_rfl) (fun _ _ _ h => h) (by kernel_rfl) ?_ (by assumption) ?_
            rotate_left 1
            · intro w hSw; (try dsimp only at hSw); go_simp; (try with_reducible rfl)
            try simp only [Act.put, List.setIfInBounds_toArray, List.set_cons_zero, List.set_cons_succ]
            refine takeY 7 _ (v := ?_) rfl rfl (by kernel_rfl) (by kernel_rfl) (by kernel_rfl) (fun _ _ _ h => h) (by kernel_rfl) ?_ (by assumption) ?_
            rotate_left 1
            · intro w hSw; (try dsimp only at hSw); go_simp; (try with_reducible rfl)
            try simp only [Act.put, List.setIfInBounds_toArray, List.set_cons_zero, List.set_cons_succ]
            refine wpAnyH_done (by kernel_rfl) ?_ _
            go_wp2_with fail
            refine (HCL wr.drew HRI2.out (by show w.heap.size ≤ wr.heap.size; omega)).out.mono ?_
            rintro e9 w4 ⟨rfl, hb4⟩
            replace hb4 : Below wr.heap.size wr w4 := ⟨hb4.os, hb4.tape, hb4.output, hb4.size, hb4.block⟩
            have HB4 := Lib.hid (hb3.out.trans (hb4.mono hsz3))
            have hsz4 := HB4.out.size
            clear HCL hb4 d1 d2 d3
            by_cases hkq : (k2 : Int) < (qn : Int)
            · have HE : Hid (bsR zs = none) := Lib.hid (by
                rw [hbs.out, rd_none (by have := HE1.out; omega) (by have := HLT.out; omega) (by rw [HKK.out, HL2'.out, hea.out]; simp only [eat]; rw [if_pos (by rw [HLK2.out]; exact hkq)])]; rfl)
              have HBW := Lib.hid (HB2.out.trans (HB4.out.mono (by omega)))
              have HOT2 : Hid (OwnI w4 w.heap.size w4.heap.size (.slice A2 j c2) T) := Lib.hid (OwnI.mk' (Own.below HO2'.out HB4.out))
              have HRI4 : Hid (RI w4 w.heap.size (some ⟨g, x, none⟩) M R2) := Lib.hid (ri_at HC.out hgw HBW.out HL.out hM.1 hx.out HRR2.out)
              go_wp2_with fail
              go_ret2
              exact ⟨_, T, R2, _, M, c', rfl, HOT2.out, ⟨HRI4.out, hM.2.1, hM.2.2, HR642.out⟩, by omega, hTB.out, .inr ⟨HE.out, by rw [HZ0.out]; exact HGNE.out⟩, HBW.out⟩
            · have HEA : Hid (eat L2 e R = eat (L2.drop (i + 1)) r (zs.drop (n - (M - qn)))) := Lib.hid (by
                rw [hea.out]
                simp only [eat]
                rw [if_neg (by rw [HLK2.out]; exact hkq), ← HRR2.out, List.drop_drop]
                congr 2
                omega)
              have hqM : (qn : Int) ≤ (M : Int) := by omega
              have hq0 : (0 : Int) ≤ (qn : Int) := by omega
              have hqm : qn ≤ M := by omega
              have hrr : (1 : Int) ≤ r ∧ r ≤ 64 := hpo.2
              have cz4 := ((HB2.out.trans (HB4.out.mono (by omega))).cell (p := ⟨g, o, none⟩) hgw).trans HC00.out
              by_cases hck : c' = qn
              · go_wp2_with fail
                refine wp_region_held_drew (S := fun w' => w'.cell? ⟨g, o, none⟩ = some (.int .i64 z0)) (by kernel_rfl) (cz4) (fun hHeld => ?_)
                refine takeY 0 _ (v := ?_) rfl rfl (by kernel_rfl) (by kernel_rfl) (by kernel_rfl) (fun _ _ _ h => h) (by kernel_rfl) ?_ (by assumption) ?_
                rotate_left 1
                · intro w hSw; (try dsimp only at hSw); go_simp; (try with_reducible rfl)
                try simp only [Act.put, List.setIfInBounds_toArray, List.set_cons_zero, List.set_cons_succ]
                refine takeY 1 _ (v := ?_) rfl rfl (by kernel_rfl) (by kernel_rfl) (by kernel_rfl) (fun _ _ _ h => h) (by kernel_rfl) ?_ (by assumption) ?_
                rotate_left 1
                · intro w hSw; (try dsimp only at hSw); go_simp; (try with_reducible rfl)
                try simp only [Act.put, List.setIfInBounds_toArray, List.set_cons_zero, List.set_cons_succ]
                refine takeY 2 _ (v := ?_) rfl rfl (by kernel_rfl) (by kernel_rfl) (by kernel_rfl) (fun _ _ _ h => h) (by kernel_rfl) ?_ (by assumption) ?_
                rotate_left 1
                · intro w hSw; (try dsimp only at hSw); go_simp; (try with_reducible rfl)
                try simp only [Act.put, List.setIfInBounds_toArray, List.set_cons_zero, List.set_cons_succ]
                refine takeY 3 _ (v := ?_) rfl rfl (by kernel_rfl) (by kernel_rfl) (by kernel_rfl) (fun _ _ _ h => h) (by kernel_rfl) ?_ (by assumption) ?_
                rotate_left 1
                · intro w hSw; (try dsimp only at hSw); go_simp; (try with_reducible rfl)
                try simp only [Act.put, List.setIfInBounds_toArray, List.set_cons_zero, List.set_cons_succ]
                refine takeY 4 _ (v := ?_) rfl rfl (by kernel_rfl) (by kernel_rfl) (by kernel_rfl) (fun _ _ _ h => h) (by kernel_rfl) ?_ (by assumption) ?_
                rotate_left 1
                · intro w hSw; (try dsimp only at hSw); go_simp; (try with_reducible rfl)
                try simp only [Act.put, List.setIfInBounds_toArray, List.set_cons_zero, List.set_cons_succ]
                refine takeY 5 _ (v := ?_) rfl rfl (by kernel_rfl) (by kernel_rfl) (by kernel_rfl) (fun _ _ _ h => h) (by kernel_rfl) ?_ (by assumption) ?_
                rotate_left 1
                · intro w hSw; (try dsimp only at hSw); go_simp; (try with_reducible rfl)
                try simp only [Act.put, List.setIfInBounds_toArray, List.set_cons_zero, List.set_cons_succ]
                refine wpAnyH_done (by kernel_rfl) ?_ _
                go_wp2_with fail
                go_roundw
                case rel => exact ⟨i + 1, M - qn, x, 0, r, by omega, by go_num, rfl, rfl, by omega, Lib.hid (.inl (by omega)), HEA, Lib.hid (Below.drew HB4.out)⟩
                case measure => first | (simp [intOf]; done) | (simp [intOf]; omega)
              · go_wp2_with fail
                refine wp_region_held_drew (S := fun w' => w'.cell? ⟨g, o, none⟩ = some (.int .i64 z0)) (by kernel_rfl) (cz4) (fun hHeld => ?_)
                refine takeY 0 _ (v := ?_) rfl rfl (by kernel_rfl) (by kernel_rfl) (by kernel_rfl) (fun _ _ _ h => h) (by kernel_rfl) ?_ (by assumption) ?_
                rotate_left 1
                · intro w hSw; (try dsimp only at hSw); go_simp; (try with_reducible rfl)
                try simp only [Act.put, List.setIfInBounds_toArray, List.set_cons_zero, List.set_cons_succ]
                refine takeY 1 _ (v := ?_) rfl rfl (by kernel_rfl) (by kernel_rfl) (by kernel_rfl) (fun _ _ _ h => h) (by kernel_rfl) ?_ (by assumption) ?_
                rotate_left 1
                · intro w hSw; (try dsimp only at hSw); go_simp; (try with_reducible rfl)
                try simp only [Act.put, List.setIfInBounds_toArray, List.set_cons_zero, List.set_cons_succ]
                refine takeY 2 _ (v := ?_) rfl rfl (by kernel_rfl) (by kernel_rfl) (by kernel_rfl) (fun _ _ _ h => h) (by kernel_rfl) ?_ (by assumption) ?_
                rotate_left 1
                · intro w hSw; (try dsimp only at hSw); go_simp; (try with_reducible rfl)
                try simp only [Act.put, List.setIfInBounds_toArray, List.set_cons_zero, List.set_cons_succ]
                refine takeY 3 _ (v := ?_) rfl rfl (by kernel_rfl) (by kernel_rfl) (by kernel_rfl) (fun _ _ _ h => h) (by kernel_rfl) ?_ (by assumption) ?_
                rotate_left 1
                · intro w hSw; (try dsimp only at hSw); go_simp; (try with_reducible rfl)
                try simp only [Act.put, List.setIfInBounds_toArray, List.set_cons_zero, List.set_cons_succ]
                refine takeY 4 _ (v := ?_) rfl rfl (by kernel_rfl) (by kernel_rfl) (by kernel_rfl) (fun _ _ _ h => h) (by kernel_rfl) ?_ (by assumption) ?_
                rotate_left 1
                · intro w hSw; (try dsimp only at hSw); go_simp; (try with_reducible rfl)
                try simp only [Act.put, List.setIfInBounds_toArray, List.set_cons_zero, List.set_cons_succ]
                refine takeY 5 _ (v := ?_) rfl rfl (by kernel_rfl) (by kernel_rfl) (by kernel_rfl) (fun _ _ _ h => h) (by kernel_rfl) ?_ (by assumption) ?_
                rotate_left 1
                · intro w hSw; (try dsimp only at hSw); go_simp; (try with_reducible rfl)
                try simp only [Act.put, List.setIfInBounds_toArray, List.set_cons_zero, List.set_cons_succ]
                refine wpAnyH_done (by kernel_rfl) ?_ _
                go_wp2_with fail
                go_roundw
                case rel => exact ⟨i + 1, M - qn, x + qn, c' - qn, r, by omega, by go_num, rfl, rfl, by omega, Lib.hid (by rcases hx.out with h0 | h0; exact .inl (by omega); exact .inr (by omega)), HEA, Lib.hid (Below.drew HB4.out)⟩
                case measure => first | (simp [intOf]; done) | (simp [intOf]; omega)
          · obtain rfl : q = i := by omega
            have HEA : Hid (eat (steps (kk e R) e) e R = some (e2, zs.drop (n - M))) := Lib.hid (by
              rw [HKK.out, HL2'.out, hea.out, List.drop_eq_nil_of_le (by rw [HQ'.out]; omega)]; rfl)
            have hless := eat_less he.1 (fun y hy => (HR64.out y hy).1) HLT.out HEA.out
            have HB2' := Lib.hid (HB2.out.trans (hb3.out.mono (by omega)))
            have HO2 := Lib.hid (Own.below HO2'.out hb3.out)
            have hswr := HB2'.out.size
            have HGK : Hid (e2 = (Int.gcd e K : Int)) := Lib.hid (by rw [hless.2.2, HKK.out])
            have HDK : Hid ((Int.gcd e (t + K) : Int) = (Int.gcd e K : Int)) := Lib.hid (by
              obtain ⟨s, hs⟩ := hdv.out
              rw [hs, Int.add_comm (e * s) K, Int.gcd_add_mul_left_right])
            have HD2 : Hid (e2 ∣ t + K) := Lib.hid (by rw [HGK.out, ← HDK.out]; exact Int.gcd_dvd_right _ _)
            have HG2 : Hid (gcF z0 (T ++ [t + K]) = e2) := Lib.hid (by rw [gcF_snoc, hg.out, HDK.out, HGK.out])
            have HT2 : Hid ((T ++ [t + K]).length = j + 1) := Lib.hid (by rw [List.length_append, hT.out]; rfl)
            have HBS2 : Hid (bsR zs = rdC (T ++ [t + K]) (rd f e2 (t + K) (zs.drop (n - M)))) := Lib.hid (by
              rw [hbs.out, rd_more (by have := HE1.out; omega) (by have := HLT.out; omega) HEA.out, HKK.out])
            have he2 := hless.1
            have HTB2 : Hid (∀ z ∈ T ++ [t + K], 0 ≤ z ∧ z ≤ 1642496) := Lib.hid (fun z hz => by
              rcases List.mem_append.1 hz with h5 | h5
              · exact hTB.out z h5
              · have h6 : z = t + K := by simpa using h5
                omega)
            have p3 : IntKind.i64.wrap (t + K) = t + K := IntWalk.i64_in _ (by omega)
            have ht2 : 0 ≤ t + K ∧ t + K ≤ (64 - e2) * 25664 := by omega
            have hef2 : e2.toNat < f := by omega
            have hje2 : ((j + 1 : Nat) : Int) + e2 ≤ 64 := by omega
            have he264 : 1 ≤ e2 ∧ e2 ≤ 64 := by omega
            have hmee : e2.toNat < e.toNat := by omega
            clear hless HEA hea
            go_wp2_with (at_builtin; refine wpList_append_own _ rfl _ _ 22 rfl w.heap.size 2 i0 (.int .i64 0) 1 8 Try.underlying22 hi0 hz0' hz1 hz2 rfl ?_ _ j (T.map (.int .i64)) rfl (World.ownsRow.alloc HO2.out _) ⟨wr.heap.size, 0, none⟩ 1 1 [.int .i64 (t + K)] rfl rfl ?_ ?_ ?_ ?_ ?_ ?_; (decide); (exact World.news_of_block (cs := #[.int .i64 (t + K)]) (t := 2) (fr := (0, 0)) (heap_alloc_new wr _)); (simp [Value.oneCell']); (simp [maxLen]; omega); (omega); (simp; omega); intro v1 w5 hown1 hgrow _; obtain ⟨A1, c1, rfl⟩ := own_form (n := j + 1) hown1; have HO1 : Hid (Own w5 w.heap.size (.slice A1 (j + 1) c1) (j + 1) ((T ++ [t + K]).map (.int .i64))) := Lib.hid (by rw [List.map_append]; exact hown1); have hbn : Hid (Below w.heap.size w w5) := Lib.hid ((HB2'.out.alloc HB2'.out.size _).grown hgrow (by simp; omega) (fun k hk => (Own.lt HO2.out k hk).1)); clear hown1 hgrow)
            go_roundw
            case rel => exact ⟨T ++ [t + K], A1, c1, j + 1, M, x, c', t + K, e2, f, rfl, rfl, rfl, rfl, hM, hx, he264, hef2, ht2, HD2, HG2, HT2, HTB2, hje2, HBS2, HO1, hbn⟩
            case measure => simp only [intOf]; exact hmee
end Go.Proofs.Ytncgkoanckefmaa
