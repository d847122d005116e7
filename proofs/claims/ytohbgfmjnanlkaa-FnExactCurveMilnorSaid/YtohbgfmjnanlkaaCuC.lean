/- The delta invariant and the Milnor number of a curve: contracts. Conditions: stated at each theorem. -/
import Derived.Test.YtohbgfmjnanlkaaCuB
namespace Go.Proofs.Ytohbgfmjnanlkaa
open Go.ChangeShapes Go.WideShapes Go.ChangeAt Go.RowKit Go.Deep
set_option linter.unusedVariables false
set_option linter.unusedSimpArgs false

set_option maxRecDepth 100000 in
set_option maxHeartbeats 1200000 in
theorem implCurveDelta_any (a b : Value) (Z M : List (List Int)) (w : World) (h : ReadU w w.heap.size a b Z M) (hi : CuIn Z M) :
    Calls Try.prog 45 #[.agg #[a, b]] w (AnsII w (cdeA Z M) (cuC Z M)) := by
  obtain ⟨W0, HE⟩ : ∃ V, V = w.alloc (.cells #[a, b] 56) := ⟨_, rfl⟩
  have hb0 : Below w.heap.size w W0 := by rw [HE]; exact below_box2 _ _
  have hx : UBox W0 w.heap.size a b := by rw [HE]; exact UBox.new _ _ _ _
  have HEQ := Lib.hid HE; have B := Lib.hid hb0; have HI := Lib.hid hi; have H := Lib.hid h; have HX := Lib.hid hx
  have HU := Lib.hid ((h.below hb0).more hb0.size)
  have x0 := hx.c0; have x1 := hx.c1; have x4 := hx.lt
  clear hx HE hb0 hi h
  go_enter Try.func45, Try.ntmps45
  go_wp2_with fail
  rw [← HEQ.out]
  refine (meetings_any a b Z M Z.length W0 HU.out HI.out rfl).mono ?_
  rintro e w1 ⟨(⟨hc, rfl⟩ | ⟨hc, A, c, rfl, htb⟩), hb1⟩
  · have E : Hid (cdeA Z M = 0 ∧ cuC Z M = 1) := Lib.hid (by unfold cdeA cuC; rw [hc]; simp)
    have HB1 := Lib.hid (B.out.trans (hb1.mono B.out.size))
    clear hc hb1 x0 x1 x4
    go_wp2_with fail
    go_ret2
    exact ⟨by rw [E.out.1, E.out.2]; rfl, HB1.out.alloc (by have := HB1.out.size; omega) _⟩
  · have HQ := Lib.hid hc
    have HB1 := Lib.hid (B.out.trans (hb1.mono B.out.size)); have HX1 := Lib.hid (HX.out.stay hb1)
    clear hc x0 x1 x4 hb1
    have HOK := Lib.hid (cuB_true.1 HQ.out)
    obtain ⟨⟨A0, c0, ea, _⟩, ⟨A1, c1, eb, _⟩⟩ := id H.out
    obtain ⟨r, hr⟩ : ∃ r, Z.length = r := ⟨_, rfl⟩
    have HR := Lib.hid hr
    have hml : M.length = r := by rw [HOK.out.parts.ml, hr]
    rw [hr] at ea; rw [hml] at eb
    subst ea; subst eb
    have hlo : 1 ≤ r := by rw [← hr]; exact HOK.out.parts.lo
    have hhi : r ≤ 6 := by rw [← hr]; exact HOK.out.parts.hi
    rw [hr] at htb
    have E : Hid (cdeA Z M = dlF Z r + smT (cN Z M r) (tO r r) ∧ cuC Z M = 0) := Lib.hid (by unfold cdeA cuC; rw [HQ.out, HR.out, delta_same HOK.out HR.out]; simp)
    obtain ⟨g0, o0, rfl, hg0, hzr⟩ := rows_cellsU H.out.1 hr hlo
    have HZ := Lib.hid hzr
    have h15 : tO r r ≤ 15 := tO_le hhi (Nat.le_refl _)
    have HCR : Hid (∀ t, t < tO r r → 0 ≤ cN Z M r t ∧ cN Z M r t ≤ 819200) := Lib.hid (fun t ht => cN_rng HOK.out HR.out ht)
    obtain ⟨T, hT⟩ : ∃ T, tO r r = T := ⟨_, rfl⟩
    rw [hT] at htb E h15 HCR
    obtain ⟨W2, HE2⟩ : ∃ V, V = w1.alloc (.cells #[.int .i64 r, .slice A T c] 107) := ⟨_, rfl⟩
    have hb2 : Below w1.heap.size w1 W2 := by rw [HE2]; exact below_box2 _ _
    have hq2 : UBox W2 w1.heap.size (.int .i64 r) (.slice A T c) := by rw [HE2]; exact UBox.new _ _ _ _
    have HB2 := Lib.hid (HB1.out.trans (hb2.mono HB1.out.size)); have HX2 := Lib.hid (HX1.out.stay hb2); have HT2 := Lib.hid ((htb.below hb2).more hb2.size); have HQ2 := Lib.hid hq2; have HEQ2 := Lib.hid HE2
    have x0L := HX2.out.c0; have x1L := HX2.out.c1
    rw [HEQ2.out] at x0L x1L
    rw [hr, hT]
    clear htb hb2 hq2 HE2 hzr hr
    go_wp2_with fail
    rw [← HEQ2.out]
    clear x0L x1L
    go_loopw [6, 23] (fun vs vi wr => ∃ (i : Nat) (s : Int), i ≤ r ∧ vs = .int .i64 s ∧ vi = .int .i64 i ∧ Hid (s = dlF Z i) ∧ Hid (UBox wr w1.heap.size (.int .i64 r) (.slice A T c)) ∧ Hid (MtT wr wr.heap.size A T (cP Z M r) (cN Z M r)) ∧ Hid (Below w.heap.size w wr)) (fun _ vi _ => r - (intOf vi).toNat)
    case atStart => exact ⟨0, 0, by omega, rfl, rfl, Lib.hid rfl, HQ2, HT2, HB2⟩
    case round =>
      obtain ⟨i, s, hi, rfl, rfl, hs, hQ, hTT, hB⟩ := hrel
      by_cases hir : i < r
      · have hir2 : (i : Int) < (r : Int) := by omega
        obtain ⟨u, hcu, hru⟩ := HZ.out i hir
        obtain ⟨A3, n3, c3, e3⟩ : ∃ A3 n3 c3, u = .slice A3 n3 c3 := by obtain ⟨A3, c3, rfl, _⟩ := hru; exact ⟨A3, _, c3, rfl⟩
        subst e3
        have d0 : wr.cell? ⟨g0, o0 + i, none⟩ = some (.slice A3 n3 c3) := by rw [hB.out.cell (p := ⟨g0, o0 + i, none⟩) hg0]; exact hcu
        obtain ⟨W1, HE1⟩ : ∃ V, V = wr.alloc (.cells #[.slice A3 n3 c3] 28) := ⟨_, rfl⟩
        have hb1 : Below wr.heap.size wr W1 := by rw [HE1]; exact below_box2 _ _
        have hQ1 := Lib.hid (hQ.out.stay hb1); have hTT1 := Lib.hid ((hTT.out.below hb1).more hb1.size); have hB1 := Lib.hid (hB.out.trans (hb1.mono hB.out.size))
        have HRB := Lib.hid ((hru.below hB1.out).more hB1.out.size)
        have HBR := HOK.out.parts.br i (by rw [HR.out]; exact hir)
        have hsq : sqC (bt Z i) = 0 := by unfold sqC; rw [HBR]; rfl
        have hsr := dlF_rng Z i
        have hdb := dA_bound (bt Z i)
        have HNX : Hid (dlF Z (i + 1) = s + dA (bt Z i)) := Lib.hid (by rw [hs.out]; rfl)
        rw [← hs.out] at hsr
        have HD := Lib.hid (implDeltaInvariant_any (.slice A3 n3 c3) (bt Z i) W1 HRB.out (HI.out.bl i) (HI.out.bw (by rw [HR.out]; exact hir)))
        rw [hsq] at HD
        obtain ⟨x, hx⟩ : ∃ x, dA (bt Z i) = x := ⟨_, rfl⟩
        rw [hx] at HD HNX hdb
        have p1 : IntKind.i64.wrap (s + x) = s + x := IntWalk.i64_in _ (by omega)
        have HEQ1 := Lib.hid HE1
        clear hru hcu HE1 hb1 hx hsq HBR
        go_wp2_with fail
        rw [← HEQ1.out]
        refine HD.out.mono ?_
        rintro e w3 ⟨rfl, hb3⟩
        have hQ3 := Lib.hid (hQ1.out.stay hb3); have hTT3 := Lib.hid ((hTT1.out.below hb3).more hb3.size); have hB3 := Lib.hid (hB1.out.trans (hb3.mono hB1.out.size))
        clear hb3
        go_wp2_with fail
        go_roundw
        case rel => exact ⟨i + 1, s + x, by omega, rfl, by go_num, Lib.hid HNX.out.symm, hQ3, hTT3, hB3⟩
        case measure => simp [intOf]; omega
      · obtain rfl : i = r := by omega
        have q0 := hQ.out.c0; have q1 := hQ.out.c1; have q4 := hQ.out.lt
        have hsr := dlF_rng Z i
        rw [← hs.out] at hsr
        have HSR := Lib.hid hsr
        clear hsr
        go_wp2_with fail
        clear q0 q1 q4
        go_loopw [6, 39] (fun vs vi wr => ∃ (t : Nat) (y : Int), t ≤ T ∧ vs = .int .i64 (s + y) ∧ vi = .int .i64 t ∧ Hid (y = smT (cN Z M i) t) ∧ Hid (MtT wr wr.heap.size A T (cP Z M i) (cN Z M i)) ∧ Hid (Below w.heap.size w wr)) (fun _ vi _ => T - (intOf vi).toNat)
        case atStart => exact ⟨0, 0, by omega, by rw [Int.add_zero], rfl, Lib.hid rfl, hTT, hB⟩
        case round =>
          clear hTT hB hQ
          obtain ⟨t, y, ht, rfl, rfl, hy, hTT, hB⟩ := hrel
          by_cases htT : t < T
          · obtain ⟨gg, rfl, hgg, h1, h2⟩ := hTT.out t htT
            have htT2 : (t : Int) < (T : Int) := by omega
            have hyr := smT_rng (b := 819200) (by omega) HCR.out t ht
            have hcr := HCR.out t htT
            have HNX : Hid (smT (cN Z M i) (t + 1) = y + cN Z M i t) := Lib.hid (by rw [hy.out]; rfl)
            rw [← hy.out] at hyr
            obtain ⟨x, hx⟩ : ∃ x, cN Z M i t = x := ⟨_, rfl⟩
            obtain ⟨z, hz⟩ : ∃ z, cP Z M i t = z := ⟨_, rfl⟩
            rw [hx] at h2 hcr HNX
            rw [hz] at h1
            have hsr := HSR.out
            have p1 : IntKind.i64.wrap (s + y + x) = s + (y + x) := by rw [IntWalk.i64_in _ (by omega)]; omega
            have hb1 := below_box2 wr (.cells #[.int .i64 z, .int .i64 x] 118)
            have hTT1 := Lib.hid ((hTT.out.below hb1).more hb1.size); have hB1 := Lib.hid (hB.out.trans (hb1.mono hB.out.size))
            clear hx hz hb1
            go_wp2_with fail
            go_roundw
            case rel => exact ⟨t + 1, y + x, by omega, rfl, by go_num, Lib.hid HNX.out.symm, hTT1, hB1⟩
            case measure => simp [intOf]; omega
          · obtain rfl : t = T := by omega
            have E2 : Hid (cdeA Z M = s + y) := Lib.hid (by rw [E.out.1, hs.out, hy.out])
            go_wp2_with fail
            go_ret2
            exact ⟨by rw [E2.out, E.out.2]; rfl, hB.out⟩

set_option maxRecDepth 100000 in
set_option maxHeartbeats 1200000 in
theorem l09Delta_any (a b : Value) (Z M : List (List Int)) (r : Nat) (w : World) (h : ReadU w w.heap.size a b Z M) (hi : CuIn Z M) (hok : CuOK Z M) (hr : Z.length = r) :
    Calls Try.prog 108 #[.agg #[a, b]] w fun e w' => e = .returned (.int .i64 (dsF Z M r)) ∧ Below w.heap.size w w' := by
  obtain ⟨W0, HE⟩ : ∃ V, V = w.alloc (.cells #[a, b] 56) := ⟨_, rfl⟩
  have hb0 : Below w.heap.size w W0 := by rw [HE]; exact below_box2 _ _
  have hx : UBox W0 w.heap.size a b := by rw [HE]; exact UBox.new _ _ _ _
  have HEQ := Lib.hid HE; have B := Lib.hid hb0; have HI := Lib.hid hi; have H := Lib.hid h; have HX := Lib.hid hx
  have HU := Lib.hid ((h.below hb0).more hb0.size)
  have x0 := hx.c0; have x1 := hx.c1; have x4 := hx.lt
  have HOK := Lib.hid hok
  obtain ⟨⟨A0, c0, ea, _⟩, ⟨A1, c1, eb, _⟩⟩ := id H.out
  have HR := Lib.hid hr
  have hml : M.length = r := by rw [HOK.out.parts.ml, hr]
  rw [hr] at ea; rw [hml] at eb
  subst ea; subst eb
  have hlo : 1 ≤ r := by rw [← hr]; exact HOK.out.parts.lo
  have hhi : r ≤ 6 := by rw [← hr]; exact HOK.out.parts.hi
  obtain ⟨g0, o0, rfl, hg0, hzr⟩ := rows_cellsU H.out.1 hr hlo
  obtain ⟨g1, o1, rfl, hg1, hmr⟩ := rows_cellsU H.out.2 hml hlo
  have HZ := Lib.hid hzr; have HM := Lib.hid hmr
  clear hx HE hb0 hi h hok hzr hmr
  go_enter Try.func108, Try.ntmps108
  go_wp2_with fail
  rw [← HEQ.out]
  clear x0 x1 x4
  go_loopw [3, 4] (fun vs vi wr => ∃ (i : Nat) (s : Int), i ≤ r ∧ vs = .int .i64 s ∧ vi = .int .i64 i ∧ Hid (s = dsF Z M i) ∧ Hid (UBox wr w.heap.size (.slice (some ⟨g0, o0, none⟩) r c0) (.slice (some ⟨g1, o1, none⟩) r c1)) ∧ Hid (Below w.heap.size w wr)) (fun _ vi _ => r - (intOf vi).toNat)
  case atStart => exact ⟨0, 0, by omega, rfl, rfl, Lib.hid rfl, HX, B⟩
  case round =>
    obtain ⟨p, s, hp, rfl, rfl, hs, hX, hB⟩ := hrel
    have x0 := hX.out.c0; have x1 := hX.out.c1; have x4 := hX.out.lt
    by_cases hpr : p < r
    · have hpr2 : (p : Int) < (r : Int) := by omega
      obtain ⟨u3, hcu3, hru3⟩ := HZ.out p hpr
      obtain ⟨A3, n3, c3, ee3⟩ : ∃ A n c, u3 = .slice A n c := by obtain ⟨A, c, rfl, _⟩ := hru3; exact ⟨A, _, c, rfl⟩
      subst ee3
      have HC3 := Lib.hid hcu3; have HR3 := Lib.hid hru3
      have d0 : wr.cell? ⟨g0, o0 + p, none⟩ = some (.slice A3 n3 c3) := by rw [hB.out.cell (p := ⟨g0, o0 + p, none⟩) hg0]; exact hcu3
      have HBP := Lib.hid (HOK.out.parts.br p (by rw [HR.out]; exact hpr))
      have HD := Lib.hid (l04Delta_any (.slice A3 n3 c3) (bt Z p) wr ((hru3.below hB.out).more hB.out.size) (HI.out.bl p) HBP.out)
      have hde : delL (rsS (bt Z p)) = dA (bt Z p) := by unfold dA; rw [HBP.out, if_pos rfl, del_eq HBP.out]
      rw [hde] at HD
      have hsr := dsF_rng HOK.out HR.out hhi p hp
      have hdb := dA_bound (bt Z p)
      rw [← hs.out] at hsr
      obtain ⟨x, hx⟩ : ∃ x, dA (bt Z p) = x := ⟨_, rfl⟩
      have HXD := Lib.hid hx
      rw [hx] at HD hdb
      have p1 : IntKind.i64.wrap (s + x) = s + x := IntWalk.i64_in _ (by omega)
      have HSX : Hid (0 ≤ s + x ∧ s + x ≤ 4500000000000) := Lib.hid (by omega)
      obtain ⟨um, hcm, hrm⟩ := HM.out p hpr
      have hrowl : (M.getD p []).length = r := by rw [HOK.out.parts.row p (by rw [HR.out]; exact hpr), HR.out]
      obtain ⟨gi, oi, ci, rfl, hgi, hkm⟩ := row_cellsU hrm hrowl hlo
      have HCM := Lib.hid hcm; have HKM := Lib.hid hkm
      clear hx hcu3 hru3 hde hsr hcm hrm hrowl hkm
      go_wp2_with fail
      refine HD.out.mono ?_
      rintro e w2 ⟨rfl, hb2⟩
      have hX2 := Lib.hid (hX.out.stay hb2); have hB2 := Lib.hid (hB.out.trans (hb2.mono hB.out.size))
      clear hb2 x0 x1 x4 hX hB d0
      go_wp2_with fail
      have HS0 : Hid (s + x = dsF Z M p + dA (bt Z p) + inF Z M p 0) := Lib.hid (by show _ = _ + _ + 0; rw [hs.out, HXD.out]; omega)
      obtain ⟨s0, hs0⟩ : ∃ y, s + x = y := ⟨_, rfl⟩
      rw [hs0] at HSX HS0
      simp only [hs0]
      clear p1 hs0 HD
      go_loopw [3, 5] (fun vs vi w1 => ∃ (q : Nat) (s : Int), q ≤ p ∧ vs = .int .i64 s ∧ vi = .int .i64 q ∧ Hid (s = dsF Z M p + dA (bt Z p) + inF Z M p q) ∧ Hid (UBox w1 w.heap.size (.slice (some ⟨g0, o0, none⟩) r c0) (.slice (some ⟨g1, o1, none⟩) r c1)) ∧ Hid (Below w.heap.size w w1)) (fun _ vi _ => p - (intOf vi).toNat)
      case atStart => exact ⟨0, s0, by omega, rfl, rfl, HS0, hX2, hB2⟩
      case round =>
        clear hX2 hB2
        obtain ⟨q, s, hq, rfl, rfl, hs, hX, hB⟩ := hrel
        by_cases hqp : q < p
        · have hqp2 : (q : Int) < (p : Int) := by omega
          have hqr : q < r := by omega
          have hqr2 : (q : Int) < (r : Int) := by omega
          obtain ⟨u4, hcu4, hru4⟩ := HZ.out q hqr
          obtain ⟨A4, n4, c4, ee4⟩ : ∃ A n c, u4 = .slice A n c := by obtain ⟨A, c, rfl, _⟩ := hru4; exact ⟨A, _, c, rfl⟩
          subst ee4
          have hof := HOK.out.com.off p q (by rw [HR.out]; exact hpr) (by rw [HR.out]; exact hqr) (by omega)
          obtain ⟨n, hn⟩ : ∃ n : Nat, mt M p q = (n : Int) := ⟨(mt M p q).toNat, by omega⟩
          have hn1 : 1 ≤ n := by omega
          have hn2 : n ≤ 200 := by omega
          have hv : dotN (mqL (bt Z p) n) (mqL (bt Z q) n) n = inV Z M p q := by unfold inV; rw [hn]; simp
          have hvr := inV_rng HOK.out HR.out hpr hqr
          have hsr1 := dsF_rng HOK.out HR.out hhi p hp
          have hsr2 := dA_bound (bt Z p)
          have hsr3 := inF_rng HOK.out HR.out hpr q (by omega)
          have HNX : Hid (dsF Z M p + dA (bt Z p) + inF Z M p (q + 1) = s + inV Z M p q) := Lib.hid (by rw [hs.out]; show _ + (_ + _) = _; omega)
          obtain ⟨x, hx⟩ : ∃ x, inV Z M p q = x := ⟨_, rfl⟩
          rw [hx] at hv hvr HNX
          have HV := Lib.hid hv
          have hse := hs.out
          have p1 : IntKind.i64.wrap (s + x) = s + x := IntWalk.i64_in _ (by omega)
          have b3w := HKM.out q hqr
          rw [show (M.getD p []).getD q 0 = (n : Int) from hn] at b3w
          have b0 : wr.cell? ⟨g0, o0 + p, none⟩ = some (.slice A3 n3 c3) := by rw [hB.out.cell (p := ⟨g0, o0 + p, none⟩) hg0]; exact HC3.out
          have b1 : wr.cell? ⟨g0, o0 + q, none⟩ = some (.slice A4 n4 c4) := by rw [hB.out.cell (p := ⟨g0, o0 + q, none⟩) hg0]; exact hcu4
          have b2 : wr.cell? ⟨g1, o1 + p, none⟩ = some (.slice (some ⟨gi, oi, none⟩) r ci) := by rw [hB.out.cell (p := ⟨g1, o1 + p, none⟩) hg1]; exact HCM.out
          have b3 : wr.cell? ⟨gi, oi + q, none⟩ = some (.int .i64 (n : Int)) := by rw [hB.out.cell (p := ⟨gi, oi + q, none⟩) hgi]; exact b3w
          have HRP : Hid (ReadI wr.drew wr.drew.heap.size (.slice A3 n3 c3) (bt Z p)) := Lib.hid ((HR3.out.below hB.out).more hB.out.size)
          have HRQ : Hid (ReadI wr.drew wr.drew.heap.size (.slice A4 n4 c4) (bt Z q)) := Lib.hid ((hru4.below hB.out).more hB.out.size)
          have HBQ := Lib.hid (HOK.out.parts.br q (by rw [HR.out]; exact hqr))
          have hg0w : g0 < wr.heap.size := Nat.lt_of_lt_of_le hg0 hB.out.size
          have hg1w : g1 < wr.heap.size := Nat.lt_of_lt_of_le hg1 hB.out.size
          have hgiw : gi < wr.heap.size := Nat.lt_of_lt_of_le hgi hB.out.size
          have x0 := hX.out.c0; have x1 := hX.out.c1; have x4 := hX.out.lt
          clear hcu4 hru4 hof hn b3w hx hv hse hsr1 hsr2 hsr3 hvr
          go_wp2_with fail
          refine wp_region_held_drew (S := fun w' => w'.cell? ⟨w.heap.size, 0, none⟩ = some (.slice (some ⟨g0, o0, none⟩) r c0) ∧ w'.cell? ⟨w.heap.size, 1, none⟩ = some (.slice (some ⟨g1, o1, none⟩) r c1) ∧ w'.cell? ⟨g0, o0 + p, none⟩ = some (.slice A3 n3 c3) ∧ w'.cell? ⟨g0, o0 + q, none⟩ = some (.slice A4 n4 c4) ∧ w'.cell? ⟨g1, o1 + p, none⟩ = some (.slice (some ⟨gi, oi, none⟩) r ci) ∧ w'.cell? ⟨gi, oi + q, none⟩ = some (.int .i64 (n : Int))) (by kernel_rfl) ⟨x0, x1, b0, b1, b2, b3⟩ (fun hHeld => ?_)
          refine takeY 0 _ (v := ?_) rfl rfl (by kernel_rfl) (by kernel_rfl) (by kernel_rfl) (fun _ _ _ h => h) (by kernel_rfl) ?_ (by assumption) ?_
          rotate_left 1
          · intro w hSw; (try dsimp only at hSw); go_simp; (try with_reducible rfl)
          try simp only [Act.put, List.setIfInBounds_toArray, List.set_cons_zero, List.set_cons_succ]
          refine takeY 1 _ (v := ?_) rfl rfl (by kernel_rfl) (by kernel_rfl) (by kernel_rfl) (fun _ _ _ h => h) (by kernel_rfl) ?_ (by assumption) ?_
          rotate_left 1
          · intro w hSw; (try dsimp only at hSw); go_simp; (try with_reducible rfl)
          try simp only [Act.put, List.setIfInBounds_toArray, List.set_cons_zero, List.set_cons_succ]
          refine takeY 2 _ (v := ?_) rfl rfl (by kernel_rfl) (by kernel_rfl) (by kernel_rfl) (fun _ _ _ h => h) (by kernel_rfl) ?_ (by assumption) ?_
          rotate_left 1
          · intro w hSw; (try dsimp only at hSw); go_simp; (try with_reducible rfl)
          try simp only [Act.put, List.setIfInBounds_toArray, List.set_cons_zero, List.set_cons_succ]
          refine takeY 3 _ (v := ?_) rfl rfl (by kernel_rfl) (by kernel_rfl) (by kernel_rfl) (fun _ _ _ h => h) (by kernel_rfl) ?_ (by assumption) ?_
          rotate_left 1
          · intro w hSw; (try dsimp only at hSw); go_simp; (try with_reducible rfl)
          try simp only [Act.put, List.setIfInBounds_toArray, List.set_cons_zero, List.set_cons_succ]
          refine takeY 4 _ (v := ?_) rfl rfl (by kernel_rfl) (by kernel_rfl) (by kernel_rfl) (fun _ _ _ h => h) (by kernel_rfl) ?_ (by assumption) ?_
          rotate_left 1
          · intro w hSw; (try dsimp only at hSw); go_simp; (try with_reducible rfl)
          try simp only [Act.put, List.setIfInBounds_toArray, List.set_cons_zero, List.set_cons_succ]
          refine takeY 5 _ (v := ?_) rfl rfl (by kernel_rfl) (by kernel_rfl) (by kernel_rfl) (fun _ _ _ h => h) (by kernel_rfl) ?_ (by assumption) ?_
          rotate_left 1
          · intro w hSw; (try dsimp only at hSw); go_simp; (try with_reducible rfl)
          try simp only [Act.put, List.setIfInBounds_toArray, List.set_cons_zero, List.set_cons_succ]
          refine takeY 6 _ (v := ?_) rfl rfl (by kernel_rfl) (by kernel_rfl) (by kernel_rfl) (fun _ _ _ h => h) (by kernel_rfl) ?_ (by assumption) ?_
          rotate_left 1
          · intro w hSw; (try dsimp only at hSw); go_simp; (try with_reducible rfl)
          try simp only [Act.put, List.setIfInBounds_toArray, List.set_cons_zero, List.set_cons_succ]
          refine takeY 7 _ (v := ?_) rfl rfl (by kernel_rfl) (by kernel_rfl) (by kernel_rfl) (fun _ _ _ h => h) (by kernel_rfl) ?_ (by assumption) ?_
          rotate_left 1
          · intro w hSw; (try dsimp only at hSw); go_simp; (try with_reducible rfl)
          try simp only [Act.put, List.setIfInBounds_toArray, List.set_cons_zero, List.set_cons_succ]
          refine takeY 8 _ (v := ?_) rfl rfl (by kernel_rfl) (by kernel_rfl) (by kernel_rfl) (fun _ _ _ h => h) (by kernel_rfl) ?_ (by assumption) ?_
          rotate_left 1
          · intro w hSw; (try dsimp only at hSw); go_simp; (try with_reducible rfl)
          try simp only [Act.put, List.setIfInBounds_toArray, List.set_cons_zero, List.set_cons_succ]
          refine takeY 9 _ (v := ?_) rfl rfl (by kernel_rfl) (by kernel_rfl) (by kernel_rfl) (fun _ _ _ h => h) (by kernel_rfl) ?_ (by assumption) ?_
          rotate_left 1
          · intro w hSw; (try dsimp only at hSw); go_simp; (try with_reducible rfl)
          try simp only [Act.put, List.setIfInBounds_toArray, List.set_cons_zero, List.set_cons_succ]
          refine takeY 10 _ (v := ?_) rfl rfl (by kernel_rfl) (by kernel_rfl) (by kernel_rfl) (fun _ _ _ h => h) (by kernel_rfl) ?_ (by assumption) ?_
          rotate_left 1
          · intro w hSw; (try dsimp only at hSw); go_simp; (try with_reducible rfl)
          try simp only [Act.put, List.setIfInBounds_toArray, List.set_cons_zero, List.set_cons_succ]
          refine takeY 11 _ (v := ?_) rfl rfl (by kernel_rfl) (by kernel_rfl) (by kernel_rfl) (fun _ _ _ h => h) (by kernel_rfl) ?_ (by assumption) ?_
          rotate_left 1
          · intro w hSw; (try dsimp only at hSw); go_simp; (try with_reducible rfl)
          try simp only [Act.put, List.setIfInBounds_toArray, List.set_cons_zero, List.set_cons_succ]
          refine takeY 12 _ (v := ?_) rfl rfl (by kernel_rfl) (by kernel_rfl) (by kernel_rfl) (fun _ _ _ h => h) (by kernel_rfl) ?_ (by assumption) ?_
          rotate_left 1
          · intro w hSw; (try dsimp only at hSw); go_simp; (try with_reducible rfl)
          try simp only [Act.put, List.setIfInBounds_toArray, List.set_cons_zero, List.set_cons_succ]
          refine takeY 13 _ (v := ?_) rfl rfl (by kernel_rfl) (by kernel_rfl) (by kernel_rfl) (fun _ _ _ h => h) (by kernel_rfl) ?_ (by assumption) ?_
          rotate_left 1
          · intro w hSw; (try dsimp only at hSw); go_simp; (try with_reducible rfl)
          try simp only [Act.put, List.setIfInBounds_toArray, List.set_cons_zero, List.set_cons_succ]
          refine takeY 14 _ (v := ?_) rfl rfl (by kernel_rfl) (by kernel_rfl) (by kernel_rfl) (fun _ _ _ h => h) (by kernel_rfl) ?_ (by assumption) ?_
          rotate_left 1
          · intro w hSw; (try dsimp only at hSw); go_simp; (try with_reducible rfl)
          try simp only [Act.put, List.setIfInBounds_toArray, List.set_cons_zero, List.set_cons_succ]
          refine takeY 15 _ (v := ?_) rfl rfl (by kernel_rfl) (by kernel_rfl) (by kernel_rfl) (fun _ _ _ h => h) (by kernel_rfl) ?_ (by assumption) ?_
          rotate_left 1
          · intro w hSw; (try dsimp only at hSw); go_simp; (try with_reducible rfl)
          try simp only [Act.put, List.setIfInBounds_toArray, List.set_cons_zero, List.set_cons_succ]
          refine takeY 16 _ (v := ?_) rfl rfl (by kernel_rfl) (by kernel_rfl) (by kernel_rfl) (fun _ _ _ h => h) (by kernel_rfl) ?_ (by assumption) ?_
          rotate_left 1
          · intro w hSw; (try dsimp only at hSw); go_simp; (try with_reducible rfl)
          try simp only [Act.put, List.setIfInBounds_toArray, List.set_cons_zero, List.set_cons_succ]
          refine takeY 17 _ (v := ?_) rfl rfl (by kernel_rfl) (by kernel_rfl) (by kernel_rfl) (fun _ _ _ h => h) (by kernel_rfl) ?_ (by assumption) ?_
          rotate_left 1
          · intro w hSw; (try dsimp only at hSw); go_simp; (try with_reducible rfl)
          try simp only [Act.put, List.setIfInBounds_toArray, List.set_cons_zero, List.set_cons_succ]
          refine takeY 18 _ (v := ?_) rfl rfl (by kernel_rfl) (by kernel_rfl) (by kernel_rfl) (fun _ _ _ h => h) (by kernel_rfl) ?_ (by assumption) ?_
          rotate_left 1
          · intro w hSw; (try dsimp only at hSw); go_simp; (try with_reducible rfl)
          try simp only [Act.put, List.setIfInBounds_toArray, List.set_cons_zero, List.set_cons_succ]
          refine wpAnyH_ready (rs := [19]) (by kernel_rfl) (by simp) ?_
          refine AllReadyH.cons rfl (fun K hK => ?_) AllReadyH.nil
          go_simp
          (with_reducible refine (l09Meet_any (.slice A3 n3 c3) (.slice A4 n4 c4) (bt Z p) (bt Z q) n wr.drew HRP.out HRQ.out (HI.out.bl p) (HI.out.bl q) HBP.out HBQ.out hn1 hn2).mono ?_)
          rintro e w2 ⟨rfl, hbb⟩
          rw [HV.out]
          have HB2 : Hid (Below wr.heap.size wr w2) := Lib.hid ((drewN_below wr 1).trans (by exact hbb))
          clear hbb
          refine hK.out _ w2 ⟨by rw [HB2.out.cell (p := ⟨w.heap.size, 0, none⟩) x4]; exact x0, by rw [HB2.out.cell (p := ⟨w.heap.size, 1, none⟩) x4]; exact x1, by rw [HB2.out.cell (p := ⟨g0, o0 + p, none⟩) hg0w]; exact b0, by rw [HB2.out.cell (p := ⟨g0, o0 + q, none⟩) hg0w]; exact b1, by rw [HB2.out.cell (p := ⟨g1, o1 + p, none⟩) hg1w]; exact b2, by rw [HB2.out.cell (p := ⟨gi, oi + q, none⟩) hgiw]; exact b3⟩ (fun hHeld => ?_)
          clear hK K
          try simp only [Act.put, List.setIfInBounds_toArray, List.set_cons_zero, List.set_cons_succ]
          refine takeY 20 _ (v := .int .i64 (s + x)) rfl rfl (by kernel_rfl) (by kernel_rfl) (by kernel_rfl) (fun _ _ _ h => h) (by kernel_rfl) ?_ (by assumption) ?_
          · intro w hSw; (try dsimp only at hSw); go_simp; (try with_reducible rfl)
          try simp only [Act.put, List.setIfInBounds_toArray, List.set_cons_zero, List.set_cons_succ]
          refine takeY 21 _ (v := ?_) rfl rfl (by kernel_rfl) (by kernel_rfl) (by kernel_rfl) (fun _ _ _ h => h) (by kernel_rfl) ?_ (by assumption) ?_
          rotate_left 1
          · intro w hSw; (try dsimp only at hSw); go_simp; (try with_reducible rfl)
          try simp only [Act.put, List.setIfInBounds_toArray, List.set_cons_zero, List.set_cons_succ]
          refine wpAnyH_done (by kernel_rfl) ?_ _
          go_wp2_with fail
          go_roundw
          case rel => exact ⟨q + 1, s + x, by omega, rfl, by go_num, Lib.hid HNX.out.symm, Lib.hid (hX.out.stay HB2.out), Lib.hid (hB.out.trans (HB2.out.mono hB.out.size))⟩
          case measure => simp [intOf]; omega
        · obtain rfl : q = p := by omega
          go_wp2_with fail
          go_roundw
          case rel => exact ⟨q + 1, s, by omega, rfl, by go_num, Lib.hid (by rw [hs.out]; rfl), hX, hB⟩
          case measure => simp [intOf]; omega
    · obtain rfl : p = r := by omega
      have E : Hid (s = dsF Z M p) := hs
      go_wp2_with fail
      go_ret
      exact ⟨ret_intQ E.out, hB.out⟩

set_option maxRecDepth 100000 in
set_option maxHeartbeats 1200000 in
theorem specCurveDelta_any (a b : Value) (Z M : List (List Int)) (w : World) (h : ReadU w w.heap.size a b Z M) (hi : CuIn Z M) :
    Calls Try.prog 44 #[.agg #[a, b]] w (AnsII w (cdeA Z M) (cuC Z M)) := by
  obtain ⟨W0, HE⟩ : ∃ V, V = w.alloc (.cells #[a, b] 56) := ⟨_, rfl⟩
  have hb0 : Below w.heap.size w W0 := by rw [HE]; exact below_box2 _ _
  have hx : UBox W0 w.heap.size a b := by rw [HE]; exact UBox.new _ _ _ _
  have HEQ := Lib.hid HE; have B := Lib.hid hb0; have HI := Lib.hid hi; have H := Lib.hid h; have HX := Lib.hid hx
  have HU := Lib.hid ((h.below hb0).more hb0.size)
  have x0 := hx.c0; have x1 := hx.c1; have x4 := hx.lt
  obtain ⟨q, hq⟩ : ∃ q, cuB Z M = q := ⟨_, rfl⟩
  have HQ := Lib.hid hq
  clear hx HE hb0 hi h
  go_enter Try.func44, Try.ntmps44
  go_wp2_with fail
  rw [← HEQ.out]
  refine (l09Is_any a b Z M W0 HU.out HI.out).mono ?_
  rintro e w1 ⟨rfl, hb1⟩
  rw [hq]
  clear hq x0 x1 x4
  have HB1 := Lib.hid (B.out.trans (hb1.mono B.out.size)); have HX1 := Lib.hid (HX.out.stay hb1); have HU1 := Lib.hid ((HU.out.below hb1).more hb1.size)
  have x0 := HX1.out.c0; have x1 := HX1.out.c1; have x4 := HX1.out.lt
  clear hb1
  cases q with
  | false =>
    have E : Hid (cdeA Z M = 0 ∧ cuC Z M = 1) := Lib.hid (by unfold cdeA cuC; rw [HQ.out]; simp)
    go_wp2_with fail
    go_ret2
    exact ⟨by rw [E.out.1, E.out.2]; rfl, HB1.out⟩
  | true =>
    have HOK := Lib.hid (cuB_true.1 HQ.out)
    have E : Hid (cdeA Z M = dsF Z M Z.length ∧ cuC Z M = 0) := Lib.hid (by unfold cdeA cuC; rw [HQ.out]; simp)
    go_wp2_with fail
    refine (l09Delta_any a b Z M Z.length w1 HU1.out HI.out HOK.out rfl).mono ?_
    rintro e w2 ⟨rfl, hb2⟩
    have HB2 := Lib.hid (HB1.out.trans (hb2.mono HB1.out.size))
    clear hb2 x0 x1 x4
    go_wp2_with fail
    go_ret2
    exact ⟨by rw [E.out.1, E.out.2]; rfl, HB2.out⟩

set_option maxRecDepth 100000 in
set_option maxHeartbeats 1200000 in
theorem implCurveMilnor_any (a b : Value) (Z M : List (List Int)) (w : World) (h : ReadU w w.heap.size a b Z M) (hi : CuIn Z M) :
    Calls Try.prog 47 #[.agg #[a, b]] w (AnsII w (cmiA Z M) (cuC Z M)) := by
  obtain ⟨W0, HE⟩ : ∃ V, V = w.alloc (.cells #[a, b] 56) := ⟨_, rfl⟩
  have hb0 : Below w.heap.size w W0 := by rw [HE]; exact below_box2 _ _
  have hx : UBox W0 w.heap.size a b := by rw [HE]; exact UBox.new _ _ _ _
  have HEQ := Lib.hid HE; have B := Lib.hid hb0; have HI := Lib.hid hi; have H := Lib.hid h; have HX := Lib.hid hx
  have HU := Lib.hid ((h.below hb0).more hb0.size)
  have x0 := hx.c0; have x1 := hx.c1; have x4 := hx.lt
  obtain ⟨q, hq⟩ : ∃ q, cuB Z M = q := ⟨_, rfl⟩
  have HQ := Lib.hid hq
  obtain ⟨A0, c0, ea, _⟩ := id h.1
  have HCD := Lib.hid (implCurveDelta_any a b Z M W0 HU.out HI.out)
  clear hx HE hb0 hi h
  cases q with
  | false =>
    clear ea
    have E : Hid (cmiA Z M = 0 ∧ cuC Z M = 1) := Lib.hid (by unfold cmiA cuC; rw [HQ.out]; simp)
    have E1 : cdeA Z M = 0 ∧ cuC Z M = 1 := by unfold cdeA cuC; rw [HQ.out]; simp
    rw [E1.1, E1.2] at HCD
    clear E1 hq
    go_enter Try.func47, Try.ntmps47
    go_wp2_with fail
    rw [← HEQ.out]
    refine HCD.out.mono ?_
    rintro e w1 ⟨rfl, hb1⟩
    have HB1 := Lib.hid (B.out.trans (hb1.mono B.out.size))
    clear hb1 x0 x1 x4
    go_wp2_with fail
    go_ret2
    exact ⟨by rw [E.out.1, E.out.2]; rfl, HB1.out⟩
  | true =>
    have HOK := Lib.hid (cuB_true.1 HQ.out)
    have hhi : Z.length ≤ 6 := HOK.out.parts.hi
    have hdr := dsF_rng HOK.out rfl hhi Z.length (Nat.le_refl _)
    have E1 : cdeA Z M = dsF Z M Z.length ∧ cuC Z M = 0 := by unfold cdeA cuC; rw [HQ.out]; simp
    have E : cmiA Z M = 2 * dsF Z M Z.length - Z.length + 1 ∧ cuC Z M = 0 := by unfold cmiA cuC; rw [HQ.out]; simp
    rw [E1.1, E1.2] at HCD
    rw [E.1, E.2]
    subst ea
    obtain ⟨d, hd⟩ : ∃ d, dsF Z M Z.length = d := ⟨_, rfl⟩
    obtain ⟨r, hr⟩ : ∃ r, Z.length = r := ⟨_, rfl⟩
    rw [hd] at HCD hdr ⊢
    rw [hr] at HCD hdr hhi HX HEQ x0 ⊢
    have p1 : IntKind.i64.wrap (2 * d) = 2 * d := IntWalk.i64_in _ (by omega)
    have p2 : IntKind.i64.wrap (2 * d - (r : Int)) = 2 * d - (r : Int) := IntWalk.i64_in _ (by omega)
    have p3 : IntKind.i64.wrap (2 * d - (r : Int) + 1) = 2 * d - (r : Int) + 1 := IntWalk.i64_in _ (by omega)
    clear E1 E hq hd hdr hr
    go_enter Try.func47, Try.ntmps47
    go_wp2_with fail
    rw [← HEQ.out]
    refine HCD.out.mono ?_
    rintro e w1 ⟨rfl, hb1⟩
    have HB1 := Lib.hid (B.out.trans (hb1.mono B.out.size)); have HX1 := Lib.hid (HX.out.stay hb1)
    clear hb1 x0 x1 x4
    have x0 := HX1.out.c0; have x1 := HX1.out.c1; have x4 := HX1.out.lt
    go_wp2_with fail
    go_ret2
    exact ⟨rfl, HB1.out⟩

set_option maxRecDepth 100000 in
set_option maxHeartbeats 1200000 in
theorem l09Milnor_any (a b : Value) (Z M : List (List Int)) (w : World) (h : ReadU w w.heap.size a b Z M) (hi : CuIn Z M) (hok : CuOK Z M) :
    Calls Try.prog 110 #[.agg #[a, b]] w fun e w' => e = .returned (.int .i64 (2 * dsF Z M Z.length - Z.length + 1)) ∧ Below w.heap.size w w' := by
  obtain ⟨W0, HE⟩ : ∃ V, V = w.alloc (.cells #[a, b] 56) := ⟨_, rfl⟩
  have hb0 : Below w.heap.size w W0 := by rw [HE]; exact below_box2 _ _
  have hx : UBox W0 w.heap.size a b := by rw [HE]; exact UBox.new _ _ _ _
  have HEQ := Lib.hid HE; have B := Lib.hid hb0; have HI := Lib.hid hi; have H := Lib.hid h; have HX := Lib.hid hx
  have HU := Lib.hid ((h.below hb0).more hb0.size)
  have x0 := hx.c0; have x1 := hx.c1; have x4 := hx.lt
  obtain ⟨A0, c0, ea, _⟩ := id h.1
  have HLD := Lib.hid (l09Delta_any a b Z M Z.length W0.drew (by exact HU.out) HI.out hok rfl)
  have hhi : Z.length ≤ 6 := hok.parts.hi
  have hdr := dsF_rng hok rfl hhi Z.length (Nat.le_refl _)
  subst ea
  obtain ⟨d, hd⟩ : ∃ d, dsF Z M Z.length = d := ⟨_, rfl⟩
  obtain ⟨r, hr⟩ : ∃ r, Z.length = r := ⟨_, rfl⟩
  rw [hd] at HLD hdr ⊢
  rw [hr] at HLD hdr hhi HX HEQ x0 ⊢
  have p1 : IntKind.i64.wrap (2 * d) = 2 * d := IntWalk.i64_in _ (by omega)
  have p2 : IntKind.i64.wrap (2 * d - (r : Int)) = 2 * d - (r : Int) := IntWalk.i64_in _ (by omega)
  have p3 : IntKind.i64.wrap (2 * d - (r : Int) + 1) = 2 * d - (r : Int) + 1 := IntWalk.i64_in _ (by omega)
  clear hx HE hb0 hi h hok hd hdr hr
  go_enter Try.func110, Try.ntmps110
  go_wp2_with fail
  rw [← HEQ.out]
  refine wp_region_held_drew (S := fun w' => w'.cell? ⟨w.heap.size, 0, none⟩ = some (.slice A0 r c0) ∧ w'.cell? ⟨w.heap.size, 1, none⟩ = some (b)) (by kernel_rfl) ⟨x0, x1⟩ (fun hHeld => ?_)
  refine takeY 0 _ (v := ?_) rfl rfl (by kernel_rfl) (by kernel_rfl) (by kernel_rfl) (fun _ _ _ h => h) (by kernel_rfl) ?_ (by assumption) ?_
  rotate_left 1
  · intro w hSw; (try dsimp only at hSw); go_simp; (try with_reducible rfl)
  try simp only [Act.put, List.setIfInBounds_toArray, List.set_cons_zero, List.set_cons_succ]
  refine takeY 3 _ (v := ?_) rfl rfl (by kernel_rfl) (by kernel_rfl) (by kernel_rfl) (fun _ _ _ h => h) (by kernel_rfl) ?_ (by assumption) ?_
  rotate_left 1
  · intro w hSw; (try dsimp only at hSw); go_simp; (try with_reducible rfl)
  try simp only [Act.put, List.setIfInBounds_toArray, List.set_cons_zero, List.set_cons_succ]
  refine takeY 4 _ (v := ?_) rfl rfl (by kernel_rfl) (by kernel_rfl) (by kernel_rfl) (fun _ _ _ h => h) (by kernel_rfl) ?_ (by assumption) ?_
  rotate_left 1
  · intro w hSw; (try dsimp only at hSw); go_simp; (try with_reducible rfl)
  try simp only [Act.put, List.setIfInBounds_toArray, List.set_cons_zero, List.set_cons_succ]
  refine takeY 5 _ (v := ?_) rfl rfl (by kernel_rfl) (by kernel_rfl) (by kernel_rfl) (fun _ _ _ h => h) (by kernel_rfl) ?_ (by assumption) ?_
  rotate_left 1
  · intro w hSw; (try dsimp only at hSw); go_simp; (try with_reducible rfl)
  try simp only [Act.put, List.setIfInBounds_toArray, List.set_cons_zero, List.set_cons_succ]
  refine wpAnyH_ready (rs := [1]) (by kernel_rfl) (by simp) ?_
  refine AllReadyH.cons rfl (fun K hK => ?_) AllReadyH.nil
  go_simp
  (with_reducible refine HLD.out.mono ?_)
  rintro e w2 ⟨rfl, hbb⟩
  have HB2 : Hid (Below W0.heap.size W0 w2) := Lib.hid ((drewN_below W0 1).trans (by exact hbb))
  clear hbb
  refine hK.out _ w2 ⟨(HX.out.stay HB2.out).c0, (HX.out.stay HB2.out).c1⟩ (fun hHeld => ?_)
  clear hK K
  try simp only [Act.put, List.setIfInBounds_toArray, List.set_cons_zero, List.set_cons_succ]
  refine takeY 2 _ (v := .int .i64 (2 * d)) rfl rfl (by kernel_rfl) (by kernel_rfl) (by kernel_rfl) (fun _ _ _ h => h) (by kernel_rfl) ?_ (by assumption) ?_
  · intro w hSw; (try dsimp only at hSw); go_simp; (try with_reducible rfl)
  try simp only [Act.put, List.setIfInBounds_toArray, List.set_cons_zero, List.set_cons_succ]
  refine takeY 6 _ (v := .int .i64 (2 * d - (r : Int))) rfl rfl (by kernel_rfl) (by kernel_rfl) (by kernel_rfl) (fun _ _ _ h => h) (by kernel_rfl) ?_ (by assumption) ?_
  · intro w hSw; (try dsimp only at hSw); go_simp; (try with_reducible rfl)
  try simp only [Act.put, List.setIfInBounds_toArray, List.set_cons_zero, List.set_cons_succ]
  refine takeY 7 _ (v := .int .i64 (2 * d - (r : Int) + 1)) rfl rfl (by kernel_rfl) (by kernel_rfl) (by kernel_rfl) (fun _ _ _ h => h) (by kernel_rfl) ?_ (by assumption) ?_
  · intro w hSw; (try dsimp only at hSw); go_simp; (try with_reducible rfl)
  try simp only [Act.put, List.setIfInBounds_toArray, List.set_cons_zero, List.set_cons_succ]
  refine takeY 8 _ (v := ?_) rfl rfl (by kernel_rfl) (by kernel_rfl) (by kernel_rfl) (fun _ _ _ h => h) (by kernel_rfl) ?_ (by assumption) ?_
  rotate_left 1
  · intro w hSw; (try dsimp only at hSw); go_simp; (try with_reducible rfl)
  try simp only [Act.put, List.setIfInBounds_toArray, List.set_cons_zero, List.set_cons_succ]
  refine wpAnyH_done (by kernel_rfl) ?_ _
  clear hHeld
  go_wp2_with fail
  go_ret
  exact ⟨rfl, B.out.trans (HB2.out.mono B.out.size)⟩

set_option maxRecDepth 100000 in
set_option maxHeartbeats 1200000 in
theorem specCurveMilnor_any (a b : Value) (Z M : List (List Int)) (w : World) (h : ReadU w w.heap.size a b Z M) (hi : CuIn Z M) :
    Calls Try.prog 46 #[.agg #[a, b]] w (AnsII w (cmiA Z M) (cuC Z M)) := by
  obtain ⟨W0, HE⟩ : ∃ V, V = w.alloc (.cells #[a, b] 56) := ⟨_, rfl⟩
  have hb0 : Below w.heap.size w W0 := by rw [HE]; exact below_box2 _ _
  have hx : UBox W0 w.heap.size a b := by rw [HE]; exact UBox.new _ _ _ _
  have HEQ := Lib.hid HE; have B := Lib.hid hb0; have HI := Lib.hid hi; have H := Lib.hid h; have HX := Lib.hid hx
  have HU := Lib.hid ((h.below hb0).more hb0.size)
  have x0 := hx.c0; have x1 := hx.c1; have x4 := hx.lt
  obtain ⟨q, hq⟩ : ∃ q, cuB Z M = q := ⟨_, rfl⟩
  have HQ := Lib.hid hq
  clear hx HE hb0 hi h
  go_enter Try.func46, Try.ntmps46
  go_wp2_with fail
  rw [← HEQ.out]
  refine (l09Is_any a b Z M W0 HU.out HI.out).mono ?_
  rintro e w1 ⟨rfl, hb1⟩
  rw [hq]
  clear hq x0 x1 x4
  have HB1 := Lib.hid (B.out.trans (hb1.mono B.out.size)); have HX1 := Lib.hid (HX.out.stay hb1); have HU1 := Lib.hid ((HU.out.below hb1).more hb1.size)
  have x0 := HX1.out.c0; have x1 := HX1.out.c1; have x4 := HX1.out.lt
  clear hb1
  cases q with
  | false =>
    have E : Hid (cmiA Z M = 0 ∧ cuC Z M = 1) := Lib.hid (by unfold cmiA cuC; rw [HQ.out]; simp)
    go_wp2_with fail
    go_ret2
    exact ⟨by rw [E.out.1, E.out.2]; rfl, HB1.out⟩
  | true =>
    have HOK := Lib.hid (cuB_true.1 HQ.out)
    have E : Hid (cmiA Z M = 2 * dsF Z M Z.length - Z.length + 1 ∧ cuC Z M = 0) := Lib.hid (by unfold cmiA cuC; rw [HQ.out]; simp)
    go_wp2_with fail
    refine (l09Milnor_any a b Z M w1 HU1.out HI.out HOK.out).mono ?_
    rintro e w2 ⟨rfl, hb2⟩
    have HB2 := Lib.hid (HB1.out.trans (hb2.mono HB1.out.size))
    clear hb2 x0 x1 x4
    go_wp2_with fail
    go_ret2
    exact ⟨by rw [E.out.1, E.out.2]; rfl, HB2.out⟩

end Go.Proofs.Ytohbgfmjnanlkaa
