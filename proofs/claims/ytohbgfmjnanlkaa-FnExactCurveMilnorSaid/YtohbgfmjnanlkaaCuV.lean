/- The multiplicity of a curve: contracts, the program's and the model's. Conditions: stated at each theorem. -/
import Derived.Test.YtohbgfmjnanlkaaCuU
namespace Go.Proofs.Ytohbgfmjnanlkaa
open Go.ChangeShapes Go.WideShapes Go.ChangeAt Go.RowKit Go.Deep
set_option linter.unusedVariables false
set_option linter.unusedSimpArgs false

theorem brU_first {zs : List Int} (h : brB zs = true) : (1 : Int) ≤ zs[0]?.getD 0 ∧ zs[0]?.getD 0 ≤ 64 := by obtain ⟨n, r, rfl, hn, _⟩ := br_cons h; simpa using hn
/-- The sum of the multiplicities of the first n branches. -/
def smF (Z : List (List Int)) : Nat → Int
  | 0 => 0
  | n + 1 => smF Z n + (bt Z n)[0]?.getD 0
theorem smF_rng {Z : List (List Int)} {r : Nat} (h : ∀ i, i < r → brB (bt Z i) = true) : ∀ n, n ≤ r → 0 ≤ smF Z n ∧ smF Z n ≤ 64 * n
  | 0, _ => by simp [smF]
  | n + 1, hn => by
    have h1 := smF_rng h n (by omega)
    have h2 := brU_first (h n (by omega))
    show 0 ≤ smF Z n + (bt Z n)[0]?.getD 0 ∧ smF Z n + (bt Z n)[0]?.getD 0 ≤ 64 * ((n + 1 : Nat) : Int)
    push_cast; omega
noncomputable def cmuA (Z M : List (List Int)) : Int := if cuB Z M then smF Z Z.length else 0
noncomputable def cuC (Z M : List (List Int)) : Int := if cuB Z M then 0 else 1
theorem brU_len {zs : List Int} (h : brB zs = true) : 1 ≤ zs.length := by obtain ⟨n, r, rfl, _⟩ := br_cons h; simp
set_option maxRecDepth 100000 in
set_option maxHeartbeats 1000000 in
theorem implCurveMultiplicity_any (a b : Value) (Z M : List (List Int)) (w : World) (h : ReadU w w.heap.size a b Z M) (hi : CuIn Z M) :
    Calls Try.prog 41 #[.agg #[a, b]] w (AnsII w (cmuA Z M) (cuC Z M)) := by
  obtain ⟨W0, HE⟩ : ∃ V, V = w.alloc (.cells #[a, b] 56) := ⟨_, rfl⟩
  have hb0 : Below w.heap.size w W0 := by rw [HE]; exact below_box2 _ _
  have hx : UBox W0 w.heap.size a b := by rw [HE]; exact UBox.new _ _ _ _
  have HEQ := Lib.hid HE; have B := Lib.hid hb0; have HI := Lib.hid hi; have H := Lib.hid h; have HX := Lib.hid hx
  have HU := Lib.hid ((h.below hb0).more hb0.size)
  have x0 := hx.c0; have x1 := hx.c1; have x4 := hx.lt
  obtain ⟨q, hq⟩ : ∃ q, cuB Z M = q := ⟨_, rfl⟩
  have HQ := Lib.hid hq
  clear hx HE hb0 hi h
  go_enter Try.func41, Try.ntmps41
  go_wp2_with fail
  rw [← HEQ.out]
  refine (implIsCurve_any a b Z M W0 HU.out HI.out).mono ?_
  rintro e w1 ⟨rfl, hb1⟩
  rw [hq]
  clear hq x0 x1 x4
  have HB1 := Lib.hid (B.out.trans (hb1.mono B.out.size)); have HX1 := Lib.hid (HX.out.stay hb1)
  have x0 := HX1.out.c0; have x1 := HX1.out.c1; have x4 := HX1.out.lt
  clear hb1
  cases q with
  | false =>
    have E : Hid (cmuA Z M = 0 ∧ cuC Z M = 1) := Lib.hid (by unfold cmuA cuC; rw [HQ.out]; simp)
    go_wp2_with fail
    go_ret2
    exact ⟨by rw [E.out.1, E.out.2]; rfl, HB1.out⟩
  | true =>
    have HOK := Lib.hid (cuB_true.1 HQ.out).parts
    obtain ⟨⟨A0, c0, ea, _⟩, _⟩ := id H.out
    obtain ⟨r, hr⟩ : ∃ r, Z.length = r := ⟨_, rfl⟩
    have HR := Lib.hid hr
    rw [hr] at ea
    subst ea
    have hlo : 1 ≤ r := by rw [← hr]; exact HOK.out.lo
    have hhi : r ≤ 6 := by rw [← hr]; exact HOK.out.hi
    have HBR : Hid (∀ i, i < r → brB (bt Z i) = true) := Lib.hid (fun i hi => HOK.out.br i (by rw [HR.out]; exact hi))
    have E : Hid (cmuA Z M = smF Z r ∧ cuC Z M = 0) := Lib.hid (by unfold cmuA cuC; rw [HQ.out, HR.out]; simp)
    obtain ⟨g0, o0, rfl, hg0, hzr⟩ := rows_cellsU H.out.1 hr hlo
    have HZ := Lib.hid hzr
    clear hzr hr
    go_wp2_with fail
    clear x0 x1 x4
    go_loopw [4, 13] (fun vs vi wr => ∃ (i : Nat) (s : Int), i ≤ r ∧ vs = .int .i64 s ∧ vi = .int .i64 i ∧ Hid (s = smF Z i) ∧ Hid (UBox wr w.heap.size (.slice (some ⟨g0, o0, none⟩) r c0) b) ∧ Hid (Below w.heap.size w wr)) (fun _ vi _ => r - (intOf vi).toNat)
    case atStart => exact ⟨0, 0, by omega, rfl, rfl, Lib.hid rfl, HX1, HB1⟩
    case round =>
      obtain ⟨i, s, hi, rfl, rfl, hs, hX, hB⟩ := hrel
      have x0 := hX.out.c0; have x1 := hX.out.c1; have x4 := hX.out.lt
      by_cases hir : i < r
      · have hir2 : (i : Int) < (r : Int) := by omega
        obtain ⟨u, hcu, hru⟩ := HZ.out i hir
        obtain ⟨n3, hn3⟩ : ∃ n, (bt Z i).length = n := ⟨_, rfl⟩
        have hn31 : 1 ≤ n3 := by rw [← hn3]; exact brU_len (HBR.out i hir)
        obtain ⟨gi, oi, ci, rfl, hgi, hkm⟩ := row_cellsU hru hn3 hn31
        have hn32 : (0 : Int) < (n3 : Int) := by omega
        have hf := brU_first (HBR.out i hir)
        have d2 := hkm 0 (by omega)
        have e0 : (bt Z i).getD 0 0 = (bt Z i)[0]?.getD 0 := by rw [List.getD_eq_getElem?_getD]
        rw [show (Z.getD i []).getD 0 0 = (bt Z i)[0]?.getD 0 from e0] at d2
        have d0 : wr.cell? ⟨g0, o0 + i, none⟩ = some (.slice (some ⟨gi, oi, none⟩) n3 ci) := by rw [hB.out.cell (p := ⟨g0, o0 + i, none⟩) hg0]; exact hcu
        have d1 : wr.cell? ⟨gi, oi, none⟩ = some (.int .i64 ((bt Z i)[0]?.getD 0)) := by rw [hB.out.cell (p := ⟨gi, oi, none⟩) hgi]; simpa using d2
        have hsr := smF_rng HBR.out i hi
        have HNX : Hid (smF Z (i + 1) = s + (bt Z i)[0]?.getD 0) := Lib.hid (by rw [hs.out]; rfl)
        rw [← hs.out] at hsr
        obtain ⟨x, hx⟩ : ∃ x, (bt Z i)[0]?.getD 0 = x := ⟨_, rfl⟩
        rw [hx] at d1 hf HNX
        have p1 : IntKind.i64.wrap (s + x) = s + x := IntWalk.i64_in _ (by omega)
        have d1L : (wr.alloc (.cells #[.slice (some ⟨gi, oi, none⟩) n3 ci] 28)).cell? ⟨gi, oi, none⟩ = some (.int .i64 x) := by
          rw [(below_box2 wr _).cell (p := ⟨gi, oi, none⟩) (by have := hB.out.size; show gi < _; omega)]; exact d1
        have HBN := Lib.hid (hB.out.trans ((below_box2 wr (.cells #[.slice (some ⟨gi, oi, none⟩) n3 ci] 28)).mono hB.out.size))
        have HXN := Lib.hid (hX.out.stay (below_box2 wr (.cells #[.slice (some ⟨gi, oi, none⟩) n3 ci] 28)))
        clear hcu hru hkm d2 e0 hx
        go_wp2_with fail
        go_roundw
        case rel => exact ⟨i + 1, s + x, by omega, rfl, by go_num, Lib.hid HNX.out.symm, HXN, HBN⟩
        case measure => simp [intOf]; omega
      · obtain rfl : i = r := by omega
        have E2 : Hid (cmuA Z M = s) := Lib.hid (by rw [E.out.1, hs.out])
        go_wp2_with fail
        go_ret2
        exact ⟨by rw [E2.out, E.out.2]; rfl, hB.out⟩

set_option maxRecDepth 100000 in
set_option maxHeartbeats 1000000 in
theorem specCurveMultiplicity_any (a b : Value) (Z M : List (List Int)) (w : World) (h : ReadU w w.heap.size a b Z M) (hi : CuIn Z M) :
    Calls Try.prog 40 #[.agg #[a, b]] w (AnsII w (cmuA Z M) (cuC Z M)) := by
  obtain ⟨W0, HE⟩ : ∃ V, V = w.alloc (.cells #[a, b] 56) := ⟨_, rfl⟩
  have hb0 : Below w.heap.size w W0 := by rw [HE]; exact below_box2 _ _
  have hx : UBox W0 w.heap.size a b := by rw [HE]; exact UBox.new _ _ _ _
  have HEQ := Lib.hid HE; have B := Lib.hid hb0; have HI := Lib.hid hi; have H := Lib.hid h; have HX := Lib.hid hx
  have HU := Lib.hid ((h.below hb0).more hb0.size)
  have x0 := hx.c0; have x1 := hx.c1; have x4 := hx.lt
  obtain ⟨q, hq⟩ : ∃ q, cuB Z M = q := ⟨_, rfl⟩
  have HQ := Lib.hid hq
  clear hx HE hb0 hi h
  go_enter Try.func40, Try.ntmps40
  go_wp2_with fail
  rw [← HEQ.out]
  refine (l09Is_any a b Z M W0 HU.out HI.out).mono ?_
  rintro e w1 ⟨rfl, hb1⟩
  rw [hq]
  clear hq x0 x1 x4
  have HB1 := Lib.hid (B.out.trans (hb1.mono B.out.size)); have HX1 := Lib.hid (HX.out.stay hb1)
  have x0 := HX1.out.c0; have x1 := HX1.out.c1; have x4 := HX1.out.lt
  clear hb1
  cases q with
  | false =>
    have E : Hid (cmuA Z M = 0 ∧ cuC Z M = 1) := Lib.hid (by unfold cmuA cuC; rw [HQ.out]; simp)
    go_wp2_with fail
    go_ret2
    exact ⟨by rw [E.out.1, E.out.2]; rfl, HB1.out⟩
  | true =>
    have HOK := Lib.hid (cuB_true.1 HQ.out).parts
    obtain ⟨⟨A0, c0, ea, _⟩, _⟩ := id H.out
    obtain ⟨r, hr⟩ : ∃ r, Z.length = r := ⟨_, rfl⟩
    have HR := Lib.hid hr
    rw [hr] at ea
    subst ea
    have hlo : 1 ≤ r := by rw [← hr]; exact HOK.out.lo
    have hhi : r ≤ 6 := by rw [← hr]; exact HOK.out.hi
    have HBR : Hid (∀ i, i < r → brB (bt Z i) = true) := Lib.hid (fun i hi => HOK.out.br i (by rw [HR.out]; exact hi))
    have E : Hid (cmuA Z M = smF Z r ∧ cuC Z M = 0) := Lib.hid (by unfold cmuA cuC; rw [HQ.out, HR.out]; simp)
    obtain ⟨g0, o0, rfl, hg0, hzr⟩ := rows_cellsU H.out.1 hr hlo
    have HZ := Lib.hid hzr
    clear hzr hr
    go_wp2_with fail
    clear x0 x1 x4
    go_loopw [4, 5] (fun vs vi wr => ∃ (i : Nat) (s : Int), i ≤ r ∧ vs = .int .i64 s ∧ vi = .int .i64 i ∧ Hid (s = smF Z i) ∧ Hid (UBox wr w.heap.size (.slice (some ⟨g0, o0, none⟩) r c0) b) ∧ Hid (Below w.heap.size w wr)) (fun _ vi _ => r - (intOf vi).toNat)
    case atStart => exact ⟨0, 0, by omega, rfl, rfl, Lib.hid rfl, HX1, HB1⟩
    case round =>
      obtain ⟨i, s, hi, rfl, rfl, hs, hX, hB⟩ := hrel
      have x0 := hX.out.c0; have x1 := hX.out.c1; have x4 := hX.out.lt
      by_cases hir : i < r
      · have hir2 : (i : Int) < (r : Int) := by omega
        obtain ⟨u, hcu, hru⟩ := HZ.out i hir
        obtain ⟨n3, hn3⟩ : ∃ n, (bt Z i).length = n := ⟨_, rfl⟩
        have hn31 : 1 ≤ n3 := by rw [← hn3]; exact brU_len (HBR.out i hir)
        obtain ⟨gi, oi, ci, rfl, hgi, hkm⟩ := row_cellsU hru hn3 hn31
        have hn32 : (0 : Int) < (n3 : Int) := by omega
        have hf := brU_first (HBR.out i hir)
        have d2 := hkm 0 (by omega)
        have e0 : (bt Z i).getD 0 0 = (bt Z i)[0]?.getD 0 := by rw [List.getD_eq_getElem?_getD]
        rw [show (Z.getD i []).getD 0 0 = (bt Z i)[0]?.getD 0 from e0] at d2
        have d0 : wr.cell? ⟨g0, o0 + i, none⟩ = some (.slice (some ⟨gi, oi, none⟩) n3 ci) := by rw [hB.out.cell (p := ⟨g0, o0 + i, none⟩) hg0]; exact hcu
        have d1 : wr.cell? ⟨gi, oi, none⟩ = some (.int .i64 ((bt Z i)[0]?.getD 0)) := by rw [hB.out.cell (p := ⟨gi, oi, none⟩) hgi]; simpa using d2
        have hsr := smF_rng HBR.out i hi
        have HNX : Hid (smF Z (i + 1) = s + (bt Z i)[0]?.getD 0) := Lib.hid (by rw [hs.out]; rfl)
        rw [← hs.out] at hsr
        obtain ⟨x, hx⟩ : ∃ x, (bt Z i)[0]?.getD 0 = x := ⟨_, rfl⟩
        rw [hx] at d1 hf HNX
        have p1 : IntKind.i64.wrap (s + x) = s + x := IntWalk.i64_in _ (by omega)
        clear hcu hru hkm d2 e0 hx
        go_wp2_with fail
        go_roundw
        case rel => exact ⟨i + 1, s + x, by omega, rfl, by go_num, Lib.hid HNX.out.symm, hX, hB⟩
        case measure => simp [intOf]; omega
      · obtain rfl : i = r := by omega
        have E2 : Hid (cmuA Z M = s) := Lib.hid (by rw [E.out.1, hs.out])
        go_wp2_with fail
        go_ret2
        exact ⟨by rw [E2.out, E.out.2]; rfl, hB.out⟩

end Go.Proofs.Ytohbgfmjnanlkaa
