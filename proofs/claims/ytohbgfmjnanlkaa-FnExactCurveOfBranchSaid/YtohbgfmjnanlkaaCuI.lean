/- Is it a curve, the program's: its parts, first points, meetings. Conditions: stated at each theorem. -/
import Derived.Test.YtohbgfmjnanlkaaCuP
import Derived.Test.YtohbgfmjnanlkaaCuW
namespace Go.Proofs.Ytohbgfmjnanlkaa
open Go.ChangeShapes Go.WideShapes Go.ChangeAt Go.RowKit Go.Deep
set_option linter.unusedVariables false
set_option linter.unusedSimpArgs false

/-- What is known of a curve's lists ahead of any test. -/
structure CuIn (Z M : List (List Int)) : Prop where
  zn : Z.length ≤ 1048576
  zl : ∀ i, lens Z i ≤ 1048576
  zw : ∀ zs ∈ Z, ∀ z ∈ zs, (Lit.int .i64 z).wf = true
  mn : M.length ≤ 1048576
  ml : ∀ i, lens M i ≤ 1048576
  mw : ∀ zs ∈ M, ∀ z ∈ zs, (Lit.int .i64 z).wf = true
theorem getD_memU {L : List (List Int)} {i : Nat} (h : i < L.length) : L.getD i [] ∈ L := by simp [List.getD, h]
theorem CuIn.bw {Z M : List (List Int)} (h : CuIn Z M) {i : Nat} (hi : i < Z.length) : ∀ z ∈ bt Z i, (Lit.int .i64 z).wf = true := h.zw _ (getD_memU hi)
theorem CuIn.bl {Z M : List (List Int)} (h : CuIn Z M) (i : Nat) : (bt Z i).length ≤ 1048576 := h.zl i
theorem CuIn.wf {Z M : List (List Int)} (h : CuIn Z M) {i k : Nat} (hi : i < M.length) (hk : k < (M.getD i []).length) : (Lit.int .i64 (mt M i k)).wf = true := by
  refine h.mw _ (getD_memU hi) _ ?_
  show (M.getD i []).getD k 0 ∈ M.getD i []
  generalize M.getD i [] = L at *
  simp [List.getD, hk]
/-- One pair of numbers of a matrix. -/
def comOK (M : List (List Int)) (i k : Nat) : Prop := mt M i k = mt M k i ∧ (i = k → mt M i k = 0) ∧ (i ≠ k → 1 ≤ mt M i k ∧ mt M i k ≤ 200)
theorem com_of {M : List (List Int)} {r : Nat} (h : ∀ i, i < r → ∀ k, k < r → comOK M i k) : CuCom M r := ⟨fun i k hi hk => (h i hi k hk).1, fun i hi => (h i hi i hi).2.1 rfl, fun i k hi hk hne => (h i hi k hk).2.2 hne⟩
theorem com_not {M : List (List Int)} {r i k : Nat} (hi : i < r) (hk : k < r) (h : ¬ comOK M i k) : ¬ CuCom M r := fun hc => h ⟨hc.sym i k hi hk, fun e => by subst e; exact hc.dia i hi, hc.off i k hi hk⟩
open Classical in
noncomputable def comB (M : List (List Int)) (r : Nat) : Bool := decide (CuCom M r)
theorem comB_no {M : List (List Int)} {r i k : Nat} (hi : i < r) (hk : k < r) (h : ¬ comOK M i k) : comB M r = false := by unfold comB; simp [com_not hi hk h]
theorem comB_yes {M : List (List Int)} {r : Nat} (h : ∀ i, i < r → ∀ k, k < r → comOK M i k) : comB M r = true := by unfold comB; simp [com_of h]
theorem comB_true {M : List (List Int)} {r : Nat} : comB M r = true ↔ CuCom M r := by unfold comB; simp
/-- The cells of rows that are read. -/
theorem rows_cellsU {w : World} {B : Nat} {A : Option Addr} {n c : Nat} {L : List (List Int)} (h : ReadQ w B (.slice A n c) L) (hn : L.length = n) (h1 : 1 ≤ n) :
    ∃ g o, A = some ⟨g, o, none⟩ ∧ g < B ∧ ∀ i, i < n → ∃ u, w.cell? ⟨g, o + i, none⟩ = some u ∧ ReadI w B u (L.getD i []) := by
  obtain ⟨A', c', e, h2, h3, h4, h5⟩ := h
  simp only [Value.slice.injEq] at e
  obtain ⟨rfl, _, rfl⟩ := e
  obtain ⟨a, u, ea, hlt, hc, hr⟩ := h2 0 (by omega)
  obtain ⟨g, o, rfl⟩ := h5.1 a ea
  refine ⟨g, o, ea, hlt, fun i hi => ?_⟩
  obtain ⟨a', u', ea', hlt', hc', hr'⟩ := h2 i (by omega)
  rw [ea] at ea'
  cases ea'
  rw [add_lit] at hc'
  exact ⟨u', hc', hr'⟩
theorem row_cellsU {w : World} {B r : Nat} {u : Value} {L : List Int} (h : ReadI w B u L) (hn : L.length = r) (h1 : 1 ≤ r) :
    ∃ g o c, u = .slice (some ⟨g, o, none⟩) r c ∧ g < B ∧ ∀ k, k < r → w.cell? ⟨g, o + k, none⟩ = some (.int .i64 (L.getD k 0)) := by
  obtain ⟨A, c, rfl, hr⟩ := id h
  rw [hn] at h ⊢
  obtain ⟨g, o, rfl, H, hlt⟩ := cells_ofU h hn h1
  refine ⟨g, o, c, rfl, hlt, fun k hk => ?_⟩
  have := H.out k hk
  simpa [List.getD] using this

set_option maxRecDepth 100000 in
set_option maxHeartbeats 4000000 in
theorem areCommon_any (v : Value) (M : List (List Int)) (r : Nat) (w : World) (B : Nat) (h : ReadQ w B v M) (hl : M.length = r) (h1 : 1 ≤ r) (hr : r ≤ 6) (hrow : ∀ i, i < r → (M.getD i []).length = r) :
    Calls Try.prog 181 #[v] w fun e w' => e = .returned (.bool (comB M r)) ∧ w = w' := by
  obtain ⟨A, c, rfl, _⟩ := id h
  rw [hl] at h ⊢
  obtain ⟨g, o, rfl, hg, hcells⟩ := rows_cellsU h hl h1
  have HC : Hid (∀ i, i < r → ∃ gi oi ci, w.cell? ⟨g, o + i, none⟩ = some (.slice (some ⟨gi, oi, none⟩) r ci) ∧ ∀ k, k < r → w.cell? ⟨gi, oi + k, none⟩ = some (.int .i64 (mt M i k))) := Lib.hid (fun i hi => by
    obtain ⟨u, hc, hri⟩ := hcells i hi
    obtain ⟨gi, oi, ci, rfl, _, hk⟩ := row_cellsU hri (hrow i hi) h1
    exact ⟨gi, oi, ci, hc, hk⟩)
  obtain ⟨b, hb⟩ : ∃ b, b = comB M r := ⟨_, rfl⟩
  rw [← hb]
  have HB := Lib.hid hb
  clear h hcells hrow hb hl
  go_enter Try.func181, Try.ntmps181
  go_wp2_with fail
  go_loop [9] (fun vi => ∃ i : Nat, i ≤ r ∧ vi = .int .i64 i ∧ Hid (∀ i', i' < i → ∀ k, k < r → comOK M i' k)) (fun vi => r - (intOf vi).toNat)
  case atStart => exact ⟨0, by omega, rfl, Lib.hid (fun i hi => by omega)⟩
  case round =>
    obtain ⟨i, hi, rfl, hdone⟩ := hrel
    by_cases hir : i < r
    · obtain ⟨gi, oi, ci, hci, hki⟩ := HC.out i hir
      have HKI := Lib.hid hki
      have hir2 : (i : Int) < (r : Int) := by omega
      clear hki
      go_wp2_with fail
      go_loop [16] (fun vk => ∃ k : Nat, k ≤ r ∧ vk = .int .i64 k ∧ Hid (∀ k', k' < k → comOK M i k')) (fun vk => r - (intOf vk).toNat)
      case atStart => exact ⟨0, by omega, rfl, Lib.hid (fun i hi => by omega)⟩
      case round =>
        obtain ⟨k, hk, rfl, hdk⟩ := hrel
        by_cases hkr : k < r
        · obtain ⟨gk, ok, ck, hck, hkk⟩ := HC.out k hkr
          have d1 := HKI.out k hkr
          have d2 := hkk i hir
          have hkr2 : (k : Int) < (r : Int) := by omega
          have HN : Hid (¬ comOK M i k → false = b) := Lib.hid (fun hh => by rw [HB.out, comB_no hir hkr hh])
          have HY : Hid (comOK M i k → ∀ k', k' < k + 1 → comOK M i k') := Lib.hid (fun hh k' hk' => by
            by_cases e : k' = k
            · subst e; exact hh
            · exact hdk.out k' (by omega))
          obtain ⟨x, hx⟩ : ∃ x, mt M i k = x := ⟨_, rfl⟩
          obtain ⟨y, hy⟩ : ∃ y, mt M k i = y := ⟨_, rfl⟩
          have HX : Hid (comOK M i k ↔ (x = y ∧ (i = k → x = 0) ∧ (i ≠ k → 1 ≤ x ∧ x ≤ 200))) := Lib.hid (by unfold comOK; rw [hx, hy])
          rw [hx] at d1
          rw [hy] at d2
          clear hkk hx hy
          by_cases e1 : x = y
          · subst e1
            have t1 : (x != x) = false := by simp
            by_cases e2 : i = k
            · subst e2
              have t2 : ((i : Int) == (i : Int)) = true := by simp
              have t2' : ((i : Int) != (i : Int)) = false := by simp
              by_cases e3 : x = 0
              · subst e3
                have hd2 := Lib.hid (HY.out (HX.out.2 ⟨rfl, fun _ => rfl, fun h => absurd rfl h⟩))
                go_wp2_with fail
                go_round
                case rel => exact ⟨i + 1, by omega, by go_num, hd2⟩
                case measure => simp [intOf]; omega
              · have t3 : (x != 0) = true := by simp [e3]
                have R := Lib.hid (HN.out (fun hh => e3 ((HX.out.1 hh).2.1 rfl)))
                go_wp2_with fail
                go_ret
                exact ⟨ret_bool R.out, rfl⟩
            · have t2 : ((i : Int) == (k : Int)) = false := by simp; omega
              have t2' : ((i : Int) != (k : Int)) = true := by simp; omega
              by_cases e3 : x < 1
              · have R := Lib.hid (HN.out (fun hh => by have := ((HX.out.1 hh).2.2 e2).1; omega))
                go_wp2_with fail
                go_ret
                exact ⟨ret_bool R.out, rfl⟩
              · by_cases e4 : x > 200
                · have R := Lib.hid (HN.out (fun hh => by have := ((HX.out.1 hh).2.2 e2).2; omega))
                  go_wp2_with fail
                  go_ret
                  exact ⟨ret_bool R.out, rfl⟩
                · have hd2 := Lib.hid (HY.out (HX.out.2 ⟨rfl, fun h => absurd h e2, fun _ => by omega⟩))
                  go_wp2_with fail
                  go_round
                  case rel => exact ⟨k + 1, by omega, by go_num, hd2⟩
                  case measure => simp [intOf]; omega
          · have t1 : (x != y) = true := by simp [e1]
            have R := Lib.hid (HN.out (fun hh => e1 (HX.out.1 hh).1))
            go_wp2_with fail
            go_ret
            exact ⟨ret_bool R.out, rfl⟩
        · obtain rfl : k = r := by omega
          go_wp2_with fail
          go_round
          case rel => exact ⟨i + 1, by omega, by go_num, Lib.hid (fun i' hi' k' hk' => by
            by_cases e : i' = i
            · subst e; exact hdk.out k' hk'
            · exact hdone.out i' (by omega) k' hk')⟩
          case measure => simp [intOf]; omega
    · obtain rfl : i = r := by omega
      have R : Hid (true = b) := Lib.hid (by rw [HB.out, comB_yes hdone.out])
      go_wp2_with fail
      go_ret
      exact ⟨ret_bool R.out, rfl⟩

open Classical in
noncomputable def prtB (Z M : List (List Int)) : Bool := decide (CuParts Z M ∧ CuCom M Z.length)
theorem prtB_no {Z M : List (List Int)} (h : ¬ CuParts Z M) : prtB Z M = false := by unfold prtB; simp [h]
theorem prtB_yes {Z M : List (List Int)} (h : CuParts Z M) : prtB Z M = comB M Z.length := by unfold prtB comB; simp [h]
theorem prtB_true {Z M : List (List Int)} : prtB Z M = true ↔ CuParts Z M ∧ CuCom M Z.length := by unfold prtB; simp
set_option maxRecDepth 100000 in
set_option maxHeartbeats 4000000 in
theorem hasParts_any (a b : Value) (Z M : List (List Int)) (w : World) (h : ReadU w w.heap.size a b Z M) (hi : CuIn Z M) :
    Calls Try.prog 149 #[.agg #[a, b]] w fun e w' => e = .returned (.bool (prtB Z M)) ∧ Below w.heap.size w w' := by
  obtain ⟨W0, HE⟩ : ∃ V, V = w.alloc (.cells #[a, b] 56) := ⟨_, rfl⟩
  have hb0 : Below w.heap.size w W0 := by rw [HE]; exact below_box2 _ _
  have hx : UBox W0 w.heap.size a b := by rw [HE]; exact UBox.new _ _ _ _
  have HEQ := Lib.hid HE; have B := Lib.hid hb0; have HX := Lib.hid hx
  have HI := Lib.hid hi
  obtain ⟨q, hq⟩ : ∃ q, q = prtB Z M := ⟨_, rfl⟩
  rw [← hq]
  have HQ := Lib.hid hq
  have H := Lib.hid h
  obtain ⟨⟨A0, c0, rfl, _⟩, ⟨A1, c1, rfl, _⟩⟩ := h
  have hzn := hi.zn; have hmn := hi.mn
  obtain ⟨r, hr⟩ : ∃ r, Z.length = r := ⟨_, rfl⟩
  obtain ⟨m, hm⟩ : ∃ m, M.length = m := ⟨_, rfl⟩
  have HZL := Lib.hid hr; have HML := Lib.hid hm
  rw [hr] at hx hzn HEQ HX
  rw [hm] at hx hmn HEQ HX
  have H' := H
  have e0 : Value.slice A0 Z.length c0 = .slice A0 r c0 := by rw [hr]
  have e1 : Value.slice A1 M.length c1 = .slice A1 m c1 := by rw [hm]
  rw [e0, e1] at H' ⊢
  have x0 := hx.c0; have x1 := hx.c1; have x4 := hx.lt
  clear hx HE hb0 hi hq e0 e1 H hr hm
  by_cases k1 : r < 1
  · have R : Hid (false = q) := Lib.hid (by rw [HQ.out, prtB_no (fun hp => by have := hp.lo; have := HZL.out; omega)])
    go_enter Try.func149, Try.ntmps149
    go_wp2_with fail
    rw [← HEQ.out]
    go_ret
    exact ⟨ret_bool R.out, B.out⟩
  by_cases k2 : r > 6
  · have R : Hid (false = q) := Lib.hid (by rw [HQ.out, prtB_no (fun hp => by have := hp.hi; have := HZL.out; omega)])
    go_enter Try.func149, Try.ntmps149
    go_wp2_with fail
    rw [← HEQ.out]
    go_ret
    exact ⟨ret_bool R.out, B.out⟩
  by_cases k3 : m = r
  rotate_left
  · have R : Hid (false = q) := Lib.hid (by rw [HQ.out, prtB_no (fun hp => by have := hp.ml; have := HZL.out; have := HML.out; omega)])
    have t : ((m : Int) != (r : Int)) = true := by simp; omega
    go_enter Try.func149, Try.ntmps149
    go_wp2_with fail
    rw [← HEQ.out]
    go_ret
    exact ⟨ret_bool R.out, B.out⟩
  subst k3
  obtain ⟨g0, o0, rfl, hg0, hz⟩ := rows_cellsU H'.out.1 HZL.out (by omega)
  obtain ⟨g1, o1, rfl, hg1, hmm⟩ := rows_cellsU H'.out.2 HML.out (by omega)
  have HZ := Lib.hid hz; have HM := Lib.hid hmm
  have hlo : 1 ≤ m := by omega
  have hhi : m ≤ 6 := by omega
  have t0 : ((m : Int) != (m : Int)) = false := by simp
  clear hz hmm
  go_enter Try.func149, Try.ntmps149
  go_wp2_with fail
  rw [← HEQ.out]
  clear x0 x1 x4
  go_loopw [25] (fun vi wr => ∃ i : Nat, i ≤ m ∧ vi = .int .i64 i ∧ Hid (∀ j, j < i → brB (bt Z j) = true ∧ (M.getD j []).length = m) ∧ Hid (UBox wr w.heap.size (.slice (some ⟨g0, o0, none⟩) m c0) (.slice (some ⟨g1, o1, none⟩) m c1)) ∧ Hid (Below w.heap.size w wr)) (fun vi _ => m - (intOf vi).toNat)
  case atStart => exact ⟨0, by omega, rfl, Lib.hid (fun j hj => by omega), HX, B⟩
  case round =>
    obtain ⟨i, hi, rfl, hdone, hX, hB⟩ := hrel
    by_cases him : i < m
    · obtain ⟨u, hcu, hru⟩ := HZ.out i him
      obtain ⟨u2, hcu2, hru2⟩ := HM.out i him
      obtain ⟨A2, n2, c2, e2, hn2⟩ : ∃ A2 n2 c2, u2 = .slice A2 n2 c2 ∧ (M.getD i []).length = n2 := by obtain ⟨A2, c2, rfl, _⟩ := hru2; exact ⟨A2, _, c2, rfl, rfl⟩
      subst e2
      obtain ⟨A3, n3, c3, e3⟩ : ∃ A3 n3 c3, u = .slice A3 n3 c3 := by obtain ⟨A3, c3, rfl, _⟩ := hru; exact ⟨A3, _, c3, rfl⟩
      subst e3
      have HN2 := Lib.hid hn2
      have hlm : n2 ≤ 1048576 := by have : lens M i ≤ 1048576 := HI.out.ml i; unfold lens at this; omega
      have him2 : (i : Int) < (m : Int) := by omega
      have x0 := hX.out.c0; have x1 := hX.out.c1; have x4 := hX.out.lt
      have d0 : wr.cell? ⟨g0, o0 + i, none⟩ = some (.slice A3 n3 c3) := by rw [hB.out.cell (p := ⟨g0, o0 + i, none⟩) hg0]; exact hcu
      obtain ⟨W1, HE1⟩ : ∃ V, V = wr.alloc (.cells #[.slice A3 n3 c3] 28) := ⟨_, rfl⟩
      have hb1 : Below wr.heap.size wr W1 := by rw [HE1]; exact below_box2 _ _
      have hbx : BoxI W1 wr.heap.size (.slice A3 n3 c3) := by rw [HE1]; exact BoxI.new _ _ _
      have HX1 := Lib.hid (hX.out.stay hb1)
      have HB1 := Lib.hid (hB.out.trans (hb1.mono hB.out.size))
      have HR1 := Lib.hid ((hru.below HB1.out).more HB1.out.size)
      have HEQ1 := Lib.hid HE1; have HBX := Lib.hid hbx
      have y0 := hbx.1; have y4 := hbx.2
      have HC2 := Lib.hid hcu2
      clear hru hru2 hcu HE1 hb1 hbx hcu2 hn2
      obtain ⟨bb, hbb⟩ : ∃ b, brB (bt Z i) = b := ⟨_, rfl⟩
      have HBB := Lib.hid hbb
      go_wp2_with fail
      rw [← HEQ1.out]
      refine (implIsBranch_if _ (bt Z i) W1 bb HR1.out (HI.out.bl i) (HI.out.bw (by rw [HZL.out]; exact him)) hbb).mono ?_
      rintro e w2 ⟨rfl, hb2⟩
      clear hbb x0 x1 x4 y0 y4
      have HX2 := Lib.hid (HX1.out.stay hb2)
      have HB2 := Lib.hid (HB1.out.trans (hb2.mono HB1.out.size))
      have x0 := HX2.out.c0; have x1 := HX2.out.c1; have x4 := HX2.out.lt
      have d2 : w2.cell? ⟨g1, o1 + i, none⟩ = some (.slice A2 n2 c2) := by rw [HB2.out.cell (p := ⟨g1, o1 + i, none⟩) hg1]; exact HC2.out
      clear hb2
      cases bb with
      | false =>
        have R : Hid (false = q) := Lib.hid (by rw [HQ.out, prtB_no (fun hp => by have := hp.br i (by rw [HZL.out]; exact him); rw [HBB.out] at this; cases this)])
        go_wp2_with fail
        go_ret
        exact ⟨ret_bool R.out, HB2.out⟩
      | true =>
        by_cases hne : n2 = m
        · subst hne
          have hd2 : Hid (∀ j, j < i + 1 → brB (bt Z j) = true ∧ (M.getD j []).length = n2) := Lib.hid (fun j hj => by
            by_cases e : j = i
            · subst e; exact ⟨HBB.out, HN2.out⟩
            · exact hdone.out j (by omega))
          go_wp2_with fail
          go_roundw
          case rel => exact ⟨i + 1, by omega, by go_num, hd2, HX2, HB2⟩
          case measure => simp [intOf]; omega
        · have t : ((n2 : Int) != (m : Int)) = true := by simp; omega
          have R : Hid (false = q) := Lib.hid (by rw [HQ.out, prtB_no (fun hp => by have h1 := hp.row i (by rw [HZL.out]; exact him); have h2 := HN2.out; have h3 := HZL.out; omega)])
          go_wp2_with fail
          go_ret
          exact ⟨ret_bool R.out, HB2.out⟩
    · obtain rfl : i = m := by omega
      have HP : Hid (CuParts Z M) := Lib.hid ⟨by rw [HZL.out]; exact hlo, by rw [HZL.out]; exact hhi, by rw [HZL.out, HML.out], fun j hj => (hdone.out j (by rw [← HZL.out]; exact hj)).1, fun j hj => by rw [(hdone.out j (by rw [← HZL.out]; exact hj)).2, HZL.out]⟩
      have HRM := Lib.hid (H'.out.2.below hB.out)
      have x0 := hX.out.c0; have x1 := hX.out.c1; have x4 := hX.out.lt
      go_wp2_with fail
      refine (areCommon_any _ M i wr w.heap.size HRM.out HML.out hlo hhi (fun j hj => (hdone.out j hj).2)).mono ?_
      rintro e w2 ⟨rfl, rfl⟩
      have R : Hid (comB M i = q) := Lib.hid (by rw [HQ.out, prtB_yes HP.out, HZL.out])
      go_wp2_with fail
      go_ret
      exact ⟨ret_bool R.out, hB.out⟩

end Go.Proofs.Ytohbgfmjnanlkaa
