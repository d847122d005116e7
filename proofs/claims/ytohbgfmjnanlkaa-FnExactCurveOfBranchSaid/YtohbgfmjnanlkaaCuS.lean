/- Is it a curve, the model's. Conditions: stated at each theorem. -/
import Derived.Test.YtohbgfmjnanlkaaCuR
namespace Go.Proofs.Ytohbgfmjnanlkaa
open Go.ChangeShapes Go.WideShapes Go.ChangeAt Go.RowKit Go.Deep
set_option linter.unusedVariables false
set_option linter.unusedSimpArgs false

set_option maxRecDepth 100000 in
set_option maxHeartbeats 1600000 in
theorem l09Is_any (a b : Value) (Z M : List (List Int)) (w : World) (h : ReadU w w.heap.size a b Z M) (hi : CuIn Z M) :
    Calls Try.prog 91 #[.agg #[a, b]] w fun e w' => e = .returned (.bool (cuB Z M)) ∧ Below w.heap.size w w' := by
  obtain ⟨W0, HE⟩ : ∃ V, V = w.alloc (.cells #[a, b] 56) := ⟨_, rfl⟩
  have hb0 : Below w.heap.size w W0 := by rw [HE]; exact below_box2 _ _
  have hx : UBox W0 w.heap.size a b := by rw [HE]; exact UBox.new _ _ _ _
  have HEQ := Lib.hid HE; have B := Lib.hid hb0; have HX := Lib.hid hx
  have HI := Lib.hid hi
  obtain ⟨q, hq⟩ : ∃ q, q = cuB Z M := ⟨_, rfl⟩
  rw [← hq]
  have HQ := Lib.hid hq
  have H := Lib.hid h
  obtain ⟨⟨A0, c0, rfl, _⟩, ⟨A1, c1, rfl, _⟩⟩ := h
  have hzn := hi.zn; have hmn := hi.mn
  obtain ⟨r, hr⟩ : ∃ r, Z.length = r := ⟨_, rfl⟩
  obtain ⟨m, hm⟩ : ∃ m, M.length = m := ⟨_, rfl⟩
  have HZL := Lib.hid hr; have HML := Lib.hid hm
  rw [hr] at hx hzn HEQ HX
  rw [hm] at hx hmn HEQ HX
  have H' := H
  have e0 : Value.slice A0 Z.length c0 = .slice A0 r c0 := by rw [hr]
  have e1 : Value.slice A1 M.length c1 = .slice A1 m c1 := by rw [hm]
  rw [e0, e1] at H' ⊢
  have x0 := hx.c0; have x1 := hx.c1; have x4 := hx.lt
  clear hx HE hb0 hi hq e0 e1 H hr hm
  by_cases k1 : r < 1
  · have R : Hid (false = q) := Lib.hid (by rw [HQ.out, cuB_false (fun hc => by have hp := hc.parts; have := hp.lo; have := HZL.out; omega)])
    go_enter Try.func91, Try.ntmps91
    go_wp2_with fail
    rw [← HEQ.out]
    go_ret
    exact ⟨ret_bool R.out, B.out⟩
  by_cases k2 : r > 6
  · have R : Hid (false = q) := Lib.hid (by rw [HQ.out, cuB_false (fun hc => by have hp := hc.parts; have := hp.hi; have := HZL.out; omega)])
    go_enter Try.func91, Try.ntmps91
    go_wp2_with fail
    rw [← HEQ.out]
    go_ret
    exact ⟨ret_bool R.out, B.out⟩
  by_cases k3 : m ≠ r
  · have R : Hid (false = q) := Lib.hid (by rw [HQ.out, cuB_false (fun hc => by have hp := hc.parts; have := hp.ml; have := HZL.out; have := HML.out; omega)])
    have t : ((m : Int) != (r : Int)) = true := by simp; omega
    go_enter Try.func91, Try.ntmps91
    go_wp2_with fail
    rw [← HEQ.out]
    go_ret
    exact ⟨ret_bool R.out, B.out⟩
  have k4 : m = r := by omega
  subst k4
  obtain ⟨g0, o0, rfl, hg0, hz⟩ := rows_cellsU H'.out.1 HZL.out (by omega)
  obtain ⟨g1, o1, rfl, hg1, hmm⟩ := rows_cellsU H'.out.2 HML.out (by omega)
  have HZ := Lib.hid hz; have HM := Lib.hid hmm
  have hlo : 1 ≤ m := by omega
  have hhi : m ≤ 6 := by omega
  have t0 : ((m : Int) != (m : Int)) = false := by simp
  clear hz hmm k3
  go_enter Try.func91, Try.ntmps91
  go_wp2_with fail
  rw [← HEQ.out]
  clear x0 x1 x4
  go_loopw [4] (fun vi wr => ∃ i : Nat, i ≤ m ∧ vi = .int .i64 i ∧ Hid (∀ j, j < i → brB (bt Z j) = true ∧ (M.getD j []).length = m) ∧ Hid (UBox wr w.heap.size (.slice (some ⟨g0, o0, none⟩) m c0) (.slice (some ⟨g1, o1, none⟩) m c1)) ∧ Hid (Below w.heap.size w wr)) (fun vi _ => m - (intOf vi).toNat)
  case atStart => exact ⟨0, by omega, rfl, Lib.hid (fun j hj => by omega), HX, B⟩
  case round =>
    obtain ⟨i, hi, rfl, hdone, hX, hB⟩ := hrel
    by_cases him : i < m
    · obtain ⟨u, hcu, hru⟩ := HZ.out i him
      obtain ⟨u2, hcu2, hru2⟩ := HM.out i him
      obtain ⟨A2, n2, c2, e2, hn2⟩ : ∃ A2 n2 c2, u2 = .slice A2 n2 c2 ∧ (M.getD i []).length = n2 := by obtain ⟨A2, c2, rfl, _⟩ := hru2; exact ⟨A2, _, c2, rfl, rfl⟩
      subst e2
      have HN2 := Lib.hid hn2
      have hlm : n2 ≤ 1048576 := by have : lens M i ≤ 1048576 := HI.out.ml i; unfold lens at this; omega
      have him2 : (i : Int) < (m : Int) := by omega
      have x0 := hX.out.c0; have x1 := hX.out.c1; have x4 := hX.out.lt
      have d0 : wr.cell? ⟨g0, o0 + i, none⟩ = some u := by rw [hB.out.cell (p := ⟨g0, o0 + i, none⟩) hg0]; exact hcu
      have HR1 := Lib.hid ((hru.below hB.out).more hB.out.size)
      have HC2 := Lib.hid hcu2
      clear hru hru2 hcu hcu2 hn2
      obtain ⟨bb, hbb⟩ : ∃ b, brB (bt Z i) = b := ⟨_, rfl⟩
      have HBB := Lib.hid hbb
      go_wp2_with fail
      refine (l03Is_if u (bt Z i) wr bb HR1.out (HI.out.bl i) (HI.out.bw (by rw [HZL.out]; exact him)) hbb).mono ?_
      rintro e w2 ⟨rfl, hb2⟩
      clear hbb x0 x1 x4
      have HX2 := Lib.hid (hX.out.stay hb2)
      have HB2 := Lib.hid (hB.out.trans (hb2.mono hB.out.size))
      have x0 := HX2.out.c0; have x1 := HX2.out.c1; have x4 := HX2.out.lt
      have d2 : w2.cell? ⟨g1, o1 + i, none⟩ = some (.slice A2 n2 c2) := by rw [HB2.out.cell (p := ⟨g1, o1 + i, none⟩) hg1]; exact HC2.out
      clear hb2
      cases bb with
      | false =>
        have R : Hid (false = q) := Lib.hid (by rw [HQ.out, cuB_false (fun hc => by have := hc.parts.br i (by rw [HZL.out]; exact him); rw [HBB.out] at this; cases this)])
        go_wp2_with fail
        go_ret
        exact ⟨ret_bool R.out, HB2.out⟩
      | true =>
        by_cases hne : n2 = m
        · subst hne
          have hd2 : Hid (∀ j, j < i + 1 → brB (bt Z j) = true ∧ (M.getD j []).length = n2) := Lib.hid (fun j hj => by
            by_cases e : j = i
            · subst e; exact ⟨HBB.out, HN2.out⟩
            · exact hdone.out j (by omega))
          go_wp2_with fail
          go_roundw
          case rel => exact ⟨i + 1, by omega, by go_num, hd2, HX2, HB2⟩
          case measure => simp [intOf]; omega
        · have t : ((n2 : Int) != (m : Int)) = true := by simp; omega
          have R : Hid (false = q) := Lib.hid (by rw [HQ.out, cuB_false (fun hc => by have h1 := hc.parts.row i (by rw [HZL.out]; exact him); have h2 := HN2.out; have h3 := HZL.out; omega)])
          go_wp2_with fail
          go_ret
          exact ⟨ret_bool R.out, HB2.out⟩
    · obtain rfl : i = m := by omega
      have HP : Hid (CuParts Z M) := Lib.hid ⟨by rw [HZL.out]; exact hlo, by rw [HZL.out]; exact hhi, by rw [HZL.out, HML.out], fun j hj => (hdone.out j (by rw [← HZL.out]; exact hj)).1, fun j hj => by rw [(hdone.out j (by rw [← HZL.out]; exact hj)).2, HZL.out]⟩
      have HC : Hid (∀ j, j < i → ∃ gi oi ci, w.cell? ⟨g1, o1 + j, none⟩ = some (.slice (some ⟨gi, oi, none⟩) i ci) ∧ gi < w.heap.size ∧ ∀ k, k < i → w.cell? ⟨gi, oi + k, none⟩ = some (.int .i64 (mt M j k))) := Lib.hid (fun j hj => by
        obtain ⟨u, hc, hri⟩ := HM.out j hj
        obtain ⟨gi, oi, ci, rfl, hgi, hk⟩ := row_cellsU hri (hdone.out j hj).2 hlo
        exact ⟨gi, oi, ci, hc, hgi, hk⟩)
      have hHU := Lib.hid H'.out.1
      clear hdone HM H'
      generalize i = m at *
      go_wp2_with fail
      go_loopw [5] (fun vi wr => ∃ i : Nat, i ≤ m ∧ vi = .int .i64 i ∧ Hid (∀ j, j < i → ∀ k, k < m → comOK M j k ∧ (j < k → CuPair (bt Z j) (bt Z k) (mt M j k).toNat)) ∧ Hid (UBox wr w.heap.size (.slice (some ⟨g0, o0, none⟩) m c0) (.slice (some ⟨g1, o1, none⟩) m c1)) ∧ Hid (Below w.heap.size w wr)) (fun vi _ => m - (intOf vi).toNat)
      case atStart => exact ⟨0, by omega, rfl, Lib.hid (fun j hj => by omega), hX, hB⟩
      case round =>
        clear hX hB
        obtain ⟨i, hi, rfl, hdi, hX, hB⟩ := hrel
        by_cases him : i < m
        · have him2 : (i : Int) < (m : Int) := by omega
          go_wp2_with fail
          go_loopw [6] (fun vk wr => ∃ k : Nat, k ≤ m ∧ vk = .int .i64 k ∧ Hid (∀ k', k' < k → comOK M i k' ∧ (i < k' → CuPair (bt Z i) (bt Z k') (mt M i k').toNat)) ∧ Hid (UBox wr w.heap.size (.slice (some ⟨g0, o0, none⟩) m c0) (.slice (some ⟨g1, o1, none⟩) m c1)) ∧ Hid (Below w.heap.size w wr)) (fun vk _ => m - (intOf vk).toNat)
          case atStart => exact ⟨0, by omega, rfl, Lib.hid (fun j hj => by omega), hX, hB⟩
          case round =>
            clear hX hB
            obtain ⟨k, hk, rfl, hdk, hX, hB⟩ := hrel
            by_cases hkm : k < m
            · obtain ⟨gi, oi, ci, hci, hgi, hki⟩ := HC.out i him
              obtain ⟨gk, ok, ck, hck, hgk, hkk⟩ := HC.out k hkm
              have hkm2 : (k : Int) < (m : Int) := by omega
              have d1 : wr.cell? ⟨g1, o1 + i, none⟩ = some (.slice (some ⟨gi, oi, none⟩) m ci) := by rw [hB.out.cell (p := ⟨g1, o1 + i, none⟩) hg1]; exact hci
              have d2 : wr.cell? ⟨g1, o1 + k, none⟩ = some (.slice (some ⟨gk, ok, none⟩) m ck) := by rw [hB.out.cell (p := ⟨g1, o1 + k, none⟩) hg1]; exact hck
              have d3 : wr.cell? ⟨gi, oi + k, none⟩ = some (.int .i64 (mt M i k)) := by rw [hB.out.cell (p := ⟨gi, oi + k, none⟩) hgi]; exact hki k hkm
              have d4 : wr.cell? ⟨gk, ok + i, none⟩ = some (.int .i64 (mt M k i)) := by rw [hB.out.cell (p := ⟨gk, ok + i, none⟩) hgk]; exact hkk i him
              have x0 := hX.out.c0; have x1 := hX.out.c1; have x4 := hX.out.lt
              have HNC : Hid (¬ comOK M i k → false = q) := Lib.hid (fun hh => by rw [HQ.out, cuB_false (fun hc => com_not (r := Z.length) (by rw [HZL.out]; exact him) (by rw [HZL.out]; exact hkm) hh hc.com)])
              have HNX : Hid (comOK M i k → (i < k → CuPair (bt Z i) (bt Z k) (mt M i k).toNat) → ∀ k', k' < k + 1 → comOK M i k' ∧ (i < k' → CuPair (bt Z i) (bt Z k') (mt M i k').toNat)) := Lib.hid (fun h1 h2 k' hk' => by
                by_cases e : k' = k
                · subst e; exact ⟨h1, h2⟩
                · exact hdk.out k' (by omega))
              obtain ⟨x, hxe⟩ : ∃ x, mt M i k = x := ⟨_, rfl⟩
              obtain ⟨y, hye⟩ : ∃ y, mt M k i = y := ⟨_, rfl⟩
              have HXC : Hid (comOK M i k ↔ (x = y ∧ (i = k → x = 0) ∧ (i ≠ k → 1 ≤ x ∧ x ≤ 200))) := Lib.hid (by unfold comOK; rw [hxe, hye])
              have HXE := Lib.hid hxe; have HYE := Lib.hid hye
              rw [hxe] at d3
              rw [hye] at d4
              clear hci hck hki hkk hxe hye
              by_cases e2 : i = k
              · have t2 : ((i : Int) == (k : Int)) = true := by simp; omega
                by_cases e3 : x = 0
                · subst e3
                  have hy0 : Hid ((0 : Int) = y) := Lib.hid (by have h1 := HXE.out; have h2 := HYE.out; subst e2; omega)
                  have hd2 := Lib.hid (HNX.out (HXC.out.2 ⟨hy0.out, fun _ => rfl, fun h => absurd e2 h⟩) (fun h => by omega))
                  subst e2
                  have t2' : ((i : Int) == (i : Int)) = true := by simp
                  go_wp2_with fail
                  go_roundw
                  case rel => exact ⟨i + 1, by omega, by go_num, hd2, hX, hB⟩
                  case measure => simp [intOf]; omega
                · have R := Lib.hid (HNC.out (fun hh => e3 ((HXC.out.1 hh).2.1 e2)))
                  have t3 : (x != 0) = true := by simp [e3]
                  subst e2
                  have t2' : ((i : Int) == (i : Int)) = true := by simp
                  go_wp2_with fail
                  go_ret
                  exact ⟨ret_bool R.out, hB.out⟩
              · have t2 : ((i : Int) == (k : Int)) = false := by simp; omega
                by_cases e3 : 1 ≤ x ∧ x ≤ 200
                rotate_left
                · have R := Lib.hid (HNC.out (fun hh => e3 ((HXC.out.1 hh).2.2 e2)))
                  go_wp2_with (go_at_call 60; refine (inN x 1 200 _ e3).mono ?_; rintro e w' ⟨rfl, rfl⟩)
                  go_ret
                  exact ⟨ret_bool R.out, hB.out⟩
                · by_cases e4 : x = y
                  rotate_left
                  · have R := Lib.hid (HNC.out (fun hh => e4 (HXC.out.1 hh).1))
                    have t4 : (x != y) = true := by simp [e4]
                    go_wp2_with (go_at_call 60; refine (inY x 1 200 _ e3.1 e3.2).mono ?_; rintro e w' ⟨rfl, rfl⟩)
                    go_ret
                    exact ⟨ret_bool R.out, hB.out⟩
                  · subst e4
                    have t4 : (x != x) = false := by simp
                    have HCOM := Lib.hid (HXC.out.2 ⟨rfl, fun h => absurd h e2, fun _ => e3⟩)
                    obtain ⟨l, hl⟩ : ∃ l : Nat, x = (l : Int) + 1 := ⟨(x - 1).toNat, by omega⟩
                    subst hl
                    obtain ⟨u3, hcu3, hru3⟩ := HZ.out i him
                    obtain ⟨u4, hcu4, hru4⟩ := HZ.out k hkm
                    obtain ⟨A3, n3, d3', ee3⟩ : ∃ A n c, u3 = .slice A n c := by obtain ⟨A, c, rfl, _⟩ := hru3; exact ⟨A, _, c, rfl⟩
                    obtain ⟨A4, n4, d4', ee4⟩ : ∃ A n c, u4 = .slice A n c := by obtain ⟨A, c, rfl, _⟩ := hru4; exact ⟨A, _, c, rfl⟩
                    subst ee3; subst ee4
                    have b0 : wr.cell? ⟨g0, o0 + i, none⟩ = some (.slice A3 n3 d3') := by rw [hB.out.cell (p := ⟨g0, o0 + i, none⟩) hg0]; exact hcu3
                    have b1 : wr.cell? ⟨g0, o0 + k, none⟩ = some (.slice A4 n4 d4') := by rw [hB.out.cell (p := ⟨g0, o0 + k, none⟩) hg0]; exact hcu4
                    have HRI := Lib.hid ((hru3.below hB.out).more hB.out.size); have HRK := Lib.hid ((hru4.below hB.out).more hB.out.size)
                    have HBI := Lib.hid (HP.out.br i (by rw [HZL.out]; exact him)); have HBK := Lib.hid (HP.out.br k (by rw [HZL.out]; exact hkm))
                    have hg0r : g0 < wr.heap.size := Nat.lt_of_lt_of_le hg0 hB.out.size
                    have hmt : Hid ((mt M i k).toNat = l + 1) := Lib.hid (by rw [HXE.out]; omega)
                    clear hcu3 hcu4 hru3 hru4
                    by_cases hik : i < k
                    · have t5 : (i : Int) < (k : Int) := by omega
                      by_cases hcp : CuPair (bt Z i) (bt Z k) (l + 1)
                      · obtain ⟨bb, hbe⟩ : ∃ b, b = true := ⟨_, rfl⟩
                        have HBB : Hid (bb = true ↔ CuPair (bt Z i) (bt Z k) (l + 1)) := Lib.hid ⟨fun _ => hcp, fun _ => hbe⟩
                        have hd2 := Lib.hid (HNX.out HCOM.out (fun _ => by rw [hmt.out]; exact hcp))
                        clear hcp
                        go_wp2_with (go_at_call 60; refine (inY _ 1 200 _ e3.1 e3.2).mono ?_; rintro e w' ⟨rfl, rfl⟩)
                        refine wp_region_held_drew (S := fun w' => w'.cell? ⟨w.heap.size, 0, none⟩ = some (.slice (some ⟨g0, o0, none⟩) m c0) ∧ w'.cell? ⟨g0, o0 + i, none⟩ = some (.slice A3 n3 d3') ∧ w'.cell? ⟨g0, o0 + k, none⟩ = some (.slice A4 n4 d4')) (by kernel_rfl) ⟨x0, b0, b1⟩ (fun hHeld => ?_)
                        refine takeY 0 _ (v := ?_) rfl rfl (by kernel_rfl) (by kernel_rfl) (by kernel_rfl) (fun _ _ _ h => h) (by kernel_rfl) ?_ (by assumption) ?_
                        rotate_left 1
                        · intro w hSw; (try dsimp only at hSw); go_simp; (try with_reducible rfl)
                        try simp only [Act.put, List.setIfInBounds_toArray, List.set_cons_zero, List.set_cons_succ]
                        refine takeY 1 _ (v := ?_) rfl rfl (by kernel_rfl) (by kernel_rfl) (by kernel_rfl) (fun _ _ _ h => h) (by kernel_rfl) ?_ (by assumption) ?_
                        rotate_left 1
                        · intro w hSw; (try dsimp only at hSw); go_simp; (try with_reducible rfl)
                        try simp only [Act.put, List.setIfInBounds_toArray, List.set_cons_zero, List.set_cons_succ]
                        refine takeY 2 _ (v := .bool true) rfl rfl (by kernel_rfl) (by kernel_rfl) (by kernel_rfl) (fun _ _ _ h => h) (by kernel_rfl) ?_ (by assumption) ?_
                        · intro w hSw; (try dsimp only at hSw); go_simp; (try with_reducible rfl)
                        try simp only [Act.put, List.setIfInBounds_toArray, List.set_cons_zero, List.set_cons_succ]
                        refine takeY 3 _ (v := .bool true) rfl rfl (by kernel_rfl) (by kernel_rfl) (by kernel_rfl) (fun _ _ _ h => h) (by kernel_rfl) ?_ (by assumption) ?_
                        · intro w hSw; (try dsimp only at hSw); go_simp; (try with_reducible rfl)
                        try simp only [Act.put, List.setIfInBounds_toArray, List.set_cons_zero, List.set_cons_succ]
                        refine takeY 4 _ (v := ?_) rfl rfl (by kernel_rfl) (by kernel_rfl) (by kernel_rfl) (fun _ _ _ h => h) (by kernel_rfl) ?_ (by assumption) ?_
                        rotate_left 1
                        · intro w hSw; (try dsimp only at hSw); go_simp; (try with_reducible rfl)
                        try simp only [Act.put, List.setIfInBounds_toArray, List.set_cons_zero, List.set_cons_succ]
                        refine takeY 5 _ (v := ?_) rfl rfl (by kernel_rfl) (by kernel_rfl) (by kernel_rfl) (fun _ _ _ h => h) (by kernel_rfl) ?_ (by assumption) ?_
                        rotate_left 1
                        · intro w hSw; (try dsimp only at hSw); go_simp; (try with_reducible rfl)
                        try simp only [Act.put, List.setIfInBounds_toArray, List.set_cons_zero, List.set_cons_succ]
                        refine takeY 6 _ (v := ?_) rfl rfl (by kernel_rfl) (by kernel_rfl) (by kernel_rfl) (fun _ _ _ h => h) (by kernel_rfl) ?_ (by assumption) ?_
                        rotate_left 1
                        · intro w hSw; (try dsimp only at hSw); go_simp; (try with_reducible rfl)
                        try simp only [Act.put, List.setIfInBounds_toArray, List.set_cons_zero, List.set_cons_succ]
                        refine takeY 7 _ (v := ?_) rfl rfl (by kernel_rfl) (by kernel_rfl) (by kernel_rfl) (fun _ _ _ h => h) (by kernel_rfl) ?_ (by assumption) ?_
                        rotate_left 1
                        · intro w hSw; (try dsimp only at hSw); go_simp; (try with_reducible rfl)
                        try simp only [Act.put, List.setIfInBounds_toArray, List.set_cons_zero, List.set_cons_succ]
                        refine takeY 8 _ (v := ?_) rfl rfl (by kernel_rfl) (by kernel_rfl) (by kernel_rfl) (fun _ _ _ h => h) (by kernel_rfl) ?_ (by assumption) ?_
                        rotate_left 1
                        · intro w hSw; (try dsimp only at hSw); go_simp; (try with_reducible rfl)
                        try simp only [Act.put, List.setIfInBounds_toArray, List.set_cons_zero, List.set_cons_succ]
                        refine takeY 9 _ (v := ?_) rfl rfl (by kernel_rfl) (by kernel_rfl) (by kernel_rfl) (fun _ _ _ h => h) (by kernel_rfl) ?_ (by assumption) ?_
                        rotate_left 1
                        · intro w hSw; (try dsimp only at hSw); go_simp; (try with_reducible rfl)
                        try simp only [Act.put, List.setIfInBounds_toArray, List.set_cons_zero, List.set_cons_succ]
                        refine takeY 10 _ (v := ?_) rfl rfl (by kernel_rfl) (by kernel_rfl) (by kernel_rfl) (fun _ _ _ h => h) (by kernel_rfl) ?_ (by assumption) ?_
                        rotate_left 1
                        · intro w hSw; (try dsimp only at hSw); go_simp; (try with_reducible rfl)
                        try simp only [Act.put, List.setIfInBounds_toArray, List.set_cons_zero, List.set_cons_succ]
                        refine takeY 11 _ (v := ?_) rfl rfl (by kernel_rfl) (by kernel_rfl) (by kernel_rfl) (fun _ _ _ h => h) (by kernel_rfl) ?_ (by assumption) ?_
                        rotate_left 1
                        · intro w hSw; (try dsimp only at hSw); go_simp; (try with_reducible rfl)
                        try simp only [Act.put, List.setIfInBounds_toArray, List.set_cons_zero, List.set_cons_succ]
                        refine takeY 12 _ (v := ?_) rfl rfl (by kernel_rfl) (by kernel_rfl) (by kernel_rfl) (fun _ _ _ h => h) (by kernel_rfl) ?_ (by assumption) ?_
                        rotate_left 1
                        · intro w hSw; (try dsimp only at hSw); go_simp; (try with_reducible rfl)
                        try simp only [Act.put, List.setIfInBounds_toArray, List.set_cons_zero, List.set_cons_succ]
                        refine takeY 13 _ (v := ?_) rfl rfl (by kernel_rfl) (by kernel_rfl) (by kernel_rfl) (fun _ _ _ h => h) (by kernel_rfl) ?_ (by assumption) ?_
                        rotate_left 1
                        · intro w hSw; (try dsimp only at hSw); go_simp; (try with_reducible rfl)
                        try simp only [Act.put, List.setIfInBounds_toArray, List.set_cons_zero, List.set_cons_succ]
                        refine takeY 14 _ (v := ?_) rfl rfl (by kernel_rfl) (by kernel_rfl) (by kernel_rfl) (fun _ _ _ h => h) (by kernel_rfl) ?_ (by assumption) ?_
                        rotate_left 1
                        · intro w hSw; (try dsimp only at hSw); go_simp; (try with_reducible rfl)
                        try simp only [Act.put, List.setIfInBounds_toArray, List.set_cons_zero, List.set_cons_succ]
                        refine wpAnyH_ready (rs := [15]) (by kernel_rfl) (by simp) ?_
                        refine AllReadyH.cons rfl (fun K hK => ?_) AllReadyH.nil
                        go_simp
                        refine (l09Pair_any _ _ (bt Z i) (bt Z k) l bb wr.drew (by exact HRI.out) (by exact HRK.out) (HI.out.bl i) (HI.out.bl k) HBI.out HBK.out (by omega) HBB.out).mono ?_
                        rintro e w2 ⟨rfl, hbb⟩
                        have HB2 : Hid (Below wr.heap.size wr w2) := Lib.hid ((drewN_below wr 1).trans (by exact hbb))
                        clear hbb
                        refine hK.out _ w2 ⟨(hX.out.stay HB2.out).c0, (by rw [HB2.out.cell (p := ⟨g0, o0 + i, none⟩) hg0r]; exact b0), (by rw [HB2.out.cell (p := ⟨g0, o0 + k, none⟩) hg0r]; exact b1)⟩ (fun hHeld => ?_)
                        clear hK K
                        try simp only [Act.put, List.setIfInBounds_toArray, List.set_cons_zero, List.set_cons_succ]
                        refine takeY 16 _ (v := ?_) rfl rfl (by kernel_rfl) (by kernel_rfl) (by kernel_rfl) (fun _ _ _ h => h) (by kernel_rfl) ?_ (by assumption) ?_
                        rotate_left 1
                        · intro w hSw; (try dsimp only at hSw); go_simp; (try with_reducible rfl)
                        try simp only [Act.put, List.setIfInBounds_toArray, List.set_cons_zero, List.set_cons_succ]
                        refine takeY 17 _ (v := .bool (!bb)) rfl rfl (by kernel_rfl) (by kernel_rfl) (by kernel_rfl) (fun _ _ _ h => h) (by kernel_rfl) ?_ (by assumption) ?_
                        · intro w hSw; (try dsimp only at hSw); go_simp; (try with_reducible rfl)
                        try simp only [Act.put, List.setIfInBounds_toArray, List.set_cons_zero, List.set_cons_succ]
                        refine takeY 18 _ (v := ?_) rfl rfl (by kernel_rfl) (by kernel_rfl) (by kernel_rfl) (fun _ _ _ h => h) (by kernel_rfl) ?_ (by assumption) ?_
                        rotate_left 1
                        · intro w hSw; (try dsimp only at hSw); go_simp; (try with_reducible rfl)
                        try simp only [Act.put, List.setIfInBounds_toArray, List.set_cons_zero, List.set_cons_succ]
                        refine wpAnyH_done (by kernel_rfl) ?_ _
                        subst hbe
                        go_wp2_with fail
                        go_roundw
                        case rel => exact ⟨k + 1, by omega, by go_num, hd2, Lib.hid (hX.out.stay HB2.out), Lib.hid (hB.out.trans (HB2.out.mono hB.out.size))⟩
                        case measure => simp [intOf]; omega
                      · obtain ⟨bb, hbe⟩ : ∃ b, b = false := ⟨_, rfl⟩
                        have HBB : Hid (bb = true ↔ CuPair (bt Z i) (bt Z k) (l + 1)) := Lib.hid ⟨fun h => (by rw [hbe] at h; cases h), fun h => absurd h hcp⟩
                        have R : Hid (false = q) := Lib.hid (by rw [HQ.out, cuB_false (fun hc => hcp (by have := hc.pair i k hik (by rw [HZL.out]; exact hkm); rw [hmt.out] at this; exact this))])
                        clear hcp
                        go_wp2_with (go_at_call 60; refine (inY _ 1 200 _ e3.1 e3.2).mono ?_; rintro e w' ⟨rfl, rfl⟩)
                        refine wp_region_held_drew (S := fun w' => w'.cell? ⟨w.heap.size, 0, none⟩ = some (.slice (some ⟨g0, o0, none⟩) m c0) ∧ w'.cell? ⟨g0, o0 + i, none⟩ = some (.slice A3 n3 d3') ∧ w'.cell? ⟨g0, o0 + k, none⟩ = some (.slice A4 n4 d4')) (by kernel_rfl) ⟨x0, b0, b1⟩ (fun hHeld => ?_)
                        refine takeY 0 _ (v := ?_) rfl rfl (by kernel_rfl) (by kernel_rfl) (by kernel_rfl) (fun _ _ _ h => h) (by kernel_rfl) ?_ (by assumption) ?_
                        rotate_left 1
                        · intro w hSw; (try dsimp only at hSw); go_simp; (try with_reducible rfl)
                        try simp only [Act.put, List.setIfInBounds_toArray, List.set_cons_zero, List.set_cons_succ]
                        refine takeY 1 _ (v := ?_) rfl rfl (by kernel_rfl) (by kernel_rfl) (by kernel_rfl) (fun _ _ _ h => h) (by kernel_rfl) ?_ (by assumption) ?_
                        rotate_left 1
                        · intro w hSw; (try dsimp only at hSw); go_simp; (try with_reducible rfl)
                        try simp only [Act.put, List.setIfInBounds_toArray, List.set_cons_zero, List.set_cons_succ]
                        refine takeY 2 _ (v := .bool true) rfl rfl (by kernel_rfl) (by kernel_rfl) (by kernel_rfl) (fun _ _ _ h => h) (by kernel_rfl) ?_ (by assumption) ?_
                        · intro w hSw; (try dsimp only at hSw); go_simp; (try with_reducible rfl)
                        try simp only [Act.put, List.setIfInBounds_toArray, List.set_cons_zero, List.set_cons_succ]
                        refine takeY 3 _ (v := .bool true) rfl rfl (by kernel_rfl) (by kernel_rfl) (by kernel_rfl) (fun _ _ _ h => h) (by kernel_rfl) ?_ (by assumption) ?_
                        · intro w hSw; (try dsimp only at hSw); go_simp; (try with_reducible rfl)
                        try simp only [Act.put, List.setIfInBounds_toArray, List.set_cons_zero, List.set_cons_succ]
                        refine takeY 4 _ (v := ?_) rfl rfl (by kernel_rfl) (by kernel_rfl) (by kernel_rfl) (fun _ _ _ h => h) (by kernel_rfl) ?_ (by assumption) ?_
                        rotate_left 1
                        · intro w hSw; (try dsimp only at hSw); go_simp; (try with_reducible rfl)
                        try simp only [Act.put, List.setIfInBounds_toArray, List.set_cons_zero, List.set_cons_succ]
                        refine takeY 5 _ (v := ?_) rfl rfl (by kernel_rfl) (by kernel_rfl) (by kernel_rfl) (fun _ _ _ h => h) (by kernel_rfl) ?_ (by assumption) ?_
                        rotate_left 1
                        · intro w hSw; (try dsimp only at hSw); go_simp; (try with_reducible rfl)
                        try simp only [Act.put, List.setIfInBounds_toArray, List.set_cons_zero, List.set_cons_succ]
                        refine takeY 6 _ (v := ?_) rfl rfl (by kernel_rfl) (by kernel_rfl) (by kernel_rfl) (fun _ _ _ h => h) (by kernel_rfl) ?_ (by assumption) ?_
                        rotate_left 1
                        · intro w hSw; (try dsimp only at hSw); go_simp; (try with_reducible rfl)
                        try simp only [Act.put, List.setIfInBounds_toArray, List.set_cons_zero, List.set_cons_succ]
                        refine takeY 7 _ (v := ?_) rfl rfl (by kernel_rfl) (by kernel_rfl) (by kernel_rfl) (fun _ _ _ h => h) (by kernel_rfl) ?_ (by assumption) ?_
                        rotate_left 1
                        · intro w hSw; (try dsimp only at hSw); go_simp; (try with_reducible rfl)
                        try simp only [Act.put, List.setIfInBounds_toArray, List.set_cons_zero, List.set_cons_succ]
                        refine takeY 8 _ (v := ?_) rfl rfl (by kernel_rfl) (by kernel_rfl) (by kernel_rfl) (fun _ _ _ h => h) (by kernel_rfl) ?_ (by assumption) ?_
                        rotate_left 1
                        · intro w hSw; (try dsimp only at hSw); go_simp; (try with_reducible rfl)
                        try simp only [Act.put, List.setIfInBounds_toArray, List.set_cons_zero, List.set_cons_succ]
                        refine takeY 9 _ (v := ?_) rfl rfl (by kernel_rfl) (by kernel_rfl) (by kernel_rfl) (fun _ _ _ h => h) (by kernel_rfl) ?_ (by assumption) ?_
                        rotate_left 1
                        · intro w hSw; (try dsimp only at hSw); go_simp; (try with_reducible rfl)
                        try simp only [Act.put, List.setIfInBounds_toArray, List.set_cons_zero, List.set_cons_succ]
                        refine takeY 10 _ (v := ?_) rfl rfl (by kernel_rfl) (by kernel_rfl) (by kernel_rfl) (fun _ _ _ h => h) (by kernel_rfl) ?_ (by assumption) ?_
                        rotate_left 1
                        · intro w hSw; (try dsimp only at hSw); go_simp; (try with_reducible rfl)
                        try simp only [Act.put, List.setIfInBounds_toArray, List.set_cons_zero, List.set_cons_succ]
                        refine takeY 11 _ (v := ?_) rfl rfl (by kernel_rfl) (by kernel_rfl) (by kernel_rfl) (fun _ _ _ h => h) (by kernel_rfl) ?_ (by assumption) ?_
                        rotate_left 1
                        · intro w hSw; (try dsimp only at hSw); go_simp; (try with_reducible rfl)
                        try simp only [Act.put, List.setIfInBounds_toArray, List.set_cons_zero, List.set_cons_succ]
                        refine takeY 12 _ (v := ?_) rfl rfl (by kernel_rfl) (by kernel_rfl) (by kernel_rfl) (fun _ _ _ h => h) (by kernel_rfl) ?_ (by assumption) ?_
                        rotate_left 1
                        · intro w hSw; (try dsimp only at hSw); go_simp; (try with_reducible rfl)
                        try simp only [Act.put, List.setIfInBounds_toArray, List.set_cons_zero, List.set_cons_succ]
                        refine takeY 13 _ (v := ?_) rfl rfl (by kernel_rfl) (by kernel_rfl) (by kernel_rfl) (fun _ _ _ h => h) (by kernel_rfl) ?_ (by assumption) ?_
                        rotate_left 1
                        · intro w hSw; (try dsimp only at hSw); go_simp; (try with_reducible rfl)
                        try simp only [Act.put, List.setIfInBounds_toArray, List.set_cons_zero, List.set_cons_succ]
                        refine takeY 14 _ (v := ?_) rfl rfl (by kernel_rfl) (by kernel_rfl) (by kernel_rfl) (fun _ _ _ h => h) (by kernel_rfl) ?_ (by assumption) ?_
                        rotate_left 1
                        · intro w hSw; (try dsimp only at hSw); go_simp; (try with_reducible rfl)
                        try simp only [Act.put, List.setIfInBounds_toArray, List.set_cons_zero, List.set_cons_succ]
                        refine wpAnyH_ready (rs := [15]) (by kernel_rfl) (by simp) ?_
                        refine AllReadyH.cons rfl (fun K hK => ?_) AllReadyH.nil
                        go_simp
                        refine (l09Pair_any _ _ (bt Z i) (bt Z k) l bb wr.drew (by exact HRI.out) (by exact HRK.out) (HI.out.bl i) (HI.out.bl k) HBI.out HBK.out (by omega) HBB.out).mono ?_
                        rintro e w2 ⟨rfl, hbb⟩
                        have HB2 : Hid (Below wr.heap.size wr w2) := Lib.hid ((drewN_below wr 1).trans (by exact hbb))
                        clear hbb
                        refine hK.out _ w2 ⟨(hX.out.stay HB2.out).c0, (by rw [HB2.out.cell (p := ⟨g0, o0 + i, none⟩) hg0r]; exact b0), (by rw [HB2.out.cell (p := ⟨g0, o0 + k, none⟩) hg0r]; exact b1)⟩ (fun hHeld => ?_)
                        clear hK K
                        try simp only [Act.put, List.setIfInBounds_toArray, List.set_cons_zero, List.set_cons_succ]
                        refine takeY 16 _ (v := ?_) rfl rfl (by kernel_rfl) (by kernel_rfl) (by kernel_rfl) (fun _ _ _ h => h) (by kernel_rfl) ?_ (by assumption) ?_
                        rotate_left 1
                        · intro w hSw; (try dsimp only at hSw); go_simp; (try with_reducible rfl)
                        try simp only [Act.put, List.setIfInBounds_toArray, List.set_cons_zero, List.set_cons_succ]
                        refine takeY 17 _ (v := .bool (!bb)) rfl rfl (by kernel_rfl) (by kernel_rfl) (by kernel_rfl) (fun _ _ _ h => h) (by kernel_rfl) ?_ (by assumption) ?_
                        · intro w hSw; (try dsimp only at hSw); go_simp; (try with_reducible rfl)
                        try simp only [Act.put, List.setIfInBounds_toArray, List.set_cons_zero, List.set_cons_succ]
                        refine takeY 18 _ (v := ?_) rfl rfl (by kernel_rfl) (by kernel_rfl) (by kernel_rfl) (fun _ _ _ h => h) (by kernel_rfl) ?_ (by assumption) ?_
                        rotate_left 1
                        · intro w hSw; (try dsimp only at hSw); go_simp; (try with_reducible rfl)
                        try simp only [Act.put, List.setIfInBounds_toArray, List.set_cons_zero, List.set_cons_succ]
                        refine wpAnyH_done (by kernel_rfl) ?_ _
                        subst hbe
                        go_wp2_with fail
                        go_ret
                        exact ⟨ret_bool R.out, hB.out.trans (HB2.out.mono hB.out.size)⟩
                    · have t5 : ¬ (i : Int) < (k : Int) := by omega
                      have hd2 := Lib.hid (HNX.out HCOM.out (fun h => absurd h hik))
                      go_wp2_with (go_at_call 60; refine (inY _ 1 200 _ e3.1 e3.2).mono ?_; rintro e w' ⟨rfl, rfl⟩)
                      refine wp_region_held_drew (S := fun w' => w'.cell? ⟨w.heap.size, 0, none⟩ = some (.slice (some ⟨g0, o0, none⟩) m c0) ∧ w'.cell? ⟨g0, o0 + i, none⟩ = some (.slice A3 n3 d3') ∧ w'.cell? ⟨g0, o0 + k, none⟩ = some (.slice A4 n4 d4')) (by kernel_rfl) ⟨x0, b0, b1⟩ (fun hHeld => ?_)
                      refine takeY 0 _ (v := ?_) rfl rfl (by kernel_rfl) (by kernel_rfl) (by kernel_rfl) (fun _ _ _ h => h) (by kernel_rfl) ?_ (by assumption) ?_
                      rotate_left 1
                      · intro w hSw; (try dsimp only at hSw); go_simp; (try with_reducible rfl)
                      try simp only [Act.put, List.setIfInBounds_toArray, List.set_cons_zero, List.set_cons_succ]
                      refine takeY 1 _ (v := ?_) rfl rfl (by kernel_rfl) (by kernel_rfl) (by kernel_rfl) (fun _ _ _ h => h) (by kernel_rfl) ?_ (by assumption) ?_
                      rotate_left 1
                      · intro w hSw; (try dsimp only at hSw); go_simp; (try with_reducible rfl)
                      try simp only [Act.put, List.setIfInBounds_toArray, List.set_cons_zero, List.set_cons_succ]
                      refine takeY 2 _ (v := .bool false) rfl rfl (by kernel_rfl) (by kernel_rfl) (by kernel_rfl) (fun _ _ _ h => h) (by kernel_rfl) ?_ (by assumption) ?_
                      · intro w hSw; (try dsimp only at hSw); go_simp; (try with_reducible rfl)
                      try simp only [Act.put, List.setIfInBounds_toArray, List.set_cons_zero, List.set_cons_succ]
                      refine takeY 3 _ (v := .bool false) rfl rfl (by kernel_rfl) (by kernel_rfl) (by kernel_rfl) (fun _ _ _ h => h) (by kernel_rfl) ?_ (by assumption) ?_
                      · intro w hSw; (try dsimp only at hSw); go_simp; (try with_reducible rfl)
                      try simp only [Act.put, List.setIfInBounds_toArray, List.set_cons_zero, List.set_cons_succ]
                      refine takeN 4 _ rfl rfl (by kernel_rfl) (by kernel_rfl) (by kernel_rfl) (fun _ _ _ h => h) (by kernel_rfl) (by assumption) ?_
                      try simp only [Act.put, List.setIfInBounds_toArray, List.set_cons_zero, List.set_cons_succ]
                      refine takeN 5 _ rfl rfl (by kernel_rfl) (by kernel_rfl) (by kernel_rfl) (fun _ _ _ h => h) (by kernel_rfl) (by assumption) ?_
                      try simp only [Act.put, List.setIfInBounds_toArray, List.set_cons_zero, List.set_cons_succ]
                      refine takeN 6 _ rfl rfl (by kernel_rfl) (by kernel_rfl) (by kernel_rfl) (fun _ _ _ h => h) (by kernel_rfl) (by assumption) ?_
                      try simp only [Act.put, List.setIfInBounds_toArray, List.set_cons_zero, List.set_cons_succ]
                      refine takeN 7 _ rfl rfl (by kernel_rfl) (by kernel_rfl) (by kernel_rfl) (fun _ _ _ h => h) (by kernel_rfl) (by assumption) ?_
                      try simp only [Act.put, List.setIfInBounds_toArray, List.set_cons_zero, List.set_cons_succ]
                      refine takeN 8 _ rfl rfl (by kernel_rfl) (by kernel_rfl) (by kernel_rfl) (fun _ _ _ h => h) (by kernel_rfl) (by assumption) ?_
                      try simp only [Act.put, List.setIfInBounds_toArray, List.set_cons_zero, List.set_cons_succ]
                      refine takeN 9 _ rfl rfl (by kernel_rfl) (by kernel_rfl) (by kernel_rfl) (fun _ _ _ h => h) (by kernel_rfl) (by assumption) ?_
                      try simp only [Act.put, List.setIfInBounds_toArray, List.set_cons_zero, List.set_cons_succ]
                      refine takeN 10 _ rfl rfl (by kernel_rfl) (by kernel_rfl) (by kernel_rfl) (fun _ _ _ h => h) (by kernel_rfl) (by assumption) ?_
                      try simp only [Act.put, List.setIfInBounds_toArray, List.set_cons_zero, List.set_cons_succ]
                      refine takeN 11 _ rfl rfl (by kernel_rfl) (by kernel_rfl) (by kernel_rfl) (fun _ _ _ h => h) (by kernel_rfl) (by assumption) ?_
                      try simp only [Act.put, List.setIfInBounds_toArray, List.set_cons_zero, List.set_cons_succ]
                      refine takeN 12 _ rfl rfl (by kernel_rfl) (by kernel_rfl) (by kernel_rfl) (fun _ _ _ h => h) (by kernel_rfl) (by assumption) ?_
                      try simp only [Act.put, List.setIfInBounds_toArray, List.set_cons_zero, List.set_cons_succ]
                      refine takeN 13 _ rfl rfl (by kernel_rfl) (by kernel_rfl) (by kernel_rfl) (fun _ _ _ h => h) (by kernel_rfl) (by assumption) ?_
                      try simp only [Act.put, List.setIfInBounds_toArray, List.set_cons_zero, List.set_cons_succ]
                      refine takeN 14 _ rfl rfl (by kernel_rfl) (by kernel_rfl) (by kernel_rfl) (fun _ _ _ h => h) (by kernel_rfl) (by assumption) ?_
                      try simp only [Act.put, List.setIfInBounds_toArray, List.set_cons_zero, List.set_cons_succ]
                      refine takeN 15 _ rfl rfl (by kernel_rfl) (by kernel_rfl) (by kernel_rfl) (fun _ _ _ h => h) (by kernel_rfl) (by assumption) ?_
                      try simp only [Act.put, List.setIfInBounds_toArray, List.set_cons_zero, List.set_cons_succ]
                      refine takeN 16 _ rfl rfl (by kernel_rfl) (by kernel_rfl) (by kernel_rfl) (fun _ _ _ h => h) (by kernel_rfl) (by assumption) ?_
                      try simp only [Act.put, List.setIfInBounds_toArray, List.set_cons_zero, List.set_cons_succ]
                      refine takeY 17 _ (v := .bool false) rfl rfl (by kernel_rfl) (by kernel_rfl) (by kernel_rfl) (fun _ _ _ h => h) (by kernel_rfl) ?_ (by assumption) ?_
                      · intro w hSw; (try dsimp only at hSw); go_simp; (try with_reducible rfl)
                      try simp only [Act.put, List.setIfInBounds_toArray, List.set_cons_zero, List.set_cons_succ]
                      refine takeY 18 _ (v := ?_) rfl rfl (by kernel_rfl) (by kernel_rfl) (by kernel_rfl) (fun _ _ _ h => h) (by kernel_rfl) ?_ (by assumption) ?_
                      rotate_left 1
                      · intro w hSw; (try dsimp only at hSw); go_simp; (try with_reducible rfl)
                      try simp only [Act.put, List.setIfInBounds_toArray, List.set_cons_zero, List.set_cons_succ]
                      refine wpAnyH_done (by kernel_rfl) ?_ _
                      go_wp2_with fail
                      go_roundw
                      case rel => exact ⟨k + 1, by omega, by go_num, hd2, Lib.hid (hX.out.stay (drewN_below wr 1)), Lib.hid (hB.out.trans ((drewN_below wr 1).mono hB.out.size))⟩
                      case measure => simp [intOf]; omega
            · obtain rfl : k = m := by omega
              go_wp2_with fail
              go_roundw
              case rel => exact ⟨i + 1, by omega, by go_num, Lib.hid (fun j hj k' hk' => by
                by_cases e : j = i
                · subst e; exact hdk.out k' hk'
                · exact hdi.out j (by omega) k' hk'), hX, hB⟩
              case measure => simp [intOf]; omega
        · obtain rfl : i = m := by omega
          have HCOM : Hid (CuCom M i) := Lib.hid (com_of (fun j hj k hk => (hdi.out j hj k hk).1))
          have HPR : Hid (∀ j k, j < k → k < i → CuPair (bt Z j) (bt Z k) (mt M j k).toNat) := Lib.hid (fun j k h1 h2 => (hdi.out j (by omega) k h2).2 h1)
          clear hdi
          generalize i = m at *
          go_wp2_with fail
          go_loopw [8] (fun vi wr' => ∃ (i d : Nat), i ≤ m ∧ vi = .int .i64 i ∧ wr' = wr.drewN d ∧ Hid (∀ i', i' < i → ∀ k, k < m → ∀ j, j < m → TR3 M i' k j)) (fun vi _ => m - (intOf vi).toNat)
          case atStart => exact ⟨0, 0, by omega, rfl, rfl, Lib.hid (fun j hj => by omega)⟩
          case round =>
            obtain ⟨i, d, hi, rfl, rfl, hdi⟩ := hrel
            by_cases him : i < m
            · have him2 : (i : Int) < (m : Int) := by omega
              obtain ⟨gi, oi, ci, hci, hgi, hki⟩ := HC.out i him
              go_wp2_with fail
              go_loopw [9] (fun vk wr' => ∃ (k d : Nat), k ≤ m ∧ vk = .int .i64 k ∧ wr' = wr.drewN d ∧ Hid (∀ k', k' < k → ∀ j, j < m → TR3 M i k' j)) (fun vk _ => m - (intOf vk).toNat)
              case atStart => exact ⟨0, d, by omega, rfl, rfl, Lib.hid (fun j hj => by omega)⟩
              case round =>
                obtain ⟨k, d, hk, rfl, rfl, hdk⟩ := hrel
                by_cases hkm : k < m
                · have hkm2 : (k : Int) < (m : Int) := by omega
                  go_wp2_with fail
                  go_loopw [10] (fun vj wr' => ∃ (j d : Nat), j ≤ m ∧ vj = .int .i64 j ∧ wr' = wr.drewN d ∧ Hid (∀ j', j' < j → TR3 M i k j')) (fun vj _ => m - (intOf vj).toNat)
                  case atStart => exact ⟨0, d, by omega, rfl, rfl, Lib.hid (fun j hj => by omega)⟩
                  case round =>
                    obtain ⟨j, d, hj, rfl, rfl, hdj⟩ := hrel
                    by_cases hjm : j < m
                    · have hjm2 : (j : Int) < (m : Int) := by omega
                      obtain ⟨gj, oj, cj, hcj, hgj, hkj⟩ := HC.out j hjm
                      have x1 : wr.cell? ⟨w.heap.size, 1, none⟩ = some (.slice (some ⟨g1, o1, none⟩) m c1) := hX.out.c1
                      have d1 : wr.cell? ⟨g1, o1 + i, none⟩ = some (.slice (some ⟨gi, oi, none⟩) m ci) := by rw [hB.out.cell (p := ⟨g1, o1 + i, none⟩) hg1]; exact hci
                      have d2 : wr.cell? ⟨g1, o1 + j, none⟩ = some (.slice (some ⟨gj, oj, none⟩) m cj) := by rw [hB.out.cell (p := ⟨g1, o1 + j, none⟩) hg1]; exact hcj
                      have d3 : wr.cell? ⟨gi, oi + k, none⟩ = some (.int .i64 (mt M i k)) := by rw [hB.out.cell (p := ⟨gi, oi + k, none⟩) hgi]; exact hki k hkm
                      have d4 : wr.cell? ⟨gi, oi + j, none⟩ = some (.int .i64 (mt M i j)) := by rw [hB.out.cell (p := ⟨gi, oi + j, none⟩) hgi]; exact hki j hjm
                      have d5 : wr.cell? ⟨gj, oj + k, none⟩ = some (.int .i64 (mt M j k)) := by rw [hB.out.cell (p := ⟨gj, oj + k, none⟩) hgj]; exact hkj k hkm
                      have HNX : Hid (TR3 M i k j → ∀ j', j' < j + 1 → TR3 M i k j') := Lib.hid (fun hh j' hj' => by
                        by_cases e : j' = j
                        · subst e; exact hh
                        · exact hdj.out j' (by omega))
                      have HNT : Hid (¬ TR3 M i k j → false = q) := Lib.hid (fun hh => by rw [HQ.out, cuB_false (fun hc => hh (fun h1 h2 h3 => by have := hc.tri i k j (by rw [HZL.out]; exact him) (by rw [HZL.out]; exact hkm) (by rw [HZL.out]; exact hjm) h1 h2 h3; split <;> omega))])
                      have HT3 : Hid (TR3 M i k j ↔ (i ≠ k → i ≠ j → j ≠ k → ¬ (mt M i k < if mt M j k < mt M i j then mt M j k else mt M i j))) := Lib.hid Iff.rfl
                      obtain ⟨x, hxe⟩ : ∃ x, mt M i k = x := ⟨_, rfl⟩
                      obtain ⟨y, hye⟩ : ∃ y, mt M i j = y := ⟨_, rfl⟩
                      obtain ⟨z, hze⟩ : ∃ z, mt M j k = z := ⟨_, rfl⟩
                      rw [hxe] at d3 HT3; rw [hye] at d4 HT3; rw [hze] at d5 HT3
                      clear hcj hkj hxe hye hze
                      by_cases e1 : i = k
                      · have hd2 := Lib.hid (HNX.out (HT3.out.2 (fun h => absurd e1 h)))
                        subst e1
                        have t1 : ((i : Int) != (i : Int)) = false := by simp
                        go_wp2_with fail
                        go_quiet (fail)
                        go_wp2_with fail
                        go_roundw
                        case rel => exact ⟨j + 1, _, by omega, by go_num, (by first | rfl | exact World.drewN_drewN _ _ _), hd2⟩
                        case measure => simp [intOf]; omega
                      · have t1 : ((i : Int) != (k : Int)) = true := by simp; omega
                        by_cases e2 : i = j
                        · have hd2 := Lib.hid (HNX.out (HT3.out.2 (fun _ h => absurd e2 h)))
                          subst e2
                          have t2 : ((i : Int) != (i : Int)) = false := by simp
                          go_wp2_with fail
                          go_quiet (fail)
                          go_wp2_with fail
                          go_roundw
                          case rel => exact ⟨i + 1, _, by omega, by go_num, (by first | rfl | exact World.drewN_drewN _ _ _), hd2⟩
                          case measure => simp [intOf]; omega
                        · have t2 : ((i : Int) != (j : Int)) = true := by simp; omega
                          by_cases e3 : j = k
                          · have hd2 := Lib.hid (HNX.out (HT3.out.2 (fun _ _ h => absurd e3 h)))
                            have t3 : ((j : Int) != (k : Int)) = false := by simp; omega
                            go_wp2_with fail
                            go_quiet (fail)
                            go_wp2_with fail
                            go_roundw
                            case rel => exact ⟨j + 1, _, by omega, by go_num, (by first | rfl | exact World.drewN_drewN _ _ _), hd2⟩
                            case measure => simp [intOf]; omega
                          · have t3 : ((j : Int) != (k : Int)) = true := by simp; omega
                            by_cases e0 : z < y
                            · skip
                              have E0 := Lib.hid e0
                              by_cases e5 : x < z
                              · have R := Lib.hid (HNT.out (fun hh => HT3.out.1 hh e1 e2 e3 (by rw [if_pos e0]; exact e5)))
                                go_wp2_with fail
                                go_quiet (fail)
                                go_wp2_with fail
                                go_ret
                                exact ⟨ret_bool R.out, hB.out.trans (((drewN_below wr d).trans (drewN_below _ _)).mono hB.out.size)⟩
                              · have hd2 := Lib.hid (HNX.out (HT3.out.2 (fun _ _ _ => by rw [if_pos e0]; exact e5)))
                                go_wp2_with fail
                                go_quiet (fail)
                                go_wp2_with fail
                                go_roundw
                                case rel => exact ⟨j + 1, _, by omega, by go_num, (by first | rfl | exact World.drewN_drewN _ _ _), hd2⟩
                                case measure => simp [intOf]; omega
                            · skip
                              have E0 := Lib.hid e0
                              by_cases e5 : x < y
                              · have R := Lib.hid (HNT.out (fun hh => HT3.out.1 hh e1 e2 e3 (by rw [if_neg e0]; exact e5)))
                                go_wp2_with fail
                                go_quiet (fail)
                                go_wp2_with fail
                                go_ret
                                exact ⟨ret_bool R.out, hB.out.trans (((drewN_below wr d).trans (drewN_below _ _)).mono hB.out.size)⟩
                              · have hd2 := Lib.hid (HNX.out (HT3.out.2 (fun _ _ _ => by rw [if_neg e0]; exact e5)))
                                go_wp2_with fail
                                go_quiet (fail)
                                go_wp2_with fail
                                go_roundw
                                case rel => exact ⟨j + 1, _, by omega, by go_num, (by first | rfl | exact World.drewN_drewN _ _ _), hd2⟩
                                case measure => simp [intOf]; omega
                    · obtain rfl : j = m := by omega
                      go_wp2_with fail
                      go_roundw
                      case rel => exact ⟨k + 1, d, by omega, by go_num, rfl, Lib.hid (fun k' hk' j' hj' => by
                        by_cases e : k' = k
                        · subst e; exact hdj.out j' hj'
                        · exact hdk.out k' (by omega) j' hj')⟩
                      case measure => simp [intOf]; omega
                · obtain rfl : k = m := by omega
                  go_wp2_with fail
                  go_roundw
                  case rel => exact ⟨i + 1, d, by omega, by go_num, rfl, Lib.hid (fun i' hi' k' hk' j' hj' => by
                    by_cases e : i' = i
                    · subst e; exact hdk.out k' hk' j' hj'
                    · exact hdi.out i' (by omega) k' hk' j' hj')⟩
                  case measure => simp [intOf]; omega
            · obtain rfl : i = m := by omega
              have R : Hid (true = q) := Lib.hid (by
                rw [HQ.out]
                refine (cuB_true.2 ⟨HP.out, by rw [HZL.out]; exact HCOM.out, fun j k h1 h2 => HPR.out j k h1 (by rw [← HZL.out]; exact h2), fun i' k j h1 h2 h3 h4 h5 h6 => ?_⟩).symm
                rw [HZL.out] at h1 h2 h3
                have := hdi.out i' h1 k h2 j h3 h4 h5 h6
                split at this <;> omega)
              go_wp2_with fail
              go_ret
              exact ⟨ret_bool R.out, hB.out.trans ((drewN_below wr d).mono hB.out.size)⟩

end Go.Proofs.Ytohbgfmjnanlkaa
