/- Delta invariants, Milnor numbers and numbers of blow-ups, the model's: contracts. Conditions: stated at each theorem. -/
import Derived.Test.YtncgkoanckefmaaSqR
import Derived.Test.YtncgkoanckefmaaBrA
import Derived.Test.YtncgkoanckefmaaSqE
namespace Go.Proofs.Ytncgkoanckefmaa
open Go.ChangeShapes Go.WideShapes Go.ChangeAt Go.RowKit Go.Deep
set_option linter.unusedVariables false
set_option linter.unusedSimpArgs false

theorem steps_read {base : Nat} {w2 : World} {L : List (Int × Int)} {A : Option Addr} {n c : Nat} {vf : Nat → Value} (hl : L.length = n) (ho : OwnSS w2 base A n c vf two (fun i => (stF L i).map (.int .i64))) : ∀ i, i < n →
    ∃ go gi ci, A = some ⟨go, 0, none⟩ ∧ go < w2.heap.size ∧ w2.cell? ⟨go, i, none⟩ = some (.slice (some ⟨gi, 0, none⟩) 2 ci) ∧ gi < w2.heap.size ∧ w2.cell? ⟨gi, 0, none⟩ = some (.int .i64 (L[i]?.getD (0, 0)).1) ∧ w2.cell? ⟨gi, 1, none⟩ = some (.int .i64 (L[i]?.getD (0, 0)).2) := by
  intro i hi
  subst hl
  obtain ⟨go, rfl, hlt, hc⟩ := ho.cell hi
  have hin := ho.inner i hi
  rcases hin.2 with ⟨_, e0⟩ | ⟨gi, ci, cur, e, hbi, hgi, _⟩
  · cases e0
  · rw [e] at hc hin
    have hi2 : two i = 2 := rfl
    rw [hi2] at hc hin
    have c0 := World.ownsRow.cellAt hin 0 (by omega)
    have c1 := World.ownsRow.cellAt hin 1 (by omega)
    exact ⟨go, gi, ci, rfl, hlt, hc, (Array.getElem?_eq_some_iff.1 hgi).1, c0, c1⟩
theorem take_next {L : List (Int × Int)} {n j : Nat} (hl : L.length = n) (h : j < n) : L.take (j + 1) = L.take j ++ [L[j]?.getD (0, 0)] := by
  have h6 : j < L.length := by omega
  rw [List.take_add_one]; simp [h6]
theorem take_all {L : List (Int × Int)} {n : Nat} (hl : L.length = n) : L.take n = L := by subst hl; simp
theorem take_ok {L : List (Int × Int)} (h : ∀ p ∈ L, StOK p) (j : Nat) : ∀ p ∈ L.take j, StOK p := fun p hp => h p (List.mem_of_mem_take hp)
theorem at_ok {L : List (Int × Int)} {n j : Nat} (h : ∀ p ∈ L, StOK p) (hl : L.length = n) (hj : j < n) : StOK (L[j]?.getD (0, 0)) := by
  have h6 : j < L.length := by omega
  simp only [List.getElem?_eq_getElem h6, Option.getD_some]
  exact h _ (List.getElem_mem h6)

set_option maxHeartbeats 1000000 in
theorem l04Delta_any (v : Value) (zs : List Int) (w : World) (h : ReadI w w.heap.size v zs) (hn : zs.length ≤ 1048576) (hp : brB zs = true) :
    Calls Try.prog 106 #[.agg #[v]] w fun e w' => e = .returned (.int .i64 (delL (rsS zs))) ∧ Below w.heap.size w w' := by
  obtain ⟨n, A, c, rfl, hr, HL, _, hnc, HF, hcm⟩ := h.split2
  obtain ⟨W0, HE⟩ : ∃ W, W = w.alloc (.cells #[.slice A n c] 28) := ⟨_, rfl⟩
  have hb0 : Below w.heap.size w W0 := by rw [HE]; exact below_box _ _
  have H0 := Lib.hid ((h.below hb0).more hb0.size)
  have HNN := Lib.hid hn
  have HP := Lib.hid hp
  have HEQ := Lib.hid HE
  have HOK := Lib.hid (rsS_ok hp).1
  have HLN := (rsS_ok hp).2
  clear h hr HE HF hn hp
  go_enter Try.func106, Try.ntmps106
  go_wp2_with fail
  rw [← HEQ.out]
  refine (l04Runs_any _ zs _ H0.out HNN.out HP.out).mono ?_
  rintro e w2 ⟨A2, c2, vf, rfl, ho, hb2⟩
  obtain ⟨N, HN⟩ : ∃ N, (rsS zs).length = N := ⟨_, rfl⟩
  have HQ := Lib.hid HN
  rw [HN] at ho HLN ⊢
  have HR := Lib.hid (steps_read HN ho)
  have HB := Lib.hid (hb0.trans (hb2.mono hb0.size))
  clear HN ho hb2 hb0 HEQ
  go_wp2_with fail
  go_loopw [4, 5] (fun vs vi wr => ∃ (j : Nat) (s : Int), j ≤ N ∧ vs = .int .i64 s ∧ vi = .int .i64 j ∧ Hid (delL ((rsS zs).take j) = s) ∧ Hid (Below w2.heap.size w2 wr)) (fun _ vi _ => N - (intOf vi).toNat)
  case atStart => exact ⟨0, 0, by omega, rfl, rfl, Lib.hid rfl, Lib.hid (Below.refl _ _)⟩
  case round =>
    obtain ⟨j, s, hj, rfl, rfl, HS, hb⟩ := hrel
    by_cases hjn : j < N
    · obtain ⟨go, gi, ci, rfl, h1, c1, h2, c3, c4⟩ := HR.out j hjn
      have d1 := (hb.out.cell (p := ⟨go, j, none⟩) h1).trans c1
      have d2 := (hb.out.cell (p := ⟨gi, 0, none⟩) h2).trans c3
      have d3 := (hb.out.cell (p := ⟨gi, 1, none⟩) h2).trans c4
      have hx := at_ok HOK.out HQ.out hjn
      have HS2 : Hid (delL ((rsS zs).take (j + 1)) = s + ((rsS zs)[j]?.getD (0, 0)).1 * (((rsS zs)[j]?.getD (0, 0)).2 * (((rsS zs)[j]?.getD (0, 0)).2 - 1) / 2)) := Lib.hid (by rw [take_next HQ.out hjn, delL_snoc, HS.out])
      have hsb : 0 ≤ s ∧ s ≤ 4032000 * 130000 := by
        have h5 := delL_bound (take_ok HOK.out j)
        rw [HS.out] at h5
        have h6 : ((rsS zs).take j).length ≤ 130000 := by rw [List.length_take]; omega
        omega
      generalize (rsS zs)[j]?.getD (0, 0) = x at d2 d3 hx HS2
      obtain ⟨q, r⟩ := x
      have hd := delP hx
      have hr := halfR hx.2
      obtain ⟨⟨hx1, hx2⟩, hx3, hx4⟩ := hx
      dsimp only at *
      have hjq2 : (j : Int) < (N : Int) := by omega
      clear c1 c3 c4 HS
      go_wp2_with fail
      go_quiet (fail)
      go_wp2_with fail
      go_roundw
      case rel => exact ⟨j + 1, _, by omega, rfl, by go_num, HS2, Lib.hid (below_drewN hb.out _)⟩
      case measure => simp [intOf]; omega
    · obtain rfl : j = N := by omega
      have E : Hid (delL (rsS zs) = s) := Lib.hid (by rw [← HS.out, take_all HQ.out])
      clear HS
      go_wp2
      go_ret
      exact ⟨by rw [E.out]; rfl, HB.out.trans (hb.out.mono HB.out.size)⟩

set_option maxHeartbeats 1000000 in
theorem specDeltaInvariant_any (v : Value) (zs : List Int) (w : World) (h : ReadI w w.heap.size v zs) (hn : zs.length ≤ 1048576) (hw : ∀ z ∈ zs, (Lit.int .i64 z).wf = true) :
    Calls Try.prog 53 #[.agg #[v]] w (AnsII w (dA zs) (sqC zs)) := by
  obtain ⟨n, A, c, rfl, hr, HL, _, hnc, HF, hcm⟩ := h.split2
  obtain ⟨W0, HE⟩ : ∃ W, W = w.alloc (.cells #[.slice A n c] 28) := ⟨_, rfl⟩
  have hb0 : Below w.heap.size w W0 := by rw [HE]; exact below_box _ _
  have hq0 : BoxI W0 w.heap.size (.slice A n c) := by rw [HE]; exact BoxI.new _ _ _
  have H0 := Lib.hid ((h.below hb0).more hb0.size)
  have HNN := Lib.hid hn
  have HWW := Lib.hid hw
  have HEQ := Lib.hid HE
  clear h hr HE HF hn hw
  rcases bool_fs (brB zs) with hp | hp
  · have e1 : Hid (dA zs = 0) := Lib.hid (by simp [dA, hp])
    have e2 : Hid (sqC zs = 1) := Lib.hid (by simp [sqC, hp])
    have HP := Lib.hid hp
    clear hp
    go_enter Try.func53, Try.ntmps53
    go_wp2_with fail
    rw [← HEQ.out]
    refine (l03Is_if _ zs _ false H0.out HNN.out HWW.out HP.out).mono ?_
    rintro e w1 ⟨rfl, hb1⟩
    go_wp2_with fail
    go_ret2
    exact ⟨by rw [e1.out, e2.out]; rfl, hb0.trans (hb1.mono hb0.size)⟩
  · have e1 : Hid (dA zs = delL (rsS zs)) := Lib.hid (by simp [dA, hp, del_eq hp])
    have e2 : Hid (sqC zs = 0) := Lib.hid (by simp [sqC, hp])
    have HP := Lib.hid hp
    have hdb := delL_bound (rsS_ok hp).1
    have hdn := (rsS_ok hp).2
    clear hp
    go_enter Try.func53, Try.ntmps53
    go_wp2_with fail
    rw [← HEQ.out]
    refine (l03Is_if _ zs _ true H0.out HNN.out HWW.out HP.out).mono ?_
    rintro e w1 ⟨rfl, hb1⟩
    have cb1 : w1.cell? ⟨w.heap.size, 0, none⟩ = some (.slice A n c) := by rw [hb1.cell (p := ⟨w.heap.size, 0, none⟩) hq0.2]; exact hq0.1
    have H1 := Lib.hid ((H0.out.below hb1).more hb1.size)
    have B1 := Lib.hid (hb0.trans (hb1.mono hb0.size))
    clear hb1 hb0 HEQ
    go_wp2_with fail
    refine (l04Delta_any _ zs _ H1.out HNN.out HP.out).mono ?_
    rintro e w2 ⟨rfl, hb2⟩
    go_wp2_with fail
    go_ret2
    exact ⟨by rw [e1.out, e2.out]; rfl, B1.out.trans (hb2.mono B1.out.size)⟩

set_option maxHeartbeats 1000000 in
theorem specCountBlowUps_any (v : Value) (zs : List Int) (w : World) (h : ReadI w w.heap.size v zs) (hn : zs.length ≤ 1048576) (hw : ∀ z ∈ zs, (Lit.int .i64 z).wf = true) :
    Calls Try.prog 55 #[.agg #[v]] w (AnsII w (uA zs) (sqC zs)) := by
  obtain ⟨n, A, c, rfl, hr, HL, _, hnc, HF, hcm⟩ := h.split2
  obtain ⟨W0, HE⟩ : ∃ W, W = w.alloc (.cells #[.slice A n c] 28) := ⟨_, rfl⟩
  have hb0 : Below w.heap.size w W0 := by rw [HE]; exact below_box _ _
  have hq0 : BoxI W0 w.heap.size (.slice A n c) := by rw [HE]; exact BoxI.new _ _ _
  have H0 := Lib.hid ((h.below hb0).more hb0.size)
  have HNN := Lib.hid hn
  have HWW := Lib.hid hw
  have HEQ := Lib.hid HE
  clear h hr HE HF hn hw
  rcases bool_fs (brB zs) with hp | hp
  · have e1 : Hid (uA zs = 0) := Lib.hid (by simp [uA, hp])
    have e2 : Hid (sqC zs = 1) := Lib.hid (by simp [sqC, hp])
    have HP := Lib.hid hp
    clear hp
    go_enter Try.func55, Try.ntmps55
    go_wp2_with fail
    rw [← HEQ.out]
    refine (l03Is_if _ zs _ false H0.out HNN.out HWW.out HP.out).mono ?_
    rintro e w1 ⟨rfl, hb1⟩
    go_wp2_with fail
    go_ret2
    exact ⟨by rw [e1.out, e2.out]; rfl, hb0.trans (hb1.mono hb0.size)⟩
  · have e1 : Hid (uA zs = upsL (rsS zs)) := Lib.hid (by simp [uA, hp, ups_eq hp])
    have HOK := Lib.hid (rsS_ok hp).1
    have e2 : Hid (sqC zs = 0) := Lib.hid (by simp [sqC, hp])
    have HP := Lib.hid hp
    have hdb := delL_bound (rsS_ok hp).1
    have hdn := (rsS_ok hp).2
    clear hp
    go_enter Try.func55, Try.ntmps55
    go_wp2_with fail
    rw [← HEQ.out]
    refine (l03Is_if _ zs _ true H0.out HNN.out HWW.out HP.out).mono ?_
    rintro e w1 ⟨rfl, hb1⟩
    have cb1 : w1.cell? ⟨w.heap.size, 0, none⟩ = some (.slice A n c) := by rw [hb1.cell (p := ⟨w.heap.size, 0, none⟩) hq0.2]; exact hq0.1
    have H1 := Lib.hid ((H0.out.below hb1).more hb1.size)
    have B1 := Lib.hid (hb0.trans (hb1.mono hb0.size))
    clear hb1 hb0 HEQ
    go_wp2_with fail
    refine (l04Runs_any _ zs _ H1.out HNN.out HP.out).mono ?_
    rintro e w2 ⟨A2, c2, vf, rfl, ho, hb2⟩
    obtain ⟨N, HN⟩ : ∃ N, (rsS zs).length = N := ⟨_, rfl⟩
    have HQ := Lib.hid HN
    rw [HN] at ho hdn ⊢
    have HR := Lib.hid (steps_read HN ho)
    have HB := Lib.hid (B1.out.trans (hb2.mono B1.out.size))
    clear HN ho hb2 cb1 hdb
    go_wp2_with fail
    go_loopw [5, 6] (fun vs vi wr => ∃ (j : Nat) (s : Int), j ≤ N ∧ vs = .int .i64 s ∧ vi = .int .i64 j ∧ Hid (upsL ((rsS zs).take j) = s) ∧ Hid (Below w2.heap.size w2 wr)) (fun _ vi _ => N - (intOf vi).toNat)
    case atStart => exact ⟨0, 0, by omega, rfl, rfl, Lib.hid rfl, Lib.hid (Below.refl _ _)⟩
    case round =>
      obtain ⟨j, s, hj, rfl, rfl, HS, hb⟩ := hrel
      by_cases hjn : j < N
      · obtain ⟨go, gi, ci, rfl, h1, c1, h2, c3, c4⟩ := HR.out j hjn
        have d1 := (hb.out.cell (p := ⟨go, j, none⟩) h1).trans c1
        have d2 := (hb.out.cell (p := ⟨gi, 0, none⟩) h2).trans c3
        have d3 := (hb.out.cell (p := ⟨gi, 1, none⟩) h2).trans c4
        have hx := at_ok HOK.out HQ.out hjn
        have HS2 : Hid (upsL ((rsS zs).take (j + 1)) = s + (if 1 < ((rsS zs)[j]?.getD (0, 0)).2 then ((rsS zs)[j]?.getD (0, 0)).1 else 0)) := Lib.hid (by rw [take_next HQ.out hjn, upsL_snoc, HS.out])
        have hsb : 0 ≤ s ∧ s ≤ 2000 * 130000 := by
          have h5 := upsL_bound (take_ok HOK.out j)
          rw [HS.out] at h5
          have h6 : ((rsS zs).take j).length ≤ 130000 := by rw [List.length_take]; omega
          omega
        generalize (rsS zs)[j]?.getD (0, 0) = x at d2 d3 hx HS2
        obtain ⟨q, r⟩ := x
        obtain ⟨⟨hx1, hx2⟩, hx3, hx4⟩ := hx
        dsimp only at *
        have hjq2 : (j : Int) < (N : Int) := by omega
        clear c1 c3 c4 HS
        by_cases hr1 : 1 < r
        · have HS3 : Hid (upsL ((rsS zs).take (j + 1)) = s + q) := Lib.hid (by rw [HS2.out, if_pos hr1])
          clear HS2
          go_wp2_with fail
          go_roundw
          case rel => exact ⟨j + 1, _, by omega, rfl, by go_num, HS3, hb⟩
          case measure => simp [intOf]; omega
        · have HS3 : Hid (upsL ((rsS zs).take (j + 1)) = s) := Lib.hid (by rw [HS2.out, if_neg hr1, Int.add_zero])
          clear HS2
          go_wp2_with fail
          go_roundw
          case rel => exact ⟨j + 1, _, by omega, rfl, by go_num, HS3, hb⟩
          case measure => simp [intOf]; omega
      · obtain rfl : j = N := by omega
        have E : Hid (uA zs = s) := Lib.hid (by rw [e1.out, ← HS.out, take_all HQ.out])
        clear HS
        go_wp2
        go_ret2
        exact ⟨by rw [E.out, e2.out]; rfl, HB.out.trans (hb.out.mono HB.out.size)⟩
end Go.Proofs.Ytncgkoanckefmaa
