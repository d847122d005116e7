/- Multiplicities at points, the model's and the program's: contracts. Conditions: stated at each theorem. -/
import Derived.Test.YtohbgfmjnanlkaaPtM
import Derived.Test.YtohbgfmjnanlkaaGw
import Derived.Test.YtohbgfmjnanlkaaGw
import Derived.Test.YtohbgfmjnanlkaaGw
import Derived.Test.YtohbgfmjnanlkaaGw
namespace Go.Proofs.Ytohbgfmjnanlkaa
open Go.ChangeShapes Go.WideShapes Go.ChangeAt Go.RowKit Go.Deep
set_option linter.unusedVariables false
set_option linter.unusedSimpArgs false

/-- The code of a branch and a number of points. -/
def ptC (zs : List Int) (k : Int) : Int := if brB zs then (if 1 ≤ k ∧ k ≤ 400 then 0 else 2) else 1
def mqA (zs : List Int) (k : Int) : List Int := if ptC zs k = 0 then mqL zs k.toNat else []
theorem pt_no {zs : List Int} {k : Int} (h : brB zs = false) : ptC zs k = 1 := by simp [ptC, h]
theorem pt_out {zs : List Int} {k : Int} (h : brB zs = true) (h2 : ¬(1 ≤ k ∧ k ≤ 400)) : ptC zs k = 2 := by simp only [ptC, h, if_true, if_neg h2]
theorem pt_yes {zs : List Int} {k : Int} (h : brB zs = true) (h2 : 1 ≤ k ∧ k ≤ 400) : ptC zs k = 0 := by simp only [ptC, h, if_true, if_pos h2]
theorem pt_parts {zs : List Int} {k : Int} (h : ptC zs k = 0) : brB zs = true ∧ 1 ≤ k ∧ k ≤ 400 := by
  unfold ptC at h
  split at h
  · rename_i hp
    split at h
    · rename_i h2; exact ⟨hp, h2⟩
    · omega
  · omega
theorem mqA_len (zs : List Int) (k : Int) : (mqA zs k).length ≤ 400 := by
  unfold mqA
  split
  · rename_i h
    have := (pt_parts h).2
    rw [mq_len]; omega
  · simp
/-- The cases of a call: no branch, a number of points out of its range, or n points of a branch. -/
theorem pt_cases (zs : List Int) (k : Int) : (brB zs = false ∧ ptC zs k = 1) ∨ (brB zs = true ∧ ¬(1 ≤ k ∧ k ≤ 400) ∧ ptC zs k = 2) ∨ ∃ n : Nat, brB zs = true ∧ k = (n : Int) ∧ 1 ≤ n ∧ n ≤ 400 ∧ ptC zs k = 0 := by
  rcases bool_fs (brB zs) with hp | hp
  · exact .inl ⟨hp, pt_no hp⟩
  · by_cases h : 1 ≤ k ∧ k ≤ 400
    · exact .inr (.inr ⟨k.toNat, hp, by omega, by omega, by omega, pt_yes hp h⟩)
    · exact .inr (.inl ⟨hp, h, pt_out hp h⟩)

theorem take_room (X : List Int) (r : Int) (k t : Nat) (h : X.length + t < k) : (X ++ List.replicate t r) ++ [r] = X ++ List.replicate (t + 1) r := rep_snoc _ _ _
theorem take_app_le {X Y : List Int} {k : Nat} (h : k ≤ X.length) : (X ++ Y).take k = X.take k := List.take_append_of_le_length h
/-- What a run adds to the first k numbers of a sequence. -/
def rq (M k : Nat) (q : Int) : Nat := min q.toNat (k - M)
theorem fl_min {L : List (Int × Int)} {n j k : Nat} (hl : L.length = n) (h : j < n) : (flL (L.take (j + 1))).take k = (flL (L.take j)).take k ++ List.replicate (rq ((flL (L.take j)).take k).length k ((L[j]?.getD (0, 0)).1)) (L[j]?.getD (0, 0)).2 := by
  rw [flL_take hl h]
  generalize (L[j]?.getD (0, 0)) = x
  generalize flL (L.take j) = X
  rw [List.take_append, List.take_replicate, List.length_take]
  congr 2
  unfold rq
  omega
theorem mq_fill {zs : List Int} (hp : brB zs = true) {k M : Nat} (hM : ((flL (rsS zs)).take k).length = M) : mqL zs k = (flL (rsS zs)).take k ++ List.replicate (k - M) 1 := by
  rw [mq_model hp, List.take_append, List.take_replicate]
  rw [List.length_take] at hM
  congr 2
  omega

set_option maxRecDepth 100000 in
set_option maxHeartbeats 2000000 in
theorem l06Sequence_any (v : Value) (zs : List Int) (k : Nat) (w : World) (h : ReadI w w.heap.size v zs) (hn : zs.length ≤ 1048576) (hp : brB zs = true) (hk : k ≤ 400) :
    Calls Try.prog 61 #[.agg #[v], .int .i64 k] w fun e w' => ∃ A c, e = .returned (.slice A k c) ∧ OwnI w' w.heap.size w'.heap.size (.slice A k c) (mqL zs k) ∧ Below w.heap.size w w' := by
  obtain ⟨n, A, c, rfl, hr, HL, _, hnc, HF, hcm⟩ := h.split2
  obtain ⟨W0, HE⟩ : ∃ W, W = w.alloc (.cells #[.slice A n c] 28) := ⟨_, rfl⟩
  have hb0 : Below w.heap.size w W0 := by rw [HE]; exact below_box _ _
  have hq0 : BoxI W0 w.heap.size (.slice A n c) := by rw [HE]; exact BoxI.new _ _ _
  have hbn : Below W0.heap.size W0 (W0.alloc (.cells #[] 2)) := below_box _ _
  have H0 := Lib.hid ((h.below (hb0.trans (hbn.mono hb0.size))).more (Nat.le_trans hb0.size hbn.size))
  have HNN := Lib.hid hn
  have HP := Lib.hid hp
  have HEQ := Lib.hid HE
  have HOK := Lib.hid (rsS_ok hp).1
  have HLN := (rsS_ok hp).2
  have HFILL := Lib.hid (fun M hM => mq_fill hp (k := k) (M := M) hM)
  have HO : Hid (OwnI (W0.alloc (.cells #[] 2)) W0.heap.size (W0.alloc (.cells #[] 2)).heap.size (.slice (some ⟨W0.heap.size, 0, none⟩) 0 0) []) := Lib.hid (OwnI.mk' (n := 0) (World.ownsRow_lit W0 #[] 0 (Nat.le_refl _) (by simp [maxLen]) rfl))
  have hws : W0.heap.size = w.heap.size + 1 := by rw [HE]; simp
  have cbn : (W0.alloc (.cells #[] 2)).cell? ⟨w.heap.size, 0, none⟩ = some (.slice A n c) := by rw [hbn.cell (p := ⟨w.heap.size, 0, none⟩) hq0.2]; exact hq0.1
  have hlt0 := hq0.2
  have HB0 := Lib.hid hb0
  have HBN := Lib.hid hbn
  have HWS := Lib.hid hws
  clear hws
  clear h hr HE HF hn hp hbn
  obtain ⟨i0, hi0, hz0, hz1, hz2⟩ := info_parts int_info
  go_enter Try.func61, Try.ntmps61
  go_wp2_with fail
  rw [← HEQ.out]
  refine (l04Runs_any _ zs _ H0.out HNN.out HP.out).mono ?_
  rintro e w2 ⟨A2, c2, vf, rfl, ho, hb2⟩
  obtain ⟨N, HN⟩ : ∃ N, (rsS zs).length = N := ⟨_, rfl⟩
  have HQ := Lib.hid HN
  rw [HN] at ho HLN ⊢
  have HR := Lib.hid (steps_readB HN ho)
  have hws := HWS.out
  have hs0 := HB0.out.size
  have hs1 : (W0.alloc (.cells #[] 2)).heap.size = W0.heap.size + 1 := by simp
  rw [hs1] at HR
  have hs2 := hb2.size
  rw [hs1] at hs2
  have HG : Hid (Gw w2 w2 W0.heap.size (.slice (some ⟨W0.heap.size, 0, none⟩) 0 0) []) := Lib.hid (Gw.start (OwnI.raise (HO.out.kept (Kept.of_below hb2 (Nat.le_refl _))) (by rw [hs1]; exact hs2) (Nat.le_refl _)) (fun b e => by cases e; rfl) (by omega))
  have HBB : Hid (Below W0.heap.size W0 w2) := Lib.hid (HBN.out.trans (hb2.mono HBN.out.size))
  have hcb2 : w2.cell? ⟨w.heap.size, 0, none⟩ = some (.slice A n c) := by rw [hb2.cell (p := ⟨w.heap.size, 0, none⟩) (by rw [hs1]; show w.heap.size < W0.heap.size + 1; omega)]; exact cbn
  rw [hws] at HG HBB HR hs2 hs0
  have hws2 : W0.heap.size ≤ w.heap.size + 1 := by omega
  clear HN ho hb2 hb0 HEQ HO hs1 hws
  go_wp2_with fail
  go_loopw [5, 7] (fun vo vi wr => ∃ (j M : Nat) (A : Option Addr) (c' : Nat), j ≤ N ∧ M ≤ k ∧ vo = .slice A M c' ∧ vi = .int .i64 j ∧ Hid (((flL ((rsS zs).take j)).take k).length = M) ∧ Hid (Gw w2 wr (w.heap.size + 1) (.slice A M c') ((flL ((rsS zs).take j)).take k))) (fun _ vi _ => N - (intOf vi).toNat)
  case atStart => exact ⟨0, 0, _, _, by omega, by omega, rfl, rfl, Lib.hid (by simp [flL]), by have := HG.out; exact Lib.hid (by simpa [flL] using this)⟩
  case round =>
    obtain ⟨j, M, A, c', hj, hM, rfl, rfl, HM, GW⟩ := hrel
    by_cases hjn : j < N
    · obtain ⟨go, gi, ci, rfl, h1, c1, h2, c3, c4⟩ := HR.out j hjn
      have d1 := GW.out.cell (o := j) h1.2 (by omega) c1
      have d2 := GW.out.cell (o := 0) h2.2 (by omega) c3
      have hx := at_ok HOK.out HQ.out hjn
      have HS2 := Lib.hid (fl_min HQ.out hjn (k := k))
      rw [HM.out] at HS2
      generalize (rsS zs)[j]?.getD (0, 0) = x at d2 c3 c4 hx HS2
      obtain ⟨q0, r⟩ := x
      obtain ⟨⟨hx1, hx2⟩, hx3, hx4⟩ := hx
      dsimp only at *
      obtain ⟨q, rfl⟩ : ∃ q : Nat, q0 = (q : Int) := ⟨q0.toNat, by omega⟩
      have hjq2 : (j : Int) < (N : Int) := by omega
      have C1 := Lib.hid c1
      have C4 := Lib.hid c4
      clear c1 c3 c4
      go_wp2_with fail
      go_loopw [5, 8] (fun vo vq wr => ∃ (t M2 : Nat) (A : Option Addr) (c' : Nat), t ≤ q ∧ M2 = M + t ∧ M2 ≤ k ∧ vo = .slice A M2 c' ∧ vq = .int .i64 ((q : Int) - (t : Int)) ∧ Hid (Gw w2 wr (w.heap.size + 1) (.slice A M2 c') ((flL ((rsS zs).take j)).take k ++ List.replicate t r))) (fun _ vq _ => (intOf vq).toNat)
      case atStart => exact ⟨0, M, A, c', by omega, by omega, by omega, rfl, by simp, Lib.hid (by simpa using GW.out)⟩
      case round =>
        obtain ⟨t, M2, A, c', ht, hM2, hMk, rfl, rfl, GW2⟩ := hrel
        have HM2 := Lib.hid hM2
        by_cases htq : t < q
        · have hq1 : (0 : Int) < (q : Int) - (t : Int) := by omega
          by_cases hMk2 : M2 < k
          · have d3 := GW2.out.cell (o := j) h1.2 (by omega) C1.out
            have d4 := GW2.out.cell (o := 1) h2.2 (by omega) C4.out
            have hMki : (M2 : Int) < (k : Int) := by omega
            have hw1 : IntKind.i64.wrap ((q : Int) - (t : Int) - 1) = (q : Int) - ((t + 1 : Nat) : Int) := by rw [IntWalk.i64_in _ (by omega)]; omega
            have HW := Lib.hid hw1
            clear hM2 hw1
            obtain ⟨X, HXe⟩ : ∃ X, X = ((flL ((rsS zs).take j)).take k ++ List.replicate t r).map (Value.int .i64) := ⟨_, rfl⟩
            have HLEN : Hid (((flL ((rsS zs).take j)).take k ++ List.replicate t r).length = M2) := Lib.hid (by rw [List.length_append, List.length_replicate, HM.out, HM2.out])
            have hown := GW2.out.own.1
            rw [HLEN.out, ← HXe] at hown
            have HOW : Hid (Own wr (w.heap.size + 1) (.slice A M2 c') M2 X) := Lib.hid hown
            have HXE : Hid (X = ((flL ((rsS zs).take j)).take k ++ List.replicate t r).map (Value.int .i64)) := Lib.hid HXe
            have hgb := GW2.out.below.size
            have hgb0 := Nat.le_trans GW2.out.b0 GW2.out.size
            clear hown HXe
            go_wp2_with (at_builtin; go_loud (refine wpList_append_lies _ rfl _ _ 22 rfl (w.heap.size + 1) 2 i0 (.int .i64 0) 1 8 Try.underlying22 hi0 hz0 hz1 hz2 rfl (by decide) (.slice A M2 c') M2 X rfl (World.ownsRow.alloc HOW.out _) ⟨wr.heap.size, 0, none⟩ 1 1 [.int .i64 (r)] rfl rfl (World.news_of_block (cs := #[.int .i64 (r)]) (t := 2) (fr := (0, 0)) (heap_alloc_new wr _)) (by simp [Value.oneCell']) (by decide) (by simp only [maxLen]; omega) (by omega) (by simp; omega) (wr.heap.size + 1) (by simp) ?_; intro g3 cap3 w3 hown3 hgrow3 hg3 hlt3; have HG3 := Lib.hid (Gw.push GW2.out HXE.out HLEN.out hown3 hgrow3 hg3); clear hown3 hgrow3 hg3 hlt3))
            go_roundw
            case rel => exact ⟨t + 1, M2 + 1, _, _, by omega, (by have := HM2.out; omega), by omega, rfl, vintS (by omega), Lib.hid (by rw [← rep_snoc]; exact HG3.out)⟩
            case measure => simp [intOf]; omega
          · obtain rfl : M2 = k := by omega
            have HLE : Hid (((flL ((rsS zs).take (j + 1))).take M2) = (flL ((rsS zs).take j)).take M2 ++ List.replicate t r) := Lib.hid (by
              rw [HS2.out]; congr 2; unfold rq; have := HM2.out; omega)
            have HL2 : Hid (((flL ((rsS zs).take (j + 1))).take M2).length = M2) := Lib.hid (by rw [HLE.out, List.length_append, List.length_replicate, HM.out]; have := HM2.out; omega)
            have HGW : Hid (Gw w2 wr (w.heap.size + 1) (.slice A M2 c') ((flL ((rsS zs).take (j + 1))).take M2)) := Lib.hid (by rw [HLE.out]; exact GW2.out)
            clear hM2
            go_wp2_with fail
            go_roundw
            case rel => exact ⟨j + 1, M2, A, c', by omega, by omega, rfl, by go_num, HL2, HGW⟩
            case measure => simp [intOf]; omega
        · obtain rfl : t = q := by omega
          have HLE : Hid (((flL ((rsS zs).take (j + 1))).take k) = (flL ((rsS zs).take j)).take k ++ List.replicate t r) := Lib.hid (by
            rw [HS2.out]; congr 2; unfold rq; have := HM2.out; omega)
          have HL2 : Hid (((flL ((rsS zs).take (j + 1))).take k).length = M2) := Lib.hid (by rw [HLE.out, List.length_append, List.length_replicate, HM.out]; have := HM2.out; omega)
          have HGW : Hid (Gw w2 wr (w.heap.size + 1) (.slice A M2 c') ((flL ((rsS zs).take (j + 1))).take k)) := Lib.hid (by rw [HLE.out]; exact GW2.out)
          clear hM2
          go_wp2_with fail
          go_roundw
          case rel => exact ⟨j + 1, M2, A, c', by omega, by omega, rfl, by go_num, HL2, HGW⟩
          case measure => simp [intOf]; omega
    · obtain rfl : j = N := by omega
      have HT : Hid ((rsS zs).take j = rsS zs) := Lib.hid (take_all HQ.out)
      rw [HT.out] at HM GW
      go_wp2_with fail
      go_loopw [5] (fun vo wr => ∃ (t M2 : Nat) (A : Option Addr) (c' : Nat), M + t ≤ k ∧ M2 = M + t ∧ vo = .slice A M2 c' ∧ Hid (Gw w2 wr (w.heap.size + 1) (.slice A M2 c') ((flL (rsS zs)).take k ++ List.replicate t 1))) (fun vo _ => k - lenOf vo)
      case atStart => exact ⟨0, M, A, c', by omega, rfl, rfl, Lib.hid (by simpa using GW.out)⟩
      case round =>
        obtain ⟨t, M2, A, c', ht, hM2, rfl, GW2⟩ := hrel
        have HM2 := Lib.hid hM2
        have hM2b : M2 ≤ 400 := by omega
        by_cases htk : M2 < k
        · have htki : (M2 : Int) < (k : Int) := by omega
          clear hM2
          obtain ⟨X, HXe⟩ : ∃ X, X = ((flL (rsS zs)).take k ++ List.replicate t 1).map (Value.int .i64) := ⟨_, rfl⟩
          have HLEN : Hid (((flL (rsS zs)).take k ++ List.replicate t 1).length = M2) := Lib.hid (by rw [List.length_append, List.length_replicate, HM.out, HM2.out])
          have hown := GW2.out.own.1
          rw [HLEN.out, ← HXe] at hown
          have HOW : Hid (Own wr (w.heap.size + 1) (.slice A M2 c') M2 X) := Lib.hid hown
          have HXE : Hid (X = ((flL (rsS zs)).take k ++ List.replicate t 1).map (Value.int .i64)) := Lib.hid HXe
          have hgb := GW2.out.below.size
          have hgb0 := Nat.le_trans GW2.out.b0 GW2.out.size
          clear hown HXe
          go_wp2_with (at_builtin; go_loud (refine wpList_append_lies _ rfl _ _ 22 rfl (w.heap.size + 1) 2 i0 (.int .i64 0) 1 8 Try.underlying22 hi0 hz0 hz1 hz2 rfl (by decide) (.slice A M2 c') M2 X rfl (World.ownsRow.alloc HOW.out _) ⟨wr.heap.size, 0, none⟩ 1 1 [.int .i64 (1)] rfl rfl (World.news_of_block (cs := #[.int .i64 (1)]) (t := 2) (fr := (0, 0)) (heap_alloc_new wr _)) (by simp [Value.oneCell']) (by decide) (by simp only [maxLen]; omega) (by omega) (by simp; omega) (wr.heap.size + 1) (by simp) ?_; intro g3 cap3 w3 hown3 hgrow3 hg3 hlt3; have HG3 := Lib.hid (Gw.push GW2.out HXE.out HLEN.out hown3 hgrow3 hg3); clear hown3 hgrow3 hg3 hlt3))
          go_roundw
          case rel => exact ⟨t + 1, M2 + 1, _, _, by have := HM2.out; omega, by have := HM2.out; omega, rfl, Lib.hid (by rw [← rep_snoc]; exact HG3.out)⟩
          case measure => simp only [lenOf]; omega
        · obtain rfl : M2 = k := by omega
          have ht2 : t = M2 - M := by omega
          have HE2 : Hid (mqL zs M2 = (flL (rsS zs)).take M2 ++ List.replicate t 1) := Lib.hid (by rw [ht2]; exact HFILL.out M HM.out)
          clear ht2 hM2
          go_wp2
          go_ret
          exact ⟨A, c', rfl, by rw [HE2.out]; exact own_lessB GW2.out.own (by omega), HB0.out.trans (((HBB.out.mono (by omega)).trans (GW2.out.below.mono (by omega))) )⟩
end Go.Proofs.Ytohbgfmjnanlkaa
