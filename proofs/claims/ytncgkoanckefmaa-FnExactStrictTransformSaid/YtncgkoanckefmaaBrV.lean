/- Divisors of a branch, the model's: contract of spec.l03Divisors. Conditions: stated at each theorem. -/
import Derived.Test.YtncgkoanckefmaaBrB
import Derived.Maps.AppendAt
import Derived.Deep.AppendLies
import Derived.Test.YtncgkoanckefmaaMan
namespace Go.Proofs.Ytncgkoanckefmaa
open Go.ChangeShapes Go.WideShapes Go.ChangeAt Go.RowKit
set_option linter.unusedVariables false
set_option linter.unusedSimpArgs false

set_option maxHeartbeats 1000000 in
theorem l03Divisors_any (v : Value) (zs : List Int) (w : World) (h : ReadI w w.heap.size v zs) (hn : zs.length ≤ 1048576) (hp : brB zs = true) :
    Calls Try.prog 85 #[.agg #[v]] w fun e w' => ∃ v', e = .returned v' ∧ OwnI w' w.heap.size w'.heap.size v' (dvL 0 zs) ∧ Below w.heap.size w w' := by
  obtain ⟨n, A, c, rfl, hr, HL, HN, hnc, HF, hcm⟩ := h.split2
  rw [HL.out] at hn
  have hn0 : 0 < n := by have := brB_pos hp; rw [HL.out] at this; exact this
  have HZ := Lib.hid (dcB_range (brB_dcB hp))
  obtain ⟨a, rfl, hlt, hc0⟩ := hr.2 0 hn0
  obtain ⟨g, o, rfl⟩ := HF.out a rfl
  obtain ⟨W0, HE⟩ : ∃ W, W = w.alloc (.cells #[.slice (some ⟨g, o, none⟩) n c] 28) := ⟨_, rfl⟩
  have hb0 : Below w.heap.size w W0 := by rw [HE]; exact below_box _ _
  have hq0 : BoxI W0 w.heap.size (.slice (some ⟨g, o, none⟩) n c) := by rw [HE]; exact BoxI.new _ _ _
  have H0 := Lib.hid (hr.below hb0)
  have B0 := Lib.hid hb0
  have Q0 := Lib.hid hq0
  have HEQ := Lib.hid HE
  have hcell : W0.cell? ⟨g, o, none⟩ = some (.int .i64 (zs[0]?.getD 0)) := by
    rw [hb0.cell (p := ⟨g, o, none⟩) hlt]
    have h2 : (⟨g, o, none⟩ : Addr).add 0 = ⟨g, o, none⟩ := by rw [add_lit]; rfl
    rw [h2] at hc0; simpa using hc0
  have E0 : Hid (dvL 0 zs = [zs[0]?.getD 0] ++ dvL (zs[0]?.getD 0) (zs.drop 1)) := Lib.hid (by
    have h1 := drop_at HL.out hn0
    rw [List.drop_zero] at h1
    have hz0 := HZ.out (zs[0]?.getD 0) (by have := HL.out; simp [show 0 < zs.length by omega])
    conv => lhs; rw [h1]
    rw [dvL_first hz0.1]; rfl)
  have hz0 := HZ.out (zs[0]?.getD 0) (by have := HL.out; simp [show 0 < zs.length by omega])
  generalize zs[0]?.getD 0 = z0 at *
  have hglt : g < w.heap.size := hlt
  have hcw : w.cell? ⟨g, o, none⟩ = some (.int .i64 z0) := by rw [← hcell, hb0.cell (p := ⟨g, o, none⟩) hlt]
  have hs0 : w.heap.size < W0.heap.size := Q0.out.2
  clear h hr hb0 hq0 HE hc0 hlt
  go_enter Try.func85, Try.ntmps85
  go_wp2_with fail
  rw [← HEQ.out]
  have hsz0 : W0.heap.size = w.heap.size + 1 := by rw [HEQ.out]; simp
  have HO : Hid (OwnI (W0.alloc (.cells #[.int .i64 z0] 2)) W0.heap.size (W0.alloc (.cells #[.int .i64 z0] 2)).heap.size (.slice (some ⟨w.heap.size + 1, 0, none⟩) 1 1) [z0]) := Lib.hid (by rw [← hsz0]; exact OwnI.mk' (n := 1) (World.ownsRow_lit W0 #[.int .i64 z0] 1 (Nat.le_refl _) (by simp [maxLen]) rfl))
  have HB : Hid (Below W0.heap.size W0 (W0.alloc (.cells #[.int .i64 z0] 2))) := Lib.hid (below_box _ _)
  obtain ⟨i0, hi0, hy0, hy1, hy2⟩ := info_parts int_info
  go_loopw [3, 4] (fun vo vi wr => ∃ (k : Nat) (x : Int) (L : List Int) (A' : Option Addr) (c' : Nat), (1 ≤ k ∧ k ≤ n) ∧ (1 ≤ x ∧ x ≤ 2000) ∧ vo = .slice A' k c' ∧ vi = .int .i64 k ∧ Hid (L.length = k) ∧ Hid (L[k - 1]?.getD 0 = x) ∧ Hid (dvL 0 zs = L ++ dvL x (zs.drop k)) ∧ Hid (OwnI wr W0.heap.size wr.heap.size (.slice A' k c') L) ∧ Hid (Below W0.heap.size W0 wr)) (fun _ vi _ => n - (intOf vi).toNat)
  case atStart => exact ⟨1, z0, [z0], _, _, by omega, hz0, rfl, rfl, Lib.hid rfl, Lib.hid rfl, E0, HO, HB⟩
  case round =>
    obtain ⟨k, x, L, A', c', hk, hx, rfl, rfl, hL, hLx, hg, ho, hb⟩ := hrel
    have hcb : wr.cell? ⟨w.heap.size, 0, none⟩ = some (.slice (some ⟨g, o, none⟩) n c) := by rw [hb.out.cell (p := ⟨w.heap.size, 0, none⟩) hs0]; exact Q0.out.1
    by_cases hlt : k < n
    · obtain ⟨a, e1, _, hcell0⟩ := H0.out.2 k hlt
      cases e1
      have hz1 := HZ.out (zs[k]?.getD 0) (by have := HL.out; simp [show k < zs.length by omega])
      have HG : Hid (dvL 0 zs = (L ++ [(Int.gcd x (zs[k]?.getD 0) : Int)]) ++ dvL (Int.gcd x (zs[k]?.getD 0) : Int) (zs.drop (k + 1))) := Lib.hid (by rw [hg.out, drop_at HL.out hlt]; simp [dvL])
      have hce : wr.cell? ⟨g, o + k, none⟩ = some (.int .i64 (zs[k]?.getD 0)) := by
        rw [← add_lit, hb.out.cell (by rw [add_block]; show g < _; omega)]; simpa using hcell0
      obtain ⟨g', e1, hg1, hg2, hco, _⟩ := own_at ho.out hL.out (show k - 1 < k by omega)
      cases e1
      have hco' : wr.cell? ⟨g', k - 1, none⟩ = some (.int .i64 x) := by rw [hco, hLx.out]
      generalize zs[k]?.getD 0 = z at *
      have hgl := gcd_le_left (e := x) (z := z) hx.1
      have p1 : IntKind.i64.wrap ((k : Int) - 1) = (k : Int) - 1 := IntWalk.i64_in _ (by omega)
      have h5 : (0 : Int) ≤ (k : Int) - 1 := by omega
      have h6 : (k : Int) - 1 < (k : Int) := by omega
      have h7 : ((k : Int) - 1).toNat = k - 1 := by omega
      have h8 : (k : Int) < (n : Int) := by omega
      have h9 : (0 : Int) ≤ (k : Int) := by omega
      have h10 : k - 1 < k := by omega
      have h11 : (1 : Int) ≤ (k : Int) := by omega
      clear hcell0 hco hg
      go_wp2_with fail
      refine wp_region_held_drew (S := fun w' => w'.cell? ⟨w.heap.size, 0, none⟩ = some (.slice (some ⟨g, o, none⟩) n c) ∧ w'.cell? ⟨g, o + k, none⟩ = some (.int .i64 z)) (by kernel_rfl) ⟨hcb, hce⟩ (fun hHeld => ?_)
      refine takeY 0 _ (v := ?_) rfl rfl (by kernel_rfl) (by kernel_rfl) (by kernel_rfl) (fun _ _ _ h => h) (by kernel_rfl) ?_ (by assumption) ?_
      rotate_left 1
      · intro w hSw; (try dsimp only at hSw); go_simp; (try with_reducible rfl)
      try simp only [Act.put, List.setIfInBounds_toArray, List.set_cons_zero, List.set_cons_succ]
      refine takeY 1 _ (v := ?_) rfl rfl (by kernel_rfl) (by kernel_rfl) (by kernel_rfl) (fun _ _ _ h => h) (by kernel_rfl) ?_ (by assumption) ?_
      rotate_left 1
      · intro w hSw; (try dsimp only at hSw); go_simp; (try with_reducible rfl)
      try simp only [Act.put, List.setIfInBounds_toArray, List.set_cons_zero, List.set_cons_succ]
      refine takeY 2 _ (v := ?_) rfl rfl (by kernel_rfl) (by kernel_rfl) (by kernel_rfl) (fun _ _ _ h => h) (by kernel_rfl) ?_ (by assumption) ?_
      rotate_left 1
      · intro w hSw; (try dsimp only at hSw); go_simp; (try with_reducible rfl)
      try simp only [Act.put, List.setIfInBounds_toArray, List.set_cons_zero, List.set_cons_succ]
      refine takeY 3 _ (v := ?_) rfl rfl (by kernel_rfl) (by kernel_rfl) (by kernel_rfl) (fun _ _ _ h => h) (by kernel_rfl) ?_ (by assumption) ?_
      rotate_left 1
      · intro w hSw; (try dsimp only at hSw); go_simp; (try with_reducible rfl)
      try simp only [Act.put, List.setIfInBounds_toArray, List.set_cons_zero, List.set_cons_succ]
      refine takeY 4 _ (v := ?_) rfl rfl (by kernel_rfl) (by kernel_rfl) (by kernel_rfl) (fun _ _ _ h => h) (by kernel_rfl) ?_ (by assumption) ?_
      rotate_left 1
      · intro w hSw; (try dsimp only at hSw); go_simp; (try with_reducible rfl)
      try simp only [Act.put, List.setIfInBounds_toArray, List.set_cons_zero, List.set_cons_succ]
      refine takeY 6 _ (v := ?_) rfl rfl (by kernel_rfl) (by kernel_rfl) (by kernel_rfl) (fun _ _ _ h => h) (by kernel_rfl) ?_ (by assumption) ?_
      rotate_left 1
      · intro w hSw; (try dsimp only at hSw); go_simp; (try with_reducible rfl)
      try simp only [Act.put, List.setIfInBounds_toArray, List.set_cons_zero, List.set_cons_succ]
      refine takeY 7 _ (v := ?_) rfl rfl (by kernel_rfl) (by kernel_rfl) (by kernel_rfl) (fun _ _ _ h => h) (by kernel_rfl) ?_ (by assumption) ?_
      rotate_left 1
      · intro w hSw; (try dsimp only at hSw); go_simp; (try with_reducible rfl)
      try simp only [Act.put, List.setIfInBounds_toArray, List.set_cons_zero, List.set_cons_succ]
      refine takeY 8 _ (v := ?_) rfl rfl (by kernel_rfl) (by kernel_rfl) (by kernel_rfl) (fun _ _ _ h => h) (by kernel_rfl) ?_ (by assumption) ?_
      rotate_left 1
      · intro w hSw; (try dsimp only at hSw); go_simp; (try with_reducible rfl)
      try simp only [Act.put, List.setIfInBounds_toArray, List.set_cons_zero, List.set_cons_succ]
      refine takeY 9 _ (v := ?_) rfl rfl (by kernel_rfl) (by kernel_rfl) (by kernel_rfl) (fun _ _ _ h => h) (by kernel_rfl) ?_ (by assumption) ?_
      rotate_left 1
      · intro w hSw; (try dsimp only at hSw); go_simp; (try with_reducible rfl)
      try simp only [Act.put, List.setIfInBounds_toArray, List.set_cons_zero, List.set_cons_succ]
      refine takeY 10 _ (v := ?_) rfl rfl (by kernel_rfl) (by kernel_rfl) (by kernel_rfl) (fun _ _ _ h => h) (by kernel_rfl) ?_ (by assumption) ?_
      rotate_left 1
      · intro w hSw; (try dsimp only at hSw); go_simp; (try with_reducible rfl)
      try simp only [Act.put, List.setIfInBounds_toArray, List.set_cons_zero, List.set_cons_succ]
      refine wpAnyH_ready (rs := [5]) (by kernel_rfl) (by simp) ?_
      refine AllReadyH.cons rfl (fun K hK => ?_) AllReadyH.nil
      go_simp
      refine hK.out _ wr.drew ⟨hcb, hce⟩ (fun hHeld => ?_)
      clear hK K
      try simp only [Act.put, List.setIfInBounds_toArray, List.set_cons_zero, List.set_cons_succ]
      refine wpAnyH_ready (rs := [11]) (by kernel_rfl) (by simp) ?_
      refine AllReadyH.cons rfl (fun K hK => ?_) AllReadyH.nil
      go_simp
      refine (l01Gcd_any _ _ _ (by omega) (by omega) (by omega) (by omega)).mono ?_
      rintro e w' ⟨rfl, rfl⟩
      refine hK.out _ wr.drew ⟨hcb, hce⟩ (fun hHeld => ?_)
      clear hK K
      try simp only [Act.put, List.setIfInBounds_toArray, List.set_cons_zero, List.set_cons_succ]
      refine wpAnyH_ready (rs := [12]) (by kernel_rfl) (by simp) ?_
      refine AllReadyH.cons rfl (fun K hK => ?_) AllReadyH.nil
      go_simp
      have hlw : w.heap.size < wr.heap.size := Nat.lt_of_lt_of_le hs0 hb.out.size
      have hlg : g < wr.heap.size := by omega
      refine hK.out _ _ ⟨((below_box wr _).cell (p := ⟨w.heap.size, 0, none⟩) hlw).trans hcb, ((below_box wr _).cell (p := ⟨g, o + k, none⟩) hlg).trans hce⟩ (fun hHeld => ?_)
      clear hK K
      try simp only [Act.put, List.setIfInBounds_toArray, List.set_cons_zero, List.set_cons_succ]
      refine wpAnyH_ready (rs := [13]) (by kernel_rfl) (by simp) ?_
      refine AllReadyH.cons rfl (fun K hK => ?_) AllReadyH.nil
      try simp only [List.getElem_toArray, List.getElem_cons_succ, List.getElem_cons_zero]
      rw [if_pos (by kernel_rfl)]
      refine wp_append_lies _ (.tmp 17) (.tmp 29) 22 ?g2 W0.heap.size 2 i0 (.int .i64 0) 1 8 Try.underlying22 hi0 hy0 hy1 hy2 rfl (by decide) (.slice (some ⟨g', 0, none⟩) k c') k (L.map (.int .i64)) ?g3 ?g4 ⟨wr.heap.size, 0, none⟩ 1 1 [.int .i64 (Int.gcd x z : Int)] ?g5 rfl ?g6 ?g7 (by decide) ?g8 ?g9 ?g10 _ rfl ?g11
      case g2 => rfl
      case g3 => rfl
      case g5 => rfl
      case g4 => have h3 := ho.out.1; rw [hL.out] at h3; exact World.ownsRow.alloc h3 _
      case g6 => exact World.news_of_block (cs := #[.int .i64 (Int.gcd x z : Int)]) (t := 2) (fr := (0, 0)) (heap_alloc_new wr _)
      case g7 => simp [Value.oneCell']
      case g8 => simp only [maxLen]; omega
      case g9 => omega
      case g10 => have := hb.out.size; show W0.heap.size ≤ (wr.alloc _).heap.size; simp; omega
      intro g2 cap2 w2 hown2 hgrow _ _
      have hb2 : Below W0.heap.size W0 w2 := Below.grown (w := (wr.alloc (.cells #[.int .i64 (Int.gcd x z : Int)] 2)).drew) (below_drewN (hb.out.alloc hb.out.size _) 1) hgrow (by have := hb.out.size; show W0.heap.size ≤ (wr.alloc _).heap.size; simp; omega) (fun k hk => (Own.lt ho.out.1 k hk).1)
      have HB2 := Lib.hid hb2
      have HO2 : Hid (OwnI w2 W0.heap.size w2.heap.size (.slice (some ⟨g2, 0, none⟩) (k + 1) cap2) (L ++ [(Int.gcd x z : Int)])) := Lib.hid (OwnI.mk' (n := k + 1) (by rw [List.map_append]; exact hown2))
      refine hK.out _ _ ⟨by rw [hb2.cell (p := ⟨w.heap.size, 0, none⟩) hs0]; exact Q0.out.1, by rw [hb2.cell (p := ⟨g, o + k, none⟩) (show g < W0.heap.size by omega), ← hb.out.cell (p := ⟨g, o + k, none⟩) (show g < W0.heap.size by omega)]; exact hce⟩ (fun hHeld => ?_)
      clear hK K hb2 hown2 hgrow
      try simp only [Act.put, List.setIfInBounds_toArray, List.set_cons_zero, List.set_cons_succ]
      refine takeY 14 _ (v := ?_) rfl rfl (by kernel_rfl) (by kernel_rfl) (by kernel_rfl) (fun _ _ _ h => h) (by kernel_rfl) ?_ (by assumption) ?_
      rotate_left 1
      · intro w hSw; (try dsimp only at hSw); go_simp; (try with_reducible rfl)
      try simp only [Act.put, List.setIfInBounds_toArray, List.set_cons_zero, List.set_cons_succ]
      refine wpAnyH_done (by kernel_rfl) ?_ _
      go_wp2_with fail
      go_roundw
      case rel => exact ⟨k + 1, (Int.gcd x z : Int), L ++ [(Int.gcd x z : Int)], _, _, by omega, by omega, rfl, by go_num, Lib.hid (by simp [hL.out]), Lib.hid (by have := hL.out; subst this; simp), HG, HO2, HB2⟩
      case measure => simp [intOf]; omega
    · obtain rfl : k = n := by omega
      have E : Hid (L = dvL 0 zs) := Lib.hid (by rw [hg.out, drop_end HL.out (Nat.le_refl _)]; simp [dvL])
      go_wp2
      go_ret
      exact ⟨_, rfl, by rw [← E.out]; exact own_lessB ho.out (by omega), B0.out.trans (hb.out.mono B0.out.size)⟩
end Go.Proofs.Ytncgkoanckefmaa
