/- TruncateBranch, the model's: contracts. Conditions: stated at each theorem. -/
import Derived.Test.YtkhdpcofcafknaaBrTi
import Derived.Test.YtkhdpcofcafknaaMan
import Derived.Maps.AppendAt
import Derived.Deep.AppendLies
namespace Go.Proofs.Ytkhdpcofcafknaa
open Go.ChangeShapes Go.WideShapes Go.ChangeAt Go.RowKit
set_option linter.unusedVariables false
set_option linter.unusedSimpArgs false

theorem cutL_len {zs : List Int} {k : Nat} (h : k < zs.length) : (cutL zs k).length = k + 1 := by simp [cutL]; omega
theorem cutL_next {zs : List Int} {n k i : Nat} (hl : zs.length = n) (hk : k < n) (hi : i < k + 1) : (cutL zs k).take (i + 1) = (cutL zs k).take i ++ [(zs[i]?.getD 0).tdiv ((dvL 0 zs)[k]?.getD 0)] := by
  have h1 : i < (cutL zs k).length := by rw [cutL_len (by omega)]; exact hi
  rw [List.take_succ_eq_append_getElem h1]
  congr 1
  have h2 : i < zs.length := by omega
  simp [cutL, h2]

set_option maxHeartbeats 2000000 in
theorem l03Cut_any (v : Value) (zs : List Int) (k : Nat) (w : World) (h : ReadI w w.heap.size v zs) (hn : zs.length ≤ 1048576) (hp : brB zs = true) (hk : k < zs.length) :
    Calls Try.prog 83 #[.agg #[v], .int .i64 (k : Int)] w fun e w' => ∃ v', e = .returned (.agg #[v']) ∧ OwnI w' w.heap.size w'.heap.size v' (cutL zs k) ∧ Below w.heap.size w w' := by
  obtain ⟨n, A, c, rfl, hr, HL, HN, hnc, HF, hcm⟩ := h.split2
  rw [HL.out] at hn hk
  have hn0 : 0 < n := by omega
  obtain ⟨a, rfl, hlt, hc0⟩ := hr.2 0 hn0
  obtain ⟨g, o, rfl⟩ := HF.out a rfl
  have hglt : g < w.heap.size := hlt
  obtain ⟨W0, HE⟩ : ∃ W, W = (w.alloc (.cells #[.slice (some ⟨g, o, none⟩) n c] 26)).alloc (.cells #[.slice none 0 0] 26) := ⟨_, rfl⟩
  have hS0 : Start w W0 (.slice (some ⟨g, o, none⟩) n c) := by rw [HE]; exact Start.new _ _
  have hb0 := hS0.below
  have HR := Lib.hid ((h.below hb0).more hb0.size)
  have S0 := Lib.hid hS0
  have HEQ := Lib.hid HE
  have HZ := Lib.hid (dcB_range (brB_dcB hp))
  have HP := Lib.hid hp
  have hk1 : (k : Int) < (n : Int) := by omega
  have hk0 : (0 : Int) ≤ (k : Int) := by omega
  clear h hr hb0 hS0 HE hc0 hlt hp
  go_enter Try.func83, Try.ntmps83
  go_wp2_with fail
  rw [← HEQ.out]
  refine (l03Divisors_any _ zs W0 HR.out (by rw [HL.out]; exact hn) HP.out).mono ?_
  rintro e W1 ⟨v1, rfl, ho1, hb1⟩
  obtain ⟨A1, c1, rfl⟩ := ho1.form (by rw [dvL_len, HL.out])
  obtain ⟨g1, rfl, _, _, hcd, _⟩ := own_at ho1 (by rw [dvL_len, HL.out]) hk
  have hed : 1 ≤ (dvL 0 zs)[k]?.getD 0 ∧ (dvL 0 zs)[k]?.getD 0 ≤ 2000 := by
    have hl : k < (dvL 0 zs).length := by rw [dvL_len, HL.out]; exact hk
    have := dvL_pos HZ.out (dvL 0 zs)[k] (List.getElem_mem _)
    simpa [hl] using this
  have HNX : Hid (∀ i, i < k + 1 → (cutL zs k).take (i + 1) = (cutL zs k).take i ++ [(zs[i]?.getD 0).tdiv ((dvL 0 zs)[k]?.getD 0)]) := Lib.hid fun i hi => cutL_next HL.out hk hi
  generalize (dvL 0 zs)[k]?.getD 0 = d at *
  obtain ⟨l1, l2, l3, l4⟩ := S0.out.later hb1
  have hbw : Below w.heap.size w W1 := S0.out.below.trans (hb1.mono S0.out.below.size)
  have HR1 := Lib.hid ((HR.out.ri.below hb1).more hb1.size)
  have B1 := Lib.hid hbw
  have q1 := Lib.hid l1
  have r1 := Lib.hid (And.intro l2 (And.intro l3 l4))
  have hgW : g < W1.heap.size := Nat.lt_of_lt_of_le hglt hbw.size
  have hwW : w.heap.size + 1 < W1.heap.size := l4
  have HLc : Hid ((cutL zs k).length = k + 1) := Lib.hid (cutL_len (by rw [HL.out]; exact hk))
  clear ho1 hb1 l1 l2 l3 l4 hbw
  go_wp2_with fail
  have HB2 : Hid (Below W1.heap.size W1 (W1.alloc (.cells #[.slice none 0 0] 26))) := Lib.hid (below_box _ _)
  have HC2 : Hid ((W1.alloc (.cells #[.slice none 0 0] 26)).cell? ⟨W1.heap.size, 0, none⟩ = some (.slice none 0 0)) := Lib.hid (by go_simp)
  have HF2 : Hid ((W1.alloc (.cells #[.slice none 0 0] 26)).frozen? ⟨W1.heap.size, 0, none⟩ = false) := Lib.hid (by go_simp)
  have HO2 : Hid (OwnI (W1.alloc (.cells #[.slice none 0 0] 26)) (W1.heap.size + 1) (W1.alloc (.cells #[.slice none 0 0] 26)).heap.size (.slice none 0 0) ((cutL zs k).take 0)) := Lib.hid (OwnI.nil _ _)
  obtain ⟨i0, hi0, hy0, hy1, hy2⟩ := info_parts int_info
  go_loopw [7] (fun vi wr => ∃ (i : Nat) (A' : Option Addr) (c' : Nat), i ≤ k + 1 ∧ vi = .int .i64 i ∧ Hid (wr.cell? ⟨W1.heap.size, 0, none⟩ = some (.slice A' i c')) ∧ Hid (wr.frozen? ⟨W1.heap.size, 0, none⟩ = false) ∧ Hid (OwnI wr (W1.heap.size + 1) wr.heap.size (.slice A' i c') ((cutL zs k).take i)) ∧ Hid (Below W1.heap.size W1 wr)) (fun vi _ => k + 1 - (intOf vi).toNat)
  case atStart => exact ⟨0, none, 0, by omega, rfl, HC2, HF2, HO2, HB2⟩
  case round =>
    clear HB2 HC2 HF2 HO2
    obtain ⟨i, A', c', hi, rfl, hco0, hcf0, ho, hb⟩ := hrel
    have hco := hco0.out
    have hcf := hcf0.out
    have hlt3 : W1.heap.size < wr.heap.size := by
      rcases Nat.lt_or_ge W1.heap.size wr.heap.size with h | h
      · exact h
      · exfalso
        unfold World.cell? at hco
        simp [Array.getElem?_eq_none h] at hco
    have hcb : wr.cell? ⟨w.heap.size, 0, none⟩ = some (.slice (some ⟨g, o, none⟩) n c) := by rw [hb.out.cell (p := ⟨w.heap.size, 0, none⟩) (by show w.heap.size < _; omega)]; exact q1.out.1
    by_cases hlt : i < k + 1
    · obtain ⟨a, e1, _, hcell0⟩ := HR1.out.2 i (by omega)
      cases e1
      have hz1 := HZ.out (zs[i]?.getD 0) (by have := HL.out; simp [show i < zs.length by omega])
      have HNx := Lib.hid (HNX.out i hlt)
      have hce : wr.cell? ⟨g, o + i, none⟩ = some (.int .i64 (zs[i]?.getD 0)) := by
        rw [← add_lit, hb.out.cell (by rw [add_block]; exact hgW)]; simpa using hcell0
      have htr := tdiv_range hz1 hed.1
      generalize zs[i]?.getD 0 = z at *
      have HLi : Hid (((cutL zs k).take i).length = i) := Lib.hid (by rw [List.length_take, HLc.out]; omega)
      have hdz : (d == 0) = false := by simp; omega
      have hdz2 : ¬ d = 0 := by omega
      have p1 : IntKind.i64.wrap (z.tdiv d) = z.tdiv d := IntWalk.i64_in _ (by omega)
      have hik : (i : Int) ≤ (k : Int) := by omega
      have hin : (i : Int) < (n : Int) := by omega
      have hin2 : i < n := by omega
      have hi00 : (0 : Int) ≤ (i : Int) := by omega
      have hlw : w.heap.size < wr.heap.size := by omega
      have hlg : g < wr.heap.size := by omega
      clear hcell0
      go_wp2_with fail
      refine wp_region_held_drew (S := fun w' => w'.cell? ⟨w.heap.size, 0, none⟩ = some (.slice (some ⟨g, o, none⟩) n c) ∧ w'.cell? ⟨g, o + i, none⟩ = some (.int .i64 z)) (by kernel_rfl) ⟨hcb, hce⟩ (fun hHeld => ?_)
      refine takeY 0 _ (v := ?_) rfl rfl (by kernel_rfl) (by kernel_rfl) (by kernel_rfl) (fun _ _ _ h => h) (by kernel_rfl) ?_ (by assumption) ?_
      rotate_left 1
      · intro w hSw; (try dsimp only at hSw); go_simp; (try with_reducible rfl)
      try simp only [Act.put, List.setIfInBounds_toArray, List.set_cons_zero, List.set_cons_succ]
      refine takeY 2 _ (v := ?_) rfl rfl (by kernel_rfl) (by kernel_rfl) (by kernel_rfl) (fun _ _ _ h => h) (by kernel_rfl) ?_ (by assumption) ?_
      rotate_left 1
      · intro w hSw; (try dsimp only at hSw); go_simp; (try with_reducible rfl)
      try simp only [Act.put, List.setIfInBounds_toArray, List.set_cons_zero, List.set_cons_succ]
      refine takeY 3 _ (v := ?_) rfl rfl (by kernel_rfl) (by kernel_rfl) (by kernel_rfl) (fun _ _ _ h => h) (by kernel_rfl) ?_ (by assumption) ?_
      rotate_left 1
      · intro w hSw; (try dsimp only at hSw); go_simp; (try with_reducible rfl)
      try simp only [Act.put, List.setIfInBounds_toArray, List.set_cons_zero, List.set_cons_succ]
      refine takeY 4 _ (v := ?_) rfl rfl (by kernel_rfl) (by kernel_rfl) (by kernel_rfl) (fun _ _ _ h => h) (by kernel_rfl) ?_ (by assumption) ?_
      rotate_left 1
      · intro w hSw; (try dsimp only at hSw); go_simp; (try with_reducible rfl)
      try simp only [Act.put, List.setIfInBounds_toArray, List.set_cons_zero, List.set_cons_succ]
      refine takeY 5 _ (v := ?_) rfl rfl (by kernel_rfl) (by kernel_rfl) (by kernel_rfl) (fun _ _ _ h => h) (by kernel_rfl) ?_ (by assumption) ?_
      rotate_left 1
      · intro w hSw; (try dsimp only at hSw); go_simp; (try with_reducible rfl)
      try simp only [Act.put, List.setIfInBounds_toArray, List.set_cons_zero, List.set_cons_succ]
      refine takeY 6 _ (v := ?_) rfl rfl (by kernel_rfl) (by kernel_rfl) (by kernel_rfl) (fun _ _ _ h => h) (by kernel_rfl) ?_ (by assumption) ?_
      rotate_left 1
      · intro w hSw; (try dsimp only at hSw); go_simp; (try with_reducible rfl)
      try simp only [Act.put, List.setIfInBounds_toArray, List.set_cons_zero, List.set_cons_succ]
      refine takeY 7 _ (v := ?_) rfl rfl (by kernel_rfl) (by kernel_rfl) (by kernel_rfl) (fun _ _ _ h => h) (by kernel_rfl) ?_ (by assumption) ?_
      rotate_left 1
      · intro w hSw; (try dsimp only at hSw); go_simp; (try with_reducible rfl)
      try simp only [Act.put, List.setIfInBounds_toArray, List.set_cons_zero, List.set_cons_succ]
      refine takeY 8 _ (v := ?_) rfl rfl (by kernel_rfl) (by kernel_rfl) (by kernel_rfl) (fun _ _ _ h => h) (by kernel_rfl) ?_ (by assumption) ?_
      rotate_left 1
      · intro w hSw; (try dsimp only at hSw); go_simp; (try with_reducible rfl)
      try simp only [Act.put, List.setIfInBounds_toArray, List.set_cons_zero, List.set_cons_succ]
      refine wpAnyH_ready (rs := [1, 9]) (by kernel_rfl) (by simp) ?_
      refine AllReadyH.cons rfl (fun K hK => ?_) (AllReadyH.cons rfl (fun K hK => ?_) AllReadyH.nil)
      · go_simp
        refine hK.out _ (wr.drew) ⟨hcb, hce⟩ (fun hHeld => ?_)
        clear hK K
        try simp only [Act.put, List.setIfInBounds_toArray, List.set_cons_zero, List.set_cons_succ]
        refine wpAnyH_ready (rs := [9]) (by kernel_rfl) (by simp) ?_
        refine AllReadyH.cons rfl (fun K hK => ?_) AllReadyH.nil
        go_simp
        refine hK.out _ _ ⟨((below_box wr _).cell (p := ⟨w.heap.size, 0, none⟩) hlw).trans hcb, ((below_box wr _).cell (p := ⟨g, o + i, none⟩) hlg).trans hce⟩ (fun hHeld => ?_)
        clear hK K
        try simp only [Act.put, List.setIfInBounds_toArray, List.set_cons_zero, List.set_cons_succ]
        refine wpAnyH_ready (rs := [10]) (by kernel_rfl) (by simp) ?_
        refine AllReadyH.cons rfl (fun K hK => ?_) AllReadyH.nil
        try simp only [List.getElem_toArray, List.getElem_cons_succ, List.getElem_cons_zero]
        rw [if_pos (by kernel_rfl)]
        refine wp_append_lies _ (.tmp 20) (.tmp 28) 24 ?a2 (W1.heap.size + 1) 2 i0 (.int .i64 0) 1 8 Try.underlying24 hi0 hy0 hy1 hy2 rfl (by decide) (.slice A' i c') i (((cutL zs k).take i).map (.int .i64)) ?a3 ?a4 ⟨wr.heap.size, 0, none⟩ 1 1 [.int .i64 (z.tdiv d)] ?a5 rfl ?a6 ?a7 (by decide) ?a8 ?a9 ?a10 _ rfl ?a11
        case a2 => rfl
        case a3 => rfl
        case a5 => rfl
        case a4 => have h3 := ho.out.1; rw [HLi.out] at h3; exact World.ownsRow.alloc h3 _
        case a6 => exact World.news_of_block (cs := #[.int .i64 (z.tdiv d)]) (t := 2) (fr := (0, 0)) (heap_alloc_new wr _)
        case a7 => simp [Value.oneCell']
        case a8 => simp only [maxLen]; omega
        case a9 => omega
        case a10 => show W1.heap.size + 1 ≤ (wr.alloc _).heap.size; simp; omega
        intro g2 cap2 w2 hown2 hgrow _ _
        have hbx : Below (W1.heap.size + 1) wr w2 := Below.grown (w := (wr.alloc (.cells #[.int .i64 (z.tdiv d)] 2)).drew) (below_drewN ((Below.refl _ _).alloc (by omega) _) 1) hgrow (by show W1.heap.size + 1 ≤ (wr.alloc _).heap.size; simp; omega) (fun k hk => (Own.lt ho.out.1 k hk).1)
        have c3 : w2.cell? ⟨W1.heap.size, 0, none⟩ = some (.slice A' i c') := by rw [hbx.cell (p := ⟨W1.heap.size, 0, none⟩) (by show W1.heap.size < _; omega)]; exact hco
        have f3 : w2.frozen? ⟨W1.heap.size, 0, none⟩ = false := by rw [hbx.frozen (p := ⟨W1.heap.size, 0, none⟩) (by show W1.heap.size < _; omega)]; exact hcf
        have s2 : w2.cell? ⟨w.heap.size, 0, none⟩ = some (.slice (some ⟨g, o, none⟩) n c) := by rw [hbx.cell (p := ⟨w.heap.size, 0, none⟩) (by show w.heap.size < _; omega)]; exact hcb
        have s3 : w2.cell? ⟨g, o + i, none⟩ = some (.int .i64 z) := by rw [hbx.cell (p := ⟨g, o + i, none⟩) (by show g < _; omega)]; exact hce
        have HO2 : Hid (OwnI w2 (W1.heap.size + 1) w2.heap.size (.slice (some ⟨g2, 0, none⟩) (i + 1) cap2) ((cutL zs k).take (i + 1))) := Lib.hid (OwnI.mk' (n := i + 1) (by rw [HNx.out, List.map_append]; exact hown2))
        have HBX := Lib.hid hbx
        refine hK.out _ _ ⟨s2, s3⟩ (fun hHeld => ?_)
        clear hK K hbx hown2 hgrow
        try simp only [Act.put, List.setIfInBounds_toArray, List.set_cons_zero, List.set_cons_succ]
        refine takeY 11 _ (v := ?_) rfl rfl (by kernel_rfl) (by kernel_rfl) (by kernel_rfl) (fun _ _ _ h => h) (by kernel_rfl) ?_ (by assumption) ?_
        rotate_left 1
        · intro w hSw; (try dsimp only at hSw); go_simp; (try with_reducible rfl)
        try simp only [Act.put, List.setIfInBounds_toArray, List.set_cons_zero, List.set_cons_succ]
        refine wpAnyH_ready (rs := [12]) (by kernel_rfl) (by simp) ?_
        refine AllReadyH.cons rfl (fun K hK => ?_) AllReadyH.nil
        go_simp
        have HC3 : Hid ((w2.setCell ⟨W1.heap.size, 0, none⟩ (.slice (some ⟨g2, 0, none⟩) (i + 1) cap2)).cell? ⟨W1.heap.size, 0, none⟩ = some (.slice (some ⟨g2, 0, none⟩) (i + 1) cap2)) := Lib.hid (by go_simp)
        have HF3 : Hid ((w2.setCell ⟨W1.heap.size, 0, none⟩ (.slice (some ⟨g2, 0, none⟩) (i + 1) cap2)).frozen? ⟨W1.heap.size, 0, none⟩ = false) := Lib.hid (by go_simp)
        have HO3 : Hid (OwnI (w2.setCell ⟨W1.heap.size, 0, none⟩ (.slice (some ⟨g2, 0, none⟩) (i + 1) cap2)) (W1.heap.size + 1) (w2.setCell ⟨W1.heap.size, 0, none⟩ (.slice (some ⟨g2, 0, none⟩) (i + 1) cap2)).heap.size (.slice (some ⟨g2, 0, none⟩) (i + 1) cap2) ((cutL zs k).take (i + 1))) := Lib.hid (by have := HO2.out.kept (keptS w2 (p := ⟨W1.heap.size, 0, none⟩) (by show W1.heap.size < W1.heap.size + 1; omega) (.slice (some ⟨g2, 0, none⟩) (i + 1) cap2)); simpa [World.setCell] using this)
        have HB3 : Hid (Below W1.heap.size W1 (w2.setCell ⟨W1.heap.size, 0, none⟩ (.slice (some ⟨g2, 0, none⟩) (i + 1) cap2))) := Lib.hid ((hb.out.trans (HBX.out.mono (by omega))).setCell (Nat.le_refl _) _)
        have S2 : (w2.setCell ⟨W1.heap.size, 0, none⟩ (.slice (some ⟨g2, 0, none⟩) (i + 1) cap2)).cell? ⟨w.heap.size, 0, none⟩ = some (.slice (some ⟨g, o, none⟩) n c) := by go_simp
        have S3 : (w2.setCell ⟨W1.heap.size, 0, none⟩ (.slice (some ⟨g2, 0, none⟩) (i + 1) cap2)).cell? ⟨g, o + i, none⟩ = some (.int .i64 z) := by go_simp
        refine hK.out _ _ ⟨S2, S3⟩ (fun hHeld => ?_)
        clear hK K
        try simp only [Act.put, List.setIfInBounds_toArray, List.set_cons_zero, List.set_cons_succ]
        refine wpAnyH_done (by kernel_rfl) ?_ _
        go_wp2_with fail
        go_roundw
        case rel => exact ⟨i + 1, some ⟨g2, 0, none⟩, cap2, by omega, by go_num, HC3, HF3, HO3, HB3⟩
        case measure => simp [intOf]; omega
      · go_simp
        refine hK.out _ _ ⟨((below_box wr _).cell (p := ⟨w.heap.size, 0, none⟩) hlw).trans hcb, ((below_box wr _).cell (p := ⟨g, o + i, none⟩) hlg).trans hce⟩ (fun hHeld => ?_)
        clear hK K
        try simp only [Act.put, List.setIfInBounds_toArray, List.set_cons_zero, List.set_cons_succ]
        refine wpAnyH_ready (rs := [1]) (by kernel_rfl) (by simp) ?_
        refine AllReadyH.cons rfl (fun K hK => ?_) AllReadyH.nil
        go_simp
        refine hK.out _ ((wr.alloc (.cells #[.int .i64 (z.tdiv d)] 2)).drew) ⟨((below_box wr _).cell (p := ⟨w.heap.size, 0, none⟩) hlw).trans hcb, ((below_box wr _).cell (p := ⟨g, o + i, none⟩) hlg).trans hce⟩ (fun hHeld => ?_)
        clear hK K
        try simp only [Act.put, List.setIfInBounds_toArray, List.set_cons_zero, List.set_cons_succ]
        refine wpAnyH_ready (rs := [10]) (by kernel_rfl) (by simp) ?_
        refine AllReadyH.cons rfl (fun K hK => ?_) AllReadyH.nil
        try simp only [List.getElem_toArray, List.getElem_cons_succ, List.getElem_cons_zero]
        rw [if_pos (by kernel_rfl)]
        refine wp_append_lies _ (.tmp 20) (.tmp 28) 24 ?b2 (W1.heap.size + 1) 2 i0 (.int .i64 0) 1 8 Try.underlying24 hi0 hy0 hy1 hy2 rfl (by decide) (.slice A' i c') i (((cutL zs k).take i).map (.int .i64)) ?b3 ?b4 ⟨wr.heap.size, 0, none⟩ 1 1 [.int .i64 (z.tdiv d)] ?b5 rfl ?b6 ?b7 (by decide) ?b8 ?b9 ?b10 _ rfl ?b11
        case b2 => rfl
        case b3 => rfl
        case b5 => rfl
        case b4 => have h3 := ho.out.1; rw [HLi.out] at h3; exact World.ownsRow.alloc h3 _
        case b6 => exact World.news_of_block (cs := #[.int .i64 (z.tdiv d)]) (t := 2) (fr := (0, 0)) (heap_alloc_new wr _)
        case b7 => simp [Value.oneCell']
        case b8 => simp only [maxLen]; omega
        case b9 => omega
        case b10 => show W1.heap.size + 1 ≤ (wr.alloc _).heap.size; simp; omega
        intro g2 cap2 w2 hown2 hgrow _ _
        have hbx : Below (W1.heap.size + 1) wr w2 := Below.grown (w := (wr.alloc (.cells #[.int .i64 (z.tdiv d)] 2)).drew) (below_drewN ((Below.refl _ _).alloc (by omega) _) 1) hgrow (by show W1.heap.size + 1 ≤ (wr.alloc _).heap.size; simp; omega) (fun k hk => (Own.lt ho.out.1 k hk).1)
        have c3 : w2.cell? ⟨W1.heap.size, 0, none⟩ = some (.slice A' i c') := by rw [hbx.cell (p := ⟨W1.heap.size, 0, none⟩) (by show W1.heap.size < _; omega)]; exact hco
        have f3 : w2.frozen? ⟨W1.heap.size, 0, none⟩ = false := by rw [hbx.frozen (p := ⟨W1.heap.size, 0, none⟩) (by show W1.heap.size < _; omega)]; exact hcf
        have s2 : w2.cell? ⟨w.heap.size, 0, none⟩ = some (.slice (some ⟨g, o, none⟩) n c) := by rw [hbx.cell (p := ⟨w.heap.size, 0, none⟩) (by show w.heap.size < _; omega)]; exact hcb
        have s3 : w2.cell? ⟨g, o + i, none⟩ = some (.int .i64 z) := by rw [hbx.cell (p := ⟨g, o + i, none⟩) (by show g < _; omega)]; exact hce
        have HO2 : Hid (OwnI w2 (W1.heap.size + 1) w2.heap.size (.slice (some ⟨g2, 0, none⟩) (i + 1) cap2) ((cutL zs k).take (i + 1))) := Lib.hid (OwnI.mk' (n := i + 1) (by rw [HNx.out, List.map_append]; exact hown2))
        have HBX := Lib.hid hbx
        refine hK.out _ _ ⟨s2, s3⟩ (fun hHeld => ?_)
        clear hK K hbx hown2 hgrow
        try simp only [Act.put, List.setIfInBounds_toArray, List.set_cons_zero, List.set_cons_succ]
        refine takeY 11 _ (v := ?_) rfl rfl (by kernel_rfl) (by kernel_rfl) (by kernel_rfl) (fun _ _ _ h => h) (by kernel_rfl) ?_ (by assumption) ?_
        rotate_left 1
        · intro w hSw; (try dsimp only at hSw); go_simp; (try with_reducible rfl)
        try simp only [Act.put, List.setIfInBounds_toArray, List.set_cons_zero, List.set_cons_succ]
        refine wpAnyH_ready (rs := [12]) (by kernel_rfl) (by simp) ?_
        refine AllReadyH.cons rfl (fun K hK => ?_) AllReadyH.nil
        go_simp
        have HC3 : Hid ((w2.setCell ⟨W1.heap.size, 0, none⟩ (.slice (some ⟨g2, 0, none⟩) (i + 1) cap2)).cell? ⟨W1.heap.size, 0, none⟩ = some (.slice (some ⟨g2, 0, none⟩) (i + 1) cap2)) := Lib.hid (by go_simp)
        have HF3 : Hid ((w2.setCell ⟨W1.heap.size, 0, none⟩ (.slice (some ⟨g2, 0, none⟩) (i + 1) cap2)).frozen? ⟨W1.heap.size, 0, none⟩ = false) := Lib.hid (by go_simp)
        have HO3 : Hid (OwnI (w2.setCell ⟨W1.heap.size, 0, none⟩ (.slice (some ⟨g2, 0, none⟩) (i + 1) cap2)) (W1.heap.size + 1) (w2.setCell ⟨W1.heap.size, 0, none⟩ (.slice (some ⟨g2, 0, none⟩) (i + 1) cap2)).heap.size (.slice (some ⟨g2, 0, none⟩) (i + 1) cap2) ((cutL zs k).take (i + 1))) := Lib.hid (by have := HO2.out.kept (keptS w2 (p := ⟨W1.heap.size, 0, none⟩) (by show W1.heap.size < W1.heap.size + 1; omega) (.slice (some ⟨g2, 0, none⟩) (i + 1) cap2)); simpa [World.setCell] using this)
        have HB3 : Hid (Below W1.heap.size W1 (w2.setCell ⟨W1.heap.size, 0, none⟩ (.slice (some ⟨g2, 0, none⟩) (i + 1) cap2))) := Lib.hid ((hb.out.trans (HBX.out.mono (by omega))).setCell (Nat.le_refl _) _)
        have S2 : (w2.setCell ⟨W1.heap.size, 0, none⟩ (.slice (some ⟨g2, 0, none⟩) (i + 1) cap2)).cell? ⟨w.heap.size, 0, none⟩ = some (.slice (some ⟨g, o, none⟩) n c) := by go_simp
        have S3 : (w2.setCell ⟨W1.heap.size, 0, none⟩ (.slice (some ⟨g2, 0, none⟩) (i + 1) cap2)).cell? ⟨g, o + i, none⟩ = some (.int .i64 z) := by go_simp
        refine hK.out _ _ ⟨S2, S3⟩ (fun hHeld => ?_)
        clear hK K
        try simp only [Act.put, List.setIfInBounds_toArray, List.set_cons_zero, List.set_cons_succ]
        refine wpAnyH_done (by kernel_rfl) ?_ _
        go_wp2_with fail
        go_roundw
        case rel => exact ⟨i + 1, some ⟨g2, 0, none⟩, cap2, by omega, by go_num, HC3, HF3, HO3, HB3⟩
        case measure => simp [intOf]; omega
    · obtain rfl : i = k + 1 := by omega
      have hkk : ¬ ((k + 1 : Nat) : Int) ≤ (k : Int) := by omega
      have E : Hid ((cutL zs k).take (k + 1) = cutL zs k) := Lib.hid (List.take_of_length_le (by rw [HLc.out]; omega))
      obtain ⟨l2, l3, l4⟩ := r1.out
      have m2 : wr.cell? ⟨w.heap.size + 1, 0, none⟩ = some (.slice none 0 0) := by rw [hb.out.cell (p := ⟨w.heap.size + 1, 0, none⟩) l4]; exact l2
      have m3 : wr.frozen? ⟨w.heap.size + 1, 0, none⟩ = false := by rw [hb.out.frozen (p := ⟨w.heap.size + 1, 0, none⟩) l4]; exact l3
      clear l2 l3
      go_wp2_with fail
      have cr : (wr.setCell ⟨w.heap.size + 1, 0, none⟩ (.slice A' (k + 1) c')).cell? ⟨w.heap.size + 1, 0, none⟩ = some (.slice A' (k + 1) c') := by go_simp
      refine bodyPost_ret (v := .agg #[.slice A' (k + 1) c']) (by simp [results, Try.results83, go_sem, cr]) rfl ⟨_, rfl, ?_, ?_⟩
      · have h5 := (own_lessB ho.out (lo' := w.heap.size + 2) (by omega)).kept (keptS wr (p := ⟨w.heap.size + 1, 0, none⟩) (by show w.heap.size + 1 < w.heap.size + 2; omega) (.slice A' (k + 1) c'))
        rw [E.out] at h5
        have h6 := own_lessB h5 (lo' := w.heap.size) (by omega)
        simpa [World.setCell] using h6
      · exact (B1.out.trans (hb.out.mono B1.out.size)).setCell (by show w.heap.size ≤ w.heap.size + 1; omega) _
end Go.Proofs.Ytkhdpcofcafknaa
