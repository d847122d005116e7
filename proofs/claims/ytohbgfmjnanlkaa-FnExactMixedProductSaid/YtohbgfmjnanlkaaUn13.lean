/- Unloading, the program's: raising by joint steps. Conditions: stated at each theorem. -/
import Derived.Test.YtohbgfmjnanlkaaUn12
import Derived.Deep.LoopGhost
namespace Go.Proofs.Ytohbgfmjnanlkaa
open Go.ChangeShapes Go.WideShapes Go.ChangeAt Go.RowKit Go.Deep
set_option linter.unusedVariables false
set_option linter.unusedSimpArgs false

set_option maxRecDepth 100000 in
set_option maxHeartbeats 4000000 in
theorem raise2_any (lo ub bo bj g n mo bn co cm cn bp N cp : Nat) (P S : List Int) (O st : Nat → Int) (J : Nat → Bool) (L : List Nat) (w : World) (hU : US w lo ub bo bj g n mo bn co cm cn P S O J) (hC : ClP P S n) (hL : L.length = N)
    (hp : ∀ t p, L[t]? = some p → p < n ∧ w.cell? ⟨bp, t, none⟩ = some (.int .i64 (p : Int))) (hpf : Far w lo ub bo bj bp) (hB : ∀ t x, x < n → -50000000000000000 ≤ raF O st (L.take t) x ∧ raF O st (L.take t) x ≤ 50000000000000000)
    (hst : ∀ p (V : World) (be c4 : Nat), p ∈ L → RX V ub mo be bj n cm c4 P S (exU P S n O) J → Calls Try.prog 147 #[.pointer (some ⟨ub, 0, none⟩), .int .i64 p] V fun e w' => e = .returned (.int .i64 (st p)) ∧ Below V.heap.size V w') (hN : N ≤ 1000000) :
    Calls Try.prog 146 #[.pointer (some ⟨ub, 0, none⟩), .slice (some ⟨bp, 0, none⟩) N cp, .func (.func 147) #[.pointer (some ⟨ub, 0, none⟩)] #[]] w fun e w' => e = .returned (.tuple #[]) ∧ US w' lo ub bo bj g n mo bn co cm cn P S (raF O st L) J ∧ U3 ub bo bj w w' := by
  obtain ⟨hsta, ⟨A1, c1, A4, c4, l1, h1, l4, h4, hux, ho1, ho4, hl1, hl4⟩, hord, hjoi⟩ := hU
  have HST := Lib.hid hst
  have HS := Lib.hid hsta; have HUX := Lib.hid hux; have HO1 := Lib.hid ho1; have HO4 := Lib.hid ho4; have HOR := Lib.hid hord; have HJ := Lib.hid hjoi; have HLL := Lib.hid (And.intro hl1 hl4)
  have HP := Lib.hid hp; have HPF := Lib.hid hpf; have HB := Lib.hid hB; have HC := Lib.hid hC
  have HLN := Lib.hid hL
  have HOW0 : Hid (OwnI w bo (bo + 1) (.slice (some ⟨bo, 0, none⟩) n co) (fnL (raF O st (L.take 0)) n)) := Lib.hid (by rw [raF_zero]; exact hord)
  have HK0 : Hid (Only bo (bo + 1) w w) := Lib.hid (Only.refl _ _ _)
  have hbl := hsta.olo.2
  have hbu : ub ≠ bo := hsta.d1
  clear hsta hux ho1 ho4 hl1 hl4 hord hjoi hp hpf hB hst hC hL
  go_enter Try.func146, Try.ntmps146
  go_wp2_with fail
  go_loopw [10] (fun vi wr => ∃ (t : Nat), t ≤ N ∧ vi = .int .i64 t ∧ Hid (OwnI wr bo (bo + 1) (.slice (some ⟨bo, 0, none⟩) n co) (fnL (raF O st (L.take t)) n)) ∧ Hid (Only bo (bo + 1) w wr)) (fun vi _ => N - (intOf vi).toNat)
  case atStart => exact ⟨0, by omega, rfl, HOW0, HK0⟩
  case round =>
    obtain ⟨t, ht, rfl, how, hk⟩ := hrel
    by_cases htN : t < N
    · have htN2 : (t : Int) < (N : Int) := by omega
      obtain ⟨p, hLp⟩ : ∃ p, L[t]? = some p := ⟨L[t]'(by rw [HLN.out]; exact htN), List.getElem?_eq_getElem _⟩
      obtain ⟨hpn, hpc⟩ := HP.out t p hLp
      have d0 := (only_cell hk.out HPF.out.2.1 (by have := HPF.out.2.2.2.1; omega)).trans hpc
      have hx := HUX.out.of_block (hk.out.block ub HUX.out.lt (by omega)) hk.out.size
      have u3 := hx.c3
      have hxl := hx.lt
      have hpn2 : (p : Int) < (n : Int) := by omega
      have HOWR := Lib.hid how.out
      obtain ⟨d, e1, hd1, hd2, hcd, hfd⟩ := own_at how.out (fnL_len _ _) hpn
      simp only [Option.some.injEq, Addr.mk.injEq, and_true] at e1
      subst e1
      rw [fnL_at hpn] at hcd
      have hb1 := HB.out t p hpn
      have hb2 := HB.out (t + 1) p hpn
      rw [raF_next hLp] at hb2
      have hup : updF (raF O st (L.take t)) p (st p) p = raF O st (L.take t) p + st p := by unfold updF; rw [if_pos rfl]
      rw [hup] at hb2
      have HU0 : Hid (U3 ub bo bj w wr) := Lib.hid ⟨hk.out.os, hk.out.tape, hk.out.output, hk.out.size, fun b hb _ h2 _ => hk.out.block b hb (by omega)⟩
      obtain ⟨be, hrx⟩ := rx_of (HS.out.keep HU0.out) hx (HO4.out.kept (hk.out.kept (by have := HLL.out.2.2.1; omega) HO4.out.2.2)) (HJ.out.of_block (hk.out.block bj HS.out.jlo.2 (by have := HS.out.d3; omega))) (by have := HC.out.lo; omega)
      have hcl0 := HST.out p wr.drew be c4 (List.mem_of_getElem? hLp) (hrx.below (k := wr.heap.size) (drewN_below wr 1) (Nat.le_refl _))
      obtain ⟨y, hy⟩ : ∃ y, raF O st (L.take t) p = y := ⟨_, rfl⟩
      obtain ⟨s, hs⟩ : ∃ s, st p = s := ⟨_, rfl⟩
      have HY := Lib.hid hy; have HSS := Lib.hid hs
      rw [hy] at hcd hb1 hb2
      rw [hs] at hb2 hcl0
      have HCL := Lib.hid hcl0
      have p1 : IntKind.i64.wrap (y + s) = y + s := IntWalk.i64_in _ (by omega)
      clear hx hy hs hup hrx hcl0 how hb2
      go_wp2_with fail
      refine wp_region_held_drew (S := fun w' => w'.cell? ⟨ub, 3, none⟩ = some (.slice (some ⟨bo, 0, none⟩) n co)) (by kernel_rfl) (u3) (fun hHeld => ?_)
      refine takeY 0 _ (v := ?_) rfl rfl (by kernel_rfl) (by kernel_rfl) (by kernel_rfl) (fun _ _ _ h => h) (by kernel_rfl) ?_ (by assumption) ?_
      rotate_left 1
      · intro w hSw; (try dsimp only at hSw); go_simp; (try with_reducible rfl)
      try simp only [Act.put, List.setIfInBounds_toArray, List.set_cons_zero, List.set_cons_succ]
      refine takeY 1 _ (v := ?_) rfl rfl (by kernel_rfl) (by kernel_rfl) (by kernel_rfl) (fun _ _ _ h => h) (by kernel_rfl) ?_ (by assumption) ?_
      rotate_left 1
      · intro w hSw; (try dsimp only at hSw); go_simp; (try with_reducible rfl)
      try simp only [Act.put, List.setIfInBounds_toArray, List.set_cons_zero, List.set_cons_succ]
      refine takeY 2 _ (v := ?_) rfl rfl (by kernel_rfl) (by kernel_rfl) (by kernel_rfl) (fun _ _ _ h => h) (by kernel_rfl) ?_ (by assumption) ?_
      rotate_left 1
      · intro w hSw; (try dsimp only at hSw); go_simp; (try with_reducible rfl)
      try simp only [Act.put, List.setIfInBounds_toArray, List.set_cons_zero, List.set_cons_succ]
      refine takeY 3 _ (v := ?_) rfl rfl (by kernel_rfl) (by kernel_rfl) (by kernel_rfl) (fun _ _ _ h => h) (by kernel_rfl) ?_ (by assumption) ?_
      rotate_left 1
      · intro w hSw; (try dsimp only at hSw); go_simp; (try with_reducible rfl)
      try simp only [Act.put, List.setIfInBounds_toArray, List.set_cons_zero, List.set_cons_succ]
      refine takeY 4 _ (v := ?_) rfl rfl (by kernel_rfl) (by kernel_rfl) (by kernel_rfl) (fun _ _ _ h => h) (by kernel_rfl) ?_ (by assumption) ?_
      rotate_left 1
      · intro w hSw; (try dsimp only at hSw); go_simp; (try with_reducible rfl)
      try simp only [Act.put, List.setIfInBounds_toArray, List.set_cons_zero, List.set_cons_succ]
      refine takeY 5 _ (v := ?_) rfl rfl (by kernel_rfl) (by kernel_rfl) (by kernel_rfl) (fun _ _ _ h => h) (by kernel_rfl) ?_ (by assumption) ?_
      rotate_left 1
      · intro w hSw; (try dsimp only at hSw); go_simp; (try with_reducible rfl)
      try simp only [Act.put, List.setIfInBounds_toArray, List.set_cons_zero, List.set_cons_succ]
      refine takeY 7 _ (v := ?_) rfl rfl (by kernel_rfl) (by kernel_rfl) (by kernel_rfl) (fun _ _ _ h => h) (by kernel_rfl) ?_ (by assumption) ?_
      rotate_left 1
      · intro w hSw; (try dsimp only at hSw); go_simp; (try with_reducible rfl)
      try simp only [Act.put, List.setIfInBounds_toArray, List.set_cons_zero, List.set_cons_succ]
      refine takeY 8 _ (v := ?_) rfl rfl (by kernel_rfl) (by kernel_rfl) (by kernel_rfl) (fun _ _ _ h => h) (by kernel_rfl) ?_ (by assumption) ?_
      rotate_left 1
      · intro w hSw; (try dsimp only at hSw); go_simp; (try with_reducible rfl)
      try simp only [Act.put, List.setIfInBounds_toArray, List.set_cons_zero, List.set_cons_succ]
      refine wpAnyH_ready (rs := [6, 9]) (by kernel_rfl) (by simp) ?_
      refine AllReadyH.cons rfl (fun K hK => ?_) (AllReadyH.cons rfl (fun K hK => ?_) AllReadyH.nil)
      · go_simp
        refine hK.out _ (wr.drew) u3 (fun hHeld => ?_)
        clear hK K
        try simp only [Act.put, List.setIfInBounds_toArray, List.set_cons_zero, List.set_cons_succ]
        refine wpAnyH_ready (rs := [9]) (by kernel_rfl) (by simp) ?_
        refine AllReadyH.cons rfl (fun K hK => ?_) AllReadyH.nil
        go_simp
        refine HCL.out.mono ?_
        rintro e w2 ⟨rfl, hb2⟩
        have hbw : Below wr.heap.size wr w2 := below_un hb2
        have hbb : w2.heap[bo]? = wr.heap[bo]? := hbw.block bo (by have := hk.out.size; omega)
        have hcd2 : w2.cell? ⟨bo, p, none⟩ = some (.int .i64 y) := (by simp [World.cell?, hbb] : w2.cell? ⟨bo, p, none⟩ = wr.cell? ⟨bo, p, none⟩).trans hcd
        have hfd2 : w2.frozen? ⟨bo, p, none⟩ = false := (by simp [World.frozen?, hbb] : w2.frozen? ⟨bo, p, none⟩ = wr.frozen? ⟨bo, p, none⟩).trans hfd
        have u32 := (hbw.cell (p := ⟨ub, 3, none⟩) hxl).trans u3
        have HNW : Hid (OwnI (w2.setCell ⟨bo, p, none⟩ (.int .i64 (y + s))) bo (bo + 1) (.slice (some ⟨bo, 0, none⟩) n co) (fnL (raF O st (L.take (t + 1))) n)) := Lib.hid (by have h6 := own_store (w := w2) (j := p) (HOWR.out.stay hbw) (fnL_len _ n) (y + s); rw [← HY.out, ← HSS.out, fnL_set (st p) hpn, ← raF_next hLp] at h6; rw [← HY.out, ← HSS.out]; exact h6)
        have HKW : Hid (Only bo (bo + 1) w (w2.setCell ⟨bo, p, none⟩ (.int .i64 (y + s)))) := Lib.hid ((hk.out.trans (only_below hbw)).trans (only_setU bo p _))
        clear hb2 hbw hbb
        refine hK.out _ (w2) u32 (fun hHeld => ?_)
        clear hK K
        try simp only [Act.put, List.setIfInBounds_toArray, List.set_cons_zero, List.set_cons_succ]
        refine takeY 10 _ (v := ?_) rfl rfl (by kernel_rfl) (by kernel_rfl) (by kernel_rfl) (fun _ _ _ h => h) (by kernel_rfl) ?_ (by assumption) ?_
        rotate_left 1
        · intro w hSw; (try dsimp only at hSw); go_simp; (try with_reducible rfl)
        try simp only [Act.put, List.setIfInBounds_toArray, List.set_cons_zero, List.set_cons_succ]
        refine takeY 11 _ (v := ?_) rfl rfl (by kernel_rfl) (by kernel_rfl) (by kernel_rfl) (fun _ _ _ h => h) (by kernel_rfl) ?_ (by assumption) ?_
        rotate_left 1
        · intro w hSw; (try dsimp only at hSw); go_simp; (try with_reducible rfl)
        try simp only [Act.put, List.setIfInBounds_toArray, List.set_cons_zero, List.set_cons_succ]
        refine wpAnyH_ready (rs := [12]) (by kernel_rfl) (by simp) ?_
        refine AllReadyH.cons rfl (fun K hK => ?_) AllReadyH.nil
        go_simp
        refine hK.out _ (w2.setCell ⟨bo, p, none⟩ (.int .i64 (y + s))) (by go_simp) (fun hHeld => ?_)
        clear hK K
        try simp only [Act.put, List.setIfInBounds_toArray, List.set_cons_zero, List.set_cons_succ]
        refine wpAnyH_done (by kernel_rfl) ?_ _
        go_wp2_with fail
        go_roundw
        case rel => exact ⟨t + 1, by omega, by go_num, HNW, HKW⟩
        case measure => simp [intOf]; omega
      · go_simp
        refine HCL.out.mono ?_
        rintro e w2 ⟨rfl, hb2⟩
        have hbw : Below wr.heap.size wr w2 := below_un hb2
        have hbb : w2.heap[bo]? = wr.heap[bo]? := hbw.block bo (by have := hk.out.size; omega)
        have hcd2 : w2.cell? ⟨bo, p, none⟩ = some (.int .i64 y) := (by simp [World.cell?, hbb] : w2.cell? ⟨bo, p, none⟩ = wr.cell? ⟨bo, p, none⟩).trans hcd
        have hfd2 : w2.frozen? ⟨bo, p, none⟩ = false := (by simp [World.frozen?, hbb] : w2.frozen? ⟨bo, p, none⟩ = wr.frozen? ⟨bo, p, none⟩).trans hfd
        have u32 := (hbw.cell (p := ⟨ub, 3, none⟩) hxl).trans u3
        have HNW : Hid (OwnI (w2.setCell ⟨bo, p, none⟩ (.int .i64 (y + s))) bo (bo + 1) (.slice (some ⟨bo, 0, none⟩) n co) (fnL (raF O st (L.take (t + 1))) n)) := Lib.hid (by have h6 := own_store (w := w2) (j := p) (HOWR.out.stay hbw) (fnL_len _ n) (y + s); rw [← HY.out, ← HSS.out, fnL_set (st p) hpn, ← raF_next hLp] at h6; rw [← HY.out, ← HSS.out]; exact h6)
        have HKW : Hid (Only bo (bo + 1) w (w2.setCell ⟨bo, p, none⟩ (.int .i64 (y + s)))) := Lib.hid ((hk.out.trans (only_below hbw)).trans (only_setU bo p _))
        clear hb2 hbw hbb
        refine hK.out _ (w2) u32 (fun hHeld => ?_)
        clear hK K
        try simp only [Act.put, List.setIfInBounds_toArray, List.set_cons_zero, List.set_cons_succ]
        refine wpAnyH_ready (rs := [6]) (by kernel_rfl) (by simp) ?_
        refine AllReadyH.cons rfl (fun K hK => ?_) AllReadyH.nil
        go_simp
        refine hK.out _ (w2) u32 (fun hHeld => ?_)
        clear hK K
        try simp only [Act.put, List.setIfInBounds_toArray, List.set_cons_zero, List.set_cons_succ]
        refine takeY 10 _ (v := ?_) rfl rfl (by kernel_rfl) (by kernel_rfl) (by kernel_rfl) (fun _ _ _ h => h) (by kernel_rfl) ?_ (by assumption) ?_
        rotate_left 1
        · intro w hSw; (try dsimp only at hSw); go_simp; (try with_reducible rfl)
        try simp only [Act.put, List.setIfInBounds_toArray, List.set_cons_zero, List.set_cons_succ]
        refine takeY 11 _ (v := ?_) rfl rfl (by kernel_rfl) (by kernel_rfl) (by kernel_rfl) (fun _ _ _ h => h) (by kernel_rfl) ?_ (by assumption) ?_
        rotate_left 1
        · intro w hSw; (try dsimp only at hSw); go_simp; (try with_reducible rfl)
        try simp only [Act.put, List.setIfInBounds_toArray, List.set_cons_zero, List.set_cons_succ]
        refine wpAnyH_ready (rs := [12]) (by kernel_rfl) (by simp) ?_
        refine AllReadyH.cons rfl (fun K hK => ?_) AllReadyH.nil
        go_simp
        refine hK.out _ (w2.setCell ⟨bo, p, none⟩ (.int .i64 (y + s))) (by go_simp) (fun hHeld => ?_)
        clear hK K
        try simp only [Act.put, List.setIfInBounds_toArray, List.set_cons_zero, List.set_cons_succ]
        refine wpAnyH_done (by kernel_rfl) ?_ _
        go_wp2_with fail
        go_roundw
        case rel => exact ⟨t + 1, by omega, by go_num, HNW, HKW⟩
        case measure => simp [intOf]; omega
    · obtain rfl : t = N := by omega
      have HOE : Hid (OwnI wr bo (bo + 1) (.slice (some ⟨bo, 0, none⟩) n co) (fnL (raF O st L) n)) := Lib.hid (by
        have h6 := how.out
        rw [List.take_of_length_le (by rw [HLN.out]; exact Nat.le_refl _)] at h6
        exact h6)
      have HKE := Lib.hid hk.out
      have HU0 : Hid (U3 ub bo bj w wr) := Lib.hid ⟨hk.out.os, hk.out.tape, hk.out.output, hk.out.size, fun b hb _ h2 _ => hk.out.block b hb (by omega)⟩
      have HSR : Hid (UA wr lo ub bo bj g n mo bn P S) := Lib.hid (HS.out.keep HU0.out)
      have HXR := Lib.hid (HUX.out.of_block (hk.out.block ub HUX.out.lt (by omega)) hk.out.size)
      have hgr : g < wr.heap.size := by have := HSR.out.glo; have := HSR.out.ulo; omega
      have hgu : g ≠ ub := by have := HSR.out.glo; have := HSR.out.ulo; omega
      clear how hk
      go_wp2_with fail
      refine (update_any ub g n bo co bo (bo + 1) P S (raF O st L) _ _ _ _ _ wr HXR.out HSR.out.pts hgr hgu HC.out HOE.out (fun x hx => by
        have := HB.out t x hx
        rw [List.take_of_length_le (by rw [HLN.out]; exact Nat.le_refl _)] at this; exact this)).mono ?_
      rintro e w' ⟨B1, d1, B4, d4, m, rfl, hux2, hq1, hq4, hon, hm1, hm2⟩
      have HX2 := Lib.hid hux2; have HQ1 := Lib.hid hq1; have HQ4 := Lib.hid hq4; have HON := Lib.hid hon; have HMM := Lib.hid (And.intro hm1 hm2)
      clear hux2 hq1 hq4 hon hm1 hm2
      go_wp2_with fail
      go_end0
      have hmm := HMM.out
      have HT : U3 ub bo bj w w' := HU0.out.trans (U3.ofOnly HON.out)
      have ha := HSR.out
      have h1 := ha.ulo; have h2 := ha.olo; have h3 := ha.jlo
      refine ⟨rfl, ⟨HS.out.keep HT, ⟨B1, d1, B4, d4, wr.heap.size, m, m, w'.heap.size, HX2.out, HQ1.out, HQ4.out, ⟨by omega, by omega, by omega, by omega⟩, ⟨by omega, by omega, by omega⟩⟩, ?_, ?_⟩, HT⟩
      · exact HOE.out.kept (HON.out.kept (by omega) (by omega))
      · have hjb : w'.heap[bj]? = w.heap[bj]? := by
          rw [HON.out.block bj (by omega) (by have := ha.d2; omega), HKE.out.block bj (HS.out.jlo.2) (by have := ha.d3; omega)]
        exact HJ.out.of_block hjb

end Go.Proofs.Ytohbgfmjnanlkaa
