/- BranchOfGenerators, the program's: contract. Conditions: stated at each theorem. -/
import Derived.Test.YtncgkoanckefmaaGbM
import Derived.Test.YtncgkoanckefmaaBrY
import Derived.Test.YtncgkoanckefmaaSteps
namespace Go.Proofs.Ytncgkoanckefmaa
open Go.ChangeShapes Go.WideShapes Go.ChangeAt Go.RowKit
set_option linter.unusedVariables false
set_option linter.unusedSimpArgs false

theorem areGen_any (A : Option Addr) (n c : Nat) (zs : List Int) (w : World) (B : Nat) (hr : RI w B A n zs) (hl : zs.length = n) (hn : n ≤ 9223372036854775807) (hw : ∀ z ∈ zs, (Lit.int .i64 z).wf = true) :
    Calls Try.prog 109 #[.slice A n c] w fun e w' => e = .returned (.bool (ogB zs)) ∧ w = w' := by
  have HW := Lib.hid hw
  have H0 := Lib.hid hr
  have HL := Lib.hid hl
  clear hr hl hw
  by_cases h0 : n = 0
  · have E : Hid (ogB zs = false) := Lib.hid (by have := HL.out; simp [ogB, this, h0])
    subst h0
    go_enter Try.func109, Try.ntmps109
    go_wp2
    go_ret
    exact ⟨by rw [E.out]; rfl, rfl⟩
  by_cases h8 : 8 < n
  · have E : Hid (ogB zs = false) := Lib.hid (by have := HL.out; have h9 : ¬ (1 ≤ zs.length ∧ zs.length ≤ 8) := by omega
                                                 unfold ogB; rw [decide_eq_false h9]; rfl)
    have g1 : ((n : Int) == 0) = false := by simp; omega
    have g2 : (8 : Int) < (n : Int) := by omega
    have g3 : ¬ (n : Int) = 0 := by omega
    go_enter Try.func109, Try.ntmps109
    go_wp2
    go_ret
    exact ⟨by rw [E.out]; rfl, rfl⟩
  have E : Hid (ogB zs = agL zs) := Lib.hid (by have := HL.out; have h9 : (1 ≤ zs.length ∧ zs.length ≤ 8) := by omega
                                                unfold ogB; rw [decide_eq_true h9]; rfl)
  have g1 : ((n : Int) == 0) = false := by simp; omega
  have g2 : ¬ (8 : Int) < (n : Int) := by omega
  have g3 : ¬ (n : Int) = 0 := by omega
  go_enter Try.func109, Try.ntmps109
  go_wp2
  go_loop [15] (fun vi => ∃ k : Nat, k ≤ n ∧ vi = .int .i64 k ∧ Hid (agL zs = agL (zs.drop k))) (fun vi => n - (intOf vi).toNat)
  case atStart => exact ⟨0, by omega, rfl, Lib.hid (by simp)⟩
  case round =>
    obtain ⟨k, hk, rfl, hg⟩ := hrel
    by_cases hlt : k < n
    · obtain ⟨a, rfl, hal, hcell0⟩ := H0.out.2 k hlt
      have HD := Lib.hid (drop_at HL.out hlt)
      have hcell : w.cell? (a.add k) = some (.int .i64 (zs[k]?.getD 0)) := by simpa using hcell0
      generalize zs[k]?.getD 0 = z at *
      have hin : (k : Int) < (n : Int) := by omega
      clear hcell0
      by_cases h1 : 1 ≤ z
      · by_cases h2 : z ≤ 1000000
        · have HG : Hid (agL zs = agL (zs.drop (k + 1))) := Lib.hid (by rw [hg.out, HD.out, ag_yes ⟨h1, h2⟩])
          have t1 : ¬ z < 1 := by omega
          have t2 : ¬ 1000000 < z := by omega
          go_wp2
          go_round
          case rel => exact ⟨k + 1, by omega, by go_num, HG⟩
          case measure => simp [intOf]; omega
        · have HF : Hid (ogB zs = false) := Lib.hid (by rw [E.out, hg.out, HD.out, ag_no (by omega)])
          have t1 : ¬ z < 1 := by omega
          have t2 : 1000000 < z := by omega
          go_wp2
          go_ret
          exact ⟨by rw [HF.out]; rfl, rfl⟩
      · have HF : Hid (ogB zs = false) := Lib.hid (by rw [E.out, hg.out, HD.out, ag_no (by omega)])
        have t1 : z < 1 := by omega
        go_wp2
        go_ret
        exact ⟨by rw [HF.out]; rfl, rfl⟩
    · obtain rfl : k = n := by omega
      have HF : Hid (ogB zs = true) := Lib.hid (by rw [E.out, hg.out, drop_end HL.out (Nat.le_refl _)]; rfl)
      go_wp2
      go_ret
      exact ⟨by rw [HF.out]; rfl, rfl⟩
theorem areGen_if (A : Option Addr) (n c : Nat) (zs : List Int) (w : World) (B : Nat) (b : Bool) (hr : RI w B A n zs) (hl : zs.length = n) (hn : n ≤ 9223372036854775807) (hw : ∀ z ∈ zs, (Lit.int .i64 z).wf = true) (hb : ogB zs = b) :
    Calls Try.prog 109 #[.slice A n c] w fun e w' => e = .returned (.bool b) ∧ w = w' := by
  subst hb; exact areGen_any A n c zs w B hr hl hn hw

set_option maxRecDepth 100000 in
set_option maxHeartbeats 2000000 in
theorem implBranchOfGenerators_any (v : Value) (zs : List Int) (w : World) (h : ReadI w w.heap.size v zs) (hn : zs.length ≤ 1048576) (hw : ∀ z ∈ zs, (Lit.int .i64 z).wf = true) :
    Calls Try.prog 60 #[v] w (AnsRC w (bgA zs) (bgC zs)) := by
  obtain ⟨n, A, c, rfl, hr, HL, HN, hnc, HF, hcm⟩ := h.split2
  rw [HL.out] at hn
  obtain ⟨W0, HE⟩ : ∃ W, W = w.alloc (.cells #[.slice none 0 0] 28) := ⟨_, rfl⟩
  have hS0 : Start1 w W0 := by rw [HE]; exact Start1.new _
  have hb0 := hS0.below
  have H0 := Lib.hid (hr.below hb0)
  have S0 := Lib.hid hS0
  have HW := Lib.hid hw
  have HEQ := Lib.hid HE
  rcases bool_fs (ogB zs) with hok | hok
  · have E := Lib.hid (bg_no hok)
    have OK := Lib.hid hok
    clear h hr hb0 hS0 hw HE hok
    go_enter Try.func60, Try.ntmps60
    go_wp2_with fail
    rw [← HEQ.out]
    obtain ⟨l2, l3, l4⟩ := S0.out.later (Below.refl _ _)
    refine (areGen_if _ _ _ zs _ _ false H0.out HL.out (by omega) HW.out OK.out).mono ?_
    rintro e w1 ⟨rfl, rfl⟩
    go_wp2_with fail
    have cr : (W0.setCell ⟨w.heap.size, 0, none⟩ (.slice none 0 0)).cell? ⟨w.heap.size, 0, none⟩ = some (.slice none 0 0) := by go_simp
    refine bodyPost_ret (v := .tuple #[.agg #[.slice none 0 0], .int .i64 2]) (by simp [results, Try.results60, go_sem, cr]) rfl ?_
    exact ansR_endG _ (Nat.le_refl _) E.out.1.symm E.out.2.symm (OwnI.nil _ _) (by intro h; cases h) S0.out.below _
  have OK := Lib.hid hok
  have hog := ogB_yes hok
  have hn8 : 1 ≤ n ∧ n ≤ 8 := by have := HL.out; omega
  have HZ := Lib.hid (agL_all hog.2)
  have HWL := Lib.hid (tgB_wf hok)
  have hn0 : 0 < n := by omega
  obtain ⟨a, rfl, hlt0, hc0⟩ := hr.2 0 hn0
  obtain ⟨g, o, rfl⟩ := HF.out a rfl
  have hgw : g < w.heap.size := hlt0
  have hcw : W0.cell? ⟨g, o, none⟩ = some (.int .i64 (zs[0]?.getD 0)) := by
    have h2 : (⟨g, o, none⟩ : Addr).add 0 = ⟨g, o, none⟩ := by rw [add_lit]; rfl
    rw [h2] at hc0
    rw [hb0.cell (p := ⟨g, o, none⟩) hgw]; simpa using hc0
  have hmk := fun (W : World) => run_make_row' (P := Try.prog) 22 2 (.int .i64 0) 8 Try.underlying22 int_info rfl .i64 .i64 n (by omega) (by omega) W
  have hz0 := HZ.out (zs[0]?.getD 0) (by have := HL.out; simp [show 0 < zs.length by omega])
  have HEQ0 : Hid (tgB zs = [] ++ tgL (zs[0]?.getD 0) 0 (zs.drop 0)) := Lib.hid (by simp [tgB])
  have HT0 : Hid (TSt (zs[0]?.getD 0) 0 0) := Lib.hid ⟨hz0, by omega, by omega⟩
  obtain ⟨z0, hz00⟩ : ∃ z, zs[0]?.getD 0 = z := ⟨_, rfl⟩
  rw [hz00] at hcw hz0 HEQ0 HT0
  have HS0 := Lib.hid hS0.size
  have hs0' : w.heap.size + 1 ≤ W0.heap.size := by rw [hS0.size]; exact Nat.le_refl _
  have hgW0 : g < W0.heap.size := by omega
  clear hz00 h hr hc0 hlt0 hok hog hw HE hb0 hS0
  go_enter Try.func60, Try.ntmps60
  go_wp2_with fail
  rw [← HEQ.out]
  obtain ⟨l2, l3, l4⟩ := S0.out.later (Below.refl _ _)
  refine (areGen_if _ _ _ zs _ _ true H0.out HL.out (by omega) HW.out OK.out).mono ?_
  rintro e w1 ⟨rfl, rfl⟩
  go_wp2_with (go_at_call 110; refine (shifts_any _ _).mono ?_; rintro e' w' ⟨rfl, rfl⟩)
  clear hmk l2 l3 l4
  have hb1 : Below W0.heap.size W0 ((W0.alloc (.cells (madeCells #[.int .i64 0] n) 2)).alloc (.cells #[.int .i64 z0] 2)) := ((Below.refl _ _).alloc (Nat.le_refl _) _).alloc (by simp) _
  have hrow1 : World.rowIs ((W0.alloc (.cells (madeCells #[.int .i64 0] n) 2)).alloc (.cells #[.int .i64 z0] 2)) W0.heap.size 2 n (fun x => if x < 0 then .int .i64 ((tgB zs).getD x 0) else .int .i64 0) := ((World.rowIs_made _ _ n _).alloc _).congr (fun i hi => by simp)
  have hc1 : World.cell? ((W0.alloc (.cells (madeCells #[.int .i64 0] n) 2)).alloc (.cells #[.int .i64 z0] 2)) ⟨W0.heap.size + 1, 0, none⟩ = some (.int .i64 z0) ∧ World.frozen? ((W0.alloc (.cells (madeCells #[.int .i64 0] n) 2)).alloc (.cells #[.int .i64 z0] 2)) ⟨W0.heap.size + 1, 0, none⟩ = false := by constructor <;> go_simp
  have hs1 : Array.size (World.heap ((W0.alloc (.cells (madeCells #[.int .i64 0] n) 2)).alloc (.cells #[.int .i64 z0] 2))) = W0.heap.size + 2 := by simp
  generalize (W0.alloc (.cells (madeCells #[.int .i64 0] n) 2)).alloc (.cells #[.int .i64 z0] 2) = W1 at *
  go_loopw [6, 23] (fun vs vi wr => ∃ (k : Nat) (e s : Int) (L : List Int), k ≤ n ∧ TSt e s k ∧ vs = .int .i64 s ∧ vi = .int .i64 k ∧ Hid (L.length = k) ∧ Hid (tgB zs = L ++ tgL e s (zs.drop k)) ∧ Hid (wr.rowIs W0.heap.size 2 n (fun x => if x < k then .int .i64 ((tgB zs).getD x 0) else .int .i64 0)) ∧ (wr.cell? ⟨W0.heap.size + 1, 0, none⟩ = some (.int .i64 e) ∧ wr.frozen? ⟨W0.heap.size + 1, 0, none⟩ = false) ∧ W0.heap.size + 2 ≤ wr.heap.size ∧ Hid (Below W0.heap.size W0 wr)) (fun _ vi _ => n - (intOf vi).toNat)
  case atStart => exact ⟨0, z0, 0, [], by omega, HT0.out, rfl, rfl, Lib.hid rfl, HEQ0, Lib.hid hrow1, hc1, by omega, Lib.hid hb1⟩
  case round =>
    obtain ⟨k, e, s, L, hk, hst, rfl, rfl, hL, hg, hrow, ⟨hcc, hcf⟩, hsz, hb⟩ := hrel
    by_cases hlt : k < n
    · obtain ⟨a, e1, hab, hcell0⟩ := H0.out.2 k hlt
      cases e1
      rw [add_lit] at hcell0
      have hcell1 : wr.cell? ⟨g, o + k, none⟩ = some (.int .i64 (zs[k]?.getD 0)) := by rw [hb.out.cell (p := ⟨g, o + k, none⟩) (by show g < _; omega)]; simpa using hcell0
      have hzk := HZ.out (zs[k]?.getD 0) (by have := HL.out; simp [show k < zs.length by omega])
      have HG := Lib.hid (tg_step HL.out hlt hg.out)
      obtain ⟨z, hzz⟩ : ∃ z, zs[k]?.getD 0 = z := ⟨_, rfl⟩
      rw [hzz] at hcell1 hzk HG
      clear hzz hcell0 hg
      have hst' := hst.step hzk
      have HST := Lib.hid hst'.1
      have hs1 := hst.2.1
      have hs2 := hst.2.2
      have he := hst.1
      have HD : Hid ((tgB zs).getD k 0 = z - s) := Lib.hid (by have := hL.out; subst this; rw [HG.out]; simp)
      have hdst := hrow.out.cell hlt
      simp only [Nat.lt_irrefl, if_false] at hdst
      have hfz := hrow.out.frozen k
      have p1 : IntKind.i64.wrap (z - s) = z - s := IntWalk.i64_in _ (by omega)
      have h5 : (k : Int) < (n : Int) := by omega
      have h6 : (0 : Int) ≤ (k : Int) := by omega
      have hne : W0.heap.size + 1 ≠ W0.heap.size := by omega
      have ht1 : -1000000000000000 ≤ z - s ∧ z - s ≤ 1000000000000000 := by omega
      have hg1 : 1 ≤ z ∧ z ≤ 1000000 := hzk
      have he1 : 1 ≤ e ∧ e ≤ 1000000 := he
      have HSH := Lib.hid (fun (W : World) (hc : W.cell? ⟨W0.heap.size + 1, 0, none⟩ = some (.int .i64 e)) (hf : W.frozen? ⟨W0.heap.size + 1, 0, none⟩ = false) => shift1_any z (z - s) e (W0.heap.size + 1) W hc hf he1 hg1 ht1)
      obtain ⟨t, ht⟩ : ∃ t, z - s = t := ⟨_, rfl⟩
      rw [ht] at HG HST HD HSH
      have p1' : IntKind.i64.wrap (z - s) = t := by rw [p1, ht]
      clear p1 ht
      clear hst hst' ht1 hs1 hs2 he hzk
      go_wp2_with (go_at_call 124; go_loud (refine (HSH.out _ (by go_simp) (by go_simp)).mono ?_); rintro e' w' ⟨rfl, nd, rfl⟩)
      go_roundw
      case rel =>
        have hb2 := Lib.hid (((below_drewN hb.out nd).setCell (p := ⟨W0.heap.size, k, none⟩) (Nat.le_refl _) (.int .i64 t)).setCell (p := ⟨W0.heap.size + 1, 0, none⟩) (show W0.heap.size ≤ W0.heap.size + 1 by omega) (.int .i64 (Int.gcd e z : Int)))
        have hrow2 : World.rowIs (wr.setCell ⟨W0.heap.size, k, none⟩ (.int .i64 t)) W0.heap.size 2 n (fun x => if x < k + 1 then .int .i64 ((tgB zs).getD x 0) else .int .i64 0) := (hrow.out.set k _).congr fun j hj => by
          by_cases h1 : j = k
          · subst h1; simp only [if_true, show j < j + 1 by omega]; rw [HD.out]
          · by_cases h2 : j < k
            · simp only [h1, h2, if_false, if_true, show j < k + 1 by omega]
            · simp only [h1, h2, if_false, show ¬ j < k + 1 by omega]
        have hrow3 := Lib.hid (rowIs_other hrow2 (drewN_heap (wr.setCell ⟨W0.heap.size, k, none⟩ (.int .i64 t)) nd) hne (.int .i64 (Int.gcd e z : Int)))
        refine ⟨k + 1, _, _, L ++ [t], by omega, HST.out, rfl, by go_num, Lib.hid (by simp [hL.out]), HG, hrow3, ⟨by go_simp, by go_simp⟩, by simp [World.setCell]; omega, hb2⟩
      case measure => simp [intOf]; omega
    · obtain rfl : k = n := by omega
      have HNL : Hid ((tgB zs).length = k) := Lib.hid (by rw [tgB_len, HL.out])
      have hown := row_ownB hrow.out HNL.out (Nat.le_refl _) (by omega)
      obtain ⟨W4, HE4⟩ : ∃ W, W = wr.alloc (.cells #[.slice (some ⟨W0.heap.size, 0, none⟩) k k] 28) := ⟨_, rfl⟩
      have hb5 : Below wr.heap.size wr W4 := by rw [HE4]; exact below_box _ _
      have hq5 : BoxI W4 wr.heap.size (.slice (some ⟨W0.heap.size, 0, none⟩) k k) := by rw [HE4]; exact BoxI.new _ _ _
      have HE4' := Lib.hid HE4
      have hq50 := hq5.1
      have hlt5 := hq5.2
      have hs5 := hb5.size
      have B5 := Lib.hid (hb.out.trans (hb5.mono (by omega)))
      have hown5 := hown.kept (Kept.of_below hb5 (Nat.le_refl _))
      have O5 := Lib.hid hown5
      have R5 : Hid (ReadI W4 W4.heap.size (.slice (some ⟨W0.heap.size, 0, none⟩) k k) (tgB zs)) := Lib.hid hown5.reads
      clear hown hown5 hb5 hq5 HE4
      go_wp2_with fail
      rw [← HE4'.out]
      cases hp : brB (tgB zs)
      · have E := Lib.hid (bg_none OK.out hp)
        refine (implIsBranch_if _ (tgB zs) W4 false R5.out (by rw [HNL.out]; omega) HWL.out hp).mono ?_
        rintro e w6 ⟨rfl, hb6⟩
        obtain ⟨l2, l3, l4⟩ := S0.out.later (B5.out.trans (hb6.mono (by omega)))
        have B6 := Lib.hid (S0.out.below.trans ((B5.out.trans (hb6.mono (by omega))).mono (by omega)))
        clear hb6 hp
        go_wp2_with fail
        have cr : (w6.setCell ⟨w.heap.size, 0, none⟩ (.slice none 0 0)).cell? ⟨w.heap.size, 0, none⟩ = some (.slice none 0 0) := by go_simp
        refine bodyPost_ret (v := .tuple #[.agg #[.slice none 0 0], .int .i64 5]) (by simp [results, Try.results60, go_sem, cr]) rfl ?_
        exact ansR_endG _ (Nat.le_refl _) E.out.1.symm E.out.2.symm (OwnI.nil _ _) (by intro h; cases h) B6.out _
      · have E := Lib.hid (bg_yes OK.out hp)
        refine (implIsBranch_if _ (tgB zs) W4 true R5.out (by rw [HNL.out]; omega) HWL.out hp).mono ?_
        rintro e w6 ⟨rfl, hb6⟩
        obtain ⟨l2, l3, l4⟩ := S0.out.later (B5.out.trans (hb6.mono (by omega)))
        have B6 := Lib.hid (S0.out.below.trans ((B5.out.trans (hb6.mono (by omega))).mono (by omega)))
        have hc6 : w6.cell? ⟨wr.heap.size, 0, none⟩ = some (.slice (some ⟨W0.heap.size, 0, none⟩) k k) := by rw [hb6.cell (p := ⟨wr.heap.size, 0, none⟩) hlt5]; exact hq50
        have hs6 := hb6.size
        have O6 := Lib.hid (O5.out.kept (Kept.of_below hb6 (by omega)))
        clear hb6 hp
        go_wp2_with fail
        have cr : (w6.setCell ⟨w.heap.size, 0, none⟩ (.slice (some ⟨W0.heap.size, 0, none⟩) k k)).cell? ⟨w.heap.size, 0, none⟩ = some (.slice (some ⟨W0.heap.size, 0, none⟩) k k) := by go_simp
        refine bodyPost_ret (v := .tuple #[.agg #[.slice (some ⟨W0.heap.size, 0, none⟩) k k], .int .i64 0]) (by simp [results, Try.results60, go_sem, cr]) rfl ?_
        have hne2 : (Value.slice (some ⟨W0.heap.size, 0, none⟩) k k).ownBlock ≠ some w.heap.size := by simp [Value.ownBlock]; omega
        exact ansR_endG _ (Nat.le_refl _) (by rw [E.out.1]) E.out.2.symm ((own_lessB O6.out (by omega)).raise (by omega) (Nat.le_refl _)) hne2 B6.out _
end Go.Proofs.Ytncgkoanckefmaa
