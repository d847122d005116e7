/- The list of values of the model: contract of spec.l05Values. Conditions: stated at each theorem. -/
import Derived.Test.YtncgkoanckefmaaRpI
import Derived.Test.YtncgkoanckefmaaVaM
import Derived.Test.YtncgkoanckefmaaGnO
namespace Go.Proofs.Ytncgkoanckefmaa
open Go.ChangeShapes Go.WideShapes Go.ChangeAt Go.RowKit Go.Deep
set_option linter.unusedVariables false
set_option linter.unusedSimpArgs false

theorem bool_info : (Try.prog.info? 4).map (fun i => (i.zero, i.size, i.bytes)) = some (some (.bool false), 1, 1) := by kernel_rfl
theorem keptS2 {lo hi : Nat} (w : World) {p : Addr} (h : ¬ (lo ≤ p.block ∧ p.block < hi)) (u : Value) : Kept lo hi w (w.setCell p u) :=
  ⟨by simp [World.setCell], fun b h1 h2 => Below.heap_setCell w p u b (fun e => h ⟨by omega, by omega⟩)⟩
/-- What the first statement leaves: the generators, and a list of false. -/
def VaCut (W0 : World) (zs : List Int) (n m : Nat) (wc : World) (s5 s6 : Value) : Prop :=
  ∃ gg cg go, s5 = .slice (some ⟨gg, 0, none⟩) n cg ∧ s6 = .slice (some ⟨go, 0, none⟩) (m + 1) (m + 1) ∧ OwnI wc gg (gg + 1) (.slice (some ⟨gg, 0, none⟩) n cg) (gnB zs) ∧ wc.rowIs go 4 (m + 1) (fun _ => .bool false) ∧
    (gg ≠ go ∧ W0.heap.size ≤ gg ∧ W0.heap.size ≤ go ∧ go < wc.heap.size ∧ gg < wc.heap.size) ∧ Below W0.heap.size W0 wc
theorem va_cut1 {W0 W1 : World} {zs : List Int} {n m gg cg : Nat} (ho : OwnI W1 W0.heap.size W1.heap.size (.slice (some ⟨gg, 0, none⟩) n cg) (gnB zs)) (h1 : W0.heap.size ≤ gg) (h2 : gg < W1.heap.size) (hb : Below W0.heap.size W0 W1) :
    VaCut W0 zs n m (W1.alloc (.cells (madeCells #[.bool false] (m + 1)) 4)) (.slice (some ⟨gg, 0, none⟩) n cg) (.slice (some ⟨W1.heap.size, 0, none⟩) (m + 1) (m + 1)) := by
  refine ⟨gg, cg, W1.heap.size, rfl, rfl, ?_, World.rowIs_made W1 _ (m + 1) _, ⟨by omega, h1, hb.size, by simp, by simp; omega⟩, hb.trans ((below_box2 _ _).mono hb.size)⟩
  exact (own_tight ho h2).kept (Kept.of_below (below_box2 _ _) (by omega))
theorem va_cut2 {W0 W1 : World} {zs : List Int} {n m gg cg : Nat} (ho : OwnI W1 (W0.heap.size + 1) W1.heap.size (.slice (some ⟨gg, 0, none⟩) n cg) (gnB zs)) (h1 : W0.heap.size + 1 ≤ gg) (h2 : gg < W1.heap.size) (hb : Below (W0.heap.size + 1) (W0.alloc (.cells (madeCells #[.bool false] (m + 1)) 4)) W1) :
    VaCut W0 zs n m W1 (.slice (some ⟨gg, 0, none⟩) n cg) (.slice (some ⟨W0.heap.size, 0, none⟩) (m + 1) (m + 1)) := by
  have hs := hb.size
  have e1 : (W0.alloc (.cells (madeCells #[.bool false] (m + 1)) 4)).heap.size = W0.heap.size + 1 := by simp
  refine ⟨gg, cg, W0.heap.size, rfl, rfl, own_tight ho h2, ?_, ⟨by omega, by omega, Nat.le_refl _, by omega, h2⟩, (below_box2 _ _).trans (hb.mono (by omega))⟩
  obtain ⟨c, hc, hh⟩ := World.rowIs_made W0 (.bool false) (m + 1) 4
  exact ⟨c, (hb.block _ (by omega)).trans hc, hh⟩
/-- What l05Values leaves. -/
def VaAns (w : World) (zs : List Int) (m : Nat) (e : Ending) (w' : World) : Prop :=
  ∃ g, e = .returned (.slice (some ⟨g, 0, none⟩) (m + 1) (m + 1)) ∧ w.heap.size ≤ g ∧ g < w'.heap.size ∧ w'.rowIs g 4 (m + 1) (fun y => .bool (reB zs (y : Int))) ∧ Below w.heap.size w w'

set_option maxRecDepth 100000 in
set_option maxHeartbeats 4000000 in
theorem l05Values_any (v : Value) (zs : List Int) (m : Nat) (w : World) (h : ReadI w w.heap.size v zs) (hn : zs.length ≤ 1048576) (hp : brB zs = true) (hm : m ≤ 1000000) :
    Calls Try.prog 76 #[.agg #[v], .int .i64 (m : Int)] w (VaAns w zs m) := by
  have HP := Lib.hid hp
  obtain ⟨n, A, c, rfl, hr, HL, _, hnc, HF, hcm⟩ := h.split2
  have hn0 : 0 < n := by have := brB_pos hp; rw [HL.out] at this; exact this
  have HN1 := Lib.hid hn
  rw [HL.out] at hn
  obtain ⟨a, rfl, hlt, hc0⟩ := hr.2 0 hn0
  obtain ⟨g, o, rfl⟩ := HF.out a rfl
  have hgw : g < w.heap.size := hlt
  obtain ⟨W0, HE⟩ : ∃ W, W = w.alloc (.cells #[.slice (some ⟨g, o, none⟩) n c] 28) := ⟨_, rfl⟩
  have hb0 : Below w.heap.size w W0 := by rw [HE]; exact below_box2 _ _
  have hq0 : BoxI W0 w.heap.size (.slice (some ⟨g, o, none⟩) n c) := by rw [HE]; exact BoxI.new _ _ _
  have hs0 : w.heap.size < W0.heap.size := hq0.2
  have HR : Hid (ReadI W0.drew W0.drew.heap.size (.slice (some ⟨g, o, none⟩) n c) zs) := Lib.hid ((h.below hb0).more hb0.size)
  have B0 := Lib.hid hb0
  have HEQ := Lib.hid HE
  have q0 := hq0.1
  have HLG : Hid ((gnB zs).length = n) := Lib.hid (by rw [gnB_len, HL.out])
  have HGA := Lib.hid (fun i (hi : i < zs.length) => gnA_pos hp hi)
  have HZ0 := Lib.hid (reB_zero hp)
  clear h hr hp hb0 hq0 HE hc0 hlt
  go_enter Try.func76, Try.ntmps76
  go_upto_region 1 with fail
  rw [← HEQ.out]
  have pm : IntKind.i64.wrap ((m : Int) + 1) = (m : Int) + 1 := IntWalk.i64_in _ (by omega)
  have hmk := fun (W : World) => run_make_row' (P := Try.prog) 63 4 (.bool false) 1 Try.underlying63 bool_info rfl .i64 .i64 (m + 1) (by omega) (by omega) W
  simp only [Int.natCast_add, Int.cast_ofNat_Int] at hmk
  go_cut [5, 6] (fun s5 s6 wx => Hid (VaCut W0 zs n m wx s5 s6))
  case first =>
    refine wp_region_held_drew (S := fun w' => w'.cell? ⟨w.heap.size, 0, none⟩ = some (.slice (some ⟨g, o, none⟩) n c)) (by kernel_rfl) (q0) (fun hHeld => ?_)
    refine takeY 0 _ (v := ?_) rfl rfl (by kernel_rfl) (by kernel_rfl) (by kernel_rfl) (fun _ _ _ h => h) (by kernel_rfl) ?_ (by assumption) ?_
    rotate_left 1
    · intro w hSw; (try dsimp only at hSw); go_simp; (try with_reducible rfl)
    try simp only [Act.put, List.setIfInBounds_toArray, List.set_cons_zero, List.set_cons_succ]
    refine takeY 2 _ (v := ?_) rfl rfl (by kernel_rfl) (by kernel_rfl) (by kernel_rfl) (fun _ _ _ h => h) (by kernel_rfl) ?_ (by assumption) ?_
    rotate_left 1
    · intro w hSw; (try dsimp only at hSw); go_simp; (try with_reducible rfl)
    try simp only [Act.put, List.setIfInBounds_toArray, List.set_cons_zero, List.set_cons_succ]
    refine takeY 3 _ (v := ?_) rfl rfl (by kernel_rfl) (by kernel_rfl) (by kernel_rfl) (fun _ _ _ h => h) (by kernel_rfl) ?_ (by assumption) ?_
    rotate_left 1
    · intro w hSw; (try dsimp only at hSw); go_simp; (try with_reducible rfl)
    try simp only [Act.put, List.setIfInBounds_toArray, List.set_cons_zero, List.set_cons_succ]
    refine wpAnyH_ready (rs := [1, 4]) (by kernel_rfl) (by simp) ?_
    refine AllReadyH.cons rfl (fun K hK => ?_) (AllReadyH.cons rfl (fun K hK => ?_) AllReadyH.nil)
    · go_simp
      refine (l05Generators_any _ zs W0.drew HR.out HN1.out HP.out).mono ?_
      rintro e W1 ⟨v1, rfl, ho1, hb1⟩
      replace hb1 : Below W0.heap.size W0 W1 := ⟨hb1.os, hb1.tape, hb1.output, hb1.size, hb1.block⟩
      obtain ⟨A1, c1, rfl⟩ := ho1.form HLG.out
      obtain ⟨d, e1, hd1, hd2, _, _⟩ := own_at ho1 HLG.out hn0
      cases e1
      have q1 := (hb1.cell (p := ⟨w.heap.size, 0, none⟩) hs0).trans q0
      have q2 := ((below_box2 W1 (.cells (madeCells #[.bool false] (m + 1)) 4)).cell (p := ⟨w.heap.size, 0, none⟩) (by show w.heap.size < _; have := hb1.size; omega)).trans q1
      refine hK.out _ (W1) q1 (fun hHeld => ?_)
      clear hK K
      try simp only [Act.put, List.setIfInBounds_toArray, List.set_cons_zero, List.set_cons_succ]
      refine takeY 5 _ (v := ?_) rfl rfl (by kernel_rfl) (by kernel_rfl) (by kernel_rfl) (fun _ _ _ h => h) (by kernel_rfl) ?_ (by assumption) ?_
      rotate_left 1
      · intro w hSw; (try dsimp only at hSw); go_simp; (try with_reducible rfl)
      try simp only [Act.put, List.setIfInBounds_toArray, List.set_cons_zero, List.set_cons_succ]
      refine wpAnyH_ready (rs := [4]) (by kernel_rfl) (by simp) ?_
      refine AllReadyH.cons rfl (fun K hK => ?_) AllReadyH.nil
      go_simp
      refine hK.out _ (_) q2 (fun hHeld => ?_)
      clear hK K
      try simp only [Act.put, List.setIfInBounds_toArray, List.set_cons_zero, List.set_cons_succ]
      refine takeY 6 _ (v := ?_) rfl rfl (by kernel_rfl) (by kernel_rfl) (by kernel_rfl) (fun _ _ _ h => h) (by kernel_rfl) ?_ (by assumption) ?_
      rotate_left 1
      · intro w hSw; (try dsimp only at hSw); go_simp; (try with_reducible rfl)
      try simp only [Act.put, List.setIfInBounds_toArray, List.set_cons_zero, List.set_cons_succ]
      refine wpAnyH_done (by kernel_rfl) ?_ _
      go_wp2_with fail
      go_meet
      exact Lib.hid (va_cut1 ho1 hd1 hd2 hb1)
    · go_simp
      have q1 := ((below_box2 W0 (.cells (madeCells #[.bool false] (m + 1)) 4)).cell (p := ⟨w.heap.size, 0, none⟩) hs0).trans q0
      refine hK.out _ (_) q1 (fun hHeld => ?_)
      clear hK K
      try simp only [Act.put, List.setIfInBounds_toArray, List.set_cons_zero, List.set_cons_succ]
      refine wpAnyH_ready (rs := [1]) (by kernel_rfl) (by simp) ?_
      refine AllReadyH.cons rfl (fun K hK => ?_) AllReadyH.nil
      go_simp
      refine (l05Generators_any _ zs (World.alloc W0.drew (.cells (madeCells #[.bool false] (m + 1)) 4)) ((HR.out.below (below_box2 _ _)).more (by simp)) HN1.out HP.out).mono ?_
      rintro e W1 ⟨v1, rfl, ho1, hb1⟩
      have hz1 : (World.alloc W0.drew (.cells (madeCells #[.bool false] (m + 1)) 4)).heap.size = W0.heap.size + 1 := by show (World.alloc W0.drew _).heap.size = W0.drew.heap.size + 1; simp
      rw [hz1] at ho1 hb1
      obtain ⟨A1, c1, rfl⟩ := ho1.form HLG.out
      obtain ⟨d, e1, hd1, hd2, _, _⟩ := own_at ho1 HLG.out hn0
      cases e1
      have q2 := (hb1.cell (p := ⟨w.heap.size, 0, none⟩) (by show w.heap.size < _; omega)).trans q1
      refine hK.out _ (W1) q2 (fun hHeld => ?_)
      clear hK K
      try simp only [Act.put, List.setIfInBounds_toArray, List.set_cons_zero, List.set_cons_succ]
      refine takeY 5 _ (v := ?_) rfl rfl (by kernel_rfl) (by kernel_rfl) (by kernel_rfl) (fun _ _ _ h => h) (by kernel_rfl) ?_ (by assumption) ?_
      rotate_left 1
      · intro w hSw; (try dsimp only at hSw); go_simp; (try with_reducible rfl)
      try simp only [Act.put, List.setIfInBounds_toArray, List.set_cons_zero, List.set_cons_succ]
      refine takeY 6 _ (v := ?_) rfl rfl (by kernel_rfl) (by kernel_rfl) (by kernel_rfl) (fun _ _ _ h => h) (by kernel_rfl) ?_ (by assumption) ?_
      rotate_left 1
      · intro w hSw; (try dsimp only at hSw); go_simp; (try with_reducible rfl)
      try simp only [Act.put, List.setIfInBounds_toArray, List.set_cons_zero, List.set_cons_succ]
      refine wpAnyH_done (by kernel_rfl) ?_ _
      go_wp2_with fail
      go_meet
      exact Lib.hid (va_cut2 ho1 hd1 hd2 ⟨hb1.os, hb1.tape, hb1.output, hb1.size, hb1.block⟩)
  case rest =>
    clear hmk q0
    obtain ⟨gg, cg, go, rfl, rfl, hog, hrow, hne, hbc⟩ := hcut.out
    obtain ⟨hn1, hn2, hn3, hn4, hn5⟩ := hne
    have hd0 := hrow.cell (show 0 < m + 1 by omega)
    have hf0 := hrow.frozen 0
    have ROW0 := Lib.hid ((hrow.set 0 (.bool true)).congr (g := (fun y => .bool (decide (y < 1) && reB zs (y : Int)))) (fun y hy => by
      by_cases h1 : y = 0
      · subst h1
        simp only [if_true]
        rw [show ((0 : Nat) : Int) = 0 from rfl, HZ0.out]; rfl
      · rw [if_neg h1, decide_eq_false (show ¬ y < 1 by omega)]; rfl))
    have OG := Lib.hid hog
    have HB0 := Lib.hid ((B0.out.trans (hbc.mono (by omega))).setCell (p := ⟨go, 0, none⟩) (by show w.heap.size ≤ go; omega) (.bool true))
    have hsz0 : (wc.setCell ⟨go, 0, none⟩ (.bool true)).heap.size = wc.heap.size := by simp [World.setCell]
    have OG2 := Lib.hid (hog.kept (keptS2 wc (p := ⟨go, 0, none⟩) (show ¬ (gg ≤ go ∧ go < gg + 1) by omega) (.bool true)))
    clear hrow hog hbc hcut
    have hgo : w.heap.size ≤ go := by omega
    go_upto_region 3 with fail
    clear hd0 hf0 OG
    generalize wc.setCell ⟨go, 0, none⟩ (.bool true) = WC at *
    rw [← hsz0] at hn4 hn5
    clear hsz0
    have HBC : Hid (Below WC.heap.size WC WC) := Lib.hid (Below.refl _ _)
    have HKP : Hid (Kept gg (gg + 1) WC WC) := Lib.hid (Kept.refl _ _ _)
    go_wp2_with fail
    go_loopw [7] (fun vv wr => ∃ k : Nat, 1 ≤ k ∧ k ≤ m + 1 ∧ vv = .int .i64 k ∧ Hid (wr.rowIs go 4 (m + 1) (fun y => .bool (decide (y < k) && reB zs (y : Int)))) ∧ Hid (Below w.heap.size w wr) ∧ Hid (Kept gg (gg + 1) WC wr) ∧ WC.heap.size = wr.heap.size) (fun vv _ => m + 1 - (intOf vv).toNat)
    case atStart => exact ⟨1, by omega, by omega, rfl, ROW0, HB0, HKP, rfl⟩
    case round =>
      clear ROW0 HB0 HBC HKP
      obtain ⟨k, hk1, hkm, rfl, hrow, hb, hkp, hsz⟩ := hrel
      by_cases hlt : k ≤ m
      · have hki : (k : Int) ≤ (m : Int) := by omega
        have HROW := Lib.hid (hrow.out.congr (g := fun y => .bool (if y = k then vaO zs (k : Int) 0 else decide (y < k) && reB zs (y : Int))) (fun y hy => by
          by_cases h1 : y = k
          · subst h1; simp [vaO]
          · rw [if_neg h1]))
        have HB1 := hb
        have HK1 := hkp
        have HVE := Lib.hid (vaO_end HP.out (show (1 : Int) ≤ (k : Int) by omega))
        have HRS := Lib.hid (reB_step HP.out (show (1 : Int) ≤ (k : Int) by omega))
        clear hrow hb hkp
        go_wp2_with fail
        go_loopw [8] (fun vi wi => ∃ i : Nat, i ≤ n ∧ vi = .int .i64 i ∧ Hid (wi.rowIs go 4 (m + 1) (fun y => .bool (if y = k then vaO zs (k : Int) i else decide (y < k) && reB zs (y : Int)))) ∧ Hid (Below w.heap.size w wi) ∧ Hid (Kept gg (gg + 1) WC wi) ∧ WC.heap.size = wi.heap.size) (fun vi _ => n - (intOf vi).toNat)
        case atStart => exact ⟨0, by omega, rfl, HROW, HB1, HK1, hsz⟩
        case round =>
          clear HROW HB1 HK1 hsz
          obtain ⟨i, hi, rfl, hri, hbi, hki2, hszi⟩ := hrel
          have hck := hri.out.cell (show k < m + 1 by omega)
          simp only [if_true] at hck
          have hfk := hri.out.frozen k
          have hkm1 : k < m + 1 := by omega
          obtain ⟨bo, hbo⟩ : ∃ b, vaO zs (k : Int) i = b := ⟨_, rfl⟩
          rw [hbo] at hck
          by_cases hin : i < n
          · have hini : (i : Int) < (n : Int) := by omega
            cases bo with
            | true =>
              have HKR : Hid (reB zs (k : Int) = true) := Lib.hid (by
                rw [HRS.out]
                obtain ⟨i', h1, h2⟩ := vaO_iff.1 hbo
                exact ⟨i', by have := HL.out; omega, h2⟩)
              have HR2 := Lib.hid (hri.out.congr (g := fun y => .bool (decide (y < k + 1) && reB zs (y : Int))) (fun y hy => by
                by_cases h1 : y = k
                · subst h1; rw [if_pos rfl, hbo, decide_eq_true (show y < y + 1 by omega), HKR.out]; rfl
                · rw [if_neg h1]
                  by_cases h2 : y < k
                  · rw [decide_eq_true h2, decide_eq_true (show y < k + 1 by omega)]
                  · rw [decide_eq_false h2, decide_eq_false (show ¬ y < k + 1 by omega)]))
              clear hbo
              go_wp2_with fail
              go_roundw
              case rel => exact ⟨k + 1, by omega, by omega, by go_num, HR2, hbi, hki2, hszi⟩
              case measure => first | (simp [intOf]; done) | (simp [intOf]; omega)
            | false =>
              have hog1 := OG2.out.kept hki2.out
              obtain ⟨g', e1, _, _, hcg, _⟩ := own_at hog1 HLG.out hin
              cases e1
              obtain ⟨qq, hqq⟩ : ∃ c, gnA zs i = c := ⟨_, rfl⟩
              rw [show (gnB zs)[i]?.getD 0 = qq from hqq] at hcg
              have hqp := HGA.out i (by have := HL.out; omega)
              rw [hqq] at hqp
              by_cases hge : qq ≤ (k : Int)
              · obtain ⟨j, hj⟩ : ∃ j : Nat, (k : Int) - qq = (j : Int) := ⟨((k : Int) - qq).toNat, by omega⟩
                have hjk : j < k := by omega
                have hcj := hri.out.cell (show j < m + 1 by omega)
                rw [if_neg (show ¬ j = k by omega), decide_eq_true hjk, Bool.true_and] at hcj
                have HVS : Hid (vaO zs (k : Int) (i + 1) = reB zs (j : Int)) := Lib.hid (by rw [vaO, hbo, hqq, decide_eq_true hge, hj]; simp)
                obtain ⟨rb, hrb⟩ : ∃ c, reB zs (j : Int) = c := ⟨_, rfl⟩
                rw [hrb] at hcj HVS
                have hjm : j < m + 1 := by omega
                have p1 : IntKind.i64.wrap ((k : Int) - qq) = (j : Int) := by rw [IntWalk.i64_in _ (by omega)]; exact hj
                have HR2 := Lib.hid ((hri.out.set k (.bool rb)).congr (g := fun y => .bool (if y = k then vaO zs (k : Int) (i + 1) else decide (y < k) && reB zs (y : Int))) (fun y hy => by
                  by_cases h1 : y = k
                  · rw [if_pos h1, if_pos h1, HVS.out]
                  · rw [if_neg h1, if_neg h1, if_neg h1]))
                clear hbo hqq hrb hj
                go_wp2_with fail
                go_roundw
                case rel => exact ⟨i + 1, by omega, by go_num, HR2, Lib.hid (hbi.out.setCell (p := ⟨go, k, none⟩) hgo (.bool rb)), Lib.hid (hki2.out.trans (keptS2 _ (p := ⟨go, k, none⟩) (show ¬ (gg ≤ go ∧ go < gg + 1) by omega) (.bool rb))), by rw [hszi]; simp [World.setCell]⟩
                case measure => first | (simp [intOf]; done) | (simp [intOf]; omega)
              · have HVS : Hid (vaO zs (k : Int) (i + 1) = false) := Lib.hid (by rw [vaO, hbo, hqq, decide_eq_false hge]; rfl)
                have HR2 := Lib.hid ((hri.out.set k (.bool false)).congr (g := fun y => .bool (if y = k then vaO zs (k : Int) (i + 1) else decide (y < k) && reB zs (y : Int))) (fun y hy => by
                  by_cases h1 : y = k
                  · rw [if_pos h1, if_pos h1, HVS.out]
                  · rw [if_neg h1, if_neg h1, if_neg h1]))
                clear hbo hqq
                go_wp2_with fail
                go_roundw
                case rel => exact ⟨i + 1, by omega, by go_num, HR2, Lib.hid (hbi.out.setCell (p := ⟨go, k, none⟩) hgo (.bool false)), Lib.hid (hki2.out.trans (keptS2 _ (p := ⟨go, k, none⟩) (show ¬ (gg ≤ go ∧ go < gg + 1) by omega) (.bool false))), by rw [hszi]; simp [World.setCell]⟩
                case measure => first | (simp [intOf]; done) | (simp [intOf]; omega)
          · obtain rfl : i = n := by omega
            have HR2 := Lib.hid (hri.out.congr (g := fun y => .bool (decide (y < k + 1) && reB zs (y : Int))) (fun y hy => by
              by_cases h1 : y = k
              · subst h1; rw [if_pos rfl, decide_eq_true (show y < y + 1 by omega), ← HL.out, HVE.out]; rfl
              · rw [if_neg h1]
                by_cases h2 : y < k
                · rw [decide_eq_true h2, decide_eq_true (show y < k + 1 by omega)]
                · rw [decide_eq_false h2, decide_eq_false (show ¬ y < k + 1 by omega)]))
            clear hbo
            go_wp2_with fail
            go_roundw
            case rel => exact ⟨k + 1, by omega, by omega, by go_num, HR2, hbi, hki2, hszi⟩
            case measure => first | (simp [intOf]; done) | (simp [intOf]; omega)
      · obtain rfl : k = m + 1 := by omega
        have hki : ¬ (((m + 1 : Nat) : Nat) : Int) ≤ (m : Int) := by omega
        have HR2 := Lib.hid (hrow.out.congr (g := fun y => .bool (reB zs (y : Int))) (fun y hy => by rw [decide_eq_true hy]; rfl))
        clear hrow
        go_wp2_with fail
        go_ret
        exact ⟨go, rfl, hgo, by omega, HR2.out, hb.out⟩
end Go.Proofs.Ytncgkoanckefmaa
