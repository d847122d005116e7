/- Lists of two numbers as pairs: contract of impl.pairsOfLists. Conditions: stated at the theorem. -/
import Derived.Test.YtmpbigkaadmihaaBpA
namespace Go.Proofs.Ytmpbigkaadmihaa
open Go.ChangeShapes Go.WideShapes Go.ChangeAt Go.RowKit
set_option linter.unusedVariables false
set_option linter.unusedSimpArgs false

def PlAns (w : World) (zs : List (List Int)) (e : Ending) (w' : World) : Prop :=
  ∃ v' b, e = .returned (.tuple #[v', .bool b]) ∧ b = bpB zs ∧ (b = true → v' = .slice (some ⟨w.heap.size, 0, none⟩) zs.length zs.length ∧ PRow w' w.heap.size zs.length (pF (psOf zs))) ∧ (b = false → v' = .slice none 0 0) ∧ Below w.heap.size w w'
theorem PlAns.no {w w' : World} {zs : List (List Int)} (h : bpB zs = false) (hb : Below w.heap.size w w') : PlAns w zs (.returned (.tuple #[.slice none 0 0, .bool false])) w' :=
  ⟨_, _, rfl, h.symm, by simp, fun _ => rfl, hb⟩
theorem PlAns.yes {w w' : World} {zs : List (List Int)} {n : Nat} (hn : zs.length = n) (h : bpB zs = true) (hr : PRow w' w.heap.size n (pF (psOf zs))) (hb : Below w.heap.size w w') : PlAns w zs (.returned (.tuple #[.slice (some ⟨w.heap.size, 0, none⟩) n n, .bool true])) w' := by
  subst hn; exact ⟨_, _, rfl, h.symm, fun _ => ⟨rfl, hr⟩, by simp, hb⟩
theorem pd_step {zs : List (List Int)} {n k : Nat} (hl : zs.length = n) (h : k < n) (y : Int) : pdB y (zs.drop k) = (pairB (zs.getD k []) && (decide (y * (pairOf (zs.getD k [])).2 ≤ 64) && pdB (y * (pairOf (zs.getD k [])).2) (zs.drop (k + 1)))) := by
  have h2 : k < zs.length := by omega
  have e : zs.drop k = zs.getD k [] :: zs.drop (k + 1) := by rw [List.drop_eq_getElem_cons h2]; simp [List.getD, h2]
  rw [e, pdB]
theorem pd_end {zs : List (List Int)} {n : Nat} (hl : zs.length = n) (y : Int) : pdB y (zs.drop n) = true := by rw [← hl, List.drop_length]; rfl
theorem list_two {z : List Int} (h : z.length = 2) : ∃ a b, z = [a, b] := by
  match z, h with
  | [a, b], _ => exact ⟨a, b, rfl⟩
theorem pairB_len {z : List Int} (h : z.length ≠ 2) : pairB z = false := by
  match z with
  | [] => rfl
  | [_] => rfl
  | [_, _] => simp at h
  | _ :: _ :: _ :: _ => rfl

set_option maxHeartbeats 2000000 in
theorem pairsOfLists_any (v : Value) (zs : List (List Int)) (w : World) (h : ReadQ w w.heap.size v zs) (hw : ∀ x ∈ zs, ∀ z ∈ x, (Lit.int .i64 z).wf = true) :
    Calls Try.prog 56 #[v] w (PlAns w zs) := by
  obtain ⟨A, c, rfl, h0, hN, hnc, hF, hcm⟩ := h
  have H0 := Lib.hid h0
  have HW := Lib.hid hw
  have HF := Lib.hid hF
  generalize hL : zs.length = n at *
  have HL := Lib.hid hL
  clear hL h0 hw hF hN
  by_cases h6 : n ≤ 6
  rotate_left
  · have R : Hid (bpB zs = false) := Lib.hid (by simp [bpB, HL.out, h6])
    have h6' : (6 : Int) < (n : Int) := by omega
    go_enter Try.func56, Try.ntmps56
    go_wp2_with fail
    go_ret2
    exact PlAns.no R.out (Below.refl _ _)
  have h6' : ¬ (6 : Int) < (n : Int) := by omega
  have hmk := fun (W : World) => make_pairs .i64 .i64 n (by omega) W
  have E0 : Hid (bpB zs = pdB 1 (zs.drop 0)) := Lib.hid (by simp [bpB, HL.out, h6])
  go_enter Try.func56, Try.ntmps56
  go_wp2_with fail
  clear hmk
  go_loopw [5, 16] (fun vy vi wr => ∃ (k : Nat) (y : Int), k ≤ n ∧ (1 ≤ y ∧ y ≤ 64) ∧ vy = .int .i64 y ∧ vi = .int .i64 k ∧ Hid (bpB zs = pdB y (zs.drop k)) ∧ Hid (PRow wr w.heap.size n (fun j => if j < k then pF (psOf zs) j else (0, 0))) ∧ Hid (Below w.heap.size w wr)) (fun _ vi _ => n - (intOf vi).toNat)
  case atStart => exact ⟨0, 1, by omega, by omega, rfl, rfl, E0, Lib.hid ((PRow.made w n).congr (fun i hi => by simp)), Lib.hid (below_box2 _ _)⟩
  case round =>
    clear E0
    obtain ⟨k, y, hk, hy, rfl, rfl, hg, hrow, hb⟩ := hrel
    by_cases hlt : k < n
    · obtain ⟨a, u, rfl, ha, hcell0, hri⟩ := H0.out k hlt
      have hcell : wr.cell? (a.add k) = some u := (hb.out.cell (by rw [add_block]; exact ha)).trans hcell0
      have HZW : Hid (∀ z ∈ zs.getD k [], (Lit.int .i64 z).wf = true) := Lib.hid (fun z hz => HW.out (zs.getD k []) (by
        have h2 : k < zs.length := by have := HL.out; omega
        simp [List.getD, h2]) z hz)
      have HP : Hid (k < zs.length) := Lib.hid (by have := HL.out; omega)
      have HS := Lib.hid (pd_step HL.out hlt y)
      have HPF : Hid (pF (psOf zs) k = pairOf (zs.getD k [])) := Lib.hid (psOf_at HP.out)
      have hri2 := (hri.below hb.out)
      generalize zs.getD k [] = z at *
      obtain ⟨m, A', c', rfl, hr', HL', HN', hnc', HF', hcm'⟩ := hri2.split2
      have hkn : (k : Int) < (n : Int) := by omega
      have hk0 : (0 : Int) ≤ (k : Int) := by omega
      have hmm : m ≤ 9223372036854775807 := by omega
      clear hri hri2 hcell0
      by_cases hm : m = 2
      rotate_left
      · have R : Hid (bpB zs = false) := Lib.hid (by rw [hg.out, HS.out, pairB_len (by rw [HL'.out]; exact hm)]; rfl)
        have T : ((m : Int) == 2) = false := by simp; omega
        have T2 : ((m : Int) != 2) = true := by simp; omega
        clear hr' HF' hm
        go_wp2_with fail
        go_ret2
        exact PlAns.no R.out hb.out
      subst hm
      obtain ⟨x1, x2, rfl⟩ := list_two HL'.out
      obtain ⟨a1, rfl, hal, hc1⟩ := hr'.2 0 (by omega)
      obtain ⟨g, o, rfl⟩ := HF'.out a1 rfl
      obtain ⟨a2, e2, _, hc2⟩ := hr'.2 1 (by omega)
      cases e2
      have hcA : wr.cell? ⟨g, o, none⟩ = some (.int .i64 x1) := by simpa [Addr.add] using hc1
      have hcB : wr.cell? ⟨g, o + 1, none⟩ = some (.int .i64 x2) := by simpa [Addr.add] using hc2
      clear hc1 hc2 HF' hr'
      by_cases ht1 : 1 ≤ x1 ∧ x1 ≤ 2000
      rotate_left
      · have R : Hid (bpB zs = false) := Lib.hid (by rw [hg.out, HS.out]; simp [pairB, tmB_false.2 ht1])
        have HT := Lib.hid ht1
        clear ht1
        go_wp2_with fail
        refine (isTerm_no x1 _ HT.out).mono ?_
        rintro e w1 ⟨rfl, rfl⟩
        go_wp2_with fail
        go_ret2
        exact PlAns.no R.out hb.out
      by_cases ht2 : 1 ≤ x2 ∧ x2 ≤ 2000
      rotate_left
      · have R : Hid (bpB zs = false) := Lib.hid (by rw [hg.out, HS.out]; simp [pairB, tmB_false.2 ht2])
        have HT := Lib.hid ht1
        have HT2 := Lib.hid ht2
        clear ht1 ht2
        go_wp2_with fail
        refine (isTerm_yes x1 _ HT.out).mono ?_
        rintro e w1 ⟨rfl, rfl⟩
        go_wp2_with fail
        refine (isTerm_no x2 _ HT2.out).mono ?_
        rintro e w1 ⟨rfl, rfl⟩
        go_wp2_with fail
        go_ret2
        exact PlAns.no R.out hb.out
      go_wp2_with fail
      refine (isTerm_yes x1 _ ht1).mono ?_
      rintro e w1 ⟨rfl, rfl⟩
      go_wp2_with fail
      refine (isTerm_yes x2 _ ht2).mono ?_
      rintro e w1 ⟨rfl, rfl⟩
      go_wp2_with fail
      have hrc := hrow.out.cells hlt
      obtain ⟨f1, f2, f3, f4⟩ := hrc
      have hgn : g ≠ w.heap.size := by have : g < w.heap.size := hal; omega
      have HP2 : Hid (PRow ((wr.setCell ⟨w.heap.size, k * 2, none⟩ (.int .i64 x1)).setCell ⟨w.heap.size, k * 2 + 1, none⟩ (.int .i64 x2)) w.heap.size n (fun j => if j < k + 1 then pF (psOf zs) j else (0, 0))) := Lib.hid ((hrow.out.set x1 x2).congr (fun j hj => by
        by_cases h1 : j = k
        · subst h1; simp only [if_true, show j < j + 1 by omega]; rw [HPF.out]; rfl
        · by_cases h2 : j < k
          · simp only [h1, h2, if_false, if_true, show j < k + 1 by omega]
          · simp only [h1, h2, if_false, show ¬ j < k + 1 by omega]))
      have HB2 : Hid (Below w.heap.size w ((wr.setCell ⟨w.heap.size, k * 2, none⟩ (.int .i64 x1)).setCell ⟨w.heap.size, k * 2 + 1, none⟩ (.int .i64 x2))) := Lib.hid ((hb.out.setCell (Nat.le_refl _) _).setCell (Nat.le_refl _) _)
      have hq := mul_range (a := x2) (b := y) ht2 hy
      rw [Int.mul_comm] at hq
      have HG : Hid (bpB zs = (decide (y * x2 ≤ 64) && pdB (y * x2) (zs.drop (k + 1)))) := Lib.hid (by rw [hg.out, HS.out]; simp only [pairB, tmB_true.2 ht1, tmB_true.2 ht2, Bool.true_and, Bool.and_self]; rfl)
      have pw : IntKind.i64.wrap (y * x2) = y * x2 := IntWalk.i64_in _ (by omega)
      generalize hqq : y * x2 = q at *
      clear hg HS
      refine wp_region_held_drew (S := fun w' => w'.cell? ⟨g, o, none⟩ = some (.int .i64 x1) ∧ w'.cell? ⟨g, o + 1, none⟩ = some (.int .i64 x2)) (by kernel_rfl) ⟨hcA, hcB⟩ (fun hHeld => ?_)
      refine takeY 0 38 (v := ?_) rfl rfl (by kernel_rfl) (by kernel_rfl) (by kernel_rfl) (fun _ _ _ h => h) (by kernel_rfl) ?_ (by assumption) ?_
      rotate_left 1
      · intro w hSw; (try dsimp only at hSw); go_simp; (try with_reducible rfl)
      try simp only [Act.put, List.setIfInBounds_toArray, List.set_cons_zero, List.set_cons_succ]
      refine takeY 1 39 (v := ?_) rfl rfl (by kernel_rfl) (by kernel_rfl) (by kernel_rfl) (fun _ _ _ h => h) (by kernel_rfl) ?_ (by assumption) ?_
      rotate_left 1
      · intro w hSw; (try dsimp only at hSw); go_simp; (try with_reducible rfl)
      try simp only [Act.put, List.setIfInBounds_toArray, List.set_cons_zero, List.set_cons_succ]
      refine takeY 2 40 (v := ?_) rfl rfl (by kernel_rfl) (by kernel_rfl) (by kernel_rfl) (fun _ _ _ h => h) (by kernel_rfl) ?_ (by assumption) ?_
      rotate_left 1
      · intro w hSw; (try dsimp only at hSw); go_simp; (try with_reducible rfl)
      try simp only [Act.put, List.setIfInBounds_toArray, List.set_cons_zero, List.set_cons_succ]
      refine takeY 3 41 (v := ?_) rfl rfl (by kernel_rfl) (by kernel_rfl) (by kernel_rfl) (fun _ _ _ h => h) (by kernel_rfl) ?_ (by assumption) ?_
      rotate_left 1
      · intro w hSw; (try dsimp only at hSw); go_simp; (try with_reducible rfl)
      try simp only [Act.put, List.setIfInBounds_toArray, List.set_cons_zero, List.set_cons_succ]
      refine takeY 4 42 (v := ?_) rfl rfl (by kernel_rfl) (by kernel_rfl) (by kernel_rfl) (fun _ _ _ h => h) (by kernel_rfl) ?_ (by assumption) ?_
      rotate_left 1
      · intro w hSw; (try dsimp only at hSw); go_simp; (try with_reducible rfl)
      try simp only [Act.put, List.setIfInBounds_toArray, List.set_cons_zero, List.set_cons_succ]
      refine takeY 5 43 (v := ?_) rfl rfl (by kernel_rfl) (by kernel_rfl) (by kernel_rfl) (fun _ _ _ h => h) (by kernel_rfl) ?_ (by assumption) ?_
      rotate_left 1
      · intro w hSw; (try dsimp only at hSw); go_simp; (try with_reducible rfl)
      try simp only [Act.put, List.setIfInBounds_toArray, List.set_cons_zero, List.set_cons_succ]
      refine takeY 6 44 (v := ?_) rfl rfl (by kernel_rfl) (by kernel_rfl) (by kernel_rfl) (fun _ _ _ h => h) (by kernel_rfl) ?_ (by assumption) ?_
      rotate_left 1
      · intro w hSw; (try dsimp only at hSw); go_simp; (try with_reducible rfl)
      try simp only [Act.put, List.setIfInBounds_toArray, List.set_cons_zero, List.set_cons_succ]
      refine takeY 7 45 (v := ?_) rfl rfl (by kernel_rfl) (by kernel_rfl) (by kernel_rfl) (fun _ _ _ h => h) (by kernel_rfl) ?_ (by assumption) ?_
      rotate_left 1
      · intro w hSw; (try dsimp only at hSw); go_simp; (try with_reducible rfl)
      try simp only [Act.put, List.setIfInBounds_toArray, List.set_cons_zero, List.set_cons_succ]
      refine takeY 8 46 (v := ?_) rfl rfl (by kernel_rfl) (by kernel_rfl) (by kernel_rfl) (fun _ _ _ h => h) (by kernel_rfl) ?_ (by assumption) ?_
      rotate_left 1
      · intro w hSw; (try dsimp only at hSw); go_simp; (try with_reducible rfl)
      try simp only [Act.put, List.setIfInBounds_toArray, List.set_cons_zero, List.set_cons_succ]
      refine takeY 9 47 (v := ?_) rfl rfl (by kernel_rfl) (by kernel_rfl) (by kernel_rfl) (fun _ _ _ h => h) (by kernel_rfl) ?_ (by assumption) ?_
      rotate_left 1
      · intro w hSw; (try dsimp only at hSw); go_simp; (try with_reducible rfl)
      try simp only [Act.put, List.setIfInBounds_toArray, List.set_cons_zero, List.set_cons_succ]
      refine wpAnyH_ready (rs := [10]) (by kernel_rfl) (by simp) ?_
      refine AllReadyH.cons rfl (fun K hK => ?_) AllReadyH.nil
      go_simp
      have sb0 : ((wr.setCell ⟨w.heap.size, k * 2, none⟩ (.int .i64 x1)).setCell ⟨w.heap.size, k * 2 + 1, none⟩ (.int .i64 x2)).cell? ⟨g, o, none⟩ = some (.int .i64 x1) := by go_simp
      have sb1 : ((wr.setCell ⟨w.heap.size, k * 2, none⟩ (.int .i64 x1)).setCell ⟨w.heap.size, k * 2 + 1, none⟩ (.int .i64 x2)).cell? ⟨g, o + 1, none⟩ = some (.int .i64 x2) := by go_simp
      refine hK.out _ _ ⟨sb0, sb1⟩ (fun hHeld => ?_)
      clear hK K
      try simp only [Act.put, List.setIfInBounds_toArray, List.set_cons_zero, List.set_cons_succ]
      refine wpAnyH_done (by kernel_rfl) ?_ _
      by_cases hq64 : q ≤ 64
      · have HG2 : Hid (bpB zs = pdB q (zs.drop (k + 1))) := Lib.hid (by rw [HG.out, decide_eq_true hq64]; simp)
        have hq65 : ¬ (64 : Int) < q := by omega
        go_wp2_with fail
        go_roundw
        case rel => exact ⟨k + 1, q, by omega, by omega, rfl, by go_num, HG2, HP2, Lib.hid (Below.drew HB2.out)⟩
        case measure => simp [intOf]; omega
      · have R : Hid (bpB zs = false) := Lib.hid (by rw [HG.out, decide_eq_false hq64]; simp)
        have hq65 : (64 : Int) < q := by omega
        go_wp2_with fail
        go_ret2
        exact PlAns.no R.out (Below.drew HB2.out)
    · obtain rfl : k = n := by omega
      have R : Hid (bpB zs = true) := Lib.hid (by rw [hg.out]; exact pd_end HL.out y)
      go_wp2_with fail
      go_ret2
      exact PlAns.yes HL.out R.out (hrow.out.congr (fun j hj => by simp [hj])) hb.out
end Go.Proofs.Ytmpbigkaadmihaa
