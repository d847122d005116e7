/- The product of second numbers, the model's: contract of spec.l03Pairs. Conditions: stated at the theorem. -/
import Derived.Test.YtmpbigkaadmihaaBpL
namespace Go.Proofs.Ytmpbigkaadmihaa
open Go.ChangeShapes Go.WideShapes Go.ChangeAt Go.RowKit
set_option linter.unusedVariables false
set_option linter.unusedSimpArgs false

/-- The product of the second numbers, or 0. -/
def pdV (zs : List (List Int)) : Int := if bpB zs then prdL (psOf zs) else 0
theorem pdV_no {zs : List (List Int)} (h : bpB zs = false) : pdV zs = 0 := by simp [pdV, h]
theorem pdV_yes {zs : List (List Int)} (h : bpB zs = true) : pdV zs = prdL (psOf zs) := by simp [pdV, h]
def PvAns (w : World) (zs : List (List Int)) (e : Ending) (w' : World) : Prop := e = .returned (.int .i64 (pdV zs)) ∧ Below w.heap.size w w'
theorem PvAns.mk {w w' : World} {zs : List (List Int)} {x : Int} (h : pdV zs = x) (hb : Below w.heap.size w w') : PvAns w zs (.returned (.int .i64 x)) w' := ⟨by rw [h], hb⟩

set_option maxHeartbeats 2000000 in
theorem l03Pairs_any (v : Value) (zs : List (List Int)) (w : World) (h : ReadQ w w.heap.size v zs) (hw : ∀ x ∈ zs, ∀ z ∈ x, (Lit.int .i64 z).wf = true) :
    Calls Try.prog 67 #[v] w (PvAns w zs) := by
  obtain ⟨A, c, rfl, h0, hN, hnc, hF, hcm⟩ := h
  have H0 := Lib.hid h0
  have HW := Lib.hid hw
  generalize hL : zs.length = n at *
  have HL := Lib.hid hL
  clear hL h0 hw hF hN
  by_cases h6 : n ≤ 6
  rotate_left
  · have R : Hid (pdV zs = 0) := Lib.hid (pdV_no (by simp [bpB, HL.out, h6]))
    have h6' : (6 : Int) < (n : Int) := by omega
    go_enter Try.func67, Try.ntmps67
    go_wp2_with fail
    go_ret
    exact PvAns.mk R.out (Below.refl _ _)
  have h6' : ¬ (6 : Int) < (n : Int) := by omega
  have E0 : Hid (bpB zs = pdB 1 (zs.drop 0)) := Lib.hid (by simp [bpB, HL.out, h6])
  have E1 : Hid (1 * prdL (psOf (zs.drop 0)) = prdL (psOf zs)) := Lib.hid (by simp)
  go_enter Try.func67, Try.ntmps67
  go_wp2_with fail
  go_loopw [3, 4] (fun vy vi wr => ∃ (k : Nat) (y : Int), k ≤ n ∧ (1 ≤ y ∧ y ≤ 64) ∧ vy = .int .i64 y ∧ vi = .int .i64 k ∧ Hid (bpB zs = pdB y (zs.drop k)) ∧ Hid (y * prdL (psOf (zs.drop k)) = prdL (psOf zs)) ∧ Hid (Below w.heap.size w wr)) (fun _ vi _ => n - (intOf vi).toNat)
  case atStart => exact ⟨0, 1, by omega, by omega, rfl, rfl, E0, E1, Lib.hid (Below.refl _ _)⟩
  case round =>
    clear E0 E1
    obtain ⟨k, y, hk, hy, rfl, rfl, hg, hpr, hb⟩ := hrel
    by_cases hlt : k < n
    · obtain ⟨a, u, rfl, ha, hcell0, hri⟩ := H0.out k hlt
      have hcell : wr.cell? (a.add k) = some u := (hb.out.cell (by rw [add_block]; exact ha)).trans hcell0
      have HP : Hid (k < zs.length) := Lib.hid (by have := HL.out; omega)
      have HS := Lib.hid (pd_step HL.out hlt y)
      have HDR : Hid (prdL (psOf (zs.drop k)) = (pairOf (zs.getD k [])).2 * prdL (psOf (zs.drop (k + 1)))) := Lib.hid (by
        have e : zs.drop k = zs.getD k [] :: zs.drop (k + 1) := by rw [List.drop_eq_getElem_cons HP.out]; simp [List.getD, HP.out]
        rw [e]; rfl)
      have hri2 := (hri.below hb.out)
      generalize zs.getD k [] = z at *
      obtain ⟨m, A', c', rfl, hr', HL', HN', hnc', HF', hcm'⟩ := hri2.split2
      have hkn : (k : Int) < (n : Int) := by omega
      have hk0 : (0 : Int) ≤ (k : Int) := by omega
      have hmm : m ≤ 9223372036854775807 := by omega
      clear hri hri2 hcell0
      by_cases hm : m = 2
      rotate_left
      · have R : Hid (pdV zs = 0) := Lib.hid (pdV_no (by rw [hg.out, HS.out, pairB_len (by rw [HL'.out]; exact hm)]; rfl))
        have T : ((m : Int) == 2) = false := by simp; omega
        have T2 : ((m : Int) != 2) = true := by simp; omega
        clear hr' HF' hm
        go_wp2_with fail
        go_ret
        exact PvAns.mk R.out hb.out
      subst hm
      obtain ⟨x1, x2, rfl⟩ := list_two HL'.out
      obtain ⟨a1, rfl, hal, hc1⟩ := hr'.2 0 (by omega)
      obtain ⟨g, o, rfl⟩ := HF'.out a1 rfl
      obtain ⟨a2, e2, _, hc2⟩ := hr'.2 1 (by omega)
      cases e2
      have hcA : wr.cell? ⟨g, o, none⟩ = some (.int .i64 x1) := by simpa [Addr.add] using hc1
      have hcB : wr.cell? ⟨g, o + 1, none⟩ = some (.int .i64 x2) := by simpa [Addr.add] using hc2
      clear hc1 hc2 HF' hr'
      by_cases ht1 : 1 ≤ x1 ∧ x1 ≤ 2000
      rotate_left
      · have R : Hid (pdV zs = 0) := Lib.hid (pdV_no (by rw [hg.out, HS.out]; simp [pairB, tmB_false.2 ht1]))
        have HT := Lib.hid ht1
        clear ht1
        go_wp2_with fail
        refine (in_no x1 1 2000 _ HT.out).mono ?_
        rintro e w1 ⟨rfl, rfl⟩
        go_wp2_with fail
        go_ret
        exact PvAns.mk R.out hb.out
      by_cases ht2 : 1 ≤ x2 ∧ x2 ≤ 2000
      rotate_left
      · have R : Hid (pdV zs = 0) := Lib.hid (pdV_no (by rw [hg.out, HS.out]; simp [pairB, tmB_false.2 ht2]))
        have HT := Lib.hid ht1
        have HT2 := Lib.hid ht2
        clear ht1 ht2
        go_wp2_with fail
        refine (in_yes x1 1 2000 _ HT.out.1 HT.out.2).mono ?_
        rintro e w1 ⟨rfl, rfl⟩
        go_wp2_with fail
        refine (in_no x2 1 2000 _ HT2.out).mono ?_
        rintro e w1 ⟨rfl, rfl⟩
        go_wp2_with fail
        go_ret
        exact PvAns.mk R.out hb.out
      have hq := mul_range (a := x2) (b := y) ht2 hy
      rw [Int.mul_comm] at hq
      have HG : Hid (bpB zs = (decide (y * x2 ≤ 64) && pdB (y * x2) (zs.drop (k + 1)))) := Lib.hid (by rw [hg.out, HS.out]; simp only [pairB, tmB_true.2 ht1, tmB_true.2 ht2, Bool.true_and, Bool.and_self]; rfl)
      have HPR : Hid (y * x2 * prdL (psOf (zs.drop (k + 1))) = prdL (psOf zs)) := Lib.hid (by rw [← hpr.out, HDR.out, Int.mul_assoc]; rfl)
      have pw : IntKind.i64.wrap (y * x2) = y * x2 := IntWalk.i64_in _ (by omega)
      generalize hqq : y * x2 = q at *
      clear hg HS HDR
      by_cases hq64 : q ≤ 64
      · have HG2 : Hid (bpB zs = pdB q (zs.drop (k + 1))) := Lib.hid (by rw [HG.out, decide_eq_true hq64]; simp)
        have hq65 : ¬ (64 : Int) < q := by omega
        go_wp2_with fail
        refine (in_yes x1 1 2000 _ ht1.1 ht1.2).mono ?_
        rintro e w1 ⟨rfl, rfl⟩
        go_wp2_with fail
        refine (in_yes x2 1 2000 _ ht2.1 ht2.2).mono ?_
        rintro e w1 ⟨rfl, rfl⟩
        go_wp2_with fail
        go_roundw
        case rel => exact ⟨k + 1, q, by omega, by omega, rfl, by go_num, HG2, HPR, hb⟩
        case measure => simp [intOf]; omega
      · have R : Hid (pdV zs = 0) := Lib.hid (pdV_no (by rw [HG.out, decide_eq_false hq64]; simp))
        have hq65 : (64 : Int) < q := by omega
        go_wp2_with fail
        refine (in_yes x1 1 2000 _ ht1.1 ht1.2).mono ?_
        rintro e w1 ⟨rfl, rfl⟩
        go_wp2_with fail
        refine (in_yes x2 1 2000 _ ht2.1 ht2.2).mono ?_
        rintro e w1 ⟨rfl, rfl⟩
        go_wp2_with fail
        go_ret
        exact PvAns.mk R.out hb.out
    · obtain rfl : k = n := by omega
      have R : Hid (pdV zs = y) := Lib.hid (by
        rw [pdV_yes (by rw [hg.out]; exact pd_end HL.out y), ← hpr.out, ← HL.out, List.drop_length]
        simp [psOf, prdL])
      go_wp2_with fail
      go_ret
      exact PvAns.mk R.out hb.out
end Go.Proofs.Ytmpbigkaadmihaa
