/- Multiplicities of curvettes, the program's and the model's: contracts. Conditions: stated at each theorem. -/
import Derived.Test.YtohbgfmjnanlkaaCvM
import Derived.Test.YtohbgfmjnanlkaaPtW
namespace Go.Proofs.Ytohbgfmjnanlkaa
open Go.ChangeShapes Go.WideShapes Go.ChangeAt Go.RowKit Go.Deep
set_option linter.unusedVariables false
set_option linter.unusedSimpArgs false

/-- The multiplicities of a curvette, or none. -/
def CvAns (w : World) (c : List Int) (n : Nat) (e : Ending) (w' : World) : Prop :=
  (cvOK c n = true ∧ ∃ A cc, e = .returned (.tuple #[.slice A (n + 1) cc, .bool true]) ∧ OwnI w' w.heap.size w'.heap.size (.slice A (n + 1) cc) (cvL c n) ∧ Below w.heap.size w w') ∨ (cvOK c n = false ∧ e = .returned (.tuple #[.slice none 0 0, .bool false]) ∧ Below w.heap.size w w')
def CsAns (w : World) (c : List Int) (n : Nat) (e : Ending) (w' : World) : Prop :=
  (cvOK c n = true ∧ ∃ A cc, e = .returned (.tuple #[.slice A (n + 1) cc, .bool true]) ∧ OwnI w' w.heap.size w'.heap.size (.slice A (n + 1) cc) (cvL c n) ∧ Below w.heap.size w w') ∨ (cvOK c n = false ∧ ∃ v, e = .returned (.tuple #[v, .bool false]) ∧ Below w.heap.size w w')
theorem cvF_start {n : Nat} (c : List Int) (x : Nat) : (if x = n then (1 : Int) else 0) = cvF c n 0 x := rfl
/-- A round: the number of the point before, then that of the point that the code tells. -/
theorem cvF_round {c : List Int} {n t j x : Nat} (hc : CV c n) (hj : n - t = j) (h1 : 1 ≤ j) (ht : t < n) : cvF c n (t + 1) x = cvF c n t x + (if x + 1 = j ∨ (c[j - 1]?.getD 0 ≠ 0 ∧ (x : Int) = (j : Int) - c[j - 1]?.getD 0) then cvF c n t j else 0) := by
  show cvF c n t x + (if pcB c x (n - t) = true then cvF c n t (n - t) else 0) = _
  rw [hj]
  have hv := hc.2 (j - 1) (by omega)
  have e : (pcB c x j = true) ↔ (x + 1 = j ∨ (c[j - 1]?.getD 0 ≠ 0 ∧ (x : Int) = (j : Int) - c[j - 1]?.getD 0)) := by
    unfold pcB
    simp only [decide_eq_true_eq]
    generalize c[j - 1]?.getD 0 = y at *
    constructor
    · rintro ⟨h2, h3 | h3⟩
      · exact .inl h3
      · by_cases e : x + 1 = j
        · exact .inl e
        · right; omega
    · rintro (h3 | ⟨h3, h4⟩)
      · exact ⟨by omega, .inl h3⟩
      · exact ⟨by omega, .inr (by omega)⟩
  simp only [e]

set_option maxRecDepth 100000 in
set_option maxHeartbeats 2000000 in
theorem curvette_any (v : Value) (c : List Int) (n : Nat) (w : World) (h : ReadI w w.heap.size v c) (hc : CV c n) (hn : n ≤ 400) :
    Calls Try.prog 65 #[v] w (CvAns w c n) := by
  obtain ⟨n', A, cc, rfl, hr, HL, _, hnc, HF, hcm⟩ := h.split2
  have hnn : n = n' := by rw [← HL.out, hc.1]
  subst hnn
  have HR := Lib.hid hr
  have HCV := Lib.hid hc
  obtain ⟨W1, HE1⟩ : ∃ W, W = w.alloc (.cells (madeCells #[.int .i64 0] (n + 1)) 2) := ⟨_, rfl⟩
  have HB1 : Hid (Below w.heap.size w W1) := Lib.hid (by rw [HE1]; exact below_box2 _ _)
  have hrow0 : W1.rowIs w.heap.size 2 (n + 1) (fun x => .int .i64 0) := by rw [HE1]; exact World.rowIs_made _ _ _ _
  have hdst0 := hrow0.cell (i := n) (by omega)
  have hfz0 := hrow0.frozen n
  have HR2 : Hid ((W1.setCell ⟨w.heap.size, n, none⟩ (.int .i64 1)).rowIs w.heap.size 2 (n + 1) (fun x => .int .i64 (cvF c n 0 x))) := Lib.hid ((hrow0.set n _).congr fun x hx => by
    rw [← cvF_start]
    by_cases e : x = n
    · rw [if_pos e, if_pos e]
    · rw [if_neg e, if_neg e])
  have HB2 : Hid (Below w.heap.size w (W1.setCell ⟨w.heap.size, n, none⟩ (.int .i64 1))) := Lib.hid (HB1.out.setCell (p := ⟨w.heap.size, n, none⟩) (Nat.le_refl _) _)
  have hW2 : (w.alloc (.cells (madeCells #[.int .i64 0] (n + 1)) 2)).setCell ⟨w.heap.size, n, none⟩ (.int .i64 1) = w.alloc (.cells ((madeCells #[.int .i64 0] (n + 1)).setIfInBounds n (.int .i64 1)) 2) := by go_simp
  rw [HE1, hW2] at HR2 HB2
  clear hW2
  have hmk := fun (W : World) => run_make_row' (P := Try.prog) 22 2 (.int .i64 0) 8 Try.underlying22 int_info rfl .i64 .i64 (n + 1) (by omega) (by omega) W
  have hmi : (((n + 1 : Nat) : Int)) = (n : Int) + 1 := by omega
  rw [hmi] at hmk
  have p1 : IntKind.i64.wrap ((n : Int) + 1) = (n : Int) + 1 := IntWalk.i64_in _ (by omega)
  have hni : (n : Int) < ((n + 1 : Nat) : Int) := by omega
  have hni2 : (n : Int) < (n : Int) + 1 := by omega
  rw [HE1] at hdst0 hfz0
  clear h hr hc HE1 hmi hrow0
  go_enter Try.func65, Try.ntmps65
  go_wp2
  clear hmk hdst0 hfz0
  go_loopw [5] (fun vj wr => ∃ (j : Nat), j ≤ n ∧ vj = .int .i64 j ∧ Hid (∀ x, j ≤ x → x ≤ n → cvM c n x ≤ 64) ∧ Hid (wr.rowIs w.heap.size 2 (n + 1) (fun x => .int .i64 (cvF c n (n - j) x))) ∧ Hid (Below w.heap.size w wr)) (fun vj _ => (intOf vj).toNat)
  case atStart => exact ⟨n, by omega, rfl, Lib.hid (fun x h1 h2 => by rw [show x = n by omega, cvM_last]; omega), by rw [Nat.sub_self]; exact HR2, HB2⟩
  case round =>
    obtain ⟨j, hj, rfl, hle, hrow, hb⟩ := hrel
    by_cases h0 : 0 < j
    · have h0i : (0 : Int) < (j : Int) := by omega
      have HCR := Lib.hid (fun x => cvF_round (x := x) HCV.out (show n - (n - j) = j by omega) h0 (by omega))
      have hcv := HCV.out.2 (j - 1) (by omega)
      obtain ⟨a, rfl, hal, hc0⟩ := HR.out.2 (j - 1) (by omega)
      obtain ⟨ga, oa, rfl⟩ := HF.out a rfl
      have hgw : ga < w.heap.size := hal
      rw [add_lit] at hc0
      have HCC : Hid (∀ W, Below w.heap.size w W → W.cell? ⟨ga, oa + (j - 1), none⟩ = some (.int .i64 (c[j - 1]?.getD 0))) := Lib.hid fun W hW => by
        rw [hW.cell (p := ⟨ga, oa + (j - 1), none⟩) hgw]; simpa using hc0
      have hMj : cvF c n (n - j) j = cvM c n j := cvF_M (by omega) (by omega)
      have hM64 := hle.out j (Nat.le_refl _) hj
      have hM1 := cvM_ge (c := c) (n := n) (x := j) hj
      have hP := cvF_range (c := c) (n := n) (x := j - 1) (t := n - j) (by omega) (fun s hs => hle.out (n - s) (by omega) (by omega))
      have hMp : cvM c n (j - 1) = cvF c n (n - j) (j - 1) + cvF c n (n - j) j := by
        rw [← cvF_M (t := n - j + 1) (by omega) (by omega), HCR.out, if_pos (.inl (by omega))]
      have d4 := hrow.out.cell (i := j - 1) (by omega)
      have d5 := hrow.out.cell (i := j) (by omega)
      have hfz := hrow.out.frozen (j - 1)
      rw [hMj] at d5 hMp
      obtain ⟨Mj, hMje⟩ : ∃ x, cvM c n j = x := ⟨_, rfl⟩
      obtain ⟨Pj, hPje⟩ : ∃ x, cvF c n (n - j) (j - 1) = x := ⟨_, rfl⟩
      rw [hMje] at d5 hM64 hM1 hMp
      rw [hPje] at d4 hP hMp
      have HMJ : Hid (cvF c n (n - j) j = Mj) := Lib.hid (hMj.trans hMje)
      have HPJ := Lib.hid hPje
      have HMP := Lib.hid hMp
      have q1 : IntKind.i64.wrap ((j : Int) - 1) = (j : Int) - 1 := IntWalk.i64_in _ (by omega)
      have q2 : ((j : Int) - 1).toNat = j - 1 := by omega
      have q3 : (0 : Int) ≤ (j : Int) - 1 := by omega
      have q4 : (j : Int) - 1 < (n : Int) + 1 := by omega
      have q5 : (j : Int) < (n : Int) + 1 := by omega
      have q6 : (1 : Int) ≤ (j : Int) := by omega
      have q7 : (j : Int) - 1 < ((n + 1 : Nat) : Int) := by omega
      have q8 : (j : Int) < ((n + 1 : Nat) : Int) := by omega
      have q9 : IntKind.i64.wrap (Pj + Mj) = Pj + Mj := IntWalk.i64_in _ (by omega)
      have q10 : (j : Int) - 1 < (n : Int) := by omega
      have HRA : Hid ((wr.drew.setCell ⟨w.heap.size, j - 1, none⟩ (.int .i64 (Pj + Mj))).rowIs w.heap.size 2 (n + 1) (fun x => if x = j - 1 then .int .i64 (Pj + Mj) else .int .i64 (cvF c n (n - j) x))) := Lib.hid (World.rowIs.set (w := wr.drew) hrow.out (j - 1) _)
      have HBA : Hid (Below w.heap.size w (wr.drew.setCell ⟨w.heap.size, j - 1, none⟩ (.int .i64 (Pj + Mj)))) := Lib.hid (hb.out.drew.setCell (p := ⟨w.heap.size, j - 1, none⟩) (Nat.le_refl _) _)
      have dc := HCC.out _ HBA.out
      have dcw := HCC.out _ hb.out
      have hne : ga ≠ w.heap.size := by omega
      have hne2 : w.heap.size ≠ ga := by omega
      have hjj : j ≠ j - 1 := by omega
      have hjj2 : j - 1 ≠ j := by omega
      clear hc0 hal hMj hMje hPje hMp
      by_cases hbig : 64 < Pj + Mj
      · have HFL : Hid (cvOK c n = false) := Lib.hid (cvOK_false (x := j - 1) (by omega) (by rw [HMP.out]; exact hbig))
        clear dc dcw
        go_wp2_with fail
        go_region
        all_goals
          go_wp2_with fail
          go_ret2
          exact .inr ⟨HFL.out, rfl, HBA.out⟩
      · have HLE2 : Hid (∀ x, j - 1 ≤ x → x ≤ n → cvM c n x ≤ 64) := Lib.hid (fun x h1 h2 => by
          by_cases e : x = j - 1
          · rw [e, HMP.out]; omega
          · exact hle.out x (by omega) h2)
        obtain ⟨y, hye⟩ : ∃ y, c[j - 1]?.getD 0 = y := ⟨_, rfl⟩
        have HYE := Lib.hid hye
        rw [hye] at hcv dc dcw
        clear hye
        by_cases hy : y = 0
        · have HRN : Hid ((wr.drew.setCell ⟨w.heap.size, j - 1, none⟩ (.int .i64 (Pj + Mj))).rowIs w.heap.size 2 (n + 1) (fun x => .int .i64 (cvF c n (n - (j - 1)) x))) := Lib.hid (HRA.out.congr fun x hx => by
            rw [show n - (j - 1) = n - j + 1 by omega, HCR.out, HMJ.out, HYE.out]
            by_cases e : x = j - 1
            · rw [if_pos e, if_pos (.inl (by omega)), e, HPJ.out]
            · rw [if_neg e, if_neg (by omega)]; simp)
          subst hy
          clear hcv
          go_wp2_with fail
          go_region
          all_goals
            go_wp2_with fail
            go_roundw
            case rel => exact ⟨j - 1, by omega, vintS (by omega), HLE2, HRN, HBA⟩
            case measure => simp [intOf]; omega
        · have hy2 : 2 ≤ y ∧ y ≤ (j : Int) := by omega
          obtain ⟨i, hi⟩ : ∃ i : Nat, (j : Int) - y = (i : Int) := ⟨((j : Int) - y).toNat, by omega⟩
          have HII := Lib.hid hi
          have hij : i + 1 < j := by omega
          have hP2 := cvF_range (c := c) (n := n) (x := i) (t := n - j) (by omega) (fun s hs => hle.out (n - s) (by omega) (by omega))
          have d6 := HRA.out.cell (i := i) (by omega)
          have d7 := HRA.out.cell (i := j) (by omega)
          have hfz6 := HRA.out.frozen i
          rw [if_neg (by omega)] at d6 d7
          rw [HMJ.out] at d7
          obtain ⟨Pi, hPie⟩ : ∃ x, cvF c n (n - j) i = x := ⟨_, rfl⟩
          have HPI := Lib.hid hPie
          have d6w := hrow.out.cell (i := i) (by omega)
          have hfz6w := hrow.out.frozen i
          have hij1 : i ≠ j - 1 := by omega
          have hij2 : j - 1 ≠ i := by omega
          rw [hPie] at d6 hP2 d6w
          have r1 : IntKind.i64.wrap ((j : Int) - y) = (i : Int) := by rw [IntWalk.i64_in _ (by omega)]; exact hi
          have r2 : IntKind.i64.wrap (Pi + Mj) = Pi + Mj := IntWalk.i64_in _ (by omega)
          have r3 : (i : Int) < (n : Int) + 1 := by omega
          have r4 : (i : Int) < ((n + 1 : Nat) : Int) := by omega
          have hy0 : (0 : Int) < y := by omega
          have HRN : Hid (((wr.drew.setCell ⟨w.heap.size, j - 1, none⟩ (.int .i64 (Pj + Mj))).drew.setCell ⟨w.heap.size, i, none⟩ (.int .i64 (Pi + Mj))).rowIs w.heap.size 2 (n + 1) (fun x => .int .i64 (cvF c n (n - (j - 1)) x))) := Lib.hid ((World.rowIs.set (w := (wr.drew.setCell ⟨w.heap.size, j - 1, none⟩ (.int .i64 (Pj + Mj))).drew) HRA.out i _).congr fun x hx => by
            rw [show n - (j - 1) = n - j + 1 by omega, HCR.out, HMJ.out, HYE.out]
            have := HII.out
            by_cases e : x = i
            · rw [if_pos e, if_pos (.inr ⟨hy, by omega⟩), e, HPI.out]
            · rw [if_neg e]
              by_cases e2 : x = j - 1
              · rw [if_pos e2, if_pos (.inl (by omega)), e2, HPJ.out]
              · rw [if_neg e2, if_neg (by omega)]; simp)
          have HBN : Hid (Below w.heap.size w ((wr.drew.setCell ⟨w.heap.size, j - 1, none⟩ (.int .i64 (Pj + Mj))).drew.setCell ⟨w.heap.size, i, none⟩ (.int .i64 (Pi + Mj)))) := Lib.hid (HBA.out.drew.setCell (p := ⟨w.heap.size, i, none⟩) (Nat.le_refl _) _)
          clear hcv hi hPie
          go_wp2_with fail
          go_region
          all_goals
            go_wp2_with fail
            go_region
            all_goals
              go_wp2_with fail
              go_roundw
              case rel => exact ⟨j - 1, by omega, vintS (by omega), HLE2, HRN, HBN⟩
              case measure => simp [intOf]; omega
    · obtain rfl : j = 0 := by omega
      have HOK : Hid (cvOK c n = true) := Lib.hid (cvOK_true.2 fun x hx => hle.out x (by omega) hx)
      have HOW : Hid (OwnI wr w.heap.size wr.heap.size (.slice (some ⟨w.heap.size, 0, none⟩) (n + 1) (n + 1)) (cvL c n)) := Lib.hid (own_of_row (F := fun x => cvF c n (n - 0) x) hrow.out (cvL_len _ _) (fun x hx => by rw [List.getD, cvL_at (by omega)]; rfl) (Nat.le_refl _) (by omega))
      go_wp2
      go_ret2
      exact .inl ⟨HOK.out, _, _, rfl, HOW.out, hb.out⟩

/-- The numbers within a round of the model: those of the first near points have come. -/
def cvG (c : List Int) (n t j : Nat) (L : List Int) (x : Nat) : Int := cvF c n t x + if (x : Int) ∈ L then cvF c n t j else 0
theorem cvG_nil (c : List Int) (n t j x : Nat) : cvG c n t j [] x = cvF c n t x := by unfold cvG; simp
theorem cvG_not {c : List Int} {n t j x : Nat} {L : List Int} (h : ¬ (x : Int) ∈ L) : cvG c n t j L x = cvF c n t x := by unfold cvG; rw [if_neg h]; simp
theorem cvG_snoc {c : List Int} {n t j i : Nat} {L : List Int} (h : ¬ (i : Int) ∈ L) (x : Nat) : (if x = i then cvF c n t i + cvF c n t j else cvG c n t j L x) = cvG c n t j (L ++ [(i : Int)]) x := by
  unfold cvG
  by_cases e : x = i
  · subst e; rw [if_pos rfl, if_pos (by simp)]
  · have : ((x : Int) ∈ L ++ [(i : Int)]) ↔ ((x : Int) ∈ L) := by
      rw [List.mem_append]
      constructor
      · rintro (h1 | h1)
        · exact h1
        · simp at h1; omega
      · exact fun h1 => .inl h1
    rw [if_neg e]
    simp only [this]
theorem cvG_end {c : List Int} {n t j x : Nat} (hc : CV c n) (hj : n - t = j) (h1 : 1 ≤ j) (ht : t < n) : cvG c n t j (nearL (c[j - 1]?.getD 0) j) x = cvF c n (t + 1) x := by
  rw [cvF_round hc hj h1 ht]
  unfold cvG
  have e : ((x : Int) ∈ nearL (c[j - 1]?.getD 0) j) ↔ (x + 1 = j ∨ (c[j - 1]?.getD 0 ≠ 0 ∧ (x : Int) = (j : Int) - c[j - 1]?.getD 0)) := by
    generalize c[j - 1]?.getD 0 = y
    unfold nearL
    rw [if_neg (by omega)]
    by_cases hy : y = 0
    · rw [if_pos hy]; simp [hy]; omega
    · rw [if_neg hy]; simp [hy]; omega
  simp only [e]
/-- The near points one by one. -/
theorem near_at {y : Int} {j t : Nat} (h0 : 1 ≤ j) (hy : y = 0 ∨ (2 ≤ y ∧ y ≤ (j : Int))) (ht : t < (nearL y j).length) : ∃ i : Nat, (nearL y j)[t]? = some (i : Int) ∧ i < j ∧ ¬ (i : Int) ∈ (nearL y j).take t := by
  unfold nearL at ht ⊢
  rw [if_neg (by omega)] at ht ⊢
  by_cases hz : y = 0
  · rw [if_pos hz] at ht ⊢
    have : t = 0 := by simpa using ht
    subst this
    exact ⟨j - 1, by simp; omega, by omega, by simp⟩
  · rw [if_neg hz] at ht ⊢
    have : t = 0 ∨ t = 1 := by simp at ht; omega
    rcases this with rfl | rfl
    · exact ⟨((j : Int) - y).toNat, by simp; omega, by omega, by simp⟩
    · exact ⟨j - 1, by simp; omega, by omega, by simp; omega⟩
theorem near_small {y : Int} {j : Nat} (h0 : 1 ≤ j) (hy : y = 0 ∨ (2 ≤ y ∧ y ≤ (j : Int))) (L : List Int) (hL : ∀ z ∈ L, z ∈ nearL y j) : ¬ (j : Int) ∈ L := fun h => by
  have := hL _ h
  unfold nearL at this
  rw [if_neg (by omega)] at this
  split at this
  · simp at this; omega
  · simp at this; omega

set_option maxRecDepth 100000 in
set_option maxHeartbeats 2000000 in
theorem l06Curvette_any (v : Value) (c : List Int) (n : Nat) (w : World) (h : ReadI w w.heap.size v c) (hc : CV c n) (hn : n ≤ 400) :
    Calls Try.prog 62 #[v] w (CsAns w c n) := by
  have HRI := Lib.hid h
  obtain ⟨n', A, cc, rfl, hr, HL, _, hnc, HF, hcm⟩ := h.split2
  have hnn : n = n' := by rw [← HL.out, hc.1]
  subst hnn
  have HCV := Lib.hid hc
  obtain ⟨W1, HE1⟩ : ∃ W, W = w.alloc (.cells (madeCells #[.int .i64 0] (n + 1)) 2) := ⟨_, rfl⟩
  have HB1 : Hid (Below w.heap.size w W1) := Lib.hid (by rw [HE1]; exact below_box2 _ _)
  have hrow0 : W1.rowIs w.heap.size 2 (n + 1) (fun x => .int .i64 0) := by rw [HE1]; exact World.rowIs_made _ _ _ _
  have hdst0 := hrow0.cell (i := n) (by omega)
  have hfz0 := hrow0.frozen n
  have HR2 : Hid ((W1.setCell ⟨w.heap.size, n, none⟩ (.int .i64 1)).rowIs w.heap.size 2 (n + 1) (fun x => .int .i64 (cvF c n 0 x))) := Lib.hid ((hrow0.set n _).congr fun x hx => by
    rw [← cvF_start]
    by_cases e : x = n
    · rw [if_pos e, if_pos e]
    · rw [if_neg e, if_neg e])
  have HB2 : Hid (Below w.heap.size w (W1.setCell ⟨w.heap.size, n, none⟩ (.int .i64 1))) := Lib.hid (HB1.out.setCell (p := ⟨w.heap.size, n, none⟩) (Nat.le_refl _) _)
  have hW2 : (w.alloc (.cells (madeCells #[.int .i64 0] (n + 1)) 2)).setCell ⟨w.heap.size, n, none⟩ (.int .i64 1) = w.alloc (.cells ((madeCells #[.int .i64 0] (n + 1)).setIfInBounds n (.int .i64 1)) 2) := by go_simp
  rw [HE1, hW2] at HR2 HB2
  clear hW2
  have hmk := fun (W : World) => run_make_row' (P := Try.prog) 22 2 (.int .i64 0) 8 Try.underlying22 int_info rfl .i64 .i64 (n + 1) (by omega) (by omega) W
  have hmi : (((n + 1 : Nat) : Int)) = (n : Int) + 1 := by omega
  rw [hmi] at hmk
  have p1 : IntKind.i64.wrap ((n : Int) + 1) = (n : Int) + 1 := IntWalk.i64_in _ (by omega)
  have p2 : IntKind.i64.wrap ((n : Int) + 1 - 1) = (n : Int) := by rw [IntWalk.i64_in _ (by omega)]; omega
  have hni : (n : Int) < ((n + 1 : Nat) : Int) := by omega
  have hni2 : (n : Int) < (n : Int) + 1 := by omega
  rw [HE1] at hdst0 hfz0
  clear h hr hc HE1 hmi hrow0
  go_enter Try.func62, Try.ntmps62
  go_wp2
  clear hmk hdst0 hfz0
  go_loopw [6] (fun vj wr => ∃ (j : Nat), j ≤ n ∧ vj = .int .i64 j ∧ Hid (∀ x, j < x → x ≤ n → cvM c n x ≤ 64) ∧ Hid (wr.rowIs w.heap.size 2 (n + 1) (fun x => .int .i64 (cvF c n (n - j) x))) ∧ Hid (Below w.heap.size w wr) ∧ w.heap.size < wr.heap.size) (fun vj _ => (intOf vj).toNat)
  case atStart => exact ⟨n, by omega, rfl, Lib.hid (fun x h1 h2 => by omega), by rw [Nat.sub_self]; exact HR2, HB2, by simp⟩
  case round =>
    obtain ⟨j, hj, rfl, hle, hrow, hb, hgsz⟩ := hrel
    have hMj : cvF c n (n - j) j = cvM c n j := cvF_M (by omega) (by omega)
    have hM1 := cvM_ge (c := c) (n := n) (x := j) hj
    have d5 := hrow.out.cell (i := j) (by omega)
    have q8 : (j : Int) < ((n + 1 : Nat) : Int) := by omega
    have q5 : (j : Int) < (n : Int) + 1 := by omega
    by_cases h0 : 0 < j
    · have h0i : (0 : Int) < (j : Int) := by omega
      by_cases hbig : 64 < cvM c n j
      · have HFL : Hid (cvOK c n = false) := Lib.hid (cvOK_false (x := j) hj hbig)
        rw [hMj] at d5
        obtain ⟨Mj, hMje⟩ : ∃ x, cvM c n j = x := ⟨_, rfl⟩
        rw [hMje] at d5 hbig
        clear hMj hMje hM1
        go_wp2_with fail
        go_ret2
        exact .inr ⟨HFL.out, _, rfl, hb.out⟩
      have hcv := HCV.out.2 (j - 1) (by omega)
      have hcv2 : c[j - 1]?.getD 0 = 0 ∨ (2 ≤ c[j - 1]?.getD 0 ∧ c[j - 1]?.getD 0 ≤ (j : Int)) := by omega
      have HCG := Lib.hid (fun x => cvG_end (x := x) HCV.out (show n - (n - j) = j by omega) h0 (by omega))
      have HPR := Lib.hid (fun x => cvF_range (c := c) (n := n) (x := x) (t := n - j) (by omega) (fun s hs => hle.out (n - s) (by omega) (by omega)))
      have HLE2 : Hid (∀ x, j - 1 < x → x ≤ n → cvM c n x ≤ 64) := Lib.hid (fun x h1 h2 => by
          by_cases e : x = j
          · rw [e]; omega
          · exact hle.out x (by omega) h2)
      have hM64 : cvM c n j ≤ 64 := by omega
      have HMC : Hid (cvF c n (n - j) j = cvM c n j) := Lib.hid hMj
      rw [hMj] at d5
      obtain ⟨Mj, hMje⟩ : ∃ x, cvM c n j = x := ⟨_, rfl⟩
      rw [hMje] at d5 hM64 hM1 HMC
      have HNA := Lib.hid (fun t ht => near_at (t := t) h0 hcv2 ht)
      have HNS := Lib.hid (fun L hL => near_small h0 hcv2 L hL)
      have HRD : Hid (ReadI wr wr.heap.size (.slice A n cc) c) := Lib.hid ((HRI.out.below hb.out).more hb.out.size)
      have hMjn : ¬ 64 < Mj := by omega
      obtain ⟨y, hye⟩ : ∃ y, c[j - 1]?.getD 0 = y := ⟨_, rfl⟩
      have HYE := Lib.hid hye
      rw [hye] at hcv2 HCG HNA HNS
      clear hMj hMje hbig hcv hye
      go_wp2_with fail
      refine (l06Near_any _ c j y wr _ HRD.out (by rw [HL.out]; omega) (by rw [HL.out]; omega) (fun _ => HYE.out) hcv2).mono ?_
      rintro e w3 ⟨A3, c3, rfl, ho3, hb3⟩
      obtain ⟨N, hN⟩ : ∃ N, (nearL y j).length = N := ⟨_, rfl⟩
      have HNE := Lib.hid hN
      have hN2 : N ≤ 2 := by rw [← hN]; exact nearL_len _ _
      obtain ⟨SZ, hSZ⟩ : ∃ s, wr.heap.size = s := ⟨_, rfl⟩
      have hgSZ : w.heap.size < SZ := by rw [← hSZ]; exact hgsz
      have HNC : Hid (∀ t, t < N → ∃ (g i : Nat), A3 = some ⟨g, 0, none⟩ ∧ SZ ≤ g ∧ g < w3.heap.size ∧ (nearL y j)[t]? = some (i : Int) ∧ i < j ∧ ¬ (i : Int) ∈ (nearL y j).take t ∧ w3.cell? ⟨g, t, none⟩ = some (.int .i64 i)) := Lib.hid fun t ht => by
        obtain ⟨g, e1, k1, k2, h5, _⟩ := own_at ho3 rfl (show t < (nearL y j).length by omega)
        obtain ⟨i, h6, h7, h8⟩ := HNA.out t (by omega)
        exact ⟨g, i, e1, by rw [← hSZ]; exact k1, k2, h6, h7, h8, by rw [h5, h6]; rfl⟩
      have HROW3 : Hid (w3.rowIs w.heap.size 2 (n + 1) (fun x => .int .i64 (cvG c n (n - j) j ((nearL y j).take 0) x))) := Lib.hid ((hrow.out.of_block (hb3.block _ hgsz)).congr fun x hx => by rw [List.take_zero, cvG_nil])
      have HB3 : Hid (Below w.heap.size w w3) := Lib.hid (hb.out.trans (hb3.mono hb.out.size))
      have hs3 := hb3.size
      rw [hN]
      have hs3' : SZ ≤ w3.heap.size := by rw [← hSZ]; exact hs3
      clear ho3 hb3 hN hSZ
      go_wp2_with fail
      go_loopw [8] (fun vi wr => ∃ (t : Nat), t ≤ N ∧ vi = .int .i64 t ∧ Hid (wr.rowIs w.heap.size 2 (n + 1) (fun x => .int .i64 (cvG c n (n - j) j ((nearL y j).take t) x))) ∧ Hid (Below w.heap.size w wr) ∧ Hid (∀ b, SZ ≤ b → b < w3.heap.size → wr.heap[b]? = w3.heap[b]?) ∧ w3.heap.size ≤ wr.heap.size) (fun vi _ => N - (intOf vi).toNat)
      case atStart => exact ⟨0, by omega, rfl, HROW3, HB3, Lib.hid (fun _ _ _ => rfl), Nat.le_refl _⟩
      case round =>
        obtain ⟨t, ht, rfl, hrow2, hb2, hkp, hszi⟩ := hrel
        by_cases htN : t < N
        · obtain ⟨gn, i, rfl, hg1, hg2, hni, hij, hnin, hcn⟩ := HNC.out t htN
          have d1 := cell_at (hkp.out gn hg1 hg2) hcn
          have d2 := hrow2.out.cell (i := i) (by omega)
          have d3 := hrow2.out.cell (i := j) (by omega)
          have hfz := hrow2.out.frozen i
          rw [cvG_not hnin] at d2
          rw [cvG_not (HNS.out _ (fun z hz => List.mem_of_mem_take hz)), HMC.out] at d3
          have hP := HPR.out i
          have HSN : Hid (∀ x, (if x = i then cvF c n (n - j) i + cvF c n (n - j) j else cvG c n (n - j) j ((nearL y j).take t) x) = cvG c n (n - j) j ((nearL y j).take (t + 1)) x) := Lib.hid (fun x => by
            rw [cvG_snoc hnin, List.take_add_one, hni]; rfl)
          rw [HMC.out] at HSN
          obtain ⟨Pi, hPi⟩ : ∃ x, cvF c n (n - j) i = x := ⟨_, rfl⟩
          rw [hPi] at d2 hP HSN
          have r1 : IntKind.i64.wrap (Pi + Mj) = Pi + Mj := IntWalk.i64_in _ (by omega)
          have r3 : (i : Int) < (n : Int) + 1 := by omega
          have r4 : (i : Int) < ((n + 1 : Nat) : Int) := by omega
          have htN2 : (t : Int) < (N : Int) := by omega
          have HRN : Hid ((wr.drew.setCell ⟨w.heap.size, i, none⟩ (.int .i64 (Pi + Mj))).rowIs w.heap.size 2 (n + 1) (fun x => .int .i64 (cvG c n (n - j) j ((nearL y j).take (t + 1)) x))) := Lib.hid ((World.rowIs.set (w := wr.drew) hrow2.out i _).congr fun x hx => by
            rw [← HSN.out x]
            by_cases e : x = i
            · rw [if_pos e, if_pos e]
            · rw [if_neg e, if_neg e])
          have HBN : Hid (Below w.heap.size w (wr.drew.setCell ⟨w.heap.size, i, none⟩ (.int .i64 (Pi + Mj)))) := Lib.hid (hb2.out.drew.setCell (p := ⟨w.heap.size, i, none⟩) (Nat.le_refl _) _)
          have HKN : Hid (∀ b, SZ ≤ b → b < w3.heap.size → (wr.drew.setCell ⟨w.heap.size, i, none⟩ (.int .i64 (Pi + Mj))).heap[b]? = w3.heap[b]?) := Lib.hid (fun b h1 h2 => (Below.heap_setCell wr.drew ⟨w.heap.size, i, none⟩ _ b (by rintro e; simp at e; omega)).trans (hkp.out b h1 h2))
          have hszn : w3.heap.size ≤ (wr.drew.setCell ⟨w.heap.size, i, none⟩ (.int .i64 (Pi + Mj))).heap.size := by simp [World.setCell]; exact hszi
          have HSZ := Lib.hid hszn
          clear hni hPi hcn hnin hszn
          go_wp2_with fail
          go_region
          all_goals
            go_wp2_with fail
            go_roundw
            case rel => exact ⟨t + 1, by omega, by go_num, HRN, HBN, HKN, HSZ.out⟩
            case measure => simp [intOf]; omega
        · obtain rfl : t = N := by omega
          have HRN : Hid (wr.rowIs w.heap.size 2 (n + 1) (fun x => .int .i64 (cvF c n (n - (j - 1)) x))) := Lib.hid (hrow2.out.congr fun x hx => by rw [List.take_of_length_le (by rw [HNE.out]; exact Nat.le_refl _), HCG.out, show n - (j - 1) = n - j + 1 by omega])
          have htt : ¬ (t : Int) < (t : Int) := by omega
          go_wp2_with fail
          go_roundw
          case rel => exact ⟨j - 1, by omega, vintS (by omega), HLE2, HRN, hb2, by omega⟩
          case measure => simp [intOf]; omega
    · obtain rfl : j = 0 := by omega
      have HOW : Hid (OwnI wr w.heap.size wr.heap.size (.slice (some ⟨w.heap.size, 0, none⟩) (n + 1) (n + 1)) (cvL c n)) := Lib.hid (own_of_row (F := fun x => cvF c n (n - 0) x) hrow.out (cvL_len _ _) (fun x hx => by rw [List.getD, cvL_at (by omega)]; rfl) (Nat.le_refl _) (by omega))
      rw [hMj] at d5
      by_cases hok : cvM c n 0 ≤ 64
      · have HOK : Hid (cvOK c n = true) := Lib.hid (cvOK_true.2 fun x hx => by
          by_cases e : x = 0
          · rw [e]; exact hok
          · exact hle.out x (by omega) hx)
        obtain ⟨M0, hM0⟩ : ∃ x, cvM c n 0 = x := ⟨_, rfl⟩
        rw [hM0] at d5 hok
        clear hMj hM1 hM0
        go_wp2_with fail
        go_quiet (fail)
        go_wp2_with fail
        go_ret2
        exact .inl ⟨HOK.out, _, _, rfl, HOW.out.kept (Kept.drewN _ _ _ _), below_drewN hb.out _⟩
      · have HOK : Hid (cvOK c n = false) := Lib.hid (cvOK_false (x := 0) (by omega) (by omega))
        obtain ⟨M0, hM0⟩ : ∃ x, cvM c n 0 = x := ⟨_, rfl⟩
        rw [hM0] at d5 hok
        have hok2 : decide (M0 ≤ 64) = false := by simpa using hok
        clear hMj hM1 hM0
        go_wp2_with fail
        go_quiet (fail)
        go_wp2_with fail
        go_ret2
        exact .inr ⟨HOK.out, _, rfl, below_drewN hb.out _⟩
end Go.Proofs.Ytohbgfmjnanlkaa
