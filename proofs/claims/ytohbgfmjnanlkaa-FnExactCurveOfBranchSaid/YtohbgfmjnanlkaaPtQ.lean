/- Points to which points are proximate, the program's: contracts of impl.proximatesAt, impl.isSatellite, impl.codeAt. Conditions: stated at each theorem. -/
import Derived.Test.YtohbgfmjnanlkaaPtR
namespace Go.Proofs.Ytohbgfmjnanlkaa
open Go.ChangeShapes Go.WideShapes Go.ChangeAt Go.RowKit Go.Deep
set_option linter.unusedVariables false
set_option linter.unusedSimpArgs false

set_option maxRecDepth 100000 in
set_option maxHeartbeats 2000000 in
theorem proximatesAt_any (v : Value) (mm : List Int) (k : Nat) (w : World) (h : ReadI w w.heap.size v mm) (hM : MQ mm k) (hk : k ≤ 400) :
    Calls Try.prog 67 #[v] w fun e w' => ∃ A c, e = .returned (.slice A k c) ∧ OwnQ w' w.heap.size w'.heap.size (.slice A k c) (prQ mm k) ∧ Below w.heap.size w w' := by
  have HLm : Hid (mm.length = k) := Lib.hid hM.len
  obtain ⟨n, A, c, rfl, hr, HL, _, hnc, HF, hcm⟩ := h.split2
  have hnk : n = k := by rw [← HL.out, HLm.out]
  subst hnk
  obtain ⟨W1, HE1⟩ : ∃ W, W = w.alloc (.cells (madeCells #[.slice none 0 0] n) 22) := ⟨_, rfl⟩
  have HB1 : Hid (Below w.heap.size w W1) := Lib.hid (by rw [HE1]; exact below_box2 _ _)
  have HR1 : Hid (PRows W1 w.heap.size n (fun x => prx mm 0 x)) := Lib.hid (by rw [HE1]; exact PRows.start w n)
  have hs1 : w.heap.size < W1.heap.size := by rw [HE1]; simp
  have HEQ1 := Lib.hid HE1
  have HM := Lib.hid hM
  have HR := Lib.hid hr
  obtain ⟨i0, hi0, hz0, hz1, hz2⟩ := info_parts int_info
  have hmk := fun (W : World) => run_make_row' (P := Try.prog) 49 22 (.slice none 0 0) 24 Try.underlying49 slice_info rfl .i64 .i64 n (by omega) (by omega) W
  clear h hr hM HE1
  go_enter Try.func67, Try.ntmps67
  go_wp2
  rw [← HEQ1.out]
  clear hmk
  go_loopw [12] (fun vi wr => ∃ (i : Nat), i ≤ n ∧ vi = .int .i64 i ∧ Hid (PRows wr w.heap.size n (fun x => prx mm i x)) ∧ Hid (Below w.heap.size w wr)) (fun vi _ => n - (intOf vi).toNat)
  case atStart => exact ⟨0, by omega, rfl, HR1, HB1⟩
  case round =>
    obtain ⟨i, hi, rfl, hrow, hb⟩ := hrel
    by_cases hik : i < n
    · obtain ⟨a, rfl, hal, hc0⟩ := HR.out.2 i hik
      obtain ⟨ga, oa, rfl⟩ := HF.out a rfl
      have hgw : ga < w.heap.size := hal
      have HC : Hid (∀ j, j < n → w.cell? ⟨ga, oa + j, none⟩ = some (.int .i64 (mm[j]?.getD 0))) := Lib.hid fun j hj => by
        obtain ⟨a', e', _, hc'⟩ := HR.out.2 j hj
        cases e'
        rw [add_lit] at hc'
        simpa using hc'
      have d0 : wr.cell? ⟨ga, oa + i, none⟩ = some (.int .i64 (mm[i]?.getD 0)) := by rw [hb.out.cell (p := ⟨ga, oa + i, none⟩) hgw]; exact HC.out i hik
      have hmi := HM.out.rng i hik
      obtain ⟨mi, hmie⟩ : ∃ x, mm[i]?.getD 0 = x := ⟨_, rfl⟩
      have HMI := Lib.hid hmie
      rw [hmie] at d0 hmi
      have hik2 : (i : Int) < (n : Int) := by omega
      clear hc0 hal hmie
      go_wp2_with fail
      go_loopw [5, 6] (fun vr vj wr => ∃ (J : Nat) (r : Int), (i + 1 ≤ J ∧ J ≤ n) ∧ (0 ≤ r ∧ r ≤ mi) ∧ vr = .int .i64 r ∧ vj = .int .i64 J ∧ Hid (r = mi - sm mm (i + 1) (J - (i + 1))) ∧ Hid (PRows wr w.heap.size n (fun x => prJ mm i J x)) ∧ Hid (Below w.heap.size w wr)) (fun _ vj _ => n - (intOf vj).toNat)
      case atStart => exact ⟨i + 1, mi, by omega, by omega, rfl, by go_num, Lib.hid (by rw [Nat.sub_self]; simp [sm]), Lib.hid (hrow.out.congr fun x hx => prJ_start _ _ _), hb⟩
      case round =>
        obtain ⟨J, r, hJ, hr, rfl, rfl, hre, hrow2, hb2⟩ := hrel
        by_cases hJk : J < n
        · have hmJ := HM.out.rng J hJk
          have d1 : wr.cell? ⟨ga, oa + J, none⟩ = some (.int .i64 (mm[J]?.getD 0)) := by rw [hb2.out.cell (p := ⟨ga, oa + J, none⟩) hgw]; exact HC.out J hJk
          have HSN : Hid (sm mm (i + 1) (J - i) = mi - r + mm[J]?.getD 0) := Lib.hid (by rw [sm_next hJ.1]; have := hre.out; omega)
          obtain ⟨mJ, hmJe⟩ : ∃ x, mm[J]?.getD 0 = x := ⟨_, rfl⟩
          rw [hmJe] at d1 hmJ HSN
          have hJk2 : (J : Int) < (n : Int) := by omega
          clear hmJe
          by_cases hbr : mJ ≤ r
          · have HPR : Hid (PR mm i J = true) := Lib.hid (pr_true.2 ⟨by omega, by rw [HMI.out, HSN.out]; omega⟩)
            have HRN : Hid (r - mJ = mi - sm mm (i + 1) (J + 1 - (i + 1))) := Lib.hid (by rw [show J + 1 - (i + 1) = J - i by omega, HSN.out]; omega)
            obtain ⟨uf, ls, hs, hpw⟩ := hrow2.out
            have hcell := hpw.row.cell hJk
            have hfz := hpw.row.frozen J
            obtain ⟨N, hN⟩ : ∃ N, (prJ mm i J J).length = N := ⟨_, rfl⟩
            have hN2 : N ≤ 400 := by
              have h5 := prx_len (m := mm) (i + 1) J
              have h6 := prx_len (m := mm) i J
              have h7 : (prJ mm i J J).length ≤ i + 1 := by unfold prJ; split <;> omega
              omega
            obtain ⟨A3, c3, hu⟩ := (hpw.els J hJk).2.2.form hN
            have hown := (hpw.els J hJk).2.2.1
            rw [hu, hN] at hown
            rw [hu] at hcell
            obtain ⟨X, HXe⟩ : ∃ X, X = (prJ mm i J J).map (Value.int .i64) := ⟨_, rfl⟩
            rw [← HXe] at hown
            have HOW : Hid (wr.ownsRow (w.heap.size + 1) 2 1 (.slice A3 N c3) N X) := Lib.hid (own_lessR hown (hpw.els J hJk).1)
            have HPW := Lib.hid hpw
            have HU := Lib.hid hu
            have HXE := Lib.hid HXe
            have HNE := Lib.hid hN
            have hgb := hpw.lt
            have HCL := Lib.hid hcell
            have HFZ : Hid (∀ u, u = w.heap.size → True) := Lib.hid (fun _ _ => trivial)
            clear hpw hown HXe hu hN HFZ
            go_wp2_with (at_builtin; (refine wpList_append_lies _ rfl _ _ 22 rfl (w.heap.size + 1) 2 i0 (.int .i64 0) 1 8 Try.underlying22 hi0 hz0 hz1 hz2 rfl (by decide) (.slice A3 N c3) N X rfl (World.ownsRow.alloc HOW.out _) ⟨wr.heap.size, 0, none⟩ 1 1 [.int .i64 i] rfl rfl (World.news_of_block (cs := #[.int .i64 i]) (t := 2) (fr := (0, 0)) (heap_alloc_new wr _)) (by simp [Value.oneCell']) (by decide) (by simp only [maxLen]; omega) (by omega) (by simp; omega) (wr.heap.size + 1) (by simp) ?_; intro g3 cap3 w3 hown3 hgrow3 hg3 hlt3; have HG3 := Lib.hid (PRw.push HPW.out hJk HU.out HXE.out HNE.out hown3 hgrow3 hg3 hlt3); have hz3 := hgrow3.size; have hne3 : w.heap.size ≠ wr.heap.size := (by omega); have hne4 : (Value.slice A3 N c3).ownBlock ≠ some w.heap.size := (by intro e4; have := World.ownsRow.lt HOW.out w.heap.size e4; omega); have hk3 : w3.heap[w.heap.size]? = wr.heap[w.heap.size]? := (by rw [hgrow3.block w.heap.size (by simp; omega) (fun e5 => hne4 e5.symm), Below.heap_alloc _ _ _ hgb]); have hcell3 := cell_at hk3 HCL.out; have hfz3 : w3.frozen? ⟨w.heap.size, J, none⟩ = false := (by unfold World.frozen? at hfz ⊢; rw [hk3]; exact hfz); have HB3 := Lib.hid (((hb2.out.alloc (Nat.le_of_lt hgb) _).grown hgrow3 (by simp; omega) (fun kk hkk => by have := (World.ownsRow.lt HOW.out kk hkk).1; omega)).setCell (p := ⟨w.heap.size, J, none⟩) (Nat.le_refl _) (.slice (some ⟨g3, 0, none⟩) (N + 1) cap3)); clear hown3 hgrow3 hg3 hlt3 hk3 hne4 hne3))
            go_roundw
            case rel => exact ⟨J + 1, r - mJ, by omega, by omega, rfl, by go_num, HRN, Lib.hid (HG3.out.congr fun x hx => prJ_hit HPR.out), HB3⟩
            case measure => simp [intOf]; omega
          · have HRX : Hid (PRows wr w.heap.size n (fun x => prx mm (i + 1) x)) := Lib.hid (hrow2.out.congr fun x hx => prJ_over HM.out (by omega) hx (by rw [HMI.out, HSN.out]; omega))
            have hbr2 : decide (mJ ≤ r) = false := by simpa using hbr
            go_wp2_with fail
            go_roundw
            case rel => exact ⟨i + 1, by omega, by go_num, HRX, hb2⟩
            case measure => simp [intOf]; omega
        · obtain rfl : J = n := by omega
          have HRX : Hid (PRows wr w.heap.size J (fun x => prx mm (i + 1) x)) := Lib.hid (hrow2.out.congr fun x hx => prJ_end hx)
          have hJJ : decide ((J : Int) < (J : Int)) = false := by simp
          go_wp2_with fail
          go_roundw
          case rel => exact ⟨i + 1, by omega, by go_num, HRX, hb2⟩
          case measure => simp [intOf]; omega
    · obtain rfl : i = n := by omega
      have HOQ : Hid (OwnQ wr w.heap.size wr.heap.size (.slice (some ⟨w.heap.size, 0, none⟩) i i) (prQ mm i)) := Lib.hid (hrow.out.ownQ (prQ_len _ _) (fun j hj => (prQ_at hj).symm) (Nat.le_refl _) (by omega))
      go_wp2
      go_ret
      exact ⟨_, _, rfl, HOQ.out, hb.out⟩

theorem sat_any (A : Option Addr) (N c : Nat) (b : Bool) (w : World) (h : ((N : Int) == 2) = b) :
    Calls Try.prog 121 #[.slice A N c] w fun e w' => e = .returned (.bool b) ∧ w = w' := by
  subst h
  go_enter Try.func121, Try.ntmps121
  go_wp2
  go_ret
  exact ⟨rfl, rfl⟩

/-- Where the rows of a list of lists of near points lie. -/
theorem near_cells {w : World} {B k j : Nat} {v : Value} {mm : List Int} (h : ReadQ w B v (prQ mm k)) (hM : MQ mm k) (hj : j + 1 < k) : ∃ g o gi oi c ci, v = .slice (some ⟨g, o, none⟩) k c ∧ g < B ∧ gi < B ∧
    w.cell? ⟨g, o + (j + 1), none⟩ = some (.slice (some ⟨gi, oi, none⟩) (if cdI mm k (j + 1) = 0 then 1 else 2) ci) ∧ w.cell? ⟨gi, oi, none⟩ = some (.int .i64 (if cdI mm k (j + 1) = 0 then (j : Int) else ((j : Int) + 1) - cdI mm k (j + 1))) ∧
    (cdI mm k (j + 1) ≠ 0 → w.cell? ⟨gi, oi + 1, none⟩ = some (.int .i64 (j : Int))) := by
  obtain ⟨A, c, rfl, hrow, _, _, hA, _⟩ := h
  rw [prQ_len]
  obtain ⟨a, u, e1, hab, hcell, hri⟩ := hrow (j + 1) (by rw [prQ_len]; exact hj)
  obtain ⟨g, o, rfl⟩ := hA a e1
  rw [prQ_at hj] at hri
  obtain ⟨hn, hcd⟩ := prx_near hM hj
  rw [hn] at hri
  obtain ⟨Ai, ci, rfl, hrd, _, _, hAi, _⟩ := hri
  have hln : (nearL (cdI mm k (j + 1)) (j + 1)).length = if cdI mm k (j + 1) = 0 then 1 else 2 := by
    unfold nearL; rw [if_neg (by omega)]; split <;> rfl
  rw [hln] at hrd hcell
  obtain ⟨ai, e2, hab2, hc0⟩ := hrd.2 0 (by split <;> omega)
  obtain ⟨gi, oi, rfl⟩ := hAi ai e2
  subst e1; subst e2
  rw [add_lit] at hcell hc0
  refine ⟨g, o, gi, oi, c, ci, rfl, hab, hab2, hcell, ?_, fun hne => ?_⟩
  · rw [Nat.add_zero] at hc0
    rw [hc0]
    unfold nearL
    rw [if_neg (by omega)]
    split
    · simp
    · simp
  · obtain ⟨ai', e3, _, hc1⟩ := hrd.2 1 (by rw [if_neg hne]; omega)
    cases e3
    rw [add_lit] at hc1
    rw [hc1]
    unfold nearL
    rw [if_neg (by omega), if_neg hne]
    simp

set_option maxRecDepth 100000 in
set_option maxHeartbeats 2000000 in
theorem codeAt_any (v : Value) (mm : List Int) (k : Nat) (w : World) (h : ReadQ w w.heap.size v (prQ mm k)) (hM : MQ mm k) (hk1 : 1 ≤ k) (hk : k ≤ 400) :
    Calls Try.prog 66 #[v] w fun e w' => ∃ A c, e = .returned (.slice A (k - 1) c) ∧ OwnI w' w.heap.size w'.heap.size (.slice A (k - 1) c) (cdL mm k) ∧ Below w.heap.size w w' := by
  have HN := Lib.hid (fun j (hj : j + 1 < k) => near_cells h hM hj)
  have HM := Lib.hid hM
  obtain ⟨A, c, rfl, _⟩ := h
  rw [prQ_len] at HN ⊢
  have hmk := fun (W : World) => run_make_row' (P := Try.prog) 22 2 (.int .i64 0) 8 Try.underlying22 int_info rfl .i64 .i64 (k - 1) (by omega) (by omega) W
  have hmi : (((k - 1 : Nat) : Int)) = (k : Int) - 1 := by omega
  rw [hmi] at hmk
  have p1 : IntKind.i64.wrap ((k : Int) - 1) = (k : Int) - 1 := IntWalk.i64_in _ (by omega)
  obtain ⟨W1, HE1⟩ : ∃ W, W = w.alloc (.cells (madeCells #[.int .i64 0] (k - 1)) 2) := ⟨_, rfl⟩
  have HB1 : Hid (Below w.heap.size w W1) := Lib.hid (by rw [HE1]; exact below_box2 _ _)
  have HR1 : Hid (W1.rowIs w.heap.size 2 (k - 1) (fun x => .int .i64 (if x < 0 then cdI mm k (x + 1) else 0))) := Lib.hid (by rw [HE1]; exact (World.rowIs_made _ _ _ _).congr fun x hx => by simp)
  have HEQ1 := Lib.hid HE1
  clear hM HE1 hmi
  go_enter Try.func66, Try.ntmps66
  go_wp2
  rw [← HEQ1.out]
  clear hmk
  go_loopw [12] (fun vi wr => ∃ (i : Nat), i ≤ k - 1 ∧ vi = .int .i64 i ∧ Hid (wr.rowIs w.heap.size 2 (k - 1) (fun x => .int .i64 (if x < i then cdI mm k (x + 1) else 0))) ∧ Hid (Below w.heap.size w wr)) (fun vi _ => k - (intOf vi).toNat)
  case atStart => exact ⟨0, by omega, rfl, HR1, HB1⟩
  case round =>
    obtain ⟨i, hi, rfl, hrow, hb⟩ := hrel
    by_cases hik : i < k - 1
    · obtain ⟨g, o, gi, oi, c0, ci, e1, hg, hgi, hcell, hc0, _⟩ := HN.out i (by omega)
      simp only [Value.slice.injEq] at e1
      obtain ⟨rfl, _, rfl⟩ := e1
      have d1 : wr.cell? ⟨g, o + (i + 1), none⟩ = _ := (hb.out.cell (p := ⟨g, o + (i + 1), none⟩) hg).trans hcell
      have d2 : wr.cell? ⟨gi, oi, none⟩ = _ := (hb.out.cell (p := ⟨gi, oi, none⟩) hgi).trans hc0
      have hik2 : (i : Int) < ((k - 1 : Nat) : Int) := by omega
      have hik3 : (i : Int) + 1 < (k : Int) := by omega
      have hcd := (prx_near HM.out (j := i + 1) (by omega)).2
      have p2 : IntKind.i64.wrap ((i : Int) + 1) = (i : Int) + 1 := IntWalk.i64_in _ (by omega)
      have p3 : ((i : Int) + 1).toNat = i + 1 := by omega
      obtain ⟨c1, hc1⟩ : ∃ x, cdI mm k (i + 1) = x := ⟨_, rfl⟩
      have HCD := Lib.hid hc1
      rw [hc1] at d1 d2 hcd
      clear hcell hc0 hc1
      by_cases h0 : c1 = 0
      · subst h0
        rw [if_pos rfl] at d1 d2
        have HRN : Hid (wr.rowIs w.heap.size 2 (k - 1) (fun x => .int .i64 (if x < i + 1 then cdI mm k (x + 1) else 0))) := Lib.hid (hrow.out.congr fun x hx => by
          by_cases e : x = i
          · subst e; rw [if_neg (Nat.lt_irrefl _), if_pos (by omega), HCD.out]
          · by_cases e2 : x < i
            · rw [if_pos e2, if_pos (by omega)]
            · rw [if_neg e2, if_neg (by omega)])
        go_wp2_with (go_at_call 121; refine (sat_any _ 1 _ false _ rfl).mono ?_; rintro e w' ⟨rfl, rfl⟩)
        go_roundw
        case rel => exact ⟨i + 1, by omega, by go_num, HRN, hb⟩
        case measure => simp [intOf]; omega
      · rw [if_neg h0] at d1 d2
        have hc2 : 2 ≤ c1 ∧ c1 ≤ (i : Int) + 1 := by omega
        have hdst := hrow.out.cell hik
        have hfz := hrow.out.frozen i
        have p4 : IntKind.i64.wrap ((i : Int) + 1 - ((i : Int) + 1 - c1)) = c1 := by rw [IntWalk.i64_in _ (by omega)]; omega
        have HRN : Hid ((wr.setCell ⟨w.heap.size, i, none⟩ (.int .i64 c1)).rowIs w.heap.size 2 (k - 1) (fun x => .int .i64 (if x < i + 1 then cdI mm k (x + 1) else 0))) := Lib.hid ((hrow.out.set i _).congr fun x hx => by
          by_cases e : x = i
          · subst e; rw [if_pos rfl, if_pos (by omega), HCD.out]
          · rw [if_neg e]
            by_cases e2 : x < i
            · rw [if_pos e2, if_pos (by omega)]
            · rw [if_neg e2, if_neg (by omega)])
        have HBN : Hid (Below w.heap.size w (wr.setCell ⟨w.heap.size, i, none⟩ (.int .i64 c1))) := Lib.hid (hb.out.setCell (p := ⟨w.heap.size, i, none⟩) (Nat.le_refl _) _)
        clear hcd
        go_wp2_with (go_at_call 121; refine (sat_any _ 2 _ true _ rfl).mono ?_; rintro e w' ⟨rfl, rfl⟩)
        go_roundw
        case rel => exact ⟨i + 1, by omega, by go_num, HRN, HBN⟩
        case measure => simp [intOf]; omega
    · obtain rfl : i = k - 1 := by omega
      have HOW : Hid (OwnI wr w.heap.size wr.heap.size (.slice (some ⟨w.heap.size, 0, none⟩) (k - 1) (k - 1)) (cdL mm k)) := Lib.hid (own_of_row (F := fun x => if x < k - 1 then cdI mm k (x + 1) else 0) hrow.out (cdL_len _ _) (fun x hx => by rw [List.getD, cdL_at hx]; exact if_pos hx) (Nat.le_refl _) (by omega))
      go_wp2
      go_ret
      exact ⟨_, _, rfl, HOW.out, hb.out⟩
end Go.Proofs.Ytohbgfmjnanlkaa
