/- Paths of points: contracts. Conditions: stated at each theorem. -/
import Derived.Test.YtjobfjgphcaoeaaUn1
import Derived.RegionTactic
import Derived.BigRegion
namespace Go.Proofs.Ytjobfjgphcaoeaa
open Go.ChangeShapes Go.WideShapes Go.ChangeAt Go.RowKit Go.Deep
set_option linter.unusedVariables false
set_option linter.unusedSimpArgs false

/-- p with its first i numbers and its last i exchanged. -/
def revAt (p : List Int) (i : Nat) : List Int := (List.range p.length).map fun x => if x < i ∨ p.length - 1 - i < x then p.getD (p.length - 1 - x) 0 else p.getD x 0
theorem revAt_len (p : List Int) (i : Nat) : (revAt p i).length = p.length := by simp [revAt]
theorem revAt_zero (p : List Int) : revAt p 0 = p := by
  apply List.ext_getElem
  · simp [revAt]
  · intro i h1 h2
    simp only [revAt, List.getElem_map, List.getElem_range]
    rw [if_neg (by omega)]; simp [List.getD, h2]
theorem revAt_end (p : List Int) {i : Nat} (h : p.length ≤ 2 * i + 1) (h2 : 2 * i ≤ p.length) : revAt p i = p.reverse := by
  apply List.ext_getElem
  · simp [revAt]
  · intro x h1 h3
    simp only [revAt, List.getElem_map, List.getElem_range, List.getElem_reverse]
    have hx : x < p.length := by simpa using h3
    split
    · simp [List.getD, show p.length - 1 - x < p.length by omega]
    · have e : p.length - 1 - x = x := by omega
      simp only [e]; simp [List.getD, hx]
theorem revAt_at (p : List Int) {i x : Nat} (h : i ≤ x) (h2 : x ≤ p.length - 1 - i) (h3 : x < p.length) : (revAt p i)[x]? = some (p.getD x 0) := by
  simp only [revAt, List.getElem?_map, List.getElem?_range h3, Option.map_some]
  rw [if_neg (by omega)]
theorem revAt_set (p : List Int) {i : Nat} (h : i < p.length - 1 - i) : revAt p (i + 1) = ((revAt p i).set i (p.getD (p.length - 1 - i) 0)).set (p.length - 1 - i) (p.getD i 0) := by
  apply List.ext_getElem
  · simp [revAt]
  · intro x h1 h2
    have hx : x < p.length := by simpa [revAt] using h1
    simp only [revAt, List.getElem_map, List.getElem_range, List.getElem_set]
    by_cases e1 : p.length - 1 - i = x
    · rw [if_pos e1, if_pos (by omega)]
      congr 1; omega
    · rw [if_neg e1]
      by_cases e2 : i = x
      · subst e2; rw [if_pos rfl, if_pos (by omega)]
      · rw [if_neg e2]
        by_cases e3 : x < i ∨ p.length - 1 - i < x
        · rw [if_pos e3, if_pos (by omega)]
        · rw [if_neg e3, if_neg (by omega)]

theorem Only.drew {lo hi : Nat} {a w : World} (h : Only lo hi a w) : Only lo hi a w.drew := ⟨h.os, h.tape, h.output, h.size, h.block⟩
set_option maxRecDepth 100000 in
theorem reverse_any (A : Option Addr) (n c : Nat) (p : List Int) (w : World) (lo hi : Nat) (h : OwnI w lo hi (.slice A n c) p) (hl : p.length = n) (hn : n ≤ 1099511627776) :
    Calls Try.prog 100 #[.slice A n c] w fun e w' => e = .returned (.tuple #[]) ∧ OwnI w' lo hi (.slice A n c) p.reverse ∧ Only lo hi w w' := by
  have HO := Lib.hid h
  have HL := Lib.hid hl
  clear h hl
  go_enter Try.func100, Try.ntmps100
  go_wp2
  go_loopw [2, 3] (fun vi vj wr => ∃ (i : Nat) (y : Int), 2 * i ≤ n ∧ vi = .int .i64 i ∧ vj = .int .i64 y ∧ Hid (y = (n : Int) - 1 - i) ∧ (-1 ≤ y ∧ y ≤ n) ∧ Hid (OwnI wr lo hi (.slice A n c) (revAt p i)) ∧ Hid (Only lo hi w wr)) (fun _ vj _ => (intOf vj + 1).toNat)
  case atStart => exact ⟨0, (n : Int) - 1, by omega, rfl, rfl, Lib.hid (by omega), by omega, Lib.hid (by rw [revAt_zero]; exact HO.out), Lib.hid (Only.refl _ _ _)⟩
  case round =>
    obtain ⟨i, y, hi2, rfl, rfl, hy, hyb, ho, hb⟩ := hrel
    by_cases hlt : (i : Int) < y
    · obtain ⟨j, rfl⟩ : ∃ j : Nat, y = (j : Int) := ⟨y.toNat, by omega⟩
      have hj : j = n - 1 - i := by have := hy.out; omega
      have HJ := Lib.hid hj
      have hij : i < j := by omega
      have hjn : j < n := by have := HJ.out; omega
      have HRL : Hid ((revAt p i).length = n) := Lib.hid (by rw [revAt_len, HL.out])
      obtain ⟨g, rfl, hg1, hg2, hci, hfi⟩ := own_cell (j := i) ho.out HRL.out (by omega) (revAt_at p (Nat.le_refl _) (by rw [HL.out]; omega) (by rw [HL.out]; omega))
      obtain ⟨g', e, _, _, hcj, hfj⟩ := own_cell (j := j) ho.out HRL.out (by omega) (revAt_at p (by omega) (by rw [HL.out]; omega) (by rw [HL.out]; omega))
      simp only [Option.some.injEq, Addr.mk.injEq, and_true] at e
      subst e
      have HS : Hid (revAt p (i + 1) = ((revAt p i).set i (p[j]?.getD 0)).set j (p[i]?.getD 0)) := Lib.hid (by rw [revAt_set p (by rw [HL.out]; omega), HL.out, ← hj, getD_opt, getD_opt])
      rw [getD_opt] at hci hcj
      clear hj
      go_wp2
      go_region
      all_goals
        go_wp2
        go_roundw
        case rel => exact ⟨i + 1, (j : Int) - 1, by have := hy.out; omega, by go_num, rfl, Lib.hid (by have := hy.out; omega), by omega, Lib.hid (by rw [HS.out]; exact own_store (own_store ho.out HRL.out _) (by rw [List.length_set]; exact HRL.out) _), Lib.hid (((hb.out.setCell (p := ⟨g, i, none⟩) hg1 hg2 _).setCell (p := ⟨g, j, none⟩) hg1 hg2 _).drew)⟩
        case measure => simp [intOf] <;> omega
    · have HE : Hid (revAt p i = p.reverse) := Lib.hid (revAt_end p (by have := hy.out; rw [HL.out]; omega) (by rw [HL.out]; omega))
      go_wp2
      go_end0
      exact ⟨rfl, HE.out ▸ ho.out, hb.out⟩

/-- The points from j up to the root. -/
def upL (P : List Int) : Nat → Nat → List Int
  | 0, _ => []
  | f + 1, j => (j : Int) :: (if j = 0 then [] else upL P f (P[j]?.getD 0).toNat)
theorem upL_len (P : List Int) : ∀ f j, (upL P f j).length ≤ f
  | 0, _ => Nat.le_refl _
  | f + 1, j => by
    show (_ :: _).length ≤ f + 1
    have := upL_len P f (P[j]?.getD 0).toNat
    rw [List.length_cons]; split <;> simp <;> omega
theorem upL_zero (P : List Int) (f : Nat) : upL P (f + 1) 0 = [0] := rfl
theorem upL_par {P : List Int} {f j p : Nat} (hj : 0 < j) (hp : P[j]?.getD 0 = (p : Int)) : upL P (f + 1) j = (j : Int) :: upL P f p := by
  show _ :: _ = _
  rw [if_neg (by omega), hp, Int.toNat_natCast]
def pathL (P : List Int) (i : Nat) : List Int := (upL P (i + 1) i).reverse
theorem pathL_len (P : List Int) (i : Nat) : (pathL P i).length ≤ i + 1 := by unfold pathL; rw [List.length_reverse]; exact upL_len _ _ _
def phA (P S W : List Int) (i : Int) : List Int := if scC P S W i = 0 then pathL P i.toNat else []
theorem ph_no {P S W : List Int} {i : Int} {C : Int} (h : scC P S W i = C) (hC : C ≠ 0) : phA P S W i = [] := by subst h; exact if_neg hC
theorem ph_yes {P S W : List Int} {n i : Nat} (h : ClOK P S W n) (hi : i < n) : scC P S W (i : Int) = 0 ∧ phA P S W (i : Int) = pathL P i := by
  have h0 := (sc_yes h hi).1
  exact ⟨h0, by unfold phA; rw [if_pos h0, Int.toNat_natCast]⟩
theorem ph_len (P S W : List Int) (i : Int) : (phA P S W i).length ≤ 24 := by
  unfold phA
  split
  · next h =>
    have hb : clB P S W = true := by
      cases hb : clB P S W with
      | true => rfl
      | false => simp [scC, hb] at h
    obtain ⟨n, hC⟩ := clB_true hb
    have hn := hC.hi
    have hp := hC.p
    have h2 : 0 ≤ i ∧ i < (P.length : Int) := by
      unfold scC at h
      rw [if_pos hb] at h
      by_cases h3 : 0 ≤ i ∧ i < (P.length : Int)
      · exact h3
      · rw [if_neg h3] at h; cases h
    have := pathL_len P i.toNat
    omega
  · simp
theorem sc_bad {P S W : List Int} {n : Nat} {i : Int} (h : ClOK P S W n) (hi : ¬ (0 ≤ i ∧ i < (n : Int))) : scC P S W i = 2 := by
  unfold scC; rw [if_pos h.b, if_neg (by rw [h.p]; exact hi)]

set_option maxRecDepth 100000 in
set_option maxHeartbeats 4000000 in
theorem implPathOf_any (a b c : Value) (P S W : List Int) (i : Int) (w : World) (h : ReadC w w.heap.size a b c P S W) (hP : P.length ≤ 1048576) (hS : S.length ≤ 1048576) (hW : W.length ≤ 1048576) (hwp : ∀ z ∈ P, (Lit.int .i64 z).wf = true) (hws : ∀ z ∈ S, (Lit.int .i64 z).wf = true) (hww : ∀ z ∈ W, (Lit.int .i64 z).wf = true) (hwi : (Lit.int .i64 i).wf = true) :
    Calls Try.prog 53 #[.agg #[a, b, c], .int .i64 i] w (AnsIC w (phA P S W i) (scC P S W i)) := by
  obtain ⟨W0, HE⟩ : ∃ V, V = w.alloc (.cells #[a, b, c] 28) := ⟨_, rfl⟩
  have hb0 : Below w.heap.size w W0 := by rw [HE]; exact below_box2 _ _
  have hx : CBox W0 w.heap.size a b c := by rw [HE]; exact CBox.new _ _ _ _ _
  have HR := Lib.hid ((h.below hb0).more hb0.size)
  have HB := Lib.hid hb0
  have HEQ := Lib.hid HE
  have HX := Lib.hid hx
  have x0 := hx.c0; have x1 := hx.c1; have x2 := hx.c2; have hxl := hx.lt
  clear h hb0 hx HE hwp hws hww
  rcases bool_fs (clB P S W) with hp | hp
  · have HK := Lib.hid (show scC P S W i = 1 by simp [scC, hp]); have HA := Lib.hid (ph_no (P := P) (S := S) (W := W) (i := i) HK.out (by decide))
    have HP := Lib.hid hp
    clear hp
    go_enter Try.func53, Try.ntmps53
    go_wp2_with fail
    rw [← HEQ.out]
    refine (linked_if a b c P S W W0 HR.out hP hS hW false HP.out).mono ?_
    rintro e w1 ⟨g, A, na, ca, D, nd, cd, rfl, hb1, _⟩
    have HB1 := Lib.hid ((HB.out.trans (hb1.mono HB.out.size)).alloc (by have := HB.out.size; have := hb1.size; omega) (.cells #[.slice A na ca, .slice D nd cd] 67))
    clear hb1
    go_wp2_with fail
    go_ret2
    exact AnsIC.empty HA.out.symm HK.out.symm HB1.out
  · obtain ⟨n, hC⟩ := clB_true hp
    have hpn := hC.p
    have hn1 := hC.lo
    have hn := hC.hi
    have HC := Lib.hid hC
    have HP := Lib.hid hp
    clear hp hC
    go_enter Try.func53, Try.ntmps53
    go_wp2_with fail
    rw [← HEQ.out]
    refine (linked_if a b c P S W W0 HR.out hP hS hW true HP.out).mono ?_
    rintro e w1 ⟨g, A, na, ca, D, nd, cd, rfl, hb1, hyes⟩
    obtain ⟨e1, rfl, hg0, hg1, hpt⟩ := hyes rfl
    rw [hpn] at e1 hpt
    simp only [Value.slice.injEq] at e1
    obtain ⟨rfl, e1b, e1c⟩ := e1
    replace e1b := e1b.symm
    replace e1c := e1c.symm
    subst e1b
    subst e1c
    have hB1 := HB.out.trans (hb1.mono HB.out.size)
    have hR1 := (HR.out.below hb1).more hb1.size
    have hX1 := HX.out.below hb1
    obtain ⟨W1, HE1⟩ : ∃ V, V = w1.alloc (.cells #[.slice (some ⟨g, 0, none⟩) n n, .slice D nd cd] 67) := ⟨_, rfl⟩
    have hb2 : Below w1.heap.size w1 W1 := by rw [HE1]; exact below_box2 _ _
    have z0 : W1.cell? ⟨w1.heap.size, 0, none⟩ = some (.slice (some ⟨g, 0, none⟩) n n) := by rw [HE1]; go_simp
    have z1 : W1.cell? ⟨w1.heap.size, 1, none⟩ = some (.slice D nd cd) := by rw [HE1]; go_simp
    have hzl : w1.heap.size < W1.heap.size := by rw [HE1]; simp
    have HB1 := Lib.hid (hB1.trans (hb2.mono hB1.size))
    have HR1 := Lib.hid ((hR1.below hb2).more hb2.size)
    have HPT : Hid (PtsAt W1 g n n P S) := Lib.hid (rowIs_below hpt hg1 hb2)
    have hX2 := hX1.below hb2
    have y0 := hX2.c0; have y1 := hX2.c1; have y2 := hX2.c2; have hyl := hX2.lt
    have HX1 := Lib.hid hX2
    have HEQ1 := Lib.hid HE1
    have hgl : g < W1.heap.size := by omega
    have q0 := hX1.c0; have q1 := hX1.c1; have q2 := hX1.c2; have ql := hX1.lt
    clear hb1 hb2 hX1 hX2 hB1 hR1 hpt hyes HE1 hg1
    go_wp2_with fail
    rw [← HEQ1.out]
    clear q0 q1 q2 ql x0 x1 x2
    have HCM := Lib.hid (HPT.out.cells (Nat.le_refl n) hgl)
    by_cases hi : 0 ≤ i ∧ i < (n : Int)
    · obtain ⟨i, rfl⟩ : ∃ j : Nat, i = (j : Int) := ⟨i.toNat, by omega⟩
      have hin : i < n := by omega
      have HK := Lib.hid (ph_yes HC.out hin).1
      have HA := Lib.hid (ph_yes HC.out hin).2
      obtain ⟨i0, hi0, hy0, hy1, hy2⟩ := info_parts int_info
      obtain ⟨B0, hB0⟩ : ∃ B, B = W1.heap.size := ⟨_, rfl⟩
      have hbs1 : w.heap.size ≤ B0 := by rw [hB0]; exact HB1.out.size
      have HOW0 : Hid (OwnI W1 B0 W1.heap.size (.slice none 0 0) []) := Lib.hid (OwnI.nil _ _)
      have HBB0 : Hid (Below B0 W1 W1) := Lib.hid (Below.refl _ _)
      have HB0E := Lib.hid hB0
      obtain ⟨full, hfull⟩ : ∃ F, upL P (i + 1) i = F := ⟨_, rfl⟩
      have hfl : full.length ≤ 24 := by have := upL_len P (i + 1) i; rw [hfull] at this; omega
      have HPF : Hid (pathL P i = full.reverse) := Lib.hid (by unfold pathL; rw [hfull])
      have HST : Hid ([] ++ upL P (i + 1) i = full) := Lib.hid (by rw [hfull]; rfl)
      clear hB0 hi hfull
      go_wp2_with fail
      refine (hasC_any (some ⟨g, 0, none⟩) n n (i : Int) W1 (by omega) true (by simp; omega)).mono ?_
      rintro e w' ⟨rfl, rfl⟩
      have hin2 : (i : Int) < (n : Int) := by omega
      go_wp2_with fail
      go_loopw [8, 9] (fun vo vp wr => ∃ (done : List Int) (N : Nat) (A : Option Addr) (c' : Nat), done.length = N ∧ vo = .slice A N c' ∧ ((∃ j f : Nat, vp = .pointer (some ⟨g, j * 3, none⟩) ∧ j < n ∧ j < f ∧ Hid (done ++ upL P f j = full)) ∨ (vp = .pointer none ∧ Hid (done = full))) ∧ Hid (OwnI wr B0 wr.heap.size (.slice A N c') done) ∧ Hid (Below B0 W1 wr)) (fun _ vp _ => match vp with | .pointer (some a) => a.off + 1 | _ => 0)
      case atStart => exact ⟨[], 0, none, 0, rfl, rfl, .inl ⟨i, i + 1, rfl, hin, by omega, HST⟩, HOW0, HBB0⟩
      case round =>
        obtain ⟨done, N, A, c', hN, rfl, hrest, how, hb⟩ := hrel
        have hCW := HCM.out.below (hb.out.mono (by rw [HB0E.out]; exact Nat.le_refl _))
        rcases hrest with ⟨j, f, rfl, hjn, hjf, hfu⟩ | ⟨rfl, hfu⟩
        · have d0 := hCW.num j hjn
          have d1 := hCW.par j hjn
          obtain ⟨f, rfl⟩ : ∃ f', f = f' + 1 := ⟨f - 1, by omega⟩
          obtain ⟨X, HXe⟩ : ∃ X, X = done.map (Value.int .i64) := ⟨_, rfl⟩
          have hNl : N + 1 ≤ 24 := by
            have h9 := congrArg List.length hfu.out
            rw [List.length_append, hN] at h9
            have : 1 ≤ (upL P (f + 1) j).length := by show 1 ≤ (_ :: _).length; simp
            omega
          have hown := how.out.1
          rw [hN, ← HXe] at hown
          have HOW : Hid (Own wr B0 (.slice A N c') N X) := Lib.hid hown
          have HXE := Lib.hid HXe
          have HNE := Lib.hid hN
          have hbw := hb.out.size
          have hB0w : B0 ≤ wr.heap.size := by rw [HB0E.out]; exact hbw
          have hgw : g < wr.heap.size := by omega
          clear hown HXe hN hCW
          by_cases hj0 : j = 0
          · have HP0 := (nr_zero HC.out.ok (show 0 < n by omega)).2.1
            have hpz : P[j]?.getD 0 = -1 := by rw [hj0]; exact HP0
            rw [hpz, ptA_none] at d1
            have HFN : Hid (done ++ [(j : Int)] = full) := Lib.hid (by have h9 := hfu.out; rw [hj0] at h9 ⊢; exact h9)
            have HPX := Lib.hid hpz
            clear hj0 HP0 hpz
            go_wp2_with (at_builtin; (refine wpList_append_own _ rfl _ _ 22 rfl (B0) 2 i0 (.int .i64 0) 1 8 Try.underlying22 hi0 hy0 hy1 hy2 rfl (by decide) _ N X rfl (World.ownsRow.alloc HOW.out _) ⟨wr.heap.size, 0, none⟩ 1 1 [.int .i64 (j)] rfl rfl (World.news_of_block (cs := #[.int .i64 (j)]) (t := 2) (fr := (0, 0)) (heap_alloc_new wr _)) (by simp [Value.oneCell']) (by simp only [maxLen]; omega) (by omega) (by simp <;> omega) ?_; intro v1 w4 hown1 hgrow _; obtain ⟨A4, c4, rfl⟩ := own_form hown1; have HO4 := Lib.hid hown1; have HB4 := Lib.hid ((hb.out.alloc hB0w _).grown hgrow (by simp <;> omega) (fun kk hkk => (World.ownsRow.lt HOW.out kk hkk).1)); clear hown1 hgrow; have l4 : g < w4.heap.size := Nat.lt_of_lt_of_le hgl (by have := HB4.out.size; exact this); have e4 := (HCM.out.below (HB4.out.mono (by rw [HB0E.out]; exact Nat.le_refl _))).par j hjn; rw [HPX.out, ptA_none] at e4))
            go_roundw
            case rel => exact ⟨done ++ [(j : Int)], N + 1, A4, c4, by rw [List.length_append, HNE.out]; rfl, rfl, .inr ⟨rfl, HFN⟩, Lib.hid (OwnI.mk' (n := N + 1) (by rw [List.map_append, ← HXE.out]; exact HO4.out)), HB4⟩
            case measure => simp
          · obtain ⟨p, hp, hpj, _⟩ := nr_lt HC.out.ok j hjn (by omega)
            have HPX := Lib.hid hp
            rw [hp, ptA_nat] at d1
            have HFN : Hid ((done ++ [(j : Int)]) ++ upL P f p = full) := Lib.hid (by
              have h9 := hfu.out
              rw [upL_par (by omega) hp] at h9
              rw [List.append_assoc]; exact h9)
            clear hp hj0
            go_wp2_with (at_builtin; (refine wpList_append_own _ rfl _ _ 22 rfl (B0) 2 i0 (.int .i64 0) 1 8 Try.underlying22 hi0 hy0 hy1 hy2 rfl (by decide) _ N X rfl (World.ownsRow.alloc HOW.out _) ⟨wr.heap.size, 0, none⟩ 1 1 [.int .i64 (j)] rfl rfl (World.news_of_block (cs := #[.int .i64 (j)]) (t := 2) (fr := (0, 0)) (heap_alloc_new wr _)) (by simp [Value.oneCell']) (by simp only [maxLen]; omega) (by omega) (by simp <;> omega) ?_; intro v1 w4 hown1 hgrow _; obtain ⟨A4, c4, rfl⟩ := own_form hown1; have HO4 := Lib.hid hown1; have HB4 := Lib.hid ((hb.out.alloc hB0w _).grown hgrow (by simp <;> omega) (fun kk hkk => (World.ownsRow.lt HOW.out kk hkk).1)); clear hown1 hgrow; have l4 : g < w4.heap.size := Nat.lt_of_lt_of_le hgl (by have := HB4.out.size; exact this); have e4 := (HCM.out.below (HB4.out.mono (by rw [HB0E.out]; exact Nat.le_refl _))).par j hjn; rw [HPX.out, ptA_nat] at e4))
            go_roundw
            case rel => exact ⟨done ++ [(j : Int)], N + 1, A4, c4, by rw [List.length_append, HNE.out]; rfl, rfl, .inl ⟨p, f, rfl, by omega, by omega, HFN⟩, Lib.hid (OwnI.mk' (n := N + 1) (by rw [List.map_append, ← HXE.out]; exact HO4.out)), HB4⟩
            case measure => simp; omega
        · have HNE := Lib.hid hN
          have hN24 : N ≤ 24 := by rw [← hN, hfu.out]; exact hfl
          go_wp2_with fail
          refine (reverse_any A N c' done wr B0 wr.heap.size how.out hN (by omega)).mono ?_
          rintro e w3 ⟨rfl, ho3, hb3⟩
          have HO3 := Lib.hid ho3
          have HB3 : Hid (Below B0 W1 w3) := Lib.hid (hb.out.trans (Only.below hb3 (Nat.le_refl _) (by have := hb.out.size; rw [HB0E.out]; exact this)))
          have HS3 : Hid (wr.heap.size ≤ w3.heap.size) := Lib.hid hb3.size
          clear ho3 hb3
          go_wp2_with fail
          go_ret2
          exact AnsIC.mk' (by rw [HA.out, HPF.out, ← hfu.out]) HK.out.symm (own_less (HO3.out.raise HS3.out (Nat.le_refl _)) hbs1) (HB1.out.trans (HB3.out.mono hbs1))
    · have HK := Lib.hid (sc_bad HC.out hi)
      have HA := Lib.hid (ph_no HK.out (by decide))
      have hii : (decide (0 ≤ i) && decide (i < (n : Int))) = false := by simp; omega
      clear hi
      go_wp2_with fail
      refine (hasC_any (some ⟨g, 0, none⟩) n n i W1 (by omega) false hii).mono ?_
      rintro e w' ⟨rfl, rfl⟩
      go_wp2_with fail
      go_ret2
      exact AnsIC.empty HA.out.symm HK.out.symm HB1.out
set_option maxRecDepth 100000 in
set_option maxHeartbeats 4000000 in
theorem l08Path_any (a b c : Value) (P S U : List Int) (n i : Nat) (w : World) (h : ReadC w w.heap.size a b c P S U) (hC : ClP P S n) (hin : i < n) :
    Calls Try.prog 99 #[.agg #[a, b, c], .int .i64 i] w (LAns w (pathL P i)) := by
  have hn := hC.hi
  have HC := Lib.hid hC
  obtain ⟨h0, h1, h2⟩ := h
  obtain ⟨A0, c0, rfl, _, _, hc0, _, hm0⟩ := id h0
  rw [hC.p] at h0 hc0 ⊢
  obtain ⟨g0, o0, rfl, H0, hg0⟩ := cells_ofC h0 hC.p hC.lo
  have HX : Hid (CBox (w.alloc (.cells #[.slice (some ⟨g0, o0, none⟩) n c0, b, c] 28)) w.heap.size (.slice (some ⟨g0, o0, none⟩) n c0) b c) := Lib.hid (CBox.new _ _ _ _ _)
  have HB0 : Hid (Below w.heap.size w (w.alloc (.cells #[.slice (some ⟨g0, o0, none⟩) n c0, b, c] 28))) := Lib.hid (below_box2 _ _)
  have HZ0 : Hid ((w.alloc (.cells #[.slice (some ⟨g0, o0, none⟩) n c0, b, c] 28)).heap.size = w.heap.size + 1) := Lib.hid (by simp)
  obtain ⟨i0, hi0, hy0, hy1, hy2⟩ := info_parts int_info
  obtain ⟨full, hfull⟩ : ∃ F, upL P (i + 1) i = F := ⟨_, rfl⟩
  have hfl : full.length ≤ 24 := by have := upL_len P (i + 1) i; rw [hfull] at this; omega
  have HPF : Hid (pathL P i = full.reverse) := Lib.hid (by unfold pathL; rw [hfull])
  have HST : Hid ([] ++ upL P (i + 1) i = full) := Lib.hid (by rw [hfull]; rfl)
  clear h0 h1 h2 hC hfull
  go_enter Try.func99, Try.ntmps99
  go_wp2_with fail
  generalize (w.alloc (.cells #[.slice (some ⟨g0, o0, none⟩) n c0, b, c] 28)) = W0 at *
  have HOW0 : Hid (OwnI (W0.alloc (.cells #[] 2)) W0.heap.size (W0.alloc (.cells #[] 2)).heap.size (.slice (some ⟨w.heap.size + 1, 0, none⟩) 0 0) ([] : List Int).reverse) := Lib.hid (by rw [← HZ0.out]; exact OwnI.mk' (n := 0) (by
    have := World.ownsRow_lit (e := 2) (size := 1) W0 #[] 0 (Nat.le_refl _) (by simp [maxLen]) rfl
    simpa [Own] using this))
  have HBB0 : Hid (Below W0.heap.size W0 (W0.alloc (.cells #[] 2))) := Lib.hid (below_box2 _ _)
  go_loopw [1, 5] (fun vi vo wr => ∃ (done : List Int) (N : Nat) (q : Addr) (c' : Nat), done.length = N ∧ vo = .slice (some q) N c' ∧ ((∃ j f : Nat, vi = .int .i64 j ∧ j < n ∧ j < f ∧ Hid (done ++ upL P f j = full)) ∨ (vi = .int .i64 (-1) ∧ Hid (done = full))) ∧ Hid (OwnI wr W0.heap.size wr.heap.size (.slice (some q) N c') done.reverse) ∧ Hid (Below W0.heap.size W0 wr)) (fun vi _ _ => (intOf vi + 1).toNat)
  case atStart => exact ⟨[], 0, _, _, rfl, rfl, .inl ⟨i, i + 1, rfl, hin, by omega, HST⟩, HOW0, HBB0⟩
  case round =>
    obtain ⟨done, N, q, c', hN, rfl, hrest, how, hb⟩ := hrel
    have HBW : Hid (Below w.heap.size w wr) := Lib.hid (HB0.out.trans (hb.out.mono HB0.out.size))
    have hX := HX.out.below hb.out
    have x0 := hX.c0; have hxl := hX.lt
    rcases hrest with ⟨j, f, rfl, hjn, hjf, hfu⟩ | ⟨rfl, hfu⟩
    · obtain ⟨f, rfl⟩ : ∃ f', f = f' + 1 := ⟨f - 1, by omega⟩
      have hNl : N + 1 ≤ 24 := by
        have h9 := congrArg List.length hfu.out
        rw [List.length_append, hN] at h9
        have : 1 ≤ (upL P (f + 1) j).length := by show 1 ≤ (_ :: _).length; simp
        omega
      have hRC := row_cells (o := .cells #[.int .i64 j] 2) (zs := done.reverse) (n := N) (a := q) (w := wr) (B := wr.heap.size) (by
        obtain ⟨n', A', c9, e9, hr9, hl9, _⟩ := how.out.reads.split2
        cases e9
        exact hr9) (by rw [List.length_reverse, hN]) (Nat.le_refl _)
      have HRC := Lib.hid hRC
      have HLN : Hid ((done.reverse.map (Value.int .i64)).length = N) := Lib.hid (by rw [List.length_map, List.length_reverse, hN])
      have HNE := Lib.hid hN
      have hbw := hb.out.size
      have hbs := HB0.out.size
      have hxw : w.heap.size < wr.heap.size := by omega
      clear hRC hN
      have hj0 : (0 : Int) ≤ (j : Int) := by omega
      have HCP : Hid (∀ w4, Below wr.heap.size wr w4 → w4.cell? ⟨w.heap.size, 0, none⟩ = some (.slice (some ⟨g0, o0, none⟩) n c0) ∧ w4.cell? ⟨g0, o0 + j, none⟩ = some (.int .i64 (P[j]?.getD 0))) := Lib.hid fun w4 hb4 => ⟨(hb4.cell (p := ⟨w.heap.size, 0, none⟩) hxw).trans x0, (hb4.cell (p := ⟨g0, o0 + j, none⟩) (by show g0 < _; omega)).trans ((HBW.out.cell (p := ⟨g0, o0 + j, none⟩) hg0).trans (H0.out j hjn))⟩
      have hjn2 : (j : Int) < (n : Int) := by omega
      have HBR := Lib.hid hb.out
      clear hb how
      by_cases hjz : j = 0
      · have hpz : P[j]?.getD 0 = -1 := by rw [hjz]; exact (nr_zero HC.out.ok (show 0 < n by omega)).2.1
        have HPZ := Lib.hid hpz
        have HFN : Hid (done ++ [(j : Int)] = full) := Lib.hid (by have h9 := hfu.out; rw [hjz] at h9 ⊢; exact h9)
        clear hpz hjz
        go_wp2_with (at_builtin; (refine wpList_append_own _ rfl _ _ 22 rfl wr.heap.size 2 i0 (.int .i64 0) 1 8 Try.underlying22 hi0 hy0 hy1 hy2 rfl (by decide) (.slice (some ⟨wr.heap.size, 0, none⟩) 1 1) 1 [.int .i64 j] rfl (World.ownsRow_lit wr #[.int .i64 j] 1 (Nat.le_refl _) (by simp [maxLen]) rfl) q N c' (done.reverse.map (Value.int .i64)) rfl ?_ ?_ ?_ ?_ ?_ ?_ ?_; (exact HLN.out.trans (Nat.mul_one N).symm); (exact HRC.out); (exact ints_oneCell _ _); (unfold maxLen; omega); (omega); (simp); intro v1 w4 hown1 hgrow _; have HB4 : Hid (Below wr.heap.size wr w4) := Lib.hid ((below_box2 wr _).grown hgrow (by simp) (fun k hk => by cases hk; exact Nat.le_refl _)); have hf4 : ∃ g4 o4 c4, v1 = .slice (some ⟨g4, o4, none⟩) (1 + N) c4 := (by (rcases hown1.2 with ⟨_, h9⟩ | ⟨g, cap, cur, e9, _⟩ <;> first | omega | exact ⟨_, _, _, e9⟩)); obtain ⟨g4, o4, c4, rfl⟩ := hf4; have HO5 : Hid (OwnI w4 W0.heap.size w4.heap.size (.slice (some ⟨g4, o4, none⟩) (N + 1) c4) (done ++ [(j : Int)]).reverse) := Lib.hid (by (rw [Nat.add_comm N 1]; exact own_less (OwnI.mk' (n := 1 + N) (by rw [List.reverse_append, List.map_append]; exact hown1)) hbw)); have HB5 : Hid (Below W0.heap.size W0 w4) := Lib.hid (HBR.out.trans (HB4.out.mono hbw)); have x4 := (HCP.out w4 HB4.out).1; have d4 := (HCP.out w4 HB4.out).2; rw [HPZ.out] at d4; clear hown1 hgrow))
        go_roundw
        case rel => exact ⟨done ++ [(j : Int)], N + 1, ⟨g4, o4, none⟩, c4, by rw [List.length_append, HNE.out]; rfl, (by rw [Nat.add_comm 1 N]), .inr ⟨rfl, HFN⟩, HO5, HB5⟩
        case measure => (simp [intOf] <;> omega)
      · obtain ⟨p, hp, hpj, _⟩ := nr_lt HC.out.ok j hjn (by omega)
        have HPZ := Lib.hid hp
        have HFN : Hid ((done ++ [(j : Int)]) ++ upL P f p = full) := Lib.hid (by
          have h9 := hfu.out
          rw [upL_par (by omega) hp] at h9
          rw [List.append_assoc]; exact h9)
        clear hp hjz
        go_wp2_with (at_builtin; (refine wpList_append_own _ rfl _ _ 22 rfl wr.heap.size 2 i0 (.int .i64 0) 1 8 Try.underlying22 hi0 hy0 hy1 hy2 rfl (by decide) (.slice (some ⟨wr.heap.size, 0, none⟩) 1 1) 1 [.int .i64 j] rfl (World.ownsRow_lit wr #[.int .i64 j] 1 (Nat.le_refl _) (by simp [maxLen]) rfl) q N c' (done.reverse.map (Value.int .i64)) rfl ?_ ?_ ?_ ?_ ?_ ?_ ?_; (exact HLN.out.trans (Nat.mul_one N).symm); (exact HRC.out); (exact ints_oneCell _ _); (unfold maxLen; omega); (omega); (simp); intro v1 w4 hown1 hgrow _; have HB4 : Hid (Below wr.heap.size wr w4) := Lib.hid ((below_box2 wr _).grown hgrow (by simp) (fun k hk => by cases hk; exact Nat.le_refl _)); have hf4 : ∃ g4 o4 c4, v1 = .slice (some ⟨g4, o4, none⟩) (1 + N) c4 := (by (rcases hown1.2 with ⟨_, h9⟩ | ⟨g, cap, cur, e9, _⟩ <;> first | omega | exact ⟨_, _, _, e9⟩)); obtain ⟨g4, o4, c4, rfl⟩ := hf4; have HO5 : Hid (OwnI w4 W0.heap.size w4.heap.size (.slice (some ⟨g4, o4, none⟩) (N + 1) c4) (done ++ [(j : Int)]).reverse) := Lib.hid (by (rw [Nat.add_comm N 1]; exact own_less (OwnI.mk' (n := 1 + N) (by rw [List.reverse_append, List.map_append]; exact hown1)) hbw)); have HB5 : Hid (Below W0.heap.size W0 w4) := Lib.hid (HBR.out.trans (HB4.out.mono hbw)); have x4 := (HCP.out w4 HB4.out).1; have d4 := (HCP.out w4 HB4.out).2; rw [HPZ.out] at d4; clear hown1 hgrow))
        go_roundw
        case rel => exact ⟨done ++ [(j : Int)], N + 1, ⟨g4, o4, none⟩, c4, by rw [List.length_append, HNE.out]; rfl, (by rw [Nat.add_comm 1 N]), .inl ⟨p, f, rfl, by omega, by omega, HFN⟩, HO5, HB5⟩
        case measure => simp [intOf]; omega
    · go_wp2_with fail
      go_ret
      refine LAns.of (by rw [HPF.out, List.length_reverse, ← hfu.out]; exact hN) ?_ (HB0.out.trans (hb.out.mono HB0.out.size))
      rw [HPF.out, ← hfu.out]
      exact own_less how.out HB0.out.size

set_option maxRecDepth 100000 in
set_option maxHeartbeats 4000000 in
theorem l08Point_any (a b c : Value) (P S W : List Int) (i : Int) (w : World) (h : ReadC w w.heap.size a b c P S W) (hP : P.length ≤ 1048576) (hS : S.length ≤ 1048576) (hW : W.length ≤ 1048576) :
    Calls Try.prog 98 #[.agg #[a, b, c], .int .i64 i] w fun e w' => e = .returned (.int .i64 (scC P S W i)) ∧ Below w.heap.size w w' := by
  obtain ⟨W0, HE⟩ : ∃ V, V = w.alloc (.cells #[a, b, c] 28) := ⟨_, rfl⟩
  have hb0 : Below w.heap.size w W0 := by rw [HE]; exact below_box2 _ _
  have hx : CBox W0 w.heap.size a b c := by rw [HE]; exact CBox.new _ _ _ _ _
  have HR := Lib.hid ((h.below hb0).more hb0.size)
  have HB := Lib.hid hb0
  have HEQ := Lib.hid HE
  have HX := Lib.hid hx
  have x0 := hx.c0; have x1 := hx.c1; have x2 := hx.c2; have hxl := hx.lt
  clear h hb0 hx HE
  rcases bool_fs (clB P S W) with hp | hp
  · have HK := Lib.hid (show scC P S W i = 1 by simp [scC, hp])
    have HP := Lib.hid hp
    clear hp
    go_enter Try.func98, Try.ntmps98
    go_wp2_with fail
    rw [← HEQ.out]
    refine (l07Is_if a b c P S W W0 HR.out hP hS hW false HP.out).mono ?_
    rintro e w1 ⟨rfl, hb1⟩
    have HB1 := Lib.hid (HB.out.trans (hb1.mono HB.out.size))
    clear hb1
    go_wp2_with fail
    go_ret
    exact ⟨by rw [HK.out]; rfl, HB1.out⟩
  · obtain ⟨n, hC⟩ := clB_true hp
    have HC := Lib.hid hC
    have HP := Lib.hid hp
    have hn := hC.hi
    obtain ⟨A0, k0, rfl⟩ : ∃ A k, a = .slice A n k := by obtain ⟨A, k, e, _⟩ := HR.out.1; rw [hC.p] at e; exact ⟨A, k, e⟩
    clear hp hC
    go_enter Try.func98, Try.ntmps98
    go_wp2_with fail
    rw [← HEQ.out]
    refine (l07Is_if _ b c P S W W0 HR.out hP hS hW true HP.out).mono ?_
    rintro e w1 ⟨rfl, hb1⟩
    have HB1 := Lib.hid (HB.out.trans (hb1.mono HB.out.size))
    have hX1 := HX.out.below hb1
    have y0 := hX1.c0; have y1 := hX1.c1; have y2 := hX1.c2; have hyl := hX1.lt
    clear hb1 hX1
    by_cases hi : 0 ≤ i ∧ i < (n : Int)
    · have HK : Hid (scC P S W i = 0) := Lib.hid (by unfold scC; rw [if_pos HC.out.b, if_pos (by rw [HC.out.p]; exact hi)])
      go_wp2_with (go_at_call 67; refine (inY i 0 ((n : Int) - 1) _ (by omega) (by omega)).mono ?_; rintro e w' ⟨rfl, rfl⟩)
      go_ret
      exact ⟨by rw [HK.out]; rfl, HB1.out⟩
    · have HK := Lib.hid (sc_bad HC.out hi)
      go_wp2_with (go_at_call 67; refine (inN i 0 ((n : Int) - 1) _ (by omega)).mono ?_; rintro e w' ⟨rfl, rfl⟩)
      go_ret
      exact ⟨by rw [HK.out]; rfl, HB1.out⟩

set_option maxRecDepth 100000 in
set_option maxHeartbeats 4000000 in
theorem specPathOf_any (a b c : Value) (P S W : List Int) (i : Int) (w : World) (h : ReadC w w.heap.size a b c P S W) (hP : P.length ≤ 1048576) (hS : S.length ≤ 1048576) (hW : W.length ≤ 1048576) (hwp : ∀ z ∈ P, (Lit.int .i64 z).wf = true) (hws : ∀ z ∈ S, (Lit.int .i64 z).wf = true) (hww : ∀ z ∈ W, (Lit.int .i64 z).wf = true) (hwi : (Lit.int .i64 i).wf = true) :
    Calls Try.prog 52 #[.agg #[a, b, c], .int .i64 i] w (AnsIC w (phA P S W i) (scC P S W i)) := by
  obtain ⟨W0, HE⟩ : ∃ V, V = w.alloc (.cells #[a, b, c] 28) := ⟨_, rfl⟩
  have hb0 : Below w.heap.size w W0 := by rw [HE]; exact below_box2 _ _
  have hx : CBox W0 w.heap.size a b c := by rw [HE]; exact CBox.new _ _ _ _ _
  have HR := Lib.hid ((h.below hb0).more hb0.size)
  have HB := Lib.hid hb0
  have HEQ := Lib.hid HE
  have HX := Lib.hid hx
  have x0 := hx.c0; have x1 := hx.c1; have x2 := hx.c2; have hxl := hx.lt
  clear h hb0 hx HE hwp hws hww
  by_cases hk : scC P S W i = 0
  · have hb : clB P S W = true := by
      cases hb : clB P S W with
      | true => rfl
      | false => simp [scC, hb] at hk
    obtain ⟨n, hC⟩ := clB_true hb
    have h2 : 0 ≤ i ∧ i < (n : Int) := by
      apply Classical.byContradiction
      intro h3
      rw [sc_bad hC h3] at hk; cases hk
    obtain ⟨i, rfl⟩ : ∃ j : Nat, i = (j : Int) := ⟨i.toNat, by omega⟩
    have HK := Lib.hid hk
    have HC := Lib.hid hC
    have HA := Lib.hid (ph_yes hC (show i < n by omega)).2
    have hin : i < n := by omega
    clear hk hb hC h2
    go_enter Try.func52, Try.ntmps52
    go_wp2_with fail
    rw [← HEQ.out]
    refine (l08Point_any a b c P S W (i : Int) W0 HR.out hP hS hW).mono ?_
    rw [HK.out]
    rintro e w1 ⟨rfl, hb1⟩
    have HB1 := Lib.hid (HB.out.trans (hb1.mono HB.out.size))
    have HR1 := Lib.hid ((HR.out.below hb1).more hb1.size)
    have hX1 := HX.out.below hb1
    have y0 := hX1.c0; have y1 := hX1.c1; have y2 := hX1.c2; have hyl := hX1.lt
    clear hb1 hX1 x0 x1 x2 hxl
    go_wp2_with fail
    refine (l08Path_any a b c P S W n i w1 HR1.out HC.out.toClP hin).mono ?_
    rintro e w2 ⟨A2, c2, rfl, ho2, hb2⟩
    have HB2 := Lib.hid (HB1.out.trans (hb2.mono HB1.out.size))
    have HO2 := Lib.hid ho2
    have hbs := HB1.out.size
    clear ho2 hb2
    go_wp2_with fail
    go_ret2
    exact AnsIC.mk' HA.out.symm HK.out.symm (own_less HO2.out hbs) HB2.out
  · have HK := Lib.hid hk
    obtain ⟨C, hC⟩ : ∃ C, scC P S W i = C := ⟨_, rfl⟩
    have HA := Lib.hid (ph_no hC (by rw [← hC]; exact hk))
    have HCC := Lib.hid hC
    have hCn : C ≠ 0 := by rw [← hC]; exact hk
    clear hk hC
    go_enter Try.func52, Try.ntmps52
    go_wp2_with fail
    rw [← HEQ.out]
    refine (l08Point_any a b c P S W i W0 HR.out hP hS hW).mono ?_
    rw [HCC.out]
    rintro e w1 ⟨rfl, hb1⟩
    have HB1 := Lib.hid (HB.out.trans (hb1.mono HB.out.size))
    clear hb1
    go_wp2_with fail
    go_ret2
    exact AnsIC.empty HA.out.symm HCC.out.symm HB1.out

end Go.Proofs.Ytjobfjgphcaoeaa
