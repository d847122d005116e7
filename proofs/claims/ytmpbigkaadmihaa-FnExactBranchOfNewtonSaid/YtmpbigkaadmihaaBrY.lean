/- BranchOfExponents, the program's: contract. Conditions: stated at each theorem. -/
import Derived.Test.YtmpbigkaadmihaaBrX
import Derived.Test.YtmpbigkaadmihaaBrA
namespace Go.Proofs.Ytmpbigkaadmihaa
open Go.ChangeShapes Go.WideShapes Go.ChangeAt Go.RowKit
set_option linter.unusedVariables false
set_option linter.unusedSimpArgs false

/-- The end of a function whose answer, a struct, lies in the block p: the answer has been stored. -/
theorem ansR_endG {w w1 : World} {v : Value} {zs L : List Int} {C D : Int} (p : Nat) (hp : w.heap.size ≤ p) (h1 : zs = L) (h2 : D = C) (ho : OwnI w1 w.heap.size w1.heap.size v zs) (hne : v.ownBlock ≠ some p) (hb : Below w.heap.size w w1) (u : Value) :
    AnsRC w L C (.returned (.tuple #[.agg #[v], .int .i64 D])) (w1.setCell ⟨p, 0, none⟩ u) := by
  subst h1; subst h2
  refine ⟨v, rfl, ?_, hb.setCell hp _⟩
  obtain ⟨⟨g0, g1⟩, g2, g3⟩ := ho
  refine ⟨⟨g0, ?_⟩, ?_, by simp⟩
  · rcases g1 with hn | ⟨g, cap, cur, e, hgb, hgg, rest⟩
    · exact .inl hn
    · refine .inr ⟨g, cap, cur, e, hgb, ?_, rest⟩
      rw [Below.heap_setCell w1 ⟨p, 0, none⟩ u g (by
        rintro rfl
        apply hne; rw [e]; rfl)]
      exact hgg
  · intro k hk; simpa [World.setCell] using g2 k hk
theorem areExp_if (A : Option Addr) (n c : Nat) (zs : List Int) (w : World) (B : Nat) (b : Bool) (hr : RI w B A n zs) (hl : zs.length = n) (hn : n ≤ 9223372036854775807) (hw : ∀ z ∈ zs, (Lit.int .i64 z).wf = true) (hb : ascB 0 zs = b) :
    Calls Try.prog 61 #[.slice A n c] w fun e w' => e = .returned (.bool b) ∧ w = w' := by
  subst hb; exact areExp_any A n c zs w B hr hl hn hw
/-- One block at the start of a function: a struct that goes out. -/
structure Start1 (w W0 : World) : Prop where
  below : Below w.heap.size w W0
  res : BoxI W0 w.heap.size (.slice none 0 0)
  free : W0.frozen? ⟨w.heap.size, 0, none⟩ = false
  size : W0.heap.size = w.heap.size + 1
theorem Start1.new (w : World) : Start1 w (w.alloc (.cells #[.slice none 0 0] 26)) := ⟨below_box _ _, BoxI.new _ _ _, by go_simp, by simp⟩
theorem Start1.later {w W0 w1 : World} (h : Start1 w W0) (hb : Below W0.heap.size W0 w1) : w1.cell? ⟨w.heap.size, 0, none⟩ = some (.slice none 0 0) ∧ w1.frozen? ⟨w.heap.size, 0, none⟩ = false ∧ w.heap.size < w1.heap.size :=
  ⟨by rw [hb.cell (p := ⟨w.heap.size, 0, none⟩) h.res.2]; exact h.res.1, by rw [hb.frozen (p := ⟨w.heap.size, 0, none⟩) h.res.2]; exact h.free, Nat.lt_of_lt_of_le h.res.2 hb.size⟩
theorem wfs_of {L : List Int} (h : ∀ z ∈ L, 1 ≤ z ∧ z ≤ 2000) : ∀ z ∈ L, (Lit.int .i64 z).wf = true := fun z hz => i64_wf (by have := h z hz; omega) (by have := h z hz; omega)

set_option maxHeartbeats 2000000 in
theorem implBranchOfExponents_any (m : Int) (v : Value) (zs : List Int) (w : World) (hwm : (Lit.int .i64 m).wf = true) (h : ReadI w w.heap.size v zs) (hn : zs.length ≤ 1048576) (hw : ∀ z ∈ zs, (Lit.int .i64 z).wf = true) :
    Calls Try.prog 20 #[.int .i64 m, v] w (AnsRC w (boA m zs) (boC m zs)) := by
  obtain ⟨n, A, c, rfl, hr, HL, HN, hnc, HF, hcm⟩ := h.split2
  rw [HL.out] at hn
  obtain ⟨W0, HE⟩ : ∃ W, W = w.alloc (.cells #[.slice none 0 0] 26) := ⟨_, rfl⟩
  have hS0 : Start1 w W0 := by rw [HE]; exact Start1.new _
  have hb0 := hS0.below
  have H0 := Lib.hid (hr.below hb0)
  have HRD := Lib.hid ((h.below hb0).more hb0.size)
  have S0 := Lib.hid hS0
  have HW := Lib.hid hw
  have HEQ := Lib.hid HE
  clear h hr hb0 hS0 hw HE hwm
  cases hm : mulB m
  · have E := Lib.hid (bo_no (boOK_no1 (zs := zs) hm))
    have HM := Lib.hid hm
    clear hm
    go_enter Try.func20, Try.ntmps20
    go_wp2_with fail
    rw [← HEQ.out]
    obtain ⟨l2, l3, l4⟩ := S0.out.later (Below.refl _ _)
    refine (isMul_no _ _ HM.out).mono ?_
    rintro e w1 ⟨rfl, rfl⟩
    go_wp2_with fail
    have cr : (W0.setCell ⟨w.heap.size, 0, none⟩ (.slice none 0 0)).cell? ⟨w.heap.size, 0, none⟩ = some (.slice none 0 0) := by go_simp
    refine bodyPost_ret (v := .tuple #[.agg #[.slice none 0 0], .int .i64 2]) (by simp [results, Try.results20, go_sem, cr]) rfl ?_
    exact ansR_endG _ (Nat.le_refl _) E.out.1.symm E.out.2.symm (OwnI.nil _ _) (by intro h; cases h) S0.out.below _
  by_cases hlen : n ≤ 64
  rotate_left
  · have E := Lib.hid (bo_no (boOK_no2 (n := m) (zs := zs) (by rw [HL.out]; exact hlen)))
    have HM := Lib.hid hm
    have h64 : (64 : Int) < (n : Int) := by omega
    clear hm
    go_enter Try.func20, Try.ntmps20
    go_wp2_with fail
    rw [← HEQ.out]
    obtain ⟨l2, l3, l4⟩ := S0.out.later (Below.refl _ _)
    refine (isMul_yes _ _ HM.out).mono ?_
    rintro e w1 ⟨rfl, rfl⟩
    go_wp2_with fail
    have cr : (W0.setCell ⟨w.heap.size, 0, none⟩ (.slice none 0 0)).cell? ⟨w.heap.size, 0, none⟩ = some (.slice none 0 0) := by go_simp
    refine bodyPost_ret (v := .tuple #[.agg #[.slice none 0 0], .int .i64 2]) (by simp [results, Try.results20, go_sem, cr]) rfl ?_
    exact ansR_endG _ (Nat.le_refl _) E.out.1.symm E.out.2.symm (OwnI.nil _ _) (by intro h; cases h) S0.out.below _
  have h64 : ¬ (64 : Int) < (n : Int) := by omega
  cases ha : ascB 0 zs
  · have E := Lib.hid (bo_no (boOK_no3 (n := m) ha))
    have HM := Lib.hid hm
    have HA := Lib.hid ha
    clear hm ha
    go_enter Try.func20, Try.ntmps20
    go_wp2_with fail
    rw [← HEQ.out]
    obtain ⟨l2, l3, l4⟩ := S0.out.later (Below.refl _ _)
    refine (isMul_yes _ _ HM.out).mono ?_
    rintro e w1 ⟨rfl, rfl⟩
    go_wp2_with fail
    refine (areExp_if _ _ _ zs _ _ false H0.out HL.out (by omega) HW.out HA.out).mono ?_
    rintro e w1 ⟨rfl, rfl⟩
    go_wp2_with fail
    have cr : (W0.setCell ⟨w.heap.size, 0, none⟩ (.slice none 0 0)).cell? ⟨w.heap.size, 0, none⟩ = some (.slice none 0 0) := by go_simp
    refine bodyPost_ret (v := .tuple #[.agg #[.slice none 0 0], .int .i64 2]) (by simp [results, Try.results20, go_sem, cr]) rfl ?_
    exact ansR_endG _ (Nat.le_refl _) E.out.1.symm E.out.2.symm (OwnI.nil _ _) (by intro h; cases h) S0.out.below _
  have hok : boOK m zs = true := by simp [boOK, hm, ha, HL.out, hlen]
  have OK := Lib.hid hok
  have HM := Lib.hid hm
  have HA := Lib.hid ha
  have hm64 := mulB_true.1 hm
  have HZ : Hid (∀ z ∈ zs, 0 < z ∧ z ≤ 2000) := Lib.hid (ascB_all ha)
  have hsw : w.heap.size < W0.heap.size := S0.out.res.2
  obtain ⟨i0, hi0, hz0, hz1, hz2⟩ := info_parts int_info
  have HO : Hid (OwnI W0 W0.heap.size W0.heap.size (.slice none 0 0) []) := Lib.hid (OwnI.nil _ _)
  have HBL : Hid (Below W0.heap.size W0 W0) := Lib.hid (Below.refl _ _)
  have E0 : Hid (exL m zs = [] ++ exL m (zs.drop 0)) := Lib.hid (by simp)
  clear hm ha hok
  go_enter Try.func20, Try.ntmps20
  go_wp2_with fail
  rw [← HEQ.out]
  obtain ⟨l2, l3, l4⟩ := S0.out.later (Below.refl _ _)
  refine (isMul_yes _ _ HM.out).mono ?_
  rintro e w1 ⟨rfl, rfl⟩
  go_wp2_with fail
  refine (areExp_if _ _ _ zs _ _ true H0.out HL.out (by omega) HW.out HA.out).mono ?_
  rintro e w1 ⟨rfl, rfl⟩
  go_wp2_with fail
  clear l2 l3 l4
  go_loopw [6, 7, 28] (fun vo ve vi wr => ∃ (k l : Nat) (x : Int) (L : List Int) (A' : Option Addr) (c' : Nat), k ≤ n ∧ l ≤ k ∧ (1 ≤ x ∧ x ≤ 64) ∧ vo = .slice A' l c' ∧ ve = .int .i64 x ∧ vi = .int .i64 k ∧ Hid (L.length = l) ∧ Hid (exL m zs = L ++ exL x (zs.drop k)) ∧ Hid (OwnI wr W0.heap.size wr.heap.size (.slice A' l c') L) ∧ Hid (Below W0.heap.size W0 wr)) (fun _ _ vi _ => n - (intOf vi).toNat)
  case atStart => exact ⟨0, 0, m, [], none, 0, by omega, by omega, hm64, rfl, rfl, rfl, Lib.hid rfl, E0, HO, HBL⟩
  case round =>
    obtain ⟨k, l, x, L, A', c', hk, hl, hx, rfl, rfl, rfl, hL, hg, ho, hb⟩ := hrel
    by_cases hlt : k < n
    · obtain ⟨a, rfl, hal, hcell0⟩ := H0.out.2 k hlt
      have hz := HZ.out (zs[k]?.getD 0) (by have := HL.out; simp [show k < zs.length by omega])
      have HD := Lib.hid (drop_at HL.out hlt)
      have hcell : wr.cell? (a.add k) = some (.int .i64 (zs[k]?.getD 0)) := by
        rw [hb.out.cell (by rw [add_block]; omega)]; simpa using hcell0
      generalize zs[k]?.getD 0 = z at *
      have hxz : (x == 0) = false := by simp; omega
      have hx0 : ¬ x = 0 := by omega
      have hkn : (k : Int) < (n : Int) := by omega
      have hwp : IntKind.i64.wrap (z.tmod x) = z.tmod x := IntWalk.i64_in _ (by have h1 := Int.natAbs_tmod z x; have h2 : z.natAbs % x.natAbs ≤ z.natAbs := Nat.mod_le _ _; omega)
      have hem : z.tmod x = z % x := Int.tmod_eq_emod_of_nonneg (by omega)
      rw [hem] at hwp
      have hge := gcd_le_left (e := x) (z := z) hx.1
      have hsz := hb.out.size
      clear hcell0
      by_cases h0 : z.tmod x = 0
      · have HG : Hid (exL m zs = L ++ exL x (zs.drop (k + 1))) := Lib.hid (by rw [hg.out, HD.out, ex_yes h0])
        have hb0 : (z % x != 0) = false := by rw [← hem]; simp [h0]
        clear h0 hem
        go_wp2
        go_roundw
        case rel => exact ⟨k + 1, l, x, L, A', c', by omega, by omega, hx, rfl, rfl, by go_num, hL, HG, ho, hb⟩
        case measure => simp [intOf]; omega
      · have HG : Hid (exL m zs = (L ++ [z]) ++ exL (Int.gcd x z : Int) (zs.drop (k + 1))) := Lib.hid (by rw [hg.out, HD.out, ex_no h0]; simp)
        have hb0 : (z % x != 0) = true := by rw [← hem]; simp [h0]
        have HOw : Hid (Own wr W0.heap.size (.slice A' l c') l (L.map (.int .i64))) := Lib.hid (by have := ho.out.1; rw [hL.out] at this; exact this)
        clear h0 hem
        go_wp2_with (at_builtin; go_loud (refine wpList_append_own _ rfl _ _ 24 rfl W0.heap.size 2 i0 (.int .i64 0) 1 8 Try.underlying24 hi0 hz0 hz1 hz2 rfl ?_ _ l (L.map (.int .i64)) rfl (World.ownsRow.alloc HOw.out _) ⟨wr.heap.size, 0, none⟩ 1 1 [.int .i64 z] rfl rfl ?_ ?_ ?_ ?_ ?_ ?_; (decide); (exact World.news_of_block (cs := #[.int .i64 z]) (t := 2) (fr := (0, 0)) (heap_alloc_new wr _)); (simp [Value.oneCell']); (simp only [maxLen]; omega); (omega); (simp; omega); intro v1 w2 hown1 hgrow _; obtain ⟨A2, c2, rfl⟩ := own_form hown1; have HO1 : Hid (OwnI w2 W0.heap.size w2.heap.size (.slice A2 (l + 1) c2) (L ++ [z])) := Lib.hid (OwnI.mk' (n := l + 1) (by rw [List.map_append]; exact hown1)); have hb1 : Below W0.heap.size W0 w2 := (hb.out.alloc hb.out.size _).grown hgrow (by simp; omega) (fun k hk => (Own.lt ho.out.1 k hk).1); have HB1 := Lib.hid hb1; clear hown1 hgrow hb1))
        refine (greatest_any x z _ (by omega) (by omega) (by omega) (by omega)).mono ?_
        rintro e w3 ⟨rfl, q, rfl⟩
        have hdr : Below w2.heap.size w2 (w2.drewN q) := below_drewN (Below.refl _ _) q
        have HO2 : Hid (OwnI (w2.drewN q) W0.heap.size (w2.drewN q).heap.size (.slice A2 (l + 1) c2) (L ++ [z])) := Lib.hid ((HO1.out.kept (Kept.of_below hdr (Nat.le_refl _))).raise hdr.size (Nat.le_refl _))
        have HB2 := Lib.hid (HB1.out.trans (hdr.mono HB1.out.size))
        clear hdr
        go_wp2
        go_roundw
        case rel => exact ⟨k + 1, l + 1, _, L ++ [z], A2, c2, by omega, by omega, ⟨hge.1, by omega⟩, rfl, rfl, by go_num, Lib.hid (by simp [hL.out]), HG, HO2, HB2⟩
        case measure => simp [intOf]; omega
    · obtain rfl : k = n := by omega
      have hszw := hb.out.size
      have HX : Hid (exL m zs = L) := Lib.hid (by rw [hg.out, drop_end HL.out (Nat.le_refl _)]; simp [exL])
      have hrd : ReadI wr wr.heap.size (.slice A' l c') L := ho.out.reads
      have RD := Lib.hid hrd
      have HB := Lib.hid (S0.out.below.trans (hb.out.mono (by omega)))
      clear hrd
      go_wp2_with fail
      refine (branchWith_any m _ L wr RD.out (by rw [hL.out]; omega)).mono ?_
      rintro e w4 ⟨v4, rfl, ho4, hb4⟩
      obtain ⟨A4, c4, rfl⟩ := ho4.form (n := l + 1) (by simp [hL.out])
      obtain ⟨W4, HE4⟩ : ∃ W, W = w4.alloc (.cells #[.slice A4 (l + 1) c4] 26) := ⟨_, rfl⟩
      have hb5 : Below w4.heap.size w4 W4 := by rw [HE4]; exact below_box _ _
      have hq5 : BoxI W4 w4.heap.size (.slice A4 (l + 1) c4) := by rw [HE4]; exact BoxI.new _ _ _
      have HQ5 := Lib.hid hq5
      have HX2 : Hid (m :: exL m zs = m :: L) := Lib.hid (by rw [HX.out])
      have hbw4 : Below W0.heap.size W0 W4 := (hb.out.trans (hb4.mono (by omega))).trans (hb5.mono (by have := hb4.size; omega))
      have O5 : Hid (OwnI W4 wr.heap.size w4.heap.size (.slice A4 (l + 1) c4) (m :: L)) := Lib.hid (ho4.kept (Kept.of_below hb5 (Nat.le_refl _)))
      have B5 := Lib.hid hbw4
      have R5 : Hid (ReadI W4 W4.heap.size (.slice A4 (l + 1) c4) (m :: L)) := Lib.hid ((ho4.kept (Kept.of_below hb5 (Nat.le_refl _))).reads)
      have HE4' := Lib.hid HE4
      have hq50 := hq5.1
      have hlt5 := hq5.2
      have HWL : Hid (∀ z ∈ m :: L, (Lit.int .i64 z).wf = true) := Lib.hid (by
        refine wfs_of ?_
        intro z hz
        rcases List.mem_cons.1 hz with rfl | hz
        · omega
        · exact ex_range (boOK_yes OK.out).2.2 z (by rw [HX.out]; exact hz))
      have hs4 := hb4.size
      have hs5 := hb5.size
      clear ho4 hb4 hb5 hq5 hbw4 HE4
      go_wp2_with fail
      rw [← HE4'.out]
      cases hp : brB (m :: L)
      · have E := Lib.hid (bo_none OK.out (by rw [HX2.out]; exact hp))
        refine (implIsBranch_if _ (m :: L) W4 false R5.out (by simp [hL.out]; omega) HWL.out hp).mono ?_
        rintro e w6 ⟨rfl, hb6⟩
        obtain ⟨l2, l3, l4⟩ := S0.out.later (B5.out.trans (hb6.mono (by omega)))
        have B6 := Lib.hid (S0.out.below.trans ((B5.out.trans (hb6.mono (by omega))).mono (by omega)))
        clear hb6 hp
        go_wp2_with fail
        have cr : (w6.setCell ⟨w.heap.size, 0, none⟩ (.slice none 0 0)).cell? ⟨w.heap.size, 0, none⟩ = some (.slice none 0 0) := by go_simp
        refine bodyPost_ret (v := .tuple #[.agg #[.slice none 0 0], .int .i64 5]) (by simp [results, Try.results20, go_sem, cr]) rfl ?_
        exact ansR_endG _ (Nat.le_refl _) E.out.1.symm E.out.2.symm (OwnI.nil _ _) (by intro h; cases h) B6.out _
      · have E := Lib.hid (bo_yes OK.out (by rw [HX2.out]; exact hp))
        refine (implIsBranch_if _ (m :: L) W4 true R5.out (by simp [hL.out]; omega) HWL.out hp).mono ?_
        rintro e w6 ⟨rfl, hb6⟩
        obtain ⟨l2, l3, l4⟩ := S0.out.later (B5.out.trans (hb6.mono (by omega)))
        have B6 := Lib.hid (S0.out.below.trans ((B5.out.trans (hb6.mono (by omega))).mono (by omega)))
        have hc6 : w6.cell? ⟨w4.heap.size, 0, none⟩ = some (.slice A4 (l + 1) c4) := by rw [hb6.cell (p := ⟨w4.heap.size, 0, none⟩) hlt5]; exact hq50
        have O6 : Hid (OwnI w6 wr.heap.size w4.heap.size (.slice A4 (l + 1) c4) (m :: L)) := Lib.hid (O5.out.kept (Kept.of_below hb6 (by omega)))
        have hs6 := hb6.size
        clear hb6 hp
        go_wp2_with fail
        have cr : (w6.setCell ⟨w.heap.size, 0, none⟩ (.slice A4 (l + 1) c4)).cell? ⟨w.heap.size, 0, none⟩ = some (.slice A4 (l + 1) c4) := by go_simp
        refine bodyPost_ret (v := .tuple #[.agg #[.slice A4 (l + 1) c4], .int .i64 0]) (by simp [results, Try.results20, go_sem, cr]) rfl ?_
        have hne2 : (Value.slice A4 (l + 1) c4).ownBlock ≠ some w.heap.size := by
          intro h
          have h2 := (O6.out.1.lt w.heap.size h).1
          omega
        exact ansR_endG _ (Nat.le_refl _) (by rw [E.out.1, HX2.out]) E.out.2.symm ((own_lessB O6.out (by omega)).raise (by omega) (Nat.le_refl _)) hne2 B6.out _
end Go.Proofs.Ytmpbigkaadmihaa
