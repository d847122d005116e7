/- Sums of clusters: contracts. Conditions: stated at each theorem. -/
import Derived.Test.YtjobfjgphcaoeaaClS
namespace Go.Proofs.Ytjobfjgphcaoeaa
open Go.ChangeShapes Go.WideShapes Go.ChangeAt Go.RowKit Go.Deep
set_option linter.unusedVariables false
set_option linter.unusedSimpArgs false

theorem Kept.set3 {V : World} {lo hi g : Nat} (h : ¬ (lo ≤ g ∧ g < hi)) (x y z : Value) : Kept lo hi V (((V.setCell ⟨g, 0, none⟩ x).setCell ⟨g, 1, none⟩ y).setCell ⟨g, 2, none⟩ z) :=
  ⟨by rw [size_set3]; exact Nat.le_refl _, fun b h1 h2 => by
    have hb : b ≠ g := fun e => h ⟨by omega, by omega⟩
    rw [Below.heap_setCell _ _ _ _ (by simpa using hb), Below.heap_setCell _ _ _ _ (by simpa using hb), Below.heap_setCell _ _ _ _ (by simpa using hb)]⟩
theorem OwnC.wide {w : World} {lo hi : Nat} {a b c : Value} {P S W : List Int} (h : OwnC w lo hi a b c P S W) : OwnC w lo w.heap.size a b c P S W := by
  obtain ⟨hh, l0, h0, l1, h1, l2, h2, ⟨a0, a1, a2, x01, x02, x12⟩, o0, o1, o2⟩ := h
  exact ⟨Nat.le_refl _, l0, h0, l1, h1, l2, h2, ⟨by omega, by omega, by omega, x01, x02, x12⟩, o0, o1, o2⟩
theorem CBox.other3 {V : World} {h g : Nat} {a b c : Value} (k : CBox V h a b c) (hne : h ≠ g) (x y z : Value) : CBox (((V.setCell ⟨g, 0, none⟩ x).setCell ⟨g, 1, none⟩ y).setCell ⟨g, 2, none⟩ z) h a b c := ((k.other hne _).other hne _).other hne _
def smF2 (W W' : List Int) (x : Nat) : Int := W[x]?.getD 0 + W'[x]?.getD 0
def adL (W W' : List Int) (n : Nat) : List Int := fnL (smF2 W W') n
theorem adL_len (W W' : List Int) (n : Nat) : (adL W W' n).length = n := fnL_len _ _
def adJ (W W' : List Int) (k x : Nat) : Int := if x < k then smF2 W W' x else W[x]?.getD 0
theorem adJ_set (W W' : List Int) (k : Nat) : (fun x => if x = k then W[k]?.getD 0 + W'[k]?.getD 0 else adJ W W' k x) = adJ W W' (k + 1) := by
  funext x
  unfold adJ
  by_cases h : x = k
  · subst h; rw [if_pos rfl, if_pos (show x < x + 1 by omega)]; rfl
  · rw [if_neg h]
    by_cases h2 : x < k
    · rw [if_pos h2, if_pos (show x < k + 1 by omega)]
    · rw [if_neg h2, if_neg (show ¬ x < k + 1 by omega)]
theorem adJ_at (W W' : List Int) (k : Nat) : adJ W W' k k = W[k]?.getD 0 := by simp [adJ]
theorem adJ_zero (W W' : List Int) : adJ W W' 0 = fun x => W[x]?.getD 0 := by funext x; simp [adJ]
theorem adJ_end (W W' : List Int) (n : Nat) : fnL (adJ W W' n) n = adL W W' n := fnL_congr fun x hx => by unfold adJ; rw [if_pos hx]
theorem ad_next (W W' : List Int) (k : Nat) : adL W W' (k + 1) = adL W W' k ++ [W[k]?.getD 0 + W'[k]?.getD 0] := by simp [adL, fnL, List.range_succ, smF2]
def acC (P S W P' S' W' : List Int) : Int := if alC P S W P' S' W' = 0 then (if wtOK (adL W W' W.length) then 0 else 3) else alC P S W P' S' W'
def acP (P S W P' S' W' : List Int) : List Int := if acC P S W P' S' W' = 0 then P else []
def acS (P S W P' S' W' : List Int) : List Int := if acC P S W P' S' W' = 0 then S else []
def acW (P S W P' S' W' : List Int) : List Int := if acC P S W P' S' W' = 0 then adL W W' W.length else []
theorem ac_no {P S W P' S' W' : List Int} {C : Int} (h : acC P S W P' S' W' = C) (hC : C ≠ 0) : acP P S W P' S' W' = [] ∧ acS P S W P' S' W' = [] ∧ acW P S W P' S' W' = [] := by
  subst h; exact ⟨if_neg hC, if_neg hC, if_neg hC⟩
theorem ac_yes {P S W P' S' W' : List Int} {n : Nat} (h : alC P S W P' S' W' = 0) (hw : W.length = n) (hx : wtOK (adL W W' n) = true) : acC P S W P' S' W' = 0 ∧ acP P S W P' S' W' = P ∧ acS P S W P' S' W' = S ∧ acW P S W P' S' W' = adL W W' n := by
  have h0 : acC P S W P' S' W' = 0 := by rw [acC, if_pos h, hw, hx]; rfl
  exact ⟨h0, if_pos h0, if_pos h0, by rw [acW, if_pos h0, hw]⟩
theorem ac_big {P S W P' S' W' : List Int} {n : Nat} (h : alC P S W P' S' W' = 0) (hw : W.length = n) (hx : wtOK (adL W W' n) = false) : acC P S W P' S' W' = 3 := by
  rw [acC, if_pos h, hw, hx]; rfl
theorem al_codes (P S W P' S' W' : List Int) : alC P S W P' S' W' = 0 ∨ alC P S W P' S' W' = 1 ∨ alC P S W P' S' W' = 2 := by
  unfold alC
  split
  · split
    · exact .inl rfl
    · exact .inr (.inr rfl)
  · exact .inr (.inl rfl)
theorem ac_len (P S W P' S' W' : List Int) : (acP P S W P' S' W').length ≤ 1048576 ∧ (acS P S W P' S' W').length ≤ 1048576 ∧ (acW P S W P' S' W').length ≤ 1048576 := by
  by_cases h : acC P S W P' S' W' = 0
  · have h0 : alC P S W P' S' W' = 0 := by
      rcases al_codes P S W P' S' W' with e | e | e
      · exact e
      · rw [acC, e] at h; simp at h
      · rw [acC, e] at h; simp at h
    obtain ⟨n, hC⟩ := clB_true (al_zero h0).1
    have hn := hC.hi
    refine ⟨by rw [acP, if_pos h, hC.p]; omega, by rw [acS, if_pos h, hC.s]; omega, by rw [acW, if_pos h, adL_len, hC.w]; omega⟩
  · have h2 := ac_no (C := acC P S W P' S' W') rfl h
    rw [h2.1, h2.2.1, h2.2.2]; simp

set_option maxRecDepth 100000 in
set_option maxHeartbeats 4000000 in
theorem implAdd_any (a b c a' b' c' : Value) (P S W P' S' W' : List Int) (w : World) (h : ReadC w w.heap.size a b c P S W) (h' : ReadC w w.heap.size a' b' c' P' S' W') (hP : P.length ≤ 1048576) (hS : S.length ≤ 1048576) (hW : W.length ≤ 1048576) (hP' : P'.length ≤ 1048576) (hS' : S'.length ≤ 1048576) (hW' : W'.length ≤ 1048576) (hwp : ∀ z ∈ P, (Lit.int .i64 z).wf = true) (hws : ∀ z ∈ S, (Lit.int .i64 z).wf = true) (hwp' : ∀ z ∈ P', (Lit.int .i64 z).wf = true) (hws' : ∀ z ∈ S', (Lit.int .i64 z).wf = true) :
    Calls Try.prog 31 #[.agg #[a, b, c], .agg #[a', b', c']] w (AnsCC w (acP P S W P' S' W') (acS P S W P' S' W') (acW P S W P' S' W') (acC P S W P' S' W')) := by
  obtain ⟨W0, HE⟩ : ∃ V, V = ((w.alloc (.cells #[a, b, c] 28)).alloc (.cells #[a', b', c'] 28)).alloc (.cells #[.slice none 0 0, .slice none 0 0, .slice none 0 0] 28) := ⟨_, rfl⟩
  have hb0 : Below w.heap.size w W0 := by rw [HE]; exact ((below_box2 _ _).alloc (by simp) _).alloc (by simp; omega) _
  have hx : CBox W0 w.heap.size a b c := by rw [HE]; exact ((CBox.new w a b c 28).alloc _).alloc _
  have hy : CBox W0 (w.heap.size + 1) a' b' c' := by
    have := CBox.new (w.alloc (.cells #[a, b, c] 28)) a' b' c' 28
    rw [World.size_alloc] at this
    rw [HE]; exact this.alloc _
  have hz : CBox W0 (w.heap.size + 2) (.slice none 0 0) (.slice none 0 0) (.slice none 0 0) := by
    have := CBox.new ((w.alloc (.cells #[a, b, c] 28)).alloc (.cells #[a', b', c'] 28)) (.slice none 0 0) (.slice none 0 0) (.slice none 0 0) 28
    rw [World.size_alloc, World.size_alloc] at this
    rw [HE]; exact this
  have HZ0 : Hid (W0.heap.size = w.heap.size + 3) := Lib.hid (by rw [HE]; simp)
  have HR := Lib.hid ((h.below hb0).more hb0.size)
  have HR' := Lib.hid ((h'.below hb0).more hb0.size)
  have HB := Lib.hid hb0
  have HEQ := Lib.hid HE
  have HX := Lib.hid hx
  have HY := Lib.hid hy
  have HZ := Lib.hid hz
  have HWP := Lib.hid hwp; have HWS := Lib.hid hws; have HWP' := Lib.hid hwp'; have HWS' := Lib.hid hws'
  have x0 := hx.c0; have x1 := hx.c1; have x2 := hx.c2; have x6 := hx.lt
  have y0 := hy.c0; have y1 := hy.c1; have y2 := hy.c2; have y6 := hy.lt
  obtain ⟨A0, k0, rfl⟩ : ∃ A k, a = .slice A P.length k := by obtain ⟨A, k, e, _⟩ := h.1; exact ⟨A, k, e⟩
  obtain ⟨A1, k1, rfl⟩ : ∃ A k, b = .slice A S.length k := by obtain ⟨A, k, e, _⟩ := h.2.1; exact ⟨A, k, e⟩
  obtain ⟨A2, k2, rfl⟩ : ∃ A k, c = .slice A W.length k := by obtain ⟨A, k, e, _⟩ := h.2.2; exact ⟨A, k, e⟩
  obtain ⟨B2, l2, rfl⟩ : ∃ A k, c' = .slice A W'.length k := by obtain ⟨A, k, e, _⟩ := h'.2.2; exact ⟨A, k, e⟩
  clear h h' hb0 hx hy hz HE hwp hws hwp' hws'
  have HCC := Lib.hid (checkAlike_any _ _ _ _ _ _ P S W P' S' W' W0 HR.out HR'.out hP hS hW hP' hS' hW' HWP.out HWS.out HWP'.out HWS'.out)
  by_cases h0 : alC P S W P' S' W' = 0
  rotate_left
  · have hcd : acC P S W P' S' W' = alC P S W P' S' W' := by rw [acC, if_neg h0]
    rcases al_codes P S W P' S' W' with hne | hne | hne
    · exact absurd hne h0
    all_goals
      rw [hne] at HCC hcd
      have HK := Lib.hid hcd; have HN := Lib.hid (ac_no hcd (by decide))
      clear hne h0 hcd
      go_enter Try.func31, Try.ntmps31
      go_wp2_with fail
      rw [← HEQ.out]
      refine HCC.out.mono ?_
      rintro e w1 ⟨rfl, hb1⟩
      have hZ1 := HZ.out.below hb1
      have p0 := hZ1.c0; have p1 := hZ1.c1; have p2 := hZ1.c2; have p3 := hZ1.f0; have p4 := hZ1.f1; have p5 := hZ1.f2; have p6 := hZ1.lt
      have HZ1 := Lib.hid hZ1
      have HB1 := Lib.hid (HB.out.trans (hb1.mono HB.out.size))
      clear hb1 hZ1
      go_wp2_with fail
      have cr := CBox.set3 HZ1.out (.slice none 0 0) (.slice none 0 0) (.slice none 0 0)
      have cr0 := cr.c0; have cr1 := cr.c1; have cr2 := cr.c2
      first
        | (refine bodyPost_ret (v := .tuple #[.agg #[.slice none 0 0, .slice none 0 0, .slice none 0 0], .int .i64 1]) (by simp [results, Try.results31, go_sem, cr0, cr1, cr2]; done) rfl ?_
           exact AnsCC.noneC (HN.out.1) (HN.out.2.1) (HN.out.2.2) (HK.out.symm) (Below.set3 HB1.out (by omega) _ _ _))
        | (refine bodyPost_ret (v := .tuple #[.agg #[.slice none 0 0, .slice none 0 0, .slice none 0 0], .int .i64 2]) (by simp [results, Try.results31, go_sem, cr0, cr1, cr2]; done) rfl ?_
           exact AnsCC.noneC (HN.out.1) (HN.out.2.1) (HN.out.2.2) (HK.out.symm) (Below.set3 HB1.out (by omega) _ _ _))
  obtain ⟨hc1, hc2, rfl, rfl⟩ := al_zero h0
  obtain ⟨n, hC⟩ := clB_true hc1
  obtain ⟨n', hC'⟩ := clB_true hc2
  obtain rfl : n = n' := hC.p.symm.trans hC'.p
  have HC := Lib.hid hC
  have HC' := Lib.hid hC'
  have H0 := Lib.hid h0
  rw [h0] at HCC
  have hWl := hC.w
  have hWl' := hC'.w
  have HWL := Lib.hid hWl
  have HWL' := Lib.hid hWl'
  have hn := hC.hi
  have hn1 := hC.lo
  have hW24 : W.length ≤ 24 := by rw [hWl]; exact hn
  have hWn1 : 1 ≤ W.length := by rw [hWl]; exact hn1
  have hV24 : W'.length ≤ 24 := by rw [hWl']; exact hn
  have hVn1 : 1 ≤ W'.length := by rw [hWl']; exact hn1
  have HEL : Hid (W'.length = W.length) := Lib.hid (hWl'.trans hWl.symm)
  have HWT := Lib.hid HC.out.wt
  have HWT' := Lib.hid HC'.out.wt
  obtain ⟨g9, o9, rfl, HE9, hg9⟩ := cells_of HR'.out.2.2 rfl hVn1
  clear h0 hc1 hc2 hC hC' hWl hWl' hn hn1
  go_enter Try.func31, Try.ntmps31
  go_wp2_with fail
  rw [← HEQ.out]
  refine HCC.out.mono ?_
  rintro e w1 ⟨rfl, hb1⟩
  have hX1 := HX.out.below hb1; have hY1 := HY.out.below hb1; have hZ1 := HZ.out.below hb1
  have u0 := hX1.c0; have u1 := hX1.c1; have u2 := hX1.c2; have u6 := hX1.lt
  have HB1 := Lib.hid (HB.out.trans (hb1.mono HB.out.size))
  have HR1 := Lib.hid ((HR.out.below hb1).more hb1.size)
  have HCE : Hid (∀ k, k < W'.length → w1.cell? ⟨g9, o9 + k, none⟩ = some (.int .i64 (W'[k]?.getD 0))) := Lib.hid fun k hk => by rw [hb1.cell (p := ⟨g9, o9 + k, none⟩) hg9]; exact HE9.out k hk
  have hg1 : g9 < w1.heap.size := Nat.lt_of_lt_of_le hg9 hb1.size
  have HSW : Hid (w.heap.size + 3 ≤ w1.heap.size) := Lib.hid (by rw [← HZ0.out]; exact hb1.size)
  have HX1 := Lib.hid hX1; have HY1 := Lib.hid hY1; have HZ1 := Lib.hid hZ1
  clear hb1 hX1 hY1 hZ1 x0 x1 x2 x6 y0 y1 y2 y6
  go_wp2_with fail
  refine (clone_any _ W w1 w1.heap.size HR1.out.2.2 (by omega) (Nat.le_refl _)).mono ?_
  rintro e w2 ⟨v2, rfl, ho2, hb2⟩
  obtain ⟨A4, c4, rfl⟩ := own_form ho2.1
  obtain ⟨d, rfl, hd1, hd2, _, _⟩ := own_at ho2 rfl (show 0 < W.length by omega)
  have HW2 : Hid (OwnI w2 w1.heap.size w2.heap.size (.slice (some ⟨d, 0, none⟩) W.length c4) (fnL (adJ W W' 0) W.length)) := Lib.hid (by rw [adJ_zero, fnL_self rfl]; exact ho2)
  have HB2 := Lib.hid hb2
  have hY2 := HY1.out.below hb2
  have v0 := hY2.c0; have v1 := hY2.c1; have v2 := hY2.c2; have v6 := hY2.lt
  have hs2 := hb2.size
  clear ho2 hb2 hY2 u0 u1 u2 u6
  go_wp2_with fail
  clear v0 v1 v2 v6
  go_loopw [23] (fun vi wr => ∃ (k : Nat), k ≤ W'.length ∧ vi = .int .i64 k ∧ Hid (OwnI wr w1.heap.size w2.heap.size (.slice (some ⟨d, 0, none⟩) W.length c4) (fnL (adJ W W' k) W.length)) ∧ Hid (Below w1.heap.size w1 wr)) (fun vi _ => W'.length - (intOf vi).toNat)
  case atStart => exact ⟨0, by omega, rfl, HW2, HB2⟩
  case round =>
    obtain ⟨k, hk, rfl, how, hb⟩ := hrel
    by_cases hkn : k < W'.length
    · have hkn2 : (k : Int) < (W'.length : Int) := by omega
      have hkW : k < W.length := by rw [← HEL.out]; exact hkn
      have hkW2 : (k : Int) < (W.length : Int) := by omega
      have d9 := (hb.out.cell (p := ⟨g9, o9 + k, none⟩) hg1).trans (HCE.out k hkn)
      obtain ⟨d', e', _, _, hcd, hfd⟩ := own_at how.out (fnL_len _ _) hkW
      simp only [Option.some.injEq, Addr.mk.injEq, and_true] at e'
      subst e'
      rw [fnL_at hkW, adJ_at] at hcd
      have hx := wtOK_at (i := k) HWT.out
      have hy := wtOK_at (i := k) HWT'.out
      have HST := Lib.hid (adJ_set W W' k)
      obtain ⟨x, hxe⟩ : ∃ x, W[k]?.getD 0 = x := ⟨_, rfl⟩
      obtain ⟨y, hye⟩ : ∃ x, W'[k]?.getD 0 = x := ⟨_, rfl⟩
      rw [hxe] at hcd hx HST
      rw [hye] at d9 hy HST
      have p1 : IntKind.i64.wrap (x + y) = x + y := IntWalk.i64_in _ (by omega)
      have HNW : Hid (OwnI (wr.setCell ⟨d, k, none⟩ (.int .i64 (x + y))) w1.heap.size w2.heap.size (.slice (some ⟨d, 0, none⟩) W.length c4) (fnL (adJ W W' (k + 1)) W.length)) := Lib.hid (by
        have h6 := own_store (j := k) how.out (fnL_len _ _) (x + y)
        rw [fnL_put, HST.out] at h6
        exact h6)
      have HBN : Hid (Below w1.heap.size w1 (wr.setCell ⟨d, k, none⟩ (.int .i64 (x + y)))) := Lib.hid (hb.out.setCell (p := ⟨d, k, none⟩) hd1 _)
      clear hxe hye how
      go_wp2_with fail
      go_roundw
      case rel => exact ⟨k + 1, by omega, by go_num, HNW, HBN⟩
      case measure => simp [intOf]; omega
    · have hke : k = W'.length := by omega
      subst hke
      have hkk : ¬ (W'.length : Int) < (W'.length : Int) := by omega
      have HOW : Hid (OwnI wr w1.heap.size w2.heap.size (.slice (some ⟨d, 0, none⟩) W.length c4) (adL W W' W.length)) := Lib.hid (by
        have h9 := how.out
        rw [HEL.out, adJ_end] at h9
        exact h9)
      have hXr := HX1.out.below hb.out
      have u0 := hXr.c0; have u1 := hXr.c1; have u2 := hXr.c2; have u6 := hXr.lt
      have HZr := Lib.hid (HZ1.out.below hb.out)
      have HRr := Lib.hid ((HR1.out.below hb.out).more hb.out.size)
      have HBr := Lib.hid (HB1.out.trans (hb.out.mono HB1.out.size))
      have hsz : w2.heap.size ≤ wr.heap.size := own_size HOW.out
      have hsw := HSW.out
      clear how hb hXr
      go_wp2_with fail
      obtain ⟨bb, hbb⟩ : ∃ x, wtOK (adL W W' W.length) = x := ⟨_, rfl⟩
      have HBB := Lib.hid hbb
      refine (withW_any _ _ _ (some ⟨d, 0, none⟩) W.length c4 P S W (adL W W' W.length) wr HRr.out HOW.out.reads hP hS (by rw [adL_len]; exact hW) bb hbb).mono ?_
      rintro e w3 ⟨hyy, hnn, hb3⟩
      have hZ3 := HZr.out.below hb3
      have q0 := hZ3.c0; have q1 := hZ3.c1; have q2 := hZ3.c2; have q3 := hZ3.f0; have q4 := hZ3.f1; have q5 := hZ3.f2; have q6 := hZ3.lt
      have HZ3 := Lib.hid hZ3
      have HOV := Lib.hid (HOW.out.stay hb3)
      have HB3 := Lib.hid (HBr.out.trans (hb3.mono HBr.out.size))
      have hs3 := hb3.size
      clear hb3 hZ3 hbb u0 u1 u2 u6
      cases bb
      · obtain rfl := hnn rfl
        have hk : acC P S W P S W' = 3 := ac_big H0.out rfl HBB.out
        have HK := Lib.hid hk; have HN := Lib.hid (ac_no hk (by decide)); clear hk hyy hnn
        go_wp2_with fail
        have cr := CBox.set3 HZ3.out (.slice none 0 0) (.slice none 0 0) (.slice none 0 0)
        have cr0 := cr.c0; have cr1 := cr.c1; have cr2 := cr.c2
        refine bodyPost_ret (v := .tuple #[.agg #[.slice none 0 0, .slice none 0 0, .slice none 0 0], .int .i64 3]) (by simp [results, Try.results31, go_sem, cr0, cr1, cr2]) rfl ?_
        exact AnsCC.noneC (HN.out.1) (HN.out.2.1) (HN.out.2.2) (HK.out.symm) (Below.set3 HB3.out (by omega) _ _ _)
      · obtain ⟨a9, b9, rfl, hw3⟩ := hyy rfl
        obtain ⟨m, hm1, hm2, oa, ob⟩ := hw3
        obtain ⟨A5, c5, rfl⟩ := own_form oa.1
        obtain ⟨A6, c6, rfl⟩ := own_form ob.1
        have HY4 := Lib.hid (ac_yes H0.out rfl HBB.out)
        have OA := Lib.hid oa; have OB := Lib.hid ob
        clear hyy hnn oa ob
        go_wp2_with fail
        have cr := CBox.set3 HZ3.out (.slice A5 P.length c5) (.slice A6 S.length c6) (.slice (some ⟨d, 0, none⟩) W.length c4)
        have cr0 := cr.c0; have cr1 := cr.c1; have cr2 := cr.c2
        refine bodyPost_ret (v := .tuple #[.agg #[.slice A5 P.length c5, .slice A6 S.length c6, .slice (some ⟨d, 0, none⟩) W.length c4], .int .i64 0]) (by simp [results, Try.results31, go_sem, cr0, cr1, cr2]) rfl ?_
        exact AnsCC.someC (l := w1.heap.size) (k := wr.heap.size) (m := m) HY4.out.2.1.symm HY4.out.2.2.1.symm HY4.out.2.2.2.symm HY4.out.1.symm (by omega) (by omega) (by omega) (by rw [size_set3]; omega) (OwnI.newC3 OA.out (by omega) _ _ _) (by rw [size_set3]; exact OwnI.newC3 OB.out (by omega) _ _ _) (OwnI.newC3 (HOV.out.raise hsz (by omega)) (by omega) _ _ _) (Below.set3 HB3.out (by omega) _ _ _)


set_option maxRecDepth 100000 in
set_option maxHeartbeats 4000000 in
theorem specAdd_any (a b c a' b' c' : Value) (P S W P' S' W' : List Int) (w : World) (h : ReadC w w.heap.size a b c P S W) (h' : ReadC w w.heap.size a' b' c' P' S' W') (hP : P.length ≤ 1048576) (hS : S.length ≤ 1048576) (hW : W.length ≤ 1048576) (hP' : P'.length ≤ 1048576) (hS' : S'.length ≤ 1048576) (hW' : W'.length ≤ 1048576) (hwp : ∀ z ∈ P, (Lit.int .i64 z).wf = true) (hws : ∀ z ∈ S, (Lit.int .i64 z).wf = true) (hwp' : ∀ z ∈ P', (Lit.int .i64 z).wf = true) (hws' : ∀ z ∈ S', (Lit.int .i64 z).wf = true) :
    Calls Try.prog 30 #[.agg #[a, b, c], .agg #[a', b', c']] w (AnsCC w (acP P S W P' S' W') (acS P S W P' S' W') (acW P S W P' S' W') (acC P S W P' S' W')) := by
  obtain ⟨W0, HE⟩ : ∃ V, V = ((w.alloc (.cells #[a, b, c] 28)).alloc (.cells #[a', b', c'] 28)).alloc (.cells #[.slice none 0 0, .slice none 0 0, .slice none 0 0] 28) := ⟨_, rfl⟩
  have hb0 : Below w.heap.size w W0 := by rw [HE]; exact ((below_box2 _ _).alloc (by simp) _).alloc (by simp; omega) _
  have hx : CBox W0 w.heap.size a b c := by rw [HE]; exact ((CBox.new w a b c 28).alloc _).alloc _
  have hy : CBox W0 (w.heap.size + 1) a' b' c' := by
    have := CBox.new (w.alloc (.cells #[a, b, c] 28)) a' b' c' 28
    rw [World.size_alloc] at this
    rw [HE]; exact this.alloc _
  have hz : CBox W0 (w.heap.size + 2) (.slice none 0 0) (.slice none 0 0) (.slice none 0 0) := by
    have := CBox.new ((w.alloc (.cells #[a, b, c] 28)).alloc (.cells #[a', b', c'] 28)) (.slice none 0 0) (.slice none 0 0) (.slice none 0 0) 28
    rw [World.size_alloc, World.size_alloc] at this
    rw [HE]; exact this
  have HZ0 : Hid (W0.heap.size = w.heap.size + 3) := Lib.hid (by rw [HE]; simp)
  have HR := Lib.hid ((h.below hb0).more hb0.size)
  have HR' := Lib.hid ((h'.below hb0).more hb0.size)
  have HB := Lib.hid hb0
  have HEQ := Lib.hid HE
  have HX := Lib.hid hx
  have HY := Lib.hid hy
  have HZ := Lib.hid hz
  have HWP := Lib.hid hwp; have HWS := Lib.hid hws; have HWP' := Lib.hid hwp'; have HWS' := Lib.hid hws'
  have x0 := hx.c0; have x1 := hx.c1; have x2 := hx.c2; have x6 := hx.lt
  have y0 := hy.c0; have y1 := hy.c1; have y2 := hy.c2; have y6 := hy.lt
  obtain ⟨A0, k0, rfl⟩ : ∃ A k, a = .slice A P.length k := by obtain ⟨A, k, e, _⟩ := h.1; exact ⟨A, k, e⟩
  obtain ⟨A1, k1, rfl⟩ : ∃ A k, b = .slice A S.length k := by obtain ⟨A, k, e, _⟩ := h.2.1; exact ⟨A, k, e⟩
  obtain ⟨A2, k2, rfl⟩ : ∃ A k, c = .slice A W.length k := by obtain ⟨A, k, e, _⟩ := h.2.2; exact ⟨A, k, e⟩
  obtain ⟨B2, l2, rfl⟩ : ∃ A k, c' = .slice A W'.length k := by obtain ⟨A, k, e, _⟩ := h'.2.2; exact ⟨A, k, e⟩
  clear h h' hb0 hx hy hz HE hwp hws hwp' hws'
  have HCC := Lib.hid (l07Alike_any _ _ _ _ _ _ P S W P' S' W' W0 HR.out HR'.out hP hS hW hP' hS' hW' HWP.out HWS.out HWP'.out HWS'.out)
  by_cases h0 : alC P S W P' S' W' = 0
  rotate_left
  · have hcd : acC P S W P' S' W' = alC P S W P' S' W' := by rw [acC, if_neg h0]
    rcases al_codes P S W P' S' W' with hne | hne | hne
    · exact absurd hne h0
    all_goals
      rw [hne] at HCC hcd
      have HK := Lib.hid hcd; have HN := Lib.hid (ac_no hcd (by decide))
      clear hne h0 hcd
      go_enter Try.func30, Try.ntmps30
      go_wp2_with fail
      rw [← HEQ.out]
      refine HCC.out.mono ?_
      rintro e w1 ⟨rfl, hb1⟩
      have hZ1 := HZ.out.below hb1
      have p0 := hZ1.c0; have p1 := hZ1.c1; have p2 := hZ1.c2; have p3 := hZ1.f0; have p4 := hZ1.f1; have p5 := hZ1.f2; have p6 := hZ1.lt
      have HZ1 := Lib.hid hZ1
      have HB1 := Lib.hid (HB.out.trans (hb1.mono HB.out.size))
      clear hb1 hZ1
      go_wp2_with fail
      have cr := CBox.set3 HZ1.out (.slice none 0 0) (.slice none 0 0) (.slice none 0 0)
      have cr0 := cr.c0; have cr1 := cr.c1; have cr2 := cr.c2
      first
        | (refine bodyPost_ret (v := .tuple #[.agg #[.slice none 0 0, .slice none 0 0, .slice none 0 0], .int .i64 1]) (by simp [results, Try.results30, go_sem, cr0, cr1, cr2]; done) rfl ?_
           exact AnsCC.noneC (HN.out.1) (HN.out.2.1) (HN.out.2.2) (HK.out.symm) (Below.set3 HB1.out (by omega) _ _ _))
        | (refine bodyPost_ret (v := .tuple #[.agg #[.slice none 0 0, .slice none 0 0, .slice none 0 0], .int .i64 2]) (by simp [results, Try.results30, go_sem, cr0, cr1, cr2]; done) rfl ?_
           exact AnsCC.noneC (HN.out.1) (HN.out.2.1) (HN.out.2.2) (HK.out.symm) (Below.set3 HB1.out (by omega) _ _ _))
  obtain ⟨hc1, hc2, rfl, rfl⟩ := al_zero h0
  obtain ⟨n, hC⟩ := clB_true hc1
  obtain ⟨n', hC'⟩ := clB_true hc2
  obtain rfl : n = n' := hC.p.symm.trans hC'.p
  have HC := Lib.hid hC
  have HC' := Lib.hid hC'
  have H0 := Lib.hid h0
  rw [h0] at HCC
  have hWl := hC.w
  have hWl' := hC'.w
  have HWL := Lib.hid hWl
  have HWL' := Lib.hid hWl'
  have hn := hC.hi
  have hn1 := hC.lo
  have hW24 : W.length ≤ 24 := by rw [hWl]; exact hn
  have hWn1 : 1 ≤ W.length := by rw [hWl]; exact hn1
  have hV24 : W'.length ≤ 24 := by rw [hWl']; exact hn
  have hVn1 : 1 ≤ W'.length := by rw [hWl']; exact hn1
  have HEL : Hid (W'.length = W.length) := Lib.hid (hWl'.trans hWl.symm)
  have HWT := Lib.hid HC.out.wt
  have HWT' := Lib.hid HC'.out.wt
  obtain ⟨g9, o9, rfl, HE9, hg9⟩ := cells_of HR'.out.2.2 rfl hVn1
  clear h0 hc1 hc2 hC hC' hWl hWl' hn hn1
  obtain ⟨g8, o8, rfl, HE8, hg8⟩ := cells_of HR.out.2.2 rfl hWn1
  go_enter Try.func30, Try.ntmps30
  go_wp2_with fail
  rw [← HEQ.out]
  refine HCC.out.mono ?_
  rintro e w1 ⟨rfl, hb1⟩
  have hX1 := HX.out.below hb1; have hY1 := HY.out.below hb1; have hZ1 := HZ.out.below hb1
  have HB1 := Lib.hid (HB.out.trans (hb1.mono HB.out.size))
  have HR1 := Lib.hid ((HR.out.below hb1).more hb1.size)
  have HCE : Hid (∀ k, k < W'.length → w1.cell? ⟨g9, o9 + k, none⟩ = some (.int .i64 (W'[k]?.getD 0))) := Lib.hid fun k hk => by rw [hb1.cell (p := ⟨g9, o9 + k, none⟩) hg9]; exact HE9.out k hk
  have HCF : Hid (∀ k, k < W.length → w1.cell? ⟨g8, o8 + k, none⟩ = some (.int .i64 (W[k]?.getD 0))) := Lib.hid fun k hk => by rw [hb1.cell (p := ⟨g8, o8 + k, none⟩) hg8]; exact HE8.out k hk
  have hg91 : g9 < w1.heap.size := Nat.lt_of_lt_of_le hg9 hb1.size
  have hg81 : g8 < w1.heap.size := Nat.lt_of_lt_of_le hg8 hb1.size
  have HSW : Hid (w.heap.size + 3 ≤ w1.heap.size) := Lib.hid (by rw [← HZ0.out]; exact hb1.size)
  have HX1 := Lib.hid hX1; have HY1 := Lib.hid hY1; have HZ1 := Lib.hid hZ1
  obtain ⟨i0, hi0, hy0, hy1, hy2⟩ := info_parts int_info
  have HS0 : Hid (OwnI (w1.alloc (.cells #[] 2)) w1.heap.size (w1.alloc (.cells #[] 2)).heap.size (.slice (some ⟨w1.heap.size, 0, none⟩) 0 0) (adL W W' 0)) := Lib.hid (OwnI.mk' (n := 0) (by
    have := World.ownsRow_lit (e := 2) (size := 1) w1 #[] 0 (Nat.le_refl _) (by simp [maxLen]) rfl
    simpa [Own, adL, fnL] using this))
  have HBS : Hid (Below w1.heap.size w1 (w1.alloc (.cells #[] 2))) := Lib.hid (below_box2 _ _)
  clear hb1 hX1 hY1 hZ1 x0 x1 x2 x6 y0 y1 y2 y6
  go_wp2_with fail
  go_loopw [7, 8] (fun vo vi wr => ∃ (k : Nat) (A : Option Addr) (c' : Nat), k ≤ W.length ∧ vo = .slice A k c' ∧ vi = .int .i64 k ∧ Hid (OwnI wr w1.heap.size wr.heap.size (.slice A k c') (adL W W' k)) ∧ Hid (Below w1.heap.size w1 wr)) (fun _ vi _ => W.length - (intOf vi).toNat)
  case atStart => exact ⟨0, _, _, by omega, rfl, rfl, HS0, HBS⟩
  case round =>
    obtain ⟨k, A4, c4, hk, rfl, rfl, how, hb⟩ := hrel
    have hX := HX1.out.below hb.out; have hY := HY1.out.below hb.out
    have u0 := hX.c0; have u1 := hX.c1; have u2 := hX.c2; have u6 := hX.lt
    have v0 := hY.c0; have v1 := hY.c1; have v2 := hY.c2; have v6 := hY.lt
    clear hX hY
    by_cases hkn : k < W.length
    · have hkn2 : (k : Int) < (W.length : Int) := by omega
      have hkV : k < W'.length := by rw [HEL.out]; exact hkn
      have hkV2 : (k : Int) < (W'.length : Int) := by omega
      have d9 := (hb.out.cell (p := ⟨g9, o9 + k, none⟩) hg91).trans (HCE.out k hkV)
      have d8 := (hb.out.cell (p := ⟨g8, o8 + k, none⟩) hg81).trans (HCF.out k hkn)
      have hx := wtOK_at (i := k) HWT.out
      have hy := wtOK_at (i := k) HWT'.out
      have HNX := Lib.hid (ad_next W W' k)
      obtain ⟨x, hxe⟩ : ∃ x, W[k]?.getD 0 = x := ⟨_, rfl⟩
      obtain ⟨y, hye⟩ : ∃ x, W'[k]?.getD 0 = x := ⟨_, rfl⟩
      rw [hxe] at d8 hx HNX
      rw [hye] at d9 hy HNX
      have p1 : IntKind.i64.wrap (x + y) = x + y := IntWalk.i64_in _ (by omega)
      obtain ⟨X, HXe⟩ : ∃ X, X = (adL W W' k).map (Value.int .i64) := ⟨_, rfl⟩
      have hown := how.out.1
      rw [adL_len, ← HXe] at hown
      have HOW : Hid (Own wr w1.heap.size (.slice A4 k c4) k X) := Lib.hid hown
      have HXE := Lib.hid HXe
      have hbs1 := hb.out.size
      have hsw := HSW.out
      have ha0 : w.heap.size < wr.heap.size := by omega
      have ha1 : w.heap.size + 1 < wr.heap.size := by omega
      have ha8 : g8 < wr.heap.size := by omega
      have ha9 : g9 < wr.heap.size := by omega
      clear hown HXe hxe hye how
      go_wp2_with fail
      refine wp_region_held_drew (S := fun w' => w'.cell? ⟨w.heap.size, 2, none⟩ = some (.slice (some ⟨g8, o8, none⟩) W.length k2) ∧ w'.cell? ⟨w.heap.size + 1, 2, none⟩ = some (.slice (some ⟨g9, o9, none⟩) W'.length l2) ∧ w'.cell? ⟨g8, o8 + k, none⟩ = some (.int .i64 x) ∧ w'.cell? ⟨g9, o9 + k, none⟩ = some (.int .i64 y)) (by kernel_rfl) ⟨u2, v2, d8, d9⟩ (fun hHeld => ?_)
      refine takeY 0 _ (v := ?_) rfl rfl (by kernel_rfl) (by kernel_rfl) (by kernel_rfl) (fun _ _ _ h => h) (by kernel_rfl) ?_ (by assumption) ?_
      rotate_left 1
      · intro w hSw; (try dsimp only at hSw); go_simp; (try with_reducible rfl)
      try simp only [Act.put, List.setIfInBounds_toArray, List.set_cons_zero, List.set_cons_succ]
      refine takeY 1 _ (v := ?_) rfl rfl (by kernel_rfl) (by kernel_rfl) (by kernel_rfl) (fun _ _ _ h => h) (by kernel_rfl) ?_ (by assumption) ?_
      rotate_left 1
      · intro w hSw; (try dsimp only at hSw); go_simp; (try with_reducible rfl)
      try simp only [Act.put, List.setIfInBounds_toArray, List.set_cons_zero, List.set_cons_succ]
      refine takeY 2 _ (v := ?_) rfl rfl (by kernel_rfl) (by kernel_rfl) (by kernel_rfl) (fun _ _ _ h => h) (by kernel_rfl) ?_ (by assumption) ?_
      rotate_left 1
      · intro w hSw; (try dsimp only at hSw); go_simp; (try with_reducible rfl)
      try simp only [Act.put, List.setIfInBounds_toArray, List.set_cons_zero, List.set_cons_succ]
      refine takeY 3 _ (v := ?_) rfl rfl (by kernel_rfl) (by kernel_rfl) (by kernel_rfl) (fun _ _ _ h => h) (by kernel_rfl) ?_ (by assumption) ?_
      rotate_left 1
      · intro w hSw; (try dsimp only at hSw); go_simp; (try with_reducible rfl)
      try simp only [Act.put, List.setIfInBounds_toArray, List.set_cons_zero, List.set_cons_succ]
      refine takeY 4 _ (v := ?_) rfl rfl (by kernel_rfl) (by kernel_rfl) (by kernel_rfl) (fun _ _ _ h => h) (by kernel_rfl) ?_ (by assumption) ?_
      rotate_left 1
      · intro w hSw; (try dsimp only at hSw); go_simp; (try with_reducible rfl)
      try simp only [Act.put, List.setIfInBounds_toArray, List.set_cons_zero, List.set_cons_succ]
      refine takeY 5 _ (v := ?_) rfl rfl (by kernel_rfl) (by kernel_rfl) (by kernel_rfl) (fun _ _ _ h => h) (by kernel_rfl) ?_ (by assumption) ?_
      rotate_left 1
      · intro w hSw; (try dsimp only at hSw); go_simp; (try with_reducible rfl)
      try simp only [Act.put, List.setIfInBounds_toArray, List.set_cons_zero, List.set_cons_succ]
      refine takeY 6 _ (v := ?_) rfl rfl (by kernel_rfl) (by kernel_rfl) (by kernel_rfl) (fun _ _ _ h => h) (by kernel_rfl) ?_ (by assumption) ?_
      rotate_left 1
      · intro w hSw; (try dsimp only at hSw); go_simp; (try with_reducible rfl)
      try simp only [Act.put, List.setIfInBounds_toArray, List.set_cons_zero, List.set_cons_succ]
      refine takeY 7 _ (v := ?_) rfl rfl (by kernel_rfl) (by kernel_rfl) (by kernel_rfl) (fun _ _ _ h => h) (by kernel_rfl) ?_ (by assumption) ?_
      rotate_left 1
      · intro w hSw; (try dsimp only at hSw); go_simp; (try with_reducible rfl)
      try simp only [Act.put, List.setIfInBounds_toArray, List.set_cons_zero, List.set_cons_succ]
      refine takeY 8 _ (v := ?_) rfl rfl (by kernel_rfl) (by kernel_rfl) (by kernel_rfl) (fun _ _ _ h => h) (by kernel_rfl) ?_ (by assumption) ?_
      rotate_left 1
      · intro w hSw; (try dsimp only at hSw); go_simp; (try with_reducible rfl)
      try simp only [Act.put, List.setIfInBounds_toArray, List.set_cons_zero, List.set_cons_succ]
      refine takeY 9 _ (v := ?_) rfl rfl (by kernel_rfl) (by kernel_rfl) (by kernel_rfl) (fun _ _ _ h => h) (by kernel_rfl) ?_ (by assumption) ?_
      rotate_left 1
      · intro w hSw; (try dsimp only at hSw); go_simp; (try with_reducible rfl)
      try simp only [Act.put, List.setIfInBounds_toArray, List.set_cons_zero, List.set_cons_succ]
      refine takeY 10 _ (v := ?_) rfl rfl (by kernel_rfl) (by kernel_rfl) (by kernel_rfl) (fun _ _ _ h => h) (by kernel_rfl) ?_ (by assumption) ?_
      rotate_left 1
      · intro w hSw; (try dsimp only at hSw); go_simp; (try with_reducible rfl)
      try simp only [Act.put, List.setIfInBounds_toArray, List.set_cons_zero, List.set_cons_succ]
      refine takeY 11 _ (v := ?_) rfl rfl (by kernel_rfl) (by kernel_rfl) (by kernel_rfl) (fun _ _ _ h => h) (by kernel_rfl) ?_ (by assumption) ?_
      rotate_left 1
      · intro w hSw; (try dsimp only at hSw); go_simp; (try with_reducible rfl)
      try simp only [Act.put, List.setIfInBounds_toArray, List.set_cons_zero, List.set_cons_succ]
      refine wpAnyH_ready (rs := [12]) (by kernel_rfl) (by simp) ?_
      refine AllReadyH.cons rfl (fun K hK => ?_) AllReadyH.nil
      go_simp
      refine hK.out _ (_) ⟨((below_box wr (.cells #[.int .i64 (x + y)] 2)).cell (p := ⟨w.heap.size, 2, none⟩) ha0).trans u2, ((below_box wr (.cells #[.int .i64 (x + y)] 2)).cell (p := ⟨w.heap.size + 1, 2, none⟩) ha1).trans v2, ((below_box wr (.cells #[.int .i64 (x + y)] 2)).cell (p := ⟨g8, o8 + k, none⟩) ha8).trans d8, ((below_box wr (.cells #[.int .i64 (x + y)] 2)).cell (p := ⟨g9, o9 + k, none⟩) ha9).trans d9⟩ (fun hHeld => ?_)
      clear hK K
      try simp only [Act.put, List.setIfInBounds_toArray, List.set_cons_zero, List.set_cons_succ]
      refine wpAnyH_ready (rs := [13]) (by kernel_rfl) (by simp) ?_
      refine AllReadyH.cons rfl (fun K hK => ?_) AllReadyH.nil
      try simp only [List.getElem_toArray, List.getElem_cons_succ, List.getElem_cons_zero]
      rw [if_pos (by kernel_rfl)]
      refine wp_append_lies _ (.tmp 26) (.tmp 38) 22 ?gb2 (w1.heap.size) 2 i0 (.int .i64 0) 1 8 Try.underlying22 hi0 hy0 hy1 hy2 rfl (by decide) (.slice A4 k c4) k (X) ?gb3 ?gb4 ⟨wr.heap.size, 0, none⟩ 1 1 [.int .i64 (x + y)] ?gb5 rfl ?gb6 ?gb7 (by decide) ?gb8 ?gb9 ?gb10 _ rfl ?gb11
      case gb2 => rfl
      case gb3 => rfl
      case gb5 => rfl
      case gb4 => exact World.ownsRow.alloc HOW.out _
      case gb6 => exact World.news_of_block (cs := #[.int .i64 (x + y)]) (t := 2) (fr := (0, 0)) (heap_alloc_new wr _)
      case gb7 => simp [Value.oneCell']
      case gb8 => simp only [maxLen]; omega
      case gb9 => omega
      case gb10 => show w1.heap.size ≤ (World.alloc wr _).heap.size; simp; omega
      intro g2 cap2 w2 hown2 hgrow hg2 _
      have hgb : Below w1.heap.size (wr.alloc (.cells #[.int .i64 (x + y)] 2)).drew w2 := Below.grown (Below.refl _ _) hgrow (by show w1.heap.size ≤ (wr.alloc _).heap.size; simp; omega) (fun k hk => (Own.lt HOW.out k hk).1)
      have hbx : Below w1.heap.size wr w2 := (below_drewN ((Below.refl _ _).alloc (by omega) _) 1).trans hgb
      have HB2 := Lib.hid (hb.out.trans hbx)
      have HO2 : Hid (OwnI w2 w1.heap.size w2.heap.size (.slice (some ⟨g2, 0, none⟩) (k + 1) cap2) (adL W W' (k + 1))) := Lib.hid (by rw [HNX.out]; exact OwnI.mk' (n := k + 1) (by rw [List.map_append, ← HXE.out]; exact hown2))
      have s0 : w2.cell? ⟨w.heap.size, 2, none⟩ = some (.slice (some ⟨g8, o8, none⟩) W.length k2) := (hbx.cell (p := ⟨w.heap.size, 2, none⟩) (by show w.heap.size < _; omega)).trans u2
      have s1 : w2.cell? ⟨w.heap.size + 1, 2, none⟩ = some (.slice (some ⟨g9, o9, none⟩) W'.length l2) := (hbx.cell (p := ⟨w.heap.size + 1, 2, none⟩) (by show w.heap.size + 1 < _; omega)).trans v2
      have s2 : w2.cell? ⟨g8, o8 + k, none⟩ = some (.int .i64 x) := (hbx.cell (p := ⟨g8, o8 + k, none⟩) (by show g8 < _; omega)).trans d8
      have s3 : w2.cell? ⟨g9, o9 + k, none⟩ = some (.int .i64 y) := (hbx.cell (p := ⟨g9, o9 + k, none⟩) (by show g9 < _; omega)).trans d9
      refine hK.out _ _ ⟨s0, s1, s2, s3⟩ (fun hHeld => ?_)
      clear hK K hgrow hgb hown2
      try simp only [Act.put, List.setIfInBounds_toArray, List.set_cons_zero, List.set_cons_succ]
      refine takeY 14 _ (v := ?_) rfl rfl (by kernel_rfl) (by kernel_rfl) (by kernel_rfl) (fun _ _ _ h => h) (by kernel_rfl) ?_ (by assumption) ?_
      rotate_left 1
      · intro w hSw; (try dsimp only at hSw); go_simp; (try with_reducible rfl)
      try simp only [Act.put, List.setIfInBounds_toArray, List.set_cons_zero, List.set_cons_succ]
      refine wpAnyH_done (by kernel_rfl) ?_ _
      go_wp2_with fail
      go_roundw
      case rel => exact ⟨k + 1, some ⟨g2, 0, none⟩, cap2, by omega, rfl, by go_num, HO2, HB2⟩
      case measure => simp [intOf]; omega
    · have hke : k = W.length := by omega
      subst hke
      have HOW := Lib.hid how.out
      have HRr := Lib.hid ((HR1.out.below hb.out).more hb.out.size)
      have HBr := Lib.hid hb.out
      have HZr := Lib.hid (HZ1.out.below hb.out)
      have hsz : w1.heap.size ≤ wr.heap.size := hb.out.size
      have hsw := HSW.out
      clear how hb
      go_wp2_with fail
      refine (l07With_any _ _ _ A4 W.length c4 P S W wr HRr.out hP hS).mono ?_
      rintro e w4 ⟨a9, b9, rfl, hw4, hb4⟩
      obtain ⟨m, hm1, hm2, oa, ob⟩ := hw4
      obtain ⟨A5, c5, rfl⟩ := own_form oa.1
      obtain ⟨A6, c6, rfl⟩ := own_form ob.1
      have HR4 : Hid (ReadC w4 w4.heap.size (.slice A5 P.length c5) (.slice A6 S.length c6) (.slice A4 W.length c4) P S (adL W W' W.length)) := Lib.hid ⟨oa.reads, ob.reads, (HOW.out.stay hb4).reads⟩
      have HOA := Lib.hid oa; have HOB := Lib.hid ob
      have HOV := Lib.hid (HOW.out.stay hb4)
      have HZ4 := Lib.hid (HZr.out.below hb4)
      have HB4 := Lib.hid (HB1.out.trans ((HBr.out.trans (hb4.mono HBr.out.size)).mono HB1.out.size))
      have hs4 := hb4.size
      clear hb4 oa ob u0 u1 u2 u6 v0 v1 v2 v6 HOW
      go_wp2_with fail
      obtain ⟨bb, hbb⟩ : ∃ x, wtOK (adL W W' W.length) = x := ⟨_, rfl⟩
      have HBB := Lib.hid hbb
      have HCP : Hid (ClP P S W.length) := Lib.hid (by rw [HWL.out]; exact HC.out.toClP)
      refine (l07Fit_any (.slice A5 P.length c5) (.slice A6 S.length c6) (.slice A4 W.length c4) P S (adL W W' W.length) w4 HR4.out hP hS (by rw [adL_len]; exact hW) bb ((clB_with (W := W) HCP.out (adL_len W W' W.length)).trans hbb)).mono ?_
      rintro e w5 ⟨rfl, hb5⟩
      have hZ5 := HZ4.out.below hb5
      have q0 := hZ5.c0; have q1 := hZ5.c1; have q2 := hZ5.c2; have q3 := hZ5.f0; have q4 := hZ5.f1; have q5 := hZ5.f2; have q6 := hZ5.lt
      have HZ5 := Lib.hid hZ5
      have OA := Lib.hid (HOA.out.stay hb5)
      have OB := Lib.hid (HOB.out.stay hb5 |>.raise hb5.size (Nat.le_refl _))
      have OV := Lib.hid (HOV.out.stay hb5)
      have HB5 := Lib.hid (HB4.out.trans (hb5.mono HB4.out.size))
      have hs5 := hb5.size
      clear hbb hb5 hZ5
      cases bb
      · have hk : acC P S W P S W' = 3 := ac_big H0.out rfl HBB.out
        have HK := Lib.hid hk; have HN := Lib.hid (ac_no hk (by decide)); clear hk
        go_wp2_with fail
        have cr := (CBox.set3 HZ5.out (.slice none 0 0) (.slice none 0 0) (.slice none 0 0)).alloc (.cells #[.slice none 0 0, .slice none 0 0, .slice none 0 0] 28)
        have cr0 := cr.c0; have cr1 := cr.c1; have cr2 := cr.c2
        refine bodyPost_ret (v := .tuple #[.agg #[.slice none 0 0, .slice none 0 0, .slice none 0 0], .int .i64 3]) (by simp [results, Try.results30, go_sem, cr0, cr1, cr2]) rfl ?_
        exact AnsCC.noneC (HN.out.1) (HN.out.2.1) (HN.out.2.2) (HK.out.symm) ((Below.set3 HB5.out (by omega) _ _ _).alloc (by rw [size_set3]; omega) _)
      · have HY4 := Lib.hid (ac_yes H0.out rfl HBB.out)
        have cr := (CBox.set3 HZ5.out (.slice A5 P.length c5) (.slice A6 S.length c6) (.slice A4 W.length c4)).alloc (.cells #[.slice A5 P.length c5, .slice A6 S.length c6, .slice A4 W.length c4] 28)
        have cr0 := cr.c0; have cr1 := cr.c1; have cr2 := cr.c2
        go_wp2_with fail
        refine bodyPost_ret (v := .tuple #[.agg #[.slice A5 P.length c5, .slice A6 S.length c6, .slice A4 W.length c4], .int .i64 0]) (by simp [results, Try.results30, go_sem, cr0, cr1, cr2]) rfl ?_
        obtain ⟨w6, hw6⟩ : ∃ V, V = (((w5.setCell ⟨w.heap.size + 2, 0, none⟩ (.slice A5 P.length c5)).setCell ⟨w.heap.size + 2, 1, none⟩ (.slice A6 S.length c6)).setCell ⟨w.heap.size + 2, 2, none⟩ (.slice A4 W.length c4)) := ⟨_, rfl⟩
        have hz6 : w6.heap.size = w5.heap.size := by rw [hw6, size_set3]
        have oa6 : OwnI w6 wr.heap.size m (.slice A5 P.length c5) P := by rw [hw6]; exact OwnI.newC3 OA.out (by omega) _ _ _
        have ob6 : OwnI w6 m w5.heap.size (.slice A6 S.length c6) S := by rw [hw6]; exact OwnI.newC3 OB.out (by omega) _ _ _
        have ov6 : OwnI w6 w1.heap.size wr.heap.size (.slice A4 W.length c4) (adL W W' W.length) := by rw [hw6]; exact OwnI.newC3 OV.out (by omega) _ _ _
        have hB6 : Below w.heap.size w w6 := by rw [hw6]; exact Below.set3 HB5.out (by omega) _ _ _
        rw [← hw6]
        have hb7 : Below w6.heap.size w6 (w6.alloc (.cells #[.slice A5 P.length c5, .slice A6 S.length c6, .slice A4 W.length c4] 28)) := below_box2 _ _
        have hz7 : (w6.alloc (.cells #[.slice A5 P.length c5, .slice A6 S.length c6, .slice A4 W.length c4] 28)).heap.size = w6.heap.size + 1 := by simp
        have ob7 : OwnI (w6.alloc (.cells #[.slice A5 P.length c5, .slice A6 S.length c6, .slice A4 W.length c4] 28)) m (w6.alloc (.cells #[.slice A5 P.length c5, .slice A6 S.length c6, .slice A4 W.length c4] 28)).heap.size (.slice A6 S.length c6) S := (ob6.stay hb7).raise (by omega) (Nat.le_refl _)
        exact AnsCC.someC (l := w1.heap.size) (k := wr.heap.size) (m := m) HY4.out.2.1.symm HY4.out.2.2.1.symm HY4.out.2.2.2.symm HY4.out.1.symm (by omega) (by omega) (by omega) (by omega) (oa6.stay hb7) ob7 (ov6.stay hb7) (hB6.trans (hb7.mono (by omega)))


theorem specAddClusters_any (a b c : Value) (P S W : List Int) (a' b' c' : Value) (P' S' W' : List Int) (w : World) (h : ReadC w w.heap.size a b c P S W) (hP : P.length ≤ 1048576) (hS : S.length ≤ 1048576) (hW : W.length ≤ 1048576) (hwp : ∀ z ∈ P, (Lit.int .i64 z).wf = true) (hws : ∀ z ∈ S, (Lit.int .i64 z).wf = true) (hww : ∀ z ∈ W, (Lit.int .i64 z).wf = true)
    (h' : ReadC w w.heap.size a' b' c' P' S' W') (hP' : P'.length ≤ 1048576) (hS' : S'.length ≤ 1048576) (hW' : W'.length ≤ 1048576) (hwp' : ∀ z ∈ P', (Lit.int .i64 z).wf = true) (hws' : ∀ z ∈ S', (Lit.int .i64 z).wf = true) (hww' : ∀ z ∈ W', (Lit.int .i64 z).wf = true) :
    Calls Try.prog 30 #[.agg #[a, b, c], .agg #[a', b', c']] w (AnsCC w (acP P S W P' S' W') (acS P S W P' S' W') (acW P S W P' S' W') (acC P S W P' S' W')) := specAdd_any a b c a' b' c' P S W P' S' W' w h h' hP hS hW hP' hS' hW' hwp hws hwp' hws'
theorem implAddClusters_any (a b c : Value) (P S W : List Int) (a' b' c' : Value) (P' S' W' : List Int) (w : World) (h : ReadC w w.heap.size a b c P S W) (hP : P.length ≤ 1048576) (hS : S.length ≤ 1048576) (hW : W.length ≤ 1048576) (hwp : ∀ z ∈ P, (Lit.int .i64 z).wf = true) (hws : ∀ z ∈ S, (Lit.int .i64 z).wf = true) (hww : ∀ z ∈ W, (Lit.int .i64 z).wf = true)
    (h' : ReadC w w.heap.size a' b' c' P' S' W') (hP' : P'.length ≤ 1048576) (hS' : S'.length ≤ 1048576) (hW' : W'.length ≤ 1048576) (hwp' : ∀ z ∈ P', (Lit.int .i64 z).wf = true) (hws' : ∀ z ∈ S', (Lit.int .i64 z).wf = true) (hww' : ∀ z ∈ W', (Lit.int .i64 z).wf = true) :
    Calls Try.prog 31 #[.agg #[a, b, c], .agg #[a', b', c']] w (AnsCC w (acP P S W P' S' W') (acS P S W P' S' W') (acW P S W P' S' W') (acC P S W P' S' W')) := implAdd_any a b c a' b' c' P S W P' S' W' w h h' hP hS hW hP' hS' hW' hwp hws hwp' hws'
end Go.Proofs.Ytjobfjgphcaoeaa
