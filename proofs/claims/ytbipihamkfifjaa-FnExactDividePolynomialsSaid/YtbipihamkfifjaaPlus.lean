/- Sums of polynomials in the model: contracts of spec.l02Plus and spec.l02Fit. Conditions: stated at each theorem. -/
import Derived.Test.YtbipihamkfifjaaTrim
import Derived.RegionTactic
import Derived.BigRegion
namespace Go.Proofs.Ytbipihamkfifjaa
open Go.ChangeShapes Go.WideShapes Go.ChangeAt Go.RowKit
set_option linter.unusedVariables false

theorem vint_eq {a b : Int} (h : a = b) : Value.int .i64 a = Value.int .i64 b := by rw [h]
/-- p with zeros behind it, of length n. -/
def padL (p : List Int) (n : Nat) : List Int := p ++ List.replicate (n - p.length) 0
theorem padL_getD (p : List Int) (n k : Nat) : (padL p n).getD k 0 = p.getD k 0 := by
  unfold padL
  simp only [List.getD_eq_getElem?_getD]
  by_cases h : k < p.length
  · rw [List.getElem?_append_left h]
  · rw [List.getElem?_append_right (by omega), List.getElem?_eq_none (show p.length ≤ k by omega), List.getElem?_replicate]
    split <;> rfl
/-- The sum after j rounds. -/
def plusAt (p q : List Int) (k : Int) (j : Nat) : List Int := (List.range (max p.length q.length)).map fun i => if i < j then p.getD i 0 + k * q.getD i 0 else p.getD i 0
theorem plusAt_zero (p q : List Int) (k : Int) : plusAt p q k 0 = padL p (max p.length q.length) := by
  apply List.ext_getElem
  · simp [plusAt, padL]; omega
  · intro i h1 h2
    have := padL_getD p (max p.length q.length) i
    rw [List.getD_eq_getElem?_getD, List.getElem?_eq_getElem h2] at this
    simp [plusAt] at this ⊢
    exact this.symm
theorem plusAt_all (p q : List Int) (k : Int) {j : Nat} (h : q.length = j) : plusAt p q k j = plusL p q k := by
  unfold plusAt plusL
  apply List.map_congr_left
  intro i hi
  split
  · rfl
  · have : q.getD i 0 = 0 := by simp [List.getD, List.getElem?_eq_none (show q.length ≤ i by omega)]
    rw [this]; simp
theorem plusAt_set (p q : List Int) (k : Int) {j : Nat} (h : j < q.length) : plusAt p q k (j + 1) = (plusAt p q k j).set j (p.getD j 0 + k * q.getD j 0) := by
  apply List.ext_getElem
  · simp [plusAt]
  · intro i h1 h2
    simp only [plusAt, List.getElem_map, List.getElem_range, List.getElem_set]
    by_cases e : j = i
    · subst e; simp
    · by_cases e2 : i < j
      · simp [e, e2, show i < j + 1 by omega]
      · simp [e, e2, show ¬ i < j + 1 by omega]
theorem plusAt_len (p q : List Int) (k : Int) (j : Nat) : (plusAt p q k j).length = max p.length q.length := by simp [plusAt]
theorem plusAt_at (p q : List Int) (k : Int) {j : Nat} (h : j < q.length) : (plusAt p q k j)[j]? = some (p.getD j 0) := by
  have : j < max p.length q.length := by omega
  simp [plusAt, this]

theorem OwnI.drewN {w : World} {lo hi : Nat} {v : Value} {zs : List Int} (h : OwnI w lo hi v zs) (m : Nat) : OwnI (w.drewN m) lo hi v zs := h.kept (Kept.drewN _ _ _ _)

/-- A sum's value and its bounds, as the walk asks for them. -/
theorem pad_more (p : List Int) {j : Nat} (h : p.length ≤ j) : padL p (j + 1) = padL p j ++ [0] := by
  unfold padL
  rw [show j + 1 - p.length = (j - p.length) + 1 by omega, List.replicate_succ', List.append_assoc]
theorem pad_len (p : List Int) {j : Nat} (h : p.length ≤ j) : (padL p j).length = j := by simp [padL]; omega
theorem pad_start (p : List Int) : padL p p.length = p := by simp [padL]
theorem mul_in {s z : Int} (hs : s = 1 ∨ s = -1) (h : -1000000000000 ≤ z ∧ z ≤ 1000000000000) : -1000000000000 ≤ s * z ∧ s * z ≤ 1000000000000 := by
  rcases hs with rfl | rfl <;> omega

theorem plus_wf {p q : List Int} {s : Int} (hk : s = 1 ∨ s = -1) (hp : ∀ i, -1000000000000 ≤ p.getD i 0 ∧ p.getD i 0 ≤ 1000000000000) (hq : ∀ i, -1000000000000 ≤ q.getD i 0 ∧ q.getD i 0 ≤ 1000000000000) : ∀ z ∈ plusL p q s, (Lit.int .i64 z).wf = true := by
  intro z hz
  unfold plusL at hz
  obtain ⟨i, _, rfl⟩ := List.mem_map.1 hz
  have h1 := hp i
  have h2 := mul_in hk (hq i)
  exact WalkArith.wf_i64 (by omega)

set_option maxRecDepth 100000 in
theorem l02Plus_any (v u : Value) (p q : List Int) (s : Int) (w : World) (B : Nat) (hp : ReadI w B v p) (hq : ReadI w B u q) (hB : B ≤ w.heap.size) (hn : p.length ≤ 2001) (hm : q.length ≤ 2001)
    (hk : s = 1 ∨ s = -1) (hpc : ∀ i, -1000000000000 ≤ p.getD i 0 ∧ p.getD i 0 ≤ 1000000000000) (hqc : ∀ i, -1000000000000 ≤ q.getD i 0 ∧ q.getD i 0 ≤ 1000000000000) :
    Calls Try.prog 83 #[v, u, .int .i64 s] w fun e w' => ∃ v', e = .returned v' ∧ OwnI w' w.heap.size w'.heap.size v' (trimL (plusL p q s)) ∧ Below w.heap.size w w' := by
  obtain ⟨m, A, c, rfl, hr, HL⟩ := hq.split
  rw [HL.out] at hm
  have H0 := Lib.hid hr
  have HP := Lib.hid hp
  have HK := Lib.hid hk
  have PC := Lib.hid hpc
  have QC := Lib.hid hqc
  have S0 := Lib.hid hB
  clear hr hq hp hk hpc hqc hB
  obtain ⟨i0, hi0, hz0, hz1, hz2⟩ := info_parts int_info
  go_enter Try.func83, Try.ntmps83
  go_wp2_with (go_at_call 106; refine (l01Own_any _ p _ B HP.out (by omega) S0.out).mono ?_; rintro e w1 ⟨v1, rfl, ho, hb⟩; obtain ⟨A1, c1, rfl⟩ := own_form ho.1; have O1 := Lib.hid ho; have B1 := Lib.hid hb; clear ho hb)
  go_loopw [7] (fun vo wr => ∃ (j : Nat) (A : Option Addr) (c : Nat), p.length ≤ j ∧ j ≤ 2001 ∧ Hid (j ≤ max p.length m) ∧ vo = .slice A j c ∧ Hid (Own wr w.heap.size (.slice A j c) j ((padL p j).map (.int .i64))) ∧ Hid (Below w.heap.size w wr)) (fun vo _ => 2001 - lenOf vo)
  case atStart => exact ⟨p.length, A1, c1, Nat.le_refl _, hn, Lib.hid (by omega), rfl, Lib.hid (by rw [pad_start]; exact O1.out.1), B1⟩
  case round =>
    obtain ⟨j, A2, c2, hj1, hj2, hj3, rfl, ho, hb⟩ := hrel
    by_cases hlt : j < m
    · have hj5 : j + 1 ≤ 2001 := by omega
      go_wp2_with (at_builtin; refine wpList_append_own _ rfl _ _ 29 rfl w.heap.size 2 i0 (.int .i64 0) 1 8 Try.underlying29 hi0 hz0 hz1 hz2 rfl ?_ _ j ((padL p j).map (.int .i64)) rfl (World.ownsRow.alloc ho.out _) ⟨wr.heap.size, 0, none⟩ 1 1 [.int .i64 0] rfl rfl ?_ ?_ ?_ ?_ ?_ ?_; (decide); (exact World.news_of_block (cs := #[.int .i64 0]) (t := 2) (fr := (0, 0)) (heap_alloc_new wr _)); (simp [Value.oneCell']); (simp [maxLen]; omega); (omega); (have := hb.out.size; simp; omega); intro v1 w1 hown1 hgrow _; obtain ⟨A1, c1, rfl⟩ := own_form (n := j + 1) hown1; have HO1 : Hid (Own w1 w.heap.size (.slice A1 (j + 1) c1) (j + 1) ((padL p (j + 1)).map (.int .i64))) := Lib.hid (by rw [pad_more p hj1, List.map_append]; exact hown1); have hb1 : Hid (Below w.heap.size w w1) := Lib.hid ((hb.out.alloc hb.out.size _).grown hgrow (by have := hb.out.size; simp; omega) (fun k hk => (Own.lt ho.out k hk).1)); clear hown1 hgrow)
      go_roundw
      case rel => exact ⟨j + 1, A1, c1, by omega, by omega, Lib.hid (by omega), rfl, HO1, hb1⟩
      case measure => simp [lenOf]; omega
    · have hj4 : Hid (j = max p.length m) := Lib.hid (by have := hj3.out; omega)
      have O3 : Hid (OwnI wr w.heap.size wr.heap.size (.slice A2 j c2) (plusAt p q s 0)) := Lib.hid (by rw [plusAt_zero, HL.out, ← hj4.out]; exact OwnI.mk' ho.out)
      clear hj3 ho
      obtain ⟨wo, rfl⟩ : ∃ wo : World, wo = wr := ⟨_, rfl⟩
      go_wp2
      go_loopw [8] (fun vi wq => ∃ (i : Nat), i ≤ m ∧ vi = .int .i64 i ∧ Hid (OwnI wq w.heap.size wo.heap.size (.slice A2 j c2) (plusAt p q s i)) ∧ Hid (Below w.heap.size w wq)) (fun vi _ => m - (intOf vi).toNat)
      case atStart => exact ⟨0, by omega, rfl, O3, hb⟩
      case round =>
        obtain ⟨i, hi, rfl, ho2, hb2⟩ := hrel
        by_cases hlt : i < m
        · obtain ⟨a, rfl, hab, hcell⟩ := H0.out.2 i hlt
          have hcq : wr.cell? (a.add i) = some (.int .i64 (q[i]?.getD 0)) := by rw [hb2.out.cell (by rw [add_block]; have := S0.out; omega)]; simpa using hcell
          have hlen : (plusAt p q s i).length = j := by rw [plusAt_len, HL.out, hj4.out]
          have hjm : m ≤ j := by have := hj4.out; omega
          obtain ⟨g, rfl, hg1, hg2, hcell1, hfz⟩ := own_cell ho2.out hlen (show i < j by omega) (plusAt_at p q s (by rw [HL.out]; exact hlt))
          have hp1 := PC.out i
          have hq1 := mul_in HK.out (QC.out i)
          rw [getD_opt] at hp1 hq1 hcell1
          have HL2 := Lib.hid hlen
          have HS : Hid (plusAt p q s (i + 1) = (plusAt p q s i).set i (p[i]?.getD 0 + s * q[i]?.getD 0)) := Lib.hid (by rw [plusAt_set p q s (by rw [HL.out]; exact hlt), getD_opt, getD_opt])
          clear hcell hlen
          go_wp2
          go_region
          all_goals
            go_wp2
            go_roundw
            case rel => exact ⟨i + 1, by omega, by go_num, Lib.hid (by rw [HS.out]; exact own_store ho2.out HL2.out _), Lib.hid (hb2.out.setCell (p := ⟨g, i, none⟩) hg1 _).drew⟩
            case measure => simp [intOf]; omega
        · obtain rfl : i = m := by omega
          have O4 : Hid (OwnI wr w.heap.size wo.heap.size (.slice A2 j c2) (plusL p q s)) := Lib.hid (by rw [← plusAt_all p q s HL.out]; exact ho2.out)
          clear ho2
          go_wp2_with (go_at_call 107; refine (l02Trim_any _ (plusL p q s) wr wr.heap.size (O4.out.reads) (by rw [plusL_len, HL.out]; omega) (Nat.le_refl _) (plus_wf HK.out PC.out QC.out)).mono ?_; rintro e w2 ⟨v', rfl, ho, hb3⟩)
          go_ret
          exact ⟨_, rfl, own_less ho (by exact hb2.out.size), hb2.out.trans (hb3.mono hb2.out.size)⟩

theorem fit_yes {L : List Int} (h : polyB L = true) : fitL L = L ∧ fitC L = 0 := by simp [fitL, fitC, h]
theorem fit_no {L : List Int} (h : polyB L = false) : fitL L = [] ∧ fitC L = 3 := by simp [fitL, fitC, h]
theorem wf_trim {L : List Int} (h : ∀ z ∈ L, (Lit.int .i64 z).wf = true) : ∀ z ∈ trimL L, (Lit.int .i64 z).wf = true := fun z hz => h z (List.mem_of_mem_take hz)
theorem fit_mk {w : World} {lo : Nat} {L zs : List Int} {C D : Int} {v : Value} (h1 : zs = L) (h2 : D = C) (ho : OwnI w lo w.heap.size v zs) :
    ∃ v', Ending.returned (.tuple #[v, .int .i64 D]) = .returned (.tuple #[v', .int .i64 C]) ∧ OwnI w lo w.heap.size v' L ∧ w = w := by
  subst h1; subst h2; exact ⟨_, rfl, ho, rfl⟩
theorem l02Fit_any (v : Value) (L : List Int) (w : World) (lo : Nat) (h : OwnI w lo w.heap.size v L) (hn : L.length ≤ 1048576) (hw : ∀ z ∈ L, (Lit.int .i64 z).wf = true) :
    Calls Try.prog 82 #[v] w fun e w' => ∃ v', e = .returned (.tuple #[v', .int .i64 (fitC L)]) ∧ OwnI w' lo w'.heap.size v' (fitL L) ∧ w = w' := by
  have HO := Lib.hid h
  have HW := Lib.hid hw
  clear h hw
  cases hp : polyB L
  · have E1 := Lib.hid (fit_no hp)
    have HP := Lib.hid hp
    clear hp
    go_enter Try.func82, Try.ntmps82
    go_wp2_with (go_at_call 75; refine (l02Is_no _ L _ _ HO.out.reads hn HW.out HP.out).mono ?_; rintro e w' ⟨rfl, rfl⟩)
    go_ret2
    exact fit_mk E1.out.1.symm E1.out.2.symm (OwnI.nil _ _)
  · have E1 := Lib.hid (fit_yes hp)
    have HP := Lib.hid hp
    clear hp
    go_enter Try.func82, Try.ntmps82
    go_wp2_with (go_at_call 75; refine (l02Is_yes _ L _ _ HO.out.reads hn HW.out HP.out).mono ?_; rintro e w' ⟨rfl, rfl⟩)
    go_ret2
    exact fit_mk E1.out.1.symm E1.out.2.symm HO.out

theorem add_first {p q : List Int} {s : Int} (h : polyB p = false) : addA p q s = [] ∧ addC p q s = 1 := by simp [addA, addC, h]
theorem add_second {p q : List Int} {s : Int} (h : polyB q = false) : addA p q s = [] ∧ addC p q s = 1 := by simp [addA, addC, h]
theorem add_both {p q : List Int} {s : Int} (h : polyB p = true) (k : polyB q = true) : addA p q s = fitL (trimL (plusL p q s)) ∧ addC p q s = fitC (trimL (plusL p q s)) := by simp [addA, addC, h, k]
theorem trim_len_le (L : List Int) : (trimL L).length ≤ L.length := by rw [trimL_len]; exact trimN_le _ _
theorem fit_len (L : List Int) : (fitL L).length ≤ 2001 := by
  unfold fitL; split
  · exact polyB_len ‹_›
  · simp
theorem addA_len (p q : List Int) (s : Int) : (addA p q s).length ≤ 1099511627776 := by
  unfold addA; split
  · have := fit_len (trimL (plusL p q s)); omega
  · simp

theorem specAddPolynomials_any (v : Value) (p : List Int) (u : Value) (q : List Int) (w : World) (h0 : ReadI w w.heap.size v p) (hn0 : p.length ≤ 1048576) (hw0 : ∀ z ∈ p, (Lit.int .i64 z).wf = true) (h1 : ReadI w w.heap.size u q) (hn1 : q.length ≤ 1048576) (hw1 : ∀ z ∈ q, (Lit.int .i64 z).wf = true) :
    Calls Try.prog 40 #[v, u] w (AnsIC w (addA p q 1) (addC p q 1)) := by
  have H0 := Lib.hid h0
  have H1 := Lib.hid h1
  have W0 := Lib.hid hw0
  have W1 := Lib.hid hw1
  clear h0 h1 hw0 hw1
  cases hp : polyB p
  · have E1 := Lib.hid (add_first (q := q) (s := 1) hp)
    have HP := Lib.hid hp
    clear hp
    go_enter Try.func40, Try.ntmps40
    go_wp2_with (go_at_call 75; refine (l02Is_no _ p _ _ H0.out hn0 W0.out HP.out).mono ?_; rintro e w' ⟨rfl, rfl⟩)
    go_ret2
    exact AnsIC.empty E1.out.1.symm E1.out.2.symm (Below.refl _ _)
  cases hq : polyB q
  · have E1 := Lib.hid (add_second (p := p) (s := 1) hq)
    have HP := Lib.hid hp
    have HQ := Lib.hid hq
    clear hp hq
    go_enter Try.func40, Try.ntmps40
    go_wp2_with fail
    refine (l02Is_yes _ p _ _ H0.out hn0 W0.out HP.out).mono ?_
    rintro e w' ⟨rfl, rfl⟩
    go_wp2_with fail
    refine (l02Is_no _ q _ _ H1.out hn1 W1.out HQ.out).mono ?_
    rintro e w' ⟨rfl, rfl⟩
    go_wp2_with fail
    go_ret2
    exact AnsIC.empty E1.out.1.symm E1.out.2.symm (Below.refl _ _)
  · have E1 := Lib.hid (add_both (s := 1) hp hq)
    have HP := Lib.hid hp
    have HQ := Lib.hid hq
    clear hp hq
    go_enter Try.func40, Try.ntmps40
    go_wp2_with fail
    refine (l02Is_yes _ p _ _ H0.out hn0 W0.out HP.out).mono ?_
    rintro e w' ⟨rfl, rfl⟩
    go_wp2_with fail
    refine (l02Is_yes _ q _ _ H1.out hn1 W1.out HQ.out).mono ?_
    rintro e w' ⟨rfl, rfl⟩
    go_wp2_with fail
    refine (l02Plus_any _ _ p q 1 _ _ H0.out H1.out (Nat.le_refl _) (polyB_len HP.out) (polyB_len HQ.out) (by decide) (polyB_co HP.out) (polyB_co HQ.out)).mono ?_
    rintro e w1 ⟨v1, rfl, ho, hb⟩
    have O1 := Lib.hid ho
    have B1 := Lib.hid hb
    clear ho hb
    go_wp2_with fail
    refine (l02Fit_any _ (trimL (plusL p q 1)) _ _ O1.out (by have := trim_len_le (plusL p q 1); rw [plusL_len] at this; omega) (wf_trim (plus_wf (by decide) (polyB_co HP.out) (polyB_co HQ.out)))).mono ?_
    rintro e w2 ⟨v2, rfl, ho, rfl⟩
    have O2 := Lib.hid ho
    clear ho
    go_wp2_with fail
    go_ret2
    exact AnsIC.mk' E1.out.1.symm E1.out.2.symm O2.out B1.out

theorem specSubtractPolynomials_any (v : Value) (p : List Int) (u : Value) (q : List Int) (w : World) (h0 : ReadI w w.heap.size v p) (hn0 : p.length ≤ 1048576) (hw0 : ∀ z ∈ p, (Lit.int .i64 z).wf = true) (h1 : ReadI w w.heap.size u q) (hn1 : q.length ≤ 1048576) (hw1 : ∀ z ∈ q, (Lit.int .i64 z).wf = true) :
    Calls Try.prog 58 #[v, u] w (AnsIC w (addA p q (-1)) (addC p q (-1))) := by
  have H0 := Lib.hid h0
  have H1 := Lib.hid h1
  have W0 := Lib.hid hw0
  have W1 := Lib.hid hw1
  clear h0 h1 hw0 hw1
  cases hp : polyB p
  · have E1 := Lib.hid (add_first (q := q) (s := (-1)) hp)
    have HP := Lib.hid hp
    clear hp
    go_enter Try.func58, Try.ntmps58
    go_wp2_with (go_at_call 75; refine (l02Is_no _ p _ _ H0.out hn0 W0.out HP.out).mono ?_; rintro e w' ⟨rfl, rfl⟩)
    go_ret2
    exact AnsIC.empty E1.out.1.symm E1.out.2.symm (Below.refl _ _)
  cases hq : polyB q
  · have E1 := Lib.hid (add_second (p := p) (s := (-1)) hq)
    have HP := Lib.hid hp
    have HQ := Lib.hid hq
    clear hp hq
    go_enter Try.func58, Try.ntmps58
    go_wp2_with fail
    refine (l02Is_yes _ p _ _ H0.out hn0 W0.out HP.out).mono ?_
    rintro e w' ⟨rfl, rfl⟩
    go_wp2_with fail
    refine (l02Is_no _ q _ _ H1.out hn1 W1.out HQ.out).mono ?_
    rintro e w' ⟨rfl, rfl⟩
    go_wp2_with fail
    go_ret2
    exact AnsIC.empty E1.out.1.symm E1.out.2.symm (Below.refl _ _)
  · have E1 := Lib.hid (add_both (s := (-1)) hp hq)
    have HP := Lib.hid hp
    have HQ := Lib.hid hq
    clear hp hq
    go_enter Try.func58, Try.ntmps58
    go_wp2_with fail
    refine (l02Is_yes _ p _ _ H0.out hn0 W0.out HP.out).mono ?_
    rintro e w' ⟨rfl, rfl⟩
    go_wp2_with fail
    refine (l02Is_yes _ q _ _ H1.out hn1 W1.out HQ.out).mono ?_
    rintro e w' ⟨rfl, rfl⟩
    go_wp2_with fail
    refine (l02Plus_any _ _ p q (-1) _ _ H0.out H1.out (Nat.le_refl _) (polyB_len HP.out) (polyB_len HQ.out) (by decide) (polyB_co HP.out) (polyB_co HQ.out)).mono ?_
    rintro e w1 ⟨v1, rfl, ho, hb⟩
    have O1 := Lib.hid ho
    have B1 := Lib.hid hb
    clear ho hb
    go_wp2_with fail
    refine (l02Fit_any _ (trimL (plusL p q (-1))) _ _ O1.out (by have := trim_len_le (plusL p q (-1)); rw [plusL_len] at this; omega) (wf_trim (plus_wf (by decide) (polyB_co HP.out) (polyB_co HQ.out)))).mono ?_
    rintro e w2 ⟨v2, rfl, ho, rfl⟩
    have O2 := Lib.hid ho
    clear ho
    go_wp2_with fail
    go_ret2
    exact AnsIC.mk' E1.out.1.symm E1.out.2.symm O2.out B1.out

end Go.Proofs.Ytbipihamkfifjaa
