/- Points to which points are proximate, codes, satellites: contracts of ProximatesOf, CodeOf, CountSatellites, the model's and the program's. Conditions: stated at each theorem. -/
import Derived.Test.YtoebbhicffgdgaaPtQ
namespace Go.Proofs.Ytoebbhicffgdgaa
open Go.ChangeShapes Go.WideShapes Go.ChangeAt Go.RowKit Go.Deep
set_option linter.unusedVariables false
set_option linter.unusedSimpArgs false

def prA (zs : List Int) (k : Int) : List (List Int) := if ptC zs k = 0 then prQ (mqL zs k.toNat) k.toNat else []
theorem prA_yes {zs : List Int} {m : Nat} (h : ptC zs (m : Int) = 0) : prA zs (m : Int) = prQ (mqL zs m) m := by unfold prA; rw [if_pos h]; simp
theorem prA_no {zs : List Int} {k C : Int} (h : ptC zs k = C) (hC : C ≠ 0) : prA zs k = [] := by unfold prA; rw [if_neg (by omega)]
theorem sumTo_pr {ms : Nat → Nat} (h : ∀ i, ms i ≤ 400) : ∀ n, sumTo ms n ≤ 400 * n
  | 0 => Nat.le_refl _
  | n + 1 => by
    have := sumTo_pr h n
    have := h n
    show sumTo ms n + ms n ≤ _
    omega
theorem prA_len (zs : List Int) (k : Int) : szTot (prA zs k) ≤ 549755813888 := by
  unfold prA
  split
  · rename_i h
    have hk := (pt_parts h).2
    obtain ⟨m, rfl⟩ : ∃ m : Nat, k = (m : Int) := ⟨k.toNat, by omega⟩
    rw [Int.toNat_natCast]
    unfold szTot
    rw [prQ_len]
    have h1 : ∀ i, lens (prQ (mqL zs m) m) i ≤ 400 := fun i => by
      unfold lens
      by_cases hi : i < m
      · rw [prQ_at hi]
        have := prx_len (m := mqL zs m) m i
        omega
      · have : (prQ (mqL zs m) m).getD i [] = [] := by simp [List.getD, List.getElem?_eq_none (show (prQ (mqL zs m) m).length ≤ i by rw [prQ_len]; omega)]
        rw [this]; simp
    have := sumTo_pr h1 m
    omega
  · decide
/-- How many points behind the first a + 1 ones are satellites. -/
def satN (m : List Int) (n : Nat) : Nat → Int
  | 0 => 0
  | a + 1 => satN m n a + (if cdI m n (a + 1) = 0 then 0 else 1)
theorem satN_le (m : List Int) (n : Nat) : ∀ a, 0 ≤ satN m n a ∧ satN m n a ≤ (a : Int)
  | 0 => by simp [satN]
  | a + 1 => by
    have := satN_le m n a
    show 0 ≤ satN m n a + (if cdI m n (a + 1) = 0 then 0 else 1) ∧ satN m n a + (if cdI m n (a + 1) = 0 then 0 else 1) ≤ _
    split <;> omega
def satA (zs : List Int) (k : Int) : Int := if ptC zs k = 0 then satN (mqL zs k.toNat) k.toNat (k.toNat - 1) else 0
theorem satA_yes {zs : List Int} {m : Nat} (h : ptC zs (m : Int) = 0) : satA zs (m : Int) = satN (mqL zs m) m (m - 1) := by unfold satA; rw [if_pos h]; simp
theorem satA_no {zs : List Int} {k C : Int} (h : ptC zs k = C) (hC : C ≠ 0) : satA zs k = 0 := by unfold satA; rw [if_neg (by omega)]

/-- The program's calls, by their cases. -/
def NoneC (w : World) (C : Int) (e : Ending) (w' : World) : Prop := e = .returned (.tuple #[.slice none 0 0, .int .i64 C]) ∧ Below w.heap.size w w'
theorem none_form {w : World} {lo : Nat} {v : Value} {n : Nat} {xs : List Value} (h : Own w lo v n xs) : True := trivial

set_option maxRecDepth 100000 in
set_option maxHeartbeats 1000000 in
theorem implMultiplicitiesAt_no (v : Value) (zs : List Int) (k C : Int) (w : World) (h : ReadI w w.heap.size v zs) (hn : zs.length ≤ 1048576) (hw : ∀ z ∈ zs, (Lit.int .i64 z).wf = true) (hk : (Lit.int .i64 k).wf = true) (hC : ptC zs k = C) (hC0 : C ≠ 0) :
    Calls Try.prog 25 #[.agg #[v], .int .i64 k] w (AnsIC w [] C) := by
  rw [← mqA_no hC hC0, ← hC]
  exact implMultiplicitiesAt_any v zs k w h hn hw hk
theorem implMultiplicitiesAt_yes (v : Value) (zs : List Int) (m : Nat) (w : World) (h : ReadI w w.heap.size v zs) (hn : zs.length ≤ 1048576) (hw : ∀ z ∈ zs, (Lit.int .i64 z).wf = true) (hk : (Lit.int .i64 (m : Int)).wf = true) (hC : ptC zs (m : Int) = 0) :
    Calls Try.prog 25 #[.agg #[v], .int .i64 m] w fun e w' => ∃ A c, e = .returned (.tuple #[.slice A m c, .int .i64 0]) ∧ OwnI w' w.heap.size w'.heap.size (.slice A m c) (mqL zs m) ∧ Below w.heap.size w w' := by
  refine (implMultiplicitiesAt_any v zs (m : Int) w h hn hw hk).mono ?_
  rw [hC, mqA_yes hC]
  rintro e w' ⟨v1, rfl, ho, hb⟩
  obtain ⟨A, c, rfl⟩ := ho.form (mq_len zs m)
  exact ⟨A, c, rfl, ho, hb⟩

set_option maxRecDepth 100000 in
set_option maxHeartbeats 1000000 in
theorem implProximatesOf_any (v : Value) (zs : List Int) (k : Int) (w : World) (h : ReadI w w.heap.size v zs) (hn : zs.length ≤ 1048576) (hw : ∀ z ∈ zs, (Lit.int .i64 z).wf = true) (hk : (Lit.int .i64 k).wf = true) :
    Calls Try.prog 21 #[.agg #[v], .int .i64 k] w (AnsQC w (prA zs k) (ptC zs k)) := by
  obtain ⟨n, A, c, rfl, hr, HL, _, hnc, HF, hcm⟩ := h.split2
  obtain ⟨W0, HE⟩ : ∃ W, W = w.alloc (.cells #[.slice A n c] 26) := ⟨_, rfl⟩
  have hb0 : Below w.heap.size w W0 := by rw [HE]; exact below_box _ _
  have hq0 : BoxI W0 w.heap.size (.slice A n c) := by rw [HE]; exact BoxI.new _ _ _
  have H0 := Lib.hid ((h.below hb0).more hb0.size)
  have HNN := Lib.hid hn
  have HWW := Lib.hid hw
  have HEQ := Lib.hid HE
  clear h hr HE HF hn hw
  have HKW := Lib.hid hk
  rcases pt_cases zs k with ⟨hp, hc⟩ | ⟨hp, hk2, hc⟩ | ⟨m, hp, rfl, hm1, hm2, hc⟩
  · have HC := Lib.hid hc
    clear hc hp hk
    go_enter Try.func21, Try.ntmps21
    go_wp2_with fail
    rw [← HEQ.out]
    refine (implMultiplicitiesAt_no _ zs k 1 _ H0.out HNN.out HWW.out HKW.out HC.out (by omega)).mono ?_
    rintro e w1 ⟨v1, rfl, ho1, hb1⟩
    obtain ⟨A1, c1, rfl⟩ := own_form ho1.1
    go_wp2_with fail
    go_ret2
    exact AnsQC.none' (prA_no HC.out (by omega)).symm HC.out.symm (hb0.trans (hb1.mono hb0.size))
  · have HC := Lib.hid hc
    clear hc hp hk hk2
    go_enter Try.func21, Try.ntmps21
    go_wp2_with fail
    rw [← HEQ.out]
    refine (implMultiplicitiesAt_no _ zs k 2 _ H0.out HNN.out HWW.out HKW.out HC.out (by omega)).mono ?_
    rintro e w1 ⟨v1, rfl, ho1, hb1⟩
    obtain ⟨A1, c1, rfl⟩ := own_form ho1.1
    go_wp2_with fail
    go_ret2
    exact AnsQC.none' (prA_no HC.out (by omega)).symm HC.out.symm (hb0.trans (hb1.mono hb0.size))
  · have HC := Lib.hid hc
    have HP := Lib.hid hp
    have HM := Lib.hid (mq_ok hp m)
    clear hc hp hk
    go_enter Try.func21, Try.ntmps21
    go_wp2_with fail
    rw [← HEQ.out]
    refine (implMultiplicitiesAt_yes _ zs m _ H0.out HNN.out HWW.out HKW.out HC.out).mono ?_
    rintro e w1 ⟨A1, c1, rfl, ho1, hb1⟩
    have hs0 := hb0.size
    have HO1 := Lib.hid ho1
    have B1 := Lib.hid (hb0.trans (hb1.mono hb0.size))
    clear hb1 hb0 HEQ ho1
    go_wp2_with fail
    refine (proximatesAt_any _ (mqL zs m) m _ (by have := HO1.out.reads; exact this) HM.out hm2).mono ?_
    rintro e w2 ⟨A2, c2, rfl, ho2, hb2⟩
    have HO2 := Lib.hid ho2
    have B2 := Lib.hid (B1.out.trans (hb2.mono B1.out.size))
    have hs1 := B1.out.size
    clear ho2 hb2
    go_wp2_with fail
    go_ret2
    exact AnsQC.some' (prA_yes HC.out).symm HC.out.symm (ownQ_less HO2.out hs1) B2.out

theorem implProximatesOf_no (v : Value) (zs : List Int) (k C : Int) (w : World) (h : ReadI w w.heap.size v zs) (hn : zs.length ≤ 1048576) (hw : ∀ z ∈ zs, (Lit.int .i64 z).wf = true) (hk : (Lit.int .i64 k).wf = true) (hC : ptC zs k = C) (hC0 : C ≠ 0) :
    Calls Try.prog 21 #[.agg #[v], .int .i64 k] w fun e w' => ∃ A c, e = .returned (.tuple #[.slice A 0 c, .int .i64 C]) ∧ Below w.heap.size w w' := by
  refine (implProximatesOf_any v zs k w h hn hw hk).mono ?_
  rw [prA_no hC hC0, hC]
  rintro e w' ⟨v1, rfl, ho, hb⟩
  obtain ⟨us, ls, hs, h1, _⟩ := ho
  obtain ⟨A, c, rfl, _⟩ := row_form h1
  exact ⟨A, c, rfl, hb⟩
theorem implProximatesOf_yes (v : Value) (zs : List Int) (m : Nat) (w : World) (h : ReadI w w.heap.size v zs) (hn : zs.length ≤ 1048576) (hw : ∀ z ∈ zs, (Lit.int .i64 z).wf = true) (hk : (Lit.int .i64 (m : Int)).wf = true) (hC : ptC zs (m : Int) = 0) :
    Calls Try.prog 21 #[.agg #[v], .int .i64 m] w fun e w' => ∃ A c, e = .returned (.tuple #[.slice A m c, .int .i64 0]) ∧ OwnQ w' w.heap.size w'.heap.size (.slice A m c) (prQ (mqL zs m) m) ∧ Below w.heap.size w w' := by
  refine (implProximatesOf_any v zs (m : Int) w h hn hw hk).mono ?_
  rw [hC, prA_yes hC]
  rintro e w' ⟨v1, rfl, ho, hb⟩
  obtain ⟨us, ls, hs, h1⟩ := ho
  have h2 := h1
  rw [prQ_len] at h1
  obtain ⟨A, c, rfl, _⟩ := row_form h1.1
  exact ⟨A, c, rfl, ⟨us, ls, hs, h2⟩, hb⟩

set_option maxRecDepth 100000 in
set_option maxHeartbeats 1000000 in
theorem implCodeOf_any (v : Value) (zs : List Int) (k : Int) (w : World) (h : ReadI w w.heap.size v zs) (hn : zs.length ≤ 1048576) (hw : ∀ z ∈ zs, (Lit.int .i64 z).wf = true) (hk : (Lit.int .i64 k).wf = true) :
    Calls Try.prog 23 #[.agg #[v], .int .i64 k] w (AnsIC w (ptK zs k) (ptC zs k)) := by
  obtain ⟨n, A, c, rfl, hr, HL, _, hnc, HF, hcm⟩ := h.split2
  obtain ⟨W0, HE⟩ : ∃ W, W = w.alloc (.cells #[.slice A n c] 26) := ⟨_, rfl⟩
  have hb0 : Below w.heap.size w W0 := by rw [HE]; exact below_box _ _
  have hq0 : BoxI W0 w.heap.size (.slice A n c) := by rw [HE]; exact BoxI.new _ _ _
  have H0 := Lib.hid ((h.below hb0).more hb0.size)
  have HNN := Lib.hid hn
  have HWW := Lib.hid hw
  have HEQ := Lib.hid HE
  clear h hr HE HF hn hw
  have HKW := Lib.hid hk
  rcases pt_cases zs k with ⟨hp, hc⟩ | ⟨hp, hk2, hc⟩ | ⟨m, hp, rfl, hm1, hm2, hc⟩
  · have HC := Lib.hid hc
    clear hc hp hk
    go_enter Try.func23, Try.ntmps23
    go_wp2_with fail
    rw [← HEQ.out]
    refine (implProximatesOf_no _ zs k 1 _ H0.out HNN.out HWW.out HKW.out HC.out (by omega)).mono ?_
    rintro e w1 ⟨A1, c1, rfl, hb1⟩
    go_wp2_with fail
    go_ret2
    exact AnsIC.empty (ptK_no HC.out (by omega)).symm HC.out.symm (hb0.trans (hb1.mono hb0.size))
  · have HC := Lib.hid hc
    clear hc hp hk hk2
    go_enter Try.func23, Try.ntmps23
    go_wp2_with fail
    rw [← HEQ.out]
    refine (implProximatesOf_no _ zs k 2 _ H0.out HNN.out HWW.out HKW.out HC.out (by omega)).mono ?_
    rintro e w1 ⟨A1, c1, rfl, hb1⟩
    go_wp2_with fail
    go_ret2
    exact AnsIC.empty (ptK_no HC.out (by omega)).symm HC.out.symm (hb0.trans (hb1.mono hb0.size))
  · have HC := Lib.hid hc
    have HP := Lib.hid hp
    have HM := Lib.hid (mq_ok hp m)
    clear hc hp hk
    go_enter Try.func23, Try.ntmps23
    go_wp2_with fail
    rw [← HEQ.out]
    refine (implProximatesOf_yes _ zs m _ H0.out HNN.out HWW.out HKW.out HC.out).mono ?_
    rintro e w1 ⟨A1, c1, rfl, ho1, hb1⟩
    have hs0 := hb0.size
    have HO1 := Lib.hid ho1
    have B1 := Lib.hid (hb0.trans (hb1.mono hb0.size))
    clear hb1 hb0 HEQ ho1
    go_wp2_with fail
    refine (codeAt_any _ (mqL zs m) m _ HO1.out.reads HM.out hm1 hm2).mono ?_
    rintro e w2 ⟨A2, c2, rfl, ho2, hb2⟩
    have hs1 := B1.out.size
    have HO2 := Lib.hid (own_lessB ho2 (lo' := w.heap.size) hs1)
    have B2 := Lib.hid (B1.out.trans (hb2.mono B1.out.size))
    clear ho2 hb2
    go_wp2_with fail
    go_ret2
    exact AnsIC.mk' (ptK_yes HC.out).symm HC.out.symm HO2.out B2.out

theorem near_first {w : World} {B k : Nat} {v : Value} {mm : List Int} (h : ReadQ w B v (prQ mm k)) (hk : 0 < k) : ∃ g o c, v = .slice (some ⟨g, o, none⟩) k c ∧ g < B ∧ ∃ A3 c3, w.cell? ⟨g, o, none⟩ = some (.slice A3 0 c3) := by
  obtain ⟨A, c, rfl, hrow, _, _, hA, _⟩ := h
  rw [prQ_len]
  obtain ⟨a, u, e1, hab, hcell, hri⟩ := hrow 0 (by rw [prQ_len]; exact hk)
  obtain ⟨g, o, rfl⟩ := hA a e1
  subst e1
  rw [prQ_at hk] at hri
  have hz : prx mm k 0 = [] := by
    have : ∀ i, prx mm i 0 = [] := fun i => by
      induction i with
      | zero => rfl
      | succ i ih => rw [prx_miss (pr_out (by omega)), ih]
    exact this k
  rw [hz] at hri
  obtain ⟨A3, c3, rfl, _⟩ := hri
  rw [add_lit] at hcell
  exact ⟨g, o, c, rfl, hab, A3, c3, hcell⟩
set_option maxRecDepth 100000 in
set_option maxHeartbeats 1000000 in
theorem implCountSatellites_any (v : Value) (zs : List Int) (k : Int) (w : World) (h : ReadI w w.heap.size v zs) (hn : zs.length ≤ 1048576) (hw : ∀ z ∈ zs, (Lit.int .i64 z).wf = true) (hk : (Lit.int .i64 k).wf = true) :
    Calls Try.prog 27 #[.agg #[v], .int .i64 k] w (AnsII w (satA zs k) (ptC zs k)) := by
  obtain ⟨n, A, c, rfl, hr, HL, _, hnc, HF, hcm⟩ := h.split2
  obtain ⟨W0, HE⟩ : ∃ W, W = w.alloc (.cells #[.slice A n c] 26) := ⟨_, rfl⟩
  have hb0 : Below w.heap.size w W0 := by rw [HE]; exact below_box _ _
  have hq0 : BoxI W0 w.heap.size (.slice A n c) := by rw [HE]; exact BoxI.new _ _ _
  have H0 := Lib.hid ((h.below hb0).more hb0.size)
  have HNN := Lib.hid hn
  have HWW := Lib.hid hw
  have HEQ := Lib.hid HE
  clear h hr HE HF hn hw
  have HKW := Lib.hid hk
  rcases pt_cases zs k with ⟨hp, hc⟩ | ⟨hp, hk2, hc⟩ | ⟨m, hp, rfl, hm1, hm2, hc⟩
  · have HC := Lib.hid hc
    clear hc hp hk
    go_enter Try.func27, Try.ntmps27
    go_wp2_with fail
    rw [← HEQ.out]
    refine (implProximatesOf_no _ zs k 1 _ H0.out HNN.out HWW.out HKW.out HC.out (by omega)).mono ?_
    rintro e w1 ⟨A1, c1, rfl, hb1⟩
    go_wp2_with fail
    go_loopw [8, 19] (fun vc vi wr => vc = .int .i64 0 ∧ vi = .int .i64 0 ∧ wr = w1) (fun _ _ _ => 0)
    case atStart => exact ⟨rfl, rfl, rfl⟩
    case round =>
      obtain ⟨rfl, rfl, rfl⟩ := hrel
      go_wp2
      go_ret2
      exact ⟨by rw [satA_no HC.out (by omega), HC.out]; rfl, hb0.trans (hb1.mono hb0.size)⟩
  · have HC := Lib.hid hc
    clear hc hp hk hk2
    go_enter Try.func27, Try.ntmps27
    go_wp2_with fail
    rw [← HEQ.out]
    refine (implProximatesOf_no _ zs k 2 _ H0.out HNN.out HWW.out HKW.out HC.out (by omega)).mono ?_
    rintro e w1 ⟨A1, c1, rfl, hb1⟩
    go_wp2_with fail
    go_loopw [8, 19] (fun vc vi wr => vc = .int .i64 0 ∧ vi = .int .i64 0 ∧ wr = w1) (fun _ _ _ => 0)
    case atStart => exact ⟨rfl, rfl, rfl⟩
    case round =>
      obtain ⟨rfl, rfl, rfl⟩ := hrel
      go_wp2
      go_ret2
      exact ⟨by rw [satA_no HC.out (by omega), HC.out]; rfl, hb0.trans (hb1.mono hb0.size)⟩
  · have HC := Lib.hid hc
    have HP := Lib.hid hp
    have HM := Lib.hid (mq_ok hp m)
    clear hc hp hk
    go_enter Try.func27, Try.ntmps27
    go_wp2_with fail
    rw [← HEQ.out]
    refine (implProximatesOf_yes _ zs m _ H0.out HNN.out HWW.out HKW.out HC.out).mono ?_
    rintro e w1 ⟨A1, c1, rfl, ho1, hb1⟩
    have hs0 := hb0.size
    have HO1 := Lib.hid ho1
    have B1 := Lib.hid (hb0.trans (hb1.mono hb0.size))
    clear hb1 hb0 HEQ ho1
    have HQ := Lib.hid HO1.out.reads
    have HNC := Lib.hid (fun j (hj : j + 1 < m) => near_cells HQ.out HM.out hj)
    obtain ⟨g0, o0, c0, e0, hg0, hd0⟩ := near_first HQ.out (show 0 < m by omega)
    simp only [Value.slice.injEq] at e0
    obtain ⟨rfl, _, rfl⟩ := e0
    go_wp2_with fail
    go_loopw [8, 19] (fun vc vi wr => ∃ (i : Nat) (s : Int), i ≤ m ∧ (0 ≤ s ∧ s ≤ (i : Int)) ∧ vc = .int .i64 s ∧ vi = .int .i64 i ∧ wr = w1 ∧ Hid (s = satN (mqL zs m) m (i - 1))) (fun _ vi _ => m - (intOf vi).toNat)
    case atStart => exact ⟨0, 0, by omega, by omega, rfl, rfl, rfl, Lib.hid rfl⟩
    case round =>
      obtain ⟨i, s, hi, hs, rfl, rfl, rfl, hse⟩ := hrel
      by_cases him : i < m
      · have hi2 : (i : Int) < (m : Int) := by omega
        by_cases h0 : i = 0
        · obtain ⟨A3, c3, hd1⟩ := hd0
          have hd2 : wr.cell? ⟨g0, o0 + i, none⟩ = some (.slice A3 0 c3) := by rw [h0]; exact hd1
          have HS1 : Hid (s = satN (mqL zs m) m (i + 1 - 1)) := Lib.hid (by rw [hse.out, h0])
          clear hd1 h0
          go_wp2_with (go_at_call 74; refine (sat_any _ 0 _ false _ rfl).mono ?_; rintro e w' ⟨rfl, rfl⟩)
          go_roundw
          case rel => exact ⟨i + 1, s, by omega, by omega, rfl, by go_num, by trivial, HS1⟩
          case measure => simp [intOf]; omega
        · obtain ⟨g, o, gi, oi, c4, ci, e1, hg, hgi, hcell, hc0, _⟩ := HNC.out (i - 1) (by omega)
          simp only [Value.slice.injEq, Option.some.injEq, Addr.mk.injEq] at e1
          obtain ⟨⟨rfl, rfl, _⟩, _, rfl⟩ := e1
          rw [show i - 1 + 1 = i by omega] at hcell
          have HST : Hid (satN (mqL zs m) m (i + 1 - 1) = s + (if cdI (mqL zs m) m i = 0 then 0 else 1)) := Lib.hid (by
            rw [hse.out]
            obtain ⟨j, rfl⟩ : ∃ j, i = j + 1 := ⟨i - 1, by omega⟩
            rfl)
          by_cases h1 : cdI (mqL zs m) m i = 0
          · rw [if_pos h1] at hcell HST
            have HS1 : Hid (s = satN (mqL zs m) m (i + 1 - 1)) := Lib.hid (by rw [HST.out]; omega)
            clear h1 hc0
            go_wp2_with (go_at_call 74; refine (sat_any _ 1 _ false _ rfl).mono ?_; rintro e w' ⟨rfl, rfl⟩)
            go_roundw
            case rel => exact ⟨i + 1, s, by omega, by omega, rfl, by go_num, by trivial, HS1⟩
            case measure => simp [intOf]; omega
          · rw [if_neg h1] at hcell HST
            have HS1 : Hid (s + 1 = satN (mqL zs m) m (i + 1 - 1)) := Lib.hid HST.out.symm
            clear h1 hc0
            go_wp2_with (go_at_call 74; refine (sat_any _ 2 _ true _ rfl).mono ?_; rintro e w' ⟨rfl, rfl⟩)
            go_roundw
            case rel => exact ⟨i + 1, s + 1, by omega, by omega, rfl, by go_num, by trivial, HS1⟩
            case measure => simp [intOf]; omega
      · obtain rfl : i = m := by omega
        have HE2 : Hid (satA zs (i : Int) = s) := Lib.hid (by rw [satA_yes HC.out, hse.out])
        go_wp2
        go_ret2
        exact ⟨by rw [HE2.out, HC.out]; rfl, B1.out⟩

theorem nearL_zero (c : Int) : nearL c 0 = [] := rfl
theorem nearL_one {j : Nat} (h : 0 < j) : nearL 0 j = [(j : Int) - 1] := by unfold nearL; rw [if_neg (by omega), if_pos rfl]
theorem nearL_two {c : Int} {j : Nat} (h : 0 < j) (hc : c ≠ 0) : nearL c j = [(j : Int) - c, (j : Int) - 1] := by unfold nearL; rw [if_neg (by omega), if_neg hc]
theorem nearL_len (c : Int) (j : Nat) : (nearL c j).length ≤ 2 := by
  unfold nearL; split
  · simp
  · split <;> simp
def NearAns (w : World) (L : List Int) (e : Ending) (w' : World) : Prop := ∃ A c, e = .returned (.slice A L.length c) ∧ OwnI w' w.heap.size w'.heap.size (.slice A L.length c) L ∧ Below w.heap.size w w'
set_option maxRecDepth 100000 in
set_option maxHeartbeats 1000000 in
theorem l06Near_any (v : Value) (L : List Int) (j : Nat) (c : Int) (w : World) (B : Nat) (h : ReadI w B v L) (hj : j ≤ L.length) (hn : L.length ≤ 1048576) (hcv : 0 < j → L[j - 1]?.getD 0 = c) (hc : c = 0 ∨ (2 ≤ c ∧ c ≤ (j : Int))) :
    Calls Try.prog 69 #[v, .int .i64 j] w (NearAns w (nearL c j)) := by
  obtain ⟨n, A, cc, rfl, hr, HL, _, hnc, HF, hcm⟩ := h.split2
  rw [HL.out] at hj hn
  have H0 := Lib.hid hr
  clear h hr
  by_cases h0 : j = 0
  · subst h0
    clear hcv hc
    go_enter Try.func69, Try.ntmps69
    go_wp2
    go_ret
    exact ⟨_, _, rfl, OwnI.mk' (n := 0) (World.ownsRow_lit w #[] 0 (Nat.le_refl _) (by simp [maxLen]) rfl), below_box2 _ _⟩
  have hj0 : 0 < j := by omega
  obtain ⟨a, rfl, hal, hcell0⟩ := H0.out.2 (j - 1) (by omega)
  obtain ⟨g, o, rfl⟩ := HF.out a rfl
  rw [add_lit] at hcell0
  have hcell : w.cell? ⟨g, o + (j - 1), none⟩ = some (.int .i64 c) := by rw [← hcv hj0]; simpa using hcell0
  have hjb : ((j : Int) == 0) = false := by simpa using h0
  have hji : ¬ (j : Int) = 0 := by omega
  have p1 : IntKind.i64.wrap ((j : Int) - 1) = (j : Int) - 1 := IntWalk.i64_in _ (by omega)
  have p2 : ((j : Int) - 1).toNat = j - 1 := by omega
  have p3 : (0 : Int) ≤ (j : Int) - 1 := by omega
  have p4 : (j : Int) - 1 < (n : Int) := by omega
  have p5 : (1 : Int) ≤ (j : Int) := by omega
  clear hcell0 hcv h0 hal
  by_cases hz : c = 0
  · subst hz
    have HE : Hid (nearL 0 j = [(j : Int) - 1]) := Lib.hid (nearL_one hj0)
    clear hc
    go_enter Try.func69, Try.ntmps69
    go_wp2
    go_ret
    exact ⟨_, _, by rw [HE.out]; rfl, by rw [HE.out]; exact OwnI.mk' (n := 1) (World.ownsRow_lit w #[.int .i64 ((j : Int) - 1)] 1 (Nat.le_refl _) (by simp [maxLen]) rfl), below_box2 _ _⟩
  · have HE : Hid (nearL c j = [(j : Int) - c, (j : Int) - 1]) := Lib.hid (nearL_two hj0 hz)
    have hzb : (c == 0) = false := by simpa using hz
    have q1 : IntKind.i64.wrap ((j : Int) - c) = (j : Int) - c := IntWalk.i64_in _ (by omega)
    go_enter Try.func69, Try.ntmps69
    go_wp2
    go_ret
    exact ⟨_, _, by rw [HE.out]; rfl, by rw [HE.out]; exact list2R (Nat.le_refl _) _ _, below_box2 _ _⟩

/-- The first j rows. -/
def prT (m : List Int) (n j : Nat) : List (List Int) := (List.range j).map fun x => prx m n x
theorem prT_len (m : List Int) (n j : Nat) : (prT m n j).length = j := by simp [prT]
theorem prT_succ (m : List Int) (n j : Nat) : prT m n (j + 1) = prT m n j ++ [prx m n j] := by simp [prT, List.range_succ]
set_option maxRecDepth 100000 in
set_option maxHeartbeats 1000000 in
theorem specProximatesOf_any (v : Value) (zs : List Int) (k : Int) (w : World) (h : ReadI w w.heap.size v zs) (hn : zs.length ≤ 1048576) (hw : ∀ z ∈ zs, (Lit.int .i64 z).wf = true) (hk : (Lit.int .i64 k).wf = true) :
    Calls Try.prog 22 #[.agg #[v], .int .i64 k] w (AnsQC w (prA zs k) (ptC zs k)) := by
  obtain ⟨n, A, c, rfl, hr, HL, _, hnc, HF, hcm⟩ := h.split2
  obtain ⟨W0, HE⟩ : ∃ W, W = w.alloc (.cells #[.slice A n c] 26) := ⟨_, rfl⟩
  have hb0 : Below w.heap.size w W0 := by rw [HE]; exact below_box _ _
  have hq0 : BoxI W0 w.heap.size (.slice A n c) := by rw [HE]; exact BoxI.new _ _ _
  have H0 := Lib.hid ((h.below hb0).more hb0.size)
  have HNN := Lib.hid hn
  have HWW := Lib.hid hw
  have HEQ := Lib.hid HE
  clear h hr HE HF hn hw
  rcases pt_cases zs k with ⟨hp, hc⟩ | ⟨hp, hk2, hc⟩ | ⟨m, hp, rfl, hm1, hm2, hc⟩
  · have HC := Lib.hid hc
    clear hc hp hk
    go_enter Try.func22, Try.ntmps22
    go_wp2_with fail
    rw [← HEQ.out]
    refine (l06Range_if _ zs k 1 _ H0.out HNN.out HWW.out HC.out).mono ?_
    rintro e w1 ⟨rfl, hb1⟩
    go_wp2_with fail
    go_ret2
    exact AnsQC.none' (prA_no HC.out (by omega)).symm HC.out.symm (hb0.trans (hb1.mono hb0.size))
  · have HC := Lib.hid hc
    clear hc hp hk hk2
    go_enter Try.func22, Try.ntmps22
    go_wp2_with fail
    rw [← HEQ.out]
    refine (l06Range_if _ zs k 2 _ H0.out HNN.out HWW.out HC.out).mono ?_
    rintro e w1 ⟨rfl, hb1⟩
    go_wp2_with fail
    go_ret2
    exact AnsQC.none' (prA_no HC.out (by omega)).symm HC.out.symm (hb0.trans (hb1.mono hb0.size))
  · have HC := Lib.hid hc
    have HP := Lib.hid hp
    clear hc hp hk
    go_enter Try.func22, Try.ntmps22
    go_wp2_with fail
    rw [← HEQ.out]
    refine (l06Range_if _ zs (m : Int) 0 _ H0.out HNN.out HWW.out HC.out).mono ?_
    rintro e w1 ⟨rfl, hb1⟩
    have cb1 : w1.cell? ⟨w.heap.size, 0, none⟩ = some (.slice A n c) := by rw [hb1.cell (p := ⟨w.heap.size, 0, none⟩) hq0.2]; exact hq0.1
    have H1 := Lib.hid ((H0.out.below hb1).more hb1.size)
    have B1 := Lib.hid (hb0.trans (hb1.mono hb0.size))
    clear hb1 hb0 HEQ
    have HM := Lib.hid (mq_ok HP.out m)
    go_wp2_with fail
    refine (l06Code_any _ zs m _ H1.out HNN.out HP.out hm1 hm2).mono ?_
    rintro e w2 ⟨A2, c2, rfl, ho2, hb2⟩
    have hs1 := B1.out.size
    have HO2 := Lib.hid ho2.reads
    have B2 := Lib.hid (B1.out.trans (hb2.mono hs1))
    have hs2 := B2.out.size
    obtain ⟨mm, hmm⟩ : ∃ x, mqL zs m = x := ⟨_, rfl⟩
    have HMM := Lib.hid hmm
    rw [hmm] at HO2 HM
    clear ho2 hb2 hmm
    have HO : Hid (OwnQ (w2.alloc (.cells #[] 24)) w2.heap.size (w2.alloc (.cells #[] 24)).heap.size (.slice (some ⟨w2.heap.size, 0, none⟩) 0 0) (prT mm m 0)) := Lib.hid (ownQ_newR w2 w2.heap.size (Nat.le_refl _))
    have HB : Hid (Below w2.heap.size w2 (w2.alloc (.cells #[] 24))) := Lib.hid (below_box2 _ _)
    obtain ⟨i0, hi0, hz0, hz1, hz2⟩ := info_parts ints_infoR
    go_wp2_with fail
    go_loopw [8, 9] (fun vo vj wr => ∃ (j : Nat) (A' : Option Addr) (c' : Nat), j ≤ m ∧ vo = .slice A' j c' ∧ vj = .int .i64 j ∧ Hid (OwnQ wr w2.heap.size wr.heap.size (.slice A' j c') (prT mm m j)) ∧ Hid (Below w2.heap.size w2 wr)) (fun _ vj _ => m - (intOf vj).toNat)
    case atStart => exact ⟨0, _, _, by omega, rfl, rfl, HO, HB⟩
    case round =>
      obtain ⟨j, A', c', hj, rfl, rfl, ho, hb⟩ := hrel
      by_cases hjm : j < m
      · have hjm2 : (j : Int) < (m : Int) := by omega
        have HRD : Hid (ReadI wr wr.heap.size (.slice A2 (m - 1) c2) (cdL mm m)) := Lib.hid ((HO2.out.below hb.out).more hb.out.size)
        have HPN := Lib.hid (prx_near HM.out hjm)
        have HNX : Hid (prT mm m (j + 1) = prT mm m j ++ [nearL (cdI mm m j) j]) := Lib.hid (by rw [prT_succ, HPN.out.1])
        have hcl := nearL_len (cdI mm m j) j
        go_wp2_with fail
        refine (l06Near_any _ (cdL mm m) j (cdI mm m j) wr _ HRD.out (by rw [cdL_len]; omega) (by rw [cdL_len]; omega) (fun h0 => by rw [cdL_at (by omega)]; congr 1; omega) HPN.out.2).mono ?_
        rintro e w3 ⟨A3, c3, rfl, ho3, hb3⟩
        obtain ⟨N3, hN3⟩ : ∃ x, (nearL (cdI mm m j) j).length = x := ⟨_, rfl⟩
        rw [hN3] at ho3 hcl ⊢
        obtain ⟨us, ls, hs, hrows⟩ := ho.out
        rw [prT_len] at hrows
        have HROW := Lib.hid hrows
        have HO3 := Lib.hid ho3
        have HB3 := Lib.hid hb3
        have HROW3 : Hid (w3.ownsRow w2.heap.size 24 1 (.slice A' j c') j us) := Lib.hid (hrows.1.kept (grown_of_below hb3 none) (by cases (Value.slice A' j c').ownBlock <;> simp))
        have hbs := hb.out.size
        have hbs3 := hb3.size
        clear hrows ho3 hb3 hN3
        go_wp2_with (at_builtin; (refine wpList_append_liesR rfl _ _ 31 rfl w2.heap.size 24 i0 (.slice none 0 0) 1 24 Try.underlying31 hi0 hz0 hz1 hz2 rfl (by decide) (.slice A' j c') j us rfl (World.ownsRow.alloc HROW3.out _) ⟨w3.heap.size, 0, none⟩ 1 1 [.slice A3 N3 c3] rfl rfl (World.news_of_block (cs := #[.slice A3 N3 c3]) (t := 24) (fr := (0, 0)) (heap_alloc_new w3 _)) (by simp [Value.oneCell']) (by decide) (by simp only [maxLen]; omega) (by omega) (by simp; omega) ?_; intro g2 cap2 w4 hown4 hgrow4 hg4 hlt4; have HQ4 := Lib.hid (rows_snocR HROW.out (prT_len _ _ _) hbs ((HB3.out.trans ((below_box2 w3 _).mono hbs3))) (HO3.out.kept (kept_boxR w3 _ _ _ (Nat.le_refl _))) (Nat.le_refl _) (by simp) hown4 hgrow4 hg4 hlt4); have HB4 := Lib.hid (((hb.out.trans (HB3.out.mono hbs)).alloc (by omega) _).grown hgrow4 (by simp; omega) (fun kk hkk => (World.ownsRow.lt HROW3.out kk hkk).1)); clear hown4 hgrow4 hg4 hlt4))
        go_roundw
        case rel => exact ⟨j + 1, _, _, by omega, rfl, by go_num, Lib.hid (by rw [HNX.out]; exact HQ4.out), HB4⟩
        case measure => simp [intOf]; omega
      · obtain rfl : j = m := by omega
        go_wp2
        go_ret2
        exact AnsQC.some' (by rw [prA_yes HC.out, HMM.out]; rfl) HC.out.symm (ownQ_less ho.out hs2) (B2.out.trans (hb.out.mono hs2))
set_option maxRecDepth 100000 in
set_option maxHeartbeats 1000000 in
theorem specCountSatellites_any (v : Value) (zs : List Int) (k : Int) (w : World) (h : ReadI w w.heap.size v zs) (hn : zs.length ≤ 1048576) (hw : ∀ z ∈ zs, (Lit.int .i64 z).wf = true) (hk : (Lit.int .i64 k).wf = true) :
    Calls Try.prog 28 #[.agg #[v], .int .i64 k] w (AnsII w (satA zs k) (ptC zs k)) := by
  obtain ⟨n, A, c, rfl, hr, HL, _, hnc, HF, hcm⟩ := h.split2
  obtain ⟨W0, HE⟩ : ∃ W, W = w.alloc (.cells #[.slice A n c] 26) := ⟨_, rfl⟩
  have hb0 : Below w.heap.size w W0 := by rw [HE]; exact below_box _ _
  have hq0 : BoxI W0 w.heap.size (.slice A n c) := by rw [HE]; exact BoxI.new _ _ _
  have H0 := Lib.hid ((h.below hb0).more hb0.size)
  have HNN := Lib.hid hn
  have HWW := Lib.hid hw
  have HEQ := Lib.hid HE
  clear h hr HE HF hn hw
  rcases pt_cases zs k with ⟨hp, hc⟩ | ⟨hp, hk2, hc⟩ | ⟨m, hp, rfl, hm1, hm2, hc⟩
  · have HC := Lib.hid hc
    clear hc hp hk
    go_enter Try.func28, Try.ntmps28
    go_wp2_with fail
    rw [← HEQ.out]
    refine (l06Range_if _ zs k 1 _ H0.out HNN.out HWW.out HC.out).mono ?_
    rintro e w1 ⟨rfl, hb1⟩
    go_wp2_with fail
    go_ret2
    exact ⟨by rw [satA_no HC.out (by omega), HC.out]; rfl, hb0.trans (hb1.mono hb0.size)⟩
  · have HC := Lib.hid hc
    clear hc hp hk hk2
    go_enter Try.func28, Try.ntmps28
    go_wp2_with fail
    rw [← HEQ.out]
    refine (l06Range_if _ zs k 2 _ H0.out HNN.out HWW.out HC.out).mono ?_
    rintro e w1 ⟨rfl, hb1⟩
    go_wp2_with fail
    go_ret2
    exact ⟨by rw [satA_no HC.out (by omega), HC.out]; rfl, hb0.trans (hb1.mono hb0.size)⟩
  · have HC := Lib.hid hc
    have HP := Lib.hid hp
    clear hc hp hk
    go_enter Try.func28, Try.ntmps28
    go_wp2_with fail
    rw [← HEQ.out]
    refine (l06Range_if _ zs (m : Int) 0 _ H0.out HNN.out HWW.out HC.out).mono ?_
    rintro e w1 ⟨rfl, hb1⟩
    have cb1 : w1.cell? ⟨w.heap.size, 0, none⟩ = some (.slice A n c) := by rw [hb1.cell (p := ⟨w.heap.size, 0, none⟩) hq0.2]; exact hq0.1
    have H1 := Lib.hid ((H0.out.below hb1).more hb1.size)
    have B1 := Lib.hid (hb0.trans (hb1.mono hb0.size))
    clear hb1 hb0 HEQ
    go_wp2_with fail
    refine (l06Code_any _ zs m _ H1.out HNN.out HP.out hm1 hm2).mono ?_
    rintro e w2 ⟨A2, c2, rfl, ho2, hb2⟩
    have hs1 := B1.out.size
    have B2 := Lib.hid (B1.out.trans (hb2.mono hs1))
    have HC2 : Hid (∀ a, a < m - 1 → ∃ g, A2 = some ⟨g, 0, none⟩ ∧ w2.cell? ⟨g, a, none⟩ = some (.int .i64 (cdI (mqL zs m) m (a + 1)))) := Lib.hid fun a ha => by
      obtain ⟨g, e1, _, _, h5, _⟩ := own_at ho2 (cdL_len _ _) ha
      exact ⟨g, e1, by rw [h5, cdL_at ha]⟩
    clear ho2 hb2
    go_wp2_with fail
    go_loopw [8, 9] (fun vs vi wr => ∃ (a : Nat) (s : Int), a ≤ m - 1 ∧ (0 ≤ s ∧ s ≤ (a : Int)) ∧ vs = .int .i64 s ∧ vi = .int .i64 a ∧ wr = w2 ∧ Hid (s = satN (mqL zs m) m a)) (fun _ vi _ => m - (intOf vi).toNat)
    case atStart => exact ⟨0, 0, by omega, by omega, rfl, rfl, rfl, Lib.hid rfl⟩
    case round =>
      obtain ⟨a, s, ha, hs, rfl, rfl, rfl, hse⟩ := hrel
      by_cases ham : a < m - 1
      · have ham2 : (a : Int) < ((m - 1 : Nat) : Int) := by omega
        obtain ⟨g, rfl, hcell⟩ := HC2.out a ham
        have HST : Hid (satN (mqL zs m) m (a + 1) = s + (if cdI (mqL zs m) m (a + 1) = 0 then 0 else 1)) := Lib.hid (by rw [hse.out]; rfl)
        obtain ⟨c, hcc⟩ : ∃ x, cdI (mqL zs m) m (a + 1) = x := ⟨_, rfl⟩
        rw [hcc] at hcell HST
        clear hcc
        by_cases h1 : c = 0
        · subst h1
          have HS1 : Hid (s = satN (mqL zs m) m (a + 1)) := Lib.hid (by rw [HST.out]; simp)
          go_wp2_with fail
          go_roundw
          case rel => exact ⟨a + 1, s, by omega, by omega, rfl, by go_num, by trivial, HS1⟩
          case measure => simp [intOf]; omega
        · have HS1 : Hid (s + 1 = satN (mqL zs m) m (a + 1)) := Lib.hid (by rw [HST.out, if_neg h1])
          have h1b : (c != 0) = true := by simpa using h1
          go_wp2_with fail
          go_roundw
          case rel => exact ⟨a + 1, s + 1, by omega, by omega, rfl, by go_num, by trivial, HS1⟩
          case measure => simp [intOf]; omega
      · obtain rfl : a = m - 1 := by omega
        have HE2 : Hid (satA zs (m : Int) = s) := Lib.hid (by rw [satA_yes HC.out, hse.out])
        go_wp2
        go_ret2
        exact ⟨by rw [HE2.out, HC.out]; rfl, B2.out⟩
end Go.Proofs.Ytoebbhicffgdgaa
