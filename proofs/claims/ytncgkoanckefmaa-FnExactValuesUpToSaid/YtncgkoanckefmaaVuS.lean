/- ValuesUpTo, GapsOf, SemigroupPolynomial, the models' and the programs': contracts. Conditions: stated at each theorem. -/
import Derived.Test.YtncgkoanckefmaaVuI
import Derived.Test.YtncgkoanckefmaaVaS
import Derived.Laws.EntriesVeiled
namespace Go.Proofs.Ytncgkoanckefmaa
open Go.ChangeShapes Go.WideShapes Go.ChangeAt Go.RowKit Go.Deep
set_option linter.unusedVariables false
set_option linter.unusedSimpArgs false

theorem below_values2 (zs : List Int) (en lo hi p3 p4 : Nat) (w : World) (hp : brB zs = true) (hv : VT w lo hi zs p3 p4) (hhi : hi ≤ w.heap.size) (hen : en ≤ 1000000) (E : Int) (hE : E = (en : Int)) :
    Calls Try.prog 80 #[.int .i64 E, .func (.func 116) #[] #[.pointer (some ⟨p3, 0, none⟩), .pointer (some ⟨p4, 0, none⟩)]] w fun e w' => ∃ v', e = .returned v' ∧ OwnI w' w.heap.size w'.heap.size v' (vlL zs true en) ∧ Below w.heap.size w w' := by
  subst hE; exact below_values zs en lo hi p3 p4 w hp hv hhi hen
def vuA (zs : List Int) (x : Int) : List Int := if brB zs then (if semiB x then vlL zs true (x.toNat + 1) else []) else []
theorem vu_no {zs : List Int} {v : Int} (h : brB zs = false) : vuA zs v = [] ∧ ivC zs v = 1 := by simp [vuA, ivC, h]
theorem vu_out {zs : List Int} {v : Int} (h : brB zs = true) (h2 : semiB v = false) : vuA zs v = [] ∧ ivC zs v = 2 := by simp [vuA, ivC, h, h2]
theorem vu_yes {zs : List Int} {m : Nat} (h : brB zs = true) (h2 : semiB (m : Int) = true) : vuA zs (m : Int) = vlL zs true (m + 1) ∧ ivC zs (m : Int) = 0 := by simp [vuA, ivC, h, h2]
theorem vuA_len {zs : List Int} (x : Int) : (vuA zs x).length ≤ 1099511627776 := by
  unfold vuA
  split
  · split
    · rename_i h
      have h1 := vlL_len zs true (x.toNat + 1)
      have h2 := semiB_yes h
      omega
    · simp
  · simp
def gpA (zs : List Int) : List Int := if brB zs then (if cdB zs ≤ 20000 then vlL zs false (cdB zs).toNat else []) else []
def gpC (zs : List Int) : Int := if brB zs then (if cdB zs ≤ 20000 then 0 else 3) else 1
theorem gp_no {zs : List Int} (h : brB zs = false) : gpA zs = [] ∧ gpC zs = 1 := by simp [gpA, gpC, h]
theorem gp_out {zs : List Int} (h : brB zs = true) (h2 : ¬ cdB zs ≤ 20000) : gpA zs = [] ∧ gpC zs = 3 := by simp [gpA, gpC, h, h2]
theorem gp_yes {zs : List Int} {m : Nat} (h : brB zs = true) (h2 : cdB zs ≤ 20000) (hm : cdB zs = (m : Int)) : gpA zs = vlL zs false m ∧ gpC zs = 0 := by
  rw [hm] at h2; simp [gpA, gpC, h, hm, h2]
theorem gpA_len (zs : List Int) : (gpA zs).length ≤ 1099511627776 := by
  unfold gpA
  split
  · split
    · have h1 := vlL_len zs false (cdB zs).toNat
      omega
    · simp
  · simp
def spA (zs : List Int) : List Int := if brB zs then (if cdB zs ≤ 2000 then spL zs ((cdB zs).toNat + 1) else []) else []
def spC (zs : List Int) : Int := if brB zs then (if cdB zs ≤ 2000 then 0 else 3) else 1
theorem sp_no {zs : List Int} (h : brB zs = false) : spA zs = [] ∧ spC zs = 1 := by simp [spA, spC, h]
theorem sp_out {zs : List Int} (h : brB zs = true) (h2 : ¬ cdB zs ≤ 2000) : spA zs = [] ∧ spC zs = 3 := by simp [spA, spC, h, h2]
theorem sp_yes {zs : List Int} {m : Nat} (h : brB zs = true) (h2 : cdB zs ≤ 2000) (hm : cdB zs = (m : Int)) : spA zs = spL zs (m + 1) ∧ spC zs = 0 := by
  rw [hm] at h2; simp [spA, spC, h, hm, h2]
theorem spA_len (zs : List Int) : (spA zs).length ≤ 1099511627776 := by
  unfold spA
  split
  · split
    · rw [spL_len]; omega
    · simp
  · simp

set_option maxRecDepth 100000 in
set_option maxHeartbeats 2000000 in
theorem specValuesUpTo_any (v : Value) (zs : List Int) (x : Int) (w : World) (h : ReadI w w.heap.size v zs) (hn : zs.length ≤ 1048576) (hw : ∀ z ∈ zs, (Lit.int .i64 z).wf = true) (hwx : (Lit.int .i64 x).wf = true) :
    Calls Try.prog 20 #[.agg #[v], .int .i64 x] w (AnsIC w (vuA zs x) (ivC zs x)) := by
  have HWW := Lib.hid hw
  have HN0 := Lib.hid hn
  rcases bool_fs (brB zs) with hp | hp
  · have E := Lib.hid (vu_no (v := x) hp)
    have HP := Lib.hid hp
    obtain ⟨n, A, c, rfl, hr, HL, _, hnc, HF, hcm⟩ := h.split2
    obtain ⟨W0, HE⟩ : ∃ W, W = w.alloc (.cells #[.slice A n c] 28) := ⟨_, rfl⟩
    have hb0 : Below w.heap.size w W0 := by rw [HE]; exact below_box _ _
    have hq0 : BoxI W0 w.heap.size (.slice A n c) := by rw [HE]; exact BoxI.new _ _ _
    have H0 := Lib.hid ((h.below hb0).more hb0.size)
    have HEQ := Lib.hid HE
    clear h hr HE HF hn hw hp hwx
    go_enter Try.func20, Try.ntmps20
    go_wp2_with fail
    rw [← HEQ.out]
    refine (l03Is_if _ zs _ false H0.out HN0.out HWW.out HP.out).mono ?_
    rintro e w1 ⟨rfl, hb1⟩
    go_wp2_with fail
    go_ret2
    exact AnsIC.empty (by rw [E.out.1]) (by rw [E.out.2]) (hb0.trans (hb1.mono hb0.size))
  have HP := Lib.hid hp
  rcases bool_fs (semiB x) with hsb | hsb
  · have E := Lib.hid (vu_out hp hsb)
    have HSB := Lib.hid hsb
    obtain ⟨n, A, c, rfl, hr, HL, _, hnc, HF, hcm⟩ := h.split2
    obtain ⟨W0, HE⟩ : ∃ W, W = w.alloc (.cells #[.slice A n c] 28) := ⟨_, rfl⟩
    have hb0 : Below w.heap.size w W0 := by rw [HE]; exact below_box _ _
    have hq0 : BoxI W0 w.heap.size (.slice A n c) := by rw [HE]; exact BoxI.new _ _ _
    have H0 := Lib.hid ((h.below hb0).more hb0.size)
    have HEQ := Lib.hid HE
    clear h hr HE HF hn hw hp hwx hsb
    go_enter Try.func20, Try.ntmps20
    go_wp2_with fail
    rw [← HEQ.out]
    refine (l03Is_if _ zs _ true H0.out HN0.out HWW.out HP.out).mono ?_
    rintro e w1 ⟨rfl, hb1⟩
    have B1 := Lib.hid (hb0.trans (hb1.mono hb0.size))
    clear hb1 hb0 hq0
    go_wp2_with (go_at_call 75; refine (in_no _ _ _ _ (semiB_no HSB.out)).mono ?_; rintro e w' ⟨rfl, rfl⟩)
    go_ret2
    exact AnsIC.empty (by rw [E.out.1]) (by rw [E.out.2]) B1.out
  · have HSB := Lib.hid hsb
    have hx := semiB_yes hsb
    obtain ⟨m, rfl⟩ : ∃ m : Nat, x = (m : Int) := ⟨x.toNat, by omega⟩
    have E := Lib.hid (vu_yes hp hsb)
    obtain ⟨n, A, c, rfl, hr, HL, _, hnc, HF, hcm⟩ := h.split2
    obtain ⟨W0, HE⟩ : ∃ W, W = w.alloc (.cells #[.slice A n c] 28) := ⟨_, rfl⟩
    have hb0 : Below w.heap.size w W0 := by rw [HE]; exact below_box _ _
    have hq0 : BoxI W0 w.heap.size (.slice A n c) := by rw [HE]; exact BoxI.new _ _ _
    have H0 := Lib.hid ((h.below hb0).more hb0.size)
    have HEQ := Lib.hid HE
    clear h hr HE HF hn hw hp hwx hsb
    go_enter Try.func20, Try.ntmps20
    go_wp2_with fail
    rw [← HEQ.out]
    refine (l03Is_if _ zs _ true H0.out HN0.out HWW.out HP.out).mono ?_
    rintro e w1 ⟨rfl, hb1⟩
    have cb1 : w1.cell? ⟨w.heap.size, 0, none⟩ = some (.slice A n c) := by rw [hb1.cell (p := ⟨w.heap.size, 0, none⟩) hq0.2]; exact hq0.1
    have H1 := Lib.hid ((H0.out.below hb1).more hb1.size)
    have B1 := Lib.hid (hb0.trans (hb1.mono hb0.size))
    have hw1 : w.heap.size < w1.heap.size := by have := hq0.2; have := hb1.size; omega
    clear hb1 hb0 HEQ hq0
    go_wp2_with (go_at_call 75; refine (in_yes _ _ _ _ hx.1 hx.2).mono ?_; rintro e w' ⟨rfl, rfl⟩)
    refine (l05Values_any _ zs m w1 H1.out HN0.out HP.out (by omega)).mono ?_
    rintro e w2 ⟨g2, rfl, hg1, hg2, hrow, hb2⟩
    obtain ⟨i0, hi0, hz0, hz1, hz2⟩ := info_parts int_info
    have hs2 := hb2.size
    have HO0 : Hid (Own (w2.alloc (.cells #[] 2)) w2.heap.size (.slice (some ⟨w2.heap.size, 0, none⟩) 0 0) 0 (([] : List Int).map (.int .i64))) := Lib.hid (World.ownsRow_lit w2 #[] 0 (Nat.le_refl _) (by simp [maxLen]) rfl)
    have hB0 : Below w2.heap.size w2 (w2.alloc (.cells #[] 2)) := below_box2 _ _
    have HROW := Lib.hid (hrow.alloc (.cells #[] 2))
    have BW := Lib.hid (B1.out.trans ((hb2.trans (hB0.mono hs2)).mono B1.out.size))
    obtain ⟨B, hB⟩ : ∃ B, w2.heap.size = B := ⟨_, rfl⟩
    have hgB : g2 < B := by omega
    have hwB : w.heap.size ≤ B := by have := B1.out.size; omega
    have HO : Hid (Own (w2.alloc (.cells #[] 2)) B (.slice (some ⟨B, 0, none⟩) 0 0) 0 (([] : List Int).map (.int .i64))) := Lib.hid (by have := HO0.out; rwa [hB] at this)
    have hsW : (w2.alloc (.cells #[] 2)).heap.size = B + 1 := by rw [← hB]; simp
    clear hrow hb2 hB0 HO0
    go_wp2_with fail
    generalize w2.alloc (.cells #[] 2) = WS at *
    have HB : Hid (Below B WS WS) := Lib.hid (Below.refl _ _)
    go_loopw [7, 8] (fun vo vk wr => ∃ (k j : Nat) (A : Option Addr) (c : Nat), k ≤ m + 1 ∧ vk = .int .i64 (k : Int) ∧ vo = .slice A j c ∧ Hid ((vlL zs true k).length = j) ∧ Hid (Own wr B (.slice A j c) j ((vlL zs true k).map (.int .i64))) ∧ Hid (Below B WS wr)) (fun _ vk _ => m + 1 - (intOf vk).toNat)
    case atStart => exact ⟨0, 0, _, _, Nat.zero_le _, rfl, rfl, Lib.hid rfl, HO, HB⟩
    case round =>
      clear HO HB
      obtain ⟨k, j, A', c', hk, rfl, rfl, hj, ho, hb⟩ := hrel
      have hsz := hb.out.size
      by_cases hlt : k < m + 1
      · have hki : (k : Int) < (m : Int) + 1 := by omega
        have hjk := vlL_len zs true k
        rw [hj.out] at hjk
        have hck := (hb.out.cell (p := ⟨g2, k, none⟩) hgB).trans (HROW.out.cell hlt)
        rcases bool_fs (reB zs (k : Int)) with hre | hre
        · have HVL := Lib.hid (vlL_no (b := true) (by rw [hre]; decide))
          have HJ2 : Hid ((vlL zs true (k + 1)).length = j) := Lib.hid (by rw [HVL.out, hj.out])
          rw [hre] at hck
          clear hre
          go_wp2_with fail
          go_roundw
          case rel => exact ⟨k + 1, j, A', c', by omega, by go_num, rfl, HJ2, Lib.hid (by rw [HVL.out]; exact ho.out), hb⟩
          case measure => first | (simp [intOf]; done) | (simp [intOf]; omega)
        · have HVL := Lib.hid (vlL_yes hre)
          have HJ2 : Hid ((vlL zs true (k + 1)).length = j + 1) := Lib.hid (by rw [HVL.out, List.length_append, hj.out]; rfl)
          rw [hre] at hck
          clear hre
          go_wp2_with (at_builtin; refine wpList_append_own _ rfl _ _ 22 rfl B 2 i0 (.int .i64 0) 1 8 Try.underlying22 hi0 hz0 hz1 hz2 rfl ?_ _ j ((vlL zs true k).map (.int .i64)) rfl (World.ownsRow.alloc ho.out _) ⟨wr.heap.size, 0, none⟩ 1 1 [.int .i64 (k : Int)] rfl rfl ?_ ?_ ?_ ?_ ?_ ?_; (decide); (exact World.news_of_block (cs := #[.int .i64 (k : Int)]) (t := 2) (fr := (0, 0)) (heap_alloc_new wr _)); (simp [Value.oneCell']); (simp [maxLen]; omega); (omega); (simp; omega); intro v1 w5 hown1 hgrow _; obtain ⟨A1, c1, rfl⟩ := own_form (n := j + 1) hown1; have HO1 : Hid (Own w5 B (.slice A1 (j + 1) c1) (j + 1) ((vlL zs true (k + 1)).map (.int .i64))) := Lib.hid (by rw [HVL.out, List.map_append]; exact hown1); have hbn : Hid (Below B WS w5) := Lib.hid ((hb.out.alloc (by omega) _).grown hgrow (by simp; omega) (fun k hk => (Own.lt ho.out k hk).1)); clear hown1 hgrow)
          go_roundw
          case rel => exact ⟨k + 1, j + 1, A1, c1, by omega, by go_num, rfl, HJ2, HO1, hbn⟩
          case measure => first | (simp [intOf]; done) | (simp [intOf]; omega)
      · obtain rfl : k = m + 1 := by omega
        have hki : ¬ (((m + 1 : Nat) : Nat) : Int) < (m : Int) + 1 := by omega
        have HOO := Lib.hid (own_lessB (OwnI.mk' (lo := B) ho.out) (show w.heap.size ≤ B by omega))
        go_wp2_with fail
        go_ret2
        exact AnsIC.mk' (by rw [E.out.1]) (by rw [E.out.2]) HOO.out (BW.out.trans (hb.out.mono (by omega)))


set_option maxRecDepth 100000 in
set_option maxHeartbeats 2000000 in
theorem implValuesUpTo_any (v : Value) (zs : List Int) (x : Int) (w : World) (h : ReadI w w.heap.size v zs) (hn : zs.length ≤ 1048576) (hw : ∀ z ∈ zs, (Lit.int .i64 z).wf = true) (hwx : (Lit.int .i64 x).wf = true) :
    Calls Try.prog 21 #[.agg #[v], .int .i64 x] w (AnsIC w (vuA zs x) (ivC zs x)) := by
  have HWW := Lib.hid hw
  have HN0 := Lib.hid hn
  rcases bool_fs (brB zs) with hp | hp
  · have E := Lib.hid (vu_no (v := x) hp)
    have HP := Lib.hid hp
    obtain ⟨n, A, c, rfl, hr, HL, _, hnc, HF, hcm⟩ := h.split2
    obtain ⟨W0, HE⟩ : ∃ W, W = w.alloc (.cells #[.slice A n c] 28) := ⟨_, rfl⟩
    have hb0 : Below w.heap.size w W0 := by rw [HE]; exact below_box _ _
    have hq0 : BoxI W0 w.heap.size (.slice A n c) := by rw [HE]; exact BoxI.new _ _ _
    have H0 := Lib.hid ((h.below hb0).more hb0.size)
    have HEQ := Lib.hid HE
    clear h hr HE HF hn hw hp hwx
    go_enter Try.func21, Try.ntmps21
    go_wp2_with fail
    rw [← HEQ.out]
    refine (implIsBranch_if _ zs _ false H0.out HN0.out HWW.out HP.out).mono ?_
    rintro e w1 ⟨rfl, hb1⟩
    go_wp2_with fail
    go_ret2
    exact AnsIC.empty (by rw [E.out.1]) (by rw [E.out.2]) (hb0.trans (hb1.mono hb0.size))
  have HP := Lib.hid hp
  rcases bool_fs (semiB x) with hsb | hsb
  · have E := Lib.hid (vu_out hp hsb)
    have HSB := Lib.hid hsb
    obtain ⟨n, A, c, rfl, hr, HL, _, hnc, HF, hcm⟩ := h.split2
    obtain ⟨W0, HE⟩ : ∃ W, W = w.alloc (.cells #[.slice A n c] 28) := ⟨_, rfl⟩
    have hb0 : Below w.heap.size w W0 := by rw [HE]; exact below_box _ _
    have hq0 : BoxI W0 w.heap.size (.slice A n c) := by rw [HE]; exact BoxI.new _ _ _
    have H0 := Lib.hid ((h.below hb0).more hb0.size)
    have HEQ := Lib.hid HE
    clear h hr HE HF hn hw hp hwx hsb
    go_enter Try.func21, Try.ntmps21
    go_wp2_with fail
    rw [← HEQ.out]
    refine (implIsBranch_if _ zs _ true H0.out HN0.out HWW.out HP.out).mono ?_
    rintro e w1 ⟨rfl, hb1⟩
    have B1 := Lib.hid (hb0.trans (hb1.mono hb0.size))
    clear hb1 hb0 hq0
    go_wp2_with fail
    refine (semi_if x false w1 HSB.out).mono ?_
    rintro e w' ⟨rfl, rfl⟩
    go_wp2_with fail
    go_ret2
    exact AnsIC.empty (by rw [E.out.1]) (by rw [E.out.2]) B1.out
  · have HSB := Lib.hid hsb
    have hx := semiB_yes hsb
    obtain ⟨m, rfl⟩ : ∃ m : Nat, x = (m : Int) := ⟨x.toNat, by omega⟩
    have E := Lib.hid (vu_yes hp hsb)
    obtain ⟨n, A, c, rfl, hr, HL, _, hnc, HF, hcm⟩ := h.split2
    obtain ⟨W0, HE⟩ : ∃ W, W = w.alloc (.cells #[.slice A n c] 28) := ⟨_, rfl⟩
    have hb0 : Below w.heap.size w W0 := by rw [HE]; exact below_box _ _
    have hq0 : BoxI W0 w.heap.size (.slice A n c) := by rw [HE]; exact BoxI.new _ _ _
    have H0 := Lib.hid ((h.below hb0).more hb0.size)
    have HEQ := Lib.hid HE
    clear h hr HE HF hn hw hp hwx hsb
    go_enter Try.func21, Try.ntmps21
    go_wp2_with fail
    rw [← HEQ.out]
    refine (implIsBranch_if _ zs _ true H0.out HN0.out HWW.out HP.out).mono ?_
    rintro e w1 ⟨rfl, hb1⟩
    have cb1 : w1.cell? ⟨w.heap.size, 0, none⟩ = some (.slice A n c) := by rw [hb1.cell (p := ⟨w.heap.size, 0, none⟩) hq0.2]; exact hq0.1
    have H1 := Lib.hid ((H0.out.below hb1).more hb1.size)
    have B1 := Lib.hid (hb0.trans (hb1.mono hb0.size))
    have hw1 : w.heap.size < w1.heap.size := by have := hq0.2; have := hb1.size; omega
    clear hb1 hb0 HEQ hq0
    have pm : IntKind.i64.wrap ((m : Int) + 1) = (m : Int) + 1 := IntWalk.i64_in _ (by omega)
    go_wp2_with fail
    refine (semi_if (m : Int) true w1 HSB.out).mono ?_
    rintro e w' ⟨rfl, rfl⟩
    go_wp2_with fail
    refine (valueTest_any _ zs w1 H1.out HN0.out HP.out).mono ?_
    rintro e w2 ⟨p3, p4, rfl, hvt, hb2⟩
    have B2 := Lib.hid (B1.out.trans (hb2.mono B1.out.size))
    have HVT := Lib.hid hvt
    clear hb2 hvt
    go_wp2_with fail
    refine (below_values2 zs (m + 1) _ _ p3 p4 w2 HP.out HVT.out (Nat.le_refl _) (by omega) ((m : Int) + 1) (by omega)).mono ?_
    rintro e w3 ⟨v3, rfl, ho3, hb3⟩
    obtain ⟨A3, c3, rfl⟩ := own_form ho3.1
    have HO3 := Lib.hid (own_lessB ho3 (lo' := w.heap.size) B2.out.size)
    have B3 := Lib.hid (B2.out.trans (hb3.mono B2.out.size))
    clear ho3 hb3
    go_wp2_with fail
    go_ret2
    exact AnsIC.mk' (by rw [E.out.1]) (by rw [E.out.2]) HO3.out B3.out


set_option maxRecDepth 100000 in
set_option maxHeartbeats 2000000 in
theorem specGapsOf_any (v : Value) (zs : List Int) (w : World) (h : ReadI w w.heap.size v zs) (hn : zs.length ≤ 1048576) (hw : ∀ z ∈ zs, (Lit.int .i64 z).wf = true) :
    Calls Try.prog 26 #[.agg #[v]] w (AnsIC w (gpA zs) (gpC zs)) := by
  have HWW := Lib.hid hw
  have HN0 := Lib.hid hn
  rcases bool_fs (brB zs) with hp | hp
  · have E := Lib.hid (gp_no hp)
    have HP := Lib.hid hp
    obtain ⟨n, A, c, rfl, hr, HL, _, hnc, HF, hcm⟩ := h.split2
    obtain ⟨W0, HE⟩ : ∃ W, W = w.alloc (.cells #[.slice A n c] 28) := ⟨_, rfl⟩
    have hb0 : Below w.heap.size w W0 := by rw [HE]; exact below_box _ _
    have hq0 : BoxI W0 w.heap.size (.slice A n c) := by rw [HE]; exact BoxI.new _ _ _
    have H0 := Lib.hid ((h.below hb0).more hb0.size)
    have HEQ := Lib.hid HE
    clear h hr HE HF hn hw hp
    go_enter Try.func26, Try.ntmps26
    go_wp2_with fail
    rw [← HEQ.out]
    refine (l03Is_if _ zs _ false H0.out HN0.out HWW.out HP.out).mono ?_
    rintro e w1 ⟨rfl, hb1⟩
    go_wp2_with fail
    go_ret2
    exact AnsIC.empty (by rw [E.out.1]) (by rw [E.out.2]) (hb0.trans (hb1.mono hb0.size))
  have HP := Lib.hid hp
  have hc0 := cdB_nonneg hp
  by_cases hlim : cdB zs ≤ 20000
  · obtain ⟨m, hm⟩ : ∃ m : Nat, cdB zs = (m : Int) := ⟨(cdB zs).toNat, by omega⟩
    have E := Lib.hid (gp_yes hp hlim hm)
    have HMC := Lib.hid hm
    rw [hm] at hlim hc0
    clear hm
    obtain ⟨n, A, c, rfl, hr, HL, _, hnc, HF, hcm⟩ := h.split2
    obtain ⟨W0, HE⟩ : ∃ W, W = w.alloc (.cells #[.slice A n c] 28) := ⟨_, rfl⟩
    have hb0 : Below w.heap.size w W0 := by rw [HE]; exact below_box _ _
    have hq0 : BoxI W0 w.heap.size (.slice A n c) := by rw [HE]; exact BoxI.new _ _ _
    have H0 := Lib.hid ((h.below hb0).more hb0.size)
    have HEQ := Lib.hid HE
    clear h hr HE HF hn hw hp
    go_enter Try.func26, Try.ntmps26
    go_wp2_with fail
    rw [← HEQ.out]
    refine (l03Is_if _ zs _ true H0.out HN0.out HWW.out HP.out).mono ?_
    rintro e w1 ⟨rfl, hb1⟩
    have cb1 : w1.cell? ⟨w.heap.size, 0, none⟩ = some (.slice A n c) := by rw [hb1.cell (p := ⟨w.heap.size, 0, none⟩) hq0.2]; exact hq0.1
    have H1 := Lib.hid ((H0.out.below hb1).more hb1.size)
    have B1 := Lib.hid (hb0.trans (hb1.mono hb0.size))
    have hw1 : w.heap.size < w1.heap.size := by have := hq0.2; have := hb1.size; omega
    clear hb1 hb0 HEQ hq0
    go_wp2_with fail
    refine (l05Conductor_any _ zs w1 H1.out HN0.out HP.out).mono ?_
    rintro e w1' ⟨rfl, hb1'⟩
    rw [HMC.out]
    have cb2 := (hb1'.cell (p := ⟨w.heap.size, 0, none⟩) hw1).trans cb1
    have H2 := Lib.hid ((H1.out.below hb1').more hb1'.size)
    have B2 := Lib.hid (B1.out.trans (hb1'.mono B1.out.size))
    clear hb1' cb1
    go_wp2_with fail
    refine (l05Values_any _ zs m w1' H2.out HN0.out HP.out (by omega)).mono ?_
    rintro e w2 ⟨g2, rfl, hg1, hg2, hrow, hb2⟩
    obtain ⟨i0, hi0, hz0, hz1, hz2⟩ := info_parts int_info
    have hs2 := hb2.size
    have HO0 : Hid (Own (w2.alloc (.cells #[] 2)) w2.heap.size (.slice (some ⟨w2.heap.size, 0, none⟩) 0 0) 0 (([] : List Int).map (.int .i64))) := Lib.hid (World.ownsRow_lit w2 #[] 0 (Nat.le_refl _) (by simp [maxLen]) rfl)
    have hB0 : Below w2.heap.size w2 (w2.alloc (.cells #[] 2)) := below_box2 _ _
    have HROW := Lib.hid (hrow.alloc (.cells #[] 2))
    have BW := Lib.hid (B2.out.trans ((hb2.trans (hB0.mono hs2)).mono B2.out.size))
    obtain ⟨B, hB⟩ : ∃ B, w2.heap.size = B := ⟨_, rfl⟩
    have hgB : g2 < B := by omega
    have hwB : w.heap.size ≤ B := by have := B2.out.size; omega
    have HO : Hid (Own (w2.alloc (.cells #[] 2)) B (.slice (some ⟨B, 0, none⟩) 0 0) 0 (([] : List Int).map (.int .i64))) := Lib.hid (by have := HO0.out; rwa [hB] at this)
    have hsW : (w2.alloc (.cells #[] 2)).heap.size = B + 1 := by rw [← hB]; simp
    clear hrow hb2 hB0 HO0
    go_wp2_with fail
    generalize w2.alloc (.cells #[] 2) = WS at *
    have HB : Hid (Below B WS WS) := Lib.hid (Below.refl _ _)
    go_loopw [6, 7] (fun vo vk wr => ∃ (k j : Nat) (A : Option Addr) (c : Nat), k ≤ m + 1 ∧ vk = .int .i64 (k : Int) ∧ vo = .slice A j c ∧ Hid ((vlL zs false k).length = j) ∧ Hid (Own wr B (.slice A j c) j ((vlL zs false k).map (.int .i64))) ∧ Hid (Below B WS wr)) (fun _ vk _ => m + 1 - (intOf vk).toNat)
    case atStart => exact ⟨0, 0, _, _, Nat.zero_le _, rfl, rfl, Lib.hid rfl, HO, HB⟩
    case round =>
      clear HO HB
      obtain ⟨k, j, A', c', hk, rfl, rfl, hj, ho, hb⟩ := hrel
      have hsz := hb.out.size
      by_cases hlt : k < m + 1
      · have hki : (k : Int) < (m : Int) + 1 := by omega
        have hjk := vlL_len zs false k
        rw [hj.out] at hjk
        have hck := (hb.out.cell (p := ⟨g2, k, none⟩) hgB).trans (HROW.out.cell hlt)
        rcases bool_fs (reB zs (k : Int)) with hre | hre
        · have HVL := Lib.hid (vlL_yes hre)
          have HJ2 : Hid ((vlL zs false (k + 1)).length = j + 1) := Lib.hid (by rw [HVL.out, List.length_append, hj.out]; rfl)
          rw [hre] at hck
          clear hre
          go_wp2_with (at_builtin; refine wpList_append_own _ rfl _ _ 22 rfl B 2 i0 (.int .i64 0) 1 8 Try.underlying22 hi0 hz0 hz1 hz2 rfl ?_ _ j ((vlL zs false k).map (.int .i64)) rfl (World.ownsRow.alloc ho.out _) ⟨wr.heap.size, 0, none⟩ 1 1 [.int .i64 (k : Int)] rfl rfl ?_ ?_ ?_ ?_ ?_ ?_; (decide); (exact World.news_of_block (cs := #[.int .i64 (k : Int)]) (t := 2) (fr := (0, 0)) (heap_alloc_new wr _)); (simp [Value.oneCell']); (simp [maxLen]; omega); (omega); (simp; omega); intro v1 w5 hown1 hgrow _; obtain ⟨A1, c1, rfl⟩ := own_form (n := j + 1) hown1; have HO1 : Hid (Own w5 B (.slice A1 (j + 1) c1) (j + 1) ((vlL zs false (k + 1)).map (.int .i64))) := Lib.hid (by rw [HVL.out, List.map_append]; exact hown1); have hbn : Hid (Below B WS w5) := Lib.hid ((hb.out.alloc (by omega) _).grown hgrow (by simp; omega) (fun k hk => (Own.lt ho.out k hk).1)); clear hown1 hgrow)
          go_roundw
          case rel => exact ⟨k + 1, j + 1, A1, c1, by omega, by go_num, rfl, HJ2, HO1, hbn⟩
          case measure => first | (simp [intOf]; done) | (simp [intOf]; omega)
        · have HVL := Lib.hid (vlL_no (b := false) (by rw [hre]; decide))
          have HJ2 : Hid ((vlL zs false (k + 1)).length = j) := Lib.hid (by rw [HVL.out, hj.out])
          rw [hre] at hck
          clear hre
          go_wp2_with fail
          go_roundw
          case rel => exact ⟨k + 1, j, A', c', by omega, by go_num, rfl, HJ2, Lib.hid (by rw [HVL.out]; exact ho.out), hb⟩
          case measure => first | (simp [intOf]; done) | (simp [intOf]; omega)
      · obtain rfl : k = m + 1 := by omega
        have hki : ¬ (((m + 1 : Nat) : Nat) : Int) < (m : Int) + 1 := by omega
        have HOO := Lib.hid (own_lessB (OwnI.mk' (lo := B) ho.out) (show w.heap.size ≤ B by omega))
        go_wp2_with fail
        go_ret2
        exact AnsIC.mk' (by rw [E.out.1, vlL_cond HP.out HMC.out.symm]) (by rw [E.out.2]) HOO.out (BW.out.trans (hb.out.mono (by omega)))

  · have E := Lib.hid (gp_out hp hlim)
    have hgt : (20000 : Int) < cdB zs := by omega
    clear hc0
    obtain ⟨n, A, c, rfl, hr, HL, _, hnc, HF, hcm⟩ := h.split2
    obtain ⟨W0, HE⟩ : ∃ W, W = w.alloc (.cells #[.slice A n c] 28) := ⟨_, rfl⟩
    have hb0 : Below w.heap.size w W0 := by rw [HE]; exact below_box _ _
    have hq0 : BoxI W0 w.heap.size (.slice A n c) := by rw [HE]; exact BoxI.new _ _ _
    have H0 := Lib.hid ((h.below hb0).more hb0.size)
    have HEQ := Lib.hid HE
    clear h hr HE HF hn hw hp
    go_enter Try.func26, Try.ntmps26
    go_wp2_with fail
    rw [← HEQ.out]
    refine (l03Is_if _ zs _ true H0.out HN0.out HWW.out HP.out).mono ?_
    rintro e w1 ⟨rfl, hb1⟩
    have cb1 : w1.cell? ⟨w.heap.size, 0, none⟩ = some (.slice A n c) := by rw [hb1.cell (p := ⟨w.heap.size, 0, none⟩) hq0.2]; exact hq0.1
    have H1 := Lib.hid ((H0.out.below hb1).more hb1.size)
    have B1 := Lib.hid (hb0.trans (hb1.mono hb0.size))
    have hw1 : w.heap.size < w1.heap.size := by have := hq0.2; have := hb1.size; omega
    clear hb1 hb0 HEQ hq0
    go_wp2_with fail
    refine (l05Conductor_any _ zs w1 H1.out HN0.out HP.out).mono ?_
    rintro e w1' ⟨rfl, hb1'⟩
    have B2 := Lib.hid (B1.out.trans (hb1'.mono B1.out.size))
    clear hb1' cb1 hlim
    generalize cdB zs = cc at *
    go_wp2_with fail
    go_ret2
    exact AnsIC.empty (by rw [E.out.1]) (by rw [E.out.2]) B2.out

set_option maxRecDepth 100000 in
set_option maxHeartbeats 2000000 in
theorem implGapsOf_any (v : Value) (zs : List Int) (w : World) (h : ReadI w w.heap.size v zs) (hn : zs.length ≤ 1048576) (hw : ∀ z ∈ zs, (Lit.int .i64 z).wf = true) :
    Calls Try.prog 27 #[.agg #[v]] w (AnsIC w (gpA zs) (gpC zs)) := by
  have HWW := Lib.hid hw
  have HN0 := Lib.hid hn
  rcases bool_fs (brB zs) with hp | hp
  · have E := Lib.hid (gp_no hp)
    have HP := Lib.hid hp
    obtain ⟨n, A, c, rfl, hr, HL, _, hnc, HF, hcm⟩ := h.split2
    obtain ⟨W0, HE⟩ : ∃ W, W = w.alloc (.cells #[.slice A n c] 28) := ⟨_, rfl⟩
    have hb0 : Below w.heap.size w W0 := by rw [HE]; exact below_box _ _
    have hq0 : BoxI W0 w.heap.size (.slice A n c) := by rw [HE]; exact BoxI.new _ _ _
    have H0 := Lib.hid ((h.below hb0).more hb0.size)
    have HEQ := Lib.hid HE
    clear h hr HE HF hn hw hp
    go_enter Try.func27, Try.ntmps27
    go_wp2_with fail
    rw [← HEQ.out]
    refine (implIsBranch_if _ zs _ false H0.out HN0.out HWW.out HP.out).mono ?_
    rintro e w1 ⟨rfl, hb1⟩
    go_wp2_with fail
    go_ret2
    exact AnsIC.empty (by rw [E.out.1]) (by rw [E.out.2]) (hb0.trans (hb1.mono hb0.size))
  have HP := Lib.hid hp
  have hc0 := cdB_nonneg hp
  by_cases hlim : cdB zs ≤ 20000
  · obtain ⟨m, hm⟩ : ∃ m : Nat, cdB zs = (m : Int) := ⟨(cdB zs).toNat, by omega⟩
    have E := Lib.hid (gp_yes hp hlim hm)
    have HMC := Lib.hid hm
    rw [hm] at hlim hc0
    clear hm
    obtain ⟨n, A, c, rfl, hr, HL, _, hnc, HF, hcm⟩ := h.split2
    obtain ⟨W0, HE⟩ : ∃ W, W = w.alloc (.cells #[.slice A n c] 28) := ⟨_, rfl⟩
    have hb0 : Below w.heap.size w W0 := by rw [HE]; exact below_box _ _
    have hq0 : BoxI W0 w.heap.size (.slice A n c) := by rw [HE]; exact BoxI.new _ _ _
    have H0 := Lib.hid ((h.below hb0).more hb0.size)
    have HEQ := Lib.hid HE
    clear h hr HE HF hn hw hp
    go_enter Try.func27, Try.ntmps27
    go_wp2_with fail
    rw [← HEQ.out]
    refine (implIsBranch_if _ zs _ true H0.out HN0.out HWW.out HP.out).mono ?_
    rintro e w1 ⟨rfl, hb1⟩
    have cb1 : w1.cell? ⟨w.heap.size, 0, none⟩ = some (.slice A n c) := by rw [hb1.cell (p := ⟨w.heap.size, 0, none⟩) hq0.2]; exact hq0.1
    have H1 := Lib.hid ((H0.out.below hb1).more hb1.size)
    have B1 := Lib.hid (hb0.trans (hb1.mono hb0.size))
    have hw1 : w.heap.size < w1.heap.size := by have := hq0.2; have := hb1.size; omega
    clear hb1 hb0 HEQ hq0
    go_wp2_with fail
    refine (conductor_any _ zs w1 H1.out HN0.out HP.out).mono ?_
    rintro e w1' ⟨rfl, hb1'⟩
    rw [HMC.out]
    have cb2 := (hb1'.cell (p := ⟨w.heap.size, 0, none⟩) hw1).trans cb1
    have H2 := Lib.hid ((H1.out.below hb1').more hb1'.size)
    have B2 := Lib.hid (B1.out.trans (hb1'.mono B1.out.size))
    clear hb1' cb1
    have hmf : ∀ (fn : Fn) (first cap : Array Value) (w : World), (Instr.makeFunc fn first cap).run Try.prog w = .ok (.func fn first cap) w := fun _ _ _ _ => rfl
    go_wp2_with fail
    refine (valueTest_any _ zs w1' H2.out HN0.out HP.out).mono ?_
    rintro e w2 ⟨p3, p4, rfl, hvt, hb2⟩
    have B3 := Lib.hid (B2.out.trans (hb2.mono B2.out.size))
    have HVT := Lib.hid hvt
    have hs2 := hb2.size
    clear hb2 hvt
    go_wp2_with fail
    clear hmf
    obtain ⟨W3, HW3⟩ : ∃ W, W = w2.alloc (.cells #[.func (.func 116) #[] #[.pointer (some ⟨p3, 0, none⟩), .pointer (some ⟨p4, 0, none⟩)]] 65) := ⟨_, rfl⟩
    have hb3 : Below w2.heap.size w2 W3 := by rw [HW3]; exact below_box2 _ _
    have hq3 : W3.cell? ⟨w2.heap.size, 0, none⟩ = some (.func (.func 116) #[] #[.pointer (some ⟨p3, 0, none⟩), .pointer (some ⟨p4, 0, none⟩)]) := by rw [HW3]; exact (BoxI.new _ _ _).1
    have hs3 : W3.heap.size = w2.heap.size + 1 := by rw [HW3]; simp
    have HGT : Hid (GT W3 w1'.heap.size W3.heap.size zs w2.heap.size) := Lib.hid ⟨⟨by omega, by omega⟩, p3, p4, hq3, (HVT.out.kept (Kept.of_below hb3 (Nat.le_refl _))).wide (Nat.le_refl _) (by omega)⟩
    have B4 := Lib.hid (B3.out.trans (hb3.mono B3.out.size))
    rw [← HW3]
    clear HW3 hb3 hq3
    refine (below_gaps zs m _ _ w2.heap.size W3 HP.out HGT.out (Nat.le_refl _) (by omega)).mono ?_
    rintro e w4 ⟨v4, rfl, ho4, hb4⟩
    obtain ⟨A4, c4, rfl⟩ := own_form ho4.1
    have HO4 := Lib.hid (own_lessB ho4 (lo' := w.heap.size) B4.out.size)
    have B5 := Lib.hid (B4.out.trans (hb4.mono B4.out.size))
    clear ho4 hb4
    go_wp2_with fail
    go_ret2
    exact AnsIC.mk' (by rw [E.out.1]) (by rw [E.out.2]) HO4.out B5.out

  · have E := Lib.hid (gp_out hp hlim)
    have hgt : (20000 : Int) < cdB zs := by omega
    clear hc0
    obtain ⟨n, A, c, rfl, hr, HL, _, hnc, HF, hcm⟩ := h.split2
    obtain ⟨W0, HE⟩ : ∃ W, W = w.alloc (.cells #[.slice A n c] 28) := ⟨_, rfl⟩
    have hb0 : Below w.heap.size w W0 := by rw [HE]; exact below_box _ _
    have hq0 : BoxI W0 w.heap.size (.slice A n c) := by rw [HE]; exact BoxI.new _ _ _
    have H0 := Lib.hid ((h.below hb0).more hb0.size)
    have HEQ := Lib.hid HE
    clear h hr HE HF hn hw hp
    go_enter Try.func27, Try.ntmps27
    go_wp2_with fail
    rw [← HEQ.out]
    refine (implIsBranch_if _ zs _ true H0.out HN0.out HWW.out HP.out).mono ?_
    rintro e w1 ⟨rfl, hb1⟩
    have cb1 : w1.cell? ⟨w.heap.size, 0, none⟩ = some (.slice A n c) := by rw [hb1.cell (p := ⟨w.heap.size, 0, none⟩) hq0.2]; exact hq0.1
    have H1 := Lib.hid ((H0.out.below hb1).more hb1.size)
    have B1 := Lib.hid (hb0.trans (hb1.mono hb0.size))
    have hw1 : w.heap.size < w1.heap.size := by have := hq0.2; have := hb1.size; omega
    clear hb1 hb0 HEQ hq0
    go_wp2_with fail
    refine (conductor_any _ zs w1 H1.out HN0.out HP.out).mono ?_
    rintro e w1' ⟨rfl, hb1'⟩
    have B2 := Lib.hid (B1.out.trans (hb1'.mono B1.out.size))
    clear hb1' cb1 hlim
    generalize cdB zs = cc at *
    go_wp2_with fail
    go_ret2
    exact AnsIC.empty (by rw [E.out.1]) (by rw [E.out.2]) B2.out
end Go.Proofs.Ytncgkoanckefmaa
