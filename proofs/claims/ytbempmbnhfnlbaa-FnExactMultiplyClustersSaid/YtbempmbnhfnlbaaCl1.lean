/- Clusters: satellites, delta invariants: contracts. Conditions: stated at each theorem. -/
import Derived.Test.YtbempmbnhfnlbaaClZ
namespace Go.Proofs.Ytbempmbnhfnlbaa
open Go.ChangeShapes Go.WideShapes Go.ChangeAt Go.RowKit Go.Deep
set_option linter.unusedVariables false
set_option linter.unusedSimpArgs false

/-- The satellites before k. -/
def satL (S : List Int) : Nat → List Int
  | 0 => []
  | k + 1 => satL S k ++ if 0 ≤ S[k]?.getD 0 then [(k : Int)] else []
theorem satL_len (S : List Int) : ∀ k, (satL S k).length ≤ k
  | 0 => Nat.le_refl _
  | k + 1 => by
    have := satL_len S k
    show (satL S k ++ _).length ≤ k + 1
    rw [List.length_append]; split <;> simp <;> omega
theorem satL_yes {S : List Int} {k : Nat} (h : 0 ≤ S[k]?.getD 0) : satL S (k + 1) = satL S k ++ [(k : Int)] := by show satL S k ++ _ = _; rw [if_pos h]
theorem satL_no {S : List Int} {k : Nat} (h : ¬ 0 ≤ S[k]?.getD 0) : satL S (k + 1) = satL S k := by show satL S k ++ _ = _; rw [if_neg h]; simp
def saA (P S W : List Int) : List Int := if clB P S W then satL S P.length else []
theorem saA_no {P S W : List Int} (h : clB P S W = false) : saA P S W = [] := by simp [saA, h]
theorem saA_yes {P S W : List Int} {n : Nat} (h : ClOK P S W n) : saA P S W = satL S n := by simp [saA, h.b, h.p]
theorem saA_len (P S W : List Int) : (saA P S W).length ≤ 24 := by
  cases h : clB P S W with
  | false => rw [saA_no h]; simp
  | true => obtain ⟨n, hC⟩ := clB_true h; rw [saA_yes hC]; exact Nat.le_trans (satL_len _ _) hC.hi
/-- The sum of w (w - 1) / 2 over the first k weights. -/
def dlN (W : List Int) : Nat → Int
  | 0 => 0
  | k + 1 => dlN W k + W[k]?.getD 0 * (W[k]?.getD 0 - 1) / 2
theorem sq_rng {z : Int} (h : -100000 ≤ z ∧ z ≤ 100000) : 0 ≤ z * (z - 1) ∧ z * (z - 1) ≤ 10000100000 := by
  by_cases h0 : z ≤ 0
  · have h1 : 0 ≤ (-z) * (1 - z) := Int.mul_nonneg (by omega) (by omega)
    have h2 : (-z) * (1 - z) ≤ 100000 * 100001 := Int.mul_le_mul (by omega) (by omega) (by omega) (by omega)
    have h3 : (-z) * (1 - z) = z * (z - 1) := by rw [Int.neg_mul, Int.mul_sub, Int.mul_sub]; omega
    rw [h3] at h1 h2; omega
  · have h1 : 0 ≤ z * (z - 1) := Int.mul_nonneg (by omega) (by omega)
    have h2 : z * (z - 1) ≤ 100000 * 99999 := Int.mul_le_mul (by omega) (by omega) (by omega) (by omega)
    omega
theorem dlN_rng {W : List Int} (h : wtOK W = true) : ∀ k, 0 ≤ dlN W k ∧ dlN W k ≤ 5000050000 * k
  | 0 => by simp [dlN]
  | k + 1 => by
    have h1 := dlN_rng h k
    have h2 := sq_rng (wt_rng h k)
    have e : (5000050000 : Int) * ((k + 1 : Nat) : Int) = 5000050000 * (k : Int) + 5000050000 := by push_cast; omega
    show 0 ≤ dlN W k + _ ∧ dlN W k + _ ≤ _
    omega
def deA (P S W : List Int) : Int := if clB P S W then dlN W P.length else 0
theorem deA_no {P S W : List Int} (h : clB P S W = false) : deA P S W = 0 := by simp [deA, h]
theorem deA_yes {P S W : List Int} {n : Nat} (h : ClOK P S W n) : deA P S W = dlN W n := by simp [deA, h.b, h.p]

set_option maxRecDepth 100000 in
set_option maxHeartbeats 4000000 in
theorem implSatellitesOf_any (a b c : Value) (P S W : List Int) (w : World) (h : ReadC w w.heap.size a b c P S W) (hP : P.length ≤ 1048576) (hS : S.length ≤ 1048576) (hW : W.length ≤ 1048576) (hwp : ∀ z ∈ P, (Lit.int .i64 z).wf = true) (hws : ∀ z ∈ S, (Lit.int .i64 z).wf = true) (hww : ∀ z ∈ W, (Lit.int .i64 z).wf = true) :
    Calls Try.prog 34 #[.agg #[a, b, c]] w (AnsIC w (saA P S W) (clC P S W)) := by
  obtain ⟨W0, HE⟩ : ∃ V, V = w.alloc (.cells #[a, b, c] 26) := ⟨_, rfl⟩
  have hb0 : Below w.heap.size w W0 := by rw [HE]; exact below_box2 _ _
  have hx : CBox W0 w.heap.size a b c := by rw [HE]; exact CBox.new _ _ _ _ _
  have HR := Lib.hid ((h.below hb0).more hb0.size)
  have HB := Lib.hid hb0
  have HEQ := Lib.hid HE
  have HX := Lib.hid hx
  have x0 := hx.c0; have x1 := hx.c1; have x2 := hx.c2; have hxl := hx.lt
  clear h hb0 hx HE hwp hws hww
  rcases bool_fs (clB P S W) with hp | hp
  · have HA := Lib.hid (saA_no (P := P) (S := S) (W := W) hp); have HK := Lib.hid (clC_no hp)
    have HP := Lib.hid hp
    clear hp
    go_enter Try.func34, Try.ntmps34
    go_wp2_with fail
    rw [← HEQ.out]
    refine (linked_if a b c P S W W0 HR.out hP hS hW false HP.out).mono ?_
    rintro e w1 ⟨g, A, na, ca, D, nd, cd, rfl, hb1, _⟩
    have HB1 := Lib.hid ((HB.out.trans (hb1.mono HB.out.size)).alloc (by have := HB.out.size; have := hb1.size; omega) (.cells #[.slice A na ca, .slice D nd cd] 78))
    clear hb1
    go_wp2_with fail
    go_ret2
    exact AnsIC.empty HA.out.symm HK.out.symm HB1.out
  · obtain ⟨n, hC⟩ := clB_true hp
    have hpn := hC.p
    have hn1 := hC.lo
    have hn := hC.hi
    have HC := Lib.hid hC
    have HP := Lib.hid hp
    clear hp hC
    go_enter Try.func34, Try.ntmps34
    go_wp2_with fail
    rw [← HEQ.out]
    refine (linked_if a b c P S W W0 HR.out hP hS hW true HP.out).mono ?_
    rintro e w1 ⟨g, A, na, ca, D, nd, cd, rfl, hb1, hyes⟩
    obtain ⟨e1, rfl, hg0, hg1, hpt⟩ := hyes rfl
    rw [hpn] at e1 hpt
    simp only [Value.slice.injEq] at e1
    obtain ⟨rfl, e1b, e1c⟩ := e1
    replace e1b := e1b.symm
    replace e1c := e1c.symm
    subst e1b
    subst e1c
    have hB1 := HB.out.trans (hb1.mono HB.out.size)
    have hR1 := (HR.out.below hb1).more hb1.size
    have hX1 := HX.out.below hb1
    obtain ⟨W1, HE1⟩ : ∃ V, V = w1.alloc (.cells #[.slice (some ⟨g, 0, none⟩) n n, .slice D nd cd] 78) := ⟨_, rfl⟩
    have hb2 : Below w1.heap.size w1 W1 := by rw [HE1]; exact below_box2 _ _
    have z0 : W1.cell? ⟨w1.heap.size, 0, none⟩ = some (.slice (some ⟨g, 0, none⟩) n n) := by rw [HE1]; go_simp
    have z1 : W1.cell? ⟨w1.heap.size, 1, none⟩ = some (.slice D nd cd) := by rw [HE1]; go_simp
    have hzl : w1.heap.size < W1.heap.size := by rw [HE1]; simp
    have HB1 := Lib.hid (hB1.trans (hb2.mono hB1.size))
    have HR1 := Lib.hid ((hR1.below hb2).more hb2.size)
    have HPT : Hid (PtsAt W1 g n n P S) := Lib.hid (rowIs_below hpt hg1 hb2)
    have hX2 := hX1.below hb2
    have y0 := hX2.c0; have y1 := hX2.c1; have y2 := hX2.c2; have hyl := hX2.lt
    have HX1 := Lib.hid hX2
    have HEQ1 := Lib.hid HE1
    have hgl : g < W1.heap.size := by omega
    have q0 := hX1.c0; have q1 := hX1.c1; have q2 := hX1.c2; have ql := hX1.lt
    clear hb1 hb2 hX1 hX2 hB1 hR1 hpt hyes HE1 hg1
    go_wp2_with fail
    rw [← HEQ1.out]
    clear q0 q1 q2 ql x0 x1 x2
    have HA : Hid (saA P S W = satL S n) := Lib.hid (saA_yes HC.out)
    have HK : Hid (clC P S W = 0) := Lib.hid (clC_yes HP.out)
    have HL0 : Hid (satL S 0 = []) := Lib.hid rfl
    obtain ⟨i0, hi0, hy0, hy1, hy2⟩ := info_parts int_info
    have HCM := Lib.hid (HPT.out.cells (Nat.le_refl n) hgl)
    obtain ⟨B0, hB0⟩ : ∃ B, B = W1.heap.size := ⟨_, rfl⟩
    have hbs1 : w.heap.size ≤ B0 := by rw [hB0]; exact HB1.out.size
    have HOW0 : Hid (OwnI W1 B0 W1.heap.size (.slice none 0 0) (satL S 0)) := Lib.hid (OwnI.nil _ _)
    have HBB0 : Hid (Below B0 W1 W1) := Lib.hid (Below.refl _ _)
    have HB0E := Lib.hid hB0
    clear hB0
    go_wp2_with fail
    go_loopw [6, 19] (fun vo vi wr => ∃ (k N : Nat) (A : Option Addr) (c' : Nat), k ≤ n ∧ (satL S k).length = N ∧ vo = .slice A N c' ∧ vi = .int .i64 k ∧ Hid (OwnI wr B0 wr.heap.size (.slice A N c') (satL S k)) ∧ Hid (Below B0 W1 wr)) (fun _ vi _ => n - (intOf vi).toNat)
    case atStart => exact ⟨0, 0, none, 0, by omega, rfl, rfl, rfl, HOW0, HBB0⟩
    case round =>
      obtain ⟨k, N, A, c', hk, hN, rfl, rfl, how, hb⟩ := hrel
      by_cases hkn : k < n
      · have hkn2 : (k : Int) < (n : Int) := by omega
        have hCW := HCM.out.below (hb.out.mono (by rw [HB0E.out]; exact Nat.le_refl _))
        have d0 := hCW.num k hkn
        have d1 := hCW.par k hkn
        have d2 := hCW.sec k hkn
        have hsc := sec_lt HC.out.ok hkn
        obtain ⟨X, HXe⟩ : ∃ X, X = (satL S k).map (Value.int .i64) := ⟨_, rfl⟩
        have hNl := satL_len S k
        have hown := how.out.1
        rw [hN, ← HXe] at hown
        have HOW : Hid (Own wr B0 (.slice A N c') N X) := Lib.hid hown
        have HXE := Lib.hid HXe
        have hNk : N ≤ k := by rw [← hN]; exact hNl
        have HNE := Lib.hid hN
        have hbw := hb.out.size
        have hB0w : B0 ≤ wr.heap.size := by rw [HB0E.out]; exact hbw
        clear hown HXe hN hNl
        obtain ⟨pa, hpa⟩ : ∃ x, ptA g (P[k]?.getD 0) = x := ⟨_, rfl⟩
        rw [hpa] at d1
        have hws : w1.heap.size < wr.heap.size := by omega
        clear hpa hCW
        rcases hsc with hs1 | ⟨_, p, s, _, _, hs1, _, _⟩
        · rw [hs1, ptA_none] at d2
          have HN2 : Hid (satL S (k + 1) = satL S k) := Lib.hid (satL_no (by omega))
          have HBN : Hid (Below B0 W1 (wr.alloc (.cells #[.int .i64 k, .pointer pa, .pointer none] 90))) := Lib.hid (hb.out.alloc (by have := hb.out.size; rw [HB0E.out]; omega) _)
          have HOWN : Hid (OwnI (wr.alloc (.cells #[.int .i64 k, .pointer pa, .pointer none] 90)) B0 (wr.alloc (.cells #[.int .i64 k, .pointer pa, .pointer none] 90)).heap.size (.slice A N c') (satL S (k + 1))) := Lib.hid (by rw [HN2.out]; exact OwnI.raise (how.out.stay (below_box2 wr _)) (by simp) (Nat.le_refl _))
          clear hs1
          go_wp2_with fail
          go_roundw
          case rel => exact ⟨k + 1, N, A, c', by omega, by rw [HN2.out]; exact HNE.out, rfl, by go_num, HOWN, HBN⟩
          case measure => simp [intOf]; omega
        · rw [hs1, ptA_nat] at d2
          have HN2 : Hid (satL S (k + 1) = satL S k ++ [(k : Int)]) := Lib.hid (satL_yes (by omega))
          clear hs1
          go_wp2_with (at_builtin; (refine wpList_append_own _ rfl _ _ 24 rfl (B0) 2 i0 (.int .i64 0) 1 8 Try.underlying24 hi0 hy0 hy1 hy2 rfl (by decide) _ N X rfl (World.ownsRow.alloc (World.ownsRow.alloc HOW.out _) _) ⟨wr.heap.size + 1, 0, none⟩ 1 1 [.int .i64 (k)] rfl rfl (World.news_of_block (cs := #[.int .i64 (k)]) (t := 2) (fr := (0, 0)) ((by have h8 := heap_alloc_new (wr.alloc (.cells #[.int .i64 k, .pointer pa, .pointer (some ⟨g, s * 3, none⟩)] 90)) (.cells #[.int .i64 k] 2); simpa using h8))) (by simp [Value.oneCell']) (by simp only [maxLen]; omega) (by omega) (by simp <;> omega) ?_; intro v1 w4 hown1 hgrow _; obtain ⟨A4, c4, rfl⟩ := own_form hown1; have HO4 := Lib.hid hown1; have HB4 := Lib.hid (((hb.out.alloc hB0w _).alloc (by simp; omega) _).grown hgrow (by simp <;> omega) (fun kk hkk => (World.ownsRow.lt HOW.out kk hkk).1)); clear hown1 hgrow))
          go_roundw
          case rel => exact ⟨k + 1, N + 1, A4, c4, by omega, by rw [HN2.out, List.length_append, HNE.out]; rfl, rfl, by go_num, Lib.hid (by rw [HN2.out]; exact OwnI.mk' (n := N + 1) (by rw [List.map_append, ← HXE.out]; exact HO4.out)), HB4⟩
          case measure => simp [intOf]; omega
      · obtain rfl : k = n := by omega
        go_wp2_with fail
        go_ret2
        exact AnsIC.mk' HA.out.symm HK.out.symm (own_less how.out hbs1) (HB1.out.trans (hb.out.mono hbs1))
set_option maxRecDepth 100000 in
set_option maxHeartbeats 4000000 in
theorem specSatellitesOf_any (a b c : Value) (P S W : List Int) (w : World) (h : ReadC w w.heap.size a b c P S W) (hP : P.length ≤ 1048576) (hS : S.length ≤ 1048576) (hW : W.length ≤ 1048576) (hwp : ∀ z ∈ P, (Lit.int .i64 z).wf = true) (hws : ∀ z ∈ S, (Lit.int .i64 z).wf = true) (hww : ∀ z ∈ W, (Lit.int .i64 z).wf = true) :
    Calls Try.prog 72 #[.agg #[a, b, c]] w (AnsIC w (saA P S W) (clC P S W)) := by
  obtain ⟨W0, HE⟩ : ∃ V, V = w.alloc (.cells #[a, b, c] 26) := ⟨_, rfl⟩
  have hb0 : Below w.heap.size w W0 := by rw [HE]; exact below_box2 _ _
  have hx : CBox W0 w.heap.size a b c := by rw [HE]; exact CBox.new _ _ _ _ _
  have HR := Lib.hid ((h.below hb0).more hb0.size)
  have HB := Lib.hid hb0
  have HEQ := Lib.hid HE
  have HX := Lib.hid hx
  have x0 := hx.c0; have x1 := hx.c1; have x2 := hx.c2; have hxl := hx.lt
  clear h hb0 hx HE hwp hws hww
  rcases bool_fs (clB P S W) with hp | hp
  · have HA := Lib.hid (saA_no (P := P) (S := S) (W := W) hp); have HK := Lib.hid (clC_no hp)
    have HP := Lib.hid hp
    clear hp
    go_enter Try.func72, Try.ntmps72
    go_wp2_with fail
    rw [← HEQ.out]
    refine (l07Is_if a b c P S W W0 HR.out hP hS hW false HP.out).mono ?_
    rintro e w1 ⟨rfl, hb1⟩
    have HB1 := Lib.hid (HB.out.trans (hb1.mono HB.out.size))
    clear hb1
    go_wp2_with fail
    go_ret2
    exact AnsIC.empty HA.out.symm HK.out.symm HB1.out
  · obtain ⟨n, hC⟩ := clB_true hp
    have HC := Lib.hid hC
    have HP := Lib.hid hp
    clear hp hC
    go_enter Try.func72, Try.ntmps72
    go_wp2_with fail
    rw [← HEQ.out]
    refine (l07Is_if a b c P S W W0 HR.out hP hS hW true HP.out).mono ?_
    rintro e w1 ⟨rfl, hb1⟩
    have HB1 := Lib.hid (HB.out.trans (hb1.mono HB.out.size))
    have HR1 := Lib.hid ((HR.out.below hb1).more hb1.size)
    have hX1 := HX.out.below hb1
    have y0 := hX1.c0; have y1 := hX1.c1; have y2 := hX1.c2; have hyl := hX1.lt
    have HX1 := Lib.hid hX1
    clear hb1 hX1
    have HA : Hid (saA P S W = satL S n) := Lib.hid (saA_yes HC.out)
    have HK : Hid (clC P S W = 0) := Lib.hid (clC_yes HP.out)
    have HL0 : Hid (satL S 0 = []) := Lib.hid rfl
    obtain ⟨i0, hi0, hy0, hy1, hy2⟩ := info_parts int_info
    have hn := HC.out.hi
    have hn1 := HC.out.lo
    obtain ⟨A1, c1, hb1, _⟩ := id HR1.out.2.1
    have h1 := HR1.out.2.1
    have HCP := HR1
    rw [hb1] at h1
    rw [HC.out.s] at h1
    obtain ⟨g1, o1, e1, H1, hg1⟩ := cells_ofC h1 HC.out.s hn1
    subst e1
    rw [HC.out.s] at hb1
    subst hb1
    obtain ⟨B0, hB0⟩ : ∃ B, B = w1.heap.size := ⟨_, rfl⟩
    have hbs1 : w.heap.size ≤ B0 := by rw [hB0]; exact HB1.out.size
    have HOW0 : Hid (OwnI (w1.alloc (.cells #[] 2)) B0 (w1.alloc (.cells #[] 2)).heap.size (.slice (some ⟨w1.heap.size, 0, none⟩) 0 0) (satL S 0)) := Lib.hid (OwnI.mk' (n := 0) (by
      rw [hB0]
      have := World.ownsRow_lit (e := 2) (size := 1) w1 #[] 0 (Nat.le_refl _) (by simp [maxLen]) rfl
      simpa [Own, satL] using this))
    have HBB0 : Hid (Below B0 w1 (w1.alloc (.cells #[] 2))) := Lib.hid ((Below.refl _ _).alloc (by rw [hB0]; exact Nat.le_refl _) _)
    have HB0E := Lib.hid hB0
    clear hB0 h1
    go_wp2_with fail
    go_loopw [4, 5] (fun vo vi wr => ∃ (k N : Nat) (A : Option Addr) (c' : Nat), k ≤ n ∧ (satL S k).length = N ∧ vo = .slice A N c' ∧ vi = .int .i64 k ∧ Hid (OwnI wr B0 wr.heap.size (.slice A N c') (satL S k)) ∧ Hid (Below B0 w1 wr)) (fun _ vi _ => n - (intOf vi).toNat)
    case atStart => exact ⟨0, 0, _, _, by omega, rfl, rfl, rfl, HOW0, HBB0⟩
    case round =>
      obtain ⟨k, N, A, c', hk, hN, rfl, rfl, how, hb⟩ := hrel
      have hbm := hb.out.mono (show w1.heap.size ≤ B0 by rw [HB0E.out]; exact Nat.le_refl _)
      have hXr := HX1.out.below hbm
      have u1 := hXr.c1; have ul := hXr.lt
      by_cases hkn : k < n
      · have hkn2 : (k : Int) < (n : Int) := by omega
        have d1 := (hbm.cell (p := ⟨g1, o1 + k, none⟩) hg1).trans (H1.out k hkn)
        have hsc := sec_lt HC.out.ok hkn
        obtain ⟨X, HXe⟩ : ∃ X, X = (satL S k).map (Value.int .i64) := ⟨_, rfl⟩
        have hNl := satL_len S k
        have hown := how.out.1
        rw [hN, ← HXe] at hown
        have HOW : Hid (Own wr B0 (.slice A N c') N X) := Lib.hid hown
        have HXE := Lib.hid HXe
        have hNk : N ≤ k := by rw [← hN]; exact hNl
        have HNE := Lib.hid hN
        have hbw := hb.out.size
        have hB0w : B0 ≤ wr.heap.size := by rw [HB0E.out]; exact hbw
        clear hown HXe hN hNl
        clear hbm hXr
        rcases hsc with hs1 | ⟨_, p, s, _, _, hs1, _, _⟩
        · rw [hs1] at d1
          have HN2 : Hid (satL S (k + 1) = satL S k) := Lib.hid (satL_no (by omega))
          have HOWN : Hid (OwnI wr B0 wr.heap.size (.slice A N c') (satL S (k + 1))) := Lib.hid (by rw [HN2.out]; exact how.out)
          clear hs1
          go_wp2_with fail
          go_roundw
          case rel => exact ⟨k + 1, N, A, c', by omega, by rw [HN2.out]; exact HNE.out, rfl, by go_num, HOWN, hb⟩
          case measure => simp [intOf]; omega
        · rw [hs1] at d1
          have hs0 : (0 : Int) ≤ (s : Int) := by omega
          have HN2 : Hid (satL S (k + 1) = satL S k ++ [(k : Int)]) := Lib.hid (satL_yes (by omega))
          clear hs1
          go_wp2_with (at_builtin; (refine wpList_append_own _ rfl _ _ 24 rfl (B0) 2 i0 (.int .i64 0) 1 8 Try.underlying24 hi0 hy0 hy1 hy2 rfl (by decide) _ N X rfl (World.ownsRow.alloc HOW.out _) ⟨wr.heap.size, 0, none⟩ 1 1 [.int .i64 (k)] rfl rfl (World.news_of_block (cs := #[.int .i64 (k)]) (t := 2) (fr := (0, 0)) (heap_alloc_new wr _)) (by simp [Value.oneCell']) (by simp only [maxLen]; omega) (by omega) (by simp <;> omega) ?_; intro v1 w4 hown1 hgrow _; obtain ⟨A4, c4, rfl⟩ := own_form hown1; have HO4 := Lib.hid hown1; have HB4 := Lib.hid ((hb.out.alloc hB0w _).grown hgrow (by simp <;> omega) (fun kk hkk => (World.ownsRow.lt HOW.out kk hkk).1)); clear hown1 hgrow))
          go_roundw
          case rel => exact ⟨k + 1, N + 1, A4, c4, by omega, by rw [HN2.out, List.length_append, HNE.out]; rfl, rfl, by go_num, Lib.hid (by rw [HN2.out]; exact OwnI.mk' (n := N + 1) (by rw [List.map_append, ← HXE.out]; exact HO4.out)), HB4⟩
          case measure => simp [intOf]; omega
      · obtain rfl : k = n := by omega
        go_wp2_with fail
        go_ret2
        exact AnsIC.mk' HA.out.symm HK.out.symm (own_less how.out hbs1) (HB1.out.trans (hb.out.mono hbs1))
set_option maxRecDepth 100000 in
set_option maxHeartbeats 4000000 in
theorem specDeltaOfCluster_any (a b c : Value) (P S W : List Int) (w : World) (h : ReadC w w.heap.size a b c P S W) (hP : P.length ≤ 1048576) (hS : S.length ≤ 1048576) (hW : W.length ≤ 1048576) (hwp : ∀ z ∈ P, (Lit.int .i64 z).wf = true) (hws : ∀ z ∈ S, (Lit.int .i64 z).wf = true) (hww : ∀ z ∈ W, (Lit.int .i64 z).wf = true) :
    Calls Try.prog 64 #[.agg #[a, b, c]] w (AnsII w (deA P S W) (clC P S W)) := by
  obtain ⟨W0, HE⟩ : ∃ V, V = w.alloc (.cells #[a, b, c] 26) := ⟨_, rfl⟩
  have hb0 : Below w.heap.size w W0 := by rw [HE]; exact below_box2 _ _
  have hx : CBox W0 w.heap.size a b c := by rw [HE]; exact CBox.new _ _ _ _ _
  have HR := Lib.hid ((h.below hb0).more hb0.size)
  have HB := Lib.hid hb0
  have HEQ := Lib.hid HE
  have HX := Lib.hid hx
  have x0 := hx.c0; have x1 := hx.c1; have x2 := hx.c2; have hxl := hx.lt
  clear h hb0 hx HE hwp hws hww
  rcases bool_fs (clB P S W) with hp | hp
  · have HA := Lib.hid (deA_no (P := P) (S := S) (W := W) hp); have HK := Lib.hid (clC_no hp)
    have HP := Lib.hid hp
    clear hp
    go_enter Try.func64, Try.ntmps64
    go_wp2_with fail
    rw [← HEQ.out]
    refine (l07Is_if a b c P S W W0 HR.out hP hS hW false HP.out).mono ?_
    rintro e w1 ⟨rfl, hb1⟩
    have HB1 := Lib.hid (HB.out.trans (hb1.mono HB.out.size))
    clear hb1
    go_wp2_with fail
    go_ret2
    exact AnsII.mkC HA.out.symm HK.out.symm HB1.out
  · obtain ⟨n, hC⟩ := clB_true hp
    have HC := Lib.hid hC
    have HP := Lib.hid hp
    clear hp hC
    go_enter Try.func64, Try.ntmps64
    go_wp2_with fail
    rw [← HEQ.out]
    refine (l07Is_if a b c P S W W0 HR.out hP hS hW true HP.out).mono ?_
    rintro e w1 ⟨rfl, hb1⟩
    have HB1 := Lib.hid (HB.out.trans (hb1.mono HB.out.size))
    have HR1 := Lib.hid ((HR.out.below hb1).more hb1.size)
    have hX1 := HX.out.below hb1
    have y0 := hX1.c0; have y1 := hX1.c1; have y2 := hX1.c2; have hyl := hX1.lt
    have HX1 := Lib.hid hX1
    clear hb1 hX1
    have HA : Hid (deA P S W = dlN W n) := Lib.hid (deA_yes HC.out)
    have HK : Hid (clC P S W = 0) := Lib.hid (clC_yes HP.out)
    have hn := HC.out.hi
    have hn1 := HC.out.lo
    have HWT := Lib.hid HC.out.wt
    obtain ⟨A2, c2, hb2, _⟩ := id HR1.out.2.2
    have h2 := HR1.out.2.2
    rw [hb2] at h2
    rw [HC.out.w] at h2
    obtain ⟨g2, o2, e2, H2, hg2⟩ := cells_ofC h2 HC.out.w hn1
    subst e2
    rw [HC.out.w] at hb2
    subst hb2
    clear h2
    go_wp2_with fail
    go_loopw [4, 5] (fun vs vi wr => ∃ (k q : Nat), k ≤ n ∧ vs = .int .i64 (dlN W k) ∧ vi = .int .i64 k ∧ wr = w1.drewN q) (fun vs vi _ => n - (intOf vi).toNat)
    case atStart => exact ⟨0, 0, by omega, rfl, rfl, rfl⟩
    case round =>
      obtain ⟨k, q, hk, rfl, rfl, rfl⟩ := hrel
      by_cases hkn : k < n
      · have hkn2 : (k : Int) < (n : Int) := by omega
        have d2 := H2.out k hkn
        have hr1 := dlN_rng HWT.out k
        have hz := wt_rng HWT.out k
        have hsq := sq_rng hz
        have HNX : Hid (dlN W (k + 1) = dlN W k + W[k]?.getD 0 * (W[k]?.getD 0 - 1) / 2) := Lib.hid rfl
        obtain ⟨s, hs⟩ : ∃ x, dlN W k = x := ⟨_, rfl⟩
        obtain ⟨z, hzz⟩ : ∃ x, W[k]?.getD 0 = x := ⟨_, rfl⟩
        rw [hs] at HNX hr1 ⊢
        rw [hzz] at HNX hz hsq d2
        obtain ⟨m, hm⟩ : ∃ x, z * (z - 1) = x := ⟨_, rfl⟩
        rw [hm] at HNX hsq
        have p1 : IntKind.i64.wrap (z - 1) = z - 1 := IntWalk.i64_in _ (by omega)
        have p2 : 0 ≤ m := hsq.1
        have p3 : m ≤ 10000100000 := hsq.2
        have p4 : 0 ≤ s := hr1.1
        have p5 : s ≤ 5000050000 * 24 := by omega
        have p6 : IntKind.i64.wrap m = m := IntWalk.i64_in _ (by omega)
        clear hs hzz hsq hr1
        go_wp2_with fail
        go_quiet (fail)
        go_wp2_with fail
        go_roundw
        case rel => exact ⟨k + 1, _, by omega, by rw [HNX.out], by go_num, rfl⟩
        case measure => simp [intOf]; omega
      · obtain rfl : k = n := by omega
        go_wp2_with fail
        go_ret2
        exact AnsII.mkC HA.out.symm HK.out.symm (below_drewN HB1.out _)
set_option maxRecDepth 100000 in
set_option maxHeartbeats 4000000 in
theorem implDeltaOfCluster_any (a b c : Value) (P S W : List Int) (w : World) (h : ReadC w w.heap.size a b c P S W) (hP : P.length ≤ 1048576) (hS : S.length ≤ 1048576) (hW : W.length ≤ 1048576) (hwp : ∀ z ∈ P, (Lit.int .i64 z).wf = true) (hws : ∀ z ∈ S, (Lit.int .i64 z).wf = true) (hww : ∀ z ∈ W, (Lit.int .i64 z).wf = true) :
    Calls Try.prog 65 #[.agg #[a, b, c]] w (AnsII w (deA P S W) (clC P S W)) := by
  obtain ⟨W0, HE⟩ : ∃ V, V = w.alloc (.cells #[a, b, c] 26) := ⟨_, rfl⟩
  have hb0 : Below w.heap.size w W0 := by rw [HE]; exact below_box2 _ _
  have hx : CBox W0 w.heap.size a b c := by rw [HE]; exact CBox.new _ _ _ _ _
  have HR := Lib.hid ((h.below hb0).more hb0.size)
  have HB := Lib.hid hb0
  have HEQ := Lib.hid HE
  have HX := Lib.hid hx
  have x0 := hx.c0; have x1 := hx.c1; have x2 := hx.c2; have hxl := hx.lt
  clear h hb0 hx HE hwp hws hww
  rcases bool_fs (clB P S W) with hp | hp
  · have HA := Lib.hid (deA_no (P := P) (S := S) (W := W) hp); have HK := Lib.hid (clC_no hp)
    have HP := Lib.hid hp
    clear hp
    go_enter Try.func65, Try.ntmps65
    go_wp2_with fail
    rw [← HEQ.out]
    refine (implIsCluster_if a b c P S W W0 HR.out hP hS hW false HP.out).mono ?_
    rintro e w1 ⟨rfl, hb1⟩
    have HB1 := Lib.hid (HB.out.trans (hb1.mono HB.out.size))
    clear hb1
    go_wp2_with fail
    go_ret2
    exact AnsII.mkC HA.out.symm HK.out.symm HB1.out
  · obtain ⟨n, hC⟩ := clB_true hp
    have HC := Lib.hid hC
    have HP := Lib.hid hp
    clear hp hC
    go_enter Try.func65, Try.ntmps65
    go_wp2_with fail
    rw [← HEQ.out]
    refine (implIsCluster_if a b c P S W W0 HR.out hP hS hW true HP.out).mono ?_
    rintro e w1 ⟨rfl, hb1⟩
    have HB1 := Lib.hid (HB.out.trans (hb1.mono HB.out.size))
    have HR1 := Lib.hid ((HR.out.below hb1).more hb1.size)
    have hX1 := HX.out.below hb1
    have y0 := hX1.c0; have y1 := hX1.c1; have y2 := hX1.c2; have hyl := hX1.lt
    have HX1 := Lib.hid hX1
    clear hb1 hX1
    have HA : Hid (deA P S W = dlN W n) := Lib.hid (deA_yes HC.out)
    have HK : Hid (clC P S W = 0) := Lib.hid (clC_yes HP.out)
    have hn := HC.out.hi
    have hn1 := HC.out.lo
    have HWT := Lib.hid HC.out.wt
    obtain ⟨A2, c2, hb2, _⟩ := id HR1.out.2.2
    have h2 := HR1.out.2.2
    rw [hb2] at h2
    rw [HC.out.w] at h2
    obtain ⟨g2, o2, e2, H2, hg2⟩ := cells_ofC h2 HC.out.w hn1
    subst e2
    rw [HC.out.w] at hb2
    subst hb2
    clear h2
    go_wp2_with fail
    go_loop [4, 13] (fun vs vi => ∃ (k : Nat), k ≤ n ∧ vs = .int .i64 (dlN W k) ∧ vi = .int .i64 k) (fun vs vi => n - (intOf vi).toNat)
    case atStart => exact ⟨0, by omega, rfl, rfl⟩
    case round =>
      obtain ⟨k, hk, rfl, rfl⟩ := hrel
      by_cases hkn : k < n
      · have hkn2 : (k : Int) < (n : Int) := by omega
        have d2 := H2.out k hkn
        have hr1 := dlN_rng HWT.out k
        have hz := wt_rng HWT.out k
        have hsq := sq_rng hz
        have HNX : Hid (dlN W (k + 1) = dlN W k + W[k]?.getD 0 * (W[k]?.getD 0 - 1) / 2) := Lib.hid rfl
        obtain ⟨s, hs⟩ : ∃ x, dlN W k = x := ⟨_, rfl⟩
        obtain ⟨z, hzz⟩ : ∃ x, W[k]?.getD 0 = x := ⟨_, rfl⟩
        rw [hs] at HNX hr1 ⊢
        rw [hzz] at HNX hz hsq d2
        obtain ⟨m, hm⟩ : ∃ x, z * (z - 1) = x := ⟨_, rfl⟩
        rw [hm] at HNX hsq
        have p1 : IntKind.i64.wrap (z - 1) = z - 1 := IntWalk.i64_in _ (by omega)
        have p2 : 0 ≤ m := hsq.1
        have p3 : m ≤ 10000100000 := hsq.2
        have p4 : 0 ≤ s := hr1.1
        have p5 : s ≤ 5000050000 * 24 := by omega
        clear hs hzz hsq hr1 p1
        go_wp2_with fail
        go_round
        case rel => exact ⟨k + 1, by omega, by rw [HNX.out], by go_num⟩
        case measure => simp [intOf]; omega
      · obtain rfl : k = n := by omega
        go_wp2_with fail
        go_ret2
        exact AnsII.mkC HA.out.symm HK.out.symm HB1.out
end Go.Proofs.Ytbempmbnhfnlbaa
