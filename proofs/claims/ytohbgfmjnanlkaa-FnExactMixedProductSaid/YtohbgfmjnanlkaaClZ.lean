/- Clusters: the answers of chapter 7's functions; excesses, orders, consistency: contracts. Conditions: stated at each theorem. -/
import Derived.Test.YtohbgfmjnanlkaaClY
namespace Go.Proofs.Ytohbgfmjnanlkaa
open Go.ChangeShapes Go.WideShapes Go.ChangeAt Go.RowKit Go.Deep
set_option linter.unusedVariables false
set_option linter.unusedSimpArgs false

theorem AnsBI.mkC {w w' : World} {b b' : Bool} {c c' : Int} (h1 : b = b') (h2 : c = c') (h : Below w.heap.size w w') : AnsBI w b' c' (.returned (.tuple #[.bool b, .int .i64 c])) w' := by
  subst h1; subst h2; exact ⟨rfl, h⟩
theorem AnsII.mkC {w w' : World} {b b' c c' : Int} (h1 : b = b') (h2 : c = c') (h : Below w.heap.size w w') : AnsII w b' c' (.returned (.tuple #[.int .i64 b, .int .i64 c])) w' := by
  subst h1; subst h2; exact ⟨rfl, h⟩
def clC (P S W : List Int) : Int := if clB P S W then 0 else 1
theorem clC_no {P S W : List Int} (h : clB P S W = false) : clC P S W = 1 := by simp [clC, h]
theorem clC_yes {P S W : List Int} (h : clB P S W = true) : clC P S W = 0 := by simp [clC, h]
def exA (P S W : List Int) : List Int := if clB P S W then ecL P S W P.length else []
theorem exA_no {P S W : List Int} (h : clB P S W = false) : exA P S W = [] := by simp [exA, h]
theorem exA_yes {P S W : List Int} {n : Nat} (h : ClOK P S W n) : exA P S W = ecL P S W n := by simp [exA, h.b, h.p]
theorem exA_len (P S W : List Int) : (exA P S W).length ≤ 24 := by
  cases h : clB P S W with
  | false => rw [exA_no h]; simp
  | true => obtain ⟨n, hC⟩ := clB_true h; rw [exA_yes hC, ecL_len]; exact hC.hi
def oxA (P S W : List Int) : List Int := if clB P S W then orL P S W P.length else []
theorem oxA_no {P S W : List Int} (h : clB P S W = false) : oxA P S W = [] := by simp [oxA, h]
theorem oxA_yes {P S W : List Int} {n : Nat} (h : ClOK P S W n) : oxA P S W = orL P S W n := by simp [oxA, h.b, h.p]
theorem oxA_len (P S W : List Int) : (oxA P S W).length ≤ 24 := by
  cases h : clB P S W with
  | false => rw [oxA_no h]; simp
  | true => obtain ⟨n, hC⟩ := clB_true h; rw [oxA_yes hC, orL_len]; exact hC.hi
def cnA (P S W : List Int) : Bool := clB P S W && (ecL P S W P.length).all (fun z => decide (0 ≤ z))
theorem cnA_no {P S W : List Int} (h : clB P S W = false) : cnA P S W = false := by simp [cnA, h]
theorem cnA_yes {P S W : List Int} {n : Nat} (h : ClOK P S W n) : cnA P S W = (ecL P S W n).all (fun z => decide (0 ≤ z)) := by simp [cnA, h.b, h.p]

set_option maxRecDepth 100000 in
set_option maxHeartbeats 4000000 in
theorem implExcessesOf_any (a b c : Value) (P S W : List Int) (w : World) (h : ReadC w w.heap.size a b c P S W) (hP : P.length ≤ 1048576) (hS : S.length ≤ 1048576) (hW : W.length ≤ 1048576) (hwp : ∀ z ∈ P, (Lit.int .i64 z).wf = true) (hws : ∀ z ∈ S, (Lit.int .i64 z).wf = true) (hww : ∀ z ∈ W, (Lit.int .i64 z).wf = true) :
    Calls Try.prog 175 #[.agg #[a, b, c]] w (AnsIC w (exA P S W) (clC P S W)) := by
  obtain ⟨W0, HE⟩ : ∃ V, V = w.alloc (.cells #[a, b, c] 36) := ⟨_, rfl⟩
  have hb0 : Below w.heap.size w W0 := by rw [HE]; exact below_box2 _ _
  have hx : CBox W0 w.heap.size a b c := by rw [HE]; exact CBox.new _ _ _ _ _
  have HR := Lib.hid ((h.below hb0).more hb0.size)
  have HB := Lib.hid hb0
  have HEQ := Lib.hid HE
  have HX := Lib.hid hx
  have x0 := hx.c0; have x1 := hx.c1; have x2 := hx.c2; have hxl := hx.lt
  clear h hb0 hx HE hwp hws hww
  rcases bool_fs (clB P S W) with hp | hp
  · have HA := Lib.hid (exA_no (P := P) (S := S) (W := W) hp); have HK := Lib.hid (clC_no hp)
    have HP := Lib.hid hp
    clear hp
    go_enter Try.func175, Try.ntmps175
    go_wp2_with fail
    rw [← HEQ.out]
    refine (linked_if a b c P S W W0 HR.out hP hS hW false HP.out).mono ?_
    rintro e w1 ⟨g, A, na, ca, D, nd, cd, rfl, hb1, _⟩
    have HB1 := Lib.hid ((HB.out.trans (hb1.mono HB.out.size)).alloc (by have := HB.out.size; have := hb1.size; omega) (.cells #[.slice A na ca, .slice D nd cd] 93))
    clear hb1
    go_wp2_with fail
    go_ret2
    exact AnsIC.empty HA.out.symm HK.out.symm HB1.out
  · obtain ⟨n, hC⟩ := clB_true hp
    have hpn := hC.p
    have hn1 := hC.lo
    have hn := hC.hi
    have HC := Lib.hid hC
    have HP := Lib.hid hp
    clear hp hC
    go_enter Try.func175, Try.ntmps175
    go_wp2_with fail
    rw [← HEQ.out]
    refine (linked_if a b c P S W W0 HR.out hP hS hW true HP.out).mono ?_
    rintro e w1 ⟨g, A, na, ca, D, nd, cd, rfl, hb1, hyes⟩
    obtain ⟨e1, rfl, hg0, hg1, hpt⟩ := hyes rfl
    rw [hpn] at e1 hpt
    simp only [Value.slice.injEq] at e1
    obtain ⟨rfl, e1b, e1c⟩ := e1
    replace e1b := e1b.symm
    replace e1c := e1c.symm
    subst e1b
    subst e1c
    have hB1 := HB.out.trans (hb1.mono HB.out.size)
    have hR1 := (HR.out.below hb1).more hb1.size
    have hX1 := HX.out.below hb1
    obtain ⟨W1, HE1⟩ : ∃ V, V = w1.alloc (.cells #[.slice (some ⟨g, 0, none⟩) n n, .slice D nd cd] 93) := ⟨_, rfl⟩
    have hb2 : Below w1.heap.size w1 W1 := by rw [HE1]; exact below_box2 _ _
    have z0 : W1.cell? ⟨w1.heap.size, 0, none⟩ = some (.slice (some ⟨g, 0, none⟩) n n) := by rw [HE1]; go_simp
    have z1 : W1.cell? ⟨w1.heap.size, 1, none⟩ = some (.slice D nd cd) := by rw [HE1]; go_simp
    have hzl : w1.heap.size < W1.heap.size := by rw [HE1]; simp
    have HB1 := Lib.hid (hB1.trans (hb2.mono hB1.size))
    have HR1 := Lib.hid ((hR1.below hb2).more hb2.size)
    have HPT : Hid (PtsAt W1 g n n P S) := Lib.hid (rowIs_below hpt hg1 hb2)
    have hX2 := hX1.below hb2
    have y0 := hX2.c0; have y1 := hX2.c1; have y2 := hX2.c2; have hyl := hX2.lt
    have HX1 := Lib.hid hX2
    have HEQ1 := Lib.hid HE1
    have hgl : g < W1.heap.size := by omega
    have q0 := hX1.c0; have q1 := hX1.c1; have q2 := hX1.c2; have ql := hX1.lt
    clear hb1 hb2 hX1 hX2 hB1 hR1 hpt hyes HE1 hg1
    go_wp2_with fail
    rw [← HEQ1.out]
    clear q0 q1 q2 ql x0 x1 x2
    have HA : Hid (exA P S W = ecL P S W n) := Lib.hid (exA_yes HC.out)
    have HK : Hid (clC P S W = 0) := Lib.hid (clC_yes HP.out)
    go_wp2_with fail
    refine (excessesOf_any g n P S W (.slice D nd cd) W1 HPT.out hgl HC.out HR1.out.2.2).mono ?_
    rintro e w2 ⟨A2, c2, rfl, ho2, hb2⟩
    have HB2 := Lib.hid (HB1.out.trans (hb2.mono HB1.out.size))
    have HO2 := Lib.hid ho2
    have hbs := HB1.out.size
    clear ho2 hb2
    go_wp2_with fail
    go_ret2
    exact AnsIC.mk' HA.out.symm HK.out.symm (own_less HO2.out hbs) HB2.out
set_option maxRecDepth 100000 in
set_option maxHeartbeats 4000000 in
theorem ordersOf_any (g n : Nat) (P S W : List Int) (vw : Value) (w : World) (h : PtsAt w g n n P S) (hg : g < w.heap.size) (hOK : ClOK P S W n) (hr : ReadI w w.heap.size vw W) :
    Calls Try.prog 85 #[.slice (some ⟨g, 0, none⟩) n n, vw] w (LAns w (orL P S W n)) := by
  have hn := hOK.hi
  have hn1 := hOK.lo
  have hw := hOK.w
  have HC := Lib.hid hOK
  obtain ⟨gw, ow, cw, hvw, HCW, hgw⟩ : ∃ gw ow cw, vw = .slice (some ⟨gw, ow, none⟩) n cw ∧ Hid (∀ k, k < n → w.cell? ⟨gw, ow + k, none⟩ = some (.int .i64 (W[k]?.getD 0))) ∧ gw < w.heap.size := by
    have h5 := hr
    obtain ⟨Aw, cw, rfl, _⟩ := h5
    rw [hw] at hr
    obtain ⟨g', o', rfl, H, hg'⟩ := cells_of hr hw hn1
    rw [hw]
    exact ⟨g', o', cw, rfl, H, hg'⟩
  subst hvw
  obtain ⟨W1, HE1⟩ : ∃ V, V = w.alloc (.cells #[.slice (some ⟨gw, ow, none⟩) n cw] 22) := ⟨_, rfl⟩
  have hb1 : Below w.heap.size w W1 := by rw [HE1]; exact below_box2 _ _
  have z1 : W1.cell? ⟨w.heap.size, 0, none⟩ = some (.slice (some ⟨gw, ow, none⟩) n cw) := by rw [HE1]; go_simp
  have hzl : w.heap.size < W1.heap.size := by rw [HE1]; simp
  have HPT : Hid (PtsAt W1 g n n P S) := Lib.hid (rowIs_below h hg hb1)
  have hgl : g < W1.heap.size := by omega
  have HB1 := Lib.hid hb1
  have HEQ1 := Lib.hid HE1
  clear h hr hOK hb1 HE1
  go_enter Try.func85, Try.ntmps85
  go_wp2_with fail
  rw [← HEQ1.out]
  refine (allProx_any g n P S W1 HPT.out hgl HC.out.ok hn).mono ?_
  rintro e w2 ⟨rfl, hq2, hb2⟩
  have HM2 : Hid (RowsM w2 W1.heap.size W1.heap.size n P S) := Lib.hid (hq2.mem HC.out.ok (Nat.le_refl _))
  have hz1 := (hb2.cell (p := ⟨w.heap.size, 0, none⟩) hzl).trans z1
  have HV2 : Hid (∀ k, k < n → w2.cell? ⟨gw, ow + k, none⟩ = some (.int .i64 (W[k]?.getD 0))) := Lib.hid fun k hk => by rw [hb2.cell (p := ⟨gw, ow + k, none⟩) (by show gw < W1.heap.size; omega), HB1.out.cell (p := ⟨gw, ow + k, none⟩) hgw]; exact HCW.out k hk
  have HZ2 := Lib.hid hz1
  have HB2 := Lib.hid (HB1.out.trans (hb2.mono HB1.out.size))
  have hs2 := hb2.size
  clear hq2 hb2 hz1
  go_wp2_with fail
  refine (sumsC_any W1.heap.size n w.heap.size gw ow cw P S W W1.heap.size w2 HM2.out HC.out (by omega) (by omega) HZ2.out HV2.out).mono ?_
  rintro e w3 ⟨A3, c3, rfl, ho3, hb3⟩
  have HB3 := Lib.hid (HB2.out.trans (hb3.mono HB2.out.size))
  have HO3 := Lib.hid ho3
  have hbs := HB2.out.size
  clear ho3 hb3
  go_wp2_with fail
  go_ret
  exact ⟨A3, c3, rfl, own_less HO3.out hbs, HB3.out⟩

/-- The discrepancies are orders of weights 1. -/
def onL (n : Nat) : List Int := List.replicate n 1
theorem onL_len (n : Nat) : (onL n).length = n := List.length_replicate
theorem onL_at {n k : Nat} (h : k < n) : (onL n)[k]?.getD 0 = 1 := by simp [onL, h]
theorem on_ok {P S : List Int} {n : Nat} (h : ClP P S n) : ClOK P S (onL n) n := ⟨h, onL_len n, by
  rw [wtOK_iff (onL_len n), List.all_eq_true]
  intro i hi
  rw [onL_at (List.mem_range.1 hi)]; decide⟩
set_option maxRecDepth 100000 in
set_option maxHeartbeats 4000000 in
theorem discr_any (g n : Nat) (P S : List Int) (w : World) (h : PtsAt w g n n P S) (hg : g < w.heap.size) (hC : ClP P S n) :
    Calls Try.prog 86 #[.slice (some ⟨g, 0, none⟩) n n] w (LAns w (orL P S (onL n) n)) := by
  have hn := hC.hi
  have hn1 := hC.lo
  have HO := Lib.hid (on_ok hC)
  have HPT := Lib.hid h
  clear h hC
  go_enter Try.func86, Try.ntmps86
  go_wp2_with fail
  refine (allProx_any g n P S w HPT.out hg HO.out.ok hn).mono ?_
  rintro e w2 ⟨rfl, hq2, hb2⟩
  have HM2 : Hid (RowsM w2 w.heap.size w.heap.size n P S) := Lib.hid (hq2.mem HO.out.ok (Nat.le_refl _))
  have HB2 := Lib.hid hb2
  clear hq2 hb2
  go_wp2_with fail
  refine (sumsD_any w.heap.size n P S (onL n) w.heap.size w2 HM2.out HO.out (fun k hk => onL_at hk)).mono ?_
  rintro e w3 ⟨A3, c3, rfl, ho3, hb3⟩
  have HB3 := Lib.hid (HB2.out.trans (hb3.mono HB2.out.size))
  have HO3 := Lib.hid ho3
  have hbs := HB2.out.size
  clear ho3 hb3
  go_wp2_with fail
  go_ret
  exact ⟨A3, c3, rfl, own_less HO3.out hbs, HB3.out⟩

def dsA (P S W : List Int) : List Int := if clB P S W then orL P S (onL P.length) P.length else []
theorem dsA_no {P S W : List Int} (h : clB P S W = false) : dsA P S W = [] := by simp [dsA, h]
theorem dsA_yes {P S W : List Int} {n : Nat} (h : ClOK P S W n) : dsA P S W = orL P S (onL n) n := by simp [dsA, h.b, h.p]
theorem dsA_len (P S W : List Int) : (dsA P S W).length ≤ 24 := by
  cases h : clB P S W with
  | false => rw [dsA_no h]; simp
  | true => obtain ⟨n, hC⟩ := clB_true h; rw [dsA_yes hC, orL_len]; exact hC.hi

set_option maxRecDepth 100000 in
set_option maxHeartbeats 4000000 in
theorem implIsConsistent_any (a b c : Value) (P S W : List Int) (w : World) (h : ReadC w w.heap.size a b c P S W) (hP : P.length ≤ 1048576) (hS : S.length ≤ 1048576) (hW : W.length ≤ 1048576) (hwp : ∀ z ∈ P, (Lit.int .i64 z).wf = true) (hws : ∀ z ∈ S, (Lit.int .i64 z).wf = true) (hww : ∀ z ∈ W, (Lit.int .i64 z).wf = true) :
    Calls Try.prog 139 #[.agg #[a, b, c]] w (AnsBI w (cnA P S W) (clC P S W)) := by
  have HWP := Lib.hid hwp; have HWS := Lib.hid hws; have HWW := Lib.hid hww
  obtain ⟨W0, HE⟩ : ∃ V, V = w.alloc (.cells #[a, b, c] 36) := ⟨_, rfl⟩
  have hb0 : Below w.heap.size w W0 := by rw [HE]; exact below_box2 _ _
  have hx : CBox W0 w.heap.size a b c := by rw [HE]; exact CBox.new _ _ _ _ _
  have HR := Lib.hid ((h.below hb0).more hb0.size)
  have HB := Lib.hid hb0
  have HEQ := Lib.hid HE
  have HX := Lib.hid hx
  have x0 := hx.c0; have x1 := hx.c1; have x2 := hx.c2; have hxl := hx.lt
  clear h hb0 hx HE hwp hws hww
  rcases bool_fs (clB P S W) with hp | hp
  · have HA := Lib.hid (cnA_no (P := P) (S := S) (W := W) hp); have HK := Lib.hid (clC_no hp)
    have HE := Lib.hid (exA_no (P := P) (S := S) (W := W) hp)
    clear hp
    go_enter Try.func139, Try.ntmps139
    go_wp2_with fail
    rw [← HEQ.out]
    have HCC := Lib.hid (implExcessesOf_any a b c P S W W0 HR.out hP hS hW HWP.out HWS.out HWW.out)
    rw [HK.out] at HCC
    refine HCC.out.mono ?_
    rintro e w1 ⟨v1, rfl, _, hb1⟩
    have HB1 := Lib.hid (HB.out.trans (hb1.mono HB.out.size))
    clear hb1
    go_wp2_with fail
    go_ret2
    exact AnsBI.mkC HA.out.symm HK.out.symm HB1.out
  · obtain ⟨n, hC⟩ := clB_true hp
    have HC := Lib.hid hC
    have HK := Lib.hid (clC_yes hp)
    have HE := Lib.hid (exA_yes hC)
    obtain ⟨bb, hbb⟩ : ∃ x, (ecL P S W n).all (fun z => decide (0 ≤ z)) = x := ⟨_, rfl⟩
    have HBB := Lib.hid hbb
    have HA : Hid (cnA P S W = bb) := Lib.hid (by rw [cnA_yes hC, hbb])
    clear hbb hp hC
    go_enter Try.func139, Try.ntmps139
    go_wp2_with fail
    rw [← HEQ.out]
    have HCC := Lib.hid (implExcessesOf_any a b c P S W W0 HR.out hP hS hW HWP.out HWS.out HWW.out)
    rw [HK.out, HE.out] at HCC
    refine HCC.out.mono ?_
    rintro e w1 ⟨v1, rfl, ho1, hb1⟩
    have HB1 := Lib.hid (HB.out.trans (hb1.mono HB.out.size))
    have HO1 := Lib.hid ho1
    have hn := HC.out.hi
    have hn1 := HC.out.lo
    clear hb1 ho1
    go_wp2_with fail
    refine (min_any v1 (ecL P S W n) w1 w1.heap.size HO1.out.reads (by rw [ecL_len]; exact hn1) (by rw [ecL_len]; omega)).mono ?_
    rintro e w' ⟨x, rfl, hx, rfl⟩
    have HBX : Hid (decide (0 ≤ x) = bb) := Lib.hid (by
      rw [← HBB.out, Bool.eq_iff_iff, decide_eq_true_iff, hx, List.all_eq_true]
      constructor
      · intro h z hz
        obtain ⟨i, hi, rfl⟩ := List.getElem_of_mem hz
        have := h i hi
        simpa [hi] using this
      · intro h i hi
        have := h _ (List.getElem_mem hi)
        simpa [hi] using this)
    clear hx
    go_wp2_with fail
    go_ret2
    exact AnsBI.mkC (HBX.out.trans HA.out.symm) HK.out.symm HB1.out
end Go.Proofs.Ytohbgfmjnanlkaa
