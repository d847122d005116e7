/- IsValue, the model's and the program's: contracts. Conditions: stated at each theorem. -/
import Derived.Test.YtncgkoanckefmaaVaI
import Derived.Test.YtncgkoanckefmaaRpS
namespace Go.Proofs.Ytncgkoanckefmaa
open Go.ChangeShapes Go.WideShapes Go.ChangeAt Go.RowKit Go.Deep
set_option linter.unusedVariables false
set_option linter.unusedSimpArgs false

def ivA (zs : List Int) (v : Int) : Bool := if brB zs then (if semiB v then reB zs v else false) else false
def ivC (zs : List Int) (v : Int) : Int := if brB zs then (if semiB v then 0 else 2) else 1
theorem iv_no {zs : List Int} {v : Int} (h : brB zs = false) : ivA zs v = false ∧ ivC zs v = 1 := by simp [ivA, ivC, h]
theorem iv_out {zs : List Int} {v : Int} (h : brB zs = true) (h2 : semiB v = false) : ivA zs v = false ∧ ivC zs v = 2 := by simp [ivA, ivC, h, h2]
theorem iv_yes {zs : List Int} {v : Int} (h : brB zs = true) (h2 : semiB v = true) : ivA zs v = reB zs v ∧ ivC zs v = 0 := by simp [ivA, ivC, h, h2]
theorem AnsBI.mk' {w w' : World} {b b' : Bool} {c c' : Int} (h1 : b' = b) (h2 : c' = c) (h : Below w.heap.size w w') : AnsBI w b c (.returned (.tuple #[.bool b', .int .i64 c'])) w' := by
  subst h1; subst h2; exact ⟨rfl, h⟩

set_option maxRecDepth 100000 in
set_option maxHeartbeats 2000000 in
theorem specIsValue_any (v : Value) (zs : List Int) (x : Int) (w : World) (h : ReadI w w.heap.size v zs) (hn : zs.length ≤ 1048576) (hw : ∀ z ∈ zs, (Lit.int .i64 z).wf = true) (hwx : (Lit.int .i64 x).wf = true) :
    Calls Try.prog 16 #[.agg #[v], .int .i64 x] w (AnsBI w (ivA zs x) (ivC zs x)) := by
  have HWW := Lib.hid hw
  have HN0 := Lib.hid hn
  rcases bool_fs (brB zs) with hp | hp
  · have E := Lib.hid (iv_no (v := x) hp)
    have HP := Lib.hid hp
    obtain ⟨n, A, c, rfl, hr, HL, _, hnc, HF, hcm⟩ := h.split2
    obtain ⟨W0, HE⟩ : ∃ W, W = w.alloc (.cells #[.slice A n c] 28) := ⟨_, rfl⟩
    have hb0 : Below w.heap.size w W0 := by rw [HE]; exact below_box _ _
    have hq0 : BoxI W0 w.heap.size (.slice A n c) := by rw [HE]; exact BoxI.new _ _ _
    have H0 := Lib.hid ((h.below hb0).more hb0.size)
    have HEQ := Lib.hid HE
    clear h hr HE HF hn hw hp hwx
    go_enter Try.func16, Try.ntmps16
    go_wp2_with fail
    rw [← HEQ.out]
    refine (l03Is_if _ zs _ false H0.out HN0.out HWW.out HP.out).mono ?_
    rintro e w1 ⟨rfl, hb1⟩
    go_wp2_with fail
    go_ret2
    exact AnsBI.mk' (by rw [E.out.1]) (by rw [E.out.2]) (hb0.trans (hb1.mono hb0.size))
  have HP := Lib.hid hp
  rcases bool_fs (semiB x) with hsb | hsb
  · have E := Lib.hid (iv_out hp hsb)
    have HSB := Lib.hid hsb
    obtain ⟨n, A, c, rfl, hr, HL, _, hnc, HF, hcm⟩ := h.split2
    obtain ⟨W0, HE⟩ : ∃ W, W = w.alloc (.cells #[.slice A n c] 28) := ⟨_, rfl⟩
    have hb0 : Below w.heap.size w W0 := by rw [HE]; exact below_box _ _
    have hq0 : BoxI W0 w.heap.size (.slice A n c) := by rw [HE]; exact BoxI.new _ _ _
    have H0 := Lib.hid ((h.below hb0).more hb0.size)
    have HEQ := Lib.hid HE
    clear h hr HE HF hn hw hp hwx hsb
    go_enter Try.func16, Try.ntmps16
    go_wp2_with fail
    rw [← HEQ.out]
    refine (l03Is_if _ zs _ true H0.out HN0.out HWW.out HP.out).mono ?_
    rintro e w1 ⟨rfl, hb1⟩
    have B1 := Lib.hid (hb0.trans (hb1.mono hb0.size))
    clear hb1 hb0 hq0
    go_wp2_with (go_at_call 75; refine (in_no _ _ _ _ (semiB_no HSB.out)).mono ?_; rintro e w' ⟨rfl, rfl⟩)
    go_ret2
    exact AnsBI.mk' (by rw [E.out.1]) (by rw [E.out.2]) B1.out
  · have HSB := Lib.hid hsb
    have hx := semiB_yes hsb
    have E := Lib.hid (iv_yes hp hsb)
    obtain ⟨n, A, c, rfl, hr, HL, _, hnc, HF, hcm⟩ := h.split2
    obtain ⟨W0, HE⟩ : ∃ W, W = w.alloc (.cells #[.slice A n c] 28) := ⟨_, rfl⟩
    have hb0 : Below w.heap.size w W0 := by rw [HE]; exact below_box _ _
    have hq0 : BoxI W0 w.heap.size (.slice A n c) := by rw [HE]; exact BoxI.new _ _ _
    have H0 := Lib.hid ((h.below hb0).more hb0.size)
    have HEQ := Lib.hid HE
    clear h hr HE HF hn hw hp hwx hsb
    go_enter Try.func16, Try.ntmps16
    go_wp2_with fail
    rw [← HEQ.out]
    refine (l03Is_if _ zs _ true H0.out HN0.out HWW.out HP.out).mono ?_
    rintro e w1 ⟨rfl, hb1⟩
    have cb1 : w1.cell? ⟨w.heap.size, 0, none⟩ = some (.slice A n c) := by rw [hb1.cell (p := ⟨w.heap.size, 0, none⟩) hq0.2]; exact hq0.1
    have H1 := Lib.hid ((H0.out.below hb1).more hb1.size)
    have B1 := Lib.hid (hb0.trans (hb1.mono hb0.size))
    clear hb1 hb0 HEQ hq0
    obtain ⟨m, rfl⟩ : ∃ m : Nat, x = (m : Int) := ⟨x.toNat, by omega⟩
    go_wp2_with (go_at_call 75; refine (in_yes _ _ _ _ hx.1 hx.2).mono ?_; rintro e w' ⟨rfl, rfl⟩)
    refine (l05Values_any _ zs m w1 H1.out HN0.out HP.out (by omega)).mono ?_
    rintro e w2 ⟨g2, rfl, hg1, hg2, hrow, hb2⟩
    have hc2 := hrow.cell (show m < m + 1 by omega)
    have B2 := Lib.hid (B1.out.trans (hb2.mono B1.out.size))
    clear hrow hb2 cb1
    have hm1 : (m : Int) < (m : Int) + 1 := by omega
    have hm2 : m < m + 1 := by omega
    generalize reB zs (m : Int) = bo at *
    go_wp2_with fail
    go_ret2
    exact AnsBI.mk' (by rw [E.out.1]) (by rw [E.out.2]) B2.out

set_option maxRecDepth 100000 in
set_option maxHeartbeats 2000000 in
theorem implIsValue_any (v : Value) (zs : List Int) (x : Int) (w : World) (h : ReadI w w.heap.size v zs) (hn : zs.length ≤ 1048576) (hw : ∀ z ∈ zs, (Lit.int .i64 z).wf = true) (hwx : (Lit.int .i64 x).wf = true) :
    Calls Try.prog 18 #[.agg #[v], .int .i64 x] w (AnsBI w (ivA zs x) (ivC zs x)) := by
  have HWW := Lib.hid hw
  have HN0 := Lib.hid hn
  rcases bool_fs (brB zs) with hp | hp
  · have E := Lib.hid (iv_no (v := x) hp)
    have HP := Lib.hid hp
    obtain ⟨n, A, c, rfl, hr, HL, _, hnc, HF, hcm⟩ := h.split2
    obtain ⟨W0, HE⟩ : ∃ W, W = w.alloc (.cells #[.slice A n c] 28) := ⟨_, rfl⟩
    have hb0 : Below w.heap.size w W0 := by rw [HE]; exact below_box _ _
    have hq0 : BoxI W0 w.heap.size (.slice A n c) := by rw [HE]; exact BoxI.new _ _ _
    have H0 := Lib.hid ((h.below hb0).more hb0.size)
    have HEQ := Lib.hid HE
    clear h hr HE HF hn hw hp hwx
    go_enter Try.func18, Try.ntmps18
    go_wp2_with fail
    rw [← HEQ.out]
    refine (implIsBranch_if _ zs _ false H0.out HN0.out HWW.out HP.out).mono ?_
    rintro e w1 ⟨rfl, hb1⟩
    go_wp2_with fail
    go_ret2
    exact AnsBI.mk' (by rw [E.out.1]) (by rw [E.out.2]) (hb0.trans (hb1.mono hb0.size))
  have HP := Lib.hid hp
  rcases bool_fs (semiB x) with hsb | hsb
  · have E := Lib.hid (iv_out hp hsb)
    have HSB := Lib.hid hsb
    obtain ⟨n, A, c, rfl, hr, HL, _, hnc, HF, hcm⟩ := h.split2
    obtain ⟨W0, HE⟩ : ∃ W, W = w.alloc (.cells #[.slice A n c] 28) := ⟨_, rfl⟩
    have hb0 : Below w.heap.size w W0 := by rw [HE]; exact below_box _ _
    have hq0 : BoxI W0 w.heap.size (.slice A n c) := by rw [HE]; exact BoxI.new _ _ _
    have H0 := Lib.hid ((h.below hb0).more hb0.size)
    have HEQ := Lib.hid HE
    clear h hr HE HF hn hw hp hwx hsb
    go_enter Try.func18, Try.ntmps18
    go_wp2_with fail
    rw [← HEQ.out]
    refine (implIsBranch_if _ zs _ true H0.out HN0.out HWW.out HP.out).mono ?_
    rintro e w1 ⟨rfl, hb1⟩
    have B1 := Lib.hid (hb0.trans (hb1.mono hb0.size))
    clear hb1 hb0 hq0
    go_wp2_with fail
    refine (semi_if x false w1 HSB.out).mono ?_
    rintro e w' ⟨rfl, rfl⟩
    go_wp2_with fail
    go_ret2
    exact AnsBI.mk' (by rw [E.out.1]) (by rw [E.out.2]) B1.out
  · have HSB := Lib.hid hsb
    have hx := semiB_yes hsb
    have E := Lib.hid (iv_yes hp hsb)
    obtain ⟨n, A, c, rfl, hr, HL, _, hnc, HF, hcm⟩ := h.split2
    obtain ⟨W0, HE⟩ : ∃ W, W = w.alloc (.cells #[.slice A n c] 28) := ⟨_, rfl⟩
    have hb0 : Below w.heap.size w W0 := by rw [HE]; exact below_box _ _
    have hq0 : BoxI W0 w.heap.size (.slice A n c) := by rw [HE]; exact BoxI.new _ _ _
    have H0 := Lib.hid ((h.below hb0).more hb0.size)
    have HEQ := Lib.hid HE
    clear h hr HE HF hn hw hp hwx hsb
    go_enter Try.func18, Try.ntmps18
    go_wp2_with fail
    rw [← HEQ.out]
    refine (implIsBranch_if _ zs _ true H0.out HN0.out HWW.out HP.out).mono ?_
    rintro e w1 ⟨rfl, hb1⟩
    have cb1 : w1.cell? ⟨w.heap.size, 0, none⟩ = some (.slice A n c) := by rw [hb1.cell (p := ⟨w.heap.size, 0, none⟩) hq0.2]; exact hq0.1
    have H1 := Lib.hid ((H0.out.below hb1).more hb1.size)
    have B1 := Lib.hid (hb0.trans (hb1.mono hb0.size))
    clear hb1 hb0 HEQ hq0
    go_wp2_with fail
    refine (semi_if x true w1 HSB.out).mono ?_
    rintro e w' ⟨rfl, rfl⟩
    go_wp2_with fail
    refine (representation_any _ zs x w1 H1.out HN0.out HP.out hx).mono ?_
    rintro e w2 ⟨v2, rfl, ho2, hb2⟩
    obtain ⟨A2, c2, rfl⟩ := own_form ho2.1
    have B2 := Lib.hid (B1.out.trans (hb2.mono B1.out.size))
    clear ho2 hb2
    generalize reB zs x = bo at *
    go_wp2_with fail
    go_ret2
    exact AnsBI.mk' (by rw [E.out.1]) (by rw [E.out.2]) B2.out
end Go.Proofs.Ytncgkoanckefmaa
