/- PuiseuxPairs: contracts. Conditions: stated at each theorem. -/
import Derived.Test.YtlidleaigjemnaaPrS
import Derived.Test.YtlidleaigjemnaaBrB
import Derived.Test.YtlidleaigjemnaaBrA
namespace Go.Proofs.Ytlidleaigjemnaa
open Go.ChangeShapes Go.WideShapes Go.ChangeAt Go.RowKit
set_option linter.unusedVariables false
set_option linter.unusedSimpArgs false

def ppA (zs : List Int) : List (List Int) := if brB zs then prL (ppF zs) (zs.length - 1) else []
theorem ppA_no {zs : List Int} (h : brB zs = false) : ppA zs = [] ∧ brC zs = 1 := by simp [ppA, brC, h]
theorem ppA_yes {zs : List Int} (h : brB zs = true) : ppA zs = prL (ppF zs) (zs.length - 1) ∧ brC zs = 0 := by simp [ppA, brC, h]
theorem ansQ_end {w w' : World} {v : Value} {zss L : List (List Int)} {C D : Int} (h1 : zss = L) (h2 : D = C) (ho : OwnQ w' w.heap.size w'.heap.size v zss) (hb : Below w.heap.size w w') : AnsQC w L C (.returned (.tuple #[v, .int .i64 D])) w' := by
  subst h1; subst h2; exact ⟨v, rfl, ho, hb⟩
theorem prL_szTot {f : Nat → Int × Int} {n : Nat} : szTot (prL f n) = n + 2 * n := by
  have h : ∀ k, k ≤ n → sumTo (lens (prL f n)) k = 2 * k := by
    intro k
    induction k with
    | zero => intro _; rfl
    | succ k ih =>
      intro hk
      have h2 : sumTo (lens (prL f n)) (k + 1) = sumTo (lens (prL f n)) k + lens (prL f n) k := rfl
      have h3 : lens (prL f n) k = 2 := by unfold lens; rw [prL_at f (show k < n by omega)]; rfl
      rw [h2, ih (by omega), h3]; omega
  unfold szTot
  rw [prL_len, h n (Nat.le_refl _)]
theorem ppA_sz {zs : List Int} (h : zs.length ≤ 1048576) : szTot (ppA zs) ≤ 549755813888 := by
  unfold ppA; split
  · rw [prL_szTot]; omega
  · show 0 + 0 ≤ _; omega

set_option maxHeartbeats 1000000 in
theorem specPuiseuxPairs_any (v : Value) (zs : List Int) (w : World) (h : ReadI w w.heap.size v zs) (hn : zs.length ≤ 1048576) (hw : ∀ z ∈ zs, (Lit.int .i64 z).wf = true) :
    Calls Try.prog 13 #[.agg #[v]] w (AnsQC w (ppA zs) (brC zs)) := by
  obtain ⟨A, n, c, rfl⟩ : ∃ A n c, v = .slice A n c := by obtain ⟨A, c, e, _⟩ := h; exact ⟨A, _, c, e⟩
  obtain ⟨W0, HE⟩ : ∃ W, W = w.alloc (.cells #[.slice A n c] 26) := ⟨_, rfl⟩
  have hb0 : Below w.heap.size w W0 := by rw [HE]; exact below_box2 _ _
  have hq0 : BoxI W0 w.heap.size (.slice A n c) := by rw [HE]; exact BoxI.new _ _ _
  have HR := Lib.hid ((h.below hb0).more hb0.size)
  have B0 := Lib.hid hb0
  have HW := Lib.hid hw
  have HEQ := Lib.hid HE
  have q0 := hq0.1
  have hs0 := hq0.2
  clear h hb0 hw HE hq0
  cases hp : brB zs
  · have E := Lib.hid (ppA_no hp)
    have HP := Lib.hid hp
    clear hp
    go_enter Try.func13, Try.ntmps13
    go_wp2_with fail
    rw [← HEQ.out]
    refine (l03Is_if _ zs W0 false HR.out hn HW.out HP.out).mono ?_
    rintro e w1 ⟨rfl, hb⟩
    have B1 := Lib.hid (B0.out.trans (hb.mono B0.out.size))
    clear hb q0
    go_wp2_with fail
    go_ret2
    exact ansQ_end E.out.1.symm E.out.2.symm (OwnQ.nil _ _) B1.out
  · have E := Lib.hid (ppA_yes hp)
    have HP := Lib.hid hp
    clear hp
    go_enter Try.func13, Try.ntmps13
    go_wp2_with fail
    rw [← HEQ.out]
    refine (l03Is_if _ zs W0 true HR.out hn HW.out HP.out).mono ?_
    rintro e w1 ⟨rfl, hb⟩
    have q1 := (hb.cell (p := ⟨w.heap.size, 0, none⟩) hs0).trans q0
    have R1 := Lib.hid ((HR.out.below hb).more hb.size)
    have B1 := Lib.hid (B0.out.trans (hb.mono B0.out.size))
    clear hb q0
    go_wp2_with fail
    refine (l03Puiseux_any _ zs w1 R1.out hn HP.out).mono ?_
    rintro e w2 ⟨v2, rfl, ho2, hb2⟩
    have B2 := Lib.hid (B1.out.trans (hb2.mono B1.out.size))
    have O2 := Lib.hid (ownQ_less ho2 B1.out.size)
    clear hb2 ho2
    go_wp2_with fail
    go_ret2
    exact ansQ_end E.out.1.symm E.out.2.symm O2.out B2.out

set_option maxHeartbeats 1000000 in
theorem implPuiseuxPairs_any (v : Value) (zs : List Int) (w : World) (h : ReadI w w.heap.size v zs) (hn : zs.length ≤ 1048576) (hw : ∀ z ∈ zs, (Lit.int .i64 z).wf = true) :
    Calls Try.prog 12 #[.agg #[v]] w (AnsQC w (ppA zs) (brC zs)) := by
  obtain ⟨A, n, c, rfl⟩ : ∃ A n c, v = .slice A n c := by obtain ⟨A, c, e, _⟩ := h; exact ⟨A, _, c, e⟩
  obtain ⟨W0, HE⟩ : ∃ W, W = w.alloc (.cells #[.slice A n c] 26) := ⟨_, rfl⟩
  have hb0 : Below w.heap.size w W0 := by rw [HE]; exact below_box2 _ _
  have hq0 : BoxI W0 w.heap.size (.slice A n c) := by rw [HE]; exact BoxI.new _ _ _
  have HR := Lib.hid ((h.below hb0).more hb0.size)
  have B0 := Lib.hid hb0
  have HW := Lib.hid hw
  have HEQ := Lib.hid HE
  have q0 := hq0.1
  have hs0 := hq0.2
  clear h hb0 hw HE hq0
  cases hp : brB zs
  · have E := Lib.hid (ppA_no hp)
    have HP := Lib.hid hp
    clear hp
    go_enter Try.func12, Try.ntmps12
    go_wp2_with fail
    rw [← HEQ.out]
    refine (implIsBranch_if _ zs W0 false HR.out hn HW.out HP.out).mono ?_
    rintro e w1 ⟨rfl, hb⟩
    have B1 := Lib.hid (B0.out.trans (hb.mono B0.out.size))
    clear hb q0
    go_wp2_with fail
    go_ret2
    exact ansQ_end E.out.1.symm E.out.2.symm (OwnQ.nil _ _) B1.out
  · have E := Lib.hid (ppA_yes hp)
    have HP := Lib.hid hp
    clear hp
    go_enter Try.func12, Try.ntmps12
    go_wp2_with fail
    rw [← HEQ.out]
    refine (implIsBranch_if _ zs W0 true HR.out hn HW.out HP.out).mono ?_
    rintro e w1 ⟨rfl, hb⟩
    have q1 := (hb.cell (p := ⟨w.heap.size, 0, none⟩) hs0).trans q0
    have R1 := Lib.hid ((HR.out.below hb).more hb.size)
    have B1 := Lib.hid (B0.out.trans (hb.mono B0.out.size))
    clear hb q0
    go_wp2_with fail
    refine (puiseux_any _ zs w1 R1.out hn HP.out).mono ?_
    rintro e w2 ⟨g2, rfl, hg2, hp2, hb2⟩
    have B2 := Lib.hid (B1.out.trans (hb2.mono B1.out.size))
    have P2 := Lib.hid hp2
    clear hb2 hp2
    go_wp2_with fail
    refine (lists_any g2 _ _ w2 P2.out (by omega)).mono ?_
    rintro e w4 ⟨v4, rfl, ho4, hb4⟩
    have B4 := Lib.hid (B2.out.trans (hb4.mono B2.out.size))
    have O4 := Lib.hid (ownQ_less ho4 B2.out.size)
    clear hb4 ho4
    go_wp2_with fail
    go_ret2
    exact ansQ_end E.out.1.symm E.out.2.symm O4.out B4.out
end Go.Proofs.Ytlidleaigjemnaa
