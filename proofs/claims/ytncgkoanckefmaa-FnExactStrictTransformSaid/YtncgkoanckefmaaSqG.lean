/- Codes and lists of long sequences, the model's and the program's: contracts. Conditions: stated at each theorem. -/
import Derived.Test.YtncgkoanckefmaaSqF
import Derived.Test.YtncgkoanckefmaaSqS
namespace Go.Proofs.Ytncgkoanckefmaa
open Go.ChangeShapes Go.WideShapes Go.ChangeAt Go.RowKit Go.Deep
set_option linter.unusedVariables false
set_option linter.unusedSimpArgs false

def lqC (zs : List Int) (m : Int) : Int := if brB zs then (if 0 ≤ m ∧ m ≤ 400 then (if 400 < cntL (rsI zs) + m then 3 else 0) else 2) else 1
def lqA (zs : List Int) (m : Int) : List Int := if lqC zs m = 0 then seqL zs ++ List.replicate m.toNat 1 else []
theorem lq_no {zs : List Int} {m : Int} (h : brB zs = false) : lqC zs m = 1 ∧ lqA zs m = [] := by simp [lqC, lqA, h]
theorem lq_out {zs : List Int} {m : Int} (h : brB zs = true) (h2 : ¬(0 ≤ m ∧ m ≤ 400)) : lqC zs m = 2 ∧ lqA zs m = [] := by simp only [lqC, lqA, h, if_true, if_neg h2]; simp
theorem lq_big {zs : List Int} {m : Int} (h : brB zs = true) (h2 : 0 ≤ m ∧ m ≤ 400) (h3 : 400 < cntL (rsI zs) + m) : lqC zs m = 3 ∧ lqA zs m = [] := by simp only [lqC, lqA, h, if_true, if_pos h2, if_pos h3]; simp
theorem lq_yes {zs : List Int} {m : Int} (h : brB zs = true) (h2 : 0 ≤ m ∧ m ≤ 400) (h3 : ¬ 400 < cntL (rsI zs) + m) : lqC zs m = 0 ∧ lqA zs m = seqL zs ++ List.replicate m.toNat 1 := by simp only [lqC, lqA, h, if_true, if_pos h2, if_neg h3]; simp
theorem lqA_len (zs : List Int) (m : Int) : (lqA zs m).length ≤ 400 := by
  unfold lqA
  split
  · rename_i h
    unfold lqC at h
    split at h
    · rename_i hp
      split at h
      · rename_i h2
        split at h
        · cases h
        · rename_i h3
          have h4 := (seq_len hp).1
          rw [List.length_append, List.length_replicate]
          omega
      · cases h
    · cases h
  · simp

set_option maxHeartbeats 1000000 in
theorem l04Long_any (v : Value) (zs : List Int) (m : Int) (w : World) (h : ReadI w w.heap.size v zs) (hn : zs.length ≤ 1048576) (hw : ∀ z ∈ zs, (Lit.int .i64 z).wf = true) :
    Calls Try.prog 94 #[.agg #[v], .int .i64 m] w (fun e w' => e = .returned (.int .i64 (lqC zs m)) ∧ Below w.heap.size w w') := by
  obtain ⟨n, A, c, rfl, hr, HL, _, hnc, HF, hcm⟩ := h.split2
  obtain ⟨W0, HE⟩ : ∃ W, W = w.alloc (.cells #[.slice A n c] 28) := ⟨_, rfl⟩
  have hb0 : Below w.heap.size w W0 := by rw [HE]; exact below_box _ _
  have hq0 : BoxI W0 w.heap.size (.slice A n c) := by rw [HE]; exact BoxI.new _ _ _
  have H0 := Lib.hid ((h.below hb0).more hb0.size)
  have HNN := Lib.hid hn
  have HWW := Lib.hid hw
  have HEQ := Lib.hid HE
  clear h hr HE HF hn hw
  rcases bool_fs (brB zs) with hp | hp
  · have e1 := Lib.hid (lq_no (m := m) hp).1
    have HP := Lib.hid hp
    clear hp
    go_enter Try.func94, Try.ntmps94
    go_wp2_with fail
    rw [← HEQ.out]
    refine (l03Is_if _ zs _ false H0.out HNN.out HWW.out HP.out).mono ?_
    rintro e w1 ⟨rfl, hb1⟩
    go_wp2
    go_ret
    exact ⟨by rw [e1.out]; rfl, hb0.trans (hb1.mono hb0.size)⟩
  have HP := Lib.hid hp
  by_cases hm : 0 ≤ m ∧ m ≤ 400
  rotate_left
  · have e1 := Lib.hid (lq_out hp hm).1
    clear hp
    go_enter Try.func94, Try.ntmps94
    go_wp2_with fail
    rw [← HEQ.out]
    refine (l03Is_if _ zs _ true H0.out HNN.out HWW.out HP.out).mono ?_
    rintro e w1 ⟨rfl, hb1⟩
    have cb1 : w1.cell? ⟨w.heap.size, 0, none⟩ = some (.slice A n c) := by rw [hb1.cell (p := ⟨w.heap.size, 0, none⟩) hq0.2]; exact hq0.1
    have H1 := Lib.hid ((H0.out.below hb1).more hb1.size)
    have B1 := Lib.hid (hb0.trans (hb1.mono hb0.size))
    clear hb1 hb0 HEQ
    go_wp2_with (go_at_call 75; refine (in_no _ _ _ _ (by omega)).mono ?_; rintro e w' ⟨rfl, rfl⟩)
    go_ret
    exact ⟨by rw [e1.out]; rfl, B1.out⟩
  by_cases h3 : 400 < cntL (rsI zs) + m
  · have e1 := Lib.hid (lq_big hp hm h3).1
    have hcb := cntL_bound (rsI_ok hp).1
    have hcl := (rsI_ok hp).2
    have HC := Lib.hid (fun W (h : ReadI W W.heap.size (.slice A n c) zs) => l04Count_any (.slice A n c) zs W h HNN.out HP.out)
    clear hp
    generalize cntL (rsI zs) = s at *
    go_enter Try.func94, Try.ntmps94
    go_wp2_with fail
    rw [← HEQ.out]
    refine (l03Is_if _ zs _ true H0.out HNN.out HWW.out HP.out).mono ?_
    rintro e w1 ⟨rfl, hb1⟩
    have cb1 : w1.cell? ⟨w.heap.size, 0, none⟩ = some (.slice A n c) := by rw [hb1.cell (p := ⟨w.heap.size, 0, none⟩) hq0.2]; exact hq0.1
    have H1 := Lib.hid ((H0.out.below hb1).more hb1.size)
    have B1 := Lib.hid (hb0.trans (hb1.mono hb0.size))
    clear hb1 hb0 HEQ
    go_wp2_with (go_at_call 75; refine (in_yes _ _ _ _ (by omega) (by omega)).mono ?_; rintro e w' ⟨rfl, rfl⟩)
    refine (HC.out _ H1.out).mono ?_
    rintro e w2 ⟨rfl, hb2⟩
    go_wp2
    go_ret
    exact ⟨by rw [e1.out]; rfl, B1.out.trans (hb2.mono B1.out.size)⟩
  · have e1 := Lib.hid (lq_yes hp hm h3).1
    have hcb := cntL_bound (rsI_ok hp).1
    have hcl := (rsI_ok hp).2
    have HC := Lib.hid (fun W (h : ReadI W W.heap.size (.slice A n c) zs) => l04Count_any (.slice A n c) zs W h HNN.out HP.out)
    clear hp
    generalize cntL (rsI zs) = s at *
    go_enter Try.func94, Try.ntmps94
    go_wp2_with fail
    rw [← HEQ.out]
    refine (l03Is_if _ zs _ true H0.out HNN.out HWW.out HP.out).mono ?_
    rintro e w1 ⟨rfl, hb1⟩
    have cb1 : w1.cell? ⟨w.heap.size, 0, none⟩ = some (.slice A n c) := by rw [hb1.cell (p := ⟨w.heap.size, 0, none⟩) hq0.2]; exact hq0.1
    have H1 := Lib.hid ((H0.out.below hb1).more hb1.size)
    have B1 := Lib.hid (hb0.trans (hb1.mono hb0.size))
    clear hb1 hb0 HEQ
    go_wp2_with (go_at_call 75; refine (in_yes _ _ _ _ (by omega) (by omega)).mono ?_; rintro e w' ⟨rfl, rfl⟩)
    refine (HC.out _ H1.out).mono ?_
    rintro e w2 ⟨rfl, hb2⟩
    go_wp2
    go_ret
    exact ⟨by rw [e1.out]; rfl, B1.out.trans (hb2.mono B1.out.size)⟩

end Go.Proofs.Ytncgkoanckefmaa
