/- Numbers of blow-ups and Milnor numbers, the program's: contracts. Conditions: stated at each theorem. -/
import Derived.Test.YtncgkoanckefmaaSqD
namespace Go.Proofs.Ytncgkoanckefmaa
open Go.ChangeShapes Go.WideShapes Go.ChangeAt Go.RowKit Go.Shelf
set_option linter.unusedVariables false
set_option linter.unusedSimpArgs false
attribute [local go_sem] Oper.semAt_some

set_option maxRecDepth 100000 in
set_option maxHeartbeats 2000000 in
theorem implCountBlowUps_any (v : Value) (zs : List Int) (w : World) (h : ReadI w w.heap.size v zs) (hn : zs.length ≤ 1048576) (hw : ∀ z ∈ zs, (Lit.int .i64 z).wf = true) :
    Calls Try.prog 54 #[.agg #[v]] w (AnsII w (uA zs) (sqC zs)) := by
  have hq := h
  obtain ⟨n, A, c, rfl, hr, HL, HN, hnc, HF, hcm⟩ := h.split2
  obtain ⟨W0, HE⟩ : ∃ W, W = w.alloc (.cells #[.slice A n c] 28) := ⟨_, rfl⟩
  have hb0 : Below w.heap.size w W0 := by rw [HE]; exact below_box _ _
  have hq0 : BoxI W0 w.heap.size (.slice A n c) := by rw [HE]; exact BoxI.new _ _ _
  have H0 := Lib.hid ((hq.below hb0).more hb0.size)
  have HQ := Lib.hid hq
  have HNN := Lib.hid hn
  have HWW := Lib.hid hw
  have HEQ := Lib.hid HE
  clear hq h hr HE HN HF hw hn
  refine (callsIn_wide (n := 9)).1 ?_
  refine callsIn_of_wp_marks Try.func54 rfl trivial ?_ rfl
  simp only [Try.ntmps54, List.size_toArray, List.length_cons, List.length_nil, Nat.reduceAdd, Nat.reduceSub, Array.replicate_succ, Array.replicate_zero, List.push_toArray, List.append_toArray, List.nil_append, List.cons_append]
  gi_wp2_with fail
  rw [← HEQ.out]
  refine ⟨trivial, ?_⟩
  gi_at_call 77
  rcases bool_fs (brB zs) with hp | hp
  · have e1 : Hid (uA zs = 0) := Lib.hid (by simp [uA, hp])
    have e2 : Hid (sqC zs = 1) := Lib.hid (by simp [sqC, hp])
    refine (callsIn_wide.2 (implIsBranch_if _ zs _ false H0.out HNN.out HWW.out hp)).mono ?_
    rintro e w1 ⟨rfl, hb1⟩
    gi_wp2_with fail
    refine ⟨.tuple #[.int .i64 0, .int .i64 1], by simp [results, Try.f54, go_sem], ?_⟩
    exact ⟨by rw [e1.out, e2.out], hb0.trans (hb1.mono hb0.size)⟩
  · have e1 : Hid (uA zs = upsL (rsI zs)) := Lib.hid (by simp [uA, hp])
    have e2 : Hid (sqC zs = 0) := Lib.hid (by simp [sqC, hp])
    refine (callsIn_wide.2 (implIsBranch_if _ zs _ true H0.out HNN.out HWW.out hp)).mono ?_
    rintro e w1 ⟨rfl, hb1⟩
    have cb1 : w1.cell? ⟨w.heap.size, 0, none⟩ = some (.slice A n c) := by rw [hb1.cell (p := ⟨w.heap.size, 0, none⟩) hq0.2]; exact hq0.1
    have hs1 : w.heap.size < w1.heap.size := Nat.lt_of_lt_of_le hq0.2 hb1.size
    have B1 : Below w.heap.size w w1 := hb0.trans (hb1.mono hb0.size)
    clear hb1 hb0 hq0 H0 HEQ
    gi_wp2_with (refine ⟨trivial, ?_⟩; gi_at_call 105; refine (callsIn_wide.2 (runSteps_any _ _)).mono ?_; rintro e w' ⟨rfl, rfl⟩)
    have hl := HL.out
    have hbb : Below w.heap.size w ((w1.alloc (.cells #[.int .i64 0] 2)).alloc (.cells #[.slice A n c] 28)) := (B1.alloc B1.size _).alloc (by have := B1.size; simp; omega) _
    have bD := (Boxed.new w1 2 (.int .i64 0)).alloc (.cells #[.slice A n c] 28)
    have bN := Boxed.new (w1.alloc (.cells #[.int .i64 0] 2)) 28 (.slice A n c)
    rw [World.size_alloc] at bN
    have hsW : ((w1.alloc (.cells #[.int .i64 0] 2)).alloc (.cells #[.slice A n c] 28)).heap.size = w1.heap.size + 2 := by simp
    generalize (w1.alloc (.cells #[.int .i64 0] 2)).alloc (.cells #[.slice A n c] 28) = W4 at *
    have hrb : rb w1.heap.size W4 = none := rb_boxed bD
    obtain ⟨g, o, rfl, hnc', hcm', sG, cG⟩ := branch_mem HQ.out hp hl hbb (by omega) hrb
    have h0 : w1.heap.size < W4.heap.size := by omega
    have sB : Safe w1.heap.size W4 (w1.heap.size + 1) := ⟨by omega, by rw [hrb]; simp, _, bN, rfl⟩
    have hOK := rsI_ok hp
    refine wpIn_rangeFunc_ownF rfl (by omega) (gf := 122) (lb := #[.pointer (some ⟨w1.heap.size + 1, 0, none⟩)]) rfl trivial (enters_of Try.func122 (by kernel_rfl) rfl)
      (runIt_stops _ w1.heap.size (w1.heap.size + 1) g o n c zs W4 (by omega) hp hl (fun b e => by rw [hrb] at e; cases e) h0 sB bN.cell hnc' hcm' sG cG) (fun h k => h.trans k) (kpB_b h0) (Below.refl _ _) (fun _ => rfl)
      (fun pre W => Boxed W w1.heap.size 2 (.int .i64 (upsL (vals pre))) ∧ Below w.heap.size w W)
      (fun _ _ _ => False)
      (OwnFrom.and (fun s X Y row hs hg hr => hs.kept hg (fun e => by obtain ⟨_, o1, h1, h2⟩ := hr _ e.symm; rw [show X.heap[w1.heap.size]? = _ from hs] at h1; cases h1; cases h2)) (ownFrom_below (Nat.le_refl _) (by omega)))
      (fun _ _ _ _ _ hs _ _ => hs)
      ⟨bD, hbb⟩
      (fun x => { tmps := #[.agg #[.slice (some ⟨g, o, none⟩) n c], .pointer (some ⟨w.heap.size, 0, none⟩), .int .i64 0, .int .i64 0, .pointer (some ⟨w1.heap.size, 0, none⟩), .int .i64 x.1.1, .int .i64 x.1.2, .agg #[.slice (some ⟨g, o, none⟩) n c], .bool true, .bool false, .agg #[.slice (some ⟨g, o, none⟩) n c], .func (.func 122) #[] #[.pointer (some ⟨w1.heap.size + 1, 0, none⟩)], .int .i64 x.1.1, .int .i64 x.1.2, undef, undef, undef, undef, undef, undef], defers := [] }) ?assign ?body ?done ?stop
    case assign =>
      intro l x W K hK
      gi_wp2
      exact hK
    case body =>
      rintro l pre x W ⟨hbx, hB⟩ hlt
      have hc := hbx.cell
      have hf := hbx.frozen
      obtain ⟨⟨q, r⟩, hx⟩ := x
      have hv := upsL_bound (L := vals pre) (fun p hp => by obtain ⟨y, _, rfl⟩ := List.mem_map.1 hp; exact y.2)
      have hvl : (vals pre).length = pre.length := by simp [vals]
      obtain ⟨⟨hx1, hx2⟩, hx3, hx4⟩ := hx
      dsimp only at *
      by_cases hr1 : 1 < r
      · gi_wp2_with fail
        exact ⟨KeepsOthers.setCell _ _ _, KpB.setInt hbx _, ⟨by rw [vals_snoc, upsL_snoc, if_pos hr1]; exact hbx.set _, hB.setCell (p := ⟨w1.heap.size, 0, none⟩) (by show w.heap.size ≤ w1.heap.size; omega) _⟩⟩
      · gi_wp2_with fail
        exact ⟨KeepsOthers.refl _, KpB.refl _ _, ⟨by rw [vals_snoc, upsL_snoc, if_neg (show ¬ 1 < r by omega), Int.add_zero]; exact hbx, hB⟩⟩
    case done =>
      rintro D xs W hD hxs ⟨hbx, hB⟩ hK
      have hc := hbx.cell
      have hX : Hid (upsL (vals xs) = upsL (rsI zs)) := Lib.hid (by rw [hxs])
      generalize upsL (vals xs) = d at *
      gi_wp2
      refine ⟨by simp, .inl ⟨_, _, rfl, run_takeDeferred hK, ?_⟩⟩
      refine ⟨.tuple #[.int .i64 d, .int .i64 0], by simp [results, Try.f54, go_sem], ?_⟩
      exact ⟨by rw [e1.out, e2.out, hX.out], hB.trans (belowK_b (w := w) (Nat.le_refl _) W D _ _ (by omega) hK rfl rfl)⟩
    case stop =>
      rintro D c pre W _ _ h _
      exact h.elim
def mA (zs : List Int) : Int := 2 * dA zs
theorem dA_bound (zs : List Int) : 0 ≤ dA zs ∧ dA zs ≤ 600000000000 := by
  unfold dA
  split
  · rename_i hp
    have h1 := rsI_ok hp
    have := delL_bound h1.1
    omega
  · omega
theorem implMilnorOfBranch_any (v : Value) (zs : List Int) (w : World) (h : ReadI w w.heap.size v zs) (hn : zs.length ≤ 1048576) (hw : ∀ z ∈ zs, (Lit.int .i64 z).wf = true) :
    Calls Try.prog 57 #[.agg #[v]] w (AnsII w (mA zs) (sqC zs)) := by
  obtain ⟨n, A, c, rfl, hr, HL, HN, hnc, HF, hcm⟩ := h.split2
  obtain ⟨W0, HE⟩ : ∃ W, W = w.alloc (.cells #[.slice A n c] 28) := ⟨_, rfl⟩
  have hb0 : Below w.heap.size w W0 := by rw [HE]; exact below_box _ _
  have H0 := Lib.hid ((h.below hb0).more hb0.size)
  have HNN := Lib.hid hn
  have HWW := Lib.hid hw
  have HEQ := Lib.hid HE
  clear h hr HE HN HF hw hn
  have hd := dA_bound zs
  go_enter Try.func57, Try.ntmps57
  go_wp2_with fail
  rw [← HEQ.out]
  refine (implDeltaInvariant_any _ zs _ H0.out HNN.out HWW.out).mono ?_
  rintro e w1 ⟨rfl, hb1⟩
  go_wp2_with fail
  go_ret2
  exact ⟨rfl, hb0.trans (hb1.mono hb0.size)⟩
end Go.Proofs.Ytncgkoanckefmaa
