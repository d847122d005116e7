/- Is it a cluster: both tests, for all arguments; words for laws with clusters. Conditions: stated at each theorem. -/
import Derived.Test.YtohbgfmjnanlkaaClI
import Derived.Test.YtohbgfmjnanlkaaClO
namespace Go.Proofs.Ytohbgfmjnanlkaa
open Go.ChangeShapes Go.WideShapes Go.ChangeAt Go.RowKit Go.Joins Go.Deep
set_option linter.unusedVariables false
set_option linter.unusedSimpArgs false

theorem OwnI.stay {w w' : World} {lo hi : Nat} {v : Value} {zs : List Int} (h : OwnI w lo hi v zs) (hb : Below w.heap.size w w') : OwnI w' lo hi v zs := h.kept (Kept.of_below hb h.2.2)
theorem MarkI.stay {w w' : World} {lo hi n m : Nat} {v : Value} (h : MarkI w lo hi v n m) (hb : Below w.heap.size w w') : MarkI w' lo hi v n m := h.kept (Kept.of_below hb h.2.2)
theorem OwnC.stay {w w' : World} {lo hi : Nat} {a b c : Value} {P S W : List Int} (h : OwnC w lo hi a b c P S W) (hb : Below w.heap.size w w') : OwnC w' lo hi a b c P S W := h.kept (Kept.of_below hb h.1)
theorem MarkC.stay {w w' : World} {lo hi n0 n1 n2 m : Nat} {a b c : Value} (h : MarkC w lo hi a b c n0 n1 n2 m) (hb : Below w.heap.size w w') : MarkC w' lo hi a b c n0 n1 n2 m := h.kept (Kept.of_below hb h.1)
theorem CBox.stay {w w' : World} {h : Nat} {a b c : Value} (k : CBox w h a b c) (hb : Below w.heap.size w w') : CBox w' h a b c := k.below hb
theorem BoxI.stay {w w' : World} {b : Nat} {v : Value} (h : BoxI w b v) (hb : Below w.heap.size w w') : BoxI w' b v := h.kept (Kept.of_below hb h.2)
theorem toC_drew (a b c : Value) (P S W : List Int) (w : World) (hr : ReadCW w w.heap.size a b c P S W) (hP : P.length ≤ 1048576) (hS : S.length ≤ 1048576) (hW : W.length ≤ 1048576) :
    Calls Try.prog 22 #[.agg #[a, b, c]] w.drew fun e w' => ∃ x y z, e = .returned (.agg #[x, y, z]) ∧ OwnC w' w.heap.size w'.heap.size x y z P S W ∧ Below w.heap.size w w' := by
  refine (toC a b c P S W w.drew hr hP hS hW).mono ?_
  rintro e w' ⟨x, y, z, rfl, h1, h2⟩
  exact ⟨x, y, z, rfl, h1, ⟨h2.os, h2.tape, h2.output, h2.size, h2.block⟩⟩

theorem open_field_ints {H : Type} {enc : TypeId × Value → H} {W : World} {B m : Nat} {c0 : Value} {y0 : DataW H × List MemPlace}
    (h1 : DataW.trod enc Try.prog W 0 (fun _ => true) true m 22 [c0] = some y0) (hlt : ∀ x ∈ y0.2, x.block < B) :
    ∃ (A : Option Addr) (n c : Nat) (zs : List Int), c0 = .slice A n c ∧ RI W B A n zs ∧ n ≤ 9223372036854775807 ∧ ∀ z ∈ zs, (Lit.int .i64 z).wf = true := by
  obtain ⟨d0, p0⟩ := y0
  rcases open_ints Try.underlying22 Try.underlying2 (by kernel_rfl) h1 with ⟨e, _⟩ | ⟨a, len', cap', zs, e, _, hle, hcap, hzl, hx, hcell, hwf⟩
  · simp only [List.cons.injEq, and_true] at e
    subst e
    exact ⟨none, 0, 0, [], rfl, ⟨rfl, fun k hk => by omega⟩, by omega, by simp⟩
  · simp only [List.cons.injEq, and_true] at e
    subst e
    simp only [if_true] at hzl
    simp only [Prod.mk.injEq] at hx
    have hp : p0 = MemPlace.row a zs.length := hx.2
    unfold maxLen at hcap
    refine ⟨some a, len', cap', zs.take len', rfl, ⟨by simp; omega, fun k hk => ⟨a, rfl, ?_, ?_⟩⟩, by omega, fun z hz => hwf z (List.mem_of_mem_take hz)⟩
    · have := hlt (.cell a.block (a.off + 0)) (by show _ ∈ p0; rw [hp]; exact MemPlace.mem_row.2 ⟨0, by omega, rfl⟩)
      simpa [MemPlace.block] using this
    · rw [hcell k (by omega)]
      simp [List.getD, hk]
set_option maxRecDepth 100000 in
theorem open_cluster {H : Type} {enc : TypeId × Value → H} {W : World} {B : Nat} {r : Reach} {b0 : Nat} {f0 f1 f2 : Field} {v : Value} {d : DataW H} {p : List MemPlace}
    (hs : Try.prog.underlying 33 = some (.struct #[f0, f1, f2])) (hone : oneCellFields Try.prog #[f0, f1, f2] = true) (hC : Try.prog.cellsOf 33 = 3) (hf0 : f0.type = 22 ∧ f1.type = 22 ∧ f2.type = 22)
    (hv : Value.okWide Try.prog W r b0 33 v) (h : DataW.Trod enc Try.prog W 0 (fun _ => true) true 33 v d p) (hlt : ∀ x ∈ p, x.block < B) :
    ∃ (A0 A1 A2 : Option Addr) (n0 n1 n2 c0 c1 c2 : Nat) (P S V : List Int), v = .agg #[.slice A0 n0 c0, .slice A1 n1 c1, .slice A2 n2 c2] ∧ (RI W B A0 n0 P ∧ n0 ≤ 9223372036854775807 ∧ ∀ z ∈ P, (Lit.int .i64 z).wf = true) ∧ (RI W B A1 n1 S ∧ n1 ≤ 9223372036854775807 ∧ ∀ z ∈ S, (Lit.int .i64 z).wf = true) ∧ (RI W B A2 n2 V ∧ n2 ≤ 9223372036854775807 ∧ ∀ z ∈ V, (Lit.int .i64 z).wf = true) := by
  obtain ⟨v0, v1, v2, y0, y1, y2, n, rfl, _, hp, h0, h1, h2⟩ := open_agg3 hs hone hC hv h
  rw [hf0.1] at h0; rw [hf0.2.1] at h1; rw [hf0.2.2] at h2
  subst hp
  obtain ⟨A0, n0, c0, P, rfl, k0⟩ := open_field_ints h0 (fun x hx => hlt x (by simp [hx]))
  obtain ⟨A1, n1, c1, S, rfl, k1⟩ := open_field_ints h1 (fun x hx => hlt x (by simp [hx]))
  obtain ⟨A2, n2, c2, V, rfl, k2⟩ := open_field_ints h2 (fun x hx => hlt x (by simp [hx]))
  exact ⟨A0, A1, A2, n0, n1, n2, c0, c1, c2, P, S, V, rfl, k0, k1, k2⟩

theorem clB_eq {P S W : List Int} {n : Nat} (hp : P.length = n) (hs : S.length = n) (hw : W.length = n) (hn : 1 ≤ n ∧ n ≤ 24) : clB P S W = (okAll P S n && wtOK W) := by
  unfold clB
  rw [hp, hs, hw, decide_eq_true hn.1, decide_eq_true hn.2, decide_eq_true rfl]; simp
theorem l07Is_if (a b c : Value) (P S W : List Int) (w : World) (h : ReadC w w.heap.size a b c P S W) (hP : P.length ≤ 1048576) (hS : S.length ≤ 1048576) (hW : W.length ≤ 1048576) (bb : Bool) (hb : clB P S W = bb) :
    Calls Try.prog 74 #[.agg #[a, b, c]] w fun e w' => e = .returned (.bool bb) ∧ Below w.heap.size w w' := by
  obtain ⟨h0, h1, h2⟩ := h
  have r0 := h0; have r1 := h1; have r2 := h2
  obtain ⟨A0, c0, rfl, _, _, hc0, _, hm0⟩ := h0
  obtain ⟨A1, c1, rfl, _, _, hc1, _, hm1⟩ := h1
  obtain ⟨A2, c2, rfl, _, _, hc2, _, hm2⟩ := h2
  by_cases hl : P.length < 1 ∨ 24 < P.length ∨ S.length ≠ P.length ∨ W.length ≠ P.length
  · have e : bb = false := by
      rw [← hb]; unfold clB
      cases e : (decide (1 ≤ P.length) && decide (P.length ≤ 24) && decide (S.length = P.length) && decide (W.length = P.length)) with
      | false => simp
      | true => simp only [Bool.and_eq_true, decide_eq_true_eq] at e; omega
    subst e
    exact l07Is_len A0 A1 A2 P.length S.length W.length c0 c1 c2 w (by omega) hl
  · have hn : 1 ≤ P.length ∧ P.length ≤ 24 := by omega
    obtain ⟨n, hnp⟩ : ∃ n, P.length = n := ⟨_, rfl⟩
    have hns : S.length = n := by omega
    have hnw : W.length = n := by omega
    rw [hnp] at hn r0 hc0 ⊢
    rw [hns] at r1 hc1 ⊢
    rw [hnw] at r2 hc2 ⊢
    obtain ⟨g0, o0, rfl, H0, hg0⟩ := cells_ofC r0 hnp hn.1
    obtain ⟨g1, o1, rfl, H1, hg1⟩ := cells_ofC r1 hns hn.1
    obtain ⟨g2, o2, rfl, H2, hg2⟩ := cells_ofC r2 hnw hn.1
    have hcl : clB P S W = (okAll P S n && wtOK W) := clB_eq hnp hns hnw hn
    by_cases hf : P[0]?.getD 0 = -1 ∧ S[0]?.getD 0 = -1
    · exact l07Is_run g0 g1 g2 o0 o1 o2 n c0 c1 c2 P S W w hn ⟨hc0, hc1, hc2⟩ H0 H1 H2 ⟨hg0, hg1, hg2⟩ bb hf hnw (by rw [← hcl]; exact hb)
    · have e : bb = false := by
        rw [← hb, hcl, okAll_bad (i := 0) ?_ (by omega)]; rfl
        rw [okQ_zero]
        cases e : (decide (P[0]?.getD 0 = -1) && decide (S[0]?.getD 0 = -1)) with
        | false => rfl
        | true => simp only [Bool.and_eq_true, decide_eq_true_eq] at e; exact absurd e hf
      subst e
      exact l07Is_first g0 g1 g2 o0 o1 o2 n c0 c1 c2 P S W w hn ⟨hc0, hc1, hc2⟩ H0 H1 H2 ⟨hg0, hg1, hg2⟩ hf
theorem linked_if (a b c : Value) (P S W : List Int) (w : World) (h : ReadC w w.heap.size a b c P S W) (hP : P.length ≤ 1048576) (hS : S.length ≤ 1048576) (hW : W.length ≤ 1048576) (bb : Bool) (hb : clB P S W = bb) :
    Calls Try.prog 80 #[.agg #[a, b, c]] w (LkAns w P S P.length c bb) := by
  obtain ⟨h0, h1, h2⟩ := h
  have r0 := h0; have r1 := h1; have r2 := h2
  obtain ⟨A0, c0, rfl, _, _, hc0, _, hm0⟩ := h0
  obtain ⟨A1, c1, rfl, _, _, hc1, _, hm1⟩ := h1
  obtain ⟨A2, c2, rfl, _, _, hc2, _, hm2⟩ := h2
  by_cases hl : P.length < 1 ∨ 24 < P.length ∨ S.length ≠ P.length ∨ W.length ≠ P.length
  · have e : bb = false := by
      rw [← hb]; unfold clB
      cases e : (decide (1 ≤ P.length) && decide (P.length ≤ 24) && decide (S.length = P.length) && decide (W.length = P.length)) with
      | false => simp
      | true => simp only [Bool.and_eq_true, decide_eq_true_eq] at e; omega
    subst e
    refine (linked_len A0 A1 A2 P.length S.length W.length c0 c1 c2 w (by omega) hl).mono ?_
    rintro e w' ⟨rfl, hb⟩
    exact ⟨0, none, 0, 0, none, 0, 0, rfl, hb, fun e => (by cases e)⟩
  · have hn : 1 ≤ P.length ∧ P.length ≤ 24 := by omega
    have hns : S.length = P.length := by omega
    have hnw : W.length = P.length := by omega
    have hcl : clB P S W = (okAll P S P.length && wtOK W) := clB_eq rfl hns hnw hn
    rw [hns] at r1 hc1 ⊢
    rw [hnw] at r2 hc2 ⊢
    exact linked_run A0 A1 A2 P.length c0 c1 c2 P S W bb w r0 r1 r2 rfl hns hnw hn (by rw [← hcl]; exact hb)

set_option maxRecDepth 100000 in
set_option maxHeartbeats 4000000 in
theorem implIsCluster_if (a b c : Value) (P S W : List Int) (w : World) (h : ReadC w w.heap.size a b c P S W) (hP : P.length ≤ 1048576) (hS : S.length ≤ 1048576) (hW : W.length ≤ 1048576) (bb : Bool) (hbb : clB P S W = bb) :
    Calls Try.prog 125 #[.agg #[a, b, c]] w (AnsB w bb) := by
  obtain ⟨W0, HE⟩ : ∃ V, V = w.alloc (.cells #[a, b, c] 36) := ⟨_, rfl⟩
  have hb0 : Below w.heap.size w W0 := by rw [HE]; exact below_box2 _ _
  have hx : CBox W0 w.heap.size a b c := by rw [HE]; exact CBox.new _ _ _ _ _
  have HR := Lib.hid ((h.below hb0).more hb0.size)
  have HB := Lib.hid hb0
  have HEQ := Lib.hid HE
  have x0 := hx.c0; have x1 := hx.c1; have x2 := hx.c2
  have HBB := Lib.hid hbb
  clear h hb0 hx HE hbb
  go_enter Try.func125, Try.ntmps125
  go_wp2_with fail
  rw [← HEQ.out]
  refine (linked_if a b c P S W W0 HR.out hP hS hW bb HBB.out).mono ?_
  rintro e w1 ⟨g, A, na, ca, D, nd, cd, rfl, hb1, _⟩
  have HB1 := Lib.hid ((HB.out.trans (hb1.mono HB.out.size)).alloc (by have := HB.out.size; have := hb1.size; omega) (.cells #[.slice A na ca, .slice D nd cd] 93))
  clear hb1
  go_wp2_with fail
  go_ret
  exact ⟨rfl, HB1.out⟩
theorem implIsCluster_any (a b c : Value) (P S W : List Int) (w : World) (h : ReadC w w.heap.size a b c P S W) (hP : P.length ≤ 1048576) (hS : S.length ≤ 1048576) (hW : W.length ≤ 1048576) (hwp : ∀ z ∈ P, (Lit.int .i64 z).wf = true) (hws : ∀ z ∈ S, (Lit.int .i64 z).wf = true) (hww : ∀ z ∈ W, (Lit.int .i64 z).wf = true) : Calls Try.prog 125 #[.agg #[a, b, c]] w (AnsB w (clB P S W)) := implIsCluster_if a b c P S W w h hP hS hW _ rfl
end Go.Proofs.Ytohbgfmjnanlkaa
