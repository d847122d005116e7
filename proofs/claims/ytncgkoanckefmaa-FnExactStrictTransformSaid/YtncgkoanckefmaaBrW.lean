/- Branches in a law: a struct of one slice that comes in, contracts of laws.toBranch, eqBranch, markBranch, heldBranch, szBranch. Conditions: stated at each theorem. -/
import Derived.Test.YtncgkoanckefmaaKeep
import Derived.Test.YtncgkoanckefmaaOpenQ
import Derived.Lib.SmallJoins
import Derived.Deep.QuietTactic
import Derived.BigQuiet
namespace Go.Proofs.Ytncgkoanckefmaa
open Go.ChangeShapes Go.WideShapes Go.ChangeAt Go.RowKit Go.Joins Go.Deep
set_option linter.unusedVariables false

set_option maxRecDepth 100000 in
theorem open_branch {H : Type} {enc : TypeId × Value → H} {W : World} {B : Nat} {r : Reach} {b0 : Nat} {f0 : Field} {v : Value} {d : DataW H} {p : List MemPlace}
    (hs : Try.prog.underlying 24 = some (.struct #[f0])) (hone : oneCellFields Try.prog #[f0] = true) (hC : Try.prog.cellsOf 24 = 1) (hf0 : f0.type = 22)
    (hv : Value.okWide Try.prog W r b0 24 v) (h : DataW.Trod enc Try.prog W 0 (fun _ => true) true 24 v d p) (hlt : ∀ x ∈ p, x.block < B) :
    ∃ (A : Option Addr) (n c : Nat) (zs : List Int), v = .agg #[.slice A n c] ∧ RI W B A n zs ∧ n ≤ 9223372036854775807 ∧ ∀ z ∈ zs, (Lit.int .i64 z).wf = true := by
  obtain ⟨cs, rfl, hsz⟩ := okWide_struct hs hv
  obtain ⟨c0, rfl⟩ : ∃ c0, cs = #[c0] := by
    have h1 : cs.size = 1 := hsz.trans hC
    exact ⟨cs[0], by apply Array.ext' ; match cs, h1 with | ⟨[a]⟩, _ => rfl⟩
  obtain ⟨fuel, hf⟩ := h
  obtain ⟨y0, m, hx, _, h0⟩ := trod_struct1 hs hf
  obtain ⟨o0, k0⟩ := hone_of hone 0 f0 rfl
  have hp : p = y0.2 := by simp only [Prod.mk.injEq] at hx; exact hx.2
  have h1 : DataW.trod enc Try.prog W 0 (fun _ => true) true m 22 [c0] = some y0 := by rw [← hf0]; simpa [Value.cells, o0, k0] using h0
  subst hp
  obtain ⟨d0, p0⟩ := y0
  rcases open_ints Try.underlying22 Try.underlying2 (by kernel_rfl) h1 with ⟨e, _⟩ | ⟨a, len', cap', zs, e, _, hle, hcap, hzl, hx, hcell, hwf⟩
  · simp only [List.cons.injEq, and_true] at e
    subst e
    exact ⟨none, 0, 0, [], rfl, ⟨rfl, fun k hk => by omega⟩, by omega, by simp⟩
  · simp only [List.cons.injEq, and_true] at e
    subst e
    simp only [if_true] at hzl
    simp only [Prod.mk.injEq] at hx
    have hp : p0 = MemPlace.row a zs.length := hx.2
    unfold maxLen at hcap
    refine ⟨some a, len', cap', zs.take len', rfl, ⟨by simp; omega, fun k hk => ⟨a, rfl, ?_, ?_⟩⟩, by omega, fun z hz => hwf z (List.mem_of_mem_take hz)⟩
    · have := hlt (.cell a.block (a.off + 0)) (by show _ ∈ p0; rw [hp]; exact MemPlace.mem_row.2 ⟨0, by omega, rfl⟩)
      simpa [MemPlace.block] using this
    · rw [hcell k (by omega)]
      simp [List.getD, hk]

theorem bcellB {W w1 : World} (hb : Below W.heap.size W w1) : (∀ b o, b < W.heap.size → w1.cell? ⟨b, o, none⟩ = W.cell? ⟨b, o, none⟩) ∧ (∀ b o, b < W.heap.size → w1.frozen? ⟨b, o, none⟩ = W.frozen? ⟨b, o, none⟩) :=
  ⟨fun b o h => hb.cell (p := ⟨b, o, none⟩) h, fun b o h => hb.frozen (p := ⟨b, o, none⟩) h⟩
theorem keptS {lo hi : Nat} (w : World) {p : Addr} (h : p.block < lo) (u : Value) : Kept lo hi w (w.setCell p u) :=
  ⟨by simp [World.setCell], fun b h1 h2 => Below.heap_setCell w p u b (by omega)⟩
theorem own_lessB {w : World} {lo lo' hi : Nat} {v : Value} {zs : List Int} (h : OwnI w lo hi v zs) (hl : lo' ≤ lo) : OwnI w lo' hi v zs := by
  obtain ⟨⟨h0, h1⟩, h2, h3⟩ := h
  refine ⟨⟨h0, ?_⟩, h2, h3⟩
  rcases h1 with hn | ⟨g, cap, cur, e, hb, rest⟩
  · exact .inl hn
  · exact .inr ⟨g, cap, cur, e, by omega, rest⟩
theorem below_box2 (w : World) (o : Obj) : Below w.heap.size w (w.alloc o) := (Below.refl _ _).alloc (Nat.le_refl _) o

set_option maxHeartbeats 1000000 in
theorem toB (v : Value) (zs : List Int) (w : World) (hr : ReadW w w.heap.size v zs) (hn : zs.length ≤ 1048576) :
    Calls Try.prog 17 #[.agg #[v]] w fun e w' => ∃ v', e = .returned (.agg #[v']) ∧ OwnI w' w.heap.size w'.heap.size v' zs ∧ Below w.heap.size w w' := by
  have HR := Lib.hid hr
  clear hr
  have hB : Below w.heap.size w (((w.alloc (Obj.cells #[v] 24)).alloc (Obj.cells #[Value.slice none 0 0] 28)).alloc (Obj.cells #[Value.slice none 0 0] 28)) :=
    (((Below.refl _ _).alloc (Nat.le_refl _) _).alloc (by simp) _).alloc (by simp; omega) _
  have hs : (((w.alloc (Obj.cells #[v] 24)).alloc (Obj.cells #[Value.slice none 0 0] 28)).alloc (Obj.cells #[Value.slice none 0 0] 28)).heap.size = w.heap.size + 1 + 1 + 1 := by simp
  have k1 : (((w.alloc (Obj.cells #[v] 24)).alloc (Obj.cells #[Value.slice none 0 0] 28)).alloc (Obj.cells #[Value.slice none 0 0] 28)).cell? ⟨w.heap.size + 1, 0, none⟩ = some (.slice none 0 0) := by go_simp
  have k2 : (((w.alloc (Obj.cells #[v] 24)).alloc (Obj.cells #[Value.slice none 0 0] 28)).alloc (Obj.cells #[Value.slice none 0 0] 28)).cell? ⟨w.heap.size + 1 + 1, 0, none⟩ = some (.slice none 0 0) := by go_simp
  have f1 : (((w.alloc (Obj.cells #[v] 24)).alloc (Obj.cells #[Value.slice none 0 0] 28)).alloc (Obj.cells #[Value.slice none 0 0] 28)).frozen? ⟨w.heap.size + 1, 0, none⟩ = false := by go_simp
  have f2 : (((w.alloc (Obj.cells #[v] 24)).alloc (Obj.cells #[Value.slice none 0 0] 28)).alloc (Obj.cells #[Value.slice none 0 0] 28)).frozen? ⟨w.heap.size + 1 + 1, 0, none⟩ = false := by go_simp
  have HX := Lib.hid (And.intro hB (And.intro hs (And.intro k1 (And.intro k2 (And.intro f1 f2)))))
  clear hB hs k1 k2 f1 f2
  go_enter Try.func17, Try.ntmps17
  go_wp2_with fail
  generalize ((w.alloc (Obj.cells #[v] 24)).alloc (Obj.cells #[Value.slice none 0 0] 28)).alloc (Obj.cells #[Value.slice none 0 0] 28) = W3 at *
  refine (toI v zs W3 ((HR.out.below HX.out.1).more HX.out.1.size) hn).mono ?_
  rintro e w1 ⟨v1, rfl, ho, hb⟩
  obtain ⟨A1, c1', rfl⟩ := own_form ho.1
  obtain ⟨hB, hs, k1, k2, f1, f2⟩ := HX.out
  obtain ⟨hc, hf⟩ := bcellB hb
  have c1 := (hc (w.heap.size + 1) 0 (by omega)).trans k1
  have c2 := (hc (w.heap.size + 1 + 1) 0 (by omega)).trans k2
  have g1 := (hf (w.heap.size + 1) 0 (by omega)).trans f1
  have g2 := (hf (w.heap.size + 1 + 1) 0 (by omega)).trans f2
  have hsz := hb.size
  have O1 := Lib.hid ho
  have B1 := Lib.hid (hB.trans (hb.mono (by omega)))
  clear ho hb hc hf k1 k2 f1 f2 hB
  go_wp2
  have E1 : ∀ u, Kept W3.heap.size w1.heap.size w1 ((w1.setCell ⟨w.heap.size + 1 + 1, 0, none⟩ u).setCell ⟨w.heap.size + 1, 0, none⟩ u) := fun u =>
    (keptS w1 (p := ⟨w.heap.size + 1 + 1, 0, none⟩) (by show w.heap.size + 1 + 1 < _; omega) u).trans (keptS _ (p := ⟨w.heap.size + 1, 0, none⟩) (by show w.heap.size + 1 < _; omega) u)
  have cr : ((w1.setCell ⟨w.heap.size + 1 + 1, 0, none⟩ (.slice A1 zs.length c1')).setCell ⟨w.heap.size + 1, 0, none⟩ (.slice A1 zs.length c1')).cell? ⟨w.heap.size + 1, 0, none⟩ = some (.slice A1 zs.length c1') := by go_simp
  refine bodyPost_ret (v := .agg #[.slice A1 zs.length c1']) (by simp [results, Try.results17, go_sem, cr]) rfl ⟨_, rfl, ?_, ?_⟩
  · have := own_lessB (O1.out.kept (E1 (.slice A1 zs.length c1'))) (lo' := w.heap.size) (by omega)
    simpa [World.setCell] using this
  · exact (B1.out.setCell (by show w.heap.size ≤ w.heap.size + 1 + 1; omega) _).setCell (by show w.heap.size ≤ w.heap.size + 1; omega) _

theorem eqB (v v' : Value) (zs : List Int) (w : World) (hr : ReadI w w.heap.size v zs) (hr' : ReadI w w.heap.size v' zs) (hn : zs.length ≤ 9223372036854775807) :
    Calls Try.prog 19 #[.agg #[v], .agg #[v']] w fun e w' => e = .returned (.bool true) ∧ Below w.heap.size w w' := by
  have hB : Below w.heap.size w ((w.alloc (Obj.cells #[v] 28)).alloc (Obj.cells #[v'] 28)) := ((Below.refl _ _).alloc (Nat.le_refl _) _).alloc (by simp) _
  have HB := Lib.hid hB
  have HR := Lib.hid ((hr.below hB).more hB.size)
  have HR' := Lib.hid ((hr'.below hB).more hB.size)
  clear hr hr' hB
  go_enter Try.func19, Try.ntmps19
  go_wp2_with fail
  refine (eqI' v v' zs _ _ HR.out HR'.out hn).mono ?_
  rintro e w1 ⟨rfl, hb⟩
  have B1 := Lib.hid (HB.out.trans (hb.mono HB.out.size))
  clear hb
  go_wp2
  go_ret
  exact ⟨rfl, B1.out⟩

theorem markB (v : Value) (lo hi : Nat) (zs : List Int) (k : Int) (w : World) (h : OwnI w lo hi v zs) (hn : zs.length ≤ 1099511627776) (hk : 0 ≤ k ∧ k ≤ 1099511627776) :
    Calls Try.prog 23 #[.agg #[v], .int .i64 k] w fun e w' => e = .returned (.int .i64 (k + (zs.length : Int))) ∧ MarkI w' lo hi v zs.length k.toNat ∧ Only lo hi w w' := by
  have HO := Lib.hid (h.kept (Kept.of_below (below_box2 w (Obj.cells #[v] 28)) h.2.2))
  clear h
  go_enter Try.func23, Try.ntmps23
  go_wp2_with fail
  refine (markI' v lo hi zs k _ HO.out hn hk).mono ?_
  rintro e w1 ⟨rfl, hm, ho⟩
  have HM := Lib.hid hm
  have H2 := Lib.hid ho
  clear hm ho
  go_wp2
  go_ret
  exact ⟨rfl, HM.out, Only.trans (show Only lo hi w (w.alloc (Obj.cells #[v] 28)) from ⟨rfl, rfl, rfl, by simp, fun b hb _ => Below.heap_alloc _ _ _ hb⟩) H2.out⟩

theorem heldB (v : Value) (lo hi n : Nat) (k : Int) (w : World) (h : MarkI w lo hi v n k.toNat) (hn : n ≤ 1099511627776) (hk : 0 ≤ k ∧ k ≤ 1099511627776) :
    Calls Try.prog 35 #[.agg #[v], .int .i64 k] w fun e w' => e = .returned (.int .i64 (k + (n : Int))) ∧ Below w.heap.size w w' := by
  have HM := Lib.hid (h.kept (Kept.of_below (below_box2 w (Obj.cells #[v] 28)) h.2.2))
  clear h
  go_enter Try.func35, Try.ntmps35
  go_wp2_with fail
  refine (heldI' v lo hi n k _ HM.out hn hk).mono ?_
  rintro e w1 ⟨rfl, rfl⟩
  go_wp2
  go_ret
  exact ⟨rfl, below_box2 _ _⟩

theorem szB_yes (A : Option Addr) (n c : Nat) (left : Int) (w : World) (h : (n : Int) ≤ left) (hl : left ≤ 1048576) :
    Calls Try.prog 15 #[.agg #[.slice A n c], .int .i64 left] w fun e w' => e = .returned (.int .i64 (left - n)) ∧ Below w.heap.size w w' := by
  go_enter Try.func15, Try.ntmps15
  go_wp2_with fail
  refine (szI_yes A n c left _ h hl).mono ?_
  rintro e w1 ⟨rfl, rfl⟩
  go_wp2
  go_ret
  exact ⟨rfl, below_box2 _ _⟩
theorem szB_no (A : Option Addr) (n c : Nat) (left : Int) (w : World) (h : left < (n : Int)) (h0 : 0 ≤ left) (hl : left ≤ 1048576) (hn : n ≤ 9223372036854775807) :
    Calls Try.prog 15 #[.agg #[.slice A n c], .int .i64 left] w fun e w' => e = .returned (.int .i64 (-1)) ∧ Below w.heap.size w w' := by
  go_enter Try.func15, Try.ntmps15
  go_wp2_with fail
  refine (szI_no A n c left _ h h0 hl hn).mono ?_
  rintro e w1 ⟨rfl, rfl⟩
  go_wp2
  go_ret
  exact ⟨rfl, below_box2 _ _⟩
/-- The one cell of block b holds v. -/
def BoxI (w : World) (b : Nat) (v : Value) : Prop := w.cell? ⟨b, 0, none⟩ = some v ∧ b < w.heap.size
theorem BoxI.kept {w w' : World} {b : Nat} {v : Value} (h : BoxI w b v) (k : Kept b (b + 1) w w') : BoxI w' b v :=
  ⟨by have := k.block b (Nat.le_refl _) (Nat.lt_succ_self _)
      have h1 := h.1
      unfold World.cell? at h1 ⊢
      simpa [this] using h1, Nat.lt_of_lt_of_le h.2 k.size⟩
theorem BoxI.new (w : World) (v : Value) (t : TypeId) : BoxI (w.alloc (.cells #[v] t)) w.heap.size v := ⟨by go_simp, by simp⟩
theorem toB_drew (v : Value) (zs : List Int) (w : World) (hr : ReadW w w.heap.size v zs) (hn : zs.length ≤ 1048576) :
    Calls Try.prog 17 #[.agg #[v]] w.drew fun e w' => ∃ v', e = .returned (.agg #[v']) ∧ OwnI w' w.heap.size w'.heap.size v' zs ∧ Below w.heap.size w w' := by
  refine (toB v zs w.drew hr hn).mono ?_
  rintro e w' ⟨v', rfl, h1, h2⟩
  exact ⟨v', rfl, h1, ⟨h2.os, h2.tape, h2.output, h2.size, h2.block⟩⟩
/-- An answer: a branch and a code. -/
def AnsRC (w : World) (L : List Int) (C : Int) (e : Ending) (w' : World) : Prop := ∃ v, e = .returned (.tuple #[.agg #[v], .int .i64 C]) ∧ OwnI w' w.heap.size w'.heap.size v L ∧ Below w.heap.size w w'
end Go.Proofs.Ytncgkoanckefmaa
