/- Slices of slices of int64: words, and contracts of laws.eqInt64SS, laws.markInt64SS and laws.heldInt64SS. Conditions: stated at each theorem. -/
import Derived.Test.YtncgkoanckefmaaOwn
namespace Go.Proofs.Ytncgkoanckefmaa
open Go.ChangeShapes Go.WideShapes Go.ChangeAt Go.RowKit
set_option linter.unusedVariables false

theorem vintS {a b : Int} (h : a = b) : Value.int .i64 a = Value.int .i64 b := by rw [h]
/-- The slice at A with n slices, below block B, reads as the lists zf 0, zf 1, .. -/
def RSS (w : World) (B : Nat) (A : Option Addr) (n : Nat) (zf : Nat → List Int) : Prop :=
  ∀ k, k < n → ∃ a A' c', A = some a ∧ a.block < B ∧ w.cell? (a.add k) = some (.slice A' (zf k).length c') ∧ RI w B A' (zf k).length (zf k)
theorem RSS.below {w w' : World} {B n : Nat} {A : Option Addr} {zf : Nat → List Int} (h : RSS w B A n zf) (hb : Below B w w') : RSS w' B A n zf := fun k hk => by
  obtain ⟨a, A', c', e, hlt, hc, hr⟩ := h k hk
  exact ⟨a, A', c', e, hlt, (hb.cell (by rw [add_block]; exact hlt)).trans hc, hr.below hb⟩
theorem RSS.more {w : World} {B B' n : Nat} {A : Option Addr} {zf : Nat → List Int} (h : RSS w B A n zf) (hB : B ≤ B') : RSS w B' A n zf := fun k hk => by
  obtain ⟨a, A', c', e, hlt, hc, hr⟩ := h k hk
  exact ⟨a, A', c', e, by omega, hc, hr.more hB⟩
theorem RSS.drewN {w : World} {B n : Nat} {A : Option Addr} {zf : Nat → List Int} (h : RSS w B A n zf) (m : Nat) : RSS (w.drewN m) B A n zf := h

/-- A slice of slices of the call's own, from block base on: the slices vf 0, vf 1, .. have ms 0, ms 1, .. numbers, hold xf 0, xf 1, .., and share no memory. -/
structure OwnSS (w : World) (base : Nat) (A : Option Addr) (n c : Nat) (vf : Nat → Value) (ms : Nat → Nat) (xf : Nat → List Value) : Prop where
  outer : w.ownsRow base 22 1 (.slice A n c) n ((List.range n).map vf)
  form : ∀ i, i < n → ∃ A' c', vf i = .slice A' (ms i) c'
  inner : ∀ i, i < n → Own w base (vf i) (ms i) (xf i)
  apart : ∀ i j, i < n → j < n → i ≠ j → (vf i).ownBlock = none ∨ (vf i).ownBlock ≠ (vf j).ownBlock

theorem block_type {w : World} {base base' n m : Nat} {v v' : Value} {xs ys : List Value} {t t' : TypeId} (h : w.ownsRow base t 1 v n xs) (h' : w.ownsRow base' t' 1 v' m ys) (hne : t ≠ t') : v.ownBlock = none ∨ v.ownBlock ≠ v'.ownBlock := by
  rcases h.2 with ⟨rfl, _⟩ | ⟨g, cap, cur, rfl, _, hg, _⟩
  · exact .inl rfl
  · rcases h'.2 with ⟨rfl, _⟩ | ⟨g', cap', cur', rfl, _, hg', _⟩
    · exact .inr (by simp [Value.ownBlock])
    · refine .inr fun e => ?_
      simp only [Value.ownBlock, Option.some.injEq] at e
      subst e
      rw [hg] at hg'
      simp only [Option.some.injEq, Obj.cells.injEq] at hg'
      exact hne hg'.2.1
theorem OwnSS.kept {w w' : World} {base n c : Nat} {A : Option Addr} {vf : Nat → Value} {ms : Nat → Nat} {xf : Nat → List Value} (h : OwnSS w base A n c vf ms xf) {row : Option Nat} (hg : w.grownBy w' row)
    (ho : (Value.slice A n c).ownBlock = none ∨ (Value.slice A n c).ownBlock ≠ row) (hi : ∀ i, i < n → (vf i).ownBlock = none ∨ (vf i).ownBlock ≠ row) : OwnSS w' base A n c vf ms xf :=
  ⟨h.outer.kept hg ho, h.form, fun i hin => (h.inner i hin).kept hg (hi i hin), h.apart⟩
theorem OwnSS.below {w w' : World} {base n c : Nat} {A : Option Addr} {vf : Nat → Value} {ms : Nat → Nat} {xf : Nat → List Value} (h : OwnSS w base A n c vf ms xf) (hb : Below w.heap.size w w') : OwnSS w' base A n c vf ms xf :=
  h.kept (grown_of_below hb none) (by cases (Value.slice A n c).ownBlock <;> simp) (fun i _ => by cases (vf i).ownBlock <;> simp)
theorem OwnSS.drewN {w : World} {base n c : Nat} {A : Option Addr} {vf : Nat → Value} {ms : Nat → Nat} {xf : Nat → List Value} (h : OwnSS w base A n c vf ms xf) (m : Nat) : OwnSS (w.drewN m) base A n c vf ms xf := ⟨h.outer, h.form, h.inner, h.apart⟩
theorem OwnSS.nil (w : World) (base : Nat) (vf : Nat → Value) (ms : Nat → Nat) (xf : Nat → List Value) : OwnSS w base none 0 0 vf ms xf :=
  ⟨World.ownsRow_nil w base _ _, fun i h => by omega, fun i h => by omega, fun i j h => by omega⟩
/-- The cell of the i-th slice. -/
theorem OwnSS.cell {w : World} {base n c : Nat} {A : Option Addr} {vf : Nat → Value} {ms : Nat → Nat} {xf : Nat → List Value} (h : OwnSS w base A n c vf ms xf) {i : Nat} (hi : i < n) :
    ∃ g, A = some ⟨g, 0, none⟩ ∧ g < w.heap.size ∧ w.cell? ⟨g, i, none⟩ = some (vf i) := by
  rcases h.outer.2 with ⟨e, e0⟩ | ⟨g, cap, cur, e, hb, hg, hnc, hcm, hcs, hcur⟩
  · omega
  · simp only [Value.slice.injEq] at e
    obtain ⟨rfl, _, rfl⟩ := e
    refine ⟨g, rfl, (Array.getElem?_eq_some_iff.1 hg).1, ?_⟩
    have h5 : ((List.range n).map vf)[i]? = some (vf i) := by simp [hi]
    rw [World.ownsRow.cellAt h.outer i (by omega), h5]
theorem OwnSS.reads {w : World} {base n c : Nat} {A : Option Addr} {vf : Nat → Value} {ms : Nat → Nat} {zf : Nat → List Int} (h : OwnSS w base A n c vf ms fun i => (zf i).map (.int .i64)) : RSS w w.heap.size A n zf := fun k hk => by
  obtain ⟨g, rfl, hlt, hc⟩ := h.cell hk
  obtain ⟨A', c', e⟩ := h.form k hk
  have ho := h.inner k hk
  have hl := ho.len
  simp only [List.length_map] at hl
  rw [e, ← hl] at ho
  rw [e, ← hl] at hc
  have h4 : (⟨g, 0, none⟩ : Addr).add k = ⟨g, k, none⟩ := by unfold Addr.add; split <;> simp_all
  rw [← h4] at hc
  exact ⟨_, A', c', rfl, hlt, hc, ho.reads⟩

/-- The sum of the first j numbers of ms. -/
def off (ms : Nat → Nat) : Nat → Nat
  | 0 => 0
  | j + 1 => off ms j + ms j
theorem off_le (ms : Nat → Nat) {i n : Nat} (h : i ≤ n) : off ms i ≤ off ms n := by
  induction n with
  | zero => obtain rfl : i = 0 := by omega
            exact Nat.le_refl _
  | succ n ih =>
    by_cases e : i = n + 1
    · subst e; exact Nat.le_refl _
    · have := ih (by omega); show off ms i ≤ off ms n + ms n; omega
def MarkedSS (k n : Nat) (ms : Nat → Nat) (xf : Nat → List Value) : Prop := ∀ i, i < n → Marked (k + off ms i) (ms i) (xf i)

end Go.Proofs.Ytncgkoanckefmaa
