/- Rounds of a range over a function: a region that draws its order is walked as a plain one; what a round keeps. Conditions: stated at each theorem. -/
import Derived.RangeFuncNested
import Derived.RangeFuncBound
import Derived.RangeFuncCalls
import Derived.RangeFuncLeaves
import Derived.RangeFuncBox
import Derived.Shelf.Abstract
import Derived.Shelf.RegionOpen
import Derived.OwnWalkIn
import Derived.TacticsInMore
import Derived.LoopNIn
import Derived.LoopIn
import Derived.OrdersHeld
import Derived.Test.YtncgkoanckefmaaBrW
namespace Go.Proofs.Ytncgkoanckefmaa
open Go.ChangeShapes Go.WideShapes Go.ChangeAt Go.RowKit
set_option linter.unusedVariables false

section
variable {P : Program} {ops : Array Oper} {Q : Exit → Act → World → Prop} {md : Region.Mode}
theorem rowsIn_wide' {n : Nat} {row : String} {args : Array Value} {w : World} {R : Value → World → Prop} (h : Rows P row args w R) : RowsIn Fence.wide n P row args w R :=
  fun c cs _ => let ⟨v, w', r, s⟩ := h c cs; ⟨v, w', r, stepsIn_wide.2 s⟩
theorem uponIn_plain {l n : Nat} {o : Oper} {a : Act} {K : Act → World → Prop} {r : Result Next} (h : o.upon P a K Q r) : o.uponIn (Fence.wide.inRound l) n P a K Q r := by
  cases r with
  | ok x w' =>
    cases x <;> simp only [Oper.upon, Oper.uponIn] at h ⊢ <;>
      first
        | exact h
        | exact h.elim
        | exact ⟨fun h0 => (by cases h0), (CallsIn.inRound l (callsIn_wide (n := n - 1).2 h)).mono fun e w'' he => by cases e <;> exact he⟩
        | exact ⟨fun h0 => (by cases h0), rowsIn_wide' h⟩
  | halt x w' => cases x <;> simp only [Oper.upon, Oper.uponIn] at h ⊢ <;> exact h
theorem opIn_plain {l n : Nat} {o : Oper} {a : Act} {w : World} {K : Act → World → Prop} (hd : ∀ c, o.op ≠ .defer c) (h : o.wp P a w K Q) : o.wpIn (Fence.wide.inRound l) n P a w K Q := by
  refine ⟨fun f _ => trivial, ?_⟩
  have e : o.semAt (Fence.wide.inRound l).round a.eval = execOp a.eval o := Oper.semAt_eq _ _ _ hd
  rw [e]
  exact uponIn_plain h
theorem wpAnyIn_plain {l n : Nat} (hd : ∀ o ∈ ops, ∀ c, o.op ≠ .defer c) (hQ : ¬ LetsOut Q) : ∀ (fuel : Nat) (listed : Array Bool) (a : Act) (w : World), wpAny P md ops Q fuel listed a w → wpAnyIn (Fence.wide.inRound l) n P md ops Q fuel listed a w
  | 0, _, _, _, h => h
  | fuel + 1, listed, a, w, h => by
    refine ⟨h.1, fun i hi => ?_⟩
    have h2 := h.2 i hi
    unfold wpOp at h2
    unfold wpOpIn
    cases ho : ops[i]? with
    | none => rw [ho] at h2; exact wpAnyIn_plain hd hQ fuel _ _ _ h2
    | some o =>
      rw [ho] at h2
      simp only at h2 ⊢
      split
      · rename_i hw
        rw [if_pos hw] at h2
        rcases h2 with h2 | h2
        · refine Oper.wpIn_mono (fun a w hk => wpAnyIn_plain hd hQ fuel _ _ _ hk) (opIn_plain (hd o (Array.mem_of_getElem? ho)) h2)
        · exact absurd h2.2 hQ
      · rename_i hw
        rw [if_neg hw] at h2
        exact ⟨fun f _ => trivial, wpAnyIn_plain hd hQ fuel _ _ _ h2⟩
/-- A region in a round that draws its order, under a word on cells that holds all along. -/
theorem wpIn_region_round {l n id : Nat} {S : World → Prop} {a : Act} {w : World} (hm : P.follows .mixedOrders = true) (hd : ∀ o ∈ ops, ∀ c, o.op ≠ .defer c) (hQ : ¬ LetsOut Q) (hS : S w.drew)
    (h : S w.drew → wpAnyH P .any ops Q S ops.size (Array.replicate ops.size false) a w.drew) : (Code.region id ops true).wpIn (Fence.wide.inRound l) n P Q a w :=
  wpIn_region_any hm (wpAnyIn_plain hd hQ _ _ _ _ (wpAny_of_held _ _ _ _ (h hS)))
end

/-- The block of the slice that the box b0 holds. -/
def rb (b0 : Nat) (W : World) : Option Nat := match W.cell? ⟨b0, 0, none⟩ with
  | some v => v.ownBlock
  | none => none
/-- Block b is one of cells, and neither the box b0 nor its slice's. -/
def Safe (b0 : Nat) (W : World) (b : Nat) : Prop := b ≠ b0 ∧ rb b0 W ≠ some b ∧ ∃ o, W.heap[b]? = some o ∧ o.isCells = true
/-- The slice in the box b0 lies in memory that is there. -/
def RV (b0 : Nat) (W : World) : Prop := ∀ b, rb b0 W = some b → b < W.heap.size
/-- What a round keeps that writes the box b0 and the slice in it: all other cells. -/
structure KpB (b0 : Nat) (A B : World) : Prop where
  size : A.heap.size ≤ B.heap.size
  safe : ∀ b, Safe b0 A b → B.heap[b]? = A.heap[b]? ∧ rb b0 B ≠ some b
  rv : RV b0 A → RV b0 B
theorem KpB.keeps {b0 b : Nat} {A B : World} (k : KpB b0 A B) (h : Safe b0 A b) : Safe b0 B b := by
  obtain ⟨h1, h2, o, h3, h4⟩ := h
  have := k.safe b ⟨h1, h2, o, h3, h4⟩
  exact ⟨h1, this.2, o, this.1.trans h3, h4⟩
theorem KpB.trans {b0 : Nat} {A B C : World} (h : KpB b0 A B) (k : KpB b0 B C) : KpB b0 A C :=
  ⟨Nat.le_trans h.size k.size, fun b hb => ⟨(k.safe b (h.keeps hb)).1.trans (h.safe b hb).1, (k.safe b (h.keeps hb)).2⟩, fun hv => k.rv (h.rv hv)⟩
theorem KpB.refl (b0 : Nat) (A : World) : KpB b0 A A := ⟨Nat.le_refl _, fun b hb => ⟨rfl, hb.2.1⟩, id⟩
theorem rb_same {b0 : Nat} {A B : World} (h : B.heap[b0]? = A.heap[b0]?) : rb b0 B = rb b0 A := by
  have : B.cell? ⟨b0, 0, none⟩ = A.cell? ⟨b0, 0, none⟩ := by simp [World.cell?, h]
  unfold rb; rw [this]
theorem kpB_b {b0 : Nat} {w : World} (hb : b0 < w.heap.size) (W : World) (l : Nat) (o o' : Obj) (hl : w.heap.size ≤ l) (h : W.heap[l]? = some o) (hc : o.isCells = false) (_ : o.isWalk = false) : KpB b0 W (W.putObj l o') := by
  have hg := grownBy_putObj' W l o'
  have hne : ∀ b, b ≠ l → (W.putObj l o').heap[b]? = W.heap[b]? := fun b hb => World.putObj_heap_other (by omega)
  have hr : rb b0 (W.putObj l o') = rb b0 W := rb_same (hne b0 (by omega))
  refine ⟨hg.size, fun b hb => ⟨hne b (fun e => ?_), by rw [hr]; exact hb.2.1⟩, fun hv b hb => ?_⟩
  · subst e
    obtain ⟨_, _, o2, h2, h3⟩ := hb
    rw [h] at h2; cases h2; rw [hc] at h3; cases h3
  · rw [hr] at hb; exact Nat.lt_of_lt_of_le (hv b hb) hg.size
/-- A call that turns nothing that was there keeps all of it, and a new block of cells is safe. -/
theorem KpB.of_below {b0 : Nat} {A B : World} (hb : b0 < A.heap.size) (h : Below A.heap.size A B) : KpB b0 A B := by
  have hr : rb b0 B = rb b0 A := rb_same (h.block b0 hb)
  refine ⟨h.size, fun b hs => ⟨h.block b ?_, by rw [hr]; exact hs.2.1⟩, fun hv b hb => ?_⟩
  · obtain ⟨_, _, o, h1, _⟩ := hs; exact (Array.getElem?_eq_some_iff.1 h1).1
  · rw [hr] at hb; exact Nat.lt_of_lt_of_le (hv b hb) h.size
theorem safe_new {b0 b : Nat} {A B : World} (hb : b0 < A.heap.size) (hv : RV b0 A) (h : Below A.heap.size A B) (hn : A.heap.size ≤ b) {o : Obj} (ho : B.heap[b]? = some o) (hc : o.isCells = true) : Safe b0 B b := by
  refine ⟨by omega, fun e => ?_, o, ho, hc⟩
  rw [rb_same (h.block b0 hb)] at e
  have := hv b e
  omega
theorem KpB.cell {b0 : Nat} {A B : World} (k : KpB b0 A B) {b o : Nat} (h : Safe b0 A b) : B.cell? ⟨b, o, none⟩ = A.cell? ⟨b, o, none⟩ := by
  have := (k.safe b h).1
  simp [World.cell?, this]
theorem rb_boxed {b0 : Nat} {A : World} {t : TypeId} {v : Value} (h : Boxed A b0 t v) : rb b0 A = v.ownBlock := by unfold rb; rw [h.cell]
/-- The box itself is written. -/
theorem KpB.setInt {b0 : Nat} {A : World} {t : TypeId} {v : Value} (h : Boxed A b0 t v) (x : Int) : KpB b0 A (A.setCell ⟨b0, 0, none⟩ (.int .i64 x)) := by
  have hg := grownBy_setCell' A b0 (.int .i64 x)
  have hr : rb b0 (A.setCell ⟨b0, 0, none⟩ (.int .i64 x)) = none := rb_boxed (h.set (.int .i64 x))
  exact ⟨hg.size, fun b hs => ⟨Below.heap_setCell _ _ _ _ (by have := hs.1; exact fun e => this (by simpa using e)), by rw [hr]; simp⟩, fun _ b e => by rw [hr] at e; cases e⟩
end Go.Proofs.Ytncgkoanckefmaa
