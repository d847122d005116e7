/- A list of the call's own that grows while older blocks are read: words. Conditions: stated at each theorem. -/
import Derived.Test.YtohbgfmjnanlkaaZR
namespace Go.Proofs.Ytohbgfmjnanlkaa
open Go.ChangeShapes Go.WideShapes Go.ChangeAt Go.RowKit Go.Deep
set_option linter.unusedVariables false
set_option linter.unusedSimpArgs false

/-- From W to w the list v of the numbers zs has grown: it lies in the block b0 or behind those of W, all other blocks of W are as before. -/
structure Gw (W w : World) (b0 : Nat) (v : Value) (zs : List Int) : Prop where
  own : OwnI w b0 w.heap.size v zs
  blk : ∀ b, v.ownBlock = some b → b = b0 ∨ W.heap.size ≤ b
  kept : ∀ b, b < W.heap.size → b ≠ b0 → w.heap[b]? = W.heap[b]?
  size : W.heap.size ≤ w.heap.size
  b0 : b0 ≤ W.heap.size
  os : w.os = W.os
  tape : w.tape = W.tape
  output : w.output = W.output
theorem Gw.start {w : World} {b0 : Nat} {v : Value} {zs : List Int} (h : OwnI w b0 w.heap.size v zs) (hb : ∀ b, v.ownBlock = some b → b = b0) (h0 : b0 ≤ w.heap.size) : Gw w w b0 v zs :=
  ⟨h, fun b e => .inl (hb b e), fun _ _ _ => rfl, Nat.le_refl _, h0, rfl, rfl, rfl⟩
theorem Gw.below {W w : World} {b0 : Nat} {v : Value} {zs : List Int} (h : Gw W w b0 v zs) : Below b0 W w :=
  ⟨h.os, h.tape, h.output, h.size, fun b hb => h.kept b (by have := h.b0; omega) (by omega)⟩
theorem Gw.cell {W w : World} {b0 : Nat} {v : Value} {zs : List Int} (h : Gw W w b0 v zs) {b o : Nat} {u : Value} (h1 : b < W.heap.size) (h2 : b ≠ b0) (hc : W.cell? ⟨b, o, none⟩ = some u) : w.cell? ⟨b, o, none⟩ = some u := by
  have e := h.kept b h1 h2
  unfold World.cell? at hc ⊢
  rw [e]; exact hc
/-- A number is appended. -/
theorem Gw.push {W w w3 : World} {b0 g n c cap : Nat} {A : Option Addr} {zs : List Int} {z : Int} {o : Obj} {X : List Value} (h : Gw W w b0 (.slice A n c) zs) (hX : X = zs.map (.int .i64)) (hl : zs.length = n)
    (hown : w3.ownsRow b0 2 1 (.slice (some ⟨g, 0, none⟩) (n + 1) cap) (n + 1) (X ++ [.int .i64 z])) (hgrow : (w.alloc o).grownBy w3 (Value.slice A n c).ownBlock) (hg : (Value.slice A n c).ownBlock = some g ∨ g = w.heap.size + 1) :
    Gw W w3 b0 (.slice (some ⟨g, 0, none⟩) (n + 1) cap) (zs ++ [z]) := by
  have hs1 : (w.alloc o).heap.size = w.heap.size + 1 := by simp
  have hs3 := hgrow.size
  have hsz := h.size
  refine ⟨OwnI.mk' (n := n + 1) (by rw [List.map_append, ← hX]; exact hown), fun b e => ?_, fun b hb hne => ?_, by omega, h.b0, hgrow.os.trans h.os, hgrow.tape.trans h.tape, hgrow.output.trans h.output⟩
  · obtain rfl : g = b := by simpa [Value.ownBlock] using e
    rcases hg with e2 | e2
    · exact h.blk g e2
    · exact .inr (by omega)
  · rw [hgrow.block b (by omega) (fun e => ?_), Below.heap_alloc _ _ _ (by omega)]
    · exact h.kept b hb hne
    · rcases h.blk b e.symm with e3 | e3
      · exact hne e3
      · omega
theorem steps_readB {base : Nat} {w2 : World} {L : List (Int × Int)} {A : Option Addr} {n c : Nat} {vf : Nat → Value} (hl : L.length = n) (ho : OwnSS w2 base A n c vf two (fun i => (stF L i).map (.int .i64))) : ∀ i, i < n →
    ∃ go gi ci, A = some ⟨go, 0, none⟩ ∧ (base ≤ go ∧ go < w2.heap.size) ∧ w2.cell? ⟨go, i, none⟩ = some (.slice (some ⟨gi, 0, none⟩) 2 ci) ∧ (base ≤ gi ∧ gi < w2.heap.size) ∧ w2.cell? ⟨gi, 0, none⟩ = some (.int .i64 (L[i]?.getD (0, 0)).1) ∧ w2.cell? ⟨gi, 1, none⟩ = some (.int .i64 (L[i]?.getD (0, 0)).2) := by
  intro i hi
  obtain ⟨go, gi, ci, rfl, h1, h2, h3, h4, h5⟩ := steps_read hl ho i hi
  refine ⟨go, gi, ci, rfl, ⟨(World.ownsRow.lt ho.1 go rfl).1, h1⟩, h2, ⟨?_, h3⟩, h4, h5⟩
  obtain ⟨go', e', hlt, hc⟩ := ho.cell hi
  cases e'
  have hin := ho.inner i hi
  rw [h2] at hc
  have e9 : vf i = .slice (some ⟨gi, 0, none⟩) 2 ci := by simpa using hc.symm
  rw [e9] at hin
  exact (World.ownsRow.lt hin gi rfl).1
end Go.Proofs.Ytohbgfmjnanlkaa
