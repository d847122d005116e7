/- Clusters, the program's: weights out of excesses, by a range that goes backwards: contracts. Conditions: stated at each theorem. -/
import Derived.Test.YtohbgfmjnanlkaaClV
import Derived.Test.YtohbgfmjnanlkaaZD
import Derived.StillTailTactics
namespace Go.Proofs.Ytohbgfmjnanlkaa
open Go.ChangeShapes Go.WideShapes Go.ChangeAt Go.RowKit Go.Shelf Go.Deep
set_option linter.unusedVariables false
set_option linter.unusedSimpArgs false
attribute [local go_sem] Oper.semAt_some

section
variable {P : Program}
/-- A region that draws, all but its tail only reading: its operations in their order. -/
theorem wpAny_tailC {Q : Exit → Act → World → Prop} {a : Act} {w : World} {l : List Oper} (n : Nat) (hB : Region.lexTailB .any l.toArray n = true)
    (h : wpStill P l.toArray w (fun a' => wpList P l.toArray Q (l.drop n) a' w) (l.take n) a) : wpAny P .any l.toArray Q l.toArray.size (Array.replicate l.toArray.size false) a w := by
  simp only [Region.lexTailB, Bool.and_eq_true, decide_eq_true_eq] at hB
  obtain ⟨⟨⟨⟨h1, h2⟩, h3⟩, h4⟩, h5⟩ := hB
  have hl : n < l.length := by simpa using h2
  have e1 : (l.take n).length = n := by simp; omega
  have e2 : (l.drop n).length = l.toArray.size - n := by simp
  have i0 : HeadInv .any l.toArray n (Array.replicate l.toArray.size false) :=
    ⟨by simp, fun j oj _ hh => (by rw [getD_replicate_false] at hh; cases hh), fun t _ ht => getD_in (by simpa using ht) (getD_replicate_false _ _)⟩
  have k := wpAny_of_head (Q' := Q) (g := l.toArray.size - n) (fun listed a' hL => by
    have k1 := wpAny_of_seq (md := .any) (Q' := Q) (l.drop n) n listed a' w (fun j => by simp [List.getElem?_drop]) (by rw [e2]; exact hL.1) hL.2
    rwa [e2] at k1) _ _ _ (wpAnyL_lex (md := .any) (g := l.toArray.size - n) h1 h3 h4 h2 (l.take n) 0 _ a (fun j hj => by
      have hj' : j < n := by rw [e1] at hj; exact hj
      simp [hj']) (by simpa using e1) i0 (by rw [e1]; exact h5) h)
  rw [e1, show n + (l.toArray.size - n) = l.toArray.size by omega] at k
  exact k
end

/-- What a list of points does to numbers, each in its turn: its own is added where it is proximate. -/
def bwF (P S : List Int) (G : Nat → Int) (L : List Nat) : Nat → Int := L.foldl (fun G i => stQ G (nrC P S i) (G i)) G
theorem bw_snoc (P S : List Int) (G : Nat → Int) (L : List Nat) (i : Nat) : bwF P S G (L ++ [i]) = stQ (bwF P S G L) (nrC P S i) (bwF P S G L i) := by simp [bwF]
theorem bw_dwn (P S : List Int) : ∀ (k : Nat) (G : Nat → Int), bwF P S G (List.range k).reverse = dwn P S k G
  | 0, _ => rfl
  | k + 1, G => by
    rw [List.range_succ, List.reverse_append]
    show bwF P S (stQ G (nrC P S k) (G k)) (List.range k).reverse = dwn P S k (stQ G (nrC P S k) (G k))
    exact bw_dwn P S k _
theorem bw_le {P S : List Int} {M : Int} (hM : 0 ≤ M) : ∀ (L : List Nat) (t : Nat) (G : Nat → Int), (∀ x, -(M * tri t) ≤ G x ∧ G x ≤ M * tri t) → ∀ x, -(M * tri (t + L.length)) ≤ bwF P S G L x ∧ bwF P S G L x ≤ M * tri (t + L.length)
  | [], _, _, h, x => h x
  | i :: L, t, G, h, x => by
    have h1 := fun x => stQ_tri (P := P) (S := S) (k := i) hM h (h i) 2 x
    have h2 := fun (x : Nat) => h1 x
    rw [List.take_of_length_le (nrC_len P S i)] at h2
    have h3 := bw_le (P := P) (S := S) hM L (t + 1) (stQ G (nrC P S i) (G i)) h2 x
    rw [show t + (i :: L).length = t + 1 + L.length by simp; omega]
    exact h3
theorem rv_take {n i k : Nat} (h : n = i + 1 + k) : (List.range n).reverse.take (k + 1) = (List.range n).reverse.take k ++ [i] := by
  subst h
  have h1 : k < (List.range (i + 1 + k)).reverse.length := by simp
  rw [List.take_succ_eq_append_getElem h1]
  congr 2
  simp only [List.getElem_reverse, List.length_range, List.getElem_range]
  omega
abbrev Bi (n : Nat) := { i : Nat // i < n }
abbrev encB {n : Nat} (uf : Nat → Value) (x : Bi n) : Array Value := #[.int .i64 x.1, uf x.1]
def vlB {n : Nat} (xs : List (Bi n)) : List Nat := xs.map (·.1)
theorem vlB_snoc {n : Nat} (xs : List (Bi n)) (x : Bi n) : vlB (xs ++ [x]) = vlB xs ++ [x.1] := by simp [vlB]
theorem cell_objC {W : World} {g o : Nat} {v : Value} (h : W.cell? ⟨g, o, none⟩ = some v) : ∃ x, W.heap[g]? = some x ∧ x.isCells = true := cell_obj h
theorem KpB.setRow {b0 d j : Nat} {A : World} (hr : rb b0 A = some d) (hne : d ≠ b0) (u : Value) : KpB b0 A (A.setCell ⟨d, j, none⟩ u) := by
  have hb : ∀ b, b ≠ d → (A.setCell ⟨d, j, none⟩ u).heap[b]? = A.heap[b]? := fun b hb => Below.heap_setCell _ _ _ _ (by simpa using hb)
  have hr2 : rb b0 (A.setCell ⟨d, j, none⟩ u) = rb b0 A := rb_same (hb b0 (fun e => hne e.symm))
  have hs : (A.setCell ⟨d, j, none⟩ u).heap.size = A.heap.size := by simp [World.setCell]
  refine ⟨by rw [hs]; exact Nat.le_refl _, fun b h => ⟨hb b (fun e => ?_), by rw [hr2]; exact h.2.1⟩, fun hv b h => ?_⟩
  · subst e; exact h.2.1 hr
  · rw [hs]; rw [hr2] at h; exact hv b h
theorem from_kept {X Y : World} {row : Option Nat} {lo hi B : Nat} (hg : X.grownBy Y row) (hr : ∀ r, row = some r → B ≤ r ∧ ∃ o : Obj, X.heap[r]? = some o ∧ o.isCells = false) (h : hi ≤ B) (hx : hi ≤ X.heap.size) : Kept lo hi X Y :=
  ⟨hg.size, fun b _ hb => hg.block b (by omega) (fun e => by have := (hr b e.symm).1; omega)⟩

end Go.Proofs.Ytohbgfmjnanlkaa
