/- A made list of lists whose rows grow: words; the lists of the points to which a point is proximate, round by round. Conditions: stated at each theorem. -/
import Derived.Test.YtohbgfmjnanlkaaPtC
namespace Go.Proofs.Ytohbgfmjnanlkaa
open Go.ChangeShapes Go.WideShapes Go.ChangeAt Go.RowKit Go.Deep
set_option linter.unusedVariables false
set_option linter.unusedSimpArgs false

/-- The list in block g has n rows of the call's own, apart from one another. -/
structure PRw (w : World) (g n : Nat) (uf : Nat → Value) (ls hs : Nat → Nat) (R : Nat → List Int) : Prop where
  row : w.rowIs g 22 n uf
  els : ∀ j, j < n → g + 1 ≤ ls j ∧ hs j ≤ w.heap.size ∧ OwnI w (ls j) (hs j) (uf j) (R j)
  apart : ∀ i j, i < n → j < n → i ≠ j → hs i ≤ ls j ∨ hs j ≤ ls i
  lt : g < w.heap.size
def PRows (w : World) (g n : Nat) (R : Nat → List Int) : Prop := ∃ uf ls hs, PRw w g n uf ls hs R
theorem PRows.congr {w : World} {g n : Nat} {R R' : Nat → List Int} (h : PRows w g n R) (e : ∀ j, j < n → R j = R' j) : PRows w g n R' := by
  obtain ⟨uf, ls, hs, h⟩ := h
  exact ⟨uf, ls, hs, h.row, fun j hj => by rw [← e j hj]; exact h.els j hj, h.apart, h.lt⟩
theorem PRows.start (w : World) (n : Nat) : PRows (w.alloc (.cells (madeCells #[.slice none 0 0] n) 22)) w.heap.size n (fun _ => []) :=
  ⟨fun _ => .slice none 0 0, fun _ => w.heap.size + 1, fun _ => w.heap.size + 1, World.rowIs_made _ _ _ _, fun j hj => ⟨Nat.le_refl _, by simp, Own.nil _ _, fun k hk => by simp [Value.ownBlock] at hk, by simp⟩, fun i j _ _ _ => .inl (Nat.le_refl _), by simp⟩
theorem PRw.push {w w3 : World} {g n j N c g3 cap : Nat} {A : Option Addr} {uf : Nat → Value} {ls hs : Nat → Nat} {R : Nat → List Int} {z : Int} {o : Obj} {X : List Value} (h : PRw w g n uf ls hs R) (hj : j < n) (hu : uf j = .slice A N c)
    (hX : X = (R j).map (.int .i64)) (hl : (R j).length = N) (hown : w3.ownsRow (g + 1) 2 1 (.slice (some ⟨g3, 0, none⟩) (N + 1) cap) (N + 1) (X ++ [.int .i64 z]))
    (hgrow : (w.alloc o).grownBy w3 (Value.slice A N c).ownBlock) (hg : (Value.slice A N c).ownBlock = some g3 ∨ g3 = w.heap.size + 1) (hlt : g3 < w3.heap.size) :
    PRows (w3.setCell ⟨g, j, none⟩ (.slice (some ⟨g3, 0, none⟩) (N + 1) cap)) g n (fun x => if x = j then R j ++ [z] else R x) := by
  obtain ⟨hl1, hl2, hl3⟩ := h.els j hj
  rw [hu] at hl3
  have hs1 : (w.alloc o).heap.size = w.heap.size + 1 := by simp
  have hs3 := hgrow.size
  have hgl := h.lt
  have hob : ∀ b, (Value.slice A N c).ownBlock = some b → ls j ≤ b ∧ b < hs j := fun b hb => ⟨(hl3.1.lt b hb).1, hl3.2.1 b hb⟩
  have hg3 : (ls j ≤ g3 ∧ g3 < hs j) ∨ g3 = w.heap.size + 1 := hg.imp (fun e => hob g3 e) id
  have hset : ∀ b, b ≠ g → (w3.setCell ⟨g, j, none⟩ (.slice (some ⟨g3, 0, none⟩) (N + 1) cap)).heap[b]? = w3.heap[b]? := fun b hb => Below.heap_setCell _ _ _ _ (fun e => hb (by simpa using e))
  have hss : (w3.setCell ⟨g, j, none⟩ (.slice (some ⟨g3, 0, none⟩) (N + 1) cap)).heap.size = w3.heap.size := by simp [World.setCell]
  refine ⟨fun x => if x = j then .slice (some ⟨g3, 0, none⟩) (N + 1) cap else uf x, fun x => if x = j then g3 else ls x, fun x => if x = j then g3 + 1 else hs x, ?_, ?_, ?_, by rw [hss]; omega⟩
  · have hr3 : w3.rowIs g 22 n uf := h.row.of_block (by
      rw [hgrow.block g (by omega) (fun e => ?_), Below.heap_alloc _ _ _ hgl]
      have := hob g e.symm; omega)
    exact hr3.set j _
  · intro x hx
    by_cases e : x = j
    · subst e
      simp only [if_true]
      refine ⟨by omega, by omega, ?_⟩
      have h5 : OwnI w3 (g + 1) w3.heap.size (.slice (some ⟨g3, 0, none⟩) (N + 1) cap) (R x ++ [z]) := OwnI.mk' (n := N + 1) (by rw [List.map_append, ← hX]; exact hown)
      exact (own_tightR h5 hlt).kept ⟨by rw [hss]; exact Nat.le_refl _, fun b h1 h2 => hset b (by omega)⟩
    · simp only [if_neg e]
      obtain ⟨k1, k2, k3⟩ := h.els x hx
      refine ⟨k1, by omega, k3.kept ⟨by omega, fun b h1 h2 => ?_⟩⟩
      rw [hset b (by omega), hgrow.block b (by omega) (fun e2 => ?_), Below.heap_alloc _ _ _ (by omega)]
      have h6 := hob b e2.symm
      have h7 := h.apart x j hx hj e
      omega
  · intro a b ha hb hab
    have hap : ∀ x, x < n → x ≠ j → (hs x ≤ g3 ∨ g3 + 1 ≤ ls x) := fun x hx hxj => by
      have h7 := h.apart x j hx hj hxj
      have h8 := (h.els x hx).2.1
      omega
    by_cases e1 : a = j
    · subst e1
      simp only [if_true, if_neg (show ¬ b = a from fun e => hab e.symm)]
      have := hap b hb (fun e => hab e.symm)
      omega
    · by_cases e2 : b = j
      · subst e2
        simp only [if_true, if_neg e1]
        exact hap a ha e1
      · simp only [if_neg e1, if_neg e2]
        exact h.apart a b ha hb hab
theorem PRows.ownQ {w : World} {g n lo : Nat} {R : Nat → List Int} {L : List (List Int)} (h : PRows w g n R) (hl : L.length = n) (hR : ∀ j, j < n → R j = L.getD j []) (hlo : lo ≤ g) (hn : n ≤ 1048576) :
    OwnQ w lo w.heap.size (.slice (some ⟨g, 0, none⟩) n n) L := by
  obtain ⟨uf, ls, hs, hrow, hel, hap, hlt⟩ := h
  subst hl
  obtain ⟨cs, hc1, hc2, hc3⟩ := hrow
  have hcl : cs.toList.length = L.length := by simpa using hc2
  have hat : ∀ j, j < L.length → cs.toList.getD j undef = uf j := fun j hj => by
    have h3 := hc3 j hj
    simp [List.getD, h3]
  refine ⟨cs.toList, ls, hs, ⟨by rw [hcl, Nat.mul_one], .inr ⟨g, L.length, cs, rfl, hlo, hc1, Nat.le_refl _, by unfold maxLen; omega, by omega, ?_⟩⟩, (fun k hk => ?_), Nat.le_refl _, (fun j hj => ?_), (fun i j hij hj => hap i j (by omega) hj (by omega))⟩
  · rw [List.take_of_length_le (by rw [hcl]; omega)]
  · obtain rfl : g = k := by simpa [Value.ownBlock] using hk
    exact ⟨hlt, fun j hj => Or.inl (by have := (hel j hj).1; omega)⟩
  · obtain ⟨h1, h2, h3⟩ := hel j hj
    rw [hat j hj]
    refine ⟨by omega, h2, ?_⟩
    show OwnI w (ls j) (hs j) (uf j) (L.getD j [])
    rw [← hR j hj]; exact h3

/-- What the rows bear within round i, before the point J. -/
def prJ (m : List Int) (i J x : Nat) : List Int := if x < J then prx m (i + 1) x else prx m i x
theorem prx_miss {m : List Int} {i x : Nat} (h : PR m i x = false) : prx m (i + 1) x = prx m i x := by show prx m i x ++ _ = _; rw [h]; simp
theorem prx_hit {m : List Int} {i x : Nat} (h : PR m i x = true) : prx m (i + 1) x = prx m i x ++ [(i : Int)] := by show prx m i x ++ _ = _; rw [h]; simp
theorem prJ_start (m : List Int) (i x : Nat) : prx m i x = prJ m i (i + 1) x := by
  unfold prJ; split
  · exact (prx_miss (pr_out (by omega))).symm
  · rfl
theorem prJ_end {m : List Int} {i n x : Nat} (h : x < n) : prJ m i n x = prx m (i + 1) x := by unfold prJ; rw [if_pos h]
theorem prJ_over {m : List Int} {n i J x : Nat} (h : MQ m n) (hi : i < J) (hx : x < n) (hs : m[i]?.getD 0 < sm m (i + 1) (J - i)) : prJ m i J x = prx m (i + 1) x := by
  unfold prJ; split
  · rfl
  · exact (prx_miss (pr_over h hi (by omega) hx hs)).symm
theorem prJ_hit {m : List Int} {i J x : Nat} (hp : PR m i J = true) : (if x = J then prJ m i J J ++ [(i : Int)] else prJ m i J x) = prJ m i (J + 1) x := by
  unfold prJ
  by_cases h1 : x = J
  · subst h1
    rw [if_pos rfl, if_neg (Nat.lt_irrefl _), if_pos (by omega), prx_hit hp]
  · rw [if_neg h1]
    by_cases h2 : x < J
    · rw [if_pos h2, if_pos (by omega)]
    · rw [if_neg h2, if_neg (by omega)]
theorem prx_len {m : List Int} (i x : Nat) : (prx m i x).length ≤ i := by
  induction i with
  | zero => exact Nat.le_refl _
  | succ i ih =>
    show (prx m i x ++ if PR m i x = true then [(i : Int)] else []).length ≤ i + 1
    rw [List.length_append]
    split <;> simp <;> omega
end Go.Proofs.Ytohbgfmjnanlkaa
