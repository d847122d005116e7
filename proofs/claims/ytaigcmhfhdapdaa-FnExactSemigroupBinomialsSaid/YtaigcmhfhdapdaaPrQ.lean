/- A list of lists that grows by one: words. Conditions: stated at each theorem. -/
import Derived.Test.YtaigcmhfhdapdaaPrL
import Derived.Maps.AppendAt
import Derived.Deep.AppendLies
namespace Go.Proofs.Ytaigcmhfhdapdaa
open Go.ChangeShapes Go.WideShapes Go.ChangeAt Go.RowKit
set_option linter.unusedVariables false
set_option linter.unusedSimpArgs false

theorem rows_snoc {wr w1 w2 : World} {lo k g2 cap2 l h : Nat} {v u : Value} {us : List Value} {ls hs : Nat → Nat} {L : List (List Int)} {zs : List Int}
    (hr : Rows2 wr lo wr.heap.size v k us ls hs (fun i l h u => OwnI wr l h u (L.getD i []))) (hL : L.length = k) (hlo : lo ≤ wr.heap.size)
    (hw1 : Below wr.heap.size wr w1) (hu : OwnI w1 l h u zs) (hl : wr.heap.size ≤ l) (hh : h ≤ w1.heap.size)
    (hown : w2.ownsRow lo 22 1 (.slice (some ⟨g2, 0, none⟩) (k + 1) cap2) (k + 1) (us ++ [u])) (hgrow : w1.grownBy w2 v.ownBlock)
    (hg : v.ownBlock = some g2 ∨ g2 = w1.heap.size) (hg2 : g2 < w2.heap.size) :
    OwnQ w2 lo w2.heap.size (.slice (some ⟨g2, 0, none⟩) (k + 1) cap2) (L ++ [zs]) := by
  obtain ⟨r1, r2, r3, r4, r5⟩ := hr
  have hlen : (L ++ [zs]).length = k + 1 := by simp [hL]
  have hus : us.length = k := by have := r1.1; omega
  have hs1 := hw1.size
  have hs2 := hgrow.size
  refine ⟨us ++ [u], (fun i => if i = k then l else ls i), (fun i => if i = k then h else hs i), ?_⟩
  rw [hlen]
  refine ⟨hown, fun kb hkb => ?_, Nat.le_refl _, fun i hi => ?_, fun i j hij hj => ?_⟩
  · obtain rfl : g2 = kb := by simpa [Value.ownBlock] using hkb
    refine ⟨hg2, fun i hi => ?_⟩
    by_cases h1 : i = k
    · simp only [if_pos h1]
      rcases hg with h | h
      · have := (r2 _ h).1; exact Or.inl (by omega)
      · exact Or.inr (by omega)
    · simp only [if_neg h1]
      rcases hg with h | h
      · exact (r2 _ h).2 i (by omega)
      · have := (r4 i (by omega)).2.1; exact Or.inr (by omega)
  · by_cases h1 : i = k
    · subst h1
      simp only [if_true]
      have e1 : (us ++ [u]).getD i undef = u := by simp [List.getD, ← hus]
      have e2 : (L ++ [zs]).getD i [] = zs := by simp [List.getD, ← hL]
      refine ⟨by omega, by omega, ?_⟩
      show OwnI w2 l h ((us ++ [u]).getD i undef) ((L ++ [zs]).getD i [])
      rw [e1, e2]
      refine hu.kept ⟨hs2, fun b h1 h2 => hgrow.block b (by omega) (fun e => ?_)⟩
      have := (r2 b e.symm).1; omega
    · simp only [if_neg h1]
      have h4 := r4 i (by omega)
      have e1 : (us ++ [u]).getD i undef = us.getD i undef := by simp [List.getD, List.getElem?_append_left (show i < us.length by omega)]
      have e2 : (L ++ [zs]).getD i [] = L.getD i [] := by simp [List.getD, List.getElem?_append_left (show i < L.length by omega)]
      refine ⟨h4.1, by omega, ?_⟩
      show OwnI w2 (ls i) (hs i) ((us ++ [u]).getD i undef) ((L ++ [zs]).getD i [])
      rw [e1, e2]
      refine OwnI.kept h4.2.2 ⟨by omega, fun b h1 h2 => (hgrow.block b (by omega) (fun e => ?_)).trans (hw1.block b (by omega))⟩
      have := (r2 b e.symm).2 i (by omega); omega
  · by_cases h1 : j = k
    · simp only [if_pos h1, if_neg (show ¬ i = k by omega)]
      have := (r4 i (by omega)).2.1
      exact Or.inl (by omega)
    · simp only [if_neg h1, if_neg (show ¬ i = k by omega)]
      exact r5 i j hij (by omega)
theorem ownQ_new (w : World) (lo : Nat) (h : lo ≤ w.heap.size) : OwnQ (w.alloc (.cells #[] 22)) lo (w.alloc (.cells #[] 22)).heap.size (.slice (some ⟨w.heap.size, 0, none⟩) 0 0) [] :=
  ⟨[], fun _ => 0, fun _ => 0, World.ownsRow_lit (base := lo) w #[] 0 (e := 22) (size := 1) h (by simp [maxLen]) rfl, fun k hk => by cases hk; exact ⟨by simp, fun i hi => by simp at hi⟩, Nat.le_refl _, fun i hi => by simp at hi, fun i j _ hj => by simp at hj⟩
theorem prL_succ (f : Nat → Int × Int) (n : Nat) : prL f (n + 1) = prL f n ++ [[(f n).1, (f n).2]] := by simp [prL, List.range_succ]
end Go.Proofs.Ytaigcmhfhdapdaa
