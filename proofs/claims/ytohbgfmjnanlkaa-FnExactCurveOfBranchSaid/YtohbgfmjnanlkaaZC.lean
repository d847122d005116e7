/- ZC: RowQ Pr PrI PrL PrQ PrS PrN PrM BpE BpA BpL BpS Same Same2 BpM BnA BnM. Conditions: stated at each theorem. -/
import Derived.Test.YtohbgfmjnanlkaaZA
import Derived.Test.YtohbgfmjnanlkaaZB
import Derived.Maps.AppendAt
import Derived.Deep.AppendLies
import Derived.Laws.StructEq
import Derived.Laws.Cover2
/- A list of lists that grows by one, and a number of it that is written: words. Conditions: stated at each theorem. -/
namespace Go.Proofs.Ytohbgfmjnanlkaa
open Go.ChangeShapes Go.WideShapes Go.ChangeAt Go.RowKit
set_option linter.unusedVariables false
set_option linter.unusedSimpArgs false

theorem list2R {w : World} {lo : Nat} (hlo : lo ≤ w.heap.size) (a b : Int) : OwnI (w.alloc (.cells #[.int .i64 a, .int .i64 b] 2)) lo (w.alloc (.cells #[.int .i64 a, .int .i64 b] 2)).heap.size (.slice (some ⟨w.heap.size, 0, none⟩) 2 2) [a, b] :=
  OwnI.mk' (n := 2) (World.ownsRow_lit (base := lo) w #[.int .i64 a, .int .i64 b] 2 (e := 2) (size := 1) hlo (by simp [maxLen]) rfl)
theorem kept_boxR (w : World) (o : Obj) (lo hi : Nat) (h : hi ≤ w.heap.size) : Kept lo hi w (w.alloc o) := Kept.of_below (below_box2 w o) h
theorem rows_snocR {wr w1 w2 : World} {lo k g2 cap2 l h : Nat} {v u : Value} {us : List Value} {ls hs : Nat → Nat} {L : List (List Int)} {zs : List Int}
    (hr : Rows2 wr lo wr.heap.size v k us ls hs (fun i l h u => OwnI wr l h u (L.getD i []))) (hL : L.length = k) (hlo : lo ≤ wr.heap.size)
    (hw1 : Below wr.heap.size wr w1) (hu : OwnI w1 l h u zs) (hl : wr.heap.size ≤ l) (hh : h ≤ w1.heap.size)
    (hown : w2.ownsRow lo 22 1 (.slice (some ⟨g2, 0, none⟩) (k + 1) cap2) (k + 1) (us ++ [u])) (hgrow : w1.grownBy w2 v.ownBlock)
    (hg : v.ownBlock = some g2 ∨ g2 = w1.heap.size) (hg2 : g2 < w2.heap.size) :
    OwnQ w2 lo w2.heap.size (.slice (some ⟨g2, 0, none⟩) (k + 1) cap2) (L ++ [zs]) := by
  obtain ⟨r1, r2, r3, r4, r5⟩ := hr
  have hlen : (L ++ [zs]).length = k + 1 := by simp [hL]
  have hus : us.length = k := by have := r1.1; omega
  have hs1 := hw1.size
  have hs2 := hgrow.size
  refine ⟨us ++ [u], (fun i => if i = k then l else ls i), (fun i => if i = k then h else hs i), ?_⟩
  rw [hlen]
  refine ⟨hown, fun kb hkb => ?_, Nat.le_refl _, fun i hi => ?_, fun i j hij hj => ?_⟩
  · obtain rfl : g2 = kb := by simpa [Value.ownBlock] using hkb
    refine ⟨hg2, fun i hi => ?_⟩
    by_cases h1 : i = k
    · simp only [if_pos h1]
      rcases hg with h | h
      · have := (r2 _ h).1; exact Or.inl (by omega)
      · exact Or.inr (by omega)
    · simp only [if_neg h1]
      rcases hg with h | h
      · exact (r2 _ h).2 i (by omega)
      · have := (r4 i (by omega)).2.1; exact Or.inr (by omega)
  · by_cases h1 : i = k
    · subst h1
      simp only [if_true]
      have e1 : (us ++ [u]).getD i undef = u := by simp [List.getD, ← hus]
      have e2 : (L ++ [zs]).getD i [] = zs := by simp [List.getD, ← hL]
      refine ⟨by omega, by omega, ?_⟩
      show OwnI w2 l h ((us ++ [u]).getD i undef) ((L ++ [zs]).getD i [])
      rw [e1, e2]
      refine hu.kept ⟨hs2, fun b h1 h2 => hgrow.block b (by omega) (fun e => ?_)⟩
      have := (r2 b e.symm).1; omega
    · simp only [if_neg h1]
      have h4 := r4 i (by omega)
      have e1 : (us ++ [u]).getD i undef = us.getD i undef := by simp [List.getD, List.getElem?_append_left (show i < us.length by omega)]
      have e2 : (L ++ [zs]).getD i [] = L.getD i [] := by simp [List.getD, List.getElem?_append_left (show i < L.length by omega)]
      refine ⟨h4.1, by omega, ?_⟩
      show OwnI w2 (ls i) (hs i) ((us ++ [u]).getD i undef) ((L ++ [zs]).getD i [])
      rw [e1, e2]
      refine OwnI.kept h4.2.2 ⟨by omega, fun b h1 h2 => (hgrow.block b (by omega) (fun e => ?_)).trans (hw1.block b (by omega))⟩
      have := (r2 b e.symm).2 i (by omega); omega
  · by_cases h1 : j = k
    · simp only [if_pos h1, if_neg (show ¬ i = k by omega)]
      have := (r4 i (by omega)).2.1
      exact Or.inl (by omega)
    · simp only [if_neg h1, if_neg (show ¬ i = k by omega)]
      exact r5 i j hij (by omega)
theorem ownQ_newR (w : World) (lo : Nat) (h : lo ≤ w.heap.size) : OwnQ (w.alloc (.cells #[] 22)) lo (w.alloc (.cells #[] 22)).heap.size (.slice (some ⟨w.heap.size, 0, none⟩) 0 0) [] :=
  ⟨[], fun _ => 0, fun _ => 0, World.ownsRow_lit (base := lo) w #[] 0 (e := 22) (size := 1) h (by simp [maxLen]) rfl, fun k hk => by cases hk; exact ⟨by simp, fun i hi => by simp at hi⟩, Nat.le_refl _, fun i hi => by simp at hi, fun i j _ hj => by simp at hj⟩

theorem wpList_append_liesR {P : Program} {w : World} {ops : Array Oper} {rest : List Oper} {o : Oper} {a : Act} {Q : Exit → Act → World → Prop} (hgd : o.guard = none) (s x : Operand) (t : TypeId)
    (ho : o.op = .call { callee := .builtin .append, args := #[s, x], argTypes := #[t, t] })
    (base : Nat) (e : TypeId) (i : TypeInfo) (z : Value) (size bytes : Nat) (ht : P.underlying t = some (.slice e)) (hi : P.info? e = some i) (hz : i.zero = some z)
    (hsize : i.size = size) (hby : i.bytes = bytes) (hzs : z.cells.size = size) (hsz : 0 < size)
    (v : Value) (n : Nat) (xs : List Value) (hs : a.eval s = v) (hown : w.ownsRow base e size v n xs)
    (ad : Addr) (m c : Nat) (news : List Value) (hx : a.eval x = .slice (some ad) m c) (hl : news.length = m * size) (hnews : ∀ j u, news[j]? = some u → w.cell? (ad.add j) = some u) (h1 : ∀ u ∈ news, u.oneCell' = true)
    (hm : 0 < m) (h63 : n + m ≤ maxLen) (hbytes : (n + m) * bytes ≤ 140737488355328) (hbase : base ≤ w.heap.size)
    (h : ∀ g cap w', w'.ownsRow base e size (.slice (some ⟨g, 0, none⟩) (n + m) cap) (n + m) (xs ++ news) → w.grownBy w' v.ownBlock → (v.ownBlock = some g ∨ g = w.heap.size) → g < w'.heap.size → wpList P ops Q rest (a.put o.dst (.slice (some ⟨g, 0, none⟩) (n + m) cap)) w') : wpList P ops Q (o :: rest) a w :=
  wpList_plain hgd fun _ hK => wp_append_lies w s x t ho base e i z size bytes ht hi hz hsize hby hzs hsz v n xs hs hown ad m c news hx hl hnews h1 hm h63 hbytes hbase w.heap.size rfl fun g cap w' h2 h3 h4 h5 => hK _ _ (h g cap w' h2 h3 h4 h5)

theorem ints_infoR : (Try.prog.info? 22).map (fun i => (i.zero, i.size, i.bytes)) = some (some (.slice none 0 0), 1, 24) := by kernel_rfl
/-- Where the cells of a list of lists lie. -/
theorem rows_at {w : World} {lo hi n c i j : Nat} {A : Option Addr} {L : List (List Int)} (h : OwnQ w lo hi (.slice A n c) L) (hL : L.length = n) (hi' : i < n) (hj : j < (L.getD i []).length) :
    ∃ go gi ci, A = some ⟨go, 0, none⟩ ∧ lo ≤ go ∧ go < hi ∧ w.cell? ⟨go, i, none⟩ = some (.slice (some ⟨gi, 0, none⟩) (L.getD i []).length ci) ∧ lo ≤ gi ∧ gi < hi ∧ w.cell? ⟨gi, j, none⟩ = some (.int .i64 ((L.getD i [])[j]?.getD 0)) ∧ w.frozen? ⟨gi, j, none⟩ = false := by
  subst hL
  obtain ⟨us, ls, hs, r1, r2, r3, r4, r5⟩ := h
  have h4 := r4 i hi'
  obtain ⟨gA, cA, eA⟩ := own_form h4.2.2.1
  have h5 := h4.2.2
  rw [eA] at h5
  obtain ⟨gi, e1, h6, h7, h8, h9⟩ := own_at h5 rfl hj
  subst e1
  rcases r1.2 with ⟨e, e0⟩ | ⟨go, cap, cur, e, hb, hg, hnc, hcm, hcs, hcur⟩
  · omega
  · simp only [Value.slice.injEq] at e
    obtain ⟨rfl, _, rfl⟩ := e
    refine ⟨go, gi, cA, rfl, hb, (r2 go rfl).1, ?_, by omega, by omega, h8, h9⟩
    rw [World.ownsRow.cellAt r1 i (by omega)]
    have hus : us.length = L.length := by have := r1.1; omega
    have : us[i]? = some (us.getD i undef) := by simp [List.getD, show i < us.length by omega]
    rw [this, eA]
/-- A number of a list of lists is written. -/
theorem rows_set {w : World} {lo hi n c i j gi : Nat} {A : Option Addr} {L : List (List Int)} {ci : Nat} (h : OwnQ w lo hi (.slice A n c) L) (hL : L.length = n) (hi' : i < n) (hc : ∀ go, A = some ⟨go, 0, none⟩ → w.cell? ⟨go, i, none⟩ = some (.slice (some ⟨gi, 0, none⟩) (L.getD i []).length ci)) (z : Int) :
    OwnQ (w.setCell ⟨gi, j, none⟩ (.int .i64 z)) lo hi (.slice A n c) (L.set i ((L.getD i []).set j z)) := by
  subst hL
  obtain ⟨us, ls, hs, r1, r2, r3, r4, r5⟩ := h
  have hus : us.length = L.length := by have := r1.1; omega
  have hui : us.getD i undef = .slice (some ⟨gi, 0, none⟩) (L.getD i []).length ci := by
    rcases r1.2 with ⟨e, e0⟩ | ⟨go, cap, cur, e, hb, hg, _⟩
    · omega
    · simp only [Value.slice.injEq] at e
      obtain ⟨rfl, _, rfl⟩ := e
      have h1 := hc go rfl
      rw [World.ownsRow.cellAt r1 i (by omega)] at h1
      simp [List.getD, h1]
  have h4 := r4 i hi'
  have h5 := h4.2.2
  rw [hui] at h5
  have hgl : ls i ≤ gi ∧ gi < hs i := ⟨(h5.1.lt gi rfl).1, h5.2.1 gi rfl⟩
  have hk : ∀ b, b ≠ gi → (w.setCell ⟨gi, j, none⟩ (.int .i64 z)).heap[b]? = w.heap[b]? := fun b hb => Below.heap_setCell _ _ _ _ (fun e => hb (by simpa using e))
  have hsz : (w.setCell ⟨gi, j, none⟩ (.int .i64 z)).heap.size = w.heap.size := by simp [World.setCell]
  have hlen : (L.set i ((L.getD i []).set j z)).length = L.length := by simp
  refine ⟨us, ls, hs, ?_⟩
  rw [hlen]
  refine ⟨?_, r2, by rw [hsz]; exact r3, fun m hm => ?_, r5⟩
  · refine World.ownsRow.kept r1 (grown_setCell (a := w) (g := gi) ⟨rfl, rfl, rfl, Nat.le_refl _, fun _ _ _ => rfl⟩ rfl _) (.inr fun e => ?_)
    have := (r2 gi e).2 i hi'
    omega
  · by_cases hmi : m = i
    · subst hmi
      have e2 : (L.set m ((L.getD m []).set j z)).getD m [] = (L.getD m []).set j z := by simp [List.getD, hm]
      refine ⟨h4.1, h4.2.1, ?_⟩
      show OwnI _ (ls m) (hs m) (us.getD m undef) ((L.set m ((L.getD m []).set j z)).getD m [])
      rw [e2, hui]
      have h6 := own_store (j := j) h5 rfl z
      simpa using h6
    · have e2 : (L.set i ((L.getD i []).set j z)).getD m [] = L.getD m [] := by simp [List.getD, List.getElem?_set_ne (fun e => hmi e.symm)]
      have h6 := r4 m hm
      refine ⟨h6.1, h6.2.1, ?_⟩
      show OwnI _ (ls m) (hs m) (us.getD m undef) ((L.set i ((L.getD i []).set j z)).getD m [])
      rw [e2]
      refine OwnI.kept h6.2.2 ⟨by rw [hsz]; exact Nat.le_refl _, fun b h7 h8 => hk b fun e => ?_⟩
      rcases Nat.lt_or_ge m i with h9 | h9
      · have := r5 m i h9 hi'; omega
      · have := r5 i m (by omega) hm; omega
end Go.Proofs.Ytohbgfmjnanlkaa
/- Slices of pairs of int64 that a call has made: words. Conditions: stated at each theorem. -/
namespace Go.Proofs.Ytohbgfmjnanlkaa
open Go.ChangeShapes Go.WideShapes Go.ChangeAt Go.RowKit
set_option linter.unusedVariables false
set_option linter.unusedSimpArgs false

/-- The cells of a list of pairs, given by a function. -/
def pv (f : Nat → Int × Int) (j : Nat) : Value := .int .i64 (if j % 2 = 0 then (f (j / 2)).1 else (f (j / 2)).2)
/-- The Puiseux pair with the index i. -/
def ppF (zs : List Int) (i : Nat) : Int × Int := ((zs[i + 1]?.getD 0).tdiv ((dvL 0 zs)[i + 1]?.getD 0), ((dvL 0 zs)[i]?.getD 0).tdiv ((dvL 0 zs)[i + 1]?.getD 0))
end Go.Proofs.Ytohbgfmjnanlkaa
/- The program's Puiseux pairs of a branch: contract of (impl.Branch).puiseuxPairs. Conditions: stated at the theorem. -/
namespace Go.Proofs.Ytohbgfmjnanlkaa
open Go.ChangeShapes Go.WideShapes Go.ChangeAt Go.RowKit
set_option linter.unusedVariables false
set_option linter.unusedSimpArgs false

end Go.Proofs.Ytohbgfmjnanlkaa
/- Pairs as lists of two numbers: contract of impl.listsOfPairs. Conditions: stated at the theorem. -/
namespace Go.Proofs.Ytohbgfmjnanlkaa
open Go.ChangeShapes Go.WideShapes Go.ChangeAt Go.RowKit
set_option linter.unusedVariables false
set_option linter.unusedSimpArgs false

def prL (f : Nat → Int × Int) (n : Nat) : List (List Int) := (List.range n).map fun i => [(f i).1, (f i).2]
theorem prL_len (f : Nat → Int × Int) (n : Nat) : (prL f n).length = n := by simp [prL]
theorem prL_at (f : Nat → Int × Int) {n i : Nat} (h : i < n) : (prL f n).getD i [] = [(f i).1, (f i).2] := by simp [prL, List.getD, h]
theorem list2 {w : World} {lo : Nat} (hlo : lo ≤ w.heap.size) (a b : Int) : OwnI (w.alloc (.cells #[.int .i64 a, .int .i64 b] 2)) lo (w.alloc (.cells #[.int .i64 a, .int .i64 b] 2)).heap.size (.slice (some ⟨w.heap.size, 0, none⟩) 2 2) [a, b] :=
  OwnI.mk' (n := 2) (World.ownsRow_lit (base := lo) w #[.int .i64 a, .int .i64 b] 2 (e := 2) (size := 1) hlo (by simp [maxLen]) rfl)
theorem kept_box (w : World) (o : Obj) (lo hi : Nat) (h : hi ≤ w.heap.size) : Kept lo hi w (w.alloc o) := Kept.of_below (below_box2 w o) h
theorem slice_infoP : (Try.prog.info? 22).map (fun i => (i.zero, i.size, i.bytes)) = some (some (.slice none 0 0), 1, 24) := by kernel_rfl

end Go.Proofs.Ytohbgfmjnanlkaa
/- A list of lists that grows by one: words. Conditions: stated at each theorem. -/
namespace Go.Proofs.Ytohbgfmjnanlkaa
open Go.ChangeShapes Go.WideShapes Go.ChangeAt Go.RowKit
set_option linter.unusedVariables false
set_option linter.unusedSimpArgs false

theorem rows_snoc {wr w1 w2 : World} {lo k g2 cap2 l h : Nat} {v u : Value} {us : List Value} {ls hs : Nat → Nat} {L : List (List Int)} {zs : List Int}
    (hr : Rows2 wr lo wr.heap.size v k us ls hs (fun i l h u => OwnI wr l h u (L.getD i []))) (hL : L.length = k) (hlo : lo ≤ wr.heap.size)
    (hw1 : Below wr.heap.size wr w1) (hu : OwnI w1 l h u zs) (hl : wr.heap.size ≤ l) (hh : h ≤ w1.heap.size)
    (hown : w2.ownsRow lo 22 1 (.slice (some ⟨g2, 0, none⟩) (k + 1) cap2) (k + 1) (us ++ [u])) (hgrow : w1.grownBy w2 v.ownBlock)
    (hg : v.ownBlock = some g2 ∨ g2 = w1.heap.size) (hg2 : g2 < w2.heap.size) :
    OwnQ w2 lo w2.heap.size (.slice (some ⟨g2, 0, none⟩) (k + 1) cap2) (L ++ [zs]) := by
  obtain ⟨r1, r2, r3, r4, r5⟩ := hr
  have hlen : (L ++ [zs]).length = k + 1 := by simp [hL]
  have hus : us.length = k := by have := r1.1; omega
  have hs1 := hw1.size
  have hs2 := hgrow.size
  refine ⟨us ++ [u], (fun i => if i = k then l else ls i), (fun i => if i = k then h else hs i), ?_⟩
  rw [hlen]
  refine ⟨hown, fun kb hkb => ?_, Nat.le_refl _, fun i hi => ?_, fun i j hij hj => ?_⟩
  · obtain rfl : g2 = kb := by simpa [Value.ownBlock] using hkb
    refine ⟨hg2, fun i hi => ?_⟩
    by_cases h1 : i = k
    · simp only [if_pos h1]
      rcases hg with h | h
      · have := (r2 _ h).1; exact Or.inl (by omega)
      · exact Or.inr (by omega)
    · simp only [if_neg h1]
      rcases hg with h | h
      · exact (r2 _ h).2 i (by omega)
      · have := (r4 i (by omega)).2.1; exact Or.inr (by omega)
  · by_cases h1 : i = k
    · subst h1
      simp only [if_true]
      have e1 : (us ++ [u]).getD i undef = u := by simp [List.getD, ← hus]
      have e2 : (L ++ [zs]).getD i [] = zs := by simp [List.getD, ← hL]
      refine ⟨by omega, by omega, ?_⟩
      show OwnI w2 l h ((us ++ [u]).getD i undef) ((L ++ [zs]).getD i [])
      rw [e1, e2]
      refine hu.kept ⟨hs2, fun b h1 h2 => hgrow.block b (by omega) (fun e => ?_)⟩
      have := (r2 b e.symm).1; omega
    · simp only [if_neg h1]
      have h4 := r4 i (by omega)
      have e1 : (us ++ [u]).getD i undef = us.getD i undef := by simp [List.getD, List.getElem?_append_left (show i < us.length by omega)]
      have e2 : (L ++ [zs]).getD i [] = L.getD i [] := by simp [List.getD, List.getElem?_append_left (show i < L.length by omega)]
      refine ⟨h4.1, by omega, ?_⟩
      show OwnI w2 (ls i) (hs i) ((us ++ [u]).getD i undef) ((L ++ [zs]).getD i [])
      rw [e1, e2]
      refine OwnI.kept h4.2.2 ⟨by omega, fun b h1 h2 => (hgrow.block b (by omega) (fun e => ?_)).trans (hw1.block b (by omega))⟩
      have := (r2 b e.symm).2 i (by omega); omega
  · by_cases h1 : j = k
    · simp only [if_pos h1, if_neg (show ¬ i = k by omega)]
      have := (r4 i (by omega)).2.1
      exact Or.inl (by omega)
    · simp only [if_neg h1, if_neg (show ¬ i = k by omega)]
      exact r5 i j hij (by omega)
theorem ownQ_new (w : World) (lo : Nat) (h : lo ≤ w.heap.size) : OwnQ (w.alloc (.cells #[] 22)) lo (w.alloc (.cells #[] 22)).heap.size (.slice (some ⟨w.heap.size, 0, none⟩) 0 0) [] :=
  ⟨[], fun _ => 0, fun _ => 0, World.ownsRow_lit (base := lo) w #[] 0 (e := 22) (size := 1) h (by simp [maxLen]) rfl, fun k hk => by cases hk; exact ⟨by simp, fun i hi => by simp at hi⟩, Nat.le_refl _, fun i hi => by simp at hi, fun i j _ hj => by simp at hj⟩
theorem prL_succ (f : Nat → Int × Int) (n : Nat) : prL f (n + 1) = prL f n ++ [[(f n).1, (f n).2]] := by simp [prL, List.range_succ]
end Go.Proofs.Ytohbgfmjnanlkaa
/- The model's pairs of a branch: contract of spec.l03Puiseux. Conditions: stated at the theorem. -/
namespace Go.Proofs.Ytohbgfmjnanlkaa
open Go.ChangeShapes Go.WideShapes Go.ChangeAt Go.RowKit
set_option linter.unusedVariables false
set_option linter.unusedSimpArgs false

theorem lit_news (w : World) (o : Obj) (u : Value) : ∀ j x, ([u] : List Value)[j]? = some x → ((w.alloc o).alloc (.cells #[u] 22)).cell? ((⟨w.heap.size + 1, 0, none⟩ : Addr).add j) = some x := by
  have h := World.news_of_block (cs := #[u]) (t := 22) (fr := (0, 0)) (heap_alloc_new (w.alloc o) (.cells #[u] 22))
  rw [World.size_alloc] at h
  exact h
theorem ownQ_less {w : World} {lo lo' hi : Nat} {v : Value} {zss : List (List Int)} (h : OwnQ w lo hi v zss) (hl : lo' ≤ lo) : OwnQ w lo' hi v zss := by
  obtain ⟨us, ls, hs, r1, r2, r3, r4, r5⟩ := h
  refine ⟨us, ls, hs, ⟨r1.1, ?_⟩, r2, r3, fun i hi => ⟨by have := (r4 i hi).1; omega, (r4 i hi).2⟩, r5⟩
  rcases r1.2 with hn | ⟨g, cap, cur, e, hb, rest⟩
  · exact .inl hn
  · exact .inr ⟨g, cap, cur, e, by omega, rest⟩

end Go.Proofs.Ytohbgfmjnanlkaa
/- The model's pairs of a branch: contract of spec.l03Newton. Conditions: stated at the theorem. -/
namespace Go.Proofs.Ytohbgfmjnanlkaa
open Go.ChangeShapes Go.WideShapes Go.ChangeAt Go.RowKit
set_option linter.unusedVariables false
set_option linter.unusedSimpArgs false

/-- The Newton pair with the index i. -/
def npF (zs : List Int) (i : Nat) : Int × Int := ((zs[i + 1]?.getD 0 - if i = 0 then 0 else zs[i]?.getD 0).tdiv ((dvL 0 zs)[i + 1]?.getD 0), ((dvL 0 zs)[i]?.getD 0).tdiv ((dvL 0 zs)[i + 1]?.getD 0))
theorem natAbs_le9 (a b : Int) : (a.tdiv b).natAbs ≤ a.natAbs := by rw [Int.natAbs_tdiv]; exact Nat.div_le_self _ _

end Go.Proofs.Ytohbgfmjnanlkaa
/- Newton pairs out of Puiseux pairs: contract of impl.newtonOfPuiseux; plain mathematics. Conditions: stated at each theorem. -/
namespace Go.Proofs.Ytohbgfmjnanlkaa
open Go.ChangeShapes Go.WideShapes Go.ChangeAt Go.RowKit
set_option linter.unusedVariables false
set_option linter.unusedSimpArgs false

def nwF (f : Nat → Int × Int) (i : Nat) : Int × Int := ((f i).1 - (if i = 0 then 0 else (f (i - 1)).1) * (f i).2, (f i).2)
theorem dv_left : ∀ (zs : List Int) (e : Int) (i : Nat), i < zs.length → (dvL e zs)[i]?.getD 0 ∣ zs[i]?.getD 0 := by
  intro zs
  induction zs with
  | nil => intro e i h; simp at h
  | cons z zs ih =>
    intro e i h
    cases i with
    | zero => simp [dvL]; exact Int.gcd_dvd_right _ _
    | succ i =>
      have := ih (Int.gcd e z : Int) i (by simpa using h)
      simpa [dvL] using this
theorem dv_next : ∀ (zs : List Int) (e : Int) (i : Nat), i + 1 < zs.length → (dvL e zs)[i + 1]?.getD 0 ∣ (dvL e zs)[i]?.getD 0 := by
  intro zs
  induction zs with
  | nil => intro e i h; simp at h
  | cons z zs ih =>
    intro e i h
    cases i with
    | zero =>
      cases zs with
      | nil => simp at h
      | cons y ys =>
        have : ((Int.gcd (Int.gcd e z : Int) y : Nat) : Int) ∣ ((Int.gcd e z : Nat) : Int) := Int.gcd_dvd_left _ _
        simpa [dvL] using this
    | succ i =>
      have := ih (Int.gcd e z : Int) i (by simpa using h)
      simpa [dvL] using this
theorem np_alg {b1 b0 e1 e0 : Int} (h1 : e1 ∣ b1) (h2 : e1 ∣ e0) (h3 : e0 ∣ b0) (p1 : 1 ≤ e1) (p0 : 1 ≤ e0) : b1.tdiv e1 - b0.tdiv e0 * e0.tdiv e1 = (b1 - b0).tdiv e1 := by
  obtain ⟨r, rfl⟩ := h1
  obtain ⟨p, rfl⟩ := h3
  obtain ⟨q, rfl⟩ := h2
  have n1 : e1 ≠ 0 := by omega
  have n0 : e1 * q ≠ 0 := by omega
  rw [Int.mul_tdiv_cancel_left _ n1, Int.mul_tdiv_cancel_left _ n0, Int.mul_tdiv_cancel_left _ n1]
  have e : e1 * r - e1 * q * p = e1 * (r - p * q) := by rw [Int.mul_sub, Int.mul_assoc, Int.mul_comm q p]
  rw [e, Int.mul_tdiv_cancel_left _ n1]
theorem at_range {zs : List Int} (hp : brB zs = true) {i : Nat} (h : i < zs.length) : (1 ≤ zs[i]?.getD 0 ∧ zs[i]?.getD 0 ≤ 2000) ∧ (1 ≤ (dvL 0 zs)[i]?.getD 0 ∧ (dvL 0 zs)[i]?.getD 0 ≤ 2000) := by
  have hz := dcB_range (brB_dcB hp)
  refine ⟨hz _ (by simp [h]), dvL_pos hz (e := 0) _ ?_⟩
  have : i < (dvL 0 zs).length := by rw [dvL_len]; exact h
  simp [this]
theorem np_eq {zs : List Int} (hp : brB zs = true) {i : Nat} (hi : i < zs.length - 1) : nwF (ppF zs) i = npF zs i := by
  have h1 := at_range hp (i := i + 1) (by omega)
  have h0 := at_range hp (i := i) (by omega)
  by_cases hz : i = 0
  · subst hz; simp [nwF, npF, ppF]
  · obtain ⟨j, rfl⟩ : ∃ j, i = j + 1 := ⟨i - 1, by omega⟩
    have h2 := np_alg (dv_left zs 0 (j + 1 + 1) (by omega)) (dv_next zs 0 (j + 1) (by omega)) (dv_left zs 0 (j + 1) (by omega)) h1.2.1 h0.2.1
    simp only [nwF, npF, if_neg hz, ppF, Nat.add_sub_cancel]
    rw [h2]
theorem npOK {zs : List Int} (hp : brB zs = true) : ∀ i, i < zs.length - 1 → (0 ≤ (ppF zs i).1 ∧ (ppF zs i).1 ≤ 2000) ∧ (0 ≤ (ppF zs i).2 ∧ (ppF zs i).2 ≤ 2000) := fun i hi => by
  have h1 := at_range hp (i := i + 1) (by omega)
  have h0 := at_range hp (i := i) (by omega)
  exact ⟨tdiv_range h1.1 h1.2.1, tdiv_range h0.2 h1.2.1⟩

end Go.Proofs.Ytohbgfmjnanlkaa
/- impl.isTerm and slices.Equal of pairs: contracts. Conditions: stated at each theorem. -/
namespace Go.Proofs.Ytohbgfmjnanlkaa
open Go.ChangeShapes Go.WideShapes Go.ChangeAt Go.RowKit
set_option linter.unusedVariables false
set_option linter.unusedSimpArgs false

def tmB (z : Int) : Bool := decide (1 ≤ z ∧ z ≤ 2000)
theorem tmB_true {z : Int} : tmB z = true ↔ 1 ≤ z ∧ z ≤ 2000 := by unfold tmB; simp
theorem tmB_false {z : Int} : tmB z = false ↔ ¬(1 ≤ z ∧ z ≤ 2000) := by unfold tmB; simp
/-- The answer of a test of two lists of pairs. -/
def EqAns (w : World) (n : Nat) (f1 f2 : Nat → Int × Int) (e : Ending) (w' : World) : Prop := ∃ b, e = .returned (.bool b) ∧ (b = true ↔ ∀ i, i < n → f1 i = f2 i) ∧ Below w.heap.size w w'
theorem EqAns.mk {w w' : World} {n : Nat} {f1 f2 : Nat → Int × Int} {b : Bool} (h : b = true ↔ ∀ i, i < n → f1 i = f2 i) (hb : Below w.heap.size w w') : EqAns w n f1 f2 (.returned (.bool b)) w' := ⟨b, rfl, h, hb⟩
end Go.Proofs.Ytohbgfmjnanlkaa
/- Branches of pairs: plain mathematics. Conditions: stated at each theorem. -/
namespace Go.Proofs.Ytohbgfmjnanlkaa
open Go.ChangeShapes Go.WideShapes Go.ChangeAt Go.RowKit
set_option linter.unusedVariables false
set_option linter.unusedSimpArgs false

/-- The product of the second numbers. -/
def prdL : List (Int × Int) → Int
  | [] => 1
  | p :: r => p.2 * prdL r
def pairB : List Int → Bool
  | [a, b] => tmB a && tmB b
  | _ => false
def pairOf (z : List Int) : Int × Int := (z.getD 0 0, z.getD 1 0)
/-- Lists of two terms with no product above 64, behind the product n. -/
def pdB (n : Int) : List (List Int) → Bool
  | [] => true
  | z :: zs => pairB z && (decide (n * (pairOf z).2 ≤ 64) && pdB (n * (pairOf z).2) zs)
def bpB (zs : List (List Int)) : Bool := decide (zs.length ≤ 6) && pdB 1 zs
def psOf (zs : List (List Int)) : List (Int × Int) := zs.map pairOf
def pF (ps : List (Int × Int)) (i : Nat) : Int × Int := ps.getD i (0, 0)
theorem pairB_form {z : List Int} (h : pairB z = true) : ∃ a b, z = [a, b] ∧ (1 ≤ a ∧ a ≤ 2000) ∧ (1 ≤ b ∧ b ≤ 2000) ∧ pairOf z = (a, b) := by
  match z with
  | [a, b] =>
    simp only [pairB, Bool.and_eq_true] at h
    exact ⟨a, b, rfl, tmB_true.1 h.1, tmB_true.1 h.2, rfl⟩
  | [] => cases h
  | [_] => cases h
  | _ :: _ :: _ :: _ => cases h
theorem prdL_drop {ps : List (Int × Int)} {i : Nat} (h : i < ps.length) : prdL (ps.drop i) = (pF ps i).2 * prdL (ps.drop (i + 1)) := by
  rw [List.drop_eq_getElem_cons h, prdL]
  simp [pF, List.getD, h]
/-- The terms: each first number times the second numbers behind it. -/
def tmF (ps : List (Int × Int)) (i : Nat) : Int := (pF ps i).1 * prdL (ps.drop (i + 1))
def tmL (ps : List (Int × Int)) : List Int := (List.range ps.length).map (tmF ps)
def bpL (ps : List (Int × Int)) : List Int := prdL ps :: tmL ps
theorem tmL_len (ps : List (Int × Int)) : (tmL ps).length = ps.length := by simp [tmL]
theorem bpL_len (ps : List (Int × Int)) : (bpL ps).length = ps.length + 1 := by simp [bpL, tmL_len]
theorem tmL_at {ps : List (Int × Int)} {i : Nat} (h : i < ps.length) : (tmL ps).getD i 0 = tmF ps i := by simp [tmL, List.getD, h]
/-- Pairs whose numbers are at least 1 and whose product is at most 64. -/
structure PsOK (M : Int) (ps : List (Int × Int)) : Prop where
  first : ∀ p ∈ ps, 1 ≤ p.1 ∧ p.1 ≤ M
  second : ∀ p ∈ ps, 1 ≤ p.2
  prod : prdL ps ≤ 64
theorem prdL_pos {ps : List (Int × Int)} (h : ∀ p ∈ ps, 1 ≤ p.2) : 1 ≤ prdL ps := by
  induction ps with
  | nil => simp [prdL]
  | cons p r ih =>
    have h1 := h p (List.mem_cons_self ..)
    have h2 := ih fun q hq => h q (List.mem_cons_of_mem _ hq)
    rw [prdL]
    have := Int.mul_le_mul h1 h2 (by omega) (by omega)
    omega
theorem prdL_tail {p : Int × Int} {r : List (Int × Int)} (h : ∀ q ∈ p :: r, 1 ≤ q.2) : prdL r ≤ prdL (p :: r) ∧ p.2 ≤ prdL (p :: r) := by
  have h1 := h p (List.mem_cons_self ..)
  have h2 := prdL_pos fun q hq => h q (List.mem_cons_of_mem _ hq)
  rw [prdL]
  have e1 := Int.mul_le_mul_of_nonneg_right h1 (show 0 ≤ prdL r by omega)
  have e2 := Int.mul_le_mul_of_nonneg_left h2 (show 0 ≤ p.2 by omega)
  constructor <;> omega
theorem PsOK.tail {M : Int} {p : Int × Int} {r : List (Int × Int)} (h : PsOK M (p :: r)) : PsOK M r :=
  ⟨fun q hq => h.first q (List.mem_cons_of_mem _ hq), fun q hq => h.second q (List.mem_cons_of_mem _ hq), by have := (prdL_tail h.second).1; have := h.prod; omega⟩
theorem PsOK.drop {M : Int} : ∀ {ps : List (Int × Int)}, PsOK M ps → ∀ i, PsOK M (ps.drop i)
  | [], h, i => by simpa using h
  | _ :: _, h, 0 => h
  | _ :: _, h, i + 1 => by simpa using PsOK.drop h.tail i
theorem PsOK.e {M : Int} {ps : List (Int × Int)} (h : PsOK M ps) (i : Nat) : 1 ≤ prdL (ps.drop i) ∧ prdL (ps.drop i) ≤ 64 := ⟨prdL_pos (h.drop i).second, (h.drop i).prod⟩
theorem PsOK.at {M : Int} {ps : List (Int × Int)} (h : PsOK M ps) {i : Nat} (hi : i < ps.length) : (1 ≤ (pF ps i).1 ∧ (pF ps i).1 ≤ M) ∧ 1 ≤ (pF ps i).2 ∧ (pF ps i).2 ≤ 64 := by
  have e : pF ps i = ps[i] := by simp [pF, List.getD, hi]
  have hm : ps[i] ∈ ps := List.getElem_mem _
  rw [e]
  refine ⟨h.first _ hm, h.second _ hm, ?_⟩
  have h1 := (h.drop i).prod
  rw [List.drop_eq_getElem_cons hi] at h1
  have h2 := h.drop i
  rw [List.drop_eq_getElem_cons hi] at h2
  have := (prdL_tail h2.second).2
  omega
theorem mul_rangeB {a b M : Int} (ha : 1 ≤ a ∧ a ≤ M) (hb : 1 ≤ b ∧ b ≤ 64) : 1 ≤ a * b ∧ a * b ≤ M * 64 := by
  have e1 := Int.mul_le_mul ha.1 hb.1 (by omega) (by omega)
  have e2 := Int.mul_le_mul ha.2 hb.2 (by omega) (by omega)
  omega
theorem PsOK.term {M : Int} {ps : List (Int × Int)} (h : PsOK M ps) {i : Nat} (hi : i < ps.length) : 1 ≤ tmF ps i ∧ tmF ps i ≤ M * 64 := mul_rangeB (h.at hi).1 (h.e (i + 1))
theorem PsOK.range {M : Int} (hM : 1 ≤ M) {ps : List (Int × Int)} (h : PsOK M ps) : ∀ z ∈ bpL ps, 1 ≤ z ∧ z ≤ M * 64 := by
  intro z hz
  rcases List.mem_cons.1 hz with rfl | hz
  · have := h.e 0; simp at this; omega
  · simp only [tmL, List.mem_map, List.mem_range] at hz
    obtain ⟨i, hi, rfl⟩ := hz
    exact h.term hi
theorem pd_ok : ∀ {zs : List (List Int)} {n : Int}, 1 ≤ n → n ≤ 64 → pdB n zs = true → (∀ p ∈ psOf zs, 1 ≤ p.1 ∧ p.1 ≤ 2000) ∧ (∀ p ∈ psOf zs, 1 ≤ p.2) ∧ n * prdL (psOf zs) ≤ 64
  | [], n, h1, h2, _ => ⟨by simp [psOf], by simp [psOf], by simp [psOf, prdL]; exact h2⟩
  | z :: zs, n, h1, h2, h => by
    simp only [pdB, Bool.and_eq_true, decide_eq_true_eq] at h
    obtain ⟨hz, h3, h4⟩ := h
    obtain ⟨a, b, rfl, ha, hb, e⟩ := pairB_form hz
    rw [e] at h3 h4
    have h5 : 1 ≤ n * b := by have := Int.mul_le_mul h1 hb.1 (by omega) (by omega); omega
    have ih := pd_ok h5 h3 h4
    refine ⟨fun p hp => ?_, fun p hp => ?_, ?_⟩
    · rcases List.mem_cons.1 (show p ∈ pairOf [a, b] :: psOf zs from hp) with rfl | hp
      · exact ha
      · exact ih.1 p hp
    · rcases List.mem_cons.1 (show p ∈ pairOf [a, b] :: psOf zs from hp) with rfl | hp
      · exact hb.1
      · exact ih.2.1 p hp
    · show n * (b * prdL (psOf zs)) ≤ 64
      rw [← Int.mul_assoc]; exact ih.2.2
theorem bpB_ok {zs : List (List Int)} (h : bpB zs = true) : PsOK 2000 (psOf zs) ∧ zs.length ≤ 6 := by
  simp only [bpB, Bool.and_eq_true, decide_eq_true_eq] at h
  have := pd_ok (by omega) (by omega) h.2
  exact ⟨⟨this.1, this.2.1, by have := this.2.2; omega⟩, h.1⟩
theorem psOf_at {zs : List (List Int)} {i : Nat} (h : i < zs.length) : pF (psOf zs) i = pairOf (zs.getD i []) := by simp [pF, psOf, List.getD, h]
theorem psOf_len (zs : List (List Int)) : (psOf zs).length = zs.length := by simp [psOf]
theorem pd_pairs : ∀ {zs : List (List Int)} {n : Int}, pdB n zs = true → ∀ z ∈ zs, pairB z = true
  | [], n, _ => by simp
  | z :: zs, n, h => by
    simp only [pdB, Bool.and_eq_true, decide_eq_true_eq] at h
    intro y hy
    rcases List.mem_cons.1 hy with rfl | hy
    · exact h.1
    · exact pd_pairs h.2.2 y hy
/-! ### The answer -/
def listsOf (ps : List (Int × Int)) : List (List Int) := ps.map fun p => [p.1, p.2]
def bqB (ps : List (Int × Int)) : Bool := brB (bpL ps) && decide (prL (ppF (bpL ps)) ps.length = listsOf ps)
def bqA (ps : List (Int × Int)) : List Int := if bqB ps then bpL ps else []
def bqC (ps : List (Int × Int)) : Int := if bqB ps then 0 else 5
def bpA (zs : List (List Int)) : List Int := if bpB zs then bqA (psOf zs) else []
def bpC (zs : List (List Int)) : Int := if bpB zs then bqC (psOf zs) else 2
theorem bq_yes {ps : List (Int × Int)} (h : bqB ps = true) : bqA ps = bpL ps ∧ bqC ps = 0 := by simp [bqA, bqC, h]
theorem bq_no {ps : List (Int × Int)} (h : bqB ps = false) : bqA ps = [] ∧ bqC ps = 5 := by simp [bqA, bqC, h]
theorem bp_no {zs : List (List Int)} (h : bpB zs = false) : bpA zs = [] ∧ bpC zs = 2 := by simp [bpA, bpC, h]
theorem bp_yes {zs : List (List Int)} (h : bpB zs = true) : bpA zs = bqA (psOf zs) ∧ bpC zs = bqC (psOf zs) := by simp [bpA, bpC, h]
theorem listsOf_prL (ps : List (Int × Int)) : listsOf ps = prL (pF ps) ps.length := by
  apply List.ext_getElem (by simp [listsOf, prL])
  intro i h1 h2
  have hi : i < ps.length := by simpa [listsOf] using h1
  simp [listsOf, prL, pF, List.getD, hi]
theorem prL_eq {f g : Nat → Int × Int} {n : Nat} : prL f n = prL g n ↔ ∀ i, i < n → f i = g i := by
  constructor
  · intro h i hi
    have e := congrArg (fun l => l.getD i []) h
    simp only [prL_at _ hi, List.cons.injEq, and_true] at e
    exact Prod.ext e.1 e.2
  · intro h
    unfold prL
    exact List.map_congr_left fun i hi => by rw [h i (List.mem_range.1 hi)]
theorem bqB_iff {ps : List (Int × Int)} : bqB ps = true ↔ brB (bpL ps) = true ∧ ∀ i, i < ps.length → ppF (bpL ps) i = pF ps i := by
  simp only [bqB, Bool.and_eq_true, decide_eq_true_eq, listsOf_prL, prL_eq]
theorem listsOf_psOf : ∀ {zs : List (List Int)}, (∀ z ∈ zs, pairB z = true) → listsOf (psOf zs) = zs
  | [], _ => rfl
  | z :: zs, h => by
    obtain ⟨a, b, rfl, _, _, e⟩ := pairB_form (h z (List.mem_cons_self ..))
    have ih := listsOf_psOf fun y hy => h y (List.mem_cons_of_mem _ hy)
    show [(pairOf [a, b]).1, (pairOf [a, b]).2] :: listsOf (psOf zs) = _
    rw [ih, e]
theorem bpA_len (zs : List (List Int)) (h : zs.length ≤ 1048576) : (bpA zs).length ≤ 1099511627776 := by
  unfold bpA bqA; split
  · split
    · rw [bpL_len, psOf_len]; omega
    · simp
  · simp
end Go.Proofs.Ytohbgfmjnanlkaa
/- Lists of two numbers as pairs: contract of impl.pairsOfLists. Conditions: stated at the theorem. -/
namespace Go.Proofs.Ytohbgfmjnanlkaa
open Go.ChangeShapes Go.WideShapes Go.ChangeAt Go.RowKit
set_option linter.unusedVariables false
set_option linter.unusedSimpArgs false

theorem pd_step {zs : List (List Int)} {n k : Nat} (hl : zs.length = n) (h : k < n) (y : Int) : pdB y (zs.drop k) = (pairB (zs.getD k []) && (decide (y * (pairOf (zs.getD k [])).2 ≤ 64) && pdB (y * (pairOf (zs.getD k [])).2) (zs.drop (k + 1)))) := by
  have h2 : k < zs.length := by omega
  have e : zs.drop k = zs.getD k [] :: zs.drop (k + 1) := by rw [List.drop_eq_getElem_cons h2]; simp [List.getD, h2]
  rw [e, pdB]
theorem pd_end {zs : List (List Int)} {n : Nat} (hl : zs.length = n) (y : Int) : pdB y (zs.drop n) = true := by rw [← hl, List.drop_length]; rfl
theorem list_two {z : List Int} (h : z.length = 2) : ∃ a b, z = [a, b] := by
  match z, h with
  | [a, b], _ => exact ⟨a, b, rfl⟩
theorem pairB_len {z : List Int} (h : z.length ≠ 2) : pairB z = false := by
  match z with
  | [] => rfl
  | [_] => rfl
  | [_, _] => simp at h
  | _ :: _ :: _ :: _ => rfl

end Go.Proofs.Ytohbgfmjnanlkaa
/- The product of second numbers, the model's: contract of spec.l03Pairs. Conditions: stated at the theorem. -/
namespace Go.Proofs.Ytohbgfmjnanlkaa
open Go.ChangeShapes Go.WideShapes Go.ChangeAt Go.RowKit
set_option linter.unusedVariables false
set_option linter.unusedSimpArgs false

/-- The product of the second numbers, or 0. -/
def pdV (zs : List (List Int)) : Int := if bpB zs then prdL (psOf zs) else 0
theorem pdV_no {zs : List (List Int)} (h : bpB zs = false) : pdV zs = 0 := by simp [pdV, h]
theorem pdV_yes {zs : List (List Int)} (h : bpB zs = true) : pdV zs = prdL (psOf zs) := by simp [pdV, h]
def PvAns (w : World) (zs : List (List Int)) (e : Ending) (w' : World) : Prop := e = .returned (.int .i64 (pdV zs)) ∧ Below w.heap.size w w'
theorem PvAns.mk {w w' : World} {zs : List (List Int)} {x : Int} (h : pdV zs = x) (hb : Below w.heap.size w w') : PvAns w zs (.returned (.int .i64 x)) w' := ⟨by rw [h], hb⟩

end Go.Proofs.Ytohbgfmjnanlkaa
/- Equal lists, the model's test: contract of spec.l01Same. Conditions: stated at each theorem. -/
namespace Go.Proofs.Ytohbgfmjnanlkaa
open Go.ChangeShapes Go.WideShapes Go.ChangeAt Go.RowKit
set_option linter.unusedVariables false

theorem same_not {p q : List Int} {k : Nat} (h : ¬ p[k]?.getD 0 = q[k]?.getD 0) : decide (p = q) = false := by
  rw [decide_eq_false_iff_not]; rintro rfl; exact h rfl
theorem same_len {p q : List Int} {n m : Nat} (h : p.length = n) (k : q.length = m) (hne : ¬ n = m) : decide (p = q) = false := by
  rw [decide_eq_false_iff_not]; rintro rfl; omega
theorem take_nextS {p q : List Int} {n k : Nat} (hp : p.length = n) (hq : q.length = n) (h : k < n) (ht : p.take k = q.take k) (he : p[k]?.getD 0 = q[k]?.getD 0) : p.take (k + 1) = q.take (k + 1) := by
  have h1 : k < p.length := by omega
  have h2 : k < q.length := by omega
  rw [List.take_succ_eq_append_getElem h1, List.take_succ_eq_append_getElem h2, ht]
  simp [h1, h2] at he
  rw [he]
theorem same_all {p q : List Int} {n : Nat} (hp : p.length = n) (hq : q.length = n) (ht : p.take n = q.take n) : decide (p = q) = true := by
  rw [List.take_of_length_le (by omega), List.take_of_length_le (by omega)] at ht
  simp [ht]

set_option maxRecDepth 100000 in
theorem l01Same_any (v u : Value) (p q : List Int) (w : World) (B B' : Nat) (hp : ReadI w B v p) (hq : ReadI w B' u q) (hn : p.length ≤ 1048576) (hm : q.length ≤ 1048576) (hwp : ∀ z ∈ p, (Lit.int .i64 z).wf = true) (hwq : ∀ z ∈ q, (Lit.int .i64 z).wf = true) :
    Calls Try.prog 122 #[v, u] w fun e w' => e = .returned (.bool (decide (p = q))) ∧ ∃ m, w' = w.drewN m := by
  obtain ⟨n, A, c, rfl, hr, HL⟩ := hp.split
  obtain ⟨m, A1, c1, rfl, hr1, HL1⟩ := hq.split
  rw [HL.out] at hn
  rw [HL1.out] at hm
  have H0 := Lib.hid hr
  have H1 := Lib.hid hr1
  have W0 := Lib.hid hwp
  have W1 := Lib.hid hwq
  clear hr hr1 hp hq hwp hwq
  obtain ⟨b, hb⟩ : ∃ b, b = decide (p = q) := ⟨_, rfl⟩
  rw [← hb]
  have HB := Lib.hid hb
  clear hb
  by_cases hnm : n = m
  rotate_left
  · have R : Hid (false = b) := Lib.hid (by rw [HB.out, same_len HL.out HL1.out hnm])
    have T : ((n : Int) == (m : Int)) = false := by simp; omega
    have T2 : ((n : Int) != (m : Int)) = true := by simp; omega
    clear hnm
    go_enter Try.func122, Try.ntmps122
    go_wp2
    go_ret
    exact ⟨ret_bool R.out, 0, rfl⟩
  subst hnm
  go_enter Try.func122, Try.ntmps122
  go_wp2
  go_loopw [5] (fun i wr => ∃ (k d : Nat), k ≤ n ∧ i = .int .i64 k ∧ wr = w.drewN d ∧ Hid (p.take k = q.take k)) (fun i _ => n - (intOf i).toNat)
  case atStart => exact ⟨0, 0, by omega, rfl, rfl, Lib.hid rfl⟩
  case round =>
    obtain ⟨k, d, hk, rfl, rfl, ht⟩ := hrel
    by_cases hlt : k < n
    · obtain ⟨a, rfl, _, hcell⟩ := H0.out.2 k hlt
      obtain ⟨a', rfl, _, hcell'⟩ := H1.out.2 k hlt
      rw [getD_opt] at hcell hcell'
      have hk0 : (0 : Int) ≤ (k : Int) := Int.natCast_nonneg _
      have hk1 : (k : Int) < (n : Int) := by omega
      by_cases he : p[k]?.getD 0 = q[k]?.getD 0
      · have HT : Hid (p.take (k + 1) = q.take (k + 1)) := Lib.hid (take_nextS HL.out HL1.out hlt ht.out he)
        have T : ((p[k]?.getD 0 : Int) != q[k]?.getD 0) = false := by simp [he]
        rw [he] at hcell
        clear he T
        go_wp2
        go_quiet (fail)
        go_wp2
        go_roundw
        case rel => exact ⟨k + 1, d + nq, by omega, by go_num, rfl, HT⟩
        case measure => simp [intOf]; omega
      · have R : Hid (false = b) := Lib.hid (by rw [HB.out, same_not he])
        have T : ((p[k]?.getD 0 : Int) != q[k]?.getD 0) = true := by simp [he]
        clear he
        go_wp2
        go_quiet (fail)
        go_wp2
        go_ret
        exact ⟨ret_bool R.out, d + nq, World.drewN_drewN _ _ _⟩
    · obtain rfl : k = n := by omega
      have R : Hid (true = b) := Lib.hid (by rw [HB.out, same_all HL.out HL1.out ht.out])
      go_wp2
      go_ret
      exact ⟨ret_bool R.out, d, rfl⟩
end Go.Proofs.Ytohbgfmjnanlkaa
/- Equal lists of lists, the model's test: contract of spec.l01Same2. Conditions: stated at each theorem. -/
namespace Go.Proofs.Ytohbgfmjnanlkaa
open Go.ChangeShapes Go.WideShapes Go.ChangeAt Go.RowKit
set_option linter.unusedVariables false
set_option linter.unusedSimpArgs false

theorem quietSame {v u : Value} {p q : List Int} {w : World} {B B' d k : Nat} {b : Bool} (hp : ReadI (w.drewN d) B v p) (hq : ReadI (w.drewN d) B' u q) (hn : p.length ≤ 1048576) (hm : q.length ≤ 1048576) (hwp : ∀ z ∈ p, (Lit.int .i64 z).wf = true) (hwq : ∀ z ∈ q, (Lit.int .i64 z).wf = true) (hb : decide (p = q) = b) :
    Calls Try.prog 122 #[v, u] (w.drewN (d + k)) fun e w'' => e = .returned (.bool b) ∧ ∃ m, w'' = w.drewN (d + m) := by
  subst hb
  refine (l01Same_any v u p q (w.drewN (d + k)) B B' hp hq hn hm hwp hwq).mono ?_
  rintro e w1 ⟨rfl, m, rfl⟩
  exact ⟨rfl, k + m, by rw [World.drewN_drewN, Nat.add_assoc]⟩
theorem rows_not {p q : List (List Int)} {k : Nat} (h : ¬ p.getD k [] = q.getD k []) : decide (p = q) = false := by
  rw [decide_eq_false_iff_not]; rintro rfl; exact h rfl
theorem rows_len {p q : List (List Int)} {n m : Nat} (h : p.length = n) (k : q.length = m) (hne : ¬ n = m) : decide (p = q) = false := by
  rw [decide_eq_false_iff_not]; rintro rfl; omega
theorem rows_next {p q : List (List Int)} {n k : Nat} (hp : p.length = n) (hq : q.length = n) (h : k < n) (ht : p.take k = q.take k) (he : p.getD k [] = q.getD k []) : p.take (k + 1) = q.take (k + 1) := by
  have h1 : k < p.length := by omega
  have h2 : k < q.length := by omega
  rw [List.take_succ_eq_append_getElem h1, List.take_succ_eq_append_getElem h2, ht]
  simp [List.getD, h1, h2] at he
  rw [he]
theorem rows_all {p q : List (List Int)} {n : Nat} (hp : p.length = n) (hq : q.length = n) (ht : p.take n = q.take n) : decide (p = q) = true := by
  rw [List.take_of_length_le (by omega), List.take_of_length_le (by omega)] at ht
  simp [ht]

end Go.Proofs.Ytohbgfmjnanlkaa
/- BranchOfPuiseux, the model's: contract. Conditions: stated at the theorem. -/
namespace Go.Proofs.Ytohbgfmjnanlkaa
open Go.ChangeShapes Go.WideShapes Go.ChangeAt Go.RowKit
set_option linter.unusedVariables false
set_option linter.unusedSimpArgs false

theorem prL_wf {zs : List Int} (hp : brB zs = true) : ∀ x ∈ prL (ppF zs) (zs.length - 1), x.length ≤ 1048576 ∧ ∀ z ∈ x, (Lit.int .i64 z).wf = true := by
  have HZ := dcB_range (brB_dcB hp)
  have HD := dvL_pos HZ (e := 0)
  intro x hx
  simp only [prL, List.mem_map, List.mem_range] at hx
  obtain ⟨i, hi, rfl⟩ := hx
  have hl := dvL_len 0 zs
  have h1 := HZ (zs[i + 1]?.getD 0) (by simp [show i + 1 < zs.length by omega])
  have h2 := HD ((dvL 0 zs)[i + 1]?.getD 0) (by simp [show i + 1 < (dvL 0 zs).length by omega])
  have h3 := HD ((dvL 0 zs)[i]?.getD 0) (by simp [show i < (dvL 0 zs).length by omega])
  have h4 := tdiv_range h1 h2.1
  have h5 := tdiv_range h3 h2.1
  refine ⟨by simp, fun z hz => ?_⟩
  simp only [ppF, List.mem_cons, List.not_mem_nil, or_false] at hz
  rcases hz with rfl | rfl
  · exact i64_wf (by omega) (by omega)
  · exact i64_wf (by omega) (by omega)

end Go.Proofs.Ytohbgfmjnanlkaa
/- Branches of Newton pairs: plain mathematics. Conditions: stated at each theorem. -/
namespace Go.Proofs.Ytohbgfmjnanlkaa
open Go.ChangeShapes Go.WideShapes Go.ChangeAt Go.RowKit
set_option linter.unusedVariables false
set_option linter.unusedSimpArgs false

/-- The Puiseux pairs of Newton pairs. -/
def qnL (b : Int) : List (Int × Int) → List (Int × Int)
  | [] => []
  | p :: r => (p.1 + b * p.2, p.2) :: qnL (p.1 + b * p.2) r
theorem qnL_len (b : Int) (ps : List (Int × Int)) : (qnL b ps).length = ps.length := by
  induction ps generalizing b with
  | nil => rfl
  | cons p r ih => simp [qnL, ih]
/-- The first number ahead of the pair with the index i. -/
def pvF (b : Int) (ps : List (Int × Int)) : Nat → Int
  | 0 => b
  | i + 1 => (pF (qnL b ps) i).1
theorem qn_at {ps : List (Int × Int)} : ∀ {b : Int} {i : Nat}, i < ps.length → pF (qnL b ps) i = ((pF ps i).1 + pvF b ps i * (pF ps i).2, (pF ps i).2) := by
  induction ps with
  | nil => intro b i h; simp at h
  | cons p r ih =>
    intro b i h
    cases i with
    | zero => simp [qnL, pF, pvF]
    | succ i =>
      have h2 : i < r.length := by simpa using h
      have e := ih (b := p.1 + b * p.2) h2
      have e1 : pF (qnL b (p :: r)) (i + 1) = pF (qnL (p.1 + b * p.2) r) i := by simp [qnL, pF]
      have e2 : pF (p :: r) (i + 1) = pF r i := by simp [pF]
      have e3 : pvF b (p :: r) (i + 1) = pvF (p.1 + b * p.2) r i := by
        cases i with
        | zero => simp [pvF, qnL, pF]
        | succ i => simp [pvF, qnL, pF]
      rw [e1, e, e2, e3]
theorem qn_prd (b : Int) : ∀ (ps : List (Int × Int)) (b : Int) (i : Nat), prdL ((qnL b ps).drop i) = prdL (ps.drop i)
  | [], b, i => by simp [qnL]
  | p :: r, b, 0 => by
    have := qn_prd b r (p.1 + b * p.2) 0
    simp only [List.drop_zero] at this ⊢
    rw [qnL, prdL, prdL, this]
  | p :: r, b, i + 1 => by simpa [qnL] using qn_prd b r (p.1 + b * p.2) i
theorem qn_bound : ∀ {ps : List (Int × Int)} {b : Int}, 0 ≤ b → (∀ p ∈ ps, 1 ≤ p.1 ∧ p.1 ≤ 2000) → (∀ p ∈ ps, 1 ≤ p.2) → ∀ q ∈ qnL b ps, 1 ≤ q.1 ∧ q.1 ≤ (b + 2000 * (ps.length : Int)) * prdL ps
  | [], b, hb, h1, h2 => by simp [qnL]
  | p :: r, b, hb, h1, h2 => by
    have hp1 := h1 p (List.mem_cons_self ..)
    have hp2 := h2 p (List.mem_cons_self ..)
    have hr := prdL_pos fun q hq => h2 q (List.mem_cons_of_mem _ hq)
    have hbp : 0 ≤ b * p.2 := Int.mul_nonneg hb (by omega)
    have hq0 : 0 ≤ p.1 + b * p.2 := by omega
    have ih := qn_bound hq0 (fun q hq => h1 q (List.mem_cons_of_mem _ hq)) (fun q hq => h2 q (List.mem_cons_of_mem _ hq))
    have hle : p.1 + b * p.2 ≤ (b + 2000) * p.2 := by
      have := Int.mul_le_mul_of_nonneg_left hp2 (show (0 : Int) ≤ 2000 by omega)
      rw [Int.add_mul]; omega
    have hlen : (0 : Int) ≤ 2000 * (r.length : Int) := by omega
    have hlr : 2000 * (r.length : Int) ≤ 2000 * (r.length : Int) * p.2 := by
      have := Int.mul_le_mul_of_nonneg_left hp2 hlen; omega
    have hall : (p.1 + b * p.2 + 2000 * (r.length : Int)) * prdL r ≤ (b + 2000 * ((p :: r).length : Int)) * prdL (p :: r) := by
      have e1 : (b + 2000 * ((p :: r).length : Int)) * prdL (p :: r) = ((b + 2000) * p.2 + 2000 * (r.length : Int) * p.2) * prdL r := by
        rw [prdL, ← Int.mul_assoc, ← Int.add_mul]
        congr 2
        simp [List.length_cons]; omega
      rw [e1]
      exact Int.mul_le_mul_of_nonneg_right (by omega) (by omega)
    have hone : p.1 + b * p.2 ≤ (p.1 + b * p.2 + 2000 * (r.length : Int)) * prdL r := by
      have := Int.mul_le_mul_of_nonneg_left hr (show 0 ≤ p.1 + b * p.2 + 2000 * (r.length : Int) by omega)
      omega
    intro q hq
    rcases List.mem_cons.1 (show q ∈ (p.1 + b * p.2, p.2) :: qnL (p.1 + b * p.2) r from hq) with rfl | hq
    · exact ⟨by show 1 ≤ p.1 + b * p.2; omega, by show p.1 + b * p.2 ≤ _; omega⟩
    · have := ih q hq; exact ⟨this.1, by omega⟩
theorem qn_second : ∀ {ps : List (Int × Int)} {b : Int}, (∀ p ∈ ps, 1 ≤ p.2) → ∀ q ∈ qnL b ps, 1 ≤ q.2
  | [], b, h => by simp [qnL]
  | p :: r, b, h => by
    intro q hq
    rcases List.mem_cons.1 (show q ∈ (p.1 + b * p.2, p.2) :: qnL (p.1 + b * p.2) r from hq) with rfl | hq
    · exact h p (List.mem_cons_self ..)
    · exact qn_second (fun q hq => h q (List.mem_cons_of_mem _ hq)) q hq
theorem qn_ok {ps : List (Int × Int)} (h : PsOK 2000 ps) (hl : ps.length ≤ 6) : PsOK 1000000 (qnL 0 ps) := by
  have hp : prdL (qnL 0 ps) = prdL ps := by simpa using qn_prd 0 ps 0 0
  refine ⟨fun q hq => ?_, qn_second h.second, by rw [hp]; exact h.prod⟩
  have h1 := qn_bound (Int.le_refl 0) h.first h.second q hq
  have h2 := prdL_pos h.second
  have h3 := h.prod
  have h4 := Int.mul_le_mul (show 0 + 2000 * (ps.length : Int) ≤ 12000 by omega) h3 (by omega) (by omega)
  omega
/-- The next term: the one before, and the first number times the second ones behind it. -/
theorem qn_term {ps : List (Int × Int)} {i : Nat} (h : i < ps.length) : tmF (qnL 0 ps) i = pvF 0 ps i * prdL (ps.drop i) + (pF ps i).1 * prdL (ps.drop (i + 1)) := by
  rw [tmF, qn_at h, qn_prd 0, prdL_drop h]
  show ((pF ps i).1 + pvF 0 ps i * (pF ps i).2) * prdL (ps.drop (i + 1)) = _
  rw [Int.add_mul, Int.mul_assoc, Int.add_comm]
theorem qn_prev {ps : List (Int × Int)} {i : Nat} (h : i < ps.length) : pvF 0 ps (i + 1) * prdL (ps.drop (i + 1)) = tmF (qnL 0 ps) i := by
  rw [tmF, pvF, qn_prd 0]
/-! ### The divisors of a branch of pairs -/
theorem dvL_dvd : ∀ {zs : List Int} {e : Int} {i : Nat}, i + 1 < zs.length → (dvL e zs)[i + 1]?.getD 0 ∣ (dvL e zs)[i]?.getD 0
  | [], e, i, h => by simp at h
  | [z], e, i, h => by simp at h
  | z :: y :: r, e, 0, h => by
    simp only [dvL, List.getElem?_cons_succ, List.getElem?_cons_zero, Option.getD_some]
    exact Int.gcd_dvd_left ..
  | z :: y :: r, e, i + 1, h => by
    have h2 : i + 1 < (y :: r).length := by simpa using h
    have := dvL_dvd (e := (Int.gcd e z : Int)) h2
    simpa [dvL] using this
theorem dv_last {zs : List Int} (hp : brB zs = true) : (dvL 0 zs)[zs.length - 1]?.getD 0 = 1 := by
  have h1 := brB_dcB hp
  have h0 := brB_pos hp
  match zs, h0 with
  | n :: r, _ =>
    rw [dcB_split] at h1
    simp only [Bool.and_eq_true, decide_eq_true_eq] at h1
    have h2 := last_at (L := dvL 0 (n :: r)) (n := (n :: r).length) (dvL_len _ _) (by simp)
    rw [h1.2.2.2] at h2
    exact (Option.some.inj h2).symm
/-- Where the second numbers are those of the branch, so are the divisors. -/
theorem dv_pairs {qs : List (Int × Int)} (hp : brB (bpL qs) = true) (h : ∀ i, i < qs.length → ((dvL 0 (bpL qs))[i]?.getD 0).tdiv ((dvL 0 (bpL qs))[i + 1]?.getD 0) = (pF qs i).2) :
    ∀ k i, i + k = qs.length → (dvL 0 (bpL qs))[i]?.getD 0 = prdL (qs.drop i) := by
  intro k
  induction k with
  | zero =>
    intro i hi
    have h1 := dv_last hp
    rw [bpL_len] at h1
    rw [show i = qs.length by omega, List.drop_length]
    simpa [prdL] using h1
  | succ k ih =>
    intro i hi
    have hi' : i < qs.length := by omega
    have h2 := ih (i + 1) (by omega)
    have h3 := h i hi'
    have h4 : (dvL 0 (bpL qs))[i + 1]?.getD 0 ∣ (dvL 0 (bpL qs))[i]?.getD 0 := dvL_dvd (by rw [bpL_len]; omega)
    rw [prdL_drop hi', ← h2, ← h3]
    exact (Int.tdiv_mul_cancel h4).symm
theorem bp_at {qs : List (Int × Int)} {i : Nat} (h : i < qs.length) : (bpL qs)[i + 1]?.getD 0 = tmF qs i := by
  have := tmL_at h
  simp only [bpL, List.getElem?_cons_succ]
  simpa [List.getD] using this
/-- The two tests are one. -/
theorem bn_same {ps : List (Int × Int)} (hok : PsOK 2000 ps) (hp : brB (bpL (qnL 0 ps)) = true) :
    (∀ i, i < ps.length → ppF (bpL (qnL 0 ps)) i = pF (qnL 0 ps) i) ↔ ∀ i, i < ps.length → npF (bpL (qnL 0 ps)) i = pF ps i := by
  have hl := qnL_len 0 ps
  have key : (∀ i, i < (qnL 0 ps).length → ((dvL 0 (bpL (qnL 0 ps)))[i]?.getD 0).tdiv ((dvL 0 (bpL (qnL 0 ps)))[i + 1]?.getD 0) = (pF (qnL 0 ps) i).2) → ∀ i, i < ps.length → (dvL 0 (bpL (qnL 0 ps)))[i + 1]?.getD 0 = prdL (ps.drop (i + 1)) := by
    intro h i hi
    rw [dv_pairs hp h (ps.length - (i + 1)) (i + 1) (by omega), qn_prd 0]
  constructor
  · intro h i hi
    have hs : ∀ i, i < (qnL 0 ps).length → ((dvL 0 (bpL (qnL 0 ps)))[i]?.getD 0).tdiv ((dvL 0 (bpL (qnL 0 ps)))[i + 1]?.getD 0) = (pF (qnL 0 ps) i).2 := fun i hi => by
      rw [← h i (by omega)]; rfl
    have hd := key hs i hi
    have he := (hok.e (i + 1)).1
    refine Prod.ext ?_ ?_
    · show ((bpL (qnL 0 ps))[i + 1]?.getD 0 - if i = 0 then 0 else (bpL (qnL 0 ps))[i]?.getD 0).tdiv ((dvL 0 (bpL (qnL 0 ps)))[i + 1]?.getD 0) = (pF ps i).1
      rw [hd, bp_at (by omega), qn_term hi]
      have e1 : (if i = 0 then 0 else (bpL (qnL 0 ps))[i]?.getD 0) = pvF 0 ps i * prdL (ps.drop i) := by
        cases i with
        | zero => simp [pvF]
        | succ i => rw [if_neg (by omega), bp_at (by omega), qn_prev (by omega)]
      rw [e1, Int.add_comm, Int.add_sub_cancel]
      exact Int.mul_tdiv_cancel _ (by omega)
    · show ((dvL 0 (bpL (qnL 0 ps)))[i]?.getD 0).tdiv ((dvL 0 (bpL (qnL 0 ps)))[i + 1]?.getD 0) = (pF ps i).2
      rw [hs i (by omega), qn_at hi]
  · intro h i hi
    have hs : ∀ i, i < (qnL 0 ps).length → ((dvL 0 (bpL (qnL 0 ps)))[i]?.getD 0).tdiv ((dvL 0 (bpL (qnL 0 ps)))[i + 1]?.getD 0) = (pF (qnL 0 ps) i).2 := fun i hi => by
      have h1 := congrArg Prod.snd (h i (by omega))
      rw [qn_at (by omega)]
      exact h1
    have hd := key hs i hi
    have he := (hok.e (i + 1)).1
    refine Prod.ext ?_ ?_
    · show ((bpL (qnL 0 ps))[i + 1]?.getD 0).tdiv ((dvL 0 (bpL (qnL 0 ps)))[i + 1]?.getD 0) = (pF (qnL 0 ps) i).1
      rw [hd, bp_at (by omega), tmF, qn_prd 0]
      exact Int.mul_tdiv_cancel _ (by omega)
    · show ((dvL 0 (bpL (qnL 0 ps)))[i]?.getD 0).tdiv ((dvL 0 (bpL (qnL 0 ps)))[i + 1]?.getD 0) = (pF (qnL 0 ps) i).2
      exact hs i (by omega)
/-! ### The answer -/
def bnA (zs : List (List Int)) : List Int := if bpB zs then bqA (qnL 0 (psOf zs)) else []
def bnC (zs : List (List Int)) : Int := if bpB zs then bqC (qnL 0 (psOf zs)) else 2
theorem bn_no {zs : List (List Int)} (h : bpB zs = false) : bnA zs = [] ∧ bnC zs = 2 := by simp [bnA, bnC, h]
theorem bn_yes {zs : List (List Int)} (h : bpB zs = true) : bnA zs = bqA (qnL 0 (psOf zs)) ∧ bnC zs = bqC (qnL 0 (psOf zs)) := by simp [bnA, bnC, h]
theorem bn_bq {zs : List (List Int)} (h : bpB zs = true) (hp : brB (bpL (qnL 0 (psOf zs))) = true) : bqB (qnL 0 (psOf zs)) = decide (prL (npF (bpL (qnL 0 (psOf zs)))) zs.length = zs) := by
  have hz : ∀ z ∈ zs, pairB z = true := by simp only [bpB, Bool.and_eq_true] at h; exact pd_pairs h.2
  have h1 := bn_same (bpB_ok h).1 hp
  rw [Bool.eq_iff_iff, bqB_iff, decide_eq_true_eq]
  have h2 : prL (npF (bpL (qnL 0 (psOf zs)))) zs.length = zs ↔ ∀ i, i < (psOf zs).length → npF (bpL (qnL 0 (psOf zs))) i = pF (psOf zs) i := by
    have e := listsOf_psOf hz
    rw [listsOf_prL] at e
    rw [← prL_eq, psOf_len, ← psOf_len zs]
    constructor
    · intro h; rw [h, e]
    · intro h; rw [h, e]
  rw [h2, ← h1, qnL_len]
  simp [hp]
theorem bnA_len (zs : List (List Int)) (h : zs.length ≤ 1048576) : (bnA zs).length ≤ 1099511627776 := by
  unfold bnA bqA; split
  · split
    · rw [bpL_len, qnL_len, psOf_len]; omega
    · simp
  · simp
end Go.Proofs.Ytohbgfmjnanlkaa
/- BranchOfNewton, the model's: contract. Conditions: stated at the theorem. -/
namespace Go.Proofs.Ytohbgfmjnanlkaa
open Go.ChangeShapes Go.WideShapes Go.ChangeAt Go.RowKit
set_option linter.unusedVariables false
set_option linter.unusedSimpArgs false

theorem prL_wfN {zs : List Int} (hp : brB zs = true) : ∀ x ∈ prL (npF zs) (zs.length - 1), x.length ≤ 1048576 ∧ ∀ z ∈ x, (Lit.int .i64 z).wf = true := by
  have HZ := dcB_range (brB_dcB hp)
  have HD := dvL_pos HZ (e := 0)
  intro x hx
  simp only [prL, List.mem_map, List.mem_range] at hx
  obtain ⟨i, hi, rfl⟩ := hx
  have hl := dvL_len 0 zs
  have h1 := HZ (zs[i + 1]?.getD 0) (by simp [show i + 1 < zs.length by omega])
  have h0 := HZ (zs[i]?.getD 0) (by simp [show i < zs.length by omega])
  have h2 := HD ((dvL 0 zs)[i + 1]?.getD 0) (by simp [show i + 1 < (dvL 0 zs).length by omega])
  have h3 := HD ((dvL 0 zs)[i]?.getD 0) (by simp [show i < (dvL 0 zs).length by omega])
  have h5 := tdiv_range h3 h2.1
  refine ⟨by simp, fun z hz => ?_⟩
  simp only [npF, List.mem_cons, List.not_mem_nil, or_false] at hz
  rcases hz with rfl | rfl
  · have h6 := natAbs_le9 (zs[i + 1]?.getD 0 - if i = 0 then 0 else zs[i]?.getD 0) ((dvL 0 zs)[i + 1]?.getD 0)
    have h7 : (zs[i + 1]?.getD 0 - if i = 0 then 0 else zs[i]?.getD 0).natAbs ≤ 2000 := by split <;> omega
    exact i64_wf (by omega) (by omega)
  · exact i64_wf (by omega) (by omega)

end Go.Proofs.Ytohbgfmjnanlkaa
