/- ZC: RowQ Pr PrI PrL PrQ PrS PrN PrM BpE BpA BpL BpS Same Same2 BpM BnA BnM. Conditions: stated at each theorem. -/
import Derived.Test.YtoebbhicffgdgaaZA
import Derived.Test.YtoebbhicffgdgaaZB
import Derived.Maps.AppendAt
import Derived.Deep.AppendLies
import Derived.Laws.StructEq
import Derived.Laws.Cover2
/- A list of lists that grows by one, and a number of it that is written: words. Conditions: stated at each theorem. -/
namespace Go.Proofs.Ytoebbhicffgdgaa
open Go.ChangeShapes Go.WideShapes Go.ChangeAt Go.RowKit
set_option linter.unusedVariables false
set_option linter.unusedSimpArgs false

theorem list2R {w : World} {lo : Nat} (hlo : lo ≤ w.heap.size) (a b : Int) : OwnI (w.alloc (.cells #[.int .i64 a, .int .i64 b] 2)) lo (w.alloc (.cells #[.int .i64 a, .int .i64 b] 2)).heap.size (.slice (some ⟨w.heap.size, 0, none⟩) 2 2) [a, b] :=
  OwnI.mk' (n := 2) (World.ownsRow_lit (base := lo) w #[.int .i64 a, .int .i64 b] 2 (e := 2) (size := 1) hlo (by simp [maxLen]) rfl)
theorem kept_boxR (w : World) (o : Obj) (lo hi : Nat) (h : hi ≤ w.heap.size) : Kept lo hi w (w.alloc o) := Kept.of_below (below_box2 w o) h
theorem rows_snocR {wr w1 w2 : World} {lo k g2 cap2 l h : Nat} {v u : Value} {us : List Value} {ls hs : Nat → Nat} {L : List (List Int)} {zs : List Int}
    (hr : Rows2 wr lo wr.heap.size v k us ls hs (fun i l h u => OwnI wr l h u (L.getD i []))) (hL : L.length = k) (hlo : lo ≤ wr.heap.size)
    (hw1 : Below wr.heap.size wr w1) (hu : OwnI w1 l h u zs) (hl : wr.heap.size ≤ l) (hh : h ≤ w1.heap.size)
    (hown : w2.ownsRow lo 24 1 (.slice (some ⟨g2, 0, none⟩) (k + 1) cap2) (k + 1) (us ++ [u])) (hgrow : w1.grownBy w2 v.ownBlock)
    (hg : v.ownBlock = some g2 ∨ g2 = w1.heap.size) (hg2 : g2 < w2.heap.size) :
    OwnQ w2 lo w2.heap.size (.slice (some ⟨g2, 0, none⟩) (k + 1) cap2) (L ++ [zs]) := by
  obtain ⟨r1, r2, r3, r4, r5⟩ := hr
  have hlen : (L ++ [zs]).length = k + 1 := by simp [hL]
  have hus : us.length = k := by have := r1.1; omega
  have hs1 := hw1.size
  have hs2 := hgrow.size
  refine ⟨us ++ [u], (fun i => if i = k then l else ls i), (fun i => if i = k then h else hs i), ?_⟩
  rw [hlen]
  refine ⟨hown, fun kb hkb => ?_, Nat.le_refl _, fun i hi => ?_, fun i j hij hj => ?_⟩
  · obtain rfl : g2 = kb := by simpa [Value.ownBlock] using hkb
    refine ⟨hg2, fun i hi => ?_⟩
    by_cases h1 : i = k
    · simp only [if_pos h1]
      rcases hg with h | h
      · have := (r2 _ h).1; exact Or.inl (by omega)
      · exact Or.inr (by omega)
    · simp only [if_neg h1]
      rcases hg with h | h
      · exact (r2 _ h).2 i (by omega)
      · have := (r4 i (by omega)).2.1; exact Or.inr (by omega)
  · by_cases h1 : i = k
    · subst h1
      simp only [if_true]
      have e1 : (us ++ [u]).getD i undef = u := by simp [List.getD, ← hus]
      have e2 : (L ++ [zs]).getD i [] = zs := by simp [List.getD, ← hL]
      refine ⟨by omega, by omega, ?_⟩
      show OwnI w2 l h ((us ++ [u]).getD i undef) ((L ++ [zs]).getD i [])
      rw [e1, e2]
      refine hu.kept ⟨hs2, fun b h1 h2 => hgrow.block b (by omega) (fun e => ?_)⟩
      have := (r2 b e.symm).1; omega
    · simp only [if_neg h1]
      have h4 := r4 i (by omega)
      have e1 : (us ++ [u]).getD i undef = us.getD i undef := by simp [List.getD, List.getElem?_append_left (show i < us.length by omega)]
      have e2 : (L ++ [zs]).getD i [] = L.getD i [] := by simp [List.getD, List.getElem?_append_left (show i < L.length by omega)]
      refine ⟨h4.1, by omega, ?_⟩
      show OwnI w2 (ls i) (hs i) ((us ++ [u]).getD i undef) ((L ++ [zs]).getD i [])
      rw [e1, e2]
      refine OwnI.kept h4.2.2 ⟨by omega, fun b h1 h2 => (hgrow.block b (by omega) (fun e => ?_)).trans (hw1.block b (by omega))⟩
      have := (r2 b e.symm).2 i (by omega); omega
  · by_cases h1 : j = k
    · simp only [if_pos h1, if_neg (show ¬ i = k by omega)]
      have := (r4 i (by omega)).2.1
      exact Or.inl (by omega)
    · simp only [if_neg h1, if_neg (show ¬ i = k by omega)]
      exact r5 i j hij (by omega)
theorem ownQ_newR (w : World) (lo : Nat) (h : lo ≤ w.heap.size) : OwnQ (w.alloc (.cells #[] 24)) lo (w.alloc (.cells #[] 24)).heap.size (.slice (some ⟨w.heap.size, 0, none⟩) 0 0) [] :=
  ⟨[], fun _ => 0, fun _ => 0, World.ownsRow_lit (base := lo) w #[] 0 (e := 24) (size := 1) h (by simp [maxLen]) rfl, fun k hk => by cases hk; exact ⟨by simp, fun i hi => by simp at hi⟩, Nat.le_refl _, fun i hi => by simp at hi, fun i j _ hj => by simp at hj⟩

theorem wpList_append_liesR {P : Program} {w : World} {ops : Array Oper} {rest : List Oper} {o : Oper} {a : Act} {Q : Exit → Act → World → Prop} (hgd : o.guard = none) (s x : Operand) (t : TypeId)
    (ho : o.op = .call { callee := .builtin .append, args := #[s, x], argTypes := #[t, t] })
    (base : Nat) (e : TypeId) (i : TypeInfo) (z : Value) (size bytes : Nat) (ht : P.underlying t = some (.slice e)) (hi : P.info? e = some i) (hz : i.zero = some z)
    (hsize : i.size = size) (hby : i.bytes = bytes) (hzs : z.cells.size = size) (hsz : 0 < size)
    (v : Value) (n : Nat) (xs : List Value) (hs : a.eval s = v) (hown : w.ownsRow base e size v n xs)
    (ad : Addr) (m c : Nat) (news : List Value) (hx : a.eval x = .slice (some ad) m c) (hl : news.length = m * size) (hnews : ∀ j u, news[j]? = some u → w.cell? (ad.add j) = some u) (h1 : ∀ u ∈ news, u.oneCell' = true)
    (hm : 0 < m) (h63 : n + m ≤ maxLen) (hbytes : (n + m) * bytes ≤ 140737488355328) (hbase : base ≤ w.heap.size)
    (h : ∀ g cap w', w'.ownsRow base e size (.slice (some ⟨g, 0, none⟩) (n + m) cap) (n + m) (xs ++ news) → w.grownBy w' v.ownBlock → (v.ownBlock = some g ∨ g = w.heap.size) → g < w'.heap.size → wpList P ops Q rest (a.put o.dst (.slice (some ⟨g, 0, none⟩) (n + m) cap)) w') : wpList P ops Q (o :: rest) a w :=
  wpList_plain hgd fun _ hK => wp_append_lies w s x t ho base e i z size bytes ht hi hz hsize hby hzs hsz v n xs hs hown ad m c news hx hl hnews h1 hm h63 hbytes hbase w.heap.size rfl fun g cap w' h2 h3 h4 h5 => hK _ _ (h g cap w' h2 h3 h4 h5)

theorem ints_infoR : (Try.prog.info? 24).map (fun i => (i.zero, i.size, i.bytes)) = some (some (.slice none 0 0), 1, 24) := by kernel_rfl
/-- Where the cells of a list of lists lie. -/
theorem rows_at {w : World} {lo hi n c i j : Nat} {A : Option Addr} {L : List (List Int)} (h : OwnQ w lo hi (.slice A n c) L) (hL : L.length = n) (hi' : i < n) (hj : j < (L.getD i []).length) :
    ∃ go gi ci, A = some ⟨go, 0, none⟩ ∧ lo ≤ go ∧ go < hi ∧ w.cell? ⟨go, i, none⟩ = some (.slice (some ⟨gi, 0, none⟩) (L.getD i []).length ci) ∧ lo ≤ gi ∧ gi < hi ∧ w.cell? ⟨gi, j, none⟩ = some (.int .i64 ((L.getD i [])[j]?.getD 0)) ∧ w.frozen? ⟨gi, j, none⟩ = false := by
  subst hL
  obtain ⟨us, ls, hs, r1, r2, r3, r4, r5⟩ := h
  have h4 := r4 i hi'
  obtain ⟨gA, cA, eA⟩ := own_form h4.2.2.1
  have h5 := h4.2.2
  rw [eA] at h5
  obtain ⟨gi, e1, h6, h7, h8, h9⟩ := own_at h5 rfl hj
  subst e1
  rcases r1.2 with ⟨e, e0⟩ | ⟨go, cap, cur, e, hb, hg, hnc, hcm, hcs, hcur⟩
  · omega
  · simp only [Value.slice.injEq] at e
    obtain ⟨rfl, _, rfl⟩ := e
    refine ⟨go, gi, cA, rfl, hb, (r2 go rfl).1, ?_, by omega, by omega, h8, h9⟩
    rw [World.ownsRow.cellAt r1 i (by omega)]
    have hus : us.length = L.length := by have := r1.1; omega
    have : us[i]? = some (us.getD i undef) := by simp [List.getD, show i < us.length by omega]
    rw [this, eA]
/-- A number of a list of lists is written. -/
theorem rows_set {w : World} {lo hi n c i j gi : Nat} {A : Option Addr} {L : List (List Int)} {ci : Nat} (h : OwnQ w lo hi (.slice A n c) L) (hL : L.length = n) (hi' : i < n) (hc : ∀ go, A = some ⟨go, 0, none⟩ → w.cell? ⟨go, i, none⟩ = some (.slice (some ⟨gi, 0, none⟩) (L.getD i []).length ci)) (z : Int) :
    OwnQ (w.setCell ⟨gi, j, none⟩ (.int .i64 z)) lo hi (.slice A n c) (L.set i ((L.getD i []).set j z)) := by
  subst hL
  obtain ⟨us, ls, hs, r1, r2, r3, r4, r5⟩ := h
  have hus : us.length = L.length := by have := r1.1; omega
  have hui : us.getD i undef = .slice (some ⟨gi, 0, none⟩) (L.getD i []).length ci := by
    rcases r1.2 with ⟨e, e0⟩ | ⟨go, cap, cur, e, hb, hg, _⟩
    · omega
    · simp only [Value.slice.injEq] at e
      obtain ⟨rfl, _, rfl⟩ := e
      have h1 := hc go rfl
      rw [World.ownsRow.cellAt r1 i (by omega)] at h1
      simp [List.getD, h1]
  have h4 := r4 i hi'
  have h5 := h4.2.2
  rw [hui] at h5
  have hgl : ls i ≤ gi ∧ gi < hs i := ⟨(h5.1.lt gi rfl).1, h5.2.1 gi rfl⟩
  have hk : ∀ b, b ≠ gi → (w.setCell ⟨gi, j, none⟩ (.int .i64 z)).heap[b]? = w.heap[b]? := fun b hb => Below.heap_setCell _ _ _ _ (fun e => hb (by simpa using e))
  have hsz : (w.setCell ⟨gi, j, none⟩ (.int .i64 z)).heap.size = w.heap.size := by simp [World.setCell]
  have hlen : (L.set i ((L.getD i []).set j z)).length = L.length := by simp
  refine ⟨us, ls, hs, ?_⟩
  rw [hlen]
  refine ⟨?_, r2, by rw [hsz]; exact r3, fun m hm => ?_, r5⟩
  · refine World.ownsRow.kept r1 (grown_setCell (a := w) (g := gi) ⟨rfl, rfl, rfl, Nat.le_refl _, fun _ _ _ => rfl⟩ rfl _) (.inr fun e => ?_)
    have := (r2 gi e).2 i hi'
    omega
  · by_cases hmi : m = i
    · subst hmi
      have e2 : (L.set m ((L.getD m []).set j z)).getD m [] = (L.getD m []).set j z := by simp [List.getD, hm]
      refine ⟨h4.1, h4.2.1, ?_⟩
      show OwnI _ (ls m) (hs m) (us.getD m undef) ((L.set m ((L.getD m []).set j z)).getD m [])
      rw [e2, hui]
      have h6 := own_store (j := j) h5 rfl z
      simpa using h6
    · have e2 : (L.set i ((L.getD i []).set j z)).getD m [] = L.getD m [] := by simp [List.getD, List.getElem?_set_ne (fun e => hmi e.symm)]
      have h6 := r4 m hm
      refine ⟨h6.1, h6.2.1, ?_⟩
      show OwnI _ (ls m) (hs m) (us.getD m undef) ((L.set i ((L.getD i []).set j z)).getD m [])
      rw [e2]
      refine OwnI.kept h6.2.2 ⟨by rw [hsz]; exact Nat.le_refl _, fun b h7 h8 => hk b fun e => ?_⟩
      rcases Nat.lt_or_ge m i with h9 | h9
      · have := r5 m i h9 hi'; omega
      · have := r5 i m (by omega) hm; omega
end Go.Proofs.Ytoebbhicffgdgaa
/- Slices of pairs of int64 that a call has made: words. Conditions: stated at each theorem. -/
namespace Go.Proofs.Ytoebbhicffgdgaa
open Go.ChangeShapes Go.WideShapes Go.ChangeAt Go.RowKit
set_option linter.unusedVariables false
set_option linter.unusedSimpArgs false

/-- The cells of a list of pairs, given by a function. -/
def pv (f : Nat → Int × Int) (j : Nat) : Value := .int .i64 (if j % 2 = 0 then (f (j / 2)).1 else (f (j / 2)).2)
/-- The Puiseux pair with the index i. -/
def ppF (zs : List Int) (i : Nat) : Int × Int := ((zs[i + 1]?.getD 0).tdiv ((dvL 0 zs)[i + 1]?.getD 0), ((dvL 0 zs)[i]?.getD 0).tdiv ((dvL 0 zs)[i + 1]?.getD 0))
end Go.Proofs.Ytoebbhicffgdgaa
/- The program's Puiseux pairs of a branch: contract of (impl.Branch).puiseuxPairs. Conditions: stated at the theorem. -/
namespace Go.Proofs.Ytoebbhicffgdgaa
open Go.ChangeShapes Go.WideShapes Go.ChangeAt Go.RowKit
set_option linter.unusedVariables false
set_option linter.unusedSimpArgs false

end Go.Proofs.Ytoebbhicffgdgaa
/- Pairs as lists of two numbers: contract of impl.listsOfPairs. Conditions: stated at the theorem. -/
namespace Go.Proofs.Ytoebbhicffgdgaa
open Go.ChangeShapes Go.WideShapes Go.ChangeAt Go.RowKit
set_option linter.unusedVariables false
set_option linter.unusedSimpArgs false

def prL (f : Nat → Int × Int) (n : Nat) : List (List Int) := (List.range n).map fun i => [(f i).1, (f i).2]
theorem prL_len (f : Nat → Int × Int) (n : Nat) : (prL f n).length = n := by simp [prL]
theorem prL_at (f : Nat → Int × Int) {n i : Nat} (h : i < n) : (prL f n).getD i [] = [(f i).1, (f i).2] := by simp [prL, List.getD, h]
theorem list2 {w : World} {lo : Nat} (hlo : lo ≤ w.heap.size) (a b : Int) : OwnI (w.alloc (.cells #[.int .i64 a, .int .i64 b] 2)) lo (w.alloc (.cells #[.int .i64 a, .int .i64 b] 2)).heap.size (.slice (some ⟨w.heap.size, 0, none⟩) 2 2) [a, b] :=
  OwnI.mk' (n := 2) (World.ownsRow_lit (base := lo) w #[.int .i64 a, .int .i64 b] 2 (e := 2) (size := 1) hlo (by simp [maxLen]) rfl)
theorem kept_box (w : World) (o : Obj) (lo hi : Nat) (h : hi ≤ w.heap.size) : Kept lo hi w (w.alloc o) := Kept.of_below (below_box2 w o) h
theorem slice_infoP : (Try.prog.info? 24).map (fun i => (i.zero, i.size, i.bytes)) = some (some (.slice none 0 0), 1, 24) := by kernel_rfl

end Go.Proofs.Ytoebbhicffgdgaa
/- A list of lists that grows by one: words. Conditions: stated at each theorem. -/
namespace Go.Proofs.Ytoebbhicffgdgaa
open Go.ChangeShapes Go.WideShapes Go.ChangeAt Go.RowKit
set_option linter.unusedVariables false
set_option linter.unusedSimpArgs false

theorem rows_snoc {wr w1 w2 : World} {lo k g2 cap2 l h : Nat} {v u : Value} {us : List Value} {ls hs : Nat → Nat} {L : List (List Int)} {zs : List Int}
    (hr : Rows2 wr lo wr.heap.size v k us ls hs (fun i l h u => OwnI wr l h u (L.getD i []))) (hL : L.length = k) (hlo : lo ≤ wr.heap.size)
    (hw1 : Below wr.heap.size wr w1) (hu : OwnI w1 l h u zs) (hl : wr.heap.size ≤ l) (hh : h ≤ w1.heap.size)
    (hown : w2.ownsRow lo 24 1 (.slice (some ⟨g2, 0, none⟩) (k + 1) cap2) (k + 1) (us ++ [u])) (hgrow : w1.grownBy w2 v.ownBlock)
    (hg : v.ownBlock = some g2 ∨ g2 = w1.heap.size) (hg2 : g2 < w2.heap.size) :
    OwnQ w2 lo w2.heap.size (.slice (some ⟨g2, 0, none⟩) (k + 1) cap2) (L ++ [zs]) := by
  obtain ⟨r1, r2, r3, r4, r5⟩ := hr
  have hlen : (L ++ [zs]).length = k + 1 := by simp [hL]
  have hus : us.length = k := by have := r1.1; omega
  have hs1 := hw1.size
  have hs2 := hgrow.size
  refine ⟨us ++ [u], (fun i => if i = k then l else ls i), (fun i => if i = k then h else hs i), ?_⟩
  rw [hlen]
  refine ⟨hown, fun kb hkb => ?_, Nat.le_refl _, fun i hi => ?_, fun i j hij hj => ?_⟩
  · obtain rfl : g2 = kb := by simpa [Value.ownBlock] using hkb
    refine ⟨hg2, fun i hi => ?_⟩
    by_cases h1 : i = k
    · simp only [if_pos h1]
      rcases hg with h | h
      · have := (r2 _ h).1; exact Or.inl (by omega)
      · exact Or.inr (by omega)
    · simp only [if_neg h1]
      rcases hg with h | h
      · exact (r2 _ h).2 i (by omega)
      · have := (r4 i (by omega)).2.1; exact Or.inr (by omega)
  · by_cases h1 : i = k
    · subst h1
      simp only [if_true]
      have e1 : (us ++ [u]).getD i undef = u := by simp [List.getD, ← hus]
      have e2 : (L ++ [zs]).getD i [] = zs := by simp [List.getD, ← hL]
      refine ⟨by omega, by omega, ?_⟩
      show OwnI w2 l h ((us ++ [u]).getD i undef) ((L ++ [zs]).getD i [])
      rw [e1, e2]
      refine hu.kept ⟨hs2, fun b h1 h2 => hgrow.block b (by omega) (fun e => ?_)⟩
      have := (r2 b e.symm).1; omega
    · simp only [if_neg h1]
      have h4 := r4 i (by omega)
      have e1 : (us ++ [u]).getD i undef = us.getD i undef := by simp [List.getD, List.getElem?_append_left (show i < us.length by omega)]
      have e2 : (L ++ [zs]).getD i [] = L.getD i [] := by simp [List.getD, List.getElem?_append_left (show i < L.length by omega)]
      refine ⟨h4.1, by omega, ?_⟩
      show OwnI w2 (ls i) (hs i) ((us ++ [u]).getD i undef) ((L ++ [zs]).getD i [])
      rw [e1, e2]
      refine OwnI.kept h4.2.2 ⟨by omega, fun b h1 h2 => (hgrow.block b (by omega) (fun e => ?_)).trans (hw1.block b (by omega))⟩
      have := (r2 b e.symm).2 i (by omega); omega
  · by_cases h1 : j = k
    · simp only [if_pos h1, if_neg (show ¬ i = k by omega)]
      have := (r4 i (by omega)).2.1
      exact Or.inl (by omega)
    · simp only [if_neg h1, if_neg (show ¬ i = k by omega)]
      exact r5 i j hij (by omega)
theorem ownQ_new (w : World) (lo : Nat) (h : lo ≤ w.heap.size) : OwnQ (w.alloc (.cells #[] 24)) lo (w.alloc (.cells #[] 24)).heap.size (.slice (some ⟨w.heap.size, 0, none⟩) 0 0) [] :=
  ⟨[], fun _ => 0, fun _ => 0, World.ownsRow_lit (base := lo) w #[] 0 (e := 24) (size := 1) h (by simp [maxLen]) rfl, fun k hk => by cases hk; exact ⟨by simp, fun i hi => by simp at hi⟩, Nat.le_refl _, fun i hi => by simp at hi, fun i j _ hj => by simp at hj⟩
theorem prL_succ (f : Nat → Int × Int) (n : Nat) : prL f (n + 1) = prL f n ++ [[(f n).1, (f n).2]] := by simp [prL, List.range_succ]
end Go.Proofs.Ytoebbhicffgdgaa
/- The model's pairs of a branch: contract of spec.l03Puiseux. Conditions: stated at the theorem. -/
namespace Go.Proofs.Ytoebbhicffgdgaa
open Go.ChangeShapes Go.WideShapes Go.ChangeAt Go.RowKit
set_option linter.unusedVariables false
set_option linter.unusedSimpArgs false

theorem lit_news (w : World) (o : Obj) (u : Value) : ∀ j x, ([u] : List Value)[j]? = some x → ((w.alloc o).alloc (.cells #[u] 24)).cell? ((⟨w.heap.size + 1, 0, none⟩ : Addr).add j) = some x := by
  have h := World.news_of_block (cs := #[u]) (t := 24) (fr := (0, 0)) (heap_alloc_new (w.alloc o) (.cells #[u] 24))
  rw [World.size_alloc] at h
  exact h
theorem ownQ_less {w : World} {lo lo' hi : Nat} {v : Value} {zss : List (List Int)} (h : OwnQ w lo hi v zss) (hl : lo' ≤ lo) : OwnQ w lo' hi v zss := by
  obtain ⟨us, ls, hs, r1, r2, r3, r4, r5⟩ := h
  refine ⟨us, ls, hs, ⟨r1.1, ?_⟩, r2, r3, fun i hi => ⟨by have := (r4 i hi).1; omega, (r4 i hi).2⟩, r5⟩
  rcases r1.2 with hn | ⟨g, cap, cur, e, hb, rest⟩
  · exact .inl hn
  · exact .inr ⟨g, cap, cur, e, by omega, rest⟩

end Go.Proofs.Ytoebbhicffgdgaa
/- The model's pairs of a branch: contract of spec.l03Newton. Conditions: stated at the theorem. -/
namespace Go.Proofs.Ytoebbhicffgdgaa
open Go.ChangeShapes Go.WideShapes Go.ChangeAt Go.RowKit
set_option linter.unusedVariables false
set_option linter.unusedSimpArgs false

/-- The Newton pair with the index i. -/
def npF (zs : List Int) (i : Nat) : Int × Int := ((zs[i + 1]?.getD 0 - if i = 0 then 0 else zs[i]?.getD 0).tdiv ((dvL 0 zs)[i + 1]?.getD 0), ((dvL 0 zs)[i]?.getD 0).tdiv ((dvL 0 zs)[i + 1]?.getD 0))
theorem natAbs_le9 (a b : Int) : (a.tdiv b).natAbs ≤ a.natAbs := by rw [Int.natAbs_tdiv]; exact Nat.div_le_self _ _

set_option maxHeartbeats 2000000 in
theorem l03Newton_any (v : Value) (zs : List Int) (w : World) (h : ReadI w w.heap.size v zs) (hn : zs.length ≤ 1048576) (hp : brB zs = true) :
    Calls Try.prog 127 #[.agg #[v]] w fun e w' => ∃ v', e = .returned v' ∧ OwnQ w' w.heap.size w'.heap.size v' (prL (npF zs) (zs.length - 1)) ∧ Below w.heap.size w w' := by
  have hn0 := brB_pos hp
  have HP := Lib.hid hp
  have HZ := Lib.hid (dcB_range (brB_dcB hp))
  have HDP := Lib.hid (dvL_pos HZ.out (e := 0))
  have HPF : Hid (∀ i, npF zs i = ((zs[i + 1]?.getD 0 - if i = 0 then 0 else zs[i]?.getD 0).tdiv ((dvL 0 zs)[i + 1]?.getD 0), ((dvL 0 zs)[i]?.getD 0).tdiv ((dvL 0 zs)[i + 1]?.getD 0))) := Lib.hid (fun _ => rfl)
  obtain ⟨n, A, c, rfl, hr, HL, HN, hnc, HF, hcm⟩ := h.split2
  have hLm : zs.length - 1 = n - 1 := by have := HL.out; omega
  rw [hLm]
  rw [HL.out] at hn hn0
  obtain ⟨a, rfl, hlt, hc0⟩ := hr.2 0 hn0
  obtain ⟨g, o, rfl⟩ := HF.out a rfl
  have hgw : g < w.heap.size := hlt
  obtain ⟨W0, HE⟩ : ∃ W, W = w.alloc (.cells #[.slice (some ⟨g, o, none⟩) n c] 26) := ⟨_, rfl⟩
  have hb0 : Below w.heap.size w W0 := by rw [HE]; exact below_box2 _ _
  have hq0 : BoxI W0 w.heap.size (.slice (some ⟨g, o, none⟩) n c) := by rw [HE]; exact BoxI.new _ _ _
  have hs0 : w.heap.size < W0.heap.size := hq0.2
  have H0 := Lib.hid (hr.below hb0)
  have HR := Lib.hid ((h.below hb0).more hb0.size)
  have B0 := Lib.hid hb0
  have HEQ := Lib.hid HE
  have HLD : Hid ((dvL 0 zs).length = n) := Lib.hid (by rw [dvL_len, HL.out])
  have q0 := hq0.1
  clear h hr hp hb0 hq0 HE hc0 hlt hLm
  go_enter Try.func127, Try.ntmps127
  go_wp2_with fail
  rw [← HEQ.out]
  refine (l03Divisors_any _ zs W0 HR.out (by rw [HL.out]; exact hn) HP.out).mono ?_
  rintro e W1 ⟨v1, rfl, ho1, hb1⟩
  obtain ⟨A1, c1, rfl⟩ := ho1.form HLD.out
  obtain ⟨d, e1, hd1, hd2, _, _⟩ := own_at ho1 HLD.out hn0
  subst e1
  have q1 := (hb1.cell (p := ⟨w.heap.size, 0, none⟩) hs0).trans q0
  have hs1 := hb1.size
  have OD := Lib.hid ho1
  have B1 := Lib.hid (B0.out.trans (hb1.mono (by omega)))
  have BB1 := Lib.hid hb1
  have Q1 := Lib.hid q1
  have HQ0 : Hid (OwnQ (W1.alloc (.cells #[] 24)) W1.heap.size (W1.alloc (.cells #[] 24)).heap.size (.slice (some ⟨W1.heap.size, 0, none⟩) 0 0) []) := Lib.hid (ownQ_new W1 W1.heap.size (Nat.le_refl _))
  have HB0 : Hid (Below W1.heap.size W1 (W1.alloc (.cells #[] 24))) := Lib.hid (below_box2 _ _)
  have HL0 : Hid (([] : List (List Int)) = prL (npF zs) 0) := Lib.hid rfl
  obtain ⟨lo, hlo⟩ : ∃ lo, lo = W1.heap.size := ⟨_, rfl⟩
  obtain ⟨j0, hj0, hj1, hj2, hj3⟩ := info_parts slice_infoP
  clear hb1 ho1 q0 q1
  go_wp2_with fail
  go_loopw [4, 5] (fun vo vi wr => ∃ (i k : Nat) (L : List (List Int)) (A' : Option Addr) (c' : Nat), (1 ≤ i ∧ i ≤ n) ∧ i = k + 1 ∧ vo = .slice A' k c' ∧ vi = .int .i64 i ∧ Hid (L.length = k) ∧ Hid (L = prL (npF zs) k) ∧ Hid (OwnQ wr lo wr.heap.size (.slice A' k c') L) ∧ Hid (Below lo W1 wr)) (fun _ vi _ => n - (intOf vi).toNat)
  case atStart => exact ⟨1, 0, [], some ⟨W1.heap.size, 0, none⟩, 0, by omega, rfl, rfl, by first | rfl | go_num, Lib.hid rfl, HL0, by rw [hlo]; exact HQ0, by rw [hlo]; exact HB0⟩
  case round =>
    clear HQ0 HB0 HL0
    obtain ⟨i, k, L, A', c', hi, hik, rfl, rfl, hL, hLn, hq, hb⟩ := hrel
    have hszw := hb.out.size
    by_cases hlt : i < n
    · obtain ⟨us, ls, hs, hrows⟩ := hq.out
      rw [hL.out] at hrows
      have hS0 : wr.cell? ⟨w.heap.size, 0, none⟩ = some (.slice (some ⟨g, o, none⟩) n c) := (hb.out.cell (p := ⟨w.heap.size, 0, none⟩) (by show w.heap.size < _; omega)).trans Q1.out
      obtain ⟨a, e1, _, hcell0⟩ := H0.out.2 i hlt
      cases e1
      rw [add_lit] at hcell0
      have hcz : wr.cell? ⟨g, o + i, none⟩ = some (.int .i64 (zs[i]?.getD 0)) := by
        rw [hb.out.cell (p := ⟨g, o + i, none⟩) (by show g < _; omega), BB1.out.cell (p := ⟨g, o + i, none⟩) (by show g < _; omega)]; simpa using hcell0
      obtain ⟨a, e1, _, hcell1⟩ := H0.out.2 k (by omega)
      cases e1
      rw [add_lit] at hcell1
      have hcp : wr.cell? ⟨g, o + (i - 1), none⟩ = some (.int .i64 (zs[k]?.getD 0)) := by
        rw [show i - 1 = k by omega, hb.out.cell (p := ⟨g, o + k, none⟩) (by show g < _; omega), BB1.out.cell (p := ⟨g, o + k, none⟩) (by show g < _; omega)]; simpa using hcell1
      have hyr := HZ.out (zs[k]?.getD 0) (by have := HL.out; simp [show k < zs.length by omega])
      clear hcell1
      obtain ⟨g1, e1, _, _, hd1', _⟩ := own_at OD.out HLD.out hlt
      cases e1
      obtain ⟨g1, e1, _, _, hd0', _⟩ := own_at OD.out HLD.out (show k < n by omega)
      cases e1
      have hcd1 : wr.cell? ⟨d, i, none⟩ = some (.int .i64 ((dvL 0 zs)[k + 1]?.getD 0)) := by rw [← hik]; exact (hb.out.cell (p := ⟨d, i, none⟩) (by show d < _; omega)).trans hd1'
      have hcd0 : wr.cell? ⟨d, i - 1, none⟩ = some (.int .i64 ((dvL 0 zs)[k]?.getD 0)) := by rw [show i - 1 = k by omega]; exact (hb.out.cell (p := ⟨d, k, none⟩) (by show d < _; omega)).trans hd0'
      have hzr := HZ.out (zs[k + 1]?.getD 0) (by have := HL.out; simp [show k + 1 < zs.length by omega])
      have hdr1 := HDP.out ((dvL 0 zs)[k + 1]?.getD 0) (by have := HLD.out; simp [show k + 1 < (dvL 0 zs).length by omega])
      have hdr0 := HDP.out ((dvL 0 zs)[k]?.getD 0) (by have := HLD.out; simp [show k < (dvL 0 zs).length by omega])
      have HPI := Lib.hid (HPF.out k)
      rw [show zs[i]?.getD 0 = zs[k + 1]?.getD 0 by rw [hik]] at hcz
      generalize zs[k + 1]?.getD 0 = z at *
      generalize (dvL 0 zs)[k + 1]?.getD 0 = d1 at *
      generalize (dvL 0 zs)[k]?.getD 0 = d0 at *
      have hdz : (d1 == 0) = false := by simp; omega
      have hdz2 : ¬ d1 = 0 := by omega
      have ht2 := tdiv_range hdr0 hdr1.1
      have p1 : IntKind.i64.wrap ((i : Int) - 1) = (i : Int) - 1 := IntWalk.i64_in _ (by omega)
      have p3 : IntKind.i64.wrap (d0.tdiv d1) = d0.tdiv d1 := IntWalk.i64_in _ (by omega)
      have h5 : (i : Int) < (n : Int) := by omega
      have h6 : (0 : Int) ≤ (i : Int) := by omega
      have h7 : ((i : Int) - 1).toNat = i - 1 := by omega
      have h8 : (i : Int) - 1 < (n : Int) := by omega
      have h9 : (0 : Int) ≤ (i : Int) - 1 := by omega
      have h10 : (1 : Int) ≤ (i : Int) := by omega
      have h11 : i - 1 < n := by omega
      have hlgw : w.heap.size < wr.heap.size := by omega
      have hlgg : g < wr.heap.size := by omega
      have hlgd : d < wr.heap.size := by omega
      have hkn : k ≤ 1048576 := by omega
      have HIK := Lib.hid hik
      clear hcell0 hd1' hd0' hik
      have HIK2 := HIK
      generalize hy : zs[k]?.getD 0 = y at *
      by_cases hk0 : k = 0
      · have HLN : Hid (L ++ [[z.tdiv d1, d0.tdiv d1]] = prL (npF zs) (k + 1)) := Lib.hid (by rw [prL_succ, ← hLn.out, HPI.out, if_pos hk0]; simp)
        have h20 : ¬ (1 : Int) < (i : Int) := by have := HIK.out; omega
        clear hk0
        have hS1 := hcd0
        have hS0' := hcd1
        have hlg0 := hlgd
        have hlg1 := hlgd
        have hlt9 := natAbs_le9 z d1
        have p2 : IntKind.i64.wrap (z.tdiv d1) = z.tdiv d1 := IntWalk.i64_in _ (by omega)
        go_wp2_with fail
        clear hS0
        have hS0 := hS0'
        refine wp_region_held_drew (S := fun w' => w'.cell? ⟨d, i, none⟩ = some (.int .i64 d1) ∧ w'.cell? ⟨d, i - 1, none⟩ = some (.int .i64 d0)) (by kernel_rfl) ⟨hS0, hS1⟩ (fun hHeld => ?_)
        refine takeY 0 _ (v := ?_) rfl rfl (by kernel_rfl) (by kernel_rfl) (by kernel_rfl) (fun _ _ _ h => h) (by kernel_rfl) ?_ (by assumption) ?_
        rotate_left 1
        · intro w hSw; (try dsimp only at hSw); go_simp; (try with_reducible rfl)
        try simp only [Act.put, List.setIfInBounds_toArray, List.set_cons_zero, List.set_cons_succ]
        refine takeY 1 _ (v := ?_) rfl rfl (by kernel_rfl) (by kernel_rfl) (by kernel_rfl) (fun _ _ _ h => h) (by kernel_rfl) ?_ (by assumption) ?_
        rotate_left 1
        · intro w hSw; (try dsimp only at hSw); go_simp; (try with_reducible rfl)
        try simp only [Act.put, List.setIfInBounds_toArray, List.set_cons_zero, List.set_cons_succ]
        refine takeY 2 _ (v := ?_) rfl rfl (by kernel_rfl) (by kernel_rfl) (by kernel_rfl) (fun _ _ _ h => h) (by kernel_rfl) ?_ (by assumption) ?_
        rotate_left 1
        · intro w hSw; (try dsimp only at hSw); go_simp; (try with_reducible rfl)
        try simp only [Act.put, List.setIfInBounds_toArray, List.set_cons_zero, List.set_cons_succ]
        refine takeY 3 _ (v := ?_) rfl rfl (by kernel_rfl) (by kernel_rfl) (by kernel_rfl) (fun _ _ _ h => h) (by kernel_rfl) ?_ (by assumption) ?_
        rotate_left 1
        · intro w hSw; (try dsimp only at hSw); go_simp; (try with_reducible rfl)
        try simp only [Act.put, List.setIfInBounds_toArray, List.set_cons_zero, List.set_cons_succ]
        refine takeY 4 _ (v := ?_) rfl rfl (by kernel_rfl) (by kernel_rfl) (by kernel_rfl) (fun _ _ _ h => h) (by kernel_rfl) ?_ (by assumption) ?_
        rotate_left 1
        · intro w hSw; (try dsimp only at hSw); go_simp; (try with_reducible rfl)
        try simp only [Act.put, List.setIfInBounds_toArray, List.set_cons_zero, List.set_cons_succ]
        refine takeY 5 _ (v := ?_) rfl rfl (by kernel_rfl) (by kernel_rfl) (by kernel_rfl) (fun _ _ _ h => h) (by kernel_rfl) ?_ (by assumption) ?_
        rotate_left 1
        · intro w hSw; (try dsimp only at hSw); go_simp; (try with_reducible rfl)
        try simp only [Act.put, List.setIfInBounds_toArray, List.set_cons_zero, List.set_cons_succ]
        refine takeY 6 _ (v := ?_) rfl rfl (by kernel_rfl) (by kernel_rfl) (by kernel_rfl) (fun _ _ _ h => h) (by kernel_rfl) ?_ (by assumption) ?_
        rotate_left 1
        · intro w hSw; (try dsimp only at hSw); go_simp; (try with_reducible rfl)
        try simp only [Act.put, List.setIfInBounds_toArray, List.set_cons_zero, List.set_cons_succ]
        refine takeY 7 _ (v := ?_) rfl rfl (by kernel_rfl) (by kernel_rfl) (by kernel_rfl) (fun _ _ _ h => h) (by kernel_rfl) ?_ (by assumption) ?_
        rotate_left 1
        · intro w hSw; (try dsimp only at hSw); go_simp; (try with_reducible rfl)
        try simp only [Act.put, List.setIfInBounds_toArray, List.set_cons_zero, List.set_cons_succ]
        refine takeY 8 _ (v := ?_) rfl rfl (by kernel_rfl) (by kernel_rfl) (by kernel_rfl) (fun _ _ _ h => h) (by kernel_rfl) ?_ (by assumption) ?_
        rotate_left 1
        · intro w hSw; (try dsimp only at hSw); go_simp; (try with_reducible rfl)
        try simp only [Act.put, List.setIfInBounds_toArray, List.set_cons_zero, List.set_cons_succ]
        refine takeY 9 _ (v := ?_) rfl rfl (by kernel_rfl) (by kernel_rfl) (by kernel_rfl) (fun _ _ _ h => h) (by kernel_rfl) ?_ (by assumption) ?_
        rotate_left 1
        · intro w hSw; (try dsimp only at hSw); go_simp; (try with_reducible rfl)
        try simp only [Act.put, List.setIfInBounds_toArray, List.set_cons_zero, List.set_cons_succ]
        refine takeY 10 _ (v := ?_) rfl rfl (by kernel_rfl) (by kernel_rfl) (by kernel_rfl) (fun _ _ _ h => h) (by kernel_rfl) ?_ (by assumption) ?_
        rotate_left 1
        · intro w hSw; (try dsimp only at hSw); go_simp; (try with_reducible rfl)
        try simp only [Act.put, List.setIfInBounds_toArray, List.set_cons_zero, List.set_cons_succ]
        refine takeY 11 _ (v := ?_) rfl rfl (by kernel_rfl) (by kernel_rfl) (by kernel_rfl) (fun _ _ _ h => h) (by kernel_rfl) ?_ (by assumption) ?_
        rotate_left 1
        · intro w hSw; (try dsimp only at hSw); go_simp; (try with_reducible rfl)
        try simp only [Act.put, List.setIfInBounds_toArray, List.set_cons_zero, List.set_cons_succ]
        refine takeY 12 _ (v := ?_) rfl rfl (by kernel_rfl) (by kernel_rfl) (by kernel_rfl) (fun _ _ _ h => h) (by kernel_rfl) ?_ (by assumption) ?_
        rotate_left 1
        · intro w hSw; (try dsimp only at hSw); go_simp; (try with_reducible rfl)
        try simp only [Act.put, List.setIfInBounds_toArray, List.set_cons_zero, List.set_cons_succ]
        refine takeY 13 _ (v := ?_) rfl rfl (by kernel_rfl) (by kernel_rfl) (by kernel_rfl) (fun _ _ _ h => h) (by kernel_rfl) ?_ (by assumption) ?_
        rotate_left 1
        · intro w hSw; (try dsimp only at hSw); go_simp; (try with_reducible rfl)
        try simp only [Act.put, List.setIfInBounds_toArray, List.set_cons_zero, List.set_cons_succ]
        refine takeY 14 _ (v := ?_) rfl rfl (by kernel_rfl) (by kernel_rfl) (by kernel_rfl) (fun _ _ _ h => h) (by kernel_rfl) ?_ (by assumption) ?_
        rotate_left 1
        · intro w hSw; (try dsimp only at hSw); go_simp; (try with_reducible rfl)
        try simp only [Act.put, List.setIfInBounds_toArray, List.set_cons_zero, List.set_cons_succ]
        refine takeY 15 _ (v := ?_) rfl rfl (by kernel_rfl) (by kernel_rfl) (by kernel_rfl) (fun _ _ _ h => h) (by kernel_rfl) ?_ (by assumption) ?_
        rotate_left 1
        · intro w hSw; (try dsimp only at hSw); go_simp; (try with_reducible rfl)
        try simp only [Act.put, List.setIfInBounds_toArray, List.set_cons_zero, List.set_cons_succ]
        refine takeY 16 _ (v := ?_) rfl rfl (by kernel_rfl) (by kernel_rfl) (by kernel_rfl) (fun _ _ _ h => h) (by kernel_rfl) ?_ (by assumption) ?_
        rotate_left 1
        · intro w hSw; (try dsimp only at hSw); go_simp; (try with_reducible rfl)
        try simp only [Act.put, List.setIfInBounds_toArray, List.set_cons_zero, List.set_cons_succ]
        refine wpAnyH_ready (rs := [17]) (by kernel_rfl) (by simp) ?_
        refine AllReadyH.cons rfl (fun K hK => ?_) AllReadyH.nil
        go_simp
        refine hK.out _ _ ⟨((below_box wr (.cells #[.int .i64 (z.tdiv d1), .int .i64 (d0.tdiv d1)] 2)).cell (p := ⟨d, i, none⟩) hlg0).trans hS0, ((below_box wr (.cells #[.int .i64 (z.tdiv d1), .int .i64 (d0.tdiv d1)] 2)).cell (p := ⟨d, i - 1, none⟩) hlg1).trans hS1⟩ (fun hHeld => ?_)
        clear hK K
        try simp only [Act.put, List.setIfInBounds_toArray, List.set_cons_zero, List.set_cons_succ]
        refine wpAnyH_ready (rs := [18]) (by kernel_rfl) (by simp) ?_
        refine AllReadyH.cons rfl (fun K hK => ?_) AllReadyH.nil
        go_simp
        refine hK.out _ _ ⟨(((below_box wr (.cells #[.int .i64 (z.tdiv d1), .int .i64 (d0.tdiv d1)] 2)).alloc (by simp) (.cells #[(.slice (some ⟨wr.heap.size, 0, none⟩) 2 2)] 24)).cell (p := ⟨d, i, none⟩) hlg0).trans hS0, (((below_box wr (.cells #[.int .i64 (z.tdiv d1), .int .i64 (d0.tdiv d1)] 2)).alloc (by simp) (.cells #[(.slice (some ⟨wr.heap.size, 0, none⟩) 2 2)] 24)).cell (p := ⟨d, i - 1, none⟩) hlg1).trans hS1⟩ (fun hHeld => ?_)
        clear hK K
        try simp only [Act.put, List.setIfInBounds_toArray, List.set_cons_zero, List.set_cons_succ]
        refine wpAnyH_ready (rs := [19]) (by kernel_rfl) (by simp) ?_
        refine AllReadyH.cons rfl (fun K hK => ?_) AllReadyH.nil
        try simp only [List.getElem_toArray, List.getElem_cons_succ, List.getElem_cons_zero]
        rw [if_pos (by kernel_rfl)]
        refine wp_append_lies _ (.tmp 31) (.tmp 49) 31 ?qb2 lo 24 j0 (.slice none 0 0) 1 24 Try.underlying31 hj0 hj1 hj2 hj3 rfl (by decide) (.slice A' k c') k us ?qb3 ?qb4 ⟨wr.heap.size + 1, 0, none⟩ 1 1 [(.slice (some ⟨wr.heap.size, 0, none⟩) 2 2)] ?qb5 rfl ?qb6 ?qb7 (by decide) ?qb8 ?qb9 ?qb10 _ rfl ?qb11
        case qb2 => rfl
        case qb3 => rfl
        case qb5 => rfl
        case qb4 => exact World.ownsRow.alloc (World.ownsRow.alloc hrows.1 _) _
        case qb6 => exact lit_news wr (.cells #[.int .i64 (z.tdiv d1), .int .i64 (d0.tdiv d1)] 2) (.slice (some ⟨wr.heap.size, 0, none⟩) 2 2)
        case qb7 => simp [Value.oneCell']
        case qb8 => simp only [maxLen]; omega
        case qb9 => omega
        case qb10 => show lo ≤ (((wr.alloc (.cells #[.int .i64 (z.tdiv d1), .int .i64 (d0.tdiv d1)] 2)).alloc (.cells #[(.slice (some ⟨wr.heap.size, 0, none⟩) 2 2)] 24))).heap.size; simp; omega
        intro g2 cap2 w2 hown2 hgrow hg2 hg2l
        have hbw : Below wr.heap.size wr ((wr.alloc (.cells #[.int .i64 (z.tdiv d1), .int .i64 (d0.tdiv d1)] 2)).alloc (.cells #[(.slice (some ⟨wr.heap.size, 0, none⟩) 2 2)] 24)) := (below_box wr _).alloc (by simp) _
        have hOE : OwnI ((wr.alloc (.cells #[.int .i64 (z.tdiv d1), .int .i64 (d0.tdiv d1)] 2)).alloc (.cells #[(.slice (some ⟨wr.heap.size, 0, none⟩) 2 2)] 24)) wr.heap.size (wr.heap.size + 1) (.slice (some ⟨wr.heap.size, 0, none⟩) 2 2) [(z.tdiv d1), (d0.tdiv d1)] := by
          have h9 := (list2 (w := wr) (lo := wr.heap.size) (Nat.le_refl _) ((z.tdiv d1)) ((d0.tdiv d1)))
          rw [World.size_alloc] at h9
          exact h9.kept (kept_box _ _ _ _ (by simp))
        have HQ2 : Hid (OwnQ w2 lo w2.heap.size (.slice (some ⟨g2, 0, none⟩) (k + 1) cap2) (L ++ [[(z.tdiv d1), (d0.tdiv d1)]])) := Lib.hid (rows_snoc (w1 := ((wr.alloc (.cells #[.int .i64 (z.tdiv d1), .int .i64 (d0.tdiv d1)] 2)).alloc (.cells #[(.slice (some ⟨wr.heap.size, 0, none⟩) 2 2)] 24))) hrows hL.out (by omega) hbw hOE (Nat.le_refl _) (by simp) hown2 ⟨hgrow.os, hgrow.tape, hgrow.output, hgrow.size, hgrow.block⟩ hg2 hg2l)
        have hbx : Below lo wr w2 := Below.grown (w := ((wr.alloc (.cells #[.int .i64 (z.tdiv d1), .int .i64 (d0.tdiv d1)] 2)).alloc (.cells #[(.slice (some ⟨wr.heap.size, 0, none⟩) 2 2)] 24))) (hbw.mono (by omega)) ⟨hgrow.os, hgrow.tape, hgrow.output, hgrow.size, hgrow.block⟩ (by simp; omega) (fun k hk => (World.ownsRow.lt hrows.1 k hk).1)
        have HBX := Lib.hid hbx
        have sa0 : w2.cell? ⟨d, i, none⟩ = some (.int .i64 d1) := by rw [hbx.cell (p := ⟨d, i, none⟩) (by show d < _; omega)]; exact hS0
        have sa1 : w2.cell? ⟨d, i - 1, none⟩ = some (.int .i64 d0) := by rw [hbx.cell (p := ⟨d, i - 1, none⟩) (by show d < _; omega)]; exact hS1
        refine hK.out _ _ ⟨sa0, sa1⟩ (fun hHeld => ?_)
        clear hK K hbx hown2 hgrow hg2 hg2l hbw hOE
        try simp only [Act.put, List.setIfInBounds_toArray, List.set_cons_zero, List.set_cons_succ]
        refine takeY 20 _ (v := ?_) rfl rfl (by kernel_rfl) (by kernel_rfl) (by kernel_rfl) (fun _ _ _ h => h) (by kernel_rfl) ?_ (by assumption) ?_
        rotate_left 1
        · intro w hSw; (try dsimp only at hSw); go_simp; (try with_reducible rfl)
        try simp only [Act.put, List.setIfInBounds_toArray, List.set_cons_zero, List.set_cons_succ]
        have HB3 := Lib.hid (hb.out.trans HBX.out)
        refine wpAnyH_done (by kernel_rfl) ?_ _
        go_wp2_with fail
        go_roundw
        case rel => exact ⟨i + 1, k + 1, L ++ [[(z.tdiv d1), (d0.tdiv d1)]], some ⟨g2, 0, none⟩, cap2, by omega, by have := HIK.out; omega, rfl, by go_num, Lib.hid (by simp [hL.out]), HLN, HQ2, HB3⟩
        case measure => simp [intOf]; omega
      · have HLN : Hid (L ++ [[(z - y).tdiv d1, d0.tdiv d1]] = prL (npF zs) (k + 1)) := Lib.hid (by rw [prL_succ, ← hLn.out, HPI.out, if_neg hk0])
        have h20 : (1 : Int) < (i : Int) := by have := HIK.out; omega
        have p8 : IntKind.i64.wrap (z - y) = z - y := IntWalk.i64_in _ (by omega)
        clear hk0
        have hS1 := hcd0
        have hS0' := hcd1
        have hlg0 := hlgd
        have hlg1 := hlgd
        have hlt9 := natAbs_le9 (z - y) d1
        have p2 : IntKind.i64.wrap ((z - y).tdiv d1) = (z - y).tdiv d1 := IntWalk.i64_in _ (by omega)
        go_wp2_with fail
        clear hS0
        have hS0 := hS0'
        refine wp_region_held_drew (S := fun w' => w'.cell? ⟨d, i, none⟩ = some (.int .i64 d1) ∧ w'.cell? ⟨d, i - 1, none⟩ = some (.int .i64 d0)) (by kernel_rfl) ⟨hS0, hS1⟩ (fun hHeld => ?_)
        refine takeY 0 _ (v := ?_) rfl rfl (by kernel_rfl) (by kernel_rfl) (by kernel_rfl) (fun _ _ _ h => h) (by kernel_rfl) ?_ (by assumption) ?_
        rotate_left 1
        · intro w hSw; (try dsimp only at hSw); go_simp; (try with_reducible rfl)
        try simp only [Act.put, List.setIfInBounds_toArray, List.set_cons_zero, List.set_cons_succ]
        refine takeY 1 _ (v := ?_) rfl rfl (by kernel_rfl) (by kernel_rfl) (by kernel_rfl) (fun _ _ _ h => h) (by kernel_rfl) ?_ (by assumption) ?_
        rotate_left 1
        · intro w hSw; (try dsimp only at hSw); go_simp; (try with_reducible rfl)
        try simp only [Act.put, List.setIfInBounds_toArray, List.set_cons_zero, List.set_cons_succ]
        refine takeY 2 _ (v := ?_) rfl rfl (by kernel_rfl) (by kernel_rfl) (by kernel_rfl) (fun _ _ _ h => h) (by kernel_rfl) ?_ (by assumption) ?_
        rotate_left 1
        · intro w hSw; (try dsimp only at hSw); go_simp; (try with_reducible rfl)
        try simp only [Act.put, List.setIfInBounds_toArray, List.set_cons_zero, List.set_cons_succ]
        refine takeY 3 _ (v := ?_) rfl rfl (by kernel_rfl) (by kernel_rfl) (by kernel_rfl) (fun _ _ _ h => h) (by kernel_rfl) ?_ (by assumption) ?_
        rotate_left 1
        · intro w hSw; (try dsimp only at hSw); go_simp; (try with_reducible rfl)
        try simp only [Act.put, List.setIfInBounds_toArray, List.set_cons_zero, List.set_cons_succ]
        refine takeY 4 _ (v := ?_) rfl rfl (by kernel_rfl) (by kernel_rfl) (by kernel_rfl) (fun _ _ _ h => h) (by kernel_rfl) ?_ (by assumption) ?_
        rotate_left 1
        · intro w hSw; (try dsimp only at hSw); go_simp; (try with_reducible rfl)
        try simp only [Act.put, List.setIfInBounds_toArray, List.set_cons_zero, List.set_cons_succ]
        refine takeY 5 _ (v := ?_) rfl rfl (by kernel_rfl) (by kernel_rfl) (by kernel_rfl) (fun _ _ _ h => h) (by kernel_rfl) ?_ (by assumption) ?_
        rotate_left 1
        · intro w hSw; (try dsimp only at hSw); go_simp; (try with_reducible rfl)
        try simp only [Act.put, List.setIfInBounds_toArray, List.set_cons_zero, List.set_cons_succ]
        refine takeY 6 _ (v := ?_) rfl rfl (by kernel_rfl) (by kernel_rfl) (by kernel_rfl) (fun _ _ _ h => h) (by kernel_rfl) ?_ (by assumption) ?_
        rotate_left 1
        · intro w hSw; (try dsimp only at hSw); go_simp; (try with_reducible rfl)
        try simp only [Act.put, List.setIfInBounds_toArray, List.set_cons_zero, List.set_cons_succ]
        refine takeY 7 _ (v := ?_) rfl rfl (by kernel_rfl) (by kernel_rfl) (by kernel_rfl) (fun _ _ _ h => h) (by kernel_rfl) ?_ (by assumption) ?_
        rotate_left 1
        · intro w hSw; (try dsimp only at hSw); go_simp; (try with_reducible rfl)
        try simp only [Act.put, List.setIfInBounds_toArray, List.set_cons_zero, List.set_cons_succ]
        refine takeY 8 _ (v := ?_) rfl rfl (by kernel_rfl) (by kernel_rfl) (by kernel_rfl) (fun _ _ _ h => h) (by kernel_rfl) ?_ (by assumption) ?_
        rotate_left 1
        · intro w hSw; (try dsimp only at hSw); go_simp; (try with_reducible rfl)
        try simp only [Act.put, List.setIfInBounds_toArray, List.set_cons_zero, List.set_cons_succ]
        refine takeY 9 _ (v := ?_) rfl rfl (by kernel_rfl) (by kernel_rfl) (by kernel_rfl) (fun _ _ _ h => h) (by kernel_rfl) ?_ (by assumption) ?_
        rotate_left 1
        · intro w hSw; (try dsimp only at hSw); go_simp; (try with_reducible rfl)
        try simp only [Act.put, List.setIfInBounds_toArray, List.set_cons_zero, List.set_cons_succ]
        refine takeY 10 _ (v := ?_) rfl rfl (by kernel_rfl) (by kernel_rfl) (by kernel_rfl) (fun _ _ _ h => h) (by kernel_rfl) ?_ (by assumption) ?_
        rotate_left 1
        · intro w hSw; (try dsimp only at hSw); go_simp; (try with_reducible rfl)
        try simp only [Act.put, List.setIfInBounds_toArray, List.set_cons_zero, List.set_cons_succ]
        refine takeY 11 _ (v := ?_) rfl rfl (by kernel_rfl) (by kernel_rfl) (by kernel_rfl) (fun _ _ _ h => h) (by kernel_rfl) ?_ (by assumption) ?_
        rotate_left 1
        · intro w hSw; (try dsimp only at hSw); go_simp; (try with_reducible rfl)
        try simp only [Act.put, List.setIfInBounds_toArray, List.set_cons_zero, List.set_cons_succ]
        refine takeY 12 _ (v := ?_) rfl rfl (by kernel_rfl) (by kernel_rfl) (by kernel_rfl) (fun _ _ _ h => h) (by kernel_rfl) ?_ (by assumption) ?_
        rotate_left 1
        · intro w hSw; (try dsimp only at hSw); go_simp; (try with_reducible rfl)
        try simp only [Act.put, List.setIfInBounds_toArray, List.set_cons_zero, List.set_cons_succ]
        refine takeY 13 _ (v := ?_) rfl rfl (by kernel_rfl) (by kernel_rfl) (by kernel_rfl) (fun _ _ _ h => h) (by kernel_rfl) ?_ (by assumption) ?_
        rotate_left 1
        · intro w hSw; (try dsimp only at hSw); go_simp; (try with_reducible rfl)
        try simp only [Act.put, List.setIfInBounds_toArray, List.set_cons_zero, List.set_cons_succ]
        refine takeY 14 _ (v := ?_) rfl rfl (by kernel_rfl) (by kernel_rfl) (by kernel_rfl) (fun _ _ _ h => h) (by kernel_rfl) ?_ (by assumption) ?_
        rotate_left 1
        · intro w hSw; (try dsimp only at hSw); go_simp; (try with_reducible rfl)
        try simp only [Act.put, List.setIfInBounds_toArray, List.set_cons_zero, List.set_cons_succ]
        refine takeY 15 _ (v := ?_) rfl rfl (by kernel_rfl) (by kernel_rfl) (by kernel_rfl) (fun _ _ _ h => h) (by kernel_rfl) ?_ (by assumption) ?_
        rotate_left 1
        · intro w hSw; (try dsimp only at hSw); go_simp; (try with_reducible rfl)
        try simp only [Act.put, List.setIfInBounds_toArray, List.set_cons_zero, List.set_cons_succ]
        refine takeY 16 _ (v := ?_) rfl rfl (by kernel_rfl) (by kernel_rfl) (by kernel_rfl) (fun _ _ _ h => h) (by kernel_rfl) ?_ (by assumption) ?_
        rotate_left 1
        · intro w hSw; (try dsimp only at hSw); go_simp; (try with_reducible rfl)
        try simp only [Act.put, List.setIfInBounds_toArray, List.set_cons_zero, List.set_cons_succ]
        refine wpAnyH_ready (rs := [17]) (by kernel_rfl) (by simp) ?_
        refine AllReadyH.cons rfl (fun K hK => ?_) AllReadyH.nil
        go_simp
        refine hK.out _ _ ⟨((below_box wr (.cells #[.int .i64 ((z - y).tdiv d1), .int .i64 (d0.tdiv d1)] 2)).cell (p := ⟨d, i, none⟩) hlg0).trans hS0, ((below_box wr (.cells #[.int .i64 ((z - y).tdiv d1), .int .i64 (d0.tdiv d1)] 2)).cell (p := ⟨d, i - 1, none⟩) hlg1).trans hS1⟩ (fun hHeld => ?_)
        clear hK K
        try simp only [Act.put, List.setIfInBounds_toArray, List.set_cons_zero, List.set_cons_succ]
        refine wpAnyH_ready (rs := [18]) (by kernel_rfl) (by simp) ?_
        refine AllReadyH.cons rfl (fun K hK => ?_) AllReadyH.nil
        go_simp
        refine hK.out _ _ ⟨(((below_box wr (.cells #[.int .i64 ((z - y).tdiv d1), .int .i64 (d0.tdiv d1)] 2)).alloc (by simp) (.cells #[(.slice (some ⟨wr.heap.size, 0, none⟩) 2 2)] 24)).cell (p := ⟨d, i, none⟩) hlg0).trans hS0, (((below_box wr (.cells #[.int .i64 ((z - y).tdiv d1), .int .i64 (d0.tdiv d1)] 2)).alloc (by simp) (.cells #[(.slice (some ⟨wr.heap.size, 0, none⟩) 2 2)] 24)).cell (p := ⟨d, i - 1, none⟩) hlg1).trans hS1⟩ (fun hHeld => ?_)
        clear hK K
        try simp only [Act.put, List.setIfInBounds_toArray, List.set_cons_zero, List.set_cons_succ]
        refine wpAnyH_ready (rs := [19]) (by kernel_rfl) (by simp) ?_
        refine AllReadyH.cons rfl (fun K hK => ?_) AllReadyH.nil
        try simp only [List.getElem_toArray, List.getElem_cons_succ, List.getElem_cons_zero]
        rw [if_pos (by kernel_rfl)]
        refine wp_append_lies _ (.tmp 31) (.tmp 49) 31 ?qc2 lo 24 j0 (.slice none 0 0) 1 24 Try.underlying31 hj0 hj1 hj2 hj3 rfl (by decide) (.slice A' k c') k us ?qc3 ?qc4 ⟨wr.heap.size + 1, 0, none⟩ 1 1 [(.slice (some ⟨wr.heap.size, 0, none⟩) 2 2)] ?qc5 rfl ?qc6 ?qc7 (by decide) ?qc8 ?qc9 ?qc10 _ rfl ?qc11
        case qc2 => rfl
        case qc3 => rfl
        case qc5 => rfl
        case qc4 => exact World.ownsRow.alloc (World.ownsRow.alloc hrows.1 _) _
        case qc6 => exact lit_news wr (.cells #[.int .i64 ((z - y).tdiv d1), .int .i64 (d0.tdiv d1)] 2) (.slice (some ⟨wr.heap.size, 0, none⟩) 2 2)
        case qc7 => simp [Value.oneCell']
        case qc8 => simp only [maxLen]; omega
        case qc9 => omega
        case qc10 => show lo ≤ (((wr.alloc (.cells #[.int .i64 ((z - y).tdiv d1), .int .i64 (d0.tdiv d1)] 2)).alloc (.cells #[(.slice (some ⟨wr.heap.size, 0, none⟩) 2 2)] 24))).heap.size; simp; omega
        intro g2 cap2 w2 hown2 hgrow hg2 hg2l
        have hbw : Below wr.heap.size wr ((wr.alloc (.cells #[.int .i64 ((z - y).tdiv d1), .int .i64 (d0.tdiv d1)] 2)).alloc (.cells #[(.slice (some ⟨wr.heap.size, 0, none⟩) 2 2)] 24)) := (below_box wr _).alloc (by simp) _
        have hOE : OwnI ((wr.alloc (.cells #[.int .i64 ((z - y).tdiv d1), .int .i64 (d0.tdiv d1)] 2)).alloc (.cells #[(.slice (some ⟨wr.heap.size, 0, none⟩) 2 2)] 24)) wr.heap.size (wr.heap.size + 1) (.slice (some ⟨wr.heap.size, 0, none⟩) 2 2) [((z - y).tdiv d1), (d0.tdiv d1)] := by
          have h9 := (list2 (w := wr) (lo := wr.heap.size) (Nat.le_refl _) (((z - y).tdiv d1)) ((d0.tdiv d1)))
          rw [World.size_alloc] at h9
          exact h9.kept (kept_box _ _ _ _ (by simp))
        have HQ2 : Hid (OwnQ w2 lo w2.heap.size (.slice (some ⟨g2, 0, none⟩) (k + 1) cap2) (L ++ [[((z - y).tdiv d1), (d0.tdiv d1)]])) := Lib.hid (rows_snoc (w1 := ((wr.alloc (.cells #[.int .i64 ((z - y).tdiv d1), .int .i64 (d0.tdiv d1)] 2)).alloc (.cells #[(.slice (some ⟨wr.heap.size, 0, none⟩) 2 2)] 24))) hrows hL.out (by omega) hbw hOE (Nat.le_refl _) (by simp) hown2 ⟨hgrow.os, hgrow.tape, hgrow.output, hgrow.size, hgrow.block⟩ hg2 hg2l)
        have hbx : Below lo wr w2 := Below.grown (w := ((wr.alloc (.cells #[.int .i64 ((z - y).tdiv d1), .int .i64 (d0.tdiv d1)] 2)).alloc (.cells #[(.slice (some ⟨wr.heap.size, 0, none⟩) 2 2)] 24))) (hbw.mono (by omega)) ⟨hgrow.os, hgrow.tape, hgrow.output, hgrow.size, hgrow.block⟩ (by simp; omega) (fun k hk => (World.ownsRow.lt hrows.1 k hk).1)
        have HBX := Lib.hid hbx
        have sa0 : w2.cell? ⟨d, i, none⟩ = some (.int .i64 d1) := by rw [hbx.cell (p := ⟨d, i, none⟩) (by show d < _; omega)]; exact hS0
        have sa1 : w2.cell? ⟨d, i - 1, none⟩ = some (.int .i64 d0) := by rw [hbx.cell (p := ⟨d, i - 1, none⟩) (by show d < _; omega)]; exact hS1
        refine hK.out _ _ ⟨sa0, sa1⟩ (fun hHeld => ?_)
        clear hK K hbx hown2 hgrow hg2 hg2l hbw hOE
        try simp only [Act.put, List.setIfInBounds_toArray, List.set_cons_zero, List.set_cons_succ]
        refine takeY 20 _ (v := ?_) rfl rfl (by kernel_rfl) (by kernel_rfl) (by kernel_rfl) (fun _ _ _ h => h) (by kernel_rfl) ?_ (by assumption) ?_
        rotate_left 1
        · intro w hSw; (try dsimp only at hSw); go_simp; (try with_reducible rfl)
        try simp only [Act.put, List.setIfInBounds_toArray, List.set_cons_zero, List.set_cons_succ]
        have HB3 := Lib.hid (hb.out.trans HBX.out)
        refine wpAnyH_done (by kernel_rfl) ?_ _
        go_wp2_with fail
        go_roundw
        case rel => exact ⟨i + 1, k + 1, L ++ [[((z - y).tdiv d1), (d0.tdiv d1)]], some ⟨g2, 0, none⟩, cap2, by omega, by have := HIK.out; omega, rfl, by go_num, Lib.hid (by simp [hL.out]), HLN, HQ2, HB3⟩
        case measure => simp [intOf]; omega
    · obtain rfl : i = n := by omega
      have HX : Hid (prL (npF zs) (i - 1) = L) := Lib.hid (by rw [hLn.out, show i - 1 = k by omega])
      go_wp2_with fail
      go_ret
      refine ⟨_, rfl, ?_, B1.out.trans (hb.out.mono (by omega))⟩
      rw [HX.out]
      exact ownQ_less hq.out (by omega)
end Go.Proofs.Ytoebbhicffgdgaa
/- Newton pairs out of Puiseux pairs: contract of impl.newtonOfPuiseux; plain mathematics. Conditions: stated at each theorem. -/
namespace Go.Proofs.Ytoebbhicffgdgaa
open Go.ChangeShapes Go.WideShapes Go.ChangeAt Go.RowKit
set_option linter.unusedVariables false
set_option linter.unusedSimpArgs false

def nwF (f : Nat → Int × Int) (i : Nat) : Int × Int := ((f i).1 - (if i = 0 then 0 else (f (i - 1)).1) * (f i).2, (f i).2)
theorem dv_left : ∀ (zs : List Int) (e : Int) (i : Nat), i < zs.length → (dvL e zs)[i]?.getD 0 ∣ zs[i]?.getD 0 := by
  intro zs
  induction zs with
  | nil => intro e i h; simp at h
  | cons z zs ih =>
    intro e i h
    cases i with
    | zero => simp [dvL]; exact Int.gcd_dvd_right _ _
    | succ i =>
      have := ih (Int.gcd e z : Int) i (by simpa using h)
      simpa [dvL] using this
theorem dv_next : ∀ (zs : List Int) (e : Int) (i : Nat), i + 1 < zs.length → (dvL e zs)[i + 1]?.getD 0 ∣ (dvL e zs)[i]?.getD 0 := by
  intro zs
  induction zs with
  | nil => intro e i h; simp at h
  | cons z zs ih =>
    intro e i h
    cases i with
    | zero =>
      cases zs with
      | nil => simp at h
      | cons y ys =>
        have : ((Int.gcd (Int.gcd e z : Int) y : Nat) : Int) ∣ ((Int.gcd e z : Nat) : Int) := Int.gcd_dvd_left _ _
        simpa [dvL] using this
    | succ i =>
      have := ih (Int.gcd e z : Int) i (by simpa using h)
      simpa [dvL] using this
theorem np_alg {b1 b0 e1 e0 : Int} (h1 : e1 ∣ b1) (h2 : e1 ∣ e0) (h3 : e0 ∣ b0) (p1 : 1 ≤ e1) (p0 : 1 ≤ e0) : b1.tdiv e1 - b0.tdiv e0 * e0.tdiv e1 = (b1 - b0).tdiv e1 := by
  obtain ⟨r, rfl⟩ := h1
  obtain ⟨p, rfl⟩ := h3
  obtain ⟨q, rfl⟩ := h2
  have n1 : e1 ≠ 0 := by omega
  have n0 : e1 * q ≠ 0 := by omega
  rw [Int.mul_tdiv_cancel_left _ n1, Int.mul_tdiv_cancel_left _ n0, Int.mul_tdiv_cancel_left _ n1]
  have e : e1 * r - e1 * q * p = e1 * (r - p * q) := by rw [Int.mul_sub, Int.mul_assoc, Int.mul_comm q p]
  rw [e, Int.mul_tdiv_cancel_left _ n1]
theorem at_range {zs : List Int} (hp : brB zs = true) {i : Nat} (h : i < zs.length) : (1 ≤ zs[i]?.getD 0 ∧ zs[i]?.getD 0 ≤ 2000) ∧ (1 ≤ (dvL 0 zs)[i]?.getD 0 ∧ (dvL 0 zs)[i]?.getD 0 ≤ 2000) := by
  have hz := dcB_range (brB_dcB hp)
  refine ⟨hz _ (by simp [h]), dvL_pos hz (e := 0) _ ?_⟩
  have : i < (dvL 0 zs).length := by rw [dvL_len]; exact h
  simp [this]
theorem np_eq {zs : List Int} (hp : brB zs = true) {i : Nat} (hi : i < zs.length - 1) : nwF (ppF zs) i = npF zs i := by
  have h1 := at_range hp (i := i + 1) (by omega)
  have h0 := at_range hp (i := i) (by omega)
  by_cases hz : i = 0
  · subst hz; simp [nwF, npF, ppF]
  · obtain ⟨j, rfl⟩ : ∃ j, i = j + 1 := ⟨i - 1, by omega⟩
    have h2 := np_alg (dv_left zs 0 (j + 1 + 1) (by omega)) (dv_next zs 0 (j + 1) (by omega)) (dv_left zs 0 (j + 1) (by omega)) h1.2.1 h0.2.1
    simp only [nwF, npF, if_neg hz, ppF, Nat.add_sub_cancel]
    rw [h2]
theorem npOK {zs : List Int} (hp : brB zs = true) : ∀ i, i < zs.length - 1 → (0 ≤ (ppF zs i).1 ∧ (ppF zs i).1 ≤ 2000) ∧ (0 ≤ (ppF zs i).2 ∧ (ppF zs i).2 ≤ 2000) := fun i hi => by
  have h1 := at_range hp (i := i + 1) (by omega)
  have h0 := at_range hp (i := i) (by omega)
  exact ⟨tdiv_range h1.1 h1.2.1, tdiv_range h0.2 h1.2.1⟩

end Go.Proofs.Ytoebbhicffgdgaa
/- impl.isTerm and slices.Equal of pairs: contracts. Conditions: stated at each theorem. -/
namespace Go.Proofs.Ytoebbhicffgdgaa
open Go.ChangeShapes Go.WideShapes Go.ChangeAt Go.RowKit
set_option linter.unusedVariables false
set_option linter.unusedSimpArgs false

def tmB (z : Int) : Bool := decide (1 ≤ z ∧ z ≤ 2000)
theorem tmB_true {z : Int} : tmB z = true ↔ 1 ≤ z ∧ z ≤ 2000 := by unfold tmB; simp
theorem tmB_false {z : Int} : tmB z = false ↔ ¬(1 ≤ z ∧ z ≤ 2000) := by unfold tmB; simp
/-- The answer of a test of two lists of pairs. -/
def EqAns (w : World) (n : Nat) (f1 f2 : Nat → Int × Int) (e : Ending) (w' : World) : Prop := ∃ b, e = .returned (.bool b) ∧ (b = true ↔ ∀ i, i < n → f1 i = f2 i) ∧ Below w.heap.size w w'
theorem EqAns.mk {w w' : World} {n : Nat} {f1 f2 : Nat → Int × Int} {b : Bool} (h : b = true ↔ ∀ i, i < n → f1 i = f2 i) (hb : Below w.heap.size w w') : EqAns w n f1 f2 (.returned (.bool b)) w' := ⟨b, rfl, h, hb⟩
end Go.Proofs.Ytoebbhicffgdgaa
/- Branches of pairs: plain mathematics. Conditions: stated at each theorem. -/
namespace Go.Proofs.Ytoebbhicffgdgaa
open Go.ChangeShapes Go.WideShapes Go.ChangeAt Go.RowKit
set_option linter.unusedVariables false
set_option linter.unusedSimpArgs false

/-- The product of the second numbers. -/
def prdL : List (Int × Int) → Int
  | [] => 1
  | p :: r => p.2 * prdL r
def pairB : List Int → Bool
  | [a, b] => tmB a && tmB b
  | _ => false
def pairOf (z : List Int) : Int × Int := (z.getD 0 0, z.getD 1 0)
/-- Lists of two terms with no product above 64, behind the product n. -/
def pdB (n : Int) : List (List Int) → Bool
  | [] => true
  | z :: zs => pairB z && (decide (n * (pairOf z).2 ≤ 64) && pdB (n * (pairOf z).2) zs)
def bpB (zs : List (List Int)) : Bool := decide (zs.length ≤ 6) && pdB 1 zs
def psOf (zs : List (List Int)) : List (Int × Int) := zs.map pairOf
def pF (ps : List (Int × Int)) (i : Nat) : Int × Int := ps.getD i (0, 0)
theorem pairB_form {z : List Int} (h : pairB z = true) : ∃ a b, z = [a, b] ∧ (1 ≤ a ∧ a ≤ 2000) ∧ (1 ≤ b ∧ b ≤ 2000) ∧ pairOf z = (a, b) := by
  match z with
  | [a, b] =>
    simp only [pairB, Bool.and_eq_true] at h
    exact ⟨a, b, rfl, tmB_true.1 h.1, tmB_true.1 h.2, rfl⟩
  | [] => cases h
  | [_] => cases h
  | _ :: _ :: _ :: _ => cases h
theorem prdL_drop {ps : List (Int × Int)} {i : Nat} (h : i < ps.length) : prdL (ps.drop i) = (pF ps i).2 * prdL (ps.drop (i + 1)) := by
  rw [List.drop_eq_getElem_cons h, prdL]
  simp [pF, List.getD, h]
/-- The terms: each first number times the second numbers behind it. -/
def tmF (ps : List (Int × Int)) (i : Nat) : Int := (pF ps i).1 * prdL (ps.drop (i + 1))
def tmL (ps : List (Int × Int)) : List Int := (List.range ps.length).map (tmF ps)
def bpL (ps : List (Int × Int)) : List Int := prdL ps :: tmL ps
theorem tmL_len (ps : List (Int × Int)) : (tmL ps).length = ps.length := by simp [tmL]
theorem bpL_len (ps : List (Int × Int)) : (bpL ps).length = ps.length + 1 := by simp [bpL, tmL_len]
theorem tmL_at {ps : List (Int × Int)} {i : Nat} (h : i < ps.length) : (tmL ps).getD i 0 = tmF ps i := by simp [tmL, List.getD, h]
/-- Pairs whose numbers are at least 1 and whose product is at most 64. -/
structure PsOK (M : Int) (ps : List (Int × Int)) : Prop where
  first : ∀ p ∈ ps, 1 ≤ p.1 ∧ p.1 ≤ M
  second : ∀ p ∈ ps, 1 ≤ p.2
  prod : prdL ps ≤ 64
theorem prdL_pos {ps : List (Int × Int)} (h : ∀ p ∈ ps, 1 ≤ p.2) : 1 ≤ prdL ps := by
  induction ps with
  | nil => simp [prdL]
  | cons p r ih =>
    have h1 := h p (List.mem_cons_self ..)
    have h2 := ih fun q hq => h q (List.mem_cons_of_mem _ hq)
    rw [prdL]
    have := Int.mul_le_mul h1 h2 (by omega) (by omega)
    omega
theorem prdL_tail {p : Int × Int} {r : List (Int × Int)} (h : ∀ q ∈ p :: r, 1 ≤ q.2) : prdL r ≤ prdL (p :: r) ∧ p.2 ≤ prdL (p :: r) := by
  have h1 := h p (List.mem_cons_self ..)
  have h2 := prdL_pos fun q hq => h q (List.mem_cons_of_mem _ hq)
  rw [prdL]
  have e1 := Int.mul_le_mul_of_nonneg_right h1 (show 0 ≤ prdL r by omega)
  have e2 := Int.mul_le_mul_of_nonneg_left h2 (show 0 ≤ p.2 by omega)
  constructor <;> omega
theorem PsOK.tail {M : Int} {p : Int × Int} {r : List (Int × Int)} (h : PsOK M (p :: r)) : PsOK M r :=
  ⟨fun q hq => h.first q (List.mem_cons_of_mem _ hq), fun q hq => h.second q (List.mem_cons_of_mem _ hq), by have := (prdL_tail h.second).1; have := h.prod; omega⟩
theorem PsOK.drop {M : Int} : ∀ {ps : List (Int × Int)}, PsOK M ps → ∀ i, PsOK M (ps.drop i)
  | [], h, i => by simpa using h
  | _ :: _, h, 0 => h
  | _ :: _, h, i + 1 => by simpa using PsOK.drop h.tail i
theorem PsOK.e {M : Int} {ps : List (Int × Int)} (h : PsOK M ps) (i : Nat) : 1 ≤ prdL (ps.drop i) ∧ prdL (ps.drop i) ≤ 64 := ⟨prdL_pos (h.drop i).second, (h.drop i).prod⟩
theorem PsOK.at {M : Int} {ps : List (Int × Int)} (h : PsOK M ps) {i : Nat} (hi : i < ps.length) : (1 ≤ (pF ps i).1 ∧ (pF ps i).1 ≤ M) ∧ 1 ≤ (pF ps i).2 ∧ (pF ps i).2 ≤ 64 := by
  have e : pF ps i = ps[i] := by simp [pF, List.getD, hi]
  have hm : ps[i] ∈ ps := List.getElem_mem _
  rw [e]
  refine ⟨h.first _ hm, h.second _ hm, ?_⟩
  have h1 := (h.drop i).prod
  rw [List.drop_eq_getElem_cons hi] at h1
  have h2 := h.drop i
  rw [List.drop_eq_getElem_cons hi] at h2
  have := (prdL_tail h2.second).2
  omega
theorem mul_rangeB {a b M : Int} (ha : 1 ≤ a ∧ a ≤ M) (hb : 1 ≤ b ∧ b ≤ 64) : 1 ≤ a * b ∧ a * b ≤ M * 64 := by
  have e1 := Int.mul_le_mul ha.1 hb.1 (by omega) (by omega)
  have e2 := Int.mul_le_mul ha.2 hb.2 (by omega) (by omega)
  omega
theorem PsOK.term {M : Int} {ps : List (Int × Int)} (h : PsOK M ps) {i : Nat} (hi : i < ps.length) : 1 ≤ tmF ps i ∧ tmF ps i ≤ M * 64 := mul_rangeB (h.at hi).1 (h.e (i + 1))
theorem PsOK.range {M : Int} (hM : 1 ≤ M) {ps : List (Int × Int)} (h : PsOK M ps) : ∀ z ∈ bpL ps, 1 ≤ z ∧ z ≤ M * 64 := by
  intro z hz
  rcases List.mem_cons.1 hz with rfl | hz
  · have := h.e 0; simp at this; omega
  · simp only [tmL, List.mem_map, List.mem_range] at hz
    obtain ⟨i, hi, rfl⟩ := hz
    exact h.term hi
theorem pd_ok : ∀ {zs : List (List Int)} {n : Int}, 1 ≤ n → n ≤ 64 → pdB n zs = true → (∀ p ∈ psOf zs, 1 ≤ p.1 ∧ p.1 ≤ 2000) ∧ (∀ p ∈ psOf zs, 1 ≤ p.2) ∧ n * prdL (psOf zs) ≤ 64
  | [], n, h1, h2, _ => ⟨by simp [psOf], by simp [psOf], by simp [psOf, prdL]; exact h2⟩
  | z :: zs, n, h1, h2, h => by
    simp only [pdB, Bool.and_eq_true, decide_eq_true_eq] at h
    obtain ⟨hz, h3, h4⟩ := h
    obtain ⟨a, b, rfl, ha, hb, e⟩ := pairB_form hz
    rw [e] at h3 h4
    have h5 : 1 ≤ n * b := by have := Int.mul_le_mul h1 hb.1 (by omega) (by omega); omega
    have ih := pd_ok h5 h3 h4
    refine ⟨fun p hp => ?_, fun p hp => ?_, ?_⟩
    · rcases List.mem_cons.1 (show p ∈ pairOf [a, b] :: psOf zs from hp) with rfl | hp
      · exact ha
      · exact ih.1 p hp
    · rcases List.mem_cons.1 (show p ∈ pairOf [a, b] :: psOf zs from hp) with rfl | hp
      · exact hb.1
      · exact ih.2.1 p hp
    · show n * (b * prdL (psOf zs)) ≤ 64
      rw [← Int.mul_assoc]; exact ih.2.2
theorem bpB_ok {zs : List (List Int)} (h : bpB zs = true) : PsOK 2000 (psOf zs) ∧ zs.length ≤ 6 := by
  simp only [bpB, Bool.and_eq_true, decide_eq_true_eq] at h
  have := pd_ok (by omega) (by omega) h.2
  exact ⟨⟨this.1, this.2.1, by have := this.2.2; omega⟩, h.1⟩
theorem psOf_at {zs : List (List Int)} {i : Nat} (h : i < zs.length) : pF (psOf zs) i = pairOf (zs.getD i []) := by simp [pF, psOf, List.getD, h]
theorem psOf_len (zs : List (List Int)) : (psOf zs).length = zs.length := by simp [psOf]
theorem pd_pairs : ∀ {zs : List (List Int)} {n : Int}, pdB n zs = true → ∀ z ∈ zs, pairB z = true
  | [], n, _ => by simp
  | z :: zs, n, h => by
    simp only [pdB, Bool.and_eq_true, decide_eq_true_eq] at h
    intro y hy
    rcases List.mem_cons.1 hy with rfl | hy
    · exact h.1
    · exact pd_pairs h.2.2 y hy
/-! ### The answer -/
def listsOf (ps : List (Int × Int)) : List (List Int) := ps.map fun p => [p.1, p.2]
def bqB (ps : List (Int × Int)) : Bool := brB (bpL ps) && decide (prL (ppF (bpL ps)) ps.length = listsOf ps)
def bqA (ps : List (Int × Int)) : List Int := if bqB ps then bpL ps else []
def bqC (ps : List (Int × Int)) : Int := if bqB ps then 0 else 5
def bpA (zs : List (List Int)) : List Int := if bpB zs then bqA (psOf zs) else []
def bpC (zs : List (List Int)) : Int := if bpB zs then bqC (psOf zs) else 2
theorem bq_yes {ps : List (Int × Int)} (h : bqB ps = true) : bqA ps = bpL ps ∧ bqC ps = 0 := by simp [bqA, bqC, h]
theorem bq_no {ps : List (Int × Int)} (h : bqB ps = false) : bqA ps = [] ∧ bqC ps = 5 := by simp [bqA, bqC, h]
theorem bp_no {zs : List (List Int)} (h : bpB zs = false) : bpA zs = [] ∧ bpC zs = 2 := by simp [bpA, bpC, h]
theorem bp_yes {zs : List (List Int)} (h : bpB zs = true) : bpA zs = bqA (psOf zs) ∧ bpC zs = bqC (psOf zs) := by simp [bpA, bpC, h]
theorem listsOf_prL (ps : List (Int × Int)) : listsOf ps = prL (pF ps) ps.length := by
  apply List.ext_getElem (by simp [listsOf, prL])
  intro i h1 h2
  have hi : i < ps.length := by simpa [listsOf] using h1
  simp [listsOf, prL, pF, List.getD, hi]
theorem prL_eq {f g : Nat → Int × Int} {n : Nat} : prL f n = prL g n ↔ ∀ i, i < n → f i = g i := by
  constructor
  · intro h i hi
    have e := congrArg (fun l => l.getD i []) h
    simp only [prL_at _ hi, List.cons.injEq, and_true] at e
    exact Prod.ext e.1 e.2
  · intro h
    unfold prL
    exact List.map_congr_left fun i hi => by rw [h i (List.mem_range.1 hi)]
theorem bqB_iff {ps : List (Int × Int)} : bqB ps = true ↔ brB (bpL ps) = true ∧ ∀ i, i < ps.length → ppF (bpL ps) i = pF ps i := by
  simp only [bqB, Bool.and_eq_true, decide_eq_true_eq, listsOf_prL, prL_eq]
theorem listsOf_psOf : ∀ {zs : List (List Int)}, (∀ z ∈ zs, pairB z = true) → listsOf (psOf zs) = zs
  | [], _ => rfl
  | z :: zs, h => by
    obtain ⟨a, b, rfl, _, _, e⟩ := pairB_form (h z (List.mem_cons_self ..))
    have ih := listsOf_psOf fun y hy => h y (List.mem_cons_of_mem _ hy)
    show [(pairOf [a, b]).1, (pairOf [a, b]).2] :: listsOf (psOf zs) = _
    rw [ih, e]
theorem bpA_len (zs : List (List Int)) (h : zs.length ≤ 1048576) : (bpA zs).length ≤ 1099511627776 := by
  unfold bpA bqA; split
  · split
    · rw [bpL_len, psOf_len]; omega
    · simp
  · simp
end Go.Proofs.Ytoebbhicffgdgaa
/- Lists of two numbers as pairs: contract of impl.pairsOfLists. Conditions: stated at the theorem. -/
namespace Go.Proofs.Ytoebbhicffgdgaa
open Go.ChangeShapes Go.WideShapes Go.ChangeAt Go.RowKit
set_option linter.unusedVariables false
set_option linter.unusedSimpArgs false

theorem pd_step {zs : List (List Int)} {n k : Nat} (hl : zs.length = n) (h : k < n) (y : Int) : pdB y (zs.drop k) = (pairB (zs.getD k []) && (decide (y * (pairOf (zs.getD k [])).2 ≤ 64) && pdB (y * (pairOf (zs.getD k [])).2) (zs.drop (k + 1)))) := by
  have h2 : k < zs.length := by omega
  have e : zs.drop k = zs.getD k [] :: zs.drop (k + 1) := by rw [List.drop_eq_getElem_cons h2]; simp [List.getD, h2]
  rw [e, pdB]
theorem pd_end {zs : List (List Int)} {n : Nat} (hl : zs.length = n) (y : Int) : pdB y (zs.drop n) = true := by rw [← hl, List.drop_length]; rfl
theorem list_two {z : List Int} (h : z.length = 2) : ∃ a b, z = [a, b] := by
  match z, h with
  | [a, b], _ => exact ⟨a, b, rfl⟩
theorem pairB_len {z : List Int} (h : z.length ≠ 2) : pairB z = false := by
  match z with
  | [] => rfl
  | [_] => rfl
  | [_, _] => simp at h
  | _ :: _ :: _ :: _ => rfl

end Go.Proofs.Ytoebbhicffgdgaa
/- The product of second numbers, the model's: contract of spec.l03Pairs. Conditions: stated at the theorem. -/
namespace Go.Proofs.Ytoebbhicffgdgaa
open Go.ChangeShapes Go.WideShapes Go.ChangeAt Go.RowKit
set_option linter.unusedVariables false
set_option linter.unusedSimpArgs false

/-- The product of the second numbers, or 0. -/
def pdV (zs : List (List Int)) : Int := if bpB zs then prdL (psOf zs) else 0
theorem pdV_no {zs : List (List Int)} (h : bpB zs = false) : pdV zs = 0 := by simp [pdV, h]
theorem pdV_yes {zs : List (List Int)} (h : bpB zs = true) : pdV zs = prdL (psOf zs) := by simp [pdV, h]
def PvAns (w : World) (zs : List (List Int)) (e : Ending) (w' : World) : Prop := e = .returned (.int .i64 (pdV zs)) ∧ Below w.heap.size w w'
theorem PvAns.mk {w w' : World} {zs : List (List Int)} {x : Int} (h : pdV zs = x) (hb : Below w.heap.size w w') : PvAns w zs (.returned (.int .i64 x)) w' := ⟨by rw [h], hb⟩

set_option maxHeartbeats 2000000 in
theorem l03Pairs_any (v : Value) (zs : List (List Int)) (w : World) (h : ReadQ w w.heap.size v zs) (hw : ∀ x ∈ zs, ∀ z ∈ x, (Lit.int .i64 z).wf = true) :
    Calls Try.prog 125 #[v] w (PvAns w zs) := by
  obtain ⟨A, c, rfl, h0, hN, hnc, hF, hcm⟩ := h
  have H0 := Lib.hid h0
  have HW := Lib.hid hw
  generalize hL : zs.length = n at *
  have HL := Lib.hid hL
  clear hL h0 hw hF hN
  by_cases h6 : n ≤ 6
  rotate_left
  · have R : Hid (pdV zs = 0) := Lib.hid (pdV_no (by simp [bpB, HL.out, h6]))
    have h6' : (6 : Int) < (n : Int) := by omega
    go_enter Try.func125, Try.ntmps125
    go_wp2_with fail
    go_ret
    exact PvAns.mk R.out (Below.refl _ _)
  have h6' : ¬ (6 : Int) < (n : Int) := by omega
  have E0 : Hid (bpB zs = pdB 1 (zs.drop 0)) := Lib.hid (by simp [bpB, HL.out, h6])
  have E1 : Hid (1 * prdL (psOf (zs.drop 0)) = prdL (psOf zs)) := Lib.hid (by simp)
  go_enter Try.func125, Try.ntmps125
  go_wp2_with fail
  go_loopw [3, 4] (fun vy vi wr => ∃ (k : Nat) (y : Int), k ≤ n ∧ (1 ≤ y ∧ y ≤ 64) ∧ vy = .int .i64 y ∧ vi = .int .i64 k ∧ Hid (bpB zs = pdB y (zs.drop k)) ∧ Hid (y * prdL (psOf (zs.drop k)) = prdL (psOf zs)) ∧ Hid (Below w.heap.size w wr)) (fun _ vi _ => n - (intOf vi).toNat)
  case atStart => exact ⟨0, 1, by omega, by omega, rfl, rfl, E0, E1, Lib.hid (Below.refl _ _)⟩
  case round =>
    clear E0 E1
    obtain ⟨k, y, hk, hy, rfl, rfl, hg, hpr, hb⟩ := hrel
    by_cases hlt : k < n
    · obtain ⟨a, u, rfl, ha, hcell0, hri⟩ := H0.out k hlt
      have hcell : wr.cell? (a.add k) = some u := (hb.out.cell (by rw [add_block]; exact ha)).trans hcell0
      have HP : Hid (k < zs.length) := Lib.hid (by have := HL.out; omega)
      have HS := Lib.hid (pd_step HL.out hlt y)
      have HDR : Hid (prdL (psOf (zs.drop k)) = (pairOf (zs.getD k [])).2 * prdL (psOf (zs.drop (k + 1)))) := Lib.hid (by
        have e : zs.drop k = zs.getD k [] :: zs.drop (k + 1) := by rw [List.drop_eq_getElem_cons HP.out]; simp [List.getD, HP.out]
        rw [e]; rfl)
      have hri2 := (hri.below hb.out)
      generalize zs.getD k [] = z at *
      obtain ⟨m, A', c', rfl, hr', HL', HN', hnc', HF', hcm'⟩ := hri2.split2
      have hkn : (k : Int) < (n : Int) := by omega
      have hk0 : (0 : Int) ≤ (k : Int) := by omega
      have hmm : m ≤ 9223372036854775807 := by omega
      clear hri hri2 hcell0
      by_cases hm : m = 2
      rotate_left
      · have R : Hid (pdV zs = 0) := Lib.hid (pdV_no (by rw [hg.out, HS.out, pairB_len (by rw [HL'.out]; exact hm)]; rfl))
        have T : ((m : Int) == 2) = false := by simp; omega
        have T2 : ((m : Int) != 2) = true := by simp; omega
        clear hr' HF' hm
        go_wp2_with fail
        go_ret
        exact PvAns.mk R.out hb.out
      subst hm
      obtain ⟨x1, x2, rfl⟩ := list_two HL'.out
      obtain ⟨a1, rfl, hal, hc1⟩ := hr'.2 0 (by omega)
      obtain ⟨g, o, rfl⟩ := HF'.out a1 rfl
      obtain ⟨a2, e2, _, hc2⟩ := hr'.2 1 (by omega)
      cases e2
      have hcA : wr.cell? ⟨g, o, none⟩ = some (.int .i64 x1) := by simpa [Addr.add] using hc1
      have hcB : wr.cell? ⟨g, o + 1, none⟩ = some (.int .i64 x2) := by simpa [Addr.add] using hc2
      clear hc1 hc2 HF' hr'
      by_cases ht1 : 1 ≤ x1 ∧ x1 ≤ 2000
      rotate_left
      · have R : Hid (pdV zs = 0) := Lib.hid (pdV_no (by rw [hg.out, HS.out]; simp [pairB, tmB_false.2 ht1]))
        have HT := Lib.hid ht1
        clear ht1
        go_wp2_with fail
        refine (in_no x1 1 2000 _ HT.out).mono ?_
        rintro e w1 ⟨rfl, rfl⟩
        go_wp2_with fail
        go_ret
        exact PvAns.mk R.out hb.out
      by_cases ht2 : 1 ≤ x2 ∧ x2 ≤ 2000
      rotate_left
      · have R : Hid (pdV zs = 0) := Lib.hid (pdV_no (by rw [hg.out, HS.out]; simp [pairB, tmB_false.2 ht2]))
        have HT := Lib.hid ht1
        have HT2 := Lib.hid ht2
        clear ht1 ht2
        go_wp2_with fail
        refine (in_yes x1 1 2000 _ HT.out.1 HT.out.2).mono ?_
        rintro e w1 ⟨rfl, rfl⟩
        go_wp2_with fail
        refine (in_no x2 1 2000 _ HT2.out).mono ?_
        rintro e w1 ⟨rfl, rfl⟩
        go_wp2_with fail
        go_ret
        exact PvAns.mk R.out hb.out
      have hq := mul_rangeB (a := x2) (b := y) ht2 hy
      rw [Int.mul_comm] at hq
      have HG : Hid (bpB zs = (decide (y * x2 ≤ 64) && pdB (y * x2) (zs.drop (k + 1)))) := Lib.hid (by rw [hg.out, HS.out]; simp only [pairB, tmB_true.2 ht1, tmB_true.2 ht2, Bool.true_and, Bool.and_self]; rfl)
      have HPR : Hid (y * x2 * prdL (psOf (zs.drop (k + 1))) = prdL (psOf zs)) := Lib.hid (by rw [← hpr.out, HDR.out, Int.mul_assoc]; rfl)
      have pw : IntKind.i64.wrap (y * x2) = y * x2 := IntWalk.i64_in _ (by omega)
      generalize hqq : y * x2 = q at *
      clear hg HS HDR
      by_cases hq64 : q ≤ 64
      · have HG2 : Hid (bpB zs = pdB q (zs.drop (k + 1))) := Lib.hid (by rw [HG.out, decide_eq_true hq64]; simp)
        have hq65 : ¬ (64 : Int) < q := by omega
        go_wp2_with fail
        refine (in_yes x1 1 2000 _ ht1.1 ht1.2).mono ?_
        rintro e w1 ⟨rfl, rfl⟩
        go_wp2_with fail
        refine (in_yes x2 1 2000 _ ht2.1 ht2.2).mono ?_
        rintro e w1 ⟨rfl, rfl⟩
        go_wp2_with fail
        go_roundw
        case rel => exact ⟨k + 1, q, by omega, by omega, rfl, by go_num, HG2, HPR, hb⟩
        case measure => simp [intOf]; omega
      · have R : Hid (pdV zs = 0) := Lib.hid (pdV_no (by rw [HG.out, decide_eq_false hq64]; simp))
        have hq65 : (64 : Int) < q := by omega
        go_wp2_with fail
        refine (in_yes x1 1 2000 _ ht1.1 ht1.2).mono ?_
        rintro e w1 ⟨rfl, rfl⟩
        go_wp2_with fail
        refine (in_yes x2 1 2000 _ ht2.1 ht2.2).mono ?_
        rintro e w1 ⟨rfl, rfl⟩
        go_wp2_with fail
        go_ret
        exact PvAns.mk R.out hb.out
    · obtain rfl : k = n := by omega
      have R : Hid (pdV zs = y) := Lib.hid (by
        rw [pdV_yes (by rw [hg.out]; exact pd_end HL.out y), ← hpr.out, ← HL.out, List.drop_length]
        simp [psOf, prdL])
      go_wp2_with fail
      go_ret
      exact PvAns.mk R.out hb.out
end Go.Proofs.Ytoebbhicffgdgaa
/- Equal lists, the model's test: contract of spec.l01Same. Conditions: stated at each theorem. -/
namespace Go.Proofs.Ytoebbhicffgdgaa
open Go.ChangeShapes Go.WideShapes Go.ChangeAt Go.RowKit
set_option linter.unusedVariables false

theorem same_not {p q : List Int} {k : Nat} (h : ¬ p[k]?.getD 0 = q[k]?.getD 0) : decide (p = q) = false := by
  rw [decide_eq_false_iff_not]; rintro rfl; exact h rfl
theorem same_len {p q : List Int} {n m : Nat} (h : p.length = n) (k : q.length = m) (hne : ¬ n = m) : decide (p = q) = false := by
  rw [decide_eq_false_iff_not]; rintro rfl; omega
theorem take_nextS {p q : List Int} {n k : Nat} (hp : p.length = n) (hq : q.length = n) (h : k < n) (ht : p.take k = q.take k) (he : p[k]?.getD 0 = q[k]?.getD 0) : p.take (k + 1) = q.take (k + 1) := by
  have h1 : k < p.length := by omega
  have h2 : k < q.length := by omega
  rw [List.take_succ_eq_append_getElem h1, List.take_succ_eq_append_getElem h2, ht]
  simp [h1, h2] at he
  rw [he]
theorem same_all {p q : List Int} {n : Nat} (hp : p.length = n) (hq : q.length = n) (ht : p.take n = q.take n) : decide (p = q) = true := by
  rw [List.take_of_length_le (by omega), List.take_of_length_le (by omega)] at ht
  simp [ht]

set_option maxRecDepth 100000 in
theorem l01Same_any (v u : Value) (p q : List Int) (w : World) (B B' : Nat) (hp : ReadI w B v p) (hq : ReadI w B' u q) (hn : p.length ≤ 1048576) (hm : q.length ≤ 1048576) (hwp : ∀ z ∈ p, (Lit.int .i64 z).wf = true) (hwq : ∀ z ∈ q, (Lit.int .i64 z).wf = true) :
    Calls Try.prog 128 #[v, u] w fun e w' => e = .returned (.bool (decide (p = q))) ∧ ∃ m, w' = w.drewN m := by
  obtain ⟨n, A, c, rfl, hr, HL⟩ := hp.split
  obtain ⟨m, A1, c1, rfl, hr1, HL1⟩ := hq.split
  rw [HL.out] at hn
  rw [HL1.out] at hm
  have H0 := Lib.hid hr
  have H1 := Lib.hid hr1
  have W0 := Lib.hid hwp
  have W1 := Lib.hid hwq
  clear hr hr1 hp hq hwp hwq
  obtain ⟨b, hb⟩ : ∃ b, b = decide (p = q) := ⟨_, rfl⟩
  rw [← hb]
  have HB := Lib.hid hb
  clear hb
  by_cases hnm : n = m
  rotate_left
  · have R : Hid (false = b) := Lib.hid (by rw [HB.out, same_len HL.out HL1.out hnm])
    have T : ((n : Int) == (m : Int)) = false := by simp; omega
    have T2 : ((n : Int) != (m : Int)) = true := by simp; omega
    clear hnm
    go_enter Try.func128, Try.ntmps128
    go_wp2
    go_ret
    exact ⟨ret_bool R.out, 0, rfl⟩
  subst hnm
  go_enter Try.func128, Try.ntmps128
  go_wp2
  go_loopw [5] (fun i wr => ∃ (k d : Nat), k ≤ n ∧ i = .int .i64 k ∧ wr = w.drewN d ∧ Hid (p.take k = q.take k)) (fun i _ => n - (intOf i).toNat)
  case atStart => exact ⟨0, 0, by omega, rfl, rfl, Lib.hid rfl⟩
  case round =>
    obtain ⟨k, d, hk, rfl, rfl, ht⟩ := hrel
    by_cases hlt : k < n
    · obtain ⟨a, rfl, _, hcell⟩ := H0.out.2 k hlt
      obtain ⟨a', rfl, _, hcell'⟩ := H1.out.2 k hlt
      rw [getD_opt] at hcell hcell'
      have hk0 : (0 : Int) ≤ (k : Int) := Int.natCast_nonneg _
      have hk1 : (k : Int) < (n : Int) := by omega
      by_cases he : p[k]?.getD 0 = q[k]?.getD 0
      · have HT : Hid (p.take (k + 1) = q.take (k + 1)) := Lib.hid (take_nextS HL.out HL1.out hlt ht.out he)
        have T : ((p[k]?.getD 0 : Int) != q[k]?.getD 0) = false := by simp [he]
        rw [he] at hcell
        clear he T
        go_wp2
        go_quiet (fail)
        go_wp2
        go_roundw
        case rel => exact ⟨k + 1, d + nq, by omega, by go_num, rfl, HT⟩
        case measure => simp [intOf]; omega
      · have R : Hid (false = b) := Lib.hid (by rw [HB.out, same_not he])
        have T : ((p[k]?.getD 0 : Int) != q[k]?.getD 0) = true := by simp [he]
        clear he
        go_wp2
        go_quiet (fail)
        go_wp2
        go_ret
        exact ⟨ret_bool R.out, d + nq, World.drewN_drewN _ _ _⟩
    · obtain rfl : k = n := by omega
      have R : Hid (true = b) := Lib.hid (by rw [HB.out, same_all HL.out HL1.out ht.out])
      go_wp2
      go_ret
      exact ⟨ret_bool R.out, d, rfl⟩
end Go.Proofs.Ytoebbhicffgdgaa
/- Equal lists of lists, the model's test: contract of spec.l01Same2. Conditions: stated at each theorem. -/
namespace Go.Proofs.Ytoebbhicffgdgaa
open Go.ChangeShapes Go.WideShapes Go.ChangeAt Go.RowKit
set_option linter.unusedVariables false
set_option linter.unusedSimpArgs false

theorem quietSame {v u : Value} {p q : List Int} {w : World} {B B' d k : Nat} {b : Bool} (hp : ReadI (w.drewN d) B v p) (hq : ReadI (w.drewN d) B' u q) (hn : p.length ≤ 1048576) (hm : q.length ≤ 1048576) (hwp : ∀ z ∈ p, (Lit.int .i64 z).wf = true) (hwq : ∀ z ∈ q, (Lit.int .i64 z).wf = true) (hb : decide (p = q) = b) :
    Calls Try.prog 128 #[v, u] (w.drewN (d + k)) fun e w'' => e = .returned (.bool b) ∧ ∃ m, w'' = w.drewN (d + m) := by
  subst hb
  refine (l01Same_any v u p q (w.drewN (d + k)) B B' hp hq hn hm hwp hwq).mono ?_
  rintro e w1 ⟨rfl, m, rfl⟩
  exact ⟨rfl, k + m, by rw [World.drewN_drewN, Nat.add_assoc]⟩
theorem rows_not {p q : List (List Int)} {k : Nat} (h : ¬ p.getD k [] = q.getD k []) : decide (p = q) = false := by
  rw [decide_eq_false_iff_not]; rintro rfl; exact h rfl
theorem rows_len {p q : List (List Int)} {n m : Nat} (h : p.length = n) (k : q.length = m) (hne : ¬ n = m) : decide (p = q) = false := by
  rw [decide_eq_false_iff_not]; rintro rfl; omega
theorem rows_next {p q : List (List Int)} {n k : Nat} (hp : p.length = n) (hq : q.length = n) (h : k < n) (ht : p.take k = q.take k) (he : p.getD k [] = q.getD k []) : p.take (k + 1) = q.take (k + 1) := by
  have h1 : k < p.length := by omega
  have h2 : k < q.length := by omega
  rw [List.take_succ_eq_append_getElem h1, List.take_succ_eq_append_getElem h2, ht]
  simp [List.getD, h1, h2] at he
  rw [he]
theorem rows_all {p q : List (List Int)} {n : Nat} (hp : p.length = n) (hq : q.length = n) (ht : p.take n = q.take n) : decide (p = q) = true := by
  rw [List.take_of_length_le (by omega), List.take_of_length_le (by omega)] at ht
  simp [ht]

set_option maxRecDepth 100000 in
theorem l01Same2_any (v u : Value) (p q : List (List Int)) (w : World) (B B' : Nat) (hp : ReadQ w B v p) (hq : ReadQ w B' u q) (hn : p.length ≤ 1048576) (hm : q.length ≤ 1048576)
    (hlp : ∀ x ∈ p, x.length ≤ 1048576 ∧ ∀ z ∈ x, (Lit.int .i64 z).wf = true) (hlq : ∀ x ∈ q, x.length ≤ 1048576 ∧ ∀ z ∈ x, (Lit.int .i64 z).wf = true) :
    Calls Try.prog 126 #[v, u] w fun e w' => e = .returned (.bool (decide (p = q))) ∧ ∃ m, w' = w.drewN m := by
  obtain ⟨A, c, rfl, h0, _⟩ := hp
  obtain ⟨A1, c1, rfl, h1, _⟩ := hq
  have H0 := Lib.hid h0
  have H1 := Lib.hid h1
  have W0 := Lib.hid hlp
  have W1 := Lib.hid hlq
  clear h0 h1 hlp hlq
  generalize hL : p.length = n at *
  generalize hL1 : q.length = m at *
  have HL := Lib.hid hL
  have HL1 := Lib.hid hL1
  clear hL hL1
  obtain ⟨b, hb⟩ : ∃ b, b = decide (p = q) := ⟨_, rfl⟩
  rw [← hb]
  have HB := Lib.hid hb
  clear hb
  by_cases hnm : n = m
  rotate_left
  · have R : Hid (false = b) := Lib.hid (by rw [HB.out, rows_len HL.out HL1.out hnm])
    have T : ((n : Int) == (m : Int)) = false := by simp; omega
    have T2 : ((n : Int) != (m : Int)) = true := by simp; omega
    clear hnm
    go_enter Try.func126, Try.ntmps126
    go_wp2
    go_ret
    exact ⟨ret_bool R.out, 0, rfl⟩
  subst hnm
  go_enter Try.func126, Try.ntmps126
  go_wp2
  go_loopw [5] (fun i wr => ∃ (k d : Nat), k ≤ n ∧ i = .int .i64 k ∧ wr = w.drewN d ∧ Hid (p.take k = q.take k)) (fun i _ => n - (intOf i).toNat)
  case atStart => exact ⟨0, 0, by omega, rfl, rfl, Lib.hid rfl⟩
  case round =>
    obtain ⟨k, d, hk, rfl, rfl, ht⟩ := hrel
    by_cases hlt : k < n
    · obtain ⟨a, x, rfl, _, hcell, hri⟩ := H0.out k hlt
      obtain ⟨a', y, rfl, _, hcell', hri'⟩ := H1.out k hlt
      have hk0 : (0 : Int) ≤ (k : Int) := Int.natCast_nonneg _
      have hk1 : (k : Int) < (n : Int) := by omega
      have hx : (w.drewN d).cell? (a.add k) = some x := hcell
      have hx' : (w.drewN d).cell? (a'.add k) = some y := hcell'
      have HR : Hid (ReadI (w.drewN d) B x (p.getD k [])) := Lib.hid hri
      have HR' : Hid (ReadI (w.drewN d) B' y (q.getD k [])) := Lib.hid hri'
      have HM : Hid (p.getD k [] ∈ p ∧ q.getD k [] ∈ q) := Lib.hid (by
        have e1 := HL.out
        have e2 := HL1.out
        simp [List.getD, show k < p.length by omega, show k < q.length by omega])
      have HW0 := Lib.hid (W0.out _ HM.out.1)
      have HW1 := Lib.hid (W1.out _ HM.out.2)
      clear hx hx' hri hri'
      by_cases he : p.getD k [] = q.getD k []
      · have HT : Hid (p.take (k + 1) = q.take (k + 1)) := Lib.hid (rows_next HL.out HL1.out hlt ht.out he)
        have HE : Hid (decide (p.getD k [] = q.getD k []) = true) := Lib.hid (decide_eq_true he)
        clear he
        go_wp2
        go_quiet ((go_at_call 128; exact quietSame HR.out HR'.out HW0.out.1 HW1.out.1 HW0.out.2 HW1.out.2 HE.out))
        go_wp2
        go_roundw
        case rel => exact ⟨k + 1, d + nq, by omega, by go_num, rfl, HT⟩
        case measure => simp [intOf]; omega
      · have R : Hid (false = b) := Lib.hid (by rw [HB.out, rows_not he])
        have HE : Hid (decide (p.getD k [] = q.getD k []) = false) := Lib.hid (decide_eq_false he)
        clear he
        go_wp2
        go_quiet ((go_at_call 128; exact quietSame HR.out HR'.out HW0.out.1 HW1.out.1 HW0.out.2 HW1.out.2 HE.out))
        go_wp2
        go_ret
        exact ⟨ret_bool R.out, d + nq, World.drewN_drewN _ _ _⟩
    · obtain rfl : k = n := by omega
      have R : Hid (true = b) := Lib.hid (by rw [HB.out, rows_all HL.out HL1.out ht.out])
      go_wp2
      go_ret
      exact ⟨ret_bool R.out, d, rfl⟩
end Go.Proofs.Ytoebbhicffgdgaa
/- BranchOfPuiseux, the model's: contract. Conditions: stated at the theorem. -/
namespace Go.Proofs.Ytoebbhicffgdgaa
open Go.ChangeShapes Go.WideShapes Go.ChangeAt Go.RowKit
set_option linter.unusedVariables false
set_option linter.unusedSimpArgs false

theorem prL_wf {zs : List Int} (hp : brB zs = true) : ∀ x ∈ prL (ppF zs) (zs.length - 1), x.length ≤ 1048576 ∧ ∀ z ∈ x, (Lit.int .i64 z).wf = true := by
  have HZ := dcB_range (brB_dcB hp)
  have HD := dvL_pos HZ (e := 0)
  intro x hx
  simp only [prL, List.mem_map, List.mem_range] at hx
  obtain ⟨i, hi, rfl⟩ := hx
  have hl := dvL_len 0 zs
  have h1 := HZ (zs[i + 1]?.getD 0) (by simp [show i + 1 < zs.length by omega])
  have h2 := HD ((dvL 0 zs)[i + 1]?.getD 0) (by simp [show i + 1 < (dvL 0 zs).length by omega])
  have h3 := HD ((dvL 0 zs)[i]?.getD 0) (by simp [show i < (dvL 0 zs).length by omega])
  have h4 := tdiv_range h1 h2.1
  have h5 := tdiv_range h3 h2.1
  refine ⟨by simp, fun z hz => ?_⟩
  simp only [ppF, List.mem_cons, List.not_mem_nil, or_false] at hz
  rcases hz with rfl | rfl
  · exact i64_wf (by omega) (by omega)
  · exact i64_wf (by omega) (by omega)

end Go.Proofs.Ytoebbhicffgdgaa
/- Branches of Newton pairs: plain mathematics. Conditions: stated at each theorem. -/
namespace Go.Proofs.Ytoebbhicffgdgaa
open Go.ChangeShapes Go.WideShapes Go.ChangeAt Go.RowKit
set_option linter.unusedVariables false
set_option linter.unusedSimpArgs false

/-- The Puiseux pairs of Newton pairs. -/
def qnL (b : Int) : List (Int × Int) → List (Int × Int)
  | [] => []
  | p :: r => (p.1 + b * p.2, p.2) :: qnL (p.1 + b * p.2) r
theorem qnL_len (b : Int) (ps : List (Int × Int)) : (qnL b ps).length = ps.length := by
  induction ps generalizing b with
  | nil => rfl
  | cons p r ih => simp [qnL, ih]
/-- The first number ahead of the pair with the index i. -/
def pvF (b : Int) (ps : List (Int × Int)) : Nat → Int
  | 0 => b
  | i + 1 => (pF (qnL b ps) i).1
theorem qn_at {ps : List (Int × Int)} : ∀ {b : Int} {i : Nat}, i < ps.length → pF (qnL b ps) i = ((pF ps i).1 + pvF b ps i * (pF ps i).2, (pF ps i).2) := by
  induction ps with
  | nil => intro b i h; simp at h
  | cons p r ih =>
    intro b i h
    cases i with
    | zero => simp [qnL, pF, pvF]
    | succ i =>
      have h2 : i < r.length := by simpa using h
      have e := ih (b := p.1 + b * p.2) h2
      have e1 : pF (qnL b (p :: r)) (i + 1) = pF (qnL (p.1 + b * p.2) r) i := by simp [qnL, pF]
      have e2 : pF (p :: r) (i + 1) = pF r i := by simp [pF]
      have e3 : pvF b (p :: r) (i + 1) = pvF (p.1 + b * p.2) r i := by
        cases i with
        | zero => simp [pvF, qnL, pF]
        | succ i => simp [pvF, qnL, pF]
      rw [e1, e, e2, e3]
theorem qn_prd (b : Int) : ∀ (ps : List (Int × Int)) (b : Int) (i : Nat), prdL ((qnL b ps).drop i) = prdL (ps.drop i)
  | [], b, i => by simp [qnL]
  | p :: r, b, 0 => by
    have := qn_prd b r (p.1 + b * p.2) 0
    simp only [List.drop_zero] at this ⊢
    rw [qnL, prdL, prdL, this]
  | p :: r, b, i + 1 => by simpa [qnL] using qn_prd b r (p.1 + b * p.2) i
theorem qn_bound : ∀ {ps : List (Int × Int)} {b : Int}, 0 ≤ b → (∀ p ∈ ps, 1 ≤ p.1 ∧ p.1 ≤ 2000) → (∀ p ∈ ps, 1 ≤ p.2) → ∀ q ∈ qnL b ps, 1 ≤ q.1 ∧ q.1 ≤ (b + 2000 * (ps.length : Int)) * prdL ps
  | [], b, hb, h1, h2 => by simp [qnL]
  | p :: r, b, hb, h1, h2 => by
    have hp1 := h1 p (List.mem_cons_self ..)
    have hp2 := h2 p (List.mem_cons_self ..)
    have hr := prdL_pos fun q hq => h2 q (List.mem_cons_of_mem _ hq)
    have hbp : 0 ≤ b * p.2 := Int.mul_nonneg hb (by omega)
    have hq0 : 0 ≤ p.1 + b * p.2 := by omega
    have ih := qn_bound hq0 (fun q hq => h1 q (List.mem_cons_of_mem _ hq)) (fun q hq => h2 q (List.mem_cons_of_mem _ hq))
    have hle : p.1 + b * p.2 ≤ (b + 2000) * p.2 := by
      have := Int.mul_le_mul_of_nonneg_left hp2 (show (0 : Int) ≤ 2000 by omega)
      rw [Int.add_mul]; omega
    have hlen : (0 : Int) ≤ 2000 * (r.length : Int) := by omega
    have hlr : 2000 * (r.length : Int) ≤ 2000 * (r.length : Int) * p.2 := by
      have := Int.mul_le_mul_of_nonneg_left hp2 hlen; omega
    have hall : (p.1 + b * p.2 + 2000 * (r.length : Int)) * prdL r ≤ (b + 2000 * ((p :: r).length : Int)) * prdL (p :: r) := by
      have e1 : (b + 2000 * ((p :: r).length : Int)) * prdL (p :: r) = ((b + 2000) * p.2 + 2000 * (r.length : Int) * p.2) * prdL r := by
        rw [prdL, ← Int.mul_assoc, ← Int.add_mul]
        congr 2
        simp [List.length_cons]; omega
      rw [e1]
      exact Int.mul_le_mul_of_nonneg_right (by omega) (by omega)
    have hone : p.1 + b * p.2 ≤ (p.1 + b * p.2 + 2000 * (r.length : Int)) * prdL r := by
      have := Int.mul_le_mul_of_nonneg_left hr (show 0 ≤ p.1 + b * p.2 + 2000 * (r.length : Int) by omega)
      omega
    intro q hq
    rcases List.mem_cons.1 (show q ∈ (p.1 + b * p.2, p.2) :: qnL (p.1 + b * p.2) r from hq) with rfl | hq
    · exact ⟨by show 1 ≤ p.1 + b * p.2; omega, by show p.1 + b * p.2 ≤ _; omega⟩
    · have := ih q hq; exact ⟨this.1, by omega⟩
theorem qn_second : ∀ {ps : List (Int × Int)} {b : Int}, (∀ p ∈ ps, 1 ≤ p.2) → ∀ q ∈ qnL b ps, 1 ≤ q.2
  | [], b, h => by simp [qnL]
  | p :: r, b, h => by
    intro q hq
    rcases List.mem_cons.1 (show q ∈ (p.1 + b * p.2, p.2) :: qnL (p.1 + b * p.2) r from hq) with rfl | hq
    · exact h p (List.mem_cons_self ..)
    · exact qn_second (fun q hq => h q (List.mem_cons_of_mem _ hq)) q hq
theorem qn_ok {ps : List (Int × Int)} (h : PsOK 2000 ps) (hl : ps.length ≤ 6) : PsOK 1000000 (qnL 0 ps) := by
  have hp : prdL (qnL 0 ps) = prdL ps := by simpa using qn_prd 0 ps 0 0
  refine ⟨fun q hq => ?_, qn_second h.second, by rw [hp]; exact h.prod⟩
  have h1 := qn_bound (Int.le_refl 0) h.first h.second q hq
  have h2 := prdL_pos h.second
  have h3 := h.prod
  have h4 := Int.mul_le_mul (show 0 + 2000 * (ps.length : Int) ≤ 12000 by omega) h3 (by omega) (by omega)
  omega
/-- The next term: the one before, and the first number times the second ones behind it. -/
theorem qn_term {ps : List (Int × Int)} {i : Nat} (h : i < ps.length) : tmF (qnL 0 ps) i = pvF 0 ps i * prdL (ps.drop i) + (pF ps i).1 * prdL (ps.drop (i + 1)) := by
  rw [tmF, qn_at h, qn_prd 0, prdL_drop h]
  show ((pF ps i).1 + pvF 0 ps i * (pF ps i).2) * prdL (ps.drop (i + 1)) = _
  rw [Int.add_mul, Int.mul_assoc, Int.add_comm]
theorem qn_prev {ps : List (Int × Int)} {i : Nat} (h : i < ps.length) : pvF 0 ps (i + 1) * prdL (ps.drop (i + 1)) = tmF (qnL 0 ps) i := by
  rw [tmF, pvF, qn_prd 0]
/-! ### The divisors of a branch of pairs -/
theorem dvL_dvd : ∀ {zs : List Int} {e : Int} {i : Nat}, i + 1 < zs.length → (dvL e zs)[i + 1]?.getD 0 ∣ (dvL e zs)[i]?.getD 0
  | [], e, i, h => by simp at h
  | [z], e, i, h => by simp at h
  | z :: y :: r, e, 0, h => by
    simp only [dvL, List.getElem?_cons_succ, List.getElem?_cons_zero, Option.getD_some]
    exact Int.gcd_dvd_left ..
  | z :: y :: r, e, i + 1, h => by
    have h2 : i + 1 < (y :: r).length := by simpa using h
    have := dvL_dvd (e := (Int.gcd e z : Int)) h2
    simpa [dvL] using this
theorem dv_last {zs : List Int} (hp : brB zs = true) : (dvL 0 zs)[zs.length - 1]?.getD 0 = 1 := by
  have h1 := brB_dcB hp
  have h0 := brB_pos hp
  match zs, h0 with
  | n :: r, _ =>
    rw [dcB_split] at h1
    simp only [Bool.and_eq_true, decide_eq_true_eq] at h1
    have h2 := last_at (L := dvL 0 (n :: r)) (n := (n :: r).length) (dvL_len _ _) (by simp)
    rw [h1.2.2.2] at h2
    exact (Option.some.inj h2).symm
/-- Where the second numbers are those of the branch, so are the divisors. -/
theorem dv_pairs {qs : List (Int × Int)} (hp : brB (bpL qs) = true) (h : ∀ i, i < qs.length → ((dvL 0 (bpL qs))[i]?.getD 0).tdiv ((dvL 0 (bpL qs))[i + 1]?.getD 0) = (pF qs i).2) :
    ∀ k i, i + k = qs.length → (dvL 0 (bpL qs))[i]?.getD 0 = prdL (qs.drop i) := by
  intro k
  induction k with
  | zero =>
    intro i hi
    have h1 := dv_last hp
    rw [bpL_len] at h1
    rw [show i = qs.length by omega, List.drop_length]
    simpa [prdL] using h1
  | succ k ih =>
    intro i hi
    have hi' : i < qs.length := by omega
    have h2 := ih (i + 1) (by omega)
    have h3 := h i hi'
    have h4 : (dvL 0 (bpL qs))[i + 1]?.getD 0 ∣ (dvL 0 (bpL qs))[i]?.getD 0 := dvL_dvd (by rw [bpL_len]; omega)
    rw [prdL_drop hi', ← h2, ← h3]
    exact (Int.tdiv_mul_cancel h4).symm
theorem bp_at {qs : List (Int × Int)} {i : Nat} (h : i < qs.length) : (bpL qs)[i + 1]?.getD 0 = tmF qs i := by
  have := tmL_at h
  simp only [bpL, List.getElem?_cons_succ]
  simpa [List.getD] using this
/-- The two tests are one. -/
theorem bn_same {ps : List (Int × Int)} (hok : PsOK 2000 ps) (hp : brB (bpL (qnL 0 ps)) = true) :
    (∀ i, i < ps.length → ppF (bpL (qnL 0 ps)) i = pF (qnL 0 ps) i) ↔ ∀ i, i < ps.length → npF (bpL (qnL 0 ps)) i = pF ps i := by
  have hl := qnL_len 0 ps
  have key : (∀ i, i < (qnL 0 ps).length → ((dvL 0 (bpL (qnL 0 ps)))[i]?.getD 0).tdiv ((dvL 0 (bpL (qnL 0 ps)))[i + 1]?.getD 0) = (pF (qnL 0 ps) i).2) → ∀ i, i < ps.length → (dvL 0 (bpL (qnL 0 ps)))[i + 1]?.getD 0 = prdL (ps.drop (i + 1)) := by
    intro h i hi
    rw [dv_pairs hp h (ps.length - (i + 1)) (i + 1) (by omega), qn_prd 0]
  constructor
  · intro h i hi
    have hs : ∀ i, i < (qnL 0 ps).length → ((dvL 0 (bpL (qnL 0 ps)))[i]?.getD 0).tdiv ((dvL 0 (bpL (qnL 0 ps)))[i + 1]?.getD 0) = (pF (qnL 0 ps) i).2 := fun i hi => by
      rw [← h i (by omega)]; rfl
    have hd := key hs i hi
    have he := (hok.e (i + 1)).1
    refine Prod.ext ?_ ?_
    · show ((bpL (qnL 0 ps))[i + 1]?.getD 0 - if i = 0 then 0 else (bpL (qnL 0 ps))[i]?.getD 0).tdiv ((dvL 0 (bpL (qnL 0 ps)))[i + 1]?.getD 0) = (pF ps i).1
      rw [hd, bp_at (by omega), qn_term hi]
      have e1 : (if i = 0 then 0 else (bpL (qnL 0 ps))[i]?.getD 0) = pvF 0 ps i * prdL (ps.drop i) := by
        cases i with
        | zero => simp [pvF]
        | succ i => rw [if_neg (by omega), bp_at (by omega), qn_prev (by omega)]
      rw [e1, Int.add_comm, Int.add_sub_cancel]
      exact Int.mul_tdiv_cancel _ (by omega)
    · show ((dvL 0 (bpL (qnL 0 ps)))[i]?.getD 0).tdiv ((dvL 0 (bpL (qnL 0 ps)))[i + 1]?.getD 0) = (pF ps i).2
      rw [hs i (by omega), qn_at hi]
  · intro h i hi
    have hs : ∀ i, i < (qnL 0 ps).length → ((dvL 0 (bpL (qnL 0 ps)))[i]?.getD 0).tdiv ((dvL 0 (bpL (qnL 0 ps)))[i + 1]?.getD 0) = (pF (qnL 0 ps) i).2 := fun i hi => by
      have h1 := congrArg Prod.snd (h i (by omega))
      rw [qn_at (by omega)]
      exact h1
    have hd := key hs i hi
    have he := (hok.e (i + 1)).1
    refine Prod.ext ?_ ?_
    · show ((bpL (qnL 0 ps))[i + 1]?.getD 0).tdiv ((dvL 0 (bpL (qnL 0 ps)))[i + 1]?.getD 0) = (pF (qnL 0 ps) i).1
      rw [hd, bp_at (by omega), tmF, qn_prd 0]
      exact Int.mul_tdiv_cancel _ (by omega)
    · show ((dvL 0 (bpL (qnL 0 ps)))[i]?.getD 0).tdiv ((dvL 0 (bpL (qnL 0 ps)))[i + 1]?.getD 0) = (pF (qnL 0 ps) i).2
      exact hs i (by omega)
/-! ### The answer -/
def bnA (zs : List (List Int)) : List Int := if bpB zs then bqA (qnL 0 (psOf zs)) else []
def bnC (zs : List (List Int)) : Int := if bpB zs then bqC (qnL 0 (psOf zs)) else 2
theorem bn_no {zs : List (List Int)} (h : bpB zs = false) : bnA zs = [] ∧ bnC zs = 2 := by simp [bnA, bnC, h]
theorem bn_yes {zs : List (List Int)} (h : bpB zs = true) : bnA zs = bqA (qnL 0 (psOf zs)) ∧ bnC zs = bqC (qnL 0 (psOf zs)) := by simp [bnA, bnC, h]
theorem bn_bq {zs : List (List Int)} (h : bpB zs = true) (hp : brB (bpL (qnL 0 (psOf zs))) = true) : bqB (qnL 0 (psOf zs)) = decide (prL (npF (bpL (qnL 0 (psOf zs)))) zs.length = zs) := by
  have hz : ∀ z ∈ zs, pairB z = true := by simp only [bpB, Bool.and_eq_true] at h; exact pd_pairs h.2
  have h1 := bn_same (bpB_ok h).1 hp
  rw [Bool.eq_iff_iff, bqB_iff, decide_eq_true_eq]
  have h2 : prL (npF (bpL (qnL 0 (psOf zs)))) zs.length = zs ↔ ∀ i, i < (psOf zs).length → npF (bpL (qnL 0 (psOf zs))) i = pF (psOf zs) i := by
    have e := listsOf_psOf hz
    rw [listsOf_prL] at e
    rw [← prL_eq, psOf_len, ← psOf_len zs]
    constructor
    · intro h; rw [h, e]
    · intro h; rw [h, e]
  rw [h2, ← h1, qnL_len]
  simp [hp]
theorem bnA_len (zs : List (List Int)) (h : zs.length ≤ 1048576) : (bnA zs).length ≤ 1099511627776 := by
  unfold bnA bqA; split
  · split
    · rw [bpL_len, qnL_len, psOf_len]; omega
    · simp
  · simp
end Go.Proofs.Ytoebbhicffgdgaa
/- BranchOfNewton, the model's: contract. Conditions: stated at the theorem. -/
namespace Go.Proofs.Ytoebbhicffgdgaa
open Go.ChangeShapes Go.WideShapes Go.ChangeAt Go.RowKit
set_option linter.unusedVariables false
set_option linter.unusedSimpArgs false

theorem prL_wfN {zs : List Int} (hp : brB zs = true) : ∀ x ∈ prL (npF zs) (zs.length - 1), x.length ≤ 1048576 ∧ ∀ z ∈ x, (Lit.int .i64 z).wf = true := by
  have HZ := dcB_range (brB_dcB hp)
  have HD := dvL_pos HZ (e := 0)
  intro x hx
  simp only [prL, List.mem_map, List.mem_range] at hx
  obtain ⟨i, hi, rfl⟩ := hx
  have hl := dvL_len 0 zs
  have h1 := HZ (zs[i + 1]?.getD 0) (by simp [show i + 1 < zs.length by omega])
  have h0 := HZ (zs[i]?.getD 0) (by simp [show i < zs.length by omega])
  have h2 := HD ((dvL 0 zs)[i + 1]?.getD 0) (by simp [show i + 1 < (dvL 0 zs).length by omega])
  have h3 := HD ((dvL 0 zs)[i]?.getD 0) (by simp [show i < (dvL 0 zs).length by omega])
  have h5 := tdiv_range h3 h2.1
  refine ⟨by simp, fun z hz => ?_⟩
  simp only [npF, List.mem_cons, List.not_mem_nil, or_false] at hz
  rcases hz with rfl | rfl
  · have h6 := natAbs_le9 (zs[i + 1]?.getD 0 - if i = 0 then 0 else zs[i]?.getD 0) ((dvL 0 zs)[i + 1]?.getD 0)
    have h7 : (zs[i + 1]?.getD 0 - if i = 0 then 0 else zs[i]?.getD 0).natAbs ≤ 2000 := by split <;> omega
    exact i64_wf (by omega) (by omega)
  · exact i64_wf (by omega) (by omega)

set_option maxRecDepth 100000 in
set_option maxHeartbeats 4000000 in
theorem specBranchOfNewton_any (v : Value) (zs : List (List Int)) (w : World) (h : ReadQ w w.heap.size v zs) (hsz : szTot zs ≤ 1048576) (hw' : ∀ x ∈ zs, x.length ≤ 9223372036854775807 ∧ ∀ z ∈ x, (Lit.int .i64 z).wf = true) :
    Calls Try.prog 124 #[v] w (AnsRC w (bnA zs) (bnC zs)) := by
  have hw : ∀ x ∈ zs, ∀ z ∈ x, (Lit.int .i64 z).wf = true := fun x hx => (hw' x hx).2
  clear hw'
  obtain ⟨W0, HE⟩ : ∃ W, W = w.alloc (.cells #[.slice none 0 0] 26) := ⟨_, rfl⟩
  have hS0 : Start1 w W0 := by rw [HE]; exact Start1.new _
  have hb0 := hS0.below
  have HR := Lib.hid ((h.below hb0).more hb0.size)
  have S0 := Lib.hid hS0
  have HEQ := Lib.hid HE
  have HW := Lib.hid hw
  have hsw : w.heap.size < W0.heap.size := hS0.res.2
  have hsw1 : W0.heap.size = w.heap.size + 1 := hS0.size
  have HRW := Lib.hid (h.below hb0)
  clear h hw hb0 hS0 HE hsz
  cases hp : bpB zs
  · have E := Lib.hid (bn_no hp)
    have HP := Lib.hid (pdV_no hp)
    clear hp
    go_enter Try.func124, Try.ntmps124
    go_wp2_with fail
    rw [← HEQ.out]
    refine (l03Pairs_any v zs W0 HR.out HW.out).mono ?_
    rintro e w1 ⟨rfl, hbl⟩
    rw [HP.out]
    obtain ⟨l2, l3, l4⟩ := S0.out.later hbl
    have B1 := Lib.hid (S0.out.below.trans (hbl.mono (by omega)))
    clear hbl
    go_wp2_with fail
    have cr : (w1.setCell ⟨w.heap.size, 0, none⟩ (.slice none 0 0)).cell? ⟨w.heap.size, 0, none⟩ = some (.slice none 0 0) := by go_simp
    refine bodyPost_ret (v := .tuple #[.agg #[.slice none 0 0], .int .i64 2]) (by simp [results, Try.results124, go_sem, cr]) rfl ?_
    exact ansR_endG _ (Nat.le_refl _) E.out.1.symm E.out.2.symm (OwnI.nil _ _) (by intro h; cases h) B1.out _
  have OKB := Lib.hid (bpB_ok hp)
  have hpbb := hp
  have HPB : Hid (∀ z ∈ zs, pairB z = true) := Lib.hid (by simp only [bpB, Bool.and_eq_true] at hp; exact pd_pairs hp.2)
  have E := Lib.hid (bn_yes hp)
  have HP := Lib.hid (pdV_yes hp)
  have hrq := HRW.out
  obtain ⟨A, c, rfl, h0, hN, hnc, hF, hcm⟩ := hrq
  have H0 := Lib.hid h0
  have HF := Lib.hid hF
  generalize hL : zs.length = n at *
  have HL := Lib.hid hL
  have HLP : Hid ((psOf zs).length = n) := Lib.hid (by rw [psOf_len]; exact hL)
  have h6 : n ≤ 6 := OKB.out.2
  have hpr := OKB.out.1.e 0
  simp only [List.drop_zero] at hpr
  have E0 : Hid (prdL ((psOf zs).drop 0) = prdL (psOf zs)) := Lib.hid (by simp)
  obtain ⟨m, hm⟩ : ∃ m, m = prdL (psOf zs) := ⟨_, rfl⟩
  rw [← hm] at hpr HP E0
  have HM := Lib.hid hm
  clear hp hL hm h0 hN hF HRW
  go_enter Try.func124, Try.ntmps124
  go_wp2_with fail
  rw [← HEQ.out]
  refine (l03Pairs_any _ zs W0 HR.out HW.out).mono ?_
  rintro e W1 ⟨rfl, hbl⟩
  rw [HP.out]
  have BR := Lib.hid hbl
  have H1 : Hid (∀ k, k < n → ∃ a u, A = some a ∧ a.block < w.heap.size ∧ W1.cell? (a.add k) = some u ∧ ReadI W1 w.heap.size u (zs.getD k [])) := Lib.hid (fun k hk => by
    obtain ⟨a, u, e1, h1, h2, h3⟩ := H0.out k hk
    exact ⟨a, u, e1, h1, (hbl.cell (by rw [add_block]; omega)).trans h2, h3.below (hbl.mono (by omega))⟩)
  have hszr := hbl.size
  have hm0 : (m == 0) = false := by simp; omega
  have hm1 : ¬ m = 0 := by omega
  have HO1 : Hid (OwnI ((W1.alloc (.cells #[.int .i64 m] 2)).alloc (.cells #[.slice (some ⟨W1.heap.size, 0, none⟩) 1 1] 26)) W1.heap.size ((W1.alloc (.cells #[.int .i64 m] 2)).alloc (.cells #[.slice (some ⟨W1.heap.size, 0, none⟩) 1 1] 26)).heap.size (.slice (some ⟨W1.heap.size, 0, none⟩) 1 1) [m]) := Lib.hid (OwnI.mk' (n := 1) (World.ownsRow.alloc (World.ownsRow_lit (base := W1.heap.size) W1 #[.int .i64 m] 1 (Nat.le_refl _) (by simp [maxLen]) rfl) _))
  have HC1 : Hid (((W1.alloc (.cells #[.int .i64 m] 2)).alloc (.cells #[.slice (some ⟨W1.heap.size, 0, none⟩) 1 1] 26)).cell? ⟨W1.heap.size + 1, 0, none⟩ = some (.slice (some ⟨W1.heap.size, 0, none⟩) 1 1)) := Lib.hid (by go_simp)
  have HF1 : Hid (((W1.alloc (.cells #[.int .i64 m] 2)).alloc (.cells #[.slice (some ⟨W1.heap.size, 0, none⟩) 1 1] 26)).frozen? ⟨W1.heap.size + 1, 0, none⟩ = false) := Lib.hid (by go_simp)
  have HBL : Hid (Below W1.heap.size W1 ((W1.alloc (.cells #[.int .i64 m] 2)).alloc (.cells #[.slice (some ⟨W1.heap.size, 0, none⟩) 1 1] 26))) := Lib.hid (((Below.refl _ _).alloc (Nat.le_refl _) _).alloc (by simp) _)
  have EX0 : Hid ([m] = m :: (tmL (qnL 0 (psOf zs))).take 0) := Lib.hid (by simp)
  obtain ⟨i0, hi0, hy0, hy1, hy2⟩ := info_parts int_info
  have OQ := Lib.hid (qn_ok OKB.out.1 (by rw [HLP.out]; exact h6))
  have HPB2 := Lib.hid hpbb
  clear hpbb
  clear hbl H0
  go_wp2_with fail
  go_loopw [6, 7, 8] (fun ve vl vi wr => ∃ (j l : Nat) (x s : Int) (L : List Int) (g1 : Nat) (c' : Nat), j ≤ n ∧ l = j + 1 ∧ (1 ≤ x ∧ x ≤ 64) ∧ (0 ≤ s ∧ s ≤ 64000000) ∧ ve = .int .i64 x ∧ vl = .int .i64 s ∧ vi = .int .i64 j ∧ Hid (L.length = l) ∧ (W1.heap.size ≤ g1 ∧ g1 ≠ W1.heap.size + 1) ∧ Hid (prdL ((psOf zs).drop j) = x) ∧ Hid (pvF 0 (psOf zs) j * prdL ((psOf zs).drop j) = s) ∧ Hid (L = m :: (tmL (qnL 0 (psOf zs))).take j) ∧ Hid (wr.cell? ⟨W1.heap.size + 1, 0, none⟩ = some (.slice (some ⟨g1, 0, none⟩) l c')) ∧ Hid (wr.frozen? ⟨W1.heap.size + 1, 0, none⟩ = false) ∧ Hid (OwnI wr W1.heap.size wr.heap.size (.slice (some ⟨g1, 0, none⟩) l c') L) ∧ Hid (Below W1.heap.size W1 wr)) (fun _ _ vi _ => n - (intOf vi).toNat)
  case atStart => exact ⟨0, 1, m, 0, [m], W1.heap.size, 1, by omega, by omega, hpr, by omega, rfl, rfl, rfl, Lib.hid rfl, ⟨Nat.le_refl _, by omega⟩, E0, Lib.hid (by simp [pvF]), EX0, HC1, HF1, HO1, HBL⟩
  case round =>
    clear HO1 HC1 HF1 HBL EX0 E0
    obtain ⟨j, l, x, s, L, g1, c', hj, hlj, hx, hsr, rfl, rfl, rfl, HLl, ⟨hlo, hg1p⟩, hex, hpv, hLe, hco0, hcf0, ho, hb⟩ := hrel
    have hco := hco0.out
    have hcf := hcf0.out
    have HLJ := Lib.hid hlj
    have hl7 : l ≤ 64 := by omega
    clear hlj
    have hpb : W1.heap.size + 1 < wr.heap.size := World.block_lt_of_cell? wr ⟨W1.heap.size + 1, 0, none⟩ hco
    by_cases hlt : j < n
    · obtain ⟨a0, u, rfl, hal, hcell0, hri⟩ := H1.out j hlt
      obtain ⟨g, o, rfl⟩ := HF.out a0 rfl
      have hgl0 : g < w.heap.size := hal
      have hgl : g < wr.heap.size := by omega
      have HJP : Hid (j < (psOf zs).length) := Lib.hid (by have := HLP.out; omega)
      have HJZ : Hid (j < zs.length) := Lib.hid (by have := HL.out; omega)
      have hzb : pairB (zs.getD j []) = true := HPB.out _ (by have := HJZ.out; simp [List.getD, this])
      obtain ⟨a, b, hz, ha, hb9, hpo⟩ := pairB_form hzb
      have HPF : Hid (pF (psOf zs) j = (a, b)) := Lib.hid (by rw [psOf_at HJZ.out, hz]; rw [hz] at hpo; exact hpo)
      have hri2 := (hri.below (hb.out.mono (by omega)))
      rw [hz] at hri2
      obtain ⟨q, A', c2, rfl, hr', HL', HN', hnc', HF', hcm'⟩ := hri2.split2
      obtain rfl : q = 2 := by have := HL'.out; simp at this; omega
      obtain ⟨a1, rfl, hal1, hc1⟩ := hr'.2 0 (by omega)
      obtain ⟨g', o', rfl⟩ := HF'.out a1 rfl
      obtain ⟨a2, e2, _, hc2⟩ := hr'.2 1 (by omega)
      cases e2
      have hal1' : g' < w.heap.size := hal1
      have hgl' : g' < wr.heap.size := by omega
      have hca : wr.cell? ⟨g', o', none⟩ = some (.int .i64 a) := by simpa [Addr.add] using hc1
      have hcb : wr.cell? ⟨g', o' + 1, none⟩ = some (.int .i64 b) := by simpa [Addr.add] using hc2
      have hce : wr.cell? ⟨g, o + j, none⟩ = some (.slice (some ⟨g', o', none⟩) 2 c2) := by rw [← add_lit, hb.out.cell (by rw [add_block]; show g < _; omega)]; exact hcell0
      obtain ⟨y, hy⟩ : ∃ y, y = prdL ((psOf zs).drop (j + 1)) := ⟨_, rfl⟩
      have hyr := OKB.out.1.e (j + 1)
      rw [← hy] at hyr
      have HX : Hid (x = b * y) := Lib.hid (by rw [← hex.out, prdL_drop HJP.out, HPF.out, ← hy])
      have HT : Hid (tmF (qnL 0 (psOf zs)) j = s + a * y) := Lib.hid (by rw [qn_term HJP.out, hpv.out, HPF.out, ← hy])
      have HY : Hid (prdL ((psOf zs).drop (j + 1)) = y) := Lib.hid hy.symm
      have HJQ : Hid (j < (qnL 0 (psOf zs)).length) := Lib.hid (by rw [qnL_len]; exact HJP.out)
      have htr := OQ.out.term HJQ.out
      rw [HT.out] at htr
      have hay := mul_rangeB ha hyr
      have p1 : IntKind.i64.wrap (a * y) = a * y := IntWalk.i64_in _ (by omega)
      have p3 : IntKind.i64.wrap (s + a * y) = s + a * y := IntWalk.i64_in _ (by omega)
      have hb0 : (b == 0) = false := by simp; omega
      have hb1 : ¬ b = 0 := by omega
      have hdv : x.tdiv b = y := by rw [HX.out]; exact Int.mul_tdiv_cancel_left y hb1
      have p2 : IntKind.i64.wrap (x.tdiv b) = y := by rw [hdv]; exact IntWalk.i64_in _ (by omega)
      have hjn : (j : Int) < (n : Int) := by omega
      have hj9 : (0 : Int) ≤ (j : Int) := by omega
      have HZZ : Hid (pvF 0 (psOf zs) (j + 1) * prdL ((psOf zs).drop (j + 1)) = s + a * y) := Lib.hid (by rw [qn_prev HJP.out, HT.out])
      have HG : Hid (L ++ [s + a * y] = m :: (tmL (qnL 0 (psOf zs))).take (j + 1)) := Lib.hid (by
        have e1 : j < (tmL (qnL 0 (psOf zs))).length := by rw [tmL_len]; exact HJQ.out
        have e2 := tmL_at HJQ.out
        rw [List.take_succ_eq_append_getElem e1, hLe.out, ← HT.out, ← e2]
        simp [List.getD, e1])
      have hg1p' : g1 ≠ W1.heap.size + 1 := hg1p
      have hzzr : 0 ≤ s + a * y ∧ s + a * y ≤ 64000000 := by omega
      generalize hay2 : a * y = ay at *
      generalize hzz : s + ay = zz at *
      clear hy hz hpo hzb hri hri2 hr' HF' hc1 hc2 hcell0 HT HX hex hpv
      have HOw : Hid (Own wr W1.heap.size (.slice (some ⟨g1, 0, none⟩) l c') l (L.map (.int .i64))) := Lib.hid (by have := ho.out.1; rw [HLl.out] at this; exact this)
      go_wp2_with (at_builtin; go_loud (refine wpList_append_own _ rfl _ _ 24 rfl W1.heap.size 2 i0 (.int .i64 0) 1 8 Try.underlying24 hi0 hy0 hy1 hy2 rfl ?_ _ l (L.map (.int .i64)) rfl (World.ownsRow.alloc HOw.out _) ⟨wr.heap.size, 0, none⟩ 1 1 [.int .i64 zz] rfl rfl ?_ ?_ ?_ ?_ ?_ ?_; (decide); (exact World.news_of_block (cs := #[.int .i64 zz]) (t := 2) (fr := (0, 0)) (heap_alloc_new wr _)); (simp [Value.oneCell']); (simp only [maxLen]; omega); (omega); (simp; omega); intro v1 w2 hown1 hgrow _; obtain ⟨A2, cap2, rfl⟩ := own_form hown1; have HO1 : Hid (OwnI w2 W1.heap.size w2.heap.size (.slice A2 (l + 1) cap2) (L ++ [zz])) := Lib.hid (OwnI.mk' (n := l + 1) (by rw [List.map_append]; exact hown1)); have hbx : Below W1.heap.size wr w2 := ((Below.refl W1.heap.size wr).alloc (by omega) _).grown hgrow (by simp; omega) (fun k hk => (Own.lt ho.out.1 k hk).1); have HBX := Lib.hid hbx; have hpa : W1.heap.size + 1 < (wr.alloc (.cells #[.int .i64 zz] 2)).heap.size := (by simp; omega); have hpn : some (W1.heap.size + 1) ≠ (Value.slice (some ⟨g1, 0, none⟩) l c').ownBlock := (by simp [Value.ownBlock]; omega); have c3 : w2.cell? ⟨W1.heap.size + 1, 0, none⟩ = some (.slice (some ⟨g1, 0, none⟩) l c') := (hgrow.cell_far ⟨W1.heap.size + 1, 0, none⟩ hpa hpn).trans (((below_box wr _).cell (p := ⟨W1.heap.size + 1, 0, none⟩) hpb).trans hco); have f3 : w2.frozen? ⟨W1.heap.size + 1, 0, none⟩ = false := (hgrow.frozen_far ⟨W1.heap.size + 1, 0, none⟩ hpa hpn).trans (((below_box wr _).frozen (p := ⟨W1.heap.size + 1, 0, none⟩) hpb).trans hcf); have hl1 : (L ++ [zz]).length = l + 1 := (by simp [HLl.out]); obtain ⟨g2, e2, hg2lo, hg2lt, hg2c, _⟩ := own_at HO1.out hl1 (show 0 < l + 1 by omega); subst e2; have hg2p : g2 ≠ W1.heap.size + 1 := (by rintro rfl; rw [c3] at hg2c; simp at hg2c); clear hown1 hgrow hbx hg2c hl1 hpa hpn))
      have HC3 : Hid ((w2.setCell ⟨W1.heap.size + 1, 0, none⟩ (.slice (some ⟨g2, 0, none⟩) (l + 1) cap2)).cell? ⟨W1.heap.size + 1, 0, none⟩ = some (.slice (some ⟨g2, 0, none⟩) (l + 1) cap2)) := Lib.hid (by go_simp)
      have HF3 : Hid ((w2.setCell ⟨W1.heap.size + 1, 0, none⟩ (.slice (some ⟨g2, 0, none⟩) (l + 1) cap2)).frozen? ⟨W1.heap.size + 1, 0, none⟩ = false) := Lib.hid (by go_simp)
      have HO3 : Hid (OwnI (w2.setCell ⟨W1.heap.size + 1, 0, none⟩ (.slice (some ⟨g2, 0, none⟩) (l + 1) cap2)) W1.heap.size (w2.setCell ⟨W1.heap.size + 1, 0, none⟩ (.slice (some ⟨g2, 0, none⟩) (l + 1) cap2)).heap.size (.slice (some ⟨g2, 0, none⟩) (l + 1) cap2) (L ++ [zz])) := Lib.hid (by have h := own_set HO1.out (p := ⟨W1.heap.size + 1, 0, none⟩) (u := .slice (some ⟨g2, 0, none⟩) (l + 1) cap2) (by simp [Value.ownBlock]; omega); simpa [World.setCell] using h)
      have HB3 : Hid (Below W1.heap.size W1 (w2.setCell ⟨W1.heap.size + 1, 0, none⟩ (.slice (some ⟨g2, 0, none⟩) (l + 1) cap2))) := Lib.hid ((hb.out.trans (HBX.out.mono (Nat.le_refl _))).setCell (by show W1.heap.size ≤ W1.heap.size + 1; omega) _)
      go_roundw
      case rel => exact ⟨j + 1, l + 1, y, zz, L ++ [zz], g2, cap2, by omega, by have := HLJ.out; omega, hyr, hzzr, rfl, rfl, by go_num, Lib.hid (by simp [HLl.out]), ⟨hg2lo, hg2p⟩, HY, HZZ, HG, HC3, HF3, HO3, HB3⟩
      case measure => simp [intOf]; omega
    · obtain rfl : j = n := by omega
      have HX : Hid (bpL (qnL 0 (psOf zs)) = L) := Lib.hid (by rw [hLe.out, bpL, List.take_of_length_le (by rw [tmL_len, qnL_len, HLP.out]; exact Nat.le_refl _), HM.out]; congr 1; simpa using qn_prd 0 (psOf zs) 0 0)
      have HWL : Hid (∀ z ∈ L, (Lit.int .i64 z).wf = true) := Lib.hid (by
        rw [← HX.out]
        intro z hz
        have := OQ.out.range (by omega) z hz
        exact i64_wf (by omega) (by omega))
      have HB2 := Lib.hid (BR.out.trans (hb.out.mono (by omega)))
      cases hp : brB L
      · have E2 := Lib.hid (bq_no (ps := qnL 0 (psOf zs)) (by simp [bqB, HX.out, hp]))
        have HP2 := Lib.hid hp
        clear hp
        go_wp2_with fail
        refine (l03Is_if _ L wr false ho.out.reads (by rw [HLl.out]; omega) HWL.out HP2.out).mono ?_
        rintro e w6 ⟨rfl, hb6⟩
        obtain ⟨l2, l3, l4⟩ := S0.out.later (HB2.out.trans (hb6.mono (by omega)))
        have B6 := Lib.hid (S0.out.below.trans ((HB2.out.trans (hb6.mono (by omega))).mono (by omega)))
        clear hb6
        go_wp2_with fail
        have cr : (w6.setCell ⟨w.heap.size, 0, none⟩ (.slice none 0 0)).cell? ⟨w.heap.size, 0, none⟩ = some (.slice none 0 0) := by go_simp
        refine bodyPost_ret (v := .tuple #[.agg #[.slice none 0 0], .int .i64 5]) (by simp [results, Try.results124, go_sem, cr]) rfl ?_
        exact ansR_endG _ (Nat.le_refl _) (by rw [E.out.1, E2.out.1]) (by rw [E.out.2, E2.out.2]) (OwnI.nil _ _) (by intro h; cases h) B6.out _
      · have HP2 := Lib.hid hp
        clear hp
        go_wp2_with fail
        refine (l03Is_if _ L wr true ho.out.reads (by rw [HLl.out]; omega) HWL.out HP2.out).mono ?_
        rintro e w6 ⟨rfl, hb6⟩
        have hc6 : w6.cell? ⟨W1.heap.size + 1, 0, none⟩ = some (.slice (some ⟨g1, 0, none⟩) l c') := by rw [hb6.cell (p := ⟨W1.heap.size + 1, 0, none⟩) hpb]; exact hco
        have K6 := Lib.hid hb6
        have R6 := Lib.hid ((ho.out.reads.below hb6).more hb6.size)
        have hs6 := hb6.size
        clear hb6
        go_wp2_with fail
        refine (l03Newton_any _ L w6 R6.out (by rw [HLl.out]; omega) HP2.out).mono ?_
        rintro e w7 ⟨v7, rfl, ho7, hb7⟩
        have hLn : L.length - 1 = j := by have := HLl.out; have := HLJ.out; omega
        rw [hLn] at ho7
        have K7 := Lib.hid (K6.out.trans (hb7.mono (by omega)))
        have O7 := Lib.hid ho7
        have hs7 := hb7.size
        have RZ : Hid (ReadQ w7 W0.heap.size (.slice A j c) zs) := Lib.hid (HR.out.below (HB2.out.trans (K7.out.mono (by omega))))
        clear hb7 ho7
        go_wp2_with fail
        refine (l01Same2_any _ _ (prL (npF L) j) zs w7 _ _ O7.out.reads RZ.out (by rw [prL_len]; omega) (by have := HL.out; omega) ?_ ?_).mono ?_
        · rw [← hLn]; exact prL_wfN HP2.out
        · exact fun x hx => ⟨by obtain ⟨a, b, rfl, _⟩ := pairB_form (HPB.out x hx); simp, HW.out x hx⟩
        rintro e w8 ⟨rfl, q8, rfl⟩
        have hb8 : Below w7.heap.size w7 (w7.drewN q8) := below_drewN (Below.refl _ _) q8
        have K8 := Lib.hid (K7.out.trans (hb8.mono (by omega)))
        obtain ⟨l2, l3, l4⟩ := S0.out.later (HB2.out.trans (K8.out.mono (by omega)))
        have B8 := Lib.hid (S0.out.below.trans ((HB2.out.trans (K8.out.mono (by omega))).mono (by omega)))
        have HBB : Hid (bqB (qnL 0 (psOf zs)) = decide (prL (npF L) j = zs)) := Lib.hid (by rw [bn_bq HPB2.out (by rw [HX.out]; exact HP2.out), HX.out, HL.out])
        have hs8 := hb8.size
        have hc8 : (w7.drewN q8).cell? ⟨W1.heap.size + 1, 0, none⟩ = some (.slice (some ⟨g1, 0, none⟩) l c') := by rw [K8.out.cell (p := ⟨W1.heap.size + 1, 0, none⟩) hpb]; exact hco
        have O8 : Hid (OwnI (w7.drewN q8) W1.heap.size wr.heap.size (.slice (some ⟨g1, 0, none⟩) l c') L) := Lib.hid (ho.out.kept (Kept.of_below K8.out (Nat.le_refl _)))
        generalize hW8 : w7.drewN q8 = w8 at *
        generalize decide (prL (npF L) j = zs) = bb at *
        clear hb8
        cases bb
        · have E2 := Lib.hid (bq_no HBB.out)
          go_wp2_with fail
          have cr : (w8.setCell ⟨w.heap.size, 0, none⟩ (.slice none 0 0)).cell? ⟨w.heap.size, 0, none⟩ = some (.slice none 0 0) := by go_simp
          refine bodyPost_ret (v := .tuple #[.agg #[.slice none 0 0], .int .i64 5]) (by simp [results, Try.results124, go_sem, cr]) rfl ?_
          exact ansR_endG _ (Nat.le_refl _) (by rw [E.out.1, E2.out.1]) (by rw [E.out.2, E2.out.2]) (OwnI.nil _ _) (by intro h; cases h) B8.out _
        · have E2 := Lib.hid (bq_yes HBB.out)
          go_wp2_with fail
          have cr : (w8.setCell ⟨w.heap.size, 0, none⟩ (.slice (some ⟨g1, 0, none⟩) l c')).cell? ⟨w.heap.size, 0, none⟩ = some (.slice (some ⟨g1, 0, none⟩) l c') := by go_simp
          refine bodyPost_ret (v := .tuple #[.agg #[.slice (some ⟨g1, 0, none⟩) l c'], .int .i64 0]) (by simp [results, Try.results124, go_sem, cr]) rfl ?_
          exact ansR_endG _ (Nat.le_refl _) (by rw [E.out.1, E2.out.1, HX.out]) (by rw [E.out.2, E2.out.2]) ((own_lessB O8.out (by omega)).raise (by omega) (Nat.le_refl _)) (by simp [Value.ownBlock]; omega) B8.out _
end Go.Proofs.Ytoebbhicffgdgaa
