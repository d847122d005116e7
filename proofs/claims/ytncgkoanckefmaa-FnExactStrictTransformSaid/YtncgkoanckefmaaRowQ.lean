/- A list of lists that grows by one, and a number of it that is written: words. Conditions: stated at each theorem. -/
import Derived.Test.YtncgkoanckefmaaKeepQ
import Derived.Test.YtncgkoanckefmaaBrW
import Derived.Test.YtncgkoanckefmaaTrim
import Derived.Maps.AppendAt
import Derived.Deep.AppendLies
namespace Go.Proofs.Ytncgkoanckefmaa
open Go.ChangeShapes Go.WideShapes Go.ChangeAt Go.RowKit
set_option linter.unusedVariables false
set_option linter.unusedSimpArgs false

theorem list2R {w : World} {lo : Nat} (hlo : lo ≤ w.heap.size) (a b : Int) : OwnI (w.alloc (.cells #[.int .i64 a, .int .i64 b] 2)) lo (w.alloc (.cells #[.int .i64 a, .int .i64 b] 2)).heap.size (.slice (some ⟨w.heap.size, 0, none⟩) 2 2) [a, b] :=
  OwnI.mk' (n := 2) (World.ownsRow_lit (base := lo) w #[.int .i64 a, .int .i64 b] 2 (e := 2) (size := 1) hlo (by simp [maxLen]) rfl)
theorem kept_boxR (w : World) (o : Obj) (lo hi : Nat) (h : hi ≤ w.heap.size) : Kept lo hi w (w.alloc o) := Kept.of_below (below_box2 w o) h
theorem rows_snocR {wr w1 w2 : World} {lo k g2 cap2 l h : Nat} {v u : Value} {us : List Value} {ls hs : Nat → Nat} {L : List (List Int)} {zs : List Int}
    (hr : Rows2 wr lo wr.heap.size v k us ls hs (fun i l h u => OwnI wr l h u (L.getD i []))) (hL : L.length = k) (hlo : lo ≤ wr.heap.size)
    (hw1 : Below wr.heap.size wr w1) (hu : OwnI w1 l h u zs) (hl : wr.heap.size ≤ l) (hh : h ≤ w1.heap.size)
    (hown : w2.ownsRow lo 22 1 (.slice (some ⟨g2, 0, none⟩) (k + 1) cap2) (k + 1) (us ++ [u])) (hgrow : w1.grownBy w2 v.ownBlock)
    (hg : v.ownBlock = some g2 ∨ g2 = w1.heap.size) (hg2 : g2 < w2.heap.size) :
    OwnQ w2 lo w2.heap.size (.slice (some ⟨g2, 0, none⟩) (k + 1) cap2) (L ++ [zs]) := by
  obtain ⟨r1, r2, r3, r4, r5⟩ := hr
  have hlen : (L ++ [zs]).length = k + 1 := by simp [hL]
  have hus : us.length = k := by have := r1.1; omega
  have hs1 := hw1.size
  have hs2 := hgrow.size
  refine ⟨us ++ [u], (fun i => if i = k then l else ls i), (fun i => if i = k then h else hs i), ?_⟩
  rw [hlen]
  refine ⟨hown, fun kb hkb => ?_, Nat.le_refl _, fun i hi => ?_, fun i j hij hj => ?_⟩
  · obtain rfl : g2 = kb := by simpa [Value.ownBlock] using hkb
    refine ⟨hg2, fun i hi => ?_⟩
    by_cases h1 : i = k
    · simp only [if_pos h1]
      rcases hg with h | h
      · have := (r2 _ h).1; exact Or.inl (by omega)
      · exact Or.inr (by omega)
    · simp only [if_neg h1]
      rcases hg with h | h
      · exact (r2 _ h).2 i (by omega)
      · have := (r4 i (by omega)).2.1; exact Or.inr (by omega)
  · by_cases h1 : i = k
    · subst h1
      simp only [if_true]
      have e1 : (us ++ [u]).getD i undef = u := by simp [List.getD, ← hus]
      have e2 : (L ++ [zs]).getD i [] = zs := by simp [List.getD, ← hL]
      refine ⟨by omega, by omega, ?_⟩
      show OwnI w2 l h ((us ++ [u]).getD i undef) ((L ++ [zs]).getD i [])
      rw [e1, e2]
      refine hu.kept ⟨hs2, fun b h1 h2 => hgrow.block b (by omega) (fun e => ?_)⟩
      have := (r2 b e.symm).1; omega
    · simp only [if_neg h1]
      have h4 := r4 i (by omega)
      have e1 : (us ++ [u]).getD i undef = us.getD i undef := by simp [List.getD, List.getElem?_append_left (show i < us.length by omega)]
      have e2 : (L ++ [zs]).getD i [] = L.getD i [] := by simp [List.getD, List.getElem?_append_left (show i < L.length by omega)]
      refine ⟨h4.1, by omega, ?_⟩
      show OwnI w2 (ls i) (hs i) ((us ++ [u]).getD i undef) ((L ++ [zs]).getD i [])
      rw [e1, e2]
      refine OwnI.kept h4.2.2 ⟨by omega, fun b h1 h2 => (hgrow.block b (by omega) (fun e => ?_)).trans (hw1.block b (by omega))⟩
      have := (r2 b e.symm).2 i (by omega); omega
  · by_cases h1 : j = k
    · simp only [if_pos h1, if_neg (show ¬ i = k by omega)]
      have := (r4 i (by omega)).2.1
      exact Or.inl (by omega)
    · simp only [if_neg h1, if_neg (show ¬ i = k by omega)]
      exact r5 i j hij (by omega)
theorem ownQ_newR (w : World) (lo : Nat) (h : lo ≤ w.heap.size) : OwnQ (w.alloc (.cells #[] 22)) lo (w.alloc (.cells #[] 22)).heap.size (.slice (some ⟨w.heap.size, 0, none⟩) 0 0) [] :=
  ⟨[], fun _ => 0, fun _ => 0, World.ownsRow_lit (base := lo) w #[] 0 (e := 22) (size := 1) h (by simp [maxLen]) rfl, fun k hk => by cases hk; exact ⟨by simp, fun i hi => by simp at hi⟩, Nat.le_refl _, fun i hi => by simp at hi, fun i j _ hj => by simp at hj⟩

theorem wpList_append_lies {P : Program} {w : World} {ops : Array Oper} {rest : List Oper} {o : Oper} {a : Act} {Q : Exit → Act → World → Prop} (hgd : o.guard = none) (s x : Operand) (t : TypeId)
    (ho : o.op = .call { callee := .builtin .append, args := #[s, x], argTypes := #[t, t] })
    (base : Nat) (e : TypeId) (i : TypeInfo) (z : Value) (size bytes : Nat) (ht : P.underlying t = some (.slice e)) (hi : P.info? e = some i) (hz : i.zero = some z)
    (hsize : i.size = size) (hby : i.bytes = bytes) (hzs : z.cells.size = size) (hsz : 0 < size)
    (v : Value) (n : Nat) (xs : List Value) (hs : a.eval s = v) (hown : w.ownsRow base e size v n xs)
    (ad : Addr) (m c : Nat) (news : List Value) (hx : a.eval x = .slice (some ad) m c) (hl : news.length = m * size) (hnews : ∀ j u, news[j]? = some u → w.cell? (ad.add j) = some u) (h1 : ∀ u ∈ news, u.oneCell' = true)
    (hm : 0 < m) (h63 : n + m ≤ maxLen) (hbytes : (n + m) * bytes ≤ 140737488355328) (hbase : base ≤ w.heap.size)
    (h : ∀ g cap w', w'.ownsRow base e size (.slice (some ⟨g, 0, none⟩) (n + m) cap) (n + m) (xs ++ news) → w.grownBy w' v.ownBlock → (v.ownBlock = some g ∨ g = w.heap.size) → g < w'.heap.size → wpList P ops Q rest (a.put o.dst (.slice (some ⟨g, 0, none⟩) (n + m) cap)) w') : wpList P ops Q (o :: rest) a w :=
  wpList_plain hgd fun _ hK => wp_append_lies w s x t ho base e i z size bytes ht hi hz hsize hby hzs hsz v n xs hs hown ad m c news hx hl hnews h1 hm h63 hbytes hbase w.heap.size rfl fun g cap w' h2 h3 h4 h5 => hK _ _ (h g cap w' h2 h3 h4 h5)

theorem ints_infoR : (Try.prog.info? 22).map (fun i => (i.zero, i.size, i.bytes)) = some (some (.slice none 0 0), 1, 24) := by kernel_rfl
/-- Where the cells of a list of lists lie. -/
theorem rows_at {w : World} {lo hi n c i j : Nat} {A : Option Addr} {L : List (List Int)} (h : OwnQ w lo hi (.slice A n c) L) (hL : L.length = n) (hi' : i < n) (hj : j < (L.getD i []).length) :
    ∃ go gi ci, A = some ⟨go, 0, none⟩ ∧ lo ≤ go ∧ go < hi ∧ w.cell? ⟨go, i, none⟩ = some (.slice (some ⟨gi, 0, none⟩) (L.getD i []).length ci) ∧ lo ≤ gi ∧ gi < hi ∧ w.cell? ⟨gi, j, none⟩ = some (.int .i64 ((L.getD i [])[j]?.getD 0)) ∧ w.frozen? ⟨gi, j, none⟩ = false := by
  subst hL
  obtain ⟨us, ls, hs, r1, r2, r3, r4, r5⟩ := h
  have h4 := r4 i hi'
  obtain ⟨gA, cA, eA⟩ := own_form h4.2.2.1
  have h5 := h4.2.2
  rw [eA] at h5
  obtain ⟨gi, e1, h6, h7, h8, h9⟩ := own_at h5 rfl hj
  subst e1
  rcases r1.2 with ⟨e, e0⟩ | ⟨go, cap, cur, e, hb, hg, hnc, hcm, hcs, hcur⟩
  · omega
  · simp only [Value.slice.injEq] at e
    obtain ⟨rfl, _, rfl⟩ := e
    refine ⟨go, gi, cA, rfl, hb, (r2 go rfl).1, ?_, by omega, by omega, h8, h9⟩
    rw [World.ownsRow.cellAt r1 i (by omega)]
    have hus : us.length = L.length := by have := r1.1; omega
    have : us[i]? = some (us.getD i undef) := by simp [List.getD, show i < us.length by omega]
    rw [this, eA]
/-- A number of a list of lists is written. -/
theorem rows_set {w : World} {lo hi n c i j gi : Nat} {A : Option Addr} {L : List (List Int)} {ci : Nat} (h : OwnQ w lo hi (.slice A n c) L) (hL : L.length = n) (hi' : i < n) (hc : ∀ go, A = some ⟨go, 0, none⟩ → w.cell? ⟨go, i, none⟩ = some (.slice (some ⟨gi, 0, none⟩) (L.getD i []).length ci)) (z : Int) :
    OwnQ (w.setCell ⟨gi, j, none⟩ (.int .i64 z)) lo hi (.slice A n c) (L.set i ((L.getD i []).set j z)) := by
  subst hL
  obtain ⟨us, ls, hs, r1, r2, r3, r4, r5⟩ := h
  have hus : us.length = L.length := by have := r1.1; omega
  have hui : us.getD i undef = .slice (some ⟨gi, 0, none⟩) (L.getD i []).length ci := by
    rcases r1.2 with ⟨e, e0⟩ | ⟨go, cap, cur, e, hb, hg, _⟩
    · omega
    · simp only [Value.slice.injEq] at e
      obtain ⟨rfl, _, rfl⟩ := e
      have h1 := hc go rfl
      rw [World.ownsRow.cellAt r1 i (by omega)] at h1
      simp [List.getD, h1]
  have h4 := r4 i hi'
  have h5 := h4.2.2
  rw [hui] at h5
  have hgl : ls i ≤ gi ∧ gi < hs i := ⟨(h5.1.lt gi rfl).1, h5.2.1 gi rfl⟩
  have hk : ∀ b, b ≠ gi → (w.setCell ⟨gi, j, none⟩ (.int .i64 z)).heap[b]? = w.heap[b]? := fun b hb => Below.heap_setCell _ _ _ _ (fun e => hb (by simpa using e))
  have hsz : (w.setCell ⟨gi, j, none⟩ (.int .i64 z)).heap.size = w.heap.size := by simp [World.setCell]
  have hlen : (L.set i ((L.getD i []).set j z)).length = L.length := by simp
  refine ⟨us, ls, hs, ?_⟩
  rw [hlen]
  refine ⟨?_, r2, by rw [hsz]; exact r3, fun m hm => ?_, r5⟩
  · refine World.ownsRow.kept r1 (grown_setCell (a := w) (g := gi) ⟨rfl, rfl, rfl, Nat.le_refl _, fun _ _ _ => rfl⟩ rfl _) (.inr fun e => ?_)
    have := (r2 gi e).2 i hi'
    omega
  · by_cases hmi : m = i
    · subst hmi
      have e2 : (L.set m ((L.getD m []).set j z)).getD m [] = (L.getD m []).set j z := by simp [List.getD, hm]
      refine ⟨h4.1, h4.2.1, ?_⟩
      show OwnI _ (ls m) (hs m) (us.getD m undef) ((L.set m ((L.getD m []).set j z)).getD m [])
      rw [e2, hui]
      have h6 := own_store (j := j) h5 rfl z
      simpa using h6
    · have e2 : (L.set i ((L.getD i []).set j z)).getD m [] = L.getD m [] := by simp [List.getD, List.getElem?_set_ne (fun e => hmi e.symm)]
      have h6 := r4 m hm
      refine ⟨h6.1, h6.2.1, ?_⟩
      show OwnI _ (ls m) (hs m) (us.getD m undef) ((L.set i ((L.getD i []).set j z)).getD m [])
      rw [e2]
      refine OwnI.kept h6.2.2 ⟨by rw [hsz]; exact Nat.le_refl _, fun b h7 h8 => hk b fun e => ?_⟩
      rcases Nat.lt_or_ge m i with h9 | h9
      · have := r5 m i h9 hi'; omega
      · have := r5 i m (by omega) hm; omega
end Go.Proofs.Ytncgkoanckefmaa
