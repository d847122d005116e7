/- Binomials of semigroups: lists; a list of lists that grows by two. Conditions: stated at each theorem. -/
import Derived.Test.YtaigcmhfhdapdaaGnC
import Derived.Test.YtaigcmhfhdapdaaPrQ
import Derived.Test.YtaigcmhfhdapdaaPp
namespace Go.Proofs.Ytaigcmhfhdapdaa
open Go.ChangeShapes Go.WideShapes Go.ChangeAt Go.RowKit Go.Deep
set_option linter.unusedVariables false
set_option linter.unusedSimpArgs false


/-- The lists of the first k pairs. -/
def sbL (zs : List Int) : Nat → List (List Int)
  | 0 => []
  | k + 1 => sbL zs k ++ [[(((dvL 0 zs)[k]?.getD 0).tdiv ((dvL 0 zs)[k + 1]?.getD 0)) * ((gnB zs)[k + 1]?.getD 0), 1], [(gnB zs)[k + 1]?.getD 0, -1]]
def sbB (zs : List Int) : List (List Int) := if zs.length = 1 then [] else sbL zs (zs.length - 1) ++ [[zs[0]?.getD 0, -1], [1, 1]]
def sbA (zs : List Int) : List (List Int) := if brB zs then sbB zs else []
theorem sbL_len (zs : List Int) (k : Nat) : (sbL zs k).length = 2 * k := by
  induction k with
  | zero => rfl
  | succ k ih => simp [sbL, ih]; omega
theorem sbL_step (zs : List Int) (k : Nat) : sbL zs (k + 1) = sbL zs k ++ [[(((dvL 0 zs)[k]?.getD 0).tdiv ((dvL 0 zs)[k + 1]?.getD 0)) * ((gnB zs)[k + 1]?.getD 0), 1], [(gnB zs)[k + 1]?.getD 0, -1]] := rfl
theorem sbL_two (zs : List Int) (k : Nat) : ∀ l ∈ sbL zs k, l.length = 2 := by
  induction k with
  | zero => intro l h; cases h
  | succ k ih =>
    intro l h
    rw [sbL_step] at h
    rcases List.mem_append.1 h with h | h
    · exact ih l h
    · simp only [List.mem_cons, List.not_mem_nil, or_false] at h
      rcases h with rfl | rfl <;> rfl
theorem sumTo_two {L : List (List Int)} (h : ∀ l ∈ L, l.length = 2) (n : Nat) : sumTo (lens L) n ≤ 2 * n := by
  induction n with
  | zero => simp [sumTo]
  | succ n ih =>
    have : lens L n ≤ 2 := by
      unfold lens
      by_cases hn : n < L.length
      · have h1 := h L[n] (List.getElem_mem _)
        simp [List.getD, hn, h1]
      · simp [List.getD, List.getElem?_eq_none (show L.length ≤ n by omega)]
    show sumTo (lens L) n + lens L n ≤ _
    omega
theorem sbA_sz {zs : List Int} (h : zs.length ≤ 1048576) : szTot (sbA zs) ≤ 549755813888 := by
  have h0 : szTot ([] : List (List Int)) = 0 := rfl
  unfold sbA
  split
  · unfold sbB
    split
    · rw [h0]; omega
    · have h1 : ∀ l ∈ sbL zs (zs.length - 1) ++ [[zs[0]?.getD 0, -1], [1, 1]], l.length = 2 := fun l hl => by
        rcases List.mem_append.1 hl with h | h
        · exact sbL_two _ _ l h
        · simp only [List.mem_cons, List.not_mem_nil, or_false] at h
          rcases h with rfl | rfl <;> rfl
      have h2 := sumTo_two h1 (sbL zs (zs.length - 1) ++ [[zs[0]?.getD 0, -1], [1, 1]]).length
      have h3 : (sbL zs (zs.length - 1) ++ [[zs[0]?.getD 0, -1], [1, 1]]).length = 2 * (zs.length - 1) + 2 := by rw [List.length_append, sbL_len]; rfl
      unfold szTot
      omega
  · rw [h0]; omega

theorem gnB_first {zs : List Int} (hp : brB zs = true) : (gnB zs)[0]?.getD 0 = zs[0]?.getD 0 := by
  cases zs with
  | nil => cases hp
  | cons n r => simp [gnB, gnL]
theorem ownQ_wide {w : World} {lo hi lo' hi' : Nat} {v : Value} {zss : List (List Int)} (h : OwnQ w lo hi v zss) (hl : lo' ≤ lo) (hh : hi ≤ hi') (hs : hi' ≤ w.heap.size) : OwnQ w lo' hi' v zss := by
  obtain ⟨us, ls, hs', r1, r2, r3, r4, r5⟩ := ownQ_less h hl
  exact ⟨us, ls, hs', r1, fun k hk => ⟨by have := (r2 k hk).1; omega, (r2 k hk).2⟩, hs, fun i hi => ⟨(r4 i hi).1, by have := (r4 i hi).2.1; omega, (r4 i hi).2.2⟩, r5⟩
theorem rows_join {wr w1 w2 : World} {lo k m g2 cap2 : Nat} {v : Value} {us ue : List Value} {ls hs lE hE : Nat → Nat} {L E : List (List Int)}
    (hr : Rows2 wr lo wr.heap.size v k us ls hs (fun i l h u => OwnI wr l h u (L.getD i []))) (hL : L.length = k) (hEl : E.length = m) (hue : ue.length = m) (hlo : lo ≤ wr.heap.size)
    (hw1 : Below wr.heap.size wr w1) (hu : ∀ j, j < m → wr.heap.size ≤ lE j ∧ hE j ≤ w1.heap.size ∧ OwnI w1 (lE j) (hE j) (ue.getD j undef) (E.getD j [])) (hd : ∀ i j, i < j → j < m → (hE i ≤ lE j ∨ hE j ≤ lE i))
    (hown : w2.ownsRow lo 22 1 (.slice (some ⟨g2, 0, none⟩) (k + m) cap2) (k + m) (us ++ ue)) (hgrow : w1.grownBy w2 v.ownBlock)
    (hg : v.ownBlock = some g2 ∨ g2 = w1.heap.size) (hg2 : g2 < w2.heap.size) :
    OwnQ w2 lo w2.heap.size (.slice (some ⟨g2, 0, none⟩) (k + m) cap2) (L ++ E) := by
  obtain ⟨r1, r2, r3, r4, r5⟩ := hr
  have hlen : (L ++ E).length = k + m := by simp [hL, hEl]
  have hus : us.length = k := by have := r1.1; omega
  have hs1 := hw1.size
  have hs2 := hgrow.size
  refine ⟨us ++ ue, (fun i => if i < k then ls i else lE (i - k)), (fun i => if i < k then hs i else hE (i - k)), ?_⟩
  rw [hlen]
  refine ⟨hown, fun kb hkb => ?_, Nat.le_refl _, fun i hi => ?_, fun i j hij hj => ?_⟩
  · obtain rfl : g2 = kb := by simpa [Value.ownBlock] using hkb
    refine ⟨hg2, fun i hi => ?_⟩
    by_cases h1 : i < k
    · simp only [if_pos h1]
      rcases hg with h | h
      · exact (r2 _ h).2 i (by omega)
      · have := (r4 i (by omega)).2.1; exact Or.inr (by omega)
    · simp only [if_neg h1]
      have h3 := hu (i - k) (by omega)
      rcases hg with h | h
      · have := (r2 _ h).1; exact Or.inl (by omega)
      · exact Or.inr (by omega)
  · by_cases h1 : i < k
    · simp only [if_pos h1]
      have h4 := r4 i (by omega)
      have e1 : (us ++ ue).getD i undef = us.getD i undef := by simp [List.getD, List.getElem?_append_left (show i < us.length by omega)]
      have e2 : (L ++ E).getD i [] = L.getD i [] := by simp [List.getD, List.getElem?_append_left (show i < L.length by omega)]
      refine ⟨h4.1, by omega, ?_⟩
      show OwnI w2 (ls i) (hs i) ((us ++ ue).getD i undef) ((L ++ E).getD i [])
      rw [e1, e2]
      refine OwnI.kept h4.2.2 ⟨by omega, fun b h1 h2 => (hgrow.block b (by omega) (fun e => ?_)).trans (hw1.block b (by omega))⟩
      have := (r2 b e.symm).2 i (by omega); omega
    · simp only [if_neg h1]
      have h3 := hu (i - k) (by omega)
      have e1 : (us ++ ue).getD i undef = ue.getD (i - k) undef := by simp [List.getD, List.getElem?_append_right (show us.length ≤ i by omega), hus]
      have e2 : (L ++ E).getD i [] = E.getD (i - k) [] := by simp [List.getD, List.getElem?_append_right (show L.length ≤ i by omega), hL]
      refine ⟨by omega, by omega, ?_⟩
      show OwnI w2 (lE (i - k)) (hE (i - k)) ((us ++ ue).getD i undef) ((L ++ E).getD i [])
      rw [e1, e2]
      refine h3.2.2.kept ⟨hs2, fun b h1 h2 => hgrow.block b (by omega) (fun e => ?_)⟩
      have := (r2 b e.symm).1; omega
  · by_cases h1 : j < k
    · simp only [if_pos h1, if_pos (show i < k by omega)]
      exact r5 i j hij h1
    · by_cases h2 : i < k
      · simp only [if_pos h2, if_neg h1]
        have := (r4 i (by omega)).2.1
        have h3 := hu (j - k) (by omega)
        exact Or.inl (by omega)
      · simp only [if_neg h1, if_neg h2]
        exact hd (i - k) (j - k) (by omega) (by omega)
theorem news3 (w : World) (o1 o2 : Obj) (us : List Value) {H : Nat} (hH : H = w.heap.size) : ∀ j u, us[j]? = some u → (((w.alloc o1).alloc o2).alloc (.cells us.toArray 22)).cell? ((⟨H + 1 + 1, 0, none⟩ : Addr).add j) = some u := by
  subst hH
  have h := World.news_of_block (cs := us.toArray) (t := 22) (fr := (0, 0)) (heap_alloc_new ((w.alloc o1).alloc o2) (.cells us.toArray 22))
  rw [World.size_alloc, World.size_alloc] at h
  intro j u hu
  exact h j u (by simpa using hu)
theorem list2at (w : World) (a b : Int) : OwnI (w.alloc (.cells #[.int .i64 a, .int .i64 b] 2)) w.heap.size (w.heap.size + 1) (.slice (some ⟨w.heap.size, 0, none⟩) 2 2) [a, b] := by
  have h := list2 (w := w) (Nat.le_refl _) a b
  rw [World.size_alloc] at h
  exact h
/-- Two lists of two numbers in new blocks, appended at once: first the first one. -/
theorem rows_push22 {X w3 : World} {lo k g2 cap2 c : Nat} {A : Option Addr} {us : List Value} {ls hs : Nat → Nat} {L : List (List Int)} (hr : Rows2 X lo X.heap.size (.slice A k c) k us ls hs (fun i l h u => OwnI X l h u (L.getD i []))) (hL : L.length = k) (hlo : lo ≤ X.heap.size) {H : Nat} (hH : X.heap.size = H) (x1 y1 x2 y2 : Int)
    (hown : w3.ownsRow lo 22 1 (.slice (some ⟨g2, 0, none⟩) (k + 2) cap2) (k + 2) (us ++ [.slice (some ⟨H, 0, none⟩) 2 2, .slice (some ⟨H + 1, 0, none⟩) 2 2]))
    (hgrow : (((X.alloc (.cells #[.int .i64 x1, .int .i64 y1] 2)).alloc (.cells #[.int .i64 x2, .int .i64 y2] 2)).alloc (.cells #[.slice (some ⟨H, 0, none⟩) 2 2, .slice (some ⟨H + 1, 0, none⟩) 2 2] 22)).grownBy w3 (Value.slice A k c).ownBlock)
    (hg : (Value.slice A k c).ownBlock = some g2 ∨ g2 = (((X.alloc (.cells #[.int .i64 x1, .int .i64 y1] 2)).alloc (.cells #[.int .i64 x2, .int .i64 y2] 2)).alloc (.cells #[.slice (some ⟨H, 0, none⟩) 2 2, .slice (some ⟨H + 1, 0, none⟩) 2 2] 22)).heap.size) (hlt : g2 < w3.heap.size) :
    OwnQ w3 lo w3.heap.size (.slice (some ⟨g2, 0, none⟩) (k + 2) cap2) (L ++ [[x1, y1], [x2, y2]]) := by
  subst hH
  have hbw : Below X.heap.size X (((X.alloc (.cells #[.int .i64 x1, .int .i64 y1] 2)).alloc (.cells #[.int .i64 x2, .int .i64 y2] 2)).alloc (.cells #[.slice (some ⟨X.heap.size, 0, none⟩) 2 2, .slice (some ⟨X.heap.size + 1, 0, none⟩) 2 2] 22)) :=
    (((Below.refl _ _).alloc (Nat.le_refl _) _).alloc (by simp) _).alloc (by simp; omega) _
  have ha := ((list2at X x1 y1).kept (kept_box _ (.cells #[.int .i64 x2, .int .i64 y2] 2) _ _ (by simp))).kept (kept_box _ (.cells #[.slice (some ⟨X.heap.size, 0, none⟩) 2 2, .slice (some ⟨X.heap.size + 1, 0, none⟩) 2 2] 22) _ _ (by simp))
  have hb := (list2at (X.alloc (.cells #[.int .i64 x1, .int .i64 y1] 2)) x2 y2).kept (kept_box _ (.cells #[.slice (some ⟨X.heap.size, 0, none⟩) 2 2, .slice (some ⟨X.heap.size + 1, 0, none⟩) 2 2] 22) _ _ (by simp))
  rw [World.size_alloc] at hb
  refine rows_join (m := 2) (lE := fun j => X.heap.size + j) (hE := fun j => X.heap.size + j + 1) (E := [[x1, y1], [x2, y2]]) hr hL rfl rfl hlo hbw (fun j hj => ?_) (fun i j hij hj => Or.inl (by omega)) hown hgrow hg hlt
  have hj2 : j = 0 ∨ j = 1 := by omega
  rcases hj2 with rfl | rfl
  · exact ⟨by omega, by simp, ha⟩
  · exact ⟨by omega, by simp, hb⟩
theorem rows_box {w : World} {lo n : Nat} {v : Value} {us : List Value} {ls hs : Nat → Nat} {L : List (List Int)} (h : Rows2 w lo w.heap.size v n us ls hs (fun i l h u => OwnI w l h u (L.getD i []))) (o : Obj) :
    Rows2 (w.alloc o) lo (w.alloc o).heap.size v n us ls hs (fun i l h u => OwnI (w.alloc o) l h u (L.getD i [])) := by
  obtain ⟨r1, r2, r3, r4, r5⟩ := h
  refine ⟨World.ownsRow.alloc r1 _, fun k hk => ⟨by have := (r2 k hk).1; simp; omega, (r2 k hk).2⟩, Nat.le_refl _, fun i hi => ?_, r5⟩
  have h4 := r4 i hi
  exact ⟨h4.1, by have := h4.2.1; simp; omega, h4.2.2.kept (kept_box _ _ _ _ h4.2.1)⟩
/-- The same, the second one laid first. -/
theorem rows_push22' {X w3 : World} {lo k g2 cap2 c : Nat} {A : Option Addr} {us : List Value} {ls hs : Nat → Nat} {L : List (List Int)} (hr : Rows2 X lo X.heap.size (.slice A k c) k us ls hs (fun i l h u => OwnI X l h u (L.getD i []))) (hL : L.length = k) (hlo : lo ≤ X.heap.size) {H : Nat} (hH : X.heap.size = H) (x1 y1 x2 y2 : Int)
    (hown : w3.ownsRow lo 22 1 (.slice (some ⟨g2, 0, none⟩) (k + 2) cap2) (k + 2) (us ++ [.slice (some ⟨H + 1, 0, none⟩) 2 2, .slice (some ⟨H, 0, none⟩) 2 2]))
    (hgrow : (((X.alloc (.cells #[.int .i64 x2, .int .i64 y2] 2)).alloc (.cells #[.int .i64 x1, .int .i64 y1] 2)).alloc (.cells #[.slice (some ⟨H + 1, 0, none⟩) 2 2, .slice (some ⟨H, 0, none⟩) 2 2] 22)).grownBy w3 (Value.slice A k c).ownBlock)
    (hg : (Value.slice A k c).ownBlock = some g2 ∨ g2 = (((X.alloc (.cells #[.int .i64 x2, .int .i64 y2] 2)).alloc (.cells #[.int .i64 x1, .int .i64 y1] 2)).alloc (.cells #[.slice (some ⟨H + 1, 0, none⟩) 2 2, .slice (some ⟨H, 0, none⟩) 2 2] 22)).heap.size) (hlt : g2 < w3.heap.size) :
    OwnQ w3 lo w3.heap.size (.slice (some ⟨g2, 0, none⟩) (k + 2) cap2) (L ++ [[x1, y1], [x2, y2]]) := by
  subst hH
  have hbw : Below X.heap.size X (((X.alloc (.cells #[.int .i64 x2, .int .i64 y2] 2)).alloc (.cells #[.int .i64 x1, .int .i64 y1] 2)).alloc (.cells #[.slice (some ⟨X.heap.size + 1, 0, none⟩) 2 2, .slice (some ⟨X.heap.size, 0, none⟩) 2 2] 22)) :=
    (((Below.refl _ _).alloc (Nat.le_refl _) _).alloc (by simp) _).alloc (by simp; omega) _
  have ha := ((list2at X x2 y2).kept (kept_box _ (.cells #[.int .i64 x1, .int .i64 y1] 2) _ _ (by simp))).kept (kept_box _ (.cells #[.slice (some ⟨X.heap.size + 1, 0, none⟩) 2 2, .slice (some ⟨X.heap.size, 0, none⟩) 2 2] 22) _ _ (by simp))
  have hb := (list2at (X.alloc (.cells #[.int .i64 x2, .int .i64 y2] 2)) x1 y1).kept (kept_box _ (.cells #[.slice (some ⟨X.heap.size + 1, 0, none⟩) 2 2, .slice (some ⟨X.heap.size, 0, none⟩) 2 2] 22) _ _ (by simp))
  rw [World.size_alloc] at hb
  refine rows_join (m := 2) (lE := fun j => X.heap.size + 1 - j) (hE := fun j => X.heap.size + 1 - j + 1) (E := [[x1, y1], [x2, y2]]) hr hL rfl rfl hlo hbw (fun j hj => ?_) (fun i j hij hj => Or.inr (by omega)) hown hgrow hg hlt
  have hj2 : j = 0 ∨ j = 1 := by omega
  rcases hj2 with rfl | rfl
  · exact ⟨by omega, by simp, hb⟩
  · exact ⟨by omega, by simp, ha⟩
end Go.Proofs.Ytaigcmhfhdapdaa
