/- Copies of lists, and lists without their zeros at the end: contracts of spec.l01Own, spec.l02Trim, impl.withoutEndZeros. Conditions: stated at each theorem. -/
import Derived.Test.YtncgkoanckefmaaKeep
import Derived.Test.YtncgkoanckefmaaPoly
import Derived.Test.YtncgkoanckefmaaPolyIs
import Derived.Maps.AppendAt
import Derived.Deep.AppendLies
import Derived.Laws.AppendOwnNone
namespace Go.Proofs.Ytncgkoanckefmaa
open Go.ChangeShapes Go.WideShapes Go.ChangeAt Go.RowKit
set_option linter.unusedVariables false

/-- A slice cut at its end is read, and owned, as its first numbers. -/
theorem RI.cut {w : World} {B n : Nat} {A : Option Addr} {zs : List Int} (h : RI w B A n zs) {k : Nat} (hk : k ≤ n) : RI w B A k (zs.take k) :=
  ⟨by have := h.1; simp; omega, fun j hj => by
    obtain ⟨a, e, hlt, hc⟩ := h.2 j (by omega)
    exact ⟨a, e, hlt, by rw [hc]; simp [List.getD, hj]⟩⟩
theorem OwnI.cut {w : World} {lo hi n c : Nat} {A : Option Addr} {zs : List Int} (h : OwnI w lo hi (.slice A n c) zs) (hl : zs.length = n) {k : Nat} (hk : k ≤ n) : OwnI w lo hi (.slice A k c) (zs.take k) := by
  obtain ⟨h1, h2, h3⟩ := h
  have hlk : (zs.take k).length = k := by simp; omega
  refine ⟨?_, ?_, h3⟩
  · rw [hlk]
    refine ⟨by simp; omega, ?_⟩
    rcases h1.2 with ⟨e, e0⟩ | ⟨g, cap, cur, e, hb, hg, hnc, hcm, hcs, hcur⟩
    · simp only [Value.slice.injEq] at e
      obtain ⟨rfl, rfl, rfl⟩ := e
      obtain rfl : k = 0 := by omega
      exact .inl ⟨rfl, rfl⟩
    · simp only [Value.slice.injEq] at e
      obtain ⟨rfl, rfl, rfl⟩ := e
      refine .inr ⟨g, c, cur, rfl, hb, hg, by omega, hcm, hcs, ?_⟩
      simp only [Nat.mul_one] at hcur ⊢
      rw [List.map_take, ← hcur, List.take_take]
      congr 1; omega
  · intro j hj
    exact h2 j (by cases A with | none => cases hj | some a => exact hj)

theorem own_less {w : World} {lo lo' hi : Nat} {v : Value} {zs : List Int} (h : OwnI w lo hi v zs) (hl : lo' ≤ lo) : OwnI w lo' hi v zs := by
  obtain ⟨⟨h0, h1⟩, h2, h3⟩ := h
  refine ⟨⟨h0, ?_⟩, h2, h3⟩
  rcases h1 with hn | ⟨g, cap, cur, e, hb, rest⟩
  · exact .inl hn
  · exact .inr ⟨g, cap, cur, e, by omega, rest⟩
theorem only_alloc (w : World) (o : Obj) (lo hi : Nat) : Only lo hi w (w.alloc o) := ⟨rfl, rfl, rfl, by simp, fun b hb _ => Below.heap_alloc _ _ _ hb⟩
theorem Only.setCell {lo hi : Nat} {a w : World} (h : Only lo hi a w) {p : Addr} (h1 : lo ≤ p.block) (h2 : p.block < hi) (u : Value) : Only lo hi a (w.setCell p u) :=
  h.trans ⟨rfl, rfl, rfl, by simp [World.setCell], fun b hb hn => Below.heap_setCell _ _ _ _ (by rintro rfl; exact hn ⟨h1, h2⟩)⟩
theorem ReadI.ri {w : World} {B n c : Nat} {A : Option Addr} {zs : List Int} (h : ReadI w B (.slice A n c) zs) : RI w B A n zs := by
  obtain ⟨A', c', e, h, _⟩ := h
  simp only [Value.slice.injEq] at e
  obtain ⟨rfl, rfl, rfl⟩ := e
  exact h
theorem own_cell {w : World} {lo hi n c j : Nat} {A : Option Addr} {zs : List Int} {z : Int} (h : OwnI w lo hi (.slice A n c) zs) (hl : zs.length = n) (hj : j < n) (hz : zs[j]? = some z) :
    ∃ g, A = some ⟨g, 0, none⟩ ∧ lo ≤ g ∧ g < hi ∧ w.cell? ⟨g, j, none⟩ = some (.int .i64 z) ∧ w.frozen? ⟨g, j, none⟩ = false := by
  subst hl
  obtain ⟨h1, h2, h3⟩ := h
  rcases h1.2 with ⟨e, e0⟩ | ⟨g, cap, cur, e, hb, hg, hnc, hcm, hcs, hcur⟩
  · omega
  · have e2 := e
    simp only [Value.slice.injEq] at e
    obtain ⟨rfl, h0, rfl⟩ := e
    refine ⟨g, rfl, hb, h2 g rfl, ?_, World.ownsRow.frozenAt (h1 : w.ownsRow lo 2 1 (.slice (some ⟨g, 0, none⟩) zs.length c) zs.length _) j⟩
    rw [World.ownsRow.cellAt (h1 : w.ownsRow lo 2 1 (.slice (some ⟨g, 0, none⟩) zs.length c) zs.length _) j (by omega), List.getElem?_map, hz]
    rfl
theorem own_at {w : World} {lo hi n c j : Nat} {A : Option Addr} {zs : List Int} (h : OwnI w lo hi (.slice A n c) zs) (hl : zs.length = n) (hj : j < n) :
    ∃ g, A = some ⟨g, 0, none⟩ ∧ lo ≤ g ∧ g < hi ∧ w.cell? ⟨g, j, none⟩ = some (.int .i64 (zs[j]?.getD 0)) ∧ w.frozen? ⟨g, j, none⟩ = false :=
  own_cell h hl hj (by simp [show j < zs.length by omega])
theorem own_store {w : World} {lo hi n c j g : Nat} {zs : List Int} (h : OwnI w lo hi (.slice (some ⟨g, 0, none⟩) n c) zs) (hl : zs.length = n) (z : Int) :
    OwnI (w.setCell ⟨g, j, none⟩ (.int .i64 z)) lo hi (.slice (some ⟨g, 0, none⟩) n c) (zs.set j z) := by
  obtain ⟨h1, h2, h3⟩ := h
  subst hl
  refine ⟨?_, h2, by simpa [World.setCell] using h3⟩
  have := (World.ownsRow.stored (h1 : w.ownsRow lo 2 1 (.slice (some ⟨g, 0, none⟩) zs.length c) zs.length _) j (.int .i64 z)).1
  rw [List.length_set, List.map_set]
  exact this
theorem OwnI.raise {w : World} {lo hi hi' : Nat} {v : Value} {zs : List Int} (h : OwnI w lo hi v zs) (h1 : hi ≤ hi') (h2 : hi' ≤ w.heap.size) : OwnI w lo hi' v zs :=
  ⟨h.1, fun k hk => Nat.lt_of_lt_of_le (h.2.1 k hk) h1, h2⟩
theorem trim_as {L : List Int} {n : Nat} (h : L.length = n) : L.take (trimN L n) = trimL L := by subst h; rfl
theorem reads_as {w : World} {lo hi n c : Nat} {A : Option Addr} {zs : List Int} (h : OwnI w lo hi (.slice A n c) zs) (hl : zs.length = n) : RI w w.heap.size A n zs := by
  subst hl
  exact h.1.reads
theorem row_cells {w : World} {B n : Nat} {a : Addr} {zs : List Int} {o : Obj} (h : RI w B (some a) n zs) (hl : zs.length = n) (hB : B ≤ w.heap.size) : ∀ j u, (zs.map (Value.int .i64))[j]? = some u → (w.alloc o).cell? (a.add j) = some u := by
  intro j u hu
  have hj : j < n := by
    have := (List.getElem?_eq_some_iff.1 hu).1
    simpa [hl] using this
  obtain ⟨a', e, hlt, hc⟩ := h.2 j hj
  cases e
  rw [(Below.alloc (Below.refl w.heap.size w) (Nat.le_refl _) o).cell (by rw [add_block]; omega), hc]
  rw [List.getElem?_map] at hu
  have hj' : j < zs.length := by omega
  simp only [List.getElem?_eq_getElem hj', Option.map_some, Option.some.injEq] at hu
  rw [← hu]; simp [List.getD, hj']

theorem trim_more {zs : List Int} {k : Nat} (h0 : 0 < k) (h : zs[k - 1]?.getD 0 = 0) : trimN zs k = trimN zs (k - 1) := by
  obtain ⟨j, rfl⟩ : ∃ j, k = j + 1 := ⟨k - 1, by omega⟩
  exact trimN_zero (by rw [getD_opt]; exact h)
theorem trim_here {zs : List Int} {k : Nat} (h0 : 0 < k) (h : ¬ zs[k - 1]?.getD 0 = 0) : trimN zs k = k := by
  obtain ⟨j, rfl⟩ : ∃ j, k = j + 1 := ⟨k - 1, by omega⟩
  exact trimN_stop (by rw [getD_opt]; exact h)
theorem trim_take {zs : List Int} {n k : Nat} (hl : zs.length = n) (h : trimN zs n = trimN zs k) (h2 : trimN zs k = k) : zs.take k = trimL zs := by
  subst hl; unfold trimL; rw [h, h2]

theorem ret_slice {A : Option Addr} {n m c : Nat} (h : n = m) : Ending.returned (.slice A n c) = .returned (.slice A m c) := by rw [h]
/-- The length of a slice value: for a loop's measure. -/
def lenOf : Value → Nat
  | .slice _ k _ => k
  | _ => 0
end Go.Proofs.Ytncgkoanckefmaa
