/- TruncateBranch, the program's: contract. Conditions: stated at each theorem. -/
import Derived.Test.YtncgkoanckefmaaBrT
namespace Go.Proofs.Ytncgkoanckefmaa
open Go.ChangeShapes Go.WideShapes Go.ChangeAt Go.RowKit
set_option linter.unusedVariables false
set_option linter.unusedSimpArgs false

/-- Two blocks at the start of a function: a struct that came in, a struct that goes out. -/
structure Start (w W0 : World) (v : Value) : Prop where
  below : Below w.heap.size w W0
  box : BoxI W0 w.heap.size v
  res : BoxI W0 (w.heap.size + 1) (.slice none 0 0)
  free : W0.frozen? ⟨w.heap.size + 1, 0, none⟩ = false
  size : W0.heap.size = w.heap.size + 2
theorem Start.new (w : World) (v : Value) : Start w ((w.alloc (.cells #[v] 28)).alloc (.cells #[.slice none 0 0] 28)) v :=
  ⟨((Below.refl _ _).alloc (Nat.le_refl _) _).alloc (by simp) _, ⟨by go_simp, by simp; omega⟩, ⟨by go_simp, by simp⟩, by go_simp, by simp⟩
theorem Start.later {w W0 w1 : World} {v : Value} (h : Start w W0 v) (hb : Below W0.heap.size W0 w1) : BoxI w1 w.heap.size v ∧ w1.cell? ⟨w.heap.size + 1, 0, none⟩ = some (.slice none 0 0) ∧ w1.frozen? ⟨w.heap.size + 1, 0, none⟩ = false ∧ w.heap.size + 1 < w1.heap.size :=
  ⟨h.box.kept (Kept.of_below hb (by have := h.box.2; omega)), by rw [hb.cell (p := ⟨w.heap.size + 1, 0, none⟩) h.res.2]; exact h.res.1, by rw [hb.frozen (p := ⟨w.heap.size + 1, 0, none⟩) h.res.2]; exact h.free, Nat.lt_of_lt_of_le h.res.2 hb.size⟩
/-- The end of such a function: the answer has been stored. -/
theorem ansR_end {w w1 : World} {v : Value} {zs L : List Int} {C D : Int} (h1 : zs = L) (h2 : D = C) (ho : OwnI w1 w.heap.size w1.heap.size v zs) (hne : v.ownBlock ≠ some (w.heap.size + 1)) (hlt : w.heap.size + 1 < w1.heap.size) (hb : Below w.heap.size w w1) (u : Value) :
    AnsRC w L C (.returned (.tuple #[.agg #[v], .int .i64 D])) (w1.setCell ⟨w.heap.size + 1, 0, none⟩ u) := by
  subst h1; subst h2
  refine ⟨v, rfl, ?_, hb.setCell (by show w.heap.size ≤ w.heap.size + 1; omega) _⟩
  obtain ⟨⟨g0, g1⟩, g2, g3⟩ := ho
  refine ⟨⟨g0, ?_⟩, ?_, by simp⟩
  · rcases g1 with hn | ⟨g, cap, cur, e, hgb, hgg, rest⟩
    · exact .inl hn
    · refine .inr ⟨g, cap, cur, e, hgb, ?_, rest⟩
      rw [Below.heap_setCell w1 ⟨w.heap.size + 1, 0, none⟩ u g (by
        rintro rfl
        apply hne; rw [e]; rfl)]
      exact hgg
  · intro k hk; simpa [World.setCell] using g2 k hk

end Go.Proofs.Ytncgkoanckefmaa
