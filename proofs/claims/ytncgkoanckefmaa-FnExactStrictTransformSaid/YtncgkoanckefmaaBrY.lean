/- BranchOfExponents, the program's: contract. Conditions: stated at each theorem. -/
import Derived.Test.YtncgkoanckefmaaBrX
import Derived.Test.YtncgkoanckefmaaBrA
namespace Go.Proofs.Ytncgkoanckefmaa
open Go.ChangeShapes Go.WideShapes Go.ChangeAt Go.RowKit
set_option linter.unusedVariables false
set_option linter.unusedSimpArgs false

/-- The end of a function whose answer, a struct, lies in the block p: the answer has been stored. -/
theorem ansR_endG {w w1 : World} {v : Value} {zs L : List Int} {C D : Int} (p : Nat) (hp : w.heap.size ≤ p) (h1 : zs = L) (h2 : D = C) (ho : OwnI w1 w.heap.size w1.heap.size v zs) (hne : v.ownBlock ≠ some p) (hb : Below w.heap.size w w1) (u : Value) :
    AnsRC w L C (.returned (.tuple #[.agg #[v], .int .i64 D])) (w1.setCell ⟨p, 0, none⟩ u) := by
  subst h1; subst h2
  refine ⟨v, rfl, ?_, hb.setCell hp _⟩
  obtain ⟨⟨g0, g1⟩, g2, g3⟩ := ho
  refine ⟨⟨g0, ?_⟩, ?_, by simp⟩
  · rcases g1 with hn | ⟨g, cap, cur, e, hgb, hgg, rest⟩
    · exact .inl hn
    · refine .inr ⟨g, cap, cur, e, hgb, ?_, rest⟩
      rw [Below.heap_setCell w1 ⟨p, 0, none⟩ u g (by
        rintro rfl
        apply hne; rw [e]; rfl)]
      exact hgg
  · intro k hk; simpa [World.setCell] using g2 k hk
theorem areExp_if (A : Option Addr) (n c : Nat) (zs : List Int) (w : World) (B : Nat) (b : Bool) (hr : RI w B A n zs) (hl : zs.length = n) (hn : n ≤ 9223372036854775807) (hw : ∀ z ∈ zs, (Lit.int .i64 z).wf = true) (hb : ascB 0 zs = b) :
    Calls Try.prog 127 #[.slice A n c] w fun e w' => e = .returned (.bool b) ∧ w = w' := by
  subst hb; exact areExp_any A n c zs w B hr hl hn hw
/-- One block at the start of a function: a struct that goes out. -/
structure Start1 (w W0 : World) : Prop where
  below : Below w.heap.size w W0
  res : BoxI W0 w.heap.size (.slice none 0 0)
  free : W0.frozen? ⟨w.heap.size, 0, none⟩ = false
  size : W0.heap.size = w.heap.size + 1
theorem Start1.new (w : World) : Start1 w (w.alloc (.cells #[.slice none 0 0] 28)) := ⟨below_box _ _, BoxI.new _ _ _, by go_simp, by simp⟩
theorem Start1.later {w W0 w1 : World} (h : Start1 w W0) (hb : Below W0.heap.size W0 w1) : w1.cell? ⟨w.heap.size, 0, none⟩ = some (.slice none 0 0) ∧ w1.frozen? ⟨w.heap.size, 0, none⟩ = false ∧ w.heap.size < w1.heap.size :=
  ⟨by rw [hb.cell (p := ⟨w.heap.size, 0, none⟩) h.res.2]; exact h.res.1, by rw [hb.frozen (p := ⟨w.heap.size, 0, none⟩) h.res.2]; exact h.free, Nat.lt_of_lt_of_le h.res.2 hb.size⟩
theorem wfs_of {L : List Int} (h : ∀ z ∈ L, 1 ≤ z ∧ z ≤ 2000) : ∀ z ∈ L, (Lit.int .i64 z).wf = true := fun z hz => i64_wf (by have := h z hz; omega) (by have := h z hz; omega)

end Go.Proofs.Ytncgkoanckefmaa
