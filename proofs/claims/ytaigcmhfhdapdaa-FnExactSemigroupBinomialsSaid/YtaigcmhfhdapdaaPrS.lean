/- The model's pairs of a branch: contract of spec.l03Puiseux. Conditions: stated at the theorem. -/
import Derived.Test.YtaigcmhfhdapdaaPrQ
import Derived.Test.YtaigcmhfhdapdaaBrV
import Derived.Test.YtaigcmhfhdapdaaMan
namespace Go.Proofs.Ytaigcmhfhdapdaa
open Go.ChangeShapes Go.WideShapes Go.ChangeAt Go.RowKit
set_option linter.unusedVariables false
set_option linter.unusedSimpArgs false

theorem lit_news (w : World) (o : Obj) (u : Value) : ∀ j x, ([u] : List Value)[j]? = some x → ((w.alloc o).alloc (.cells #[u] 22)).cell? ((⟨w.heap.size + 1, 0, none⟩ : Addr).add j) = some x := by
  have h := World.news_of_block (cs := #[u]) (t := 22) (fr := (0, 0)) (heap_alloc_new (w.alloc o) (.cells #[u] 22))
  rw [World.size_alloc] at h
  exact h
theorem ownQ_less {w : World} {lo lo' hi : Nat} {v : Value} {zss : List (List Int)} (h : OwnQ w lo hi v zss) (hl : lo' ≤ lo) : OwnQ w lo' hi v zss := by
  obtain ⟨us, ls, hs, r1, r2, r3, r4, r5⟩ := h
  refine ⟨us, ls, hs, ⟨r1.1, ?_⟩, r2, r3, fun i hi => ⟨by have := (r4 i hi).1; omega, (r4 i hi).2⟩, r5⟩
  rcases r1.2 with hn | ⟨g, cap, cur, e, hb, rest⟩
  · exact .inl hn
  · exact .inr ⟨g, cap, cur, e, by omega, rest⟩

end Go.Proofs.Ytaigcmhfhdapdaa
