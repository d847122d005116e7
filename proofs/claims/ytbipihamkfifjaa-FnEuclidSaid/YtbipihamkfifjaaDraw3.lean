/- Drawn lists: contracts of spec.DrawNegativeValue and spec.DrawFractionValue. Conditions: stated at each theorem. -/
import Derived.Test.YtbipihamkfifjaaParts
namespace Go.Proofs.Ytbipihamkfifjaa
open Go.ChangeShapes Go.WideShapes Go.ChangeAt Go.RowKit
set_option linter.unusedVariables false

def ListPost (w : World) (e : Ending) (w' : World) : Prop :=
  ∃ A c zs, e = .returned (.slice A zs.length c) ∧ Own w' w.heap.size (.slice A zs.length c) zs.length (zs.map (.int .i64)) ∧ InR zs ∧ zs.length ≤ 65 ∧ Below w.heap.size w w'
theorem lower {w : World} {base base' n : Nat} {v : Value} {xs : List Value} (h : Own w base v n xs) (hb : base' ≤ base) : Own w base' v n xs := by
  refine ⟨h.1, ?_⟩
  rcases h.2 with hn | ⟨g, cap, cur, e, hg, r⟩
  · exact .inl hn
  · exact .inr ⟨g, cap, cur, e, by omega, r⟩
theorem ListPost.mk' {w w' : World} {m c : Nat} {A : Option Addr} {zs : List Int} (h1 : zs.length = m) (h2 : Own w' w.heap.size (.slice A m c) m (zs.map (.int .i64))) (h3 : InR zs) (h4 : m ≤ 65) (h5 : Below w.heap.size w w') : ListPost w (.returned (.slice A m c)) w' := by
  subst h1; exact ⟨A, c, zs, rfl, h2, h3, h4, h5⟩

theorem DrawNegativeValue_any (A : Option Addr) (n c : Nat) (w : World) (hr : RB w w.heap.size A n) (hn : n ≤ 9223372036854775807) :
    Calls Try.prog 25 #[.slice A n c] w (ListPost w) := by
  have HR := Lib.hid hr
  clear hr
  go_enter Try.func25, Try.ntmps25
  go_wp2_with (first
    | (go_at_call 68; refine (l01From_any A n c _ HR.out hn).mono ?_; rintro e w1 ⟨g, rfl, hs1, hb1⟩; have HS1 := Lib.hid hs1; have B1 := Lib.hid hb1; clear hs1 hb1)
    | (go_at_call 71; refine (l01Parts_any w.heap.size g n 2 _ HS1.out ?_).mono ?_; (omega); rintro e w2 ⟨A2, c2, zs, rfl, ho2, hi2, hl2, hs2, hg2⟩; have HO2 := Lib.hid ho2; have HI2 := Lib.hid hi2; have HG2 := Lib.hid hg2; clear ho2 hs2 hg2 hi2))
  go_ret
  exact ListPost.mk' rfl (lower HO2.out B1.out.size) HI2.out hl2 (below_src B1.out HG2.out HS1.out.new)

theorem DrawFractionValue_any (A : Option Addr) (n c : Nat) (w : World) (hr : RB w w.heap.size A n) (hn : n ≤ 9223372036854775807) :
    Calls Try.prog 27 #[.slice A n c] w (ListPost w) := by
  have HR := Lib.hid hr
  clear hr
  go_enter Try.func27, Try.ntmps27
  go_wp2_with (first
    | (go_at_call 68; refine (l01From_any A n c _ HR.out hn).mono ?_; rintro e w1 ⟨g, rfl, hs1, hb1⟩; have HS1 := Lib.hid hs1; have B1 := Lib.hid hb1; clear hs1 hb1)
    | (go_at_call 71; refine (l01Parts_any w.heap.size g n 1 _ HS1.out ?_).mono ?_; (omega); rintro e w2 ⟨A2, c2, zs, rfl, ho2, hi2, hl2, hs2, hg2⟩; generalize hm : zs.length = m at ho2 hl2; have hlz := Lib.hid hm; have HO2 := Lib.hid ho2; have HI2 := Lib.hid hi2; have HG2 := Lib.hid hg2; have HS2 := Lib.hid hs2; clear ho2 hs2 hg2 hi2 hm; (have hm0 : m = 0 ∨ 0 < m := (by omega)); rcases hm0 with rfl | hm0)
    | (go_at_call 69; (with_reducible refine (l01Next_any w.heap.size g n 5 _ ?_ ?_).mono ?_); (exact HS2.out); (omega); rintro e w3 ⟨y3, rfl, hx3, hy3, hs3, hg3⟩; have HG3 := Lib.hid hg3; (have HO3 := Lib.hid (own_src HO2.out hg3 HS1.out.lt)); clear hs3 hg3; obtain ⟨go, rfl⟩ : ∃ go : Nat, A2 = some ⟨go, 0, none⟩ := (by rcases HO2.out.2 with ⟨_, e0⟩ | ⟨go, cap, cur, e, _⟩; (· omega); (· simp only [Value.slice.injEq] at e; exact ⟨go, e.1⟩)); have hc13 := at_own HO3.out hlz.out hm0; have hf13 := World.ownsRow.frozenAt HO3.out 0))
  all_goals go_ret
  all_goals have hgn := HS1.out.new
  all_goals first
    | exact ListPost.mk' hlz.out (lower HO2.out B1.out.size) HI2.out (by omega) (below_src B1.out HG2.out hgn)
    | exact ListPost.mk' hlz.out (lower HO3.out B1.out.size) HI2.out (by omega) (below_src (below_src B1.out HG2.out hgn) HG3.out hgn)
    | (refine ListPost.mk' (zs := zs.set 0 0) (by rw [List.length_set]; exact hlz.out) ?_ ?_ (by omega) ?_
       · have := (World.ownsRow.stored HO3.out 0 (.int .i64 0)).1
         rw [List.map_set]
         exact lower this B1.out.size
       · intro z hz
         rcases List.mem_or_eq_of_mem_set hz with h | h
         · exact HI2.out z h
         · omega
       · exact (below_src (below_src B1.out HG2.out hgn) HG3.out hgn).setCell (Nat.le_trans B1.out.size ((Own.lt HO3.out go rfl).1)) _)
end Go.Proofs.Ytbipihamkfifjaa
