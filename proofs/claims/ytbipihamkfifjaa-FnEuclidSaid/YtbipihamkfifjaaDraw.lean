/- Drawn integers: contracts of spec.l01Draw and spec.l01Two: they return, with numbers in a range; nothing that was there changes but the source. Conditions: stated at each theorem. -/
import Derived.Test.YtbipihamkfifjaaSrc
namespace Go.Proofs.Ytbipihamkfifjaa
open Go.ChangeShapes Go.WideShapes Go.ChangeAt Go.RowKit
set_option linter.unusedVariables false

theorem SrcOK.lt {w : World} {B g n : Nat} (h : SrcOK w B g n) : g < w.heap.size := by
  obtain ⟨A, c, i, y, hs, _⟩ := h
  exact World.rowIs.lt hs
theorem SrcOK.alloc {w : World} {B g n : Nat} (h : SrcOK w B g n) (o : Obj) : SrcOK (w.alloc o) B g n := by
  have hlt := h.lt
  obtain ⟨A, c, i, y, hs, hi, hy, hr, hB, hn⟩ := h
  exact ⟨A, c, i, y, World.rowIs.alloc hs o, hi, hy, hr.below ((Below.refl _ _).alloc (by omega) o), hB, hn⟩
theorem SrcOK.far {w w' : World} {B g n : Nat} (h : SrcOK w B g n) (hb : Below w.heap.size w w') : SrcOK w' B g n := by
  have hlt := h.lt
  obtain ⟨A, c, i, y, hs, hi, hy, hr, hB, hn⟩ := h
  exact ⟨A, c, i, y, World.rowIs.of_block hs (hb.block g hlt), hi, hy, hr.below (hb.mono (by omega)), hB, hn⟩
/-- A slice that was just built reads as its numbers. -/
theorem newRI (w : World) (zs : List Int) (hz : zs.length ≤ 1000) : RI (w.alloc (.cells (zs.map (.int .i64)).toArray 2)) (w.alloc (.cells (zs.map (.int .i64)).toArray 2)).heap.size (some ⟨w.heap.size, 0, none⟩) zs.length zs := by
  have h : Own (w.alloc (.cells (zs.map (.int .i64)).toArray 2)) w.heap.size (.slice (some ⟨w.heap.size, 0, none⟩) zs.length zs.length) zs.length (zs.map (.int .i64)) := by
    have := World.ownsRow_lit (e := 2) (size := 1) (base := w.heap.size) w (zs.map (.int .i64)).toArray zs.length (Nat.le_refl _) (by simp only [maxLen]; omega) (by simp)
    rw [List.toList_toArray] at this
    exact this
  exact h.reads
theorem grown_alloc {a w : World} {row : Option Nat} (h : a.grownBy w row) (o : Obj) : a.grownBy (w.alloc o) row := grown_trans h (World.grownBy_alloc w o row)

def DrawPost (w : World) (B g n : Nat) (e : Ending) (w' : World) : Prop :=
  ∃ x : Int, e = .returned (.int .i64 x) ∧ -4611686018427387904 ≤ x ∧ x ≤ 1000000001 ∧ SrcOK w' B g n ∧ w.grownBy w' (some g)
theorem l01Draw_any (B g n : Nat) (w : World) (hs : SrcOK w B g n) :
    Calls Try.prog 101 #[.pointer (some ⟨g, 0, none⟩)] w (DrawPost w B g n) := by
  have HS := Lib.hid hs
  clear hs
  go_enter Try.func101, Try.ntmps101
  go_wp2_with (first
    | (go_at_call 69; (with_reducible refine (l01Next_any B g n 24 _ ?_ ?_).mono ?_); (exact HS.out); (omega); rintro e w1 ⟨x1, rfl, hx1, hy1, hs1, hg1⟩; have HS1 := Lib.hid hs1; have HG1 := Lib.hid hg1; clear hs1 hg1)
    | (go_at_call 69; (with_reducible refine (l01Next_any B g n 41 _ ?_ ?_).mono ?_); (exact HS1.out); (omega); rintro e w2 ⟨x2, rfl, hx2, hy2, hs2, hg2⟩; have HS2 := Lib.hid hs2; have HG2 := Lib.hid hg2; clear hs2 hg2)
    | (go_at_call 69; (with_reducible refine (l01Next_any B g n 401 _ ?_ ?_).mono ?_); (exact HS2.out); (omega); rintro e w3 ⟨x3, rfl, hx3, hy3, hs3, hg3⟩; have HS3 := Lib.hid hs3; have HG3 := Lib.hid hg3; clear hs3 hg3)
    | (go_at_call 69; (with_reducible refine (l01Next_any B g n 2000001 _ ?_ ?_).mono ?_); (exact HS3.out); (omega); rintro e w4 ⟨x4, rfl, hx4, hy4, hs4, hg4⟩; have HS4 := Lib.hid hs4; have HG4 := Lib.hid hg4; clear hs4 hg4)
    | (go_at_call 85; have _t := HS4; refine (l01Pick_any B g n _ 3 _ [x2 - 20, x3 - 200, x4 - 1000000] _ ?_ ?_ ?_ ?_).mono ?_; (exact HS4.out.alloc _); (exact newRI w4 [x2 - 20, x3 - 200, x4 - 1000000] (by simp)); (intro a ha; cases ha; have := HS4.out.lt; simp; omega); (omega); rintro e w6 ⟨x6, rfl, hm6, hs6, hg6⟩; have HS6 := Lib.hid hs6; have HG6 := Lib.hid hg6; have HM6 := Lib.hid hm6; clear hs6 hg6 hm6 _t)
    | (go_at_call 85; refine (l01Pick_any B g n _ 5 _ [1000000000, -1000000000, 1000000001, -1000000001, -4611686018427387904] _ ?_ ?_ ?_ ?_).mono ?_; (exact HS1.out.alloc _); (exact newRI w1 [1000000000, -1000000000, 1000000001, -1000000001, -4611686018427387904] (by simp)); (intro a ha; cases ha; have := HS1.out.lt; simp; omega); (omega); rintro e w5 ⟨x5, rfl, hm5, hs5, hg5⟩; have HS5 := Lib.hid hs5; have HG5 := Lib.hid hg5; have HM5 := Lib.hid hm5; clear hs5 hg5 hm5))
  all_goals go_ret
  · refine ⟨x5, rfl, ?_, ?_, HS5.out, grown_trans (grown_alloc HG1.out _) HG5.out⟩
    all_goals
      have := HM5.out
      simp at this
      omega
  · refine ⟨x6, rfl, ?_, ?_, HS6.out, grown_trans (grown_alloc (grown_trans (grown_trans (grown_trans HG1.out HG2.out) HG3.out) HG4.out) _) HG6.out⟩
    all_goals
      have := HM6.out
      simp at this
      omega

/-- Nothing that was there changes while only the source, which is new, does. -/
theorem below_src {w w1 w2 : World} {g : Nat} (h : Below w.heap.size w w1) (hg : w1.grownBy w2 (some g)) (hn : w.heap.size ≤ g) : Below w.heap.size w w2 := h.grown hg h.size (fun k hk => by cases hk; exact hn)
theorem SrcOK.new {w : World} {B g n : Nat} (h : SrcOK w B g n) : B ≤ g := by
  obtain ⟨A, c, i, y, _, _, _, _, hB, _⟩ := h
  exact hB
def TwoPost (w : World) (e : Ending) (w' : World) : Prop :=
  ∃ a b : Int, e = .returned (.tuple #[.int .i64 a, .int .i64 b]) ∧ (-4611686018427387904 ≤ a ∧ a ≤ 1000000001) ∧ (-4611686018427387904 ≤ b ∧ b ≤ 1000000001) ∧ Below w.heap.size w w'
set_option maxHeartbeats 800000 in
theorem l01Two_any (A : Option Addr) (n c : Nat) (w : World) (hr : RB w w.heap.size A n) (hn : n ≤ 9223372036854775807) :
    Calls Try.prog 61 #[.slice A n c] w (TwoPost w) := by
  have HR := Lib.hid hr
  clear hr
  have tok1 : True := trivial
  have tok2 : True := trivial
  have tok3 : True := trivial
  have tok4 : True := trivial
  go_enter Try.func61, Try.ntmps61
  go_wp2_with (first
    | (go_at_call 68; refine (l01From_any A n c _ HR.out hn).mono ?_; rintro e w1 ⟨g, rfl, hs1, hb1⟩; have HS1 := Lib.hid hs1; have B1 := Lib.hid hb1; clear hs1 hb1)
    | (go_at_call 85; have _t := tok1; refine (l01Pick_any w.heap.size g n _ 3 _ [20, 100, 10000] _ ?_ ?_ ?_ ?_).mono ?_; (exact HS1.out.alloc _); (exact newRI w1 [20, 100, 10000] (by simp)); (intro a ha; cases ha; have := HS1.out.lt; simp; omega); (omega); rintro e w2 ⟨x2, rfl, hm2, hs2, hg2⟩; have HS2 := Lib.hid hs2; have HG2 := Lib.hid hg2; (have hb2 : 1 ≤ x2 ∧ x2 ≤ 10000 := (by simp at hm2; omega)); clear hs2 hg2 hm2 tok1 _t)
    | (go_at_call 69; have _t := tok2; refine (l01Next_any w.heap.size g n x2 _ ?_ ?_).mono ?_; (exact HS2.out); (omega); rintro e w3 ⟨y3, rfl, hx3, hy3, hs3, hg3⟩; have HS3 := Lib.hid hs3; have HG3 := Lib.hid hg3; clear hs3 hg3 tok2 _t)
    | (go_at_call 85; have _t := tok3; refine (l01Pick_any w.heap.size g n _ 3 _ [20, 100, 10000] _ ?_ ?_ ?_ ?_).mono ?_; (exact HS3.out.alloc _); (exact newRI w3 [20, 100, 10000] (by simp)); (intro a ha; cases ha; have := HS3.out.lt; simp; omega); (omega); rintro e w4 ⟨x4, rfl, hm4, hs4, hg4⟩; have HS4 := Lib.hid hs4; have HG4 := Lib.hid hg4; (have hb4 : 1 ≤ x4 ∧ x4 ≤ 10000 := (by simp at hm4; omega)); clear hs4 hg4 hm4 tok3 _t)
    | (go_at_call 69; have _t := tok4; refine (l01Next_any w.heap.size g n x4 _ ?_ ?_).mono ?_; (exact HS4.out); (omega); rintro e w5 ⟨y5, rfl, hx5, hy5, hs5, hg5⟩; have HS5 := Lib.hid hs5; have HG5 := Lib.hid hg5; clear hs5 hg5 tok4 _t)
    | (go_at_call 69; refine (l01Next_any w.heap.size g n 24 _ ?_ ?_).mono ?_; (exact HS5.out); (omega); rintro e w6 ⟨y6, rfl, hx6, hy6, hs6, hg6⟩; have HS6 := Lib.hid hs6; have HG6 := Lib.hid hg6; clear hs6 hg6)
    | (go_at_call 101; refine (l01Draw_any w.heap.size g n _ HS6.out).mono ?_; rintro e w7 ⟨d, rfl, hd0, hd1, hs7, hg7⟩; have HG7 := Lib.hid hg7; clear hs7 hg7))
  all_goals go_ret2
  all_goals
    have hgn := HS1.out.new
    have B6 : Below w.heap.size w w6 := below_src (below_src (below_src (below_src (below_src B1.out (grown_trans (World.grownBy_alloc w1 _ _) HG2.out) hgn) HG3.out hgn) (grown_trans (World.grownBy_alloc w3 _ _) HG4.out) hgn) HG5.out hgn) HG6.out hgn
    first
      | exact ⟨_, _, rfl, by omega, by omega, below_src B6 HG7.out hgn⟩
      | exact ⟨_, _, rfl, by omega, by omega, B6⟩
end Go.Proofs.Ytbipihamkfifjaa
