/- laws.roll and its method below: contracts: they return, with a number in its range; nothing but the dice changes. Conditions: stated at each theorem. -/
import Derived.Test.YtjgidalmgoifgaaZE
namespace Go.Proofs.Ytjgidalmgoifgaa
open Go.ChangeShapes Go.WideShapes Go.ChangeAt Go.RowKit
set_option linter.unusedVariables false

/-- Block g is a die over n bytes. -/
def DcAt (w : World) (g : Nat) (A : Option Addr) (n c : Nat) (i : Nat) (h : Int) : Prop :=
  w.rowIs g 92 3 fun j => if j = 0 then .slice A n c else if j = 1 then .int .i64 i else .int .u64 h
def DcOK (w : World) (B g n : Nat) : Prop :=
  ∃ A c i h, DcAt w g A n c i h ∧ i ≤ n ∧ (0 ≤ h ∧ h ≤ 18446744073709551615) ∧ RB w B A n ∧ B ≤ g ∧ n ≤ 9223372036854775807
def BelowPost (w : World) (B g n : Nat) (m : Int) (e : Ending) (w' : World) : Prop :=
  ∃ x : Int, e = .returned (.int .i64 x) ∧ 0 ≤ x ∧ x < m ∧ DcOK w' B g n ∧ w.grownBy w' (some g)
theorem DcAt.new (w : World) (A : Option Addr) (n c : Nat) (h : Int) : DcAt (w.alloc (.cells #[.slice A n c, .int .i64 0, .int .u64 h] 92)) w.heap.size A n c 0 h :=
  World.rowIs_alloc w #[.slice A n c, .int .i64 0, .int .u64 h] _ _ (fun i hi => by
    have : i = 0 ∨ i = 1 ∨ i = 2 := by simp at hi; omega
    rcases this with rfl | rfl | rfl <;> rfl)
theorem DcAt.put {w : World} {g n c i : Nat} {A : Option Addr} {h : Int} (hs : DcAt w g A n c i h) (y : Int) : DcAt (w.setCell ⟨g, 2, none⟩ (.int .u64 y)) g A n c i y :=
  (World.rowIs.set hs 2 (.int .u64 y)).congr fun j hj => by
    have : j = 0 ∨ j = 1 ∨ j = 2 := by omega
    rcases this with rfl | rfl | rfl <;> rfl
theorem below_any (B g n : Nat) (m : Int) (w : World) (hs : DcOK w B g n) (hm : 1 ≤ m ∧ m ≤ 9223372036854775807) :
    Calls Try.prog 46 #[.pointer (some ⟨g, 0, none⟩), .int .i64 m] w (BelowPost w B g n m) := by
  obtain ⟨A, c, i, h, hsrc, hi, hh, hrb, hB, hn⟩ := hs
  have c0 : w.cell? ⟨g, 0, none⟩ = some (.slice A n c) := by simpa using hsrc.cell (i := 0) (by omega)
  have c1 : w.cell? ⟨g, 1, none⟩ = some (.int .i64 i) := by simpa using hsrc.cell (i := 1) (by omega)
  have c2 : w.cell? ⟨g, 2, none⟩ = some (.int .u64 h) := by simpa using hsrc.cell (i := 2) (by omega)
  have f1 := hsrc.frozen 1
  have f2 := hsrc.frozen 2
  have HS := Lib.hid hsrc
  have HB := Lib.hid hrb
  clear hsrc hrb
  go_enter Try.func46, Try.ntmps46
  go_wp2
  clear c0 c1 c2 f1 f2
  generalize hY : IntKind.u64.wrap (IntKind.u64.wrap (h * 6364136223846793005) + 1442695040888963407) = Y at *
  have hYb : 0 ≤ Y ∧ Y ≤ 18446744073709551615 := by rw [← hY, IntKind.wrap_u64]; omega
  clear hY
  have hX := low24 Y hYb
  generalize wrap64 (bits BinOp.and IntKind.u64 (Y / 8589934592) 16777215) = X at *
  have hs1 : DcAt (w.setCell ⟨g, 2, none⟩ (.int .u64 Y)) g A n c i Y := (HS.out.set 2 _).congr fun j hj => by
    have : j = 0 ∨ j = 1 ∨ j = 2 := by omega
    rcases this with rfl | rfl | rfl <;> rfl
  have hg1 : w.grownBy (w.setCell ⟨g, 2, none⟩ (.int .u64 Y)) (some g) := grown_setCell (World.grownBy.refl _ _) rfl _
  have hr1 : RB (w.setCell ⟨g, 2, none⟩ (.int .u64 Y)) B A n := HB.out.below ((Below.refl _ _).setCell hB _)
  clear HS HB
  generalize w.setCell ⟨g, 2, none⟩ (.int .u64 Y) = w1 at *
  have c0 : w1.cell? ⟨g, 0, none⟩ = some (.slice A n c) := by simpa using hs1.cell (i := 0) (by omega)
  have c1 : w1.cell? ⟨g, 1, none⟩ = some (.int .i64 i) := by simpa using hs1.cell (i := 1) (by omega)
  have f1 := hs1.frozen 1
  have HS := Lib.hid hs1
  have HG := Lib.hid hg1
  clear hs1 hg1
  by_cases hlt : i < n
  · obtain ⟨a, x, rfl, hab, hx, hx0, hx1⟩ := hr1 i hlt
    have HB := Lib.hid hr1
    have hi0 : (0 : Int) ≤ (i : Int) := Int.natCast_nonneg _
    have hi1 : (i : Int) < (n : Int) := by omega
    have p1 : IntKind.i64.wrap (X + x) = X + x := IntWalk.i64_in _ (by omega)
    have hm2 : 0 ≤ (X + x) % m ∧ (X + x) % m < m := ⟨Int.emod_nonneg _ (by omega), Int.emod_lt_of_pos _ (by omega)⟩
    clear hr1
    go_quiet (fail)
    go_wp2
    go_quiet (fail)
    go_wp2
    go_ret
    refine ⟨(X + x) % m, rfl, hm2.1, hm2.2, ⟨some a, c, i + 1, Y, ?_, by omega, hYb, HB.out.below ?_, hB, hn⟩, ?_⟩
    · refine (World.rowIs.set (w := w1) HS.out 1 (.int .i64 ((i : Int) + 1))).congr fun j hj => ?_
      have : j = 0 ∨ j = 1 ∨ j = 2 := by omega
      rcases this with rfl | rfl | rfl <;> rfl
    · exact (below_drewN (Below.refl _ _) _).setCell hB _
    · exact grown_trans HG.out (grown_setCell (grown_of_below (below_drewN (Below.refl _ _) _) _) rfl _)
  · have HB := Lib.hid hr1
    have hm2 : 0 ≤ X % m ∧ X % m < m := ⟨Int.emod_nonneg _ (by omega), Int.emod_lt_of_pos _ (by omega)⟩
    clear hr1
    go_quiet (fail)
    go_wp2
    go_ret
    exact ⟨X % m, rfl, hm2.1, hm2.2, ⟨A, c, i, Y, HS.out, hi, hYb, HB.out, hB, hn⟩, grown_trans HG.out (grown_of_below (below_drewN (Below.refl _ _) _) _)⟩
theorem roll_any (A : Option Addr) (n c : Nat) (s : Int) (w : World) (hr : RB w w.heap.size A n) (hn : n ≤ 4096) (hs0 : 0 ≤ s ∧ s ≤ 1000000) :
    Calls Try.prog 45 #[.slice A n c, .int .u64 s] w fun e w' => ∃ g : Nat, e = .returned (.pointer (some ⟨g, 0, none⟩)) ∧ DcOK w' w.heap.size g n ∧ Below w.heap.size w w' := by
  have HR := Lib.hid hr
  clear hr
  have q1 : IntKind.u64.wrap (s * 6257) = s * 6257 := by rw [IntKind.wrap_u64]; omega
  have q2 : IntKind.u64.wrap (s * 6257 + (n : Int)) = s * 6257 + (n : Int) := by rw [IntKind.wrap_u64]; omega
  have q3 : IntKind.u64.wrap (n : Int) = (n : Int) := by rw [IntKind.wrap_u64]; omega
  generalize hS : s * 6257 = S at *
  go_enter Try.func45, Try.ntmps45
  go_wp2
  try simp only [hS, q1, q2, q3]
  have hs0 : DcAt (w.alloc (.cells #[.slice A n c, .int .i64 0, .int .u64 (S + (n : Int))] 92)) w.heap.size A n c 0 (S + (n : Int)) := DcAt.new w A n c _
  have hb0 : Below w.heap.size w (w.alloc (.cells #[.slice A n c, .int .i64 0, .int .u64 (S + (n : Int))] 92)) := (Below.refl _ _).alloc (Nat.le_refl _) _
  have HS0 := Lib.hid hs0
  clear hs0
  generalize w.alloc (.cells #[.slice A n c, .int .i64 0, .int .u64 (S + (n : Int))] 92) = w1 at *
  go_loopw [6] (fun vi wr => ∃ (j : Nat) (h : Int), j ≤ n ∧ (0 ≤ h ∧ h ≤ 18446744073709551615) ∧ vi = .int .i64 j ∧ Hid (DcAt wr w.heap.size A n c 0 h) ∧ Below w.heap.size w wr) (fun vi _ => n - (intOf vi).toNat)
  case atStart => exact ⟨0, _, by omega, by omega, rfl, HS0, hb0⟩
  case round =>
    obtain ⟨j, h, hj, hh, rfl, hs, hb⟩ := hrel
    by_cases hlt : j < n
    · obtain ⟨a, x, rfl, hab, hx, hx0, hx1⟩ := (HR.out.below hb) j hlt
      have c2 : wr.cell? ⟨w.heap.size, 2, none⟩ = some (.int .u64 h) := by simpa using hs.out.cell (i := 2) (by omega)
      have f2 := hs.out.frozen 2
      have hj0 : (0 : Int) ≤ (j : Int) := Int.natCast_nonneg _
      have hj1 : (j : Int) < (n : Int) := by omega
      go_wp2
      go_region
      all_goals go_wp2
      all_goals go_roundw
      case rel =>
        exact ⟨j + 1, _, by omega, u64_in _, by go_num, Lib.hid (DcAt.put (w := wr.drew) hs.out _), ((hb.drew).setCell (Nat.le_refl _) _)⟩
      case measure => simp [intOf]; omega
    · go_wp2
      go_ret
      exact ⟨w.heap.size, rfl, ⟨A, c, 0, h, hs.out, by omega, hh, HR.out.below hb, Nat.le_refl _, by omega⟩, hb⟩
end Go.Proofs.Ytjgidalmgoifgaa
