/- The source of drawn numbers: contracts of spec.l01Next and spec.l01From: they return, with a number in its range; nothing but the source changes. Conditions: stated at each theorem. -/
import Derived.Test.YtbipihamkfifjaaOwn
import Derived.WalkLawsBesides
import Derived.IntWalk
import Derived.RegionTactic
import Derived.BigRegion
import Derived.Laws.BitsAllLaws
namespace Go.Proofs.Ytbipihamkfifjaa
open Go.ChangeShapes Go.WideShapes Go.ChangeAt Go.RowKit
set_option linter.unusedVariables false

/-- The bytes of a slice, below block B, can be read. -/
def RB (w : World) (B : Nat) (A : Option Addr) (n : Nat) : Prop :=
  ∀ k, k < n → ∃ a x, A = some a ∧ a.block < B ∧ w.cell? (a.add k) = some (.int .u8 x) ∧ 0 ≤ x ∧ x ≤ 255
theorem RB.below {w w' : World} {B n : Nat} {A : Option Addr} (h : RB w B A n) (hb : Below B w w') : RB w' B A n := fun k hk => by
  obtain ⟨a, x, e, hlt, hc, r⟩ := h k hk
  exact ⟨a, x, e, hlt, (hb.cell (by rw [add_block]; exact hlt)).trans hc, r⟩
theorem RB.more {w : World} {B B' n : Nat} {A : Option Addr} (h : RB w B A n) (hB : B ≤ B') : RB w B' A n := fun k hk => by
  obtain ⟨a, x, e, hlt, r⟩ := h k hk
  exact ⟨a, x, e, by omega, r⟩
/-- Block g is a source over n bytes. -/
def SrcAt (w : World) (g : Nat) (A : Option Addr) (n c : Nat) (i : Nat) (h : Int) : Prop :=
  w.rowIs g 95 3 fun j => if j = 0 then .slice A n c else if j = 1 then .int .i64 i else .int .u64 h
def SrcOK (w : World) (B g n : Nat) : Prop :=
  ∃ A c i h, SrcAt w g A n c i h ∧ i ≤ n ∧ (0 ≤ h ∧ h ≤ 18446744073709551615) ∧ RB w B A n ∧ B ≤ g ∧ n ≤ 9223372036854775807
def NextPost (w : World) (B g n : Nat) (m : Int) (e : Ending) (w' : World) : Prop :=
  ∃ x : Int, e = .returned (.int .i64 x) ∧ 0 ≤ x ∧ x < m ∧ SrcOK w' B g n ∧ w.grownBy w' (some g)

theorem low24 (Y : Int) (h : 0 ≤ Y ∧ Y ≤ 18446744073709551615) : 0 ≤ wrap64 (bits BinOp.and IntKind.u64 (Y / 8589934592) 16777215) ∧ wrap64 (bits BinOp.and IntKind.u64 (Y / 8589934592) 16777215) ≤ 16777215 := by
  have hq : 0 ≤ Y / 8589934592 ∧ Y / 8589934592 ≤ 18446744073709551615 := by omega
  rw [u64_and _ _ (by omega) (by omega) (by omega) (by omega)]
  have h1 : (Y / 8589934592).toNat &&& (16777215 : Int).toNat ≤ 16777215 := Nat.and_le_right
  unfold wrap64
  omega
theorem l01Next_any (B g n : Nat) (m : Int) (w : World) (hs : SrcOK w B g n) (hm : 1 ≤ m ∧ m ≤ 9223372036854775807) :
    Calls Try.prog 69 #[.pointer (some ⟨g, 0, none⟩), .int .i64 m] w (NextPost w B g n m) := by
  obtain ⟨A, c, i, h, hsrc, hi, hh, hrb, hB, hn⟩ := hs
  have c0 : w.cell? ⟨g, 0, none⟩ = some (.slice A n c) := by simpa using hsrc.cell (i := 0) (by omega)
  have c1 : w.cell? ⟨g, 1, none⟩ = some (.int .i64 i) := by simpa using hsrc.cell (i := 1) (by omega)
  have c2 : w.cell? ⟨g, 2, none⟩ = some (.int .u64 h) := by simpa using hsrc.cell (i := 2) (by omega)
  have f1 := hsrc.frozen 1
  have f2 := hsrc.frozen 2
  have HS := Lib.hid hsrc
  have HB := Lib.hid hrb
  clear hsrc hrb
  go_enter Try.func69, Try.ntmps69
  go_wp2
  clear c0 c1 c2 f1 f2
  generalize hY : IntKind.u64.wrap (IntKind.u64.wrap (h * 6364136223846793005) + 1442695040888963407) = Y at *
  have hYb : 0 ≤ Y ∧ Y ≤ 18446744073709551615 := by rw [← hY, IntKind.wrap_u64]; omega
  clear hY
  have hX := low24 Y hYb
  generalize wrap64 (bits BinOp.and IntKind.u64 (Y / 8589934592) 16777215) = X at *
  have hs1 : SrcAt (w.setCell ⟨g, 2, none⟩ (.int .u64 Y)) g A n c i Y := (HS.out.set 2 _).congr fun j hj => by
    have : j = 0 ∨ j = 1 ∨ j = 2 := by omega
    rcases this with rfl | rfl | rfl <;> rfl
  have hg1 : w.grownBy (w.setCell ⟨g, 2, none⟩ (.int .u64 Y)) (some g) := grown_setCell (World.grownBy.refl _ _) rfl _
  have hr1 : RB (w.setCell ⟨g, 2, none⟩ (.int .u64 Y)) B A n := HB.out.below ((Below.refl _ _).setCell hB _)
  clear HS HB
  generalize w.setCell ⟨g, 2, none⟩ (.int .u64 Y) = w1 at *
  have c0 : w1.cell? ⟨g, 0, none⟩ = some (.slice A n c) := by simpa using hs1.cell (i := 0) (by omega)
  have c1 : w1.cell? ⟨g, 1, none⟩ = some (.int .i64 i) := by simpa using hs1.cell (i := 1) (by omega)
  have f1 := hs1.frozen 1
  have HS := Lib.hid hs1
  have HG := Lib.hid hg1
  clear hs1 hg1
  by_cases hlt : i < n
  · obtain ⟨a, x, rfl, hab, hx, hx0, hx1⟩ := hr1 i hlt
    have HB := Lib.hid hr1
    have hi0 : (0 : Int) ≤ (i : Int) := Int.natCast_nonneg _
    have hi1 : (i : Int) < (n : Int) := by omega
    have p1 : IntKind.i64.wrap (X + x) = X + x := IntWalk.i64_in _ (by omega)
    have hm2 : 0 ≤ (X + x) % m ∧ (X + x) % m < m := ⟨Int.emod_nonneg _ (by omega), Int.emod_lt_of_pos _ (by omega)⟩
    clear hr1
    go_quiet (fail)
    go_wp2
    go_quiet (fail)
    go_wp2
    go_ret
    refine ⟨(X + x) % m, rfl, hm2.1, hm2.2, ⟨some a, c, i + 1, Y, ?_, by omega, hYb, HB.out.below ?_, hB, hn⟩, ?_⟩
    · refine (World.rowIs.set (w := w1) HS.out 1 (.int .i64 ((i : Int) + 1))).congr fun j hj => ?_
      have : j = 0 ∨ j = 1 ∨ j = 2 := by omega
      rcases this with rfl | rfl | rfl <;> rfl
    · exact (below_drewN (Below.refl _ _) _).setCell hB _
    · exact grown_trans HG.out (grown_setCell (grown_of_below (below_drewN (Below.refl _ _) _) _) rfl _)
  · have HB := Lib.hid hr1
    have hm2 : 0 ≤ X % m ∧ X % m < m := ⟨Int.emod_nonneg _ (by omega), Int.emod_lt_of_pos _ (by omega)⟩
    clear hr1
    go_quiet (fail)
    go_wp2
    go_ret
    exact ⟨X % m, rfl, hm2.1, hm2.2, ⟨A, c, i, Y, HS.out, hi, hYb, HB.out, hB, hn⟩, grown_trans HG.out (grown_of_below (below_drewN (Below.refl _ _) _) _)⟩
theorem l01Next_zero (B g n : Nat) (m : Int) (w : World) (hs : SrcOK w B g n) (hm : m < 1) :
    Calls Try.prog 69 #[.pointer (some ⟨g, 0, none⟩), .int .i64 m] w fun e w' => e = .returned (.int .i64 0) ∧ w = w' := by
  clear hs
  go_enter Try.func69, Try.ntmps69
  go_wp2
  go_ret
  exact ⟨rfl, rfl⟩

def FromPost (w : World) (n : Nat) (e : Ending) (w' : World) : Prop :=
  ∃ g : Nat, e = .returned (.pointer (some ⟨g, 0, none⟩)) ∧ SrcOK w' w.heap.size g n ∧ Below w.heap.size w w'
theorem SrcAt.new (w : World) (A : Option Addr) (n c : Nat) (h : Int) : SrcAt (w.alloc (.cells #[.slice A n c, .int .i64 0, .int .u64 h] 95)) w.heap.size A n c 0 h :=
  World.rowIs_alloc w #[.slice A n c, .int .i64 0, .int .u64 h] _ _ (fun i hi => by
    have : i = 0 ∨ i = 1 ∨ i = 2 := by simp at hi; omega
    rcases this with rfl | rfl | rfl <;> rfl)
theorem SrcAt.put {w : World} {g n c i : Nat} {A : Option Addr} {h : Int} (hs : SrcAt w g A n c i h) (y : Int) : SrcAt (w.setCell ⟨g, 2, none⟩ (.int .u64 y)) g A n c i y :=
  (World.rowIs.set hs 2 (.int .u64 y)).congr fun j hj => by
    have : j = 0 ∨ j = 1 ∨ j = 2 := by omega
    rcases this with rfl | rfl | rfl <;> rfl
theorem u64_in (e : Int) : 0 ≤ IntKind.u64.wrap e ∧ IntKind.u64.wrap e ≤ 18446744073709551615 := by rw [IntKind.wrap_u64]; omega
theorem l01From_any (A : Option Addr) (n c : Nat) (w : World) (hr : RB w w.heap.size A n) (hn : n ≤ 9223372036854775807) :
    Calls Try.prog 68 #[.slice A n c] w (FromPost w n) := by
  have HR := Lib.hid hr
  clear hr
  go_enter Try.func68, Try.ntmps68
  go_wp2
  have hs0 : SrcAt (w.alloc (.cells #[.slice A n c, .int .i64 0, .int .u64 (9341 + (n : Int))] 95)) w.heap.size A n c 0 (9341 + (n : Int)) := SrcAt.new w A n c _
  have hb0 : Below w.heap.size w (w.alloc (.cells #[.slice A n c, .int .i64 0, .int .u64 (9341 + (n : Int))] 95)) := (Below.refl _ _).alloc (Nat.le_refl _) _
  have HS0 := Lib.hid hs0
  clear hs0
  generalize w.alloc (.cells #[.slice A n c, .int .i64 0, .int .u64 (9341 + (n : Int))] 95) = w1 at *
  go_loopw [4] (fun vi wr => ∃ (j : Nat) (h : Int), j ≤ n ∧ (0 ≤ h ∧ h ≤ 18446744073709551615) ∧ vi = .int .i64 j ∧ Hid (SrcAt wr w.heap.size A n c 0 h) ∧ Below w.heap.size w wr) (fun vi _ => n - (intOf vi).toNat)
  case atStart => exact ⟨0, _, by omega, by omega, rfl, HS0, hb0⟩
  case round =>
    obtain ⟨j, h, hj, hh, rfl, hs, hb⟩ := hrel
    by_cases hlt : j < n
    · by_cases h4 : (j : Int) < 4096
      · obtain ⟨a, x, rfl, hab, hx, hx0, hx1⟩ := (HR.out.below hb) j hlt
        have c2 : wr.cell? ⟨w.heap.size, 2, none⟩ = some (.int .u64 h) := by simpa using hs.out.cell (i := 2) (by omega)
        have f2 := hs.out.frozen 2
        have hj0 : (0 : Int) ≤ (j : Int) := Int.natCast_nonneg _
        have hj1 : (j : Int) < (n : Int) := by omega
        go_wp2
        go_region
        all_goals go_wp2
        all_goals go_roundw
        case rel =>
          exact ⟨j + 1, _, by omega, u64_in _, by go_num, Lib.hid (SrcAt.put (w := wr.drew) hs.out _), ((hb.drew).setCell (Nat.le_refl _) _)⟩
        case measure => simp [intOf]; omega
      · go_wp2
        go_ret
        exact ⟨w.heap.size, rfl, ⟨A, c, 0, h, hs.out, by omega, hh, HR.out.below hb, Nat.le_refl _, hn⟩, hb⟩
    · go_wp2
      go_ret
      exact ⟨w.heap.size, rfl, ⟨A, c, 0, h, hs.out, by omega, hh, HR.out.below hb, Nat.le_refl _, hn⟩, hb⟩

def PickPost (w : World) (B g n : Nat) (zs : List Int) (e : Ending) (w' : World) : Prop :=
  ∃ x : Int, e = .returned (.int .i64 x) ∧ x ∈ zs ∧ SrcOK w' B g n ∧ w.grownBy w' (some g)
theorem l01Pick_any (B g n : Nat) (A : Option Addr) (m c : Nat) (zs : List Int) (w : World) (hs : SrcOK w B g n) (hr : RI w w.heap.size A m zs) (hne : ∀ a, A = some a → a.block ≠ g) (hm : 1 ≤ m ∧ m ≤ 9223372036854775807) :
    Calls Try.prog 85 #[.pointer (some ⟨g, 0, none⟩), .slice A m c] w (PickPost w B g n zs) := by
  have HR := Lib.hid hr
  have HS := Lib.hid hs
  have HN := Lib.hid hne
  clear hr hs hne
  go_enter Try.func85, Try.ntmps85
  go_wp2_with (go_at_call 69; refine (l01Next_any B g n m _ HS.out ?_).mono ?_; (omega); rintro e w2 ⟨x, rfl, hx0, hx1, hs2, hg2⟩; obtain ⟨k, rfl⟩ := Int.eq_ofNat_of_zero_le hx0; have HS2 := Lib.hid hs2; have HG2 := Lib.hid hg2; (have hkm : k < m := (by omega)); obtain ⟨a, e0, hlt, hcell⟩ := HR.out.2 k hkm; (have hcell2 : w2.cell? (a.add k) = some (.int .i64 (zs.getD k 0)) := (World.cell?_of_block (hg2.block _ (by rw [add_block]; exact hlt) (by rw [add_block]; intro e1; exact HN.out a e0 (Option.some.inj e1)))).trans hcell); subst e0; clear hs2 hg2 hcell)
  go_ret
  refine ⟨zs.getD k 0, by simp, ?_, HS2.out, HG2.out⟩
  have hl := HR.out.1
  rw [List.getD_eq_getElem?_getD, List.getElem?_eq_getElem (by omega)]
  exact List.getElem_mem _
end Go.Proofs.Ytbipihamkfifjaa
