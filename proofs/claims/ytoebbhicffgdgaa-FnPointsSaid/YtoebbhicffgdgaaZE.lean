/- ZE: Src Draw Bytes Like FnW DrB DrD DrS DrX DrV. Conditions: stated at each theorem. -/
import Derived.Test.YtoebbhicffgdgaaZA
import Derived.WalkLawsBesides
import Derived.IntWalk
import Derived.RegionTactic
import Derived.BigRegion
import Derived.Laws.BitsAllLaws
import Derived.Test.YtoebbhicffgdgaaZC
import Derived.Test.YtoebbhicffgdgaaZD
/- The source of drawn numbers: contracts of spec.l01Next and spec.l01From: they return, with a number in its range; nothing but the source changes. Conditions: stated at each theorem. -/
namespace Go.Proofs.Ytoebbhicffgdgaa
open Go.ChangeShapes Go.WideShapes Go.ChangeAt Go.RowKit
set_option linter.unusedVariables false

/-- The bytes of a slice, below block B, can be read. -/
def RB (w : World) (B : Nat) (A : Option Addr) (n : Nat) : Prop :=
  ∀ k, k < n → ∃ a x, A = some a ∧ a.block < B ∧ w.cell? (a.add k) = some (.int .u8 x) ∧ 0 ≤ x ∧ x ≤ 255
theorem RB.below {w w' : World} {B n : Nat} {A : Option Addr} (h : RB w B A n) (hb : Below B w w') : RB w' B A n := fun k hk => by
  obtain ⟨a, x, e, hlt, hc, r⟩ := h k hk
  exact ⟨a, x, e, hlt, (hb.cell (by rw [add_block]; exact hlt)).trans hc, r⟩
theorem RB.more {w : World} {B B' n : Nat} {A : Option Addr} (h : RB w B A n) (hB : B ≤ B') : RB w B' A n := fun k hk => by
  obtain ⟨a, x, e, hlt, r⟩ := h k hk
  exact ⟨a, x, e, by omega, r⟩
/-- Block g is a source over n bytes. -/
def SrcAt (w : World) (g : Nat) (A : Option Addr) (n c : Nat) (i : Nat) (h : Int) : Prop :=
  w.rowIs g 101 3 fun j => if j = 0 then .slice A n c else if j = 1 then .int .i64 i else .int .u64 h
def SrcOK (w : World) (B g n : Nat) : Prop :=
  ∃ A c i h, SrcAt w g A n c i h ∧ i ≤ n ∧ (0 ≤ h ∧ h ≤ 18446744073709551615) ∧ RB w B A n ∧ B ≤ g ∧ n ≤ 9223372036854775807
def NextPost (w : World) (B g n : Nat) (m : Int) (e : Ending) (w' : World) : Prop :=
  ∃ x : Int, e = .returned (.int .i64 x) ∧ 0 ≤ x ∧ x < m ∧ SrcOK w' B g n ∧ w.grownBy w' (some g)

theorem low24 (Y : Int) (h : 0 ≤ Y ∧ Y ≤ 18446744073709551615) : 0 ≤ wrap64 (bits BinOp.and IntKind.u64 (Y / 8589934592) 16777215) ∧ wrap64 (bits BinOp.and IntKind.u64 (Y / 8589934592) 16777215) ≤ 16777215 := by
  have hq : 0 ≤ Y / 8589934592 ∧ Y / 8589934592 ≤ 18446744073709551615 := by omega
  rw [u64_and _ _ (by omega) (by omega) (by omega) (by omega)]
  have h1 : (Y / 8589934592).toNat &&& (16777215 : Int).toNat ≤ 16777215 := Nat.and_le_right
  unfold wrap64
  omega
theorem l01Next_any (B g n : Nat) (m : Int) (w : World) (hs : SrcOK w B g n) (hm : 1 ≤ m ∧ m ≤ 9223372036854775807) :
    Calls Try.prog 98 #[.pointer (some ⟨g, 0, none⟩), .int .i64 m] w (NextPost w B g n m) := by
  obtain ⟨A, c, i, h, hsrc, hi, hh, hrb, hB, hn⟩ := hs
  have c0 : w.cell? ⟨g, 0, none⟩ = some (.slice A n c) := by simpa using hsrc.cell (i := 0) (by omega)
  have c1 : w.cell? ⟨g, 1, none⟩ = some (.int .i64 i) := by simpa using hsrc.cell (i := 1) (by omega)
  have c2 : w.cell? ⟨g, 2, none⟩ = some (.int .u64 h) := by simpa using hsrc.cell (i := 2) (by omega)
  have f1 := hsrc.frozen 1
  have f2 := hsrc.frozen 2
  have HS := Lib.hid hsrc
  have HB := Lib.hid hrb
  clear hsrc hrb
  go_enter Try.func98, Try.ntmps98
  go_wp2
  clear c0 c1 c2 f1 f2
  generalize hY : IntKind.u64.wrap (IntKind.u64.wrap (h * 6364136223846793005) + 1442695040888963407) = Y at *
  have hYb : 0 ≤ Y ∧ Y ≤ 18446744073709551615 := by rw [← hY, IntKind.wrap_u64]; omega
  clear hY
  have hX := low24 Y hYb
  generalize wrap64 (bits BinOp.and IntKind.u64 (Y / 8589934592) 16777215) = X at *
  have hs1 : SrcAt (w.setCell ⟨g, 2, none⟩ (.int .u64 Y)) g A n c i Y := (HS.out.set 2 _).congr fun j hj => by
    have : j = 0 ∨ j = 1 ∨ j = 2 := by omega
    rcases this with rfl | rfl | rfl <;> rfl
  have hg1 : w.grownBy (w.setCell ⟨g, 2, none⟩ (.int .u64 Y)) (some g) := grown_setCell (World.grownBy.refl _ _) rfl _
  have hr1 : RB (w.setCell ⟨g, 2, none⟩ (.int .u64 Y)) B A n := HB.out.below ((Below.refl _ _).setCell hB _)
  clear HS HB
  generalize w.setCell ⟨g, 2, none⟩ (.int .u64 Y) = w1 at *
  have c0 : w1.cell? ⟨g, 0, none⟩ = some (.slice A n c) := by simpa using hs1.cell (i := 0) (by omega)
  have c1 : w1.cell? ⟨g, 1, none⟩ = some (.int .i64 i) := by simpa using hs1.cell (i := 1) (by omega)
  have f1 := hs1.frozen 1
  have HS := Lib.hid hs1
  have HG := Lib.hid hg1
  clear hs1 hg1
  by_cases hlt : i < n
  · obtain ⟨a, x, rfl, hab, hx, hx0, hx1⟩ := hr1 i hlt
    have HB := Lib.hid hr1
    have hi0 : (0 : Int) ≤ (i : Int) := Int.natCast_nonneg _
    have hi1 : (i : Int) < (n : Int) := by omega
    have p1 : IntKind.i64.wrap (X + x) = X + x := IntWalk.i64_in _ (by omega)
    have hm2 : 0 ≤ (X + x) % m ∧ (X + x) % m < m := ⟨Int.emod_nonneg _ (by omega), Int.emod_lt_of_pos _ (by omega)⟩
    clear hr1
    go_quiet (fail)
    go_wp2
    go_quiet (fail)
    go_wp2
    go_ret
    refine ⟨(X + x) % m, rfl, hm2.1, hm2.2, ⟨some a, c, i + 1, Y, ?_, by omega, hYb, HB.out.below ?_, hB, hn⟩, ?_⟩
    · refine (World.rowIs.set (w := w1) HS.out 1 (.int .i64 ((i : Int) + 1))).congr fun j hj => ?_
      have : j = 0 ∨ j = 1 ∨ j = 2 := by omega
      rcases this with rfl | rfl | rfl <;> rfl
    · exact (below_drewN (Below.refl _ _) _).setCell hB _
    · exact grown_trans HG.out (grown_setCell (grown_of_below (below_drewN (Below.refl _ _) _) _) rfl _)
  · have HB := Lib.hid hr1
    have hm2 : 0 ≤ X % m ∧ X % m < m := ⟨Int.emod_nonneg _ (by omega), Int.emod_lt_of_pos _ (by omega)⟩
    clear hr1
    go_quiet (fail)
    go_wp2
    go_ret
    exact ⟨X % m, rfl, hm2.1, hm2.2, ⟨A, c, i, Y, HS.out, hi, hYb, HB.out, hB, hn⟩, grown_trans HG.out (grown_of_below (below_drewN (Below.refl _ _) _) _)⟩
theorem l01Next_zero (B g n : Nat) (m : Int) (w : World) (hs : SrcOK w B g n) (hm : m < 1) :
    Calls Try.prog 98 #[.pointer (some ⟨g, 0, none⟩), .int .i64 m] w fun e w' => e = .returned (.int .i64 0) ∧ w = w' := by
  clear hs
  go_enter Try.func98, Try.ntmps98
  go_wp2
  go_ret
  exact ⟨rfl, rfl⟩

def FromPost (w : World) (n : Nat) (e : Ending) (w' : World) : Prop :=
  ∃ g : Nat, e = .returned (.pointer (some ⟨g, 0, none⟩)) ∧ SrcOK w' w.heap.size g n ∧ Below w.heap.size w w'
theorem SrcAt.new (w : World) (A : Option Addr) (n c : Nat) (h : Int) : SrcAt (w.alloc (.cells #[.slice A n c, .int .i64 0, .int .u64 h] 101)) w.heap.size A n c 0 h :=
  World.rowIs_alloc w #[.slice A n c, .int .i64 0, .int .u64 h] _ _ (fun i hi => by
    have : i = 0 ∨ i = 1 ∨ i = 2 := by simp at hi; omega
    rcases this with rfl | rfl | rfl <;> rfl)
theorem SrcAt.put {w : World} {g n c i : Nat} {A : Option Addr} {h : Int} (hs : SrcAt w g A n c i h) (y : Int) : SrcAt (w.setCell ⟨g, 2, none⟩ (.int .u64 y)) g A n c i y :=
  (World.rowIs.set hs 2 (.int .u64 y)).congr fun j hj => by
    have : j = 0 ∨ j = 1 ∨ j = 2 := by omega
    rcases this with rfl | rfl | rfl <;> rfl
theorem u64_in (e : Int) : 0 ≤ IntKind.u64.wrap e ∧ IntKind.u64.wrap e ≤ 18446744073709551615 := by rw [IntKind.wrap_u64]; omega
theorem l01From_any (A : Option Addr) (n c : Nat) (w : World) (hr : RB w w.heap.size A n) (hn : n ≤ 9223372036854775807) :
    Calls Try.prog 85 #[.slice A n c] w (FromPost w n) := by
  have HR := Lib.hid hr
  clear hr
  go_enter Try.func85, Try.ntmps85
  go_wp2
  have hs0 : SrcAt (w.alloc (.cells #[.slice A n c, .int .i64 0, .int .u64 (9341 + (n : Int))] 101)) w.heap.size A n c 0 (9341 + (n : Int)) := SrcAt.new w A n c _
  have hb0 : Below w.heap.size w (w.alloc (.cells #[.slice A n c, .int .i64 0, .int .u64 (9341 + (n : Int))] 101)) := (Below.refl _ _).alloc (Nat.le_refl _) _
  have HS0 := Lib.hid hs0
  clear hs0
  generalize w.alloc (.cells #[.slice A n c, .int .i64 0, .int .u64 (9341 + (n : Int))] 101) = w1 at *
  go_loopw [4] (fun vi wr => ∃ (j : Nat) (h : Int), j ≤ n ∧ (0 ≤ h ∧ h ≤ 18446744073709551615) ∧ vi = .int .i64 j ∧ Hid (SrcAt wr w.heap.size A n c 0 h) ∧ Below w.heap.size w wr) (fun vi _ => n - (intOf vi).toNat)
  case atStart => exact ⟨0, _, by omega, by omega, rfl, HS0, hb0⟩
  case round =>
    obtain ⟨j, h, hj, hh, rfl, hs, hb⟩ := hrel
    by_cases hlt : j < n
    · by_cases h4 : (j : Int) < 4096
      · obtain ⟨a, x, rfl, hab, hx, hx0, hx1⟩ := (HR.out.below hb) j hlt
        have c2 : wr.cell? ⟨w.heap.size, 2, none⟩ = some (.int .u64 h) := by simpa using hs.out.cell (i := 2) (by omega)
        have f2 := hs.out.frozen 2
        have hj0 : (0 : Int) ≤ (j : Int) := Int.natCast_nonneg _
        have hj1 : (j : Int) < (n : Int) := by omega
        go_wp2
        go_region
        all_goals go_wp2
        all_goals go_roundw
        case rel =>
          exact ⟨j + 1, _, by omega, u64_in _, by go_num, Lib.hid (SrcAt.put (w := wr.drew) hs.out _), ((hb.drew).setCell (Nat.le_refl _) _)⟩
        case measure => simp [intOf]; omega
      · go_wp2
        go_ret
        exact ⟨w.heap.size, rfl, ⟨A, c, 0, h, hs.out, by omega, hh, HR.out.below hb, Nat.le_refl _, hn⟩, hb⟩
    · go_wp2
      go_ret
      exact ⟨w.heap.size, rfl, ⟨A, c, 0, h, hs.out, by omega, hh, HR.out.below hb, Nat.le_refl _, hn⟩, hb⟩

def PickPost (w : World) (B g n : Nat) (zs : List Int) (e : Ending) (w' : World) : Prop :=
  ∃ x : Int, e = .returned (.int .i64 x) ∧ x ∈ zs ∧ SrcOK w' B g n ∧ w.grownBy w' (some g)
theorem l01Pick_any (B g n : Nat) (A : Option Addr) (m c : Nat) (zs : List Int) (w : World) (hs : SrcOK w B g n) (hr : RI w w.heap.size A m zs) (hne : ∀ a, A = some a → a.block ≠ g) (hm : 1 ≤ m ∧ m ≤ 9223372036854775807) :
    Calls Try.prog 101 #[.pointer (some ⟨g, 0, none⟩), .slice A m c] w (PickPost w B g n zs) := by
  have HR := Lib.hid hr
  have HS := Lib.hid hs
  have HN := Lib.hid hne
  clear hr hs hne
  go_enter Try.func101, Try.ntmps101
  go_wp2_with (go_at_call 98; refine (l01Next_any B g n m _ HS.out ?_).mono ?_; (omega); rintro e w2 ⟨x, rfl, hx0, hx1, hs2, hg2⟩; obtain ⟨k, rfl⟩ := Int.eq_ofNat_of_zero_le hx0; have HS2 := Lib.hid hs2; have HG2 := Lib.hid hg2; (have hkm : k < m := (by omega)); obtain ⟨a, e0, hlt, hcell⟩ := HR.out.2 k hkm; (have hcell2 : w2.cell? (a.add k) = some (.int .i64 (zs.getD k 0)) := (World.cell?_of_block (hg2.block _ (by rw [add_block]; exact hlt) (by rw [add_block]; intro e1; exact HN.out a e0 (Option.some.inj e1)))).trans hcell); subst e0; clear hs2 hg2 hcell)
  go_ret
  refine ⟨zs.getD k 0, by simp, ?_, HS2.out, HG2.out⟩
  have hl := HR.out.1
  rw [List.getD_eq_getElem?_getD, List.getElem?_eq_getElem (by omega)]
  exact List.getElem_mem _
end Go.Proofs.Ytoebbhicffgdgaa
/- Drawn integers: contracts of spec.l01Draw and spec.l01Two: they return, with numbers in a range; nothing that was there changes but the source. Conditions: stated at each theorem. -/
namespace Go.Proofs.Ytoebbhicffgdgaa
open Go.ChangeShapes Go.WideShapes Go.ChangeAt Go.RowKit
set_option linter.unusedVariables false

theorem SrcOK.lt {w : World} {B g n : Nat} (h : SrcOK w B g n) : g < w.heap.size := by
  obtain ⟨A, c, i, y, hs, _⟩ := h
  exact World.rowIs.lt hs
theorem SrcOK.alloc {w : World} {B g n : Nat} (h : SrcOK w B g n) (o : Obj) : SrcOK (w.alloc o) B g n := by
  have hlt := h.lt
  obtain ⟨A, c, i, y, hs, hi, hy, hr, hB, hn⟩ := h
  exact ⟨A, c, i, y, World.rowIs.alloc hs o, hi, hy, hr.below ((Below.refl _ _).alloc (by omega) o), hB, hn⟩
theorem SrcOK.far {w w' : World} {B g n : Nat} (h : SrcOK w B g n) (hb : Below w.heap.size w w') : SrcOK w' B g n := by
  have hlt := h.lt
  obtain ⟨A, c, i, y, hs, hi, hy, hr, hB, hn⟩ := h
  exact ⟨A, c, i, y, World.rowIs.of_block hs (hb.block g hlt), hi, hy, hr.below (hb.mono (by omega)), hB, hn⟩
/-- A slice that was just built reads as its numbers. -/
theorem newRI (w : World) (zs : List Int) (hz : zs.length ≤ 1000) : RI (w.alloc (.cells (zs.map (.int .i64)).toArray 2)) (w.alloc (.cells (zs.map (.int .i64)).toArray 2)).heap.size (some ⟨w.heap.size, 0, none⟩) zs.length zs := by
  have h : Own (w.alloc (.cells (zs.map (.int .i64)).toArray 2)) w.heap.size (.slice (some ⟨w.heap.size, 0, none⟩) zs.length zs.length) zs.length (zs.map (.int .i64)) := by
    have := World.ownsRow_lit (e := 2) (size := 1) (base := w.heap.size) w (zs.map (.int .i64)).toArray zs.length (Nat.le_refl _) (by simp only [maxLen]; omega) (by simp)
    rw [List.toList_toArray] at this
    exact this
  exact h.reads
theorem grown_alloc {a w : World} {row : Option Nat} (h : a.grownBy w row) (o : Obj) : a.grownBy (w.alloc o) row := grown_trans h (World.grownBy_alloc w o row)

def DrawPost (w : World) (B g n : Nat) (e : Ending) (w' : World) : Prop :=
  ∃ x : Int, e = .returned (.int .i64 x) ∧ -4611686018427387904 ≤ x ∧ x ≤ 1000000001 ∧ SrcOK w' B g n ∧ w.grownBy w' (some g)
/-- Nothing that was there changes while only the source, which is new, does. -/
theorem below_src {w w1 w2 : World} {g : Nat} (h : Below w.heap.size w w1) (hg : w1.grownBy w2 (some g)) (hn : w.heap.size ≤ g) : Below w.heap.size w w2 := h.grown hg h.size (fun k hk => by cases hk; exact hn)
theorem SrcOK.new {w : World} {B g n : Nat} (h : SrcOK w B g n) : B ≤ g := by
  obtain ⟨A, c, i, y, _, _, _, _, hB, _⟩ := h
  exact hB
def TwoPost (w : World) (e : Ending) (w' : World) : Prop :=
  ∃ a b : Int, e = .returned (.tuple #[.int .i64 a, .int .i64 b]) ∧ (-4611686018427387904 ≤ a ∧ a ≤ 1000000001) ∧ (-4611686018427387904 ≤ b ∧ b ≤ 1000000001) ∧ Below w.heap.size w w'
end Go.Proofs.Ytoebbhicffgdgaa
/- A []byte that comes in. Conditions: stated at each theorem. -/
namespace Go.Proofs.Ytoebbhicffgdgaa
open Go.ChangeShapes Go.WideShapes Go.ChangeAt Go.RowKit
set_option linter.unusedVariables false
set_option maxRecDepth 100000 in
theorem open_row_bytes {H : Type} {enc : TypeId × Value → H} {W : World} {B : Nat} {r : Reach} {b0 : Nat} {v : Value} {d : DataW H} {p : List MemPlace}
    (hv : Value.okWide Try.prog W r b0 22 v) (h : DataW.Trod enc Try.prog W 0 (fun _ => true) true 22 v d p) (hlt : ∀ x ∈ p, x.block < B) :
    ∃ (A : Option Addr) (n c : Nat), v = .slice A n c ∧ RB W B A n ∧ n ≤ 9223372036854775807 := by
  obtain ⟨a0, len, cap, rfl⟩ := okWide_slice Try.underlying22 hv
  obtain ⟨fuel, hf⟩ := h
  rcases open_ints Try.underlying22 Try.underlying5 (by kernel_rfl) hf with ⟨e, _⟩ | ⟨a, len', cap', zs, e, _, hle, hcap, hzl, hx, hcell, hwf⟩
  · simp [Value.cells] at e
    obtain ⟨rfl, rfl, rfl⟩ := e
    exact ⟨none, 0, 0, rfl, fun k hk => by omega, by omega⟩
  · simp [Value.cells] at e
    obtain ⟨rfl, rfl, rfl⟩ := e
    simp only [if_true] at hzl
    simp only [Prod.mk.injEq] at hx
    have hp : p = MemPlace.row a zs.length := hx.2
    unfold maxLen at hcap
    refine ⟨some a, len, cap, rfl, fun k hk => ?_, by omega⟩
    have hkz : k < zs.length := by omega
    refine ⟨a, zs[k], rfl, ?_, ?_, bounds_u8 (hwf _ (List.getElem_mem hkz))⟩
    · have := hlt (.cell a.block (a.off + 0)) (by rw [hp]; exact MemPlace.mem_row.2 ⟨0, by omega, rfl⟩)
      simpa [MemPlace.block] using this
    · rw [hcell k (by omega)]
      simp [List.getD, hkz]
end Go.Proofs.Ytoebbhicffgdgaa
/- laws.likeInts and laws.likeRows5 over equal lists: they return true; nothing changes. Conditions: stated at each theorem. -/
namespace Go.Proofs.Ytoebbhicffgdgaa
open Go.ChangeShapes Go.WideShapes Go.ChangeAt Go.RowKit
set_option linter.unusedVariables false

theorem likeInts_same (A A' : Option Addr) (n c c' : Nat) (zs : List Int) (w : World) (B : Nat) (hr : RI w B A n zs) (hr' : RI w B A' n zs) (hn : n ≤ 9223372036854775807) :
    Calls Try.prog 29 #[.slice A n c, .slice A' n c'] w fun e w' => e = .returned (.bool true) ∧ ∃ m, w' = w.drewN m := by
  have H0 := Lib.hid hr
  have H1 := Lib.hid hr'
  clear hr hr'
  go_enter Try.func29, Try.ntmps29
  go_wp2
  go_loopw [5] (fun i wr => ∃ (k m : Nat), k ≤ n ∧ i = .int .i64 k ∧ wr = w.drewN m) (fun i _ => n - (intOf i).toNat)
  case atStart => exact ⟨0, 0, by omega, rfl, rfl⟩
  case round =>
    obtain ⟨k, m, hk, rfl, rfl⟩ := hrel
    by_cases hlt : k < n
    · obtain ⟨a, rfl, _, hcell⟩ := H0.out.2 k hlt
      obtain ⟨a', rfl, _, hcell'⟩ := H1.out.2 k hlt
      have hk0 : (0 : Int) ≤ (k : Int) := Int.natCast_nonneg _
      have hk1 : (k : Int) < (n : Int) := by omega
      go_wp2
      go_quiet (fail)
      go_wp2
      go_roundw
      case rel => exact ⟨k + 1, m + nq, by omega, by go_num, rfl⟩
      case measure => simp [intOf]; omega
    · obtain rfl : k = n := by omega
      go_wp2
      go_ret
      exact ⟨rfl, m, rfl⟩

theorem likeRows5_same (A A' : Option Addr) (n c c' : Nat) (zf : Nat → List Int) (w : World) (B : Nat) (hr : RSS w B A n zf) (hr' : RSS w B A' n zf) (hn : n ≤ 9223372036854775807) (hm : ∀ k, k < n → (zf k).length ≤ 9223372036854775807) :
    Calls Try.prog 30 #[.slice A n c, .slice A' n c'] w fun e w' => e = .returned (.bool true) ∧ ∃ m, w' = w.drewN m := by
  have H0 := Lib.hid hr
  have H1 := Lib.hid hr'
  have HM := Lib.hid hm
  clear hr hr' hm
  go_enter Try.func30, Try.ntmps30
  go_wp2
  go_loopw [5] (fun i wr => ∃ (k : Nat), k ≤ n ∧ i = .int .i64 k ∧ Hid (∃ m, wr = w.drewN m)) (fun i _ => n - (intOf i).toNat)
  case atStart => exact ⟨0, by omega, rfl, Lib.hid ⟨0, rfl⟩⟩
  case round =>
    obtain ⟨k, hk, rfl, hw⟩ := hrel
    by_cases hlt : k < n
    · obtain ⟨a, A1, c1, rfl, _, hcell, hri⟩ := H0.out k hlt
      obtain ⟨a', A1', c1', rfl, _, hcell', hri'⟩ := H1.out k hlt
      have hk0 : (0 : Int) ≤ (k : Int) := Int.natCast_nonneg _
      have hk1 : (k : Int) < (n : Int) := by omega
      have hx : wr.cell? (a.add k) = some (.slice A1 (zf k).length c1) := by obtain ⟨m, rfl⟩ := hw.out; exact hcell
      have hx' : wr.cell? (a'.add k) = some (.slice A1' (zf k).length c1') := by obtain ⟨m, rfl⟩ := hw.out; exact hcell'
      have HR : Hid (RI wr B A1 (zf k).length (zf k)) := Lib.hid (by obtain ⟨m, rfl⟩ := hw.out; exact hri)
      have HR' : Hid (RI wr B A1' (zf k).length (zf k)) := Lib.hid (by obtain ⟨m, rfl⟩ := hw.out; exact hri')
      have HL := HM.out k hlt
      clear hcell hcell' hri hri'
      go_wp2
      go_quiet ((go_at_call 29; exact Calls.quiet_of (likeInts_same A1 A1' _ c1 c1' (zf k) _ B HR.out HR'.out HL)))
      go_wp2
      go_roundw
      case rel => exact ⟨k + 1, by omega, by go_num, Lib.hid (by obtain ⟨m, rfl⟩ := hw.out; exact ⟨m + nq, World.drewN_drewN _ _ _⟩)⟩
      case measure => simp [intOf]; omega
    · obtain rfl : k = n := by omega
      go_wp2
      go_ret
      exact ⟨rfl, hw.out⟩
end Go.Proofs.Ytoebbhicffgdgaa
/- Laws over drawn bytes: laws.big, laws.likeInts, laws.likeRows5 and words. Conditions: stated at each theorem. -/
namespace Go.Proofs.Ytoebbhicffgdgaa
open Go.ChangeShapes Go.WideShapes Go.ChangeAt Go.RowKit
set_option linter.unusedVariables false

theorem bigF_any (A : Option Addr) (n c : Nat) (w : World) (hn : n ≤ 9223372036854775807) :
    Calls Try.prog 17 #[.slice A n c] w fun e w' => e = .returned (.bool (decide (4096 < (n : Int)))) ∧ w = w' := by
  go_enter Try.func17, Try.ntmps17
  go_wp2
  go_ret
  exact ⟨rfl, rfl⟩
theorem ReadI.next {w w' : World} {v : Value} {L : List Int} (h : ReadI w w.heap.size v L) (hb : Below w.heap.size w w') : ReadI w' w'.heap.size v L := (h.below hb).more hb.size
theorem ReadQ.next {w w' : World} {v : Value} {L : List (List Int)} (h : ReadQ w w.heap.size v L) (hb : Below w.heap.size w w') : ReadQ w' w'.heap.size v L := (h.below hb).more hb.size
theorem RB.next {w w' : World} {n : Nat} {A : Option Addr} (h : RB w w.heap.size A n) (hb : Below w.heap.size w w') : RB w' w'.heap.size A n := (h.below hb).more hb.size
theorem below_next {w w1 w2 : World} {B : Nat} (h : Below B w w1) (hs : B ≤ w1.heap.size) (hb : Below w1.heap.size w1 w2) : Below B w w2 := h.trans (hb.mono hs)
/-- What a law's walk keeps: the bytes, what was there. -/
structure KpL (w0 : World) (A : Option Addr) (n : Nat) (w : World) : Prop where
  bytes : RB w w.heap.size A n
  below : Below w0.heap.size w0 w
theorem KpL.next {w0 w w' : World} {A : Option Addr} {n : Nat} (h : KpL w0 A n w) (hb : Below w.heap.size w w') : KpL w0 A n w' := ⟨h.bytes.next hb, below_next h.below h.below.size hb⟩
/-- A cell of a block that stays. -/
structure KpC (b : Nat) (v : Value) (w : World) : Prop where
  cell : w.cell? ⟨b, 0, none⟩ = some v
  lt : b < w.heap.size
theorem KpC.next {w w' : World} {b : Nat} {v : Value} (h : KpC b v w) (hb : Below w.heap.size w w') : KpC b v w' :=
  ⟨(hb.cell (p := ⟨b, 0, none⟩) h.lt).trans h.cell, Nat.lt_of_lt_of_le h.lt hb.size⟩
theorem KpC.new (w : World) (v : Value) (t : TypeId) : KpC w.heap.size v (w.alloc (.cells #[v] t)) := ⟨by go_simp, by simp⟩
theorem box_below (w : World) (o : Obj) : Below w.heap.size w (w.alloc o) := (Below.refl _ _).alloc (Nat.le_refl _) o
theorem likeI (v v' : Value) (zs : List Int) (w : World) (hr : ReadI w w.heap.size v zs) (hr' : ReadI w w.heap.size v' zs) (hn : zs.length ≤ 9223372036854775807) :
    Calls Try.prog 29 #[v, v'] w fun e w' => e = .returned (.bool true) ∧ Below w.heap.size w w' := by
  obtain ⟨A, c, rfl, h, _⟩ := hr
  obtain ⟨A', c', rfl, h', _⟩ := hr'
  refine (likeInts_same A A' _ c c' zs w _ h h' hn).mono ?_
  rintro e w' ⟨rfl, m, rfl⟩
  exact ⟨rfl, drewN_below _ _⟩
theorem likeQ (v v' : Value) (zs : List (List Int)) (w : World) (hr : ReadQ w w.heap.size v zs) (hr' : ReadQ w w.heap.size v' zs) (hn : zs.length ≤ 9223372036854775807) (hm : ∀ k, lens zs k ≤ 9223372036854775807) :
    Calls Try.prog 30 #[v, v'] w fun e w' => e = .returned (.bool true) ∧ Below w.heap.size w w' := by
  have ss : ∀ {u : Value}, ReadQ w w.heap.size u zs → ∃ A c, u = .slice A zs.length c ∧ RSS w w.heap.size A zs.length (fun k => zs.getD k []) := fun {u} h => by
    obtain ⟨A, c, e, h1, _⟩ := h
    refine ⟨A, c, e, fun k hk => ?_⟩
    obtain ⟨a, u, ea, hlt, hc, hri⟩ := h1 k hk
    obtain ⟨A', c', rfl, h5, _⟩ := hri
    exact ⟨a, A', c', ea, hlt, hc, h5⟩
  obtain ⟨A, c, rfl, h⟩ := ss hr
  obtain ⟨A', c', rfl, h'⟩ := ss hr'
  refine (likeRows5_same A A' _ c c' (fun k => zs.getD k []) w _ h h' hn (fun k hk => hm k)).mono ?_
  rintro e w' ⟨rfl, m, rfl⟩
  exact ⟨rfl, drewN_below _ _⟩
end Go.Proofs.Ytoebbhicffgdgaa
/- Drawn branches: contracts of spec.l03Small, l03Draw, l03Spoil. Conditions: stated at each theorem. -/
namespace Go.Proofs.Ytoebbhicffgdgaa
open Go.ChangeShapes Go.WideShapes Go.ChangeAt Go.RowKit Go.Deep
set_option linter.unusedVariables false
set_option linter.unusedSimpArgs false

theorem SrcOK.above {w w' : World} {B g n lo : Nat} (h : SrcOK w B g n) (hb : Below lo w w') (hg : g < lo) : SrcOK w' B g n := by
  obtain ⟨A, c, i, y, hs, hi, hy, hr, hB, hn⟩ := h
  exact ⟨A, c, i, y, World.rowIs.of_block hs (hb.block g hg), hi, hy, hr.below (hb.mono (by omega)), hB, hn⟩
theorem grown_above {a w w' : World} {row : Option Nat} (h : a.grownBy w row) (hb : Below a.heap.size w w') : a.grownBy w' row :=
  ⟨hb.os.trans h.os, hb.tape.trans h.tape, hb.output.trans h.output, Nat.le_trans h.size hb.size, fun i hi hn => (hb.block i hi).trans (h.block i hi hn)⟩
theorem kept_src {w w' : World} {g lo hi : Nat} (h : w.grownBy w' (some g)) (hg : g < lo) (hhi : hi ≤ w.heap.size) : Kept lo hi w w' :=
  ⟨h.size, fun b h1 h2 => h.block b (by omega) (by intro e; cases e; omega)⟩
theorem grown_cellD {w w' : World} {g : Nat} (h : w.grownBy w' (some g)) {p : Addr} (hp : p.block ≠ g) (hl : p.block < w.heap.size) : w'.cell? p = w.cell? p :=
  World.cell?_of_block (h.block p.block hl (by intro e; exact hp (Option.some.inj e)))
theorem grown_frozenD {w w' : World} {g : Nat} (h : w.grownBy w' (some g)) {p : Addr} (hp : p.block ≠ g) (hl : p.block < w.heap.size) : w'.frozen? p = w.frozen? p := by
  unfold World.frozen?
  rw [h.block p.block hl (by intro e; exact hp (Option.some.inj e))]
theorem gcd_lin (own q : Int) : Int.gcd (own * q + 1) own = 1 := by simp
theorem gcd_stop (own c : Int) (h : 2 ≤ own ∧ own ≤ 5) (hc : 1 ≤ c) : ∃ D, c ≤ D ∧ D ≤ c + 6 ∧ Int.gcd D own = 1 := by
  refine ⟨own * (c / own + 1) + 1, ?_, ?_, gcd_lin _ _⟩
  all_goals
    have h4 : own = 2 ∨ own = 3 ∨ own = 4 ∨ own = 5 := by omega
    rcases h4 with rfl | rfl | rfl | rfl <;> omega
theorem ownQ_hi {w : World} {lo hi hi' : Nat} {v : Value} {zss : List (List Int)} (h : OwnQ w lo hi v zss) (h1 : hi ≤ hi') (h2 : hi' ≤ w.heap.size) : OwnQ w lo hi' v zss := by
  obtain ⟨us, ls, hs, r1, r2, r3, r4, r5⟩ := h
  exact ⟨us, ls, hs, r1, fun k hk => ⟨by have := (r2 k hk).1; omega, (r2 k hk).2⟩, h2, fun i hi => ⟨(r4 i hi).1, by have := (r4 i hi).2.1; omega, (r4 i hi).2.2⟩, r5⟩
theorem ownQ_src {w w' : World} {lo g : Nat} {v : Value} {zss : List (List Int)} (h : OwnQ w lo w.heap.size v zss) (hg : w.grownBy w' (some g)) (hl : g < lo) : OwnQ w' lo w'.heap.size v zss :=
  ownQ_hi (h.kept (kept_src hg hl (Nat.le_refl _))) hg.size (Nat.le_refl _)
theorem ownQ_alloc {w : World} {lo : Nat} {v : Value} {zss : List (List Int)} (h : OwnQ w lo w.heap.size v zss) (o : Obj) : OwnQ (w.alloc o) lo (w.alloc o).heap.size v zss :=
  ownQ_hi (h.kept (kept_boxR w o lo _ (Nat.le_refl _))) (by simp) (Nat.le_refl _)
/-- What the drawing keeps: the source, what was there but it, and the lists so far. -/
structure KpD (W0 : World) (B g n : Nat) (v : Value) (L : List (List Int)) (w : World) : Prop where
  src : SrcOK w B g n
  grown : W0.grownBy w (some g)
  own : OwnQ w W0.heap.size w.heap.size v L
theorem KpD.step {W0 w w' : World} {B g n : Nat} {v : Value} {L : List (List Int)} (h : KpD W0 B g n v L w) (hs : SrcOK w' B g n) (hg : w.grownBy w' (some g)) (hl : g < W0.heap.size) : KpD W0 B g n v L w' :=
  ⟨hs, grown_trans h.grown hg, ownQ_src h.own hg hl⟩
theorem KpD.alloc {W0 w : World} {B g n : Nat} {v : Value} {L : List (List Int)} (h : KpD W0 B g n v L w) (o : Obj) : KpD W0 B g n v L (w.alloc o) :=
  ⟨h.src.alloc o, grown_alloc h.grown o, ownQ_alloc h.own o⟩
theorem KpD.lt {W0 w : World} {B g n : Nat} {v : Value} {L : List (List Int)} (h : KpD W0 B g n v L w) : g < w.heap.size := h.src.lt
/-- What is known of a drawn list of terms. -/
def DrOK (L : List Int) : Prop := (brB L = true ∨ L = [2] ∨ L = [3]) ∧ L.length ≤ 8
theorem DrOK.range {L : List Int} (h : DrOK L) : ∀ z ∈ L, 1 ≤ z ∧ z ≤ 2000 := by
  rcases h.1 with h | h | h
  · exact dcB_range (brB_dcB h)
  · intro z hz; rw [h] at hz; simp at hz; omega
  · intro z hz; rw [h] at hz; simp at hz; omega
theorem DrOK.pos {L : List Int} (h : DrOK L) : 1 ≤ L.length := by
  rcases h.1 with h | h | h
  · exact brB_pos h
  · simp [h]
  · simp [h]
theorem DrOK.wf {L : List Int} (h : DrOK L) : ∀ z ∈ L, (Lit.int .i64 z).wf = true := fun z hz => i64_wf (by have := h.range z hz; omega) (by have := h.range z hz; omega)
theorem DrOK.one {m : Int} (h : 1 ≤ m ∧ m ≤ 3) : DrOK [m] := by
  refine ⟨?_, by simp⟩
  have h4 : m = 1 ∨ m = 2 ∨ m = 3 := by omega
  rcases h4 with rfl | rfl | rfl
  · exact .inl (by decide)
  · exact .inr (.inl rfl)
  · exact .inr (.inr rfl)
def SmallPost (w : World) (B g n : Nat) (e : Ending) (w' : World) : Prop :=
  ∃ v L, e = .returned (.agg #[v]) ∧ OwnI w' w.heap.size w'.heap.size v L ∧ DrOK L ∧ SrcOK w' B g n ∧ w.grownBy w' (some g)
theorem small_end {w W0 w5 : World} {B g n : Nat} {v : Value} {L : List Int} (hS : W0.heap.size = w.heap.size + 1) (hW : Below w.heap.size w W0) (hg : g < w.heap.size) (ho : OwnI w5 w.heap.size w5.heap.size v L) (hL : DrOK L) (hs : SrcOK w5 B g n) (hgr : W0.grownBy w5 (some g)) (hne : v.ownBlock ≠ some w.heap.size) (u : Value) :
    SmallPost w B g n (.returned (.agg #[v])) (w5.setCell ⟨w.heap.size, 0, none⟩ u) := by
  have hbx : Below w.heap.size w5 (w5.setCell ⟨w.heap.size, 0, none⟩ u) := (Below.refl _ _).setCell (p := ⟨w.heap.size, 0, none⟩) (Nat.le_refl _) u
  refine ⟨v, L, rfl, ?_, hL, hs.above hbx hg, ?_⟩
  · rw [setCell_size]
    exact own_set ho hne
  · exact grown_above (grown_trans (grown_of_below hW _) hgr) hbx
theorem Start1.src {w W0 w1 : World} {g : Nat} (h : Start1 w W0) (hg : g < w.heap.size) (hgr : W0.grownBy w1 (some g)) : w1.cell? ⟨w.heap.size, 0, none⟩ = some (.slice none 0 0) ∧ w1.frozen? ⟨w.heap.size, 0, none⟩ = false ∧ w.heap.size < w1.heap.size := by
  have hwW : w.heap.size < W0.heap.size := by have := h.size; omega
  exact ⟨(grown_cellD hgr (p := ⟨w.heap.size, 0, none⟩) (by show ¬ w.heap.size = g; omega) hwW).trans h.res.1, (grown_frozenD hgr (p := ⟨w.heap.size, 0, none⟩) (by show ¬ w.heap.size = g; omega) hwW).trans h.free, Nat.lt_of_lt_of_le hwW hgr.size⟩
theorem small_one {w W0 w5 : World} {B g n : Nat} (hS : W0.heap.size = w.heap.size + 1) (hW : Below w.heap.size w W0) (hg : g < w.heap.size) (m : Int) (hm : 1 ≤ m ∧ m ≤ 3) (hs : SrcOK w5 B g n) (hgr : W0.grownBy w5 (some g)) (u : Value) :
    SmallPost w B g n (.returned (.agg #[.slice (some ⟨w5.heap.size, 0, none⟩) 1 1])) ((w5.setCell ⟨w.heap.size, 0, none⟩ u).alloc (.cells #[.int .i64 m] 2)) := by
  have hbx : Below w.heap.size w5 (w5.setCell ⟨w.heap.size, 0, none⟩ u) := (Below.refl _ _).setCell (p := ⟨w.heap.size, 0, none⟩) (Nat.le_refl _) u
  have hsz := hgr.size
  have hz := setCell_size w5 ⟨w.heap.size, 0, none⟩ u
  refine ⟨_, [m], rfl, ?_, DrOK.one hm, (hs.above hbx hg).alloc _, ?_⟩
  · have h := OwnI.mk' (n := 1) (zs := [m]) (World.ownsRow_lit (base := w.heap.size) (w5.setCell ⟨w.heap.size, 0, none⟩ u) #[.int .i64 m] 1 (e := 2) (size := 1) (by omega) (by simp [maxLen]) rfl)
    rwa [hz] at h
  · exact grown_alloc (grown_above (grown_trans (grown_of_below hW _) hgr) hbx) _
def PairOK (z : List Int) : Prop := ∃ a b, z = [a, b] ∧ (1 ≤ a ∧ a ≤ 100) ∧ (1 ≤ b ∧ b ≤ 5)
theorem bn_dr {L : List (List Int)} (h : bnC L = 0) : DrOK (bnA L) := by
  cases hp : bpB L
  · have := (bn_no hp).2; omega
  · obtain ⟨h1, h2⟩ := bn_yes hp
    obtain ⟨hok, hl⟩ := bpB_ok hp
    have hq := qn_ok hok (by rw [psOf_len]; exact hl)
    cases hb : bqB (qnL 0 (psOf L))
    · have := (bq_no hb).2; omega
    · rw [h1, (bq_yes hb).1]
      simp only [bqB, Bool.and_eq_true] at hb
      exact ⟨.inl hb.1, by rw [bpL_len, qnL_len, psOf_len]; omega⟩
theorem rows_sum {L : List (List Int)} (h : ∀ z ∈ L, PairOK z) (hl : L.length ≤ 3) : szTot L ≤ 1048576 := by
  have hk : ∀ i, lens L i ≤ 2 := fun i => by
    unfold lens
    by_cases hi : i < L.length
    · have : L.getD i [] ∈ L := by simp [List.getD, hi]
      obtain ⟨a, b, e, _⟩ := h _ this
      rw [e]; simp
    · simp [List.getD, hi]
  have : ∀ n, n ≤ 3 → sumTo (lens L) n ≤ 2 * n := fun n hn => by
    induction n with
    | zero => simp [sumTo]
    | succ k ih => have := ih (by omega); have := hk k; simp only [sumTo]; omega
  have := this L.length hl
  unfold szTot
  omega
theorem rows_wf {L : List (List Int)} (h : ∀ z ∈ L, PairOK z) : ∀ x ∈ L, x.length ≤ 9223372036854775807 ∧ ∀ z ∈ x, (Lit.int .i64 z).wf = true := fun x hx => by
  obtain ⟨a, b, rfl, ha, hb⟩ := h x hx
  refine ⟨by simp, fun z hz => ?_⟩
  simp at hz
  rcases hz with rfl | rfl
  · exact i64_wf (by omega) (by omega)
  · exact i64_wf (by omega) (by omega)

set_option maxRecDepth 100000 in
set_option maxHeartbeats 2000000 in
theorem l03Small_any (B g n : Nat) (most term : Int) (w : World) (hs : SrcOK w B g n) (hm : 1 ≤ most ∧ most ≤ 64) (ht : -9223372036854775808 ≤ term ∧ term ≤ 9223372036854775807) :
    Calls Try.prog 119 #[.pointer (some ⟨g, 0, none⟩), .int .i64 most, .int .i64 term] w (SmallPost w B g n) := by
  have hg := hs.lt
  have HS := Lib.hid hs
  clear hs
  obtain ⟨W0, HE⟩ : ∃ W, W = w.alloc (.cells #[.slice none 0 0] 26) := ⟨_, rfl⟩
  have hS0 : Start1 w W0 := by rw [HE]; exact Start1.new _
  have hb0 := hS0.below
  have HS0 := Lib.hid (HS.out.far hb0)
  have S0 := Lib.hid hS0
  have HEQ := Lib.hid HE
  have HSW := Lib.hid hS0.size
  have hwW : w.heap.size < W0.heap.size := by have := HSW.out; omega
  have hgW : g < W0.heap.size := by omega
  clear HS hb0 hS0 HE
  obtain ⟨i0, hi0, hz0, hz1, hz2⟩ := info_parts slice_infoP
  go_enter Try.func119, Try.ntmps119
  go_wp2_with fail
  rw [← HEQ.out]
  have K1 : Hid (KpD W0 B g n (.slice (some ⟨W0.heap.size, 0, none⟩) 0 0) [] (W0.alloc (.cells #[] 24))) := Lib.hid ⟨HS0.out.alloc _, World.grownBy_alloc _ _ _, ownQ_newR W0 W0.heap.size (Nat.le_refl _)⟩
  generalize hW1 : W0.alloc (.cells #[] 24) = W1 at *
  clear hW1
  refine (l01Next_any B g n 3 W1 K1.out.src (by omega)).mono ?_
  rintro e W2 ⟨x, rfl, hx0, hx1, hs2, hg2⟩
  have K2 := Lib.hid (K1.out.step hs2 hg2 hgW)
  clear hs2 hg2 K1
  go_wp2_with fail
  go_loopw [7, 8, 9] (fun vp vn vk wr => ∃ (N : Nat) (x k : Int) (A' : Option Addr) (c' : Nat) (L : List (List Int)), vp = .slice A' N c' ∧ vn = .int .i64 x ∧ vk = .int .i64 k ∧ (1 ≤ x ∧ x ≤ 64) ∧ (0 ≤ k ∧ (N : Int) + k ≤ 3) ∧ Hid (L.length = N) ∧ Hid (∀ z ∈ L, PairOK z) ∧ Hid (KpD W0 B g n (.slice A' N c') L wr)) (fun _ _ vk _ => (intOf vk).toNat)
  case atStart => exact ⟨0, 1, 1 + x, some ⟨W0.heap.size, 0, none⟩, 0, [], by rw [HSW.out], rfl, by first | rfl | go_num, by omega, by omega, Lib.hid rfl, Lib.hid (by simp), K2⟩
  case round =>
    clear K2
    obtain ⟨N, x, k, A', c', L, rfl, rfl, rfl, hx, hk, HL, HP, K⟩ := hrel
    by_cases hk0 : k > 0
    · have p1 : IntKind.i64.wrap (k - 1) = k - 1 := IntWalk.i64_in _ (by omega)
      have hkb : decide (k > 0) = true := by simpa using hk0
      go_wp2_with fail
      refine (l01Next_any B g n 4 wr K.out.src (by omega)).mono ?_
      rintro e w3 ⟨y, rfl, hy0, hy1, hs3, hg3⟩
      have K3 := Lib.hid (K.out.step hs3 hg3 hgW)
      clear hs3 hg3 K
      obtain ⟨own, ho⟩ : ∃ own, own = y + 2 := ⟨_, rfl⟩
      obtain rfl : y = own - 2 := by omega
      have q1 : (2 : Int) + (own - 2) = own := by omega
      have q2 : IntKind.i64.wrap own = own := IntWalk.i64_in _ (by omega)
      have hprod : 1 ≤ x * own ∧ x * own ≤ 320 := by
        have h4 : own = 2 ∨ own = 3 ∨ own = 4 ∨ own = 5 := by omega
        rcases h4 with rfl | rfl | rfl | rfl <;> omega
      have q3 : IntKind.i64.wrap (x * own) = x * own := IntWalk.i64_in _ (by omega)
      generalize hxo : x * own = xo at *
      clear ho
      by_cases hc : most < xo
      · have hcb : decide (most < xo) = true := by simpa using hc
        go_wp2_with fail
        go_roundw
        case rel => exact ⟨N, x, k - 1, A', c', L, rfl, rfl, by go_num, by omega, by omega, HL, HP, K3⟩
        case measure => simp [intOf]; omega
      have hcb : decide (most < xo) = false := by simpa using hc
      go_wp2_with fail
      have K4 := Lib.hid (K3.out.alloc (.cells ([4, 8, 12].map (.int .i64)).toArray 2))
      have HA4 := Lib.hid (newRI w3 [4, 8, 12] (by simp))
      have hgz : g < w3.heap.size := K3.out.lt
      refine (l01Pick_any B g n _ 3 3 [4, 8, 12] _ K4.out.src HA4.out ?_ (by omega)).mono ?_
      · intro a ha; cases ha; show ¬ w3.heap.size = g; omega
      rintro e w5 ⟨m, rfl, hm, hs5, hg5⟩
      have K5 := Lib.hid (K4.out.step hs5 hg5 hgW)
      have hm2 : 4 ≤ m ∧ m ≤ 12 := by simp at hm; omega
      clear hs5 hg5 K3 K4 HA4 hm
      go_wp2_with fail
      refine (l01Next_any B g n m w5 K5.out.src (by omega)).mono ?_
      rintro e w6 ⟨y, rfl, hy0, hy1, hs6, hg6⟩
      have K6 := Lib.hid (K5.out.step hs6 hg6 hgW)
      clear hs6 hg6 K5
      obtain ⟨D, hD1, hD2, hD3⟩ := gcd_stop own (1 + y) (by omega) (by omega)
      have r1 : IntKind.i64.wrap (1 + y) = 1 + y := IntWalk.i64_in _ (by omega)
      have HD3 := Lib.hid hD3
      clear hD3
      go_wp2_with fail
      go_loopw [11] (fun vc wr => ∃ c : Int, vc = .int .i64 c ∧ (1 ≤ c ∧ c ≤ D) ∧ Hid (KpD W0 B g n (.slice A' N c') L wr)) (fun vc _ => (D - intOf vc).toNat)
      case atStart => exact ⟨_, by first | rfl | go_num, by omega, K6⟩
      case round =>
        obtain ⟨c, rfl, hcr, KL⟩ := hrel
        by_cases hgc : Int.gcd c own = 1
        rotate_left
        · have hgc2 : (1 : Int) < ((Int.gcd c own : Nat) : Int) := by
            have h5 : Int.gcd c own ≠ 0 := by rw [Ne, Int.gcd_eq_zero_iff]; omega
            omega
          have hgb : decide (((Int.gcd c own : Nat) : Int) > 1) = true := by simpa using hgc2
          have hcD : c ≠ D := by intro e; rw [e] at hgc; exact hgc HD3.out
          have r2 : IntKind.i64.wrap (c + 1) = c + 1 := IntWalk.i64_in _ (by omega)
          go_wp2_with (go_at_call 97; refine (l01Gcd_any _ _ _ (by omega) (by omega) (by omega) (by omega)).mono ?_; rintro e w' ⟨rfl, rfl⟩)
          go_roundw
          case rel => exact ⟨c + 1, by go_num, by omega, KL⟩
          case measure => simp [intOf]; omega
        have hgb : decide (((Int.gcd c own : Nat) : Int) > 1) = false := by rw [hgc]; rfl
        by_cases hN : N = 0
        rotate_left
        · have hN0 : ((N : Int) == 0) = false := by simpa using hN
          obtain ⟨us, ls, hs, hrows⟩ := KL.out.own
          rw [HL.out] at hrows
          have HROW := Lib.hid hrows
          have hbs := KL.out.grown.size
          clear hrows
          go_wp2_with (first | (go_at_call 97; refine (l01Gcd_any _ _ _ (by omega) (by omega) (by omega) (by omega)).mono ?_; rintro e w' ⟨rfl, rfl⟩) | (at_builtin; refine wpList_append_liesR rfl _ _ 31 rfl W0.heap.size 24 i0 (.slice none 0 0) 1 24 Try.underlying31 hi0 hz0 hz1 hz2 rfl (by decide) _ N us rfl (World.ownsRow.alloc (World.ownsRow.alloc HROW.out.1 _) _) ⟨wr.heap.size + 1, 0, none⟩ 1 1 [.slice (some ⟨wr.heap.size, 0, none⟩) 2 2] rfl rfl (World.news_of_block (cs := #[.slice (some ⟨wr.heap.size, 0, none⟩) 2 2]) (t := 24) (fr := (0, 0)) (heap_alloc2_new wr _ _)) (by simp [Value.oneCell']) (by decide) (by simp only [maxLen]; omega) (by omega) (by simp; omega) ?_; intro g2 cap2 w3 hown3 hgrow3 hg3 hlt3; have HQ3 := Lib.hid (rows_push2 HROW.out HL.out hbs c own hown3 hgrow3 hg3 hlt3); have HB3 : Hid (Below W0.heap.size wr w3) := Lib.hid ((((Below.refl _ _).alloc hbs _).alloc (by simp; omega) _).grown hgrow3 (by simp; omega) (fun k hk => (World.ownsRow.lt HROW.out.1 k hk).1)); clear hown3 hgrow3 hg3 hlt3))
          go_roundw
          case rel => exact ⟨N + 1, xo, k - 1, some ⟨g2, 0, none⟩, cap2, L ++ [[c, own]], rfl, rfl, by go_num, by omega, by omega, Lib.hid (by rw [List.length_append, HL.out]; rfl), Lib.hid (fun z hz => by
            rcases List.mem_append.1 hz with h | h
            · exact HP.out z h
            · rw [List.mem_singleton.1 h]; exact ⟨c, own, rfl, by omega, by omega⟩), Lib.hid ⟨KL.out.src.above HB3.out hgW, grown_above KL.out.grown HB3.out, HQ3.out⟩⟩
          case measure => simp [intOf]; omega
        have hN0 : ((N : Int) == 0) = true := by simpa using hN
        have hN1 : (N : Int) = 0 := by omega
        have HN := Lib.hid hN
        clear hN
        have r3 : IntKind.i64.wrap (c + own) = c + own := IntWalk.i64_in _ (by omega)
        obtain ⟨D2, hE1, hE2, hE3⟩ := gcd_stop own (c + own) (by omega) (by omega)
        have HE3 := Lib.hid hE3
        have hE40 : D2 ≤ 40 := by omega
        clear hE3
        go_wp2_with (first | (go_at_call 97; refine (l01Gcd_any _ _ _ (by omega) (by omega) (by omega) (by omega)).mono ?_; rintro e w' ⟨rfl, rfl⟩))
        go_loopw [11] (fun vc wr => ∃ c : Int, vc = .int .i64 c ∧ (1 ≤ c ∧ c ≤ D2) ∧ Hid (KpD W0 B g n (.slice A' N c') L wr)) (fun vc _ => (D2 - intOf vc).toNat)
        case atStart => exact ⟨_, by first | rfl | go_num, by omega, KL⟩
        case round =>
          clear hgc hgb hcr r3 KL
          obtain ⟨c, rfl, hcr, KL⟩ := hrel
          by_cases hgc : Int.gcd c own = 1
          rotate_left
          · have hgc2 : (1 : Int) < ((Int.gcd c own : Nat) : Int) := by
              have h5 : Int.gcd c own ≠ 0 := by rw [Ne, Int.gcd_eq_zero_iff]; omega
              omega
            have hgb : decide (((Int.gcd c own : Nat) : Int) > 1) = true := by simpa using hgc2
            have hcD : c ≠ D2 := by intro e; rw [e] at hgc; exact hgc HE3.out
            have r2 : IntKind.i64.wrap (c + 1) = c + 1 := IntWalk.i64_in _ (by omega)
            go_wp2_with (go_at_call 97; refine (l01Gcd_any _ _ _ (by omega) (by omega) (by omega) (by omega)).mono ?_; rintro e w' ⟨rfl, rfl⟩)
            go_roundw
            case rel => exact ⟨c + 1, by go_num, by omega, KL⟩
            case measure => simp [intOf]; omega
          have hgb : decide (((Int.gcd c own : Nat) : Int) > 1) = false := by rw [hgc]; rfl
          obtain ⟨us, ls, hs, hrows⟩ := KL.out.own
          rw [HL.out] at hrows
          have HROW := Lib.hid hrows
          have hbs := KL.out.grown.size
          clear hrows
          go_wp2_with (first | (go_at_call 97; refine (l01Gcd_any _ _ _ (by omega) (by omega) (by omega) (by omega)).mono ?_; rintro e w' ⟨rfl, rfl⟩) | (at_builtin; refine wpList_append_liesR rfl _ _ 31 rfl W0.heap.size 24 i0 (.slice none 0 0) 1 24 Try.underlying31 hi0 hz0 hz1 hz2 rfl (by decide) _ N us rfl (World.ownsRow.alloc (World.ownsRow.alloc HROW.out.1 _) _) ⟨wr.heap.size + 1, 0, none⟩ 1 1 [.slice (some ⟨wr.heap.size, 0, none⟩) 2 2] rfl rfl (World.news_of_block (cs := #[.slice (some ⟨wr.heap.size, 0, none⟩) 2 2]) (t := 24) (fr := (0, 0)) (heap_alloc2_new wr _ _)) (by simp [Value.oneCell']) (by decide) (by simp only [maxLen]; omega) (by omega) (by simp; omega) ?_; intro g2 cap2 w3 hown3 hgrow3 hg3 hlt3; have HQ3 := Lib.hid (rows_push2 HROW.out HL.out hbs c own hown3 hgrow3 hg3 hlt3); have HB3 : Hid (Below W0.heap.size wr w3) := Lib.hid ((((Below.refl _ _).alloc hbs _).alloc (by simp; omega) _).grown hgrow3 (by simp; omega) (fun k hk => (World.ownsRow.lt HROW.out.1 k hk).1)); clear hown3 hgrow3 hg3 hlt3))
          go_roundw
          case rel => exact ⟨N + 1, xo, k - 1, some ⟨g2, 0, none⟩, cap2, L ++ [[c, own]], rfl, rfl, by go_num, by omega, by omega, Lib.hid (by rw [List.length_append, HL.out]; rfl), Lib.hid (fun z hz => by
            rcases List.mem_append.1 hz with h | h
            · exact HP.out z h
            · rw [List.mem_singleton.1 h]; exact ⟨c, own, rfl, by omega, by omega⟩), Lib.hid ⟨KL.out.src.above HB3.out hgW, grown_above KL.out.grown HB3.out, HQ3.out⟩⟩
          case measure => simp [intOf]; omega
    · have hkb : decide (k > 0) = false := by simpa using hk0
      have HSZ := Lib.hid (rows_sum HP.out (by rw [HL.out]; omega))
      have HWF := Lib.hid (rows_wf HP.out)
      go_wp2_with fail
      refine (specBranchOfNewton_any _ L wr K.out.own.reads HSZ.out HWF.out).mono ?_
      rintro e w1 ⟨vb, rfl, ho1, hb1⟩
      have K1 : Hid (SrcOK w1 B g n ∧ W0.grownBy w1 (some g)) := Lib.hid ⟨K.out.src.above hb1 K.out.lt, grown_above K.out.grown (hb1.mono K.out.grown.size)⟩
      have HO1 := Lib.hid ho1
      have hz1 := hb1.size
      have hzr := K.out.grown.size
      obtain ⟨nb, hnb⟩ : ∃ nb, (bnA L).length = nb := ⟨_, rfl⟩
      obtain ⟨Ab, cb, rfl⟩ := ho1.form hnb
      have HNB := Lib.hid hnb
      clear ho1 hb1 hnb
      by_cases hc0 : bnC L = 0
      rotate_left
      · have hcb : (bnC L != 0) = true := by simpa using hc0
        have hcl : bnC L = 2 ∨ bnC L = 5 := by
          cases hp : bpB L
          · exact .inl (bn_no hp).2
          · rw [(bn_yes hp).2] at hc0 ⊢
            cases hb : bqB (qnL 0 (psOf L))
            · exact .inr (bq_no hb).2
            · exact absurd (bq_yes hb).2 hc0
        generalize bnC L = C at *
        go_wp2_with fail
        have HA : Hid (RI ((w1.alloc (.cells #[(.slice Ab nb cb)] 26)).alloc (.cells #[.int .i64 1, .int .i64 2, .int .i64 3] 2)) ((w1.alloc (.cells #[(.slice Ab nb cb)] 26)).alloc (.cells #[.int .i64 1, .int .i64 2, .int .i64 3] 2)).heap.size (some ⟨(w1.heap.size + 1), 0, none⟩) 3 [1, 2, 3]) := Lib.hid (by
          have h := newRI (w1.alloc (.cells #[(.slice Ab nb cb)] 26)) [1, 2, 3] (by simp)
          have e : (World.heap (w1.alloc (.cells #[(.slice Ab nb cb)] 26))).size = (w1.heap.size + 1) := by simp
          rw [e] at h
          exact h)
        have hgz : g < (w1.heap.size + 1) := by have := K1.out.1.lt; omega
        refine (l01Pick_any B g n _ 3 3 [1, 2, 3] _ (SrcOK.alloc (K1.out.1.alloc _) _) HA.out ?_ (by omega)).mono ?_
        · intro a ha; cases ha; show ¬ (w1.heap.size + 1) = g; omega
        rintro e w5 ⟨m, rfl, hm, hs5, hg5⟩
        have hgr := grown_trans (grown_alloc (grown_alloc K1.out.2 _) _) hg5
        have hm2 : 1 ≤ m ∧ m ≤ 3 := by simp at hm; omega
        have l2 : w5.cell? ⟨w.heap.size, 0, none⟩ = some (.slice none 0 0) := (grown_cellD hgr (p := ⟨w.heap.size, 0, none⟩) (by show ¬ w.heap.size = g; omega) hwW).trans S0.out.res.1
        have l3 : w5.frozen? ⟨w.heap.size, 0, none⟩ = false := (grown_frozenD hgr (p := ⟨w.heap.size, 0, none⟩) (by show ¬ w.heap.size = g; omega) hwW).trans S0.out.free
        have l4 : w.heap.size < w5.heap.size := Nat.lt_of_lt_of_le hwW hgr.size
        have HS5 := Lib.hid hs5
        have HG5 := Lib.hid hgr
        have HM := Lib.hid hm
        clear hs5 hg5 hgr HA
        go_wp2_with fail
        have cr : ((w5.setCell ⟨w.heap.size, 0, none⟩ (.slice (some ⟨w5.heap.size, 0, none⟩) 1 1)).alloc (.cells #[.int .i64 m] 2)).cell? ⟨w.heap.size, 0, none⟩ = some (.slice (some ⟨w5.heap.size, 0, none⟩) 1 1) := by go_simp
        refine bodyPost_ret (v := .agg #[.slice (some ⟨w5.heap.size, 0, none⟩) 1 1]) (by simp [results, Try.results119, go_sem, cr]) rfl ?_
        exact small_one HSW.out S0.out.below hg m (by omega) HS5.out HG5.out _
      have HDR := Lib.hid (bn_dr hc0)
      have HDN : Hid (1 ≤ nb ∧ nb ≤ 8) := Lib.hid (by have := HDR.out.pos; have := HDR.out.2; have := HNB.out; omega)
      obtain ⟨go, e1, hgo1, hgo2, hco, hfo⟩ := own_at HO1.out HNB.out (show nb - 1 < nb by have := HDN.out; omega)
      cases e1
      have hnb1 := HDN.out
      have s1 : IntKind.i64.wrap ((nb : Int) - 1) = (nb : Int) - 1 := IntWalk.i64_in _ (by omega)
      have s2 : (0 : Int) ≤ (nb : Int) - 1 := by omega
      have s3 : (nb : Int) - 1 < (nb : Int) := by omega
      have s4 : ((nb : Int) - 1).toNat = nb - 1 := by omega
      rw [hc0]
      generalize (bnA L)[nb - 1]?.getD 0 = z at *
      by_cases hz : z > term
      · have hzb : decide (z > term) = true := by simpa using hz
        go_wp2_with fail
        have HA : Hid (RI ((w1.alloc (.cells #[.slice (some ⟨go, 0, none⟩) nb cb] 26)).alloc (.cells #[.int .i64 1, .int .i64 2, .int .i64 3] 2)) ((w1.alloc (.cells #[.slice (some ⟨go, 0, none⟩) nb cb] 26)).alloc (.cells #[.int .i64 1, .int .i64 2, .int .i64 3] 2)).heap.size (some ⟨(w1.heap.size + 1), 0, none⟩) 3 [1, 2, 3]) := Lib.hid (by
          have h := newRI (w1.alloc (.cells #[.slice (some ⟨go, 0, none⟩) nb cb] 26)) [1, 2, 3] (by simp)
          have e : (World.heap (w1.alloc (.cells #[.slice (some ⟨go, 0, none⟩) nb cb] 26))).size = (w1.heap.size + 1) := by simp
          rw [e] at h
          exact h)
        have hgz : g < (w1.heap.size + 1) := by have := K1.out.1.lt; omega
        refine (l01Pick_any B g n _ 3 3 [1, 2, 3] _ (SrcOK.alloc (K1.out.1.alloc _) _) HA.out ?_ (by omega)).mono ?_
        · intro a ha; cases ha; show ¬ (w1.heap.size + 1) = g; omega
        rintro e w5 ⟨m, rfl, hm, hs5, hg5⟩
        have hgr := grown_trans (grown_alloc (grown_alloc K1.out.2 _) _) hg5
        have hm2 : 1 ≤ m ∧ m ≤ 3 := by simp at hm; omega
        have l2 : w5.cell? ⟨w.heap.size, 0, none⟩ = some (.slice none 0 0) := (grown_cellD hgr (p := ⟨w.heap.size, 0, none⟩) (by show ¬ w.heap.size = g; omega) hwW).trans S0.out.res.1
        have l3 : w5.frozen? ⟨w.heap.size, 0, none⟩ = false := (grown_frozenD hgr (p := ⟨w.heap.size, 0, none⟩) (by show ¬ w.heap.size = g; omega) hwW).trans S0.out.free
        have l4 : w.heap.size < w5.heap.size := Nat.lt_of_lt_of_le hwW hgr.size
        have HS5 := Lib.hid hs5
        have HG5 := Lib.hid hgr
        have HM := Lib.hid hm
        clear hs5 hg5 hgr HA
        go_wp2_with fail
        have cr : ((w5.setCell ⟨w.heap.size, 0, none⟩ (.slice (some ⟨w5.heap.size, 0, none⟩) 1 1)).alloc (.cells #[.int .i64 m] 2)).cell? ⟨w.heap.size, 0, none⟩ = some (.slice (some ⟨w5.heap.size, 0, none⟩) 1 1) := by go_simp
        refine bodyPost_ret (v := .agg #[.slice (some ⟨w5.heap.size, 0, none⟩) 1 1]) (by simp [results, Try.results119, go_sem, cr]) rfl ?_
        exact small_one HSW.out S0.out.below hg m (by omega) HS5.out HG5.out _
      have hzb : decide (z > term) = false := by simpa using hz
      go_wp2_with fail
      refine (l01Next_any B g n 12 _ (K1.out.1.alloc _) (by omega)).mono ?_
      rintro e w4 ⟨y, rfl, hy0, hy1, hs4, hg4⟩
      have K4 : Hid (SrcOK w4 B g n ∧ W0.grownBy w4 (some g)) := Lib.hid ⟨hs4, grown_trans (grown_alloc K1.out.2 _) hg4⟩
      have hlt1 : g < w1.heap.size := K1.out.1.lt
      have c4 : w4.cell? ⟨w1.heap.size, 0, none⟩ = some (.slice (some ⟨go, 0, none⟩) nb cb) := by
        rw [grown_cellD hg4 (p := ⟨w1.heap.size, 0, none⟩) (by show ¬ w1.heap.size = g; omega) (by simp)]
        go_simp
      have HO4 : Hid (OwnI w4 W0.heap.size w4.heap.size (.slice (some ⟨go, 0, none⟩) nb cb) (bnA L)) := Lib.hid (by
        have h1 := own_lessB HO1.out hzr
        have h2 := h1.kept (kept_boxR w1 (.cells #[.slice (some ⟨go, 0, none⟩) nb cb] 26) W0.heap.size _ (Nat.le_refl _))
        have h3 := h2.kept (kept_src hg4 hgW (by simp))
        exact OwnI.mk' h3.1)
      have hz4 := hg4.size
      clear hs4 hg4 hco hfo HO1
      by_cases hy : y = 0
      · have hyb : (y == 0) = true := by simpa using hy
        have HY := Lib.hid hy
        clear hy
        go_wp2_with fail
        have HA : Hid (RI (w4.alloc (.cells #[.int .i64 1, .int .i64 2, .int .i64 3] 2)) (w4.alloc (.cells #[.int .i64 1, .int .i64 2, .int .i64 3] 2)).heap.size (some ⟨w4.heap.size, 0, none⟩) 3 [1, 2, 3]) := Lib.hid (by
          have h := newRI w4 [1, 2, 3] (by simp)
          exact h)
        have hgz : g < w4.heap.size := by have := K4.out.1.lt; omega
        refine (l01Pick_any B g n _ 3 3 [1, 2, 3] _ (SrcOK.alloc K4.out.1 _) HA.out ?_ (by omega)).mono ?_
        · intro a ha; cases ha; show ¬ w4.heap.size = g; omega
        rintro e w5 ⟨m, rfl, hm, hs5, hg5⟩
        have hgr := grown_trans (grown_alloc K4.out.2 _) hg5
        have hm2 : 1 ≤ m ∧ m ≤ 3 := by simp at hm; omega
        have l2 : w5.cell? ⟨w.heap.size, 0, none⟩ = some (.slice none 0 0) := (grown_cellD hgr (p := ⟨w.heap.size, 0, none⟩) (by show ¬ w.heap.size = g; omega) hwW).trans S0.out.res.1
        have l3 : w5.frozen? ⟨w.heap.size, 0, none⟩ = false := (grown_frozenD hgr (p := ⟨w.heap.size, 0, none⟩) (by show ¬ w.heap.size = g; omega) hwW).trans S0.out.free
        have l4 : w.heap.size < w5.heap.size := Nat.lt_of_lt_of_le hwW hgr.size
        have HS5 := Lib.hid hs5
        have HG5 := Lib.hid hgr
        have HM := Lib.hid hm
        clear hs5 hg5 hgr HA
        go_wp2_with fail
        have cr : ((w5.setCell ⟨w.heap.size, 0, none⟩ (.slice (some ⟨w5.heap.size, 0, none⟩) 1 1)).alloc (.cells #[.int .i64 m] 2)).cell? ⟨w.heap.size, 0, none⟩ = some (.slice (some ⟨w5.heap.size, 0, none⟩) 1 1) := by go_simp
        refine bodyPost_ret (v := .agg #[.slice (some ⟨w5.heap.size, 0, none⟩) 1 1]) (by simp [results, Try.results119, go_sem, cr]) rfl ?_
        exact small_one HSW.out S0.out.below hg m (by omega) HS5.out HG5.out _
      have hyb : (y == 0) = false := by simpa using hy
      have l2 : w4.cell? ⟨w.heap.size, 0, none⟩ = some (.slice none 0 0) := (grown_cellD K4.out.2 (p := ⟨w.heap.size, 0, none⟩) (by show ¬ w.heap.size = g; omega) hwW).trans S0.out.res.1
      have l3 : w4.frozen? ⟨w.heap.size, 0, none⟩ = false := (grown_frozenD K4.out.2 (p := ⟨w.heap.size, 0, none⟩) (by show ¬ w.heap.size = g; omega) hwW).trans S0.out.free
      have l4 : w.heap.size < w4.heap.size := Nat.lt_of_lt_of_le hwW K4.out.2.size
      have hgoW : W0.heap.size ≤ go := by have := (HO4.out.1.lt go rfl).1; exact this
      go_wp2_with fail
      have cr : (w4.setCell ⟨w.heap.size, 0, none⟩ (.slice (some ⟨go, 0, none⟩) nb cb)).cell? ⟨w.heap.size, 0, none⟩ = some (.slice (some ⟨go, 0, none⟩) nb cb) := by go_simp
      refine bodyPost_ret (v := .agg #[.slice (some ⟨go, 0, none⟩) nb cb]) (by simp [results, Try.results119, go_sem, cr]) rfl ?_
      exact small_end HSW.out S0.out.below hg (own_lessB HO4.out (by omega)) HDR.out K4.out.1 K4.out.2 (by intro e; simp [Value.ownBlock] at e; omega) _
end Go.Proofs.Ytoebbhicffgdgaa
/- Drawn branches: contract of spec.l03Draw. Conditions: stated at each theorem. -/
namespace Go.Proofs.Ytoebbhicffgdgaa
open Go.ChangeShapes Go.WideShapes Go.ChangeAt Go.RowKit Go.Deep
set_option linter.unusedVariables false
set_option linter.unusedSimpArgs false

/-- A drawn branch. -/
def DrawBPost (w : World) (B g n : Nat) (e : Ending) (w' : World) : Prop :=
  ∃ v L, e = .returned (.agg #[v]) ∧ OwnI w' w.heap.size w'.heap.size v L ∧ brB L = true ∧ L.length ≤ 8 ∧ SrcOK w' B g n ∧ w.grownBy w' (some g)
theorem draw_end {w W0 w5 : World} {B g n : Nat} {v : Value} {L : List Int} (hS : W0.heap.size = w.heap.size + 1) (hW : Below w.heap.size w W0) (hg : g < w.heap.size) (ho : OwnI w5 w.heap.size w5.heap.size v L) (hL : brB L = true) (hl : L.length ≤ 8) (hs : SrcOK w5 B g n) (hgr : W0.grownBy w5 (some g)) (hne : v.ownBlock ≠ some w.heap.size) (u : Value) :
    DrawBPost w B g n (.returned (.agg #[v])) (w5.setCell ⟨w.heap.size, 0, none⟩ u) := by
  obtain ⟨v', L', e, h1, h2, h3, h4⟩ := small_end hS hW hg ho ⟨.inl hL, hl⟩ hs hgr hne u
  have hbx : Below w.heap.size w5 (w5.setCell ⟨w.heap.size, 0, none⟩ u) := (Below.refl _ _).setCell (p := ⟨w.heap.size, 0, none⟩) (Nat.le_refl _) u
  refine ⟨v, L, rfl, ?_, hL, hl, h3, h4⟩
  rw [setCell_size]
  exact own_set ho hne
theorem draw_up {w : World} {lo : Nat} {v : Value} {L : List Int} (h : OwnI w lo w.heap.size v L) (o : Obj) : OwnI (w.alloc o) lo (w.alloc o).heap.size v L :=
  OwnI.mk' (h.kept (kept_boxR w o lo _ (Nat.le_refl _))).1
theorem draw_box {w w1 : World} {B g n : Nat} {e : Ending} (h : DrawBPost w B g n e w1) (o : Obj) : DrawBPost w B g n e (w1.alloc o) := by
  obtain ⟨v, L, e, h1, h2, h3, h4, h5⟩ := h
  exact ⟨v, L, e, draw_up h1 o, h2, h3, h4.alloc o, grown_alloc h5 o⟩
theorem brB_two {a y : Int} (ha : 2 ≤ a ∧ a ≤ 3) (hy : 0 ≤ y ∧ y ≤ 8) : brB [a, a * (1 + y) + 1] = true := by
  have h1 : a = 2 ∨ a = 3 := by omega
  have h2 : y = 0 ∨ y = 1 ∨ y = 2 ∨ y = 3 ∨ y = 4 ∨ y = 5 ∨ y = 6 ∨ y = 7 ∨ y = 8 := by omega
  rcases h1 with rfl | rfl <;> rcases h2 with rfl | rfl | rfl | rfl | rfl | rfl | rfl | rfl | rfl <;> decide
theorem DrOK.short {L : List Int} {z : Int} (h : DrOK L) (hl : L.length = 1) (hz : (L[0]?.getD 0 : Int) = z) (h1 : 1 < z) : 2 ≤ z ∧ z ≤ 3 := by
  obtain ⟨y, rfl⟩ : ∃ y, L = [y] := by
    match L, hl with
    | [y], _ => exact ⟨y, rfl⟩
  obtain rfl : y = z := by simpa using hz
  rcases h.1 with h | h | h
  · rw [brB_one] at h
    simp [dcB, desB, ascB] at h
    omega
  · simp at h; omega
  · simp at h; omega
theorem DrOK.br {L : List Int} (h : DrOK L) (hne : ¬ (L.length = 1 ∧ (1 : Int) < L[0]?.getD 0)) : brB L = true := by
  rcases h.1 with h | h | h
  · exact h
  · subst h; exact absurd (by simp) hne
  · subst h; exact absurd (by simp) hne

set_option maxRecDepth 100000 in
set_option maxHeartbeats 2000000 in
theorem l03Draw_any (B g n : Nat) (w : World) (hs : SrcOK w B g n) :
    Calls Try.prog 99 #[.pointer (some ⟨g, 0, none⟩)] w (DrawBPost w B g n) := by
  have hg := hs.lt
  have HS := Lib.hid hs
  clear hs
  obtain ⟨W0, HE⟩ : ∃ W, W = w.alloc (.cells #[.slice none 0 0] 26) := ⟨_, rfl⟩
  have hS0 : Start1 w W0 := by rw [HE]; exact Start1.new _
  have hb0 := hS0.below
  have HS0 := Lib.hid (HS.out.far hb0)
  have S0 := Lib.hid hS0
  have HEQ := Lib.hid HE
  have HSW := Lib.hid hS0.size
  have hwW : w.heap.size < W0.heap.size := by have := HSW.out; omega
  have hgW : g < W0.heap.size := by omega
  clear HS hb0 hS0 HE
  go_enter Try.func99, Try.ntmps99
  go_wp2_with fail
  rw [← HEQ.out]
  have HA : Hid (RI (W0.alloc (.cells #[.int .i64 6, .int .i64 12, .int .i64 30, .int .i64 64] 2)) (W0.alloc (.cells #[.int .i64 6, .int .i64 12, .int .i64 30, .int .i64 64] 2)).heap.size (some ⟨w.heap.size + 1, 0, none⟩) 4 [6, 12, 30, 64]) := Lib.hid (by
    have h := newRI W0 [6, 12, 30, 64] (by simp)
    rw [HSW.out] at h
    exact h)
  refine (l01Pick_any B g n _ 4 4 [6, 12, 30, 64] _ (HS0.out.alloc _) HA.out ?_ (by omega)).mono ?_
  · intro a ha; cases ha; show ¬ w.heap.size + 1 = g; omega
  rintro e w1 ⟨m, rfl, hm, hs1, hg1⟩
  have hm2 : 1 ≤ m ∧ m ≤ 64 := by simp at hm; omega
  have HS1 := Lib.hid hs1
  have HG1 := Lib.hid (grown_trans (World.grownBy_alloc W0 _ (some g)) hg1)
  clear hs1 hg1 hm HA HS0
  go_wp2_with fail
  refine (l03Small_any B g n m 400 w1 HS1.out hm2 (by omega)).mono ?_
  rintro e w2 ⟨vb, L, rfl, ho2, hL, hs2, hg2⟩
  obtain ⟨nb, hnb⟩ : ∃ nb, L.length = nb := ⟨_, rfl⟩
  obtain ⟨Ab, cb, rfl⟩ := ho2.form hnb
  have hpos : 1 ≤ nb := by have := hL.pos; omega
  obtain ⟨go, e1, hgo1, hgo2, hco, hfo⟩ := own_at ho2 hnb (show 0 < nb by omega)
  cases e1
  have HO2 := Lib.hid ho2
  have HL := Lib.hid hL
  have HNB := Lib.hid hnb
  have HS2 := Lib.hid hs2
  have HG2 := Lib.hid (grown_trans HG1.out hg2)
  have hz2 := hg2.size
  have hz1 := HG1.out.size
  clear ho2 hL hnb hs2 hg2 HS1 HG1
  have HBR : Hid (¬ (nb = 1 ∧ (1 : Int) < L[0]?.getD 0) → brB L = true) := Lib.hid (fun h => HL.out.br (by rw [HNB.out]; exact h))
  have HSH : Hid (nb = 1 → (1 : Int) < L[0]?.getD 0 → (2 : Int) ≤ L[0]?.getD 0 ∧ (L[0]?.getD 0 : Int) ≤ 3) := Lib.hid (fun h1 h2 => HL.out.short (by rw [HNB.out]; exact h1) rfl h2)
  generalize hzz : (L[0]?.getD 0 : Int) = z at *
  clear hzz
  obtain ⟨l2, l3, l4⟩ := S0.out.src hg HG2.out
  have hgo3 : W0.heap.size ≤ go := by omega
  by_cases hs : nb = 1 ∧ 1 < z
  rotate_left
  · have HB := Lib.hid (HBR.out hs)
    clear HBR HSH
    have HE : Hid (DrawBPost w B g n (.returned (.agg #[.slice (some ⟨go, 0, none⟩) nb cb])) ((w2.setCell ⟨w.heap.size, 0, none⟩ (.slice (some ⟨go, 0, none⟩) nb cb)).alloc (.cells #[.slice (some ⟨go, 0, none⟩) nb cb] 26))) := Lib.hid (draw_box (draw_end HSW.out S0.out.below hg (own_lessB HO2.out (by omega)) HB.out HL.out.2 HS2.out HG2.out (by intro e; simp [Value.ownBlock] at e; omega) _) _)
    have cr : ((w2.setCell ⟨w.heap.size, 0, none⟩ (.slice (some ⟨go, 0, none⟩) nb cb)).alloc (.cells #[.slice (some ⟨go, 0, none⟩) nb cb] 26)).cell? ⟨w.heap.size, 0, none⟩ = some (.slice (some ⟨go, 0, none⟩) nb cb) := by go_simp
    by_cases h1 : nb = 1
    · have h1z : ¬ 1 < z := fun h => hs ⟨h1, h⟩
      have h1b : ((nb : Int) == 1) = true := by simp; omega
      have h1d : decide (1 < z) = false := by simpa using h1z
      have H1 := Lib.hid h1
      clear h1 hs
      go_wp2_with fail
      refine bodyPost_ret (v := .agg #[.slice (some ⟨go, 0, none⟩) nb cb]) (by simp [results, Try.results99, go_sem, cr]) rfl ?_
      exact HE.out
    · have h1b : ((nb : Int) == 1) = false := by simp; omega
      go_wp2_with fail
      refine bodyPost_ret (v := .agg #[.slice (some ⟨go, 0, none⟩) nb cb]) (by simp [results, Try.results99, go_sem, cr]) rfl ?_
      exact HE.out
  obtain ⟨h1, h1z⟩ := hs
  have hz3 := HSH.out h1 h1z
  have h1b : ((nb : Int) == 1) = true := by simp; omega
  have h1d : decide (1 < z) = true := by simpa using h1z
  have H1 := Lib.hid h1
  clear h1 HBR HSH
  go_wp2_with fail
  have hnb0 : 0 < nb := by omega
  have hq2 : w2.heap.size ≠ g := by have := HS2.out.lt; omega
  have hq3 : go ≠ g := by omega
  have HS3 : Hid (SrcOK (w2.alloc (.cells #[Value.slice (some ⟨go, 0, none⟩) nb cb] 26)) B g n) := Lib.hid (HS2.out.alloc _)
  have HG3 : Hid (W0.grownBy (w2.alloc (.cells #[Value.slice (some ⟨go, 0, none⟩) nb cb] 26)) (some g)) := Lib.hid (grown_alloc HG2.out _)
  have c0 : (w2.alloc (.cells #[Value.slice (some ⟨go, 0, none⟩) nb cb] 26)).cell? ⟨w2.heap.size, 0, none⟩ = some (Value.slice (some ⟨go, 0, none⟩) nb cb) := by go_simp
  have c1 : (w2.alloc (.cells #[Value.slice (some ⟨go, 0, none⟩) nb cb] 26)).cell? ⟨go, 0, none⟩ = some (.int .i64 z) := by rw [(below_box w2 (.cells #[Value.slice (some ⟨go, 0, none⟩) nb cb] 26)).cell (p := ⟨go, 0, none⟩) hgo2]; exact hco
  have hw2 : w2.heap.size < (w2.alloc (.cells #[Value.slice (some ⟨go, 0, none⟩) nb cb] 26)).heap.size := by simp
  generalize w2.alloc (.cells #[Value.slice (some ⟨go, 0, none⟩) nb cb] 26) = W2 at *
  have hgoW : go < W2.heap.size := by omega
  clear l2 l3 l4 hco hfo
  refine wp_region_held_drew (S := fun w' => w'.cell? ⟨w2.heap.size, 0, none⟩ = some (Value.slice (some ⟨go, 0, none⟩) nb cb) ∧ w'.cell? ⟨go, 0, none⟩ = some (.int .i64 z)) (by kernel_rfl) ⟨c0, c1⟩ (fun hHeld => ?_)
  refine takeY 0 _ (v := ?_) rfl rfl (by kernel_rfl) (by kernel_rfl) (by kernel_rfl) (fun _ _ _ h => h) (by kernel_rfl) ?_ (by assumption) ?_
  rotate_left 1
  · intro w hSw; (try dsimp only at hSw); go_simp; (try with_reducible rfl)
  try simp only [Act.put, List.setIfInBounds_toArray, List.set_cons_zero, List.set_cons_succ]
  refine takeY 1 _ (v := ?_) rfl rfl (by kernel_rfl) (by kernel_rfl) (by kernel_rfl) (fun _ _ _ h => h) (by kernel_rfl) ?_ (by assumption) ?_
  rotate_left 1
  · intro w hSw; (try dsimp only at hSw); go_simp; (try with_reducible rfl)
  try simp only [Act.put, List.setIfInBounds_toArray, List.set_cons_zero, List.set_cons_succ]
  refine takeY 2 _ (v := ?_) rfl rfl (by kernel_rfl) (by kernel_rfl) (by kernel_rfl) (fun _ _ _ h => h) (by kernel_rfl) ?_ (by assumption) ?_
  rotate_left 1
  · intro w hSw; (try dsimp only at hSw); go_simp; (try with_reducible rfl)
  try simp only [Act.put, List.setIfInBounds_toArray, List.set_cons_zero, List.set_cons_succ]
  refine takeY 3 _ (v := ?_) rfl rfl (by kernel_rfl) (by kernel_rfl) (by kernel_rfl) (fun _ _ _ h => h) (by kernel_rfl) ?_ (by assumption) ?_
  rotate_left 1
  · intro w hSw; (try dsimp only at hSw); go_simp; (try with_reducible rfl)
  try simp only [Act.put, List.setIfInBounds_toArray, List.set_cons_zero, List.set_cons_succ]
  refine takeY 4 _ (v := ?_) rfl rfl (by kernel_rfl) (by kernel_rfl) (by kernel_rfl) (fun _ _ _ h => h) (by kernel_rfl) ?_ (by assumption) ?_
  rotate_left 1
  · intro w hSw; (try dsimp only at hSw); go_simp; (try with_reducible rfl)
  try simp only [Act.put, List.setIfInBounds_toArray, List.set_cons_zero, List.set_cons_succ]
  refine takeY 5 _ (v := ?_) rfl rfl (by kernel_rfl) (by kernel_rfl) (by kernel_rfl) (fun _ _ _ h => h) (by kernel_rfl) ?_ (by assumption) ?_
  rotate_left 1
  · intro w hSw; (try dsimp only at hSw); go_simp; (try with_reducible rfl)
  try simp only [Act.put, List.setIfInBounds_toArray, List.set_cons_zero, List.set_cons_succ]
  refine takeY 6 _ (v := ?_) rfl rfl (by kernel_rfl) (by kernel_rfl) (by kernel_rfl) (fun _ _ _ h => h) (by kernel_rfl) ?_ (by assumption) ?_
  rotate_left 1
  · intro w hSw; (try dsimp only at hSw); go_simp; (try with_reducible rfl)
  try simp only [Act.put, List.setIfInBounds_toArray, List.set_cons_zero, List.set_cons_succ]
  refine takeY 7 _ (v := ?_) rfl rfl (by kernel_rfl) (by kernel_rfl) (by kernel_rfl) (fun _ _ _ h => h) (by kernel_rfl) ?_ (by assumption) ?_
  rotate_left 1
  · intro w hSw; (try dsimp only at hSw); go_simp; (try with_reducible rfl)
  try simp only [Act.put, List.setIfInBounds_toArray, List.set_cons_zero, List.set_cons_succ]
  refine takeY 8 _ (v := ?_) rfl rfl (by kernel_rfl) (by kernel_rfl) (by kernel_rfl) (fun _ _ _ h => h) (by kernel_rfl) ?_ (by assumption) ?_
  rotate_left 1
  · intro w hSw; (try dsimp only at hSw); go_simp; (try with_reducible rfl)
  try simp only [Act.put, List.setIfInBounds_toArray, List.set_cons_zero, List.set_cons_succ]
  refine wpAnyH_ready (rs := [9]) (by kernel_rfl) (by simp) ?_
  refine AllReadyH.cons rfl (fun K hK => ?_) AllReadyH.nil
  go_simp
  refine (l01Next_any B g n 9 W2.drew HS3.out (by omega)).mono ?_
  rintro e w3 ⟨y, rfl, hy0, hy1, hs4, hg40⟩
  have hg4 : W2.grownBy w3 (some g) := ⟨hg40.os, hg40.tape, hg40.output, hg40.size, hg40.block⟩
  clear hg40
  have d0 := (grown_cellD hg4 (p := ⟨w2.heap.size, 0, none⟩) hq2 hw2).trans c0
  have d1 := (grown_cellD hg4 (p := ⟨go, 0, none⟩) hq3 hgoW).trans c1
  have HS4 := Lib.hid hs4
  have HG4 := Lib.hid (grown_trans HG3.out hg4)
  have hz4 := hg4.size
  have hzy : 1 ≤ z * (1 + y) ∧ z * (1 + y) ≤ 27 := by
    have h4 : z = 2 ∨ z = 3 := by omega
    rcases h4 with rfl | rfl <;> omega
  have r1 : IntKind.i64.wrap (1 + y) = 1 + y := IntWalk.i64_in _ (by omega)
  have r2 : IntKind.i64.wrap (z * (1 + y)) = z * (1 + y) := IntWalk.i64_in _ (by omega)
  have r3 : IntKind.i64.wrap (z * (1 + y) + 1) = z * (1 + y) + 1 := IntWalk.i64_in _ (by omega)
  have HBT : Hid (brB [z, z * (1 + y) + 1] = true) := Lib.hid (brB_two hz3 ⟨hy0, by omega⟩)
  clear hs4 hg4
  refine hK.out _ (w3) ⟨d0, d1⟩ (fun hHeld => ?_)
  clear hK K
  try simp only [Act.put, List.setIfInBounds_toArray, List.set_cons_zero, List.set_cons_succ]
  refine takeY 10 _ (v := ?_) rfl rfl (by kernel_rfl) (by kernel_rfl) (by kernel_rfl) (fun _ _ _ h => h) (by kernel_rfl) ?_ (by assumption) ?_
  rotate_left 1
  · intro w hSw; (try dsimp only at hSw); go_simp; (try with_reducible rfl)
  try simp only [Act.put, List.setIfInBounds_toArray, List.set_cons_zero, List.set_cons_succ]
  refine takeY 11 _ (v := ?_) rfl rfl (by kernel_rfl) (by kernel_rfl) (by kernel_rfl) (fun _ _ _ h => h) (by kernel_rfl) ?_ (by assumption) ?_
  rotate_left 1
  · intro w hSw; (try dsimp only at hSw); go_simp; (try with_reducible rfl)
  try simp only [Act.put, List.setIfInBounds_toArray, List.set_cons_zero, List.set_cons_succ]
  refine takeY 12 _ (v := ?_) rfl rfl (by kernel_rfl) (by kernel_rfl) (by kernel_rfl) (fun _ _ _ h => h) (by kernel_rfl) ?_ (by assumption) ?_
  rotate_left 1
  · intro w hSw; (try dsimp only at hSw); go_simp; (try with_reducible rfl)
  try simp only [Act.put, List.setIfInBounds_toArray, List.set_cons_zero, List.set_cons_succ]
  refine wpAnyH_ready (rs := [13]) (by kernel_rfl) (by simp) ?_
  refine AllReadyH.cons rfl (fun K hK => ?_) AllReadyH.nil
  go_simp
  refine hK.out _ ((w3.alloc (.cells #[.int .i64 z, .int .i64 (z * (1 + y) + 1)] 2))) ⟨((below_box w3 (.cells #[.int .i64 z, .int .i64 (z * (1 + y) + 1)] 2)).cell (p := ⟨w2.heap.size, 0, none⟩) (by show w2.heap.size < _; omega)).trans d0, ((below_box w3 (.cells #[.int .i64 z, .int .i64 (z * (1 + y) + 1)] 2)).cell (p := ⟨go, 0, none⟩) (by show go < _; omega)).trans d1⟩ (fun hHeld => ?_)
  clear hK K
  try simp only [Act.put, List.setIfInBounds_toArray, List.set_cons_zero, List.set_cons_succ]
  have HS5 : Hid (SrcOK (w3.alloc (.cells #[.int .i64 z, .int .i64 (z * (1 + y) + 1)] 2)) B g n) := Lib.hid (HS4.out.alloc _)
  have HG5 : Hid (W0.grownBy (w3.alloc (.cells #[.int .i64 z, .int .i64 (z * (1 + y) + 1)] 2)) (some g)) := Lib.hid (grown_alloc HG4.out _)
  have HO5 : Hid (OwnI (w3.alloc (.cells #[.int .i64 z, .int .i64 (z * (1 + y) + 1)] 2)) w.heap.size ((w3.alloc (.cells #[.int .i64 z, .int .i64 (z * (1 + y) + 1)] 2))).heap.size (.slice (some ⟨w3.heap.size, 0, none⟩) 2 2) [z, z * (1 + y) + 1]) := Lib.hid (list2R (lo := w.heap.size) (w := w3) (by have := HG4.out.size; omega) z (z * (1 + y) + 1))
  have e0 : ((w3.alloc (.cells #[.int .i64 z, .int .i64 (z * (1 + y) + 1)] 2))).cell? ⟨w2.heap.size, 0, none⟩ = some (Value.slice (some ⟨go, 0, none⟩) nb cb) := ((below_box w3 (.cells #[.int .i64 z, .int .i64 (z * (1 + y) + 1)] 2)).cell (p := ⟨w2.heap.size, 0, none⟩) (by show w2.heap.size < _; omega)).trans d0
  have e1 : ((w3.alloc (.cells #[.int .i64 z, .int .i64 (z * (1 + y) + 1)] 2))).cell? ⟨go, 0, none⟩ = some (.int .i64 z) := ((below_box w3 (.cells #[.int .i64 z, .int .i64 (z * (1 + y) + 1)] 2)).cell (p := ⟨go, 0, none⟩) (by show go < _; omega)).trans d1
  have hz5 : w3.heap.size < ((w3.alloc (.cells #[.int .i64 z, .int .i64 (z * (1 + y) + 1)] 2))).heap.size := by simp
  have hww3 : w.heap.size < w3.heap.size := by have := HG4.out.size; omega
  generalize hX : (w3.alloc (.cells #[.int .i64 z, .int .i64 (z * (1 + y) + 1)] 2)) = W5 at *
  clear hX d0 d1
  obtain ⟨l2, l3, l4⟩ := S0.out.src hg HG5.out
  refine takeY 14 _ (v := ?_) rfl rfl (by kernel_rfl) (by kernel_rfl) (by kernel_rfl) (fun _ _ _ h => h) (by kernel_rfl) ?_ (by assumption) ?_
  rotate_left 1
  · intro w hSw; (try dsimp only at hSw); go_simp; (try with_reducible rfl)
  try simp only [Act.put, List.setIfInBounds_toArray, List.set_cons_zero, List.set_cons_succ]
  refine wpAnyH_ready (rs := [15]) (by kernel_rfl) (by simp) ?_
  refine AllReadyH.cons rfl (fun K hK => ?_) AllReadyH.nil
  go_simp
  refine hK.out _ (W5.setCell ⟨w.heap.size, 0, none⟩ (.slice (some ⟨w3.heap.size, 0, none⟩) 2 2)) ⟨?s1, ?s2⟩ (fun hHeld => ?_)
  case s1 => rw [World.cell?_setCell_far _ _ _ _ (by show ¬ w.heap.size = w2.heap.size; omega)]; exact e0
  case s2 => rw [World.cell?_setCell_far _ _ _ _ (by show ¬ w.heap.size = go; omega)]; exact e1
  clear hK K
  try simp only [Act.put, List.setIfInBounds_toArray, List.set_cons_zero, List.set_cons_succ]
  refine wpAnyH_done (by kernel_rfl) ?_ _
  go_wp2_with fail
  have cr : (W5.setCell ⟨w.heap.size, 0, none⟩ (.slice (some ⟨w3.heap.size, 0, none⟩) 2 2)).cell? ⟨w.heap.size, 0, none⟩ = some (.slice (some ⟨w3.heap.size, 0, none⟩) 2 2) := by go_simp
  refine bodyPost_ret (v := .agg #[(.slice (some ⟨w3.heap.size, 0, none⟩) 2 2)]) (by simp [results, Try.results99, go_sem, cr]) rfl ?_
  exact draw_end HSW.out S0.out.below hg HO5.out HBT.out (by simp) HS5.out HG5.out (by intro e; simp [Value.ownBlock] at e; omega) _
end Go.Proofs.Ytoebbhicffgdgaa
/- Drawn branches that are spoiled: contract of spec.l03Spoil. Conditions: stated at each theorem. -/
namespace Go.Proofs.Ytoebbhicffgdgaa
open Go.ChangeShapes Go.WideShapes Go.ChangeAt Go.RowKit Go.Deep
set_option linter.unusedVariables false
set_option linter.unusedSimpArgs false

/-- What is known of a spoiled list of terms. -/
def SpOK (L : List Int) : Prop := L.length ≤ 9 ∧ ∀ z ∈ L, -1 ≤ z ∧ z ≤ 1099511627776
theorem SpOK.wf {L : List Int} (h : SpOK L) : ∀ z ∈ L, (Lit.int .i64 z).wf = true := fun z hz => i64_wf (by have := h.2 z hz; omega) (by have := h.2 z hz; omega)
theorem SpOK.of_br {L : List Int} (h : brB L = true) (hl : L.length ≤ 8) : SpOK L := ⟨by omega, fun z hz => by have := dcB_range (brB_dcB h) z hz; omega⟩
theorem SpOK.set {L : List Int} (h : SpOK L) (i : Nat) {x : Int} (hx : -1 ≤ x ∧ x ≤ 1099511627776) : SpOK (L.set i x) := ⟨by rw [List.length_set]; exact h.1, fun z hz => by
  rcases List.mem_or_eq_of_mem_set hz with h1 | h1
  · exact h.2 z h1
  · omega⟩
theorem SpOK.snoc {L : List Int} (h : brB L = true) (hl : L.length ≤ 8) {x : Int} (hx : -1 ≤ x ∧ x ≤ 1099511627776) : SpOK (L ++ [x]) := ⟨by simp; omega, fun z hz => by
  rcases List.mem_append.1 hz with h1 | h1
  · exact (SpOK.of_br h hl).2 z h1
  · simp at h1; omega⟩
theorem SpOK.drop {L : List Int} (h : SpOK L) (i : Nat) : SpOK (L.drop i) := ⟨by rw [List.length_drop]; have := h.1; omega, fun z hz => h.2 z (List.mem_of_mem_drop hz)⟩
def SpoilPost (w : World) (B g n : Nat) (e : Ending) (w' : World) : Prop :=
  ∃ A m c L, e = .returned (.agg #[.slice A m c]) ∧ ReadI w' w'.heap.size (.slice A m c) L ∧ (∀ a, A = some a → w.heap.size ≤ a.block) ∧ SpOK L ∧ SrcOK w' B g n ∧ w.grownBy w' (some g)
theorem own_tail {w : World} {lo go m c : Nat} {L : List Int} (h : OwnI w lo w.heap.size (.slice (some ⟨go, 0, none⟩) (m + 1) (c + 1)) L) (hl : L.length = m + 1) : ReadI w w.heap.size (.slice (some ⟨go, 1, none⟩) m c) (L.drop 1) := by
  have hd : (L.drop 1).length = m := by rw [List.length_drop]; omega
  obtain ⟨A', c', e7, h6, _, h5, _, h8⟩ := h.reads
  rw [hl] at e7 h5 h6
  cases e7
  refine ⟨some ⟨go, 1, none⟩, c, by rw [hd], ⟨rfl, fun k hk => ?_⟩, (by intro h; cases h), by omega, fun a ha => by cases ha; exact ⟨_, _, rfl⟩, by omega⟩
  rw [hd] at hk
  obtain ⟨a, e1, h9, h10⟩ := h6.2 (k + 1) (by omega)
  cases e1
  refine ⟨_, rfl, h9, ?_⟩
  rw [add_lit] at h10 ⊢
  rw [show (1 : Nat) + k = 0 + (k + 1) by omega, h10]
  simp [List.getD, Nat.add_comm 1 k]
theorem spoil_end {w W0 w5 : World} {B g n m c : Nat} {A : Option Addr} {L : List Int} (hS : W0.heap.size = w.heap.size + 1) (hW : Below w.heap.size w W0) (hg : g < w.heap.size) {u : Value} (hge : ∀ a, A = some a → w.heap.size ≤ a.block) (hr : ReadI (w5.setCell ⟨w.heap.size, 0, none⟩ u) w5.heap.size (.slice A m c) L) (hL : SpOK L) (hs : SrcOK w5 B g n) (hgr : W0.grownBy w5 (some g)) :
    SpoilPost w B g n (.returned (.agg #[.slice A m c])) (w5.setCell ⟨w.heap.size, 0, none⟩ u) := by
  have hbx : Below w.heap.size w5 (w5.setCell ⟨w.heap.size, 0, none⟩ u) := (Below.refl _ _).setCell (p := ⟨w.heap.size, 0, none⟩) (Nat.le_refl _) u
  refine ⟨A, m, c, L, rfl, ?_, hge, hL, hs.above hbx hg, grown_above (grown_trans (grown_of_below hW _) hgr) hbx⟩
  rw [setCell_size]
  exact hr

set_option maxRecDepth 100000 in
set_option maxHeartbeats 2000000 in
theorem l03Spoil_any (B g n : Nat) (w : World) (hs : SrcOK w B g n) :
    Calls Try.prog 84 #[.pointer (some ⟨g, 0, none⟩)] w (SpoilPost w B g n) := by
  have hg := hs.lt
  have HS := Lib.hid hs
  clear hs
  obtain ⟨W0, HE⟩ : ∃ W, W = w.alloc (.cells #[.slice none 0 0] 26) := ⟨_, rfl⟩
  have hS0 : Start1 w W0 := by rw [HE]; exact Start1.new _
  have hb0 := hS0.below
  have HS0 := Lib.hid (HS.out.far hb0)
  have S0 := Lib.hid hS0
  have HEQ := Lib.hid HE
  have HSW := Lib.hid hS0.size
  have hwW : w.heap.size < W0.heap.size := by have := HSW.out; omega
  have hgW : g < W0.heap.size := by omega
  clear HS hb0 hS0 HE
  go_enter Try.func84, Try.ntmps84
  go_wp2_with fail
  rw [← HEQ.out]
  refine (l03Draw_any B g n W0 HS0.out).mono ?_
  rintro e w1 ⟨vb, L, rfl, ho1, hbr, hlen, hs1, hg1⟩
  obtain ⟨nb, hnb⟩ : ∃ nb, L.length = nb := ⟨_, rfl⟩
  obtain ⟨Ab, cb, rfl⟩ := ho1.form hnb
  have hpos : 1 ≤ nb := by have := brB_pos hbr; omega
  have hnb8 : nb ≤ 8 := by omega
  obtain ⟨go, e1, hgo1, hgo2, _, _⟩ := own_at ho1 hnb (show 0 < nb by omega)
  cases e1
  have hlt1 : g < w1.heap.size := hs1.lt
  have HS1 : Hid (SrcOK (w1.alloc (.cells #[.slice (some ⟨go, 0, none⟩) nb cb] 26)) B g n) := Lib.hid (hs1.alloc _)
  have HG1 : Hid (W0.grownBy (w1.alloc (.cells #[.slice (some ⟨go, 0, none⟩) nb cb] 26)) (some g)) := Lib.hid (grown_alloc hg1 _)
  have HO1 := Lib.hid (draw_up ho1 (.cells #[.slice (some ⟨go, 0, none⟩) nb cb] 26))
  have c1 : (w1.alloc (.cells #[.slice (some ⟨go, 0, none⟩) nb cb] 26)).cell? ⟨w1.heap.size, 0, none⟩ = some (.slice (some ⟨go, 0, none⟩) nb cb) := by go_simp
  have f1 : (w1.alloc (.cells #[.slice (some ⟨go, 0, none⟩) nb cb] 26)).frozen? ⟨w1.heap.size, 0, none⟩ = false := by go_simp
  have hb1 : w1.heap.size < (w1.alloc (.cells #[.slice (some ⟨go, 0, none⟩) nb cb] 26)).heap.size := by simp
  have hw1 := hg1.size
  have HBR := Lib.hid hbr
  have HNB := Lib.hid hnb
  clear ho1 hs1 hg1 hbr hnb HS0 hlen
  go_wp2_with fail
  generalize w1.alloc (.cells #[.slice (some ⟨go, 0, none⟩) nb cb] 26) = W1 at *
  generalize hbx : w1.heap.size = bx at *
  clear hbx
  refine (l01Next_any B g n 30 W1 HS1.out (by omega)).mono ?_
  rintro e W2 ⟨y, rfl, hq0, hq1, hs2, hg2⟩
  have HS2 := Lib.hid hs2
  have HG2 := Lib.hid (grown_trans HG1.out hg2)
  have HO2 : Hid (OwnI W2 W0.heap.size W2.heap.size (.slice (some ⟨go, 0, none⟩) nb cb) L) := Lib.hid (OwnI.mk' (HO1.out.kept (kept_src hg2 hgW (Nat.le_refl _))).1)
  have c2 := (grown_cellD hg2 (p := ⟨bx, 0, none⟩) (by show ¬ bx = g; omega) hb1).trans c1
  have f2 := (grown_frozenD hg2 (p := ⟨bx, 0, none⟩) (by show ¬ bx = g; omega) hb1).trans f1
  have hb2 : bx < W2.heap.size := Nat.lt_of_lt_of_le hb1 hg2.size
  have hgo3 : go < W2.heap.size := by omega
  clear hs2 hg2 HS1 HG1 HO1 c1 f1 hb1
  by_cases h0 : y = 0
  · have hnb0 : 0 < nb := by omega
    have e0 : (y == 0) = true := by simpa using h0
    have HY := Lib.hid h0
    clear h0
    go_wp2_with fail
    refine wp_region_held_drew (S := fun w' => w'.cell? ⟨bx, 0, none⟩ = some (Value.slice (some ⟨go, 0, none⟩) nb cb)) (by kernel_rfl) (c2) (fun hHeld => ?_)
    refine takeY 0 _ (v := ?_) rfl rfl (by kernel_rfl) (by kernel_rfl) (by kernel_rfl) (fun _ _ _ h => h) (by kernel_rfl) ?_ (by assumption) ?_
    rotate_left 1
    · intro w hSw; (try dsimp only at hSw); go_simp; (try with_reducible rfl)
    try simp only [Act.put, List.setIfInBounds_toArray, List.set_cons_zero, List.set_cons_succ]
    refine takeY 1 _ (v := ?_) rfl rfl (by kernel_rfl) (by kernel_rfl) (by kernel_rfl) (fun _ _ _ h => h) (by kernel_rfl) ?_ (by assumption) ?_
    rotate_left 1
    · intro w hSw; (try dsimp only at hSw); go_simp; (try with_reducible rfl)
    try simp only [Act.put, List.setIfInBounds_toArray, List.set_cons_zero, List.set_cons_succ]
    refine takeY 2 _ (v := ?_) rfl rfl (by kernel_rfl) (by kernel_rfl) (by kernel_rfl) (fun _ _ _ h => h) (by kernel_rfl) ?_ (by assumption) ?_
    rotate_left 1
    · intro w hSw; (try dsimp only at hSw); go_simp; (try with_reducible rfl)
    try simp only [Act.put, List.setIfInBounds_toArray, List.set_cons_zero, List.set_cons_succ]
    refine wpAnyH_ready (rs := [3]) (by kernel_rfl) (by simp) ?_
    refine AllReadyH.cons rfl (fun K hK => ?_) AllReadyH.nil
    go_simp
    refine hK.out _ (W2.drew.alloc (.cells #[.int .i64 0, .int .i64 (-1), .int .i64 65, .int .i64 2] 2)) (((below_box W2.drew (.cells #[.int .i64 0, .int .i64 (-1), .int .i64 65, .int .i64 2] 2)).cell (p := ⟨bx, 0, none⟩) hb2).trans c2) (fun hHeld => ?_)
    clear hK K
    try simp only [Act.put, List.setIfInBounds_toArray, List.set_cons_zero, List.set_cons_succ]
    refine wpAnyH_ready (rs := [4]) (by kernel_rfl) (by simp) ?_
    refine AllReadyH.cons rfl (fun K hK => ?_) AllReadyH.nil
    go_simp
    have HA : Hid (RI (W2.drew.alloc (.cells #[.int .i64 0, .int .i64 (-1), .int .i64 65, .int .i64 2] 2)) (W2.drew.alloc (.cells #[.int .i64 0, .int .i64 (-1), .int .i64 65, .int .i64 2] 2)).heap.size (some ⟨W2.heap.size, 0, none⟩) 4 [0, -1, 65, 2]) := Lib.hid (newRI W2.drew [0, -1, 65, 2] (by simp))
    have hgz : g < W2.heap.size := HS2.out.lt
    have HS2d : Hid (SrcOK W2.drew B g n) := HS2
    refine (l01Pick_any B g n _ 4 4 [0, -1, 65, 2] _ (HS2d.out.alloc _) HA.out ?_ (by omega)).mono ?_
    · intro a ha; cases ha; show ¬ W2.heap.size = g; omega
    rintro e w3 ⟨x, rfl, hx, hs3, hg30⟩
    have hx2 : -1 ≤ x ∧ x ≤ 65 := by simp at hx; omega
    have hg3 : (W2.alloc (.cells #[.int .i64 0, .int .i64 (-1), .int .i64 65, .int .i64 2] 2)).grownBy w3 (some g) := ⟨hg30.os, hg30.tape, hg30.output, hg30.size, hg30.block⟩
    have HS3 := Lib.hid hs3
    have HG3 := Lib.hid (grown_trans (grown_alloc HG2.out _) hg3)
    have HO3 : Hid (OwnI w3 W0.heap.size w3.heap.size (Value.slice (some ⟨go, 0, none⟩) nb cb) L) := Lib.hid (OwnI.mk' ((draw_up HO2.out _).kept (kept_src hg3 hgW (Nat.le_refl _))).1)
    have hbA : bx < (W2.alloc (.cells #[.int .i64 0, .int .i64 (-1), .int .i64 65, .int .i64 2] 2)).heap.size := by simp; omega
    have c3 := (grown_cellD hg3 (p := ⟨bx, 0, none⟩) (by show ¬ bx = g; omega) hbA).trans (((below_box W2 (.cells #[.int .i64 0, .int .i64 (-1), .int .i64 65, .int .i64 2] 2)).cell (p := ⟨bx, 0, none⟩) hb2).trans c2)
    have f3 := (grown_frozenD hg3 (p := ⟨bx, 0, none⟩) (by show ¬ bx = g; omega) hbA).trans (((below_box W2 (.cells #[.int .i64 0, .int .i64 (-1), .int .i64 65, .int .i64 2] 2)).frozen (p := ⟨bx, 0, none⟩) hb2).trans f2)
    have hb3 : bx < w3.heap.size := Nat.lt_of_lt_of_le hbA hg3.size
    clear hs3 hg3 hg30 hx HA HS2d HO2 HG2 HS2 c2 f2 hgz
    refine hK.out _ w3 c3 (fun hHeld => ?_)
    clear hK K
    try simp only [Act.put, List.setIfInBounds_toArray, List.set_cons_zero, List.set_cons_succ]
    refine takeY 5 _ (v := ?_) rfl rfl (by kernel_rfl) (by kernel_rfl) (by kernel_rfl) (fun _ _ _ h => h) (by kernel_rfl) ?_ (by assumption) ?_
    rotate_left 1
    · intro w hSw; (try dsimp only at hSw); go_simp; (try with_reducible rfl)
    try simp only [Act.put, List.setIfInBounds_toArray, List.set_cons_zero, List.set_cons_succ]
    obtain ⟨g9, e9, _, _, d3, k3⟩ := own_at HO3.out HNB.out hnb0
    cases e9
    have HO4 := Lib.hid (own_store (j := 0) HO3.out HNB.out x)
    have B4 : Below W0.heap.size w3 (w3.setCell ⟨go, 0, none⟩ (.int .i64 x)) := (Below.refl _ _).setCell (p := ⟨go, 0, none⟩) (by show W0.heap.size ≤ go; omega) _
    have HS4 := Lib.hid (HS3.out.above B4 hgW)
    have HG4 := Lib.hid (grown_above HG3.out B4)
    have c4 : (w3.setCell ⟨go, 0, none⟩ (.int .i64 x)).cell? ⟨bx, 0, none⟩ = some (Value.slice (some ⟨go, 0, none⟩) nb cb) := by rw [World.cell?_setCell_far _ _ _ _ (by show ¬ go = bx; omega)]; exact c3
    have hz4 : (w3.setCell ⟨go, 0, none⟩ (.int .i64 x)).heap.size = w3.heap.size := setCell_size _ _ _
    have hb4 : bx < (w3.setCell ⟨go, 0, none⟩ (.int .i64 x)).heap.size := by rw [hz4]; exact hb3
    refine wpAnyH_ready (rs := [6]) (by kernel_rfl) (by simp) ?_
    refine AllReadyH.cons rfl (fun K hK => ?_) AllReadyH.nil
    go_simp
    refine hK.out _ (w3.setCell ⟨go, 0, none⟩ (.int .i64 x)) c4 (fun hHeld => ?_)
    clear hK K
    try simp only [Act.put, List.setIfInBounds_toArray, List.set_cons_zero, List.set_cons_succ]
    rw [← hz4] at HO4
    clear hz4 B4
    generalize w3.setCell ⟨go, 0, none⟩ (.int .i64 x) = W4 at *
    refine wpAnyH_done (by kernel_rfl) ?_ _
    obtain ⟨l2, l3, l4⟩ := S0.out.src hg (HG4.out)
    go_wp2_with fail
    have cr : (W4.setCell ⟨w.heap.size, 0, none⟩ (Value.slice (some ⟨go, 0, none⟩) nb cb)).cell? ⟨w.heap.size, 0, none⟩ = some (Value.slice (some ⟨go, 0, none⟩) nb cb) := by go_simp
    refine bodyPost_ret (v := .agg #[Value.slice (some ⟨go, 0, none⟩) nb cb]) (by simp [results, Try.results84, go_sem, cr]) rfl ?_
    exact spoil_end HSW.out S0.out.below hg (fun a ha => by cases ha; show w.heap.size ≤ go; omega) (setCell_size W4 _ _ ▸ (own_set HO4.out (by intro e; simp [Value.ownBlock] at e; omega)).reads) ((SpOK.of_br HBR.out (by rw [HNB.out]; exact hnb8)).set 0 (by omega)) (HS4.out) (HG4.out)
  by_cases h1 : y = 1
  · have hnb0 : 0 < nb := by omega
    have e0 : (y == 0) = false := by simpa using h0
    have e1 : (y == 1) = true := by simpa using h1
    have HY := Lib.hid h1
    clear h1
    obtain ⟨i0, hi0, hy0, hy1, hy2⟩ := info_parts int_info
    go_wp2_with fail
    refine wp_region_held_drew (S := fun w' => True) (by kernel_rfl) trivial (fun hHeld => ?_)
    refine takeY 0 _ (v := ?_) rfl rfl (by kernel_rfl) (by kernel_rfl) (by kernel_rfl) (fun _ _ _ h => h) (by kernel_rfl) ?_ (by assumption) ?_
    rotate_left 1
    · intro w hSw; (try dsimp only at hSw); go_simp; (try with_reducible rfl)
    try simp only [Act.put, List.setIfInBounds_toArray, List.set_cons_zero, List.set_cons_succ]
    refine takeY 2 _ (v := ?_) rfl rfl (by kernel_rfl) (by kernel_rfl) (by kernel_rfl) (fun _ _ _ h => h) (by kernel_rfl) ?_ (by assumption) ?_
    rotate_left 1
    · intro w hSw; (try dsimp only at hSw); go_simp; (try with_reducible rfl)
    try simp only [Act.put, List.setIfInBounds_toArray, List.set_cons_zero, List.set_cons_succ]
    refine wpAnyH_ready (rs := [1, 3]) (by kernel_rfl) (by simp) ?_
    refine AllReadyH.cons rfl (fun K hK => ?_) (AllReadyH.cons rfl (fun K hK => ?_) AllReadyH.nil)
    · have d0 : W2.drew.cell? ⟨bx, 0, none⟩ = some (Value.slice (some ⟨go, 0, none⟩) nb cb) := c2
      go_simp
      refine hK.out _ W2.drew trivial (fun hHeld => ?_)
      clear hK K
      try simp only [Act.put, List.setIfInBounds_toArray, List.set_cons_zero, List.set_cons_succ]
      refine wpAnyH_ready (rs := [3]) (by kernel_rfl) (by simp) ?_
      refine AllReadyH.cons rfl (fun K hK => ?_) AllReadyH.nil
      go_simp
      refine hK.out _ (W2.drew.alloc (.cells #[.int .i64 2001, .int .i64 1999, .int .i64 5, .int .i64 1099511627776] 2)) trivial (fun hHeld => ?_)
      clear hK K
      try simp only [Act.put, List.setIfInBounds_toArray, List.set_cons_zero, List.set_cons_succ]
      refine wpAnyH_ready (rs := [4]) (by kernel_rfl) (by simp) ?_
      refine AllReadyH.cons rfl (fun K hK => ?_) AllReadyH.nil
      go_simp
      have HA : Hid (RI (W2.drew.alloc (.cells #[.int .i64 2001, .int .i64 1999, .int .i64 5, .int .i64 1099511627776] 2)) (W2.drew.alloc (.cells #[.int .i64 2001, .int .i64 1999, .int .i64 5, .int .i64 1099511627776] 2)).heap.size (some ⟨W2.heap.size, 0, none⟩) 4 [2001, 1999, 5, 1099511627776]) := Lib.hid (newRI W2.drew [2001, 1999, 5, 1099511627776] (by simp))
      have hgz : g < W2.heap.size := HS2.out.lt
      have HS2d : Hid (SrcOK W2.drew B g n) := HS2
      refine (l01Pick_any B g n _ 4 4 [2001, 1999, 5, 1099511627776] _ (HS2d.out.alloc _) HA.out ?_ (by omega)).mono ?_
      · intro a ha; cases ha; show ¬ W2.heap.size = g; omega
      rintro e w3 ⟨x, rfl, hx, hs3, hg30⟩
      have hx2 : -1 ≤ x ∧ x ≤ 1099511627776 := by simp at hx; omega
      have hg3 : (W2.alloc (.cells #[.int .i64 2001, .int .i64 1999, .int .i64 5, .int .i64 1099511627776] 2)).grownBy w3 (some g) := ⟨hg30.os, hg30.tape, hg30.output, hg30.size, hg30.block⟩
      have HS3 := Lib.hid hs3
      have HG3 := Lib.hid (grown_trans (grown_alloc HG2.out _) hg3)
      have HO3 : Hid (OwnI w3 W0.heap.size w3.heap.size (Value.slice (some ⟨go, 0, none⟩) nb cb) L) := Lib.hid (OwnI.mk' ((draw_up HO2.out _).kept (kept_src hg3 hgW (Nat.le_refl _))).1)
      have hbA : bx < (W2.alloc (.cells #[.int .i64 2001, .int .i64 1999, .int .i64 5, .int .i64 1099511627776] 2)).heap.size := by simp; omega
      have c3 := (grown_cellD hg3 (p := ⟨bx, 0, none⟩) (by show ¬ bx = g; omega) hbA).trans (((below_box W2 (.cells #[.int .i64 2001, .int .i64 1999, .int .i64 5, .int .i64 1099511627776] 2)).cell (p := ⟨bx, 0, none⟩) hb2).trans c2)
      have f3 := (grown_frozenD hg3 (p := ⟨bx, 0, none⟩) (by show ¬ bx = g; omega) hbA).trans (((below_box W2 (.cells #[.int .i64 2001, .int .i64 1999, .int .i64 5, .int .i64 1099511627776] 2)).frozen (p := ⟨bx, 0, none⟩) hb2).trans f2)
      have hb3 : bx < w3.heap.size := Nat.lt_of_lt_of_le hbA hg3.size
      clear hs3 hg3 hg30 hx HA HS2d HO2 HG2 HS2 c2 f2 hgz
      refine hK.out _ w3 trivial (fun hHeld => ?_)
      clear hK K
      try simp only [Act.put, List.setIfInBounds_toArray, List.set_cons_zero, List.set_cons_succ]
      refine wpAnyH_ready (rs := [5]) (by kernel_rfl) (by simp) ?_
      refine AllReadyH.cons rfl (fun K hK => ?_) AllReadyH.nil
      go_simp
      refine hK.out _ (w3.alloc (.cells #[.int .i64 x] 2)) trivial (fun hHeld => ?_)
      clear hK K
      try simp only [Act.put, List.setIfInBounds_toArray, List.set_cons_zero, List.set_cons_succ]
      refine wpAnyH_ready (rs := [6]) (by kernel_rfl) (by simp) ?_
      refine AllReadyH.cons rfl (fun K hK => ?_) AllReadyH.nil
      try simp only [List.getElem_toArray, List.getElem_cons_succ, List.getElem_cons_zero]
      rw [if_pos (by kernel_rfl)]
      refine wp_append_lies _ (.tmp 19) (.tmp 23) 24 ?ka2 (W0.heap.size) 2 i0 (.int .i64 0) 1 8 Try.underlying24 hi0 hy0 hy1 hy2 rfl (by decide) (Value.slice (some ⟨go, 0, none⟩) nb cb) nb (L.map (.int .i64)) ?ka3 ?ka4 ⟨w3.heap.size, 0, none⟩ 1 1 [.int .i64 x] ?ka5 rfl ?ka6 ?ka7 (by decide) ?ka8 ?ka9 ?ka10 _ rfl ?ka11
      case ka2 => rfl
      case ka3 => rfl
      case ka5 => rfl
      case ka4 => have h3 := HO3.out.1; rw [HNB.out] at h3; exact World.ownsRow.alloc h3 _
      case ka6 => exact World.news_of_block (cs := #[.int .i64 x]) (t := 2) (fr := (0, 0)) (heap_alloc_new w3 _)
      case ka7 => simp [Value.oneCell']
      case ka8 => simp only [maxLen]; omega
      case ka9 => omega
      case ka10 => show W0.heap.size ≤ (w3.alloc (.cells #[.int .i64 x] 2)).heap.size; have := HG3.out.size; simp; omega
      intro g2 cap2 w4 hown2 hgrow hg2 hlt2
      have B4 : Below W0.heap.size w3 w4 := Below.grown (w := (w3.alloc (.cells #[.int .i64 x] 2))) ((Below.refl _ _).alloc HG3.out.size _) ⟨hgrow.os, hgrow.tape, hgrow.output, hgrow.size, hgrow.block⟩ (by have := HG3.out.size; simp; omega) (fun k hk => (Own.lt HO3.out.1 k hk).1)
      have hpa : bx < (w3.alloc (.cells #[.int .i64 x] 2)).heap.size := by simp; omega
      have hpn : some bx ≠ (Value.slice (some ⟨go, 0, none⟩) nb cb).ownBlock := by simp [Value.ownBlock]; omega
      have c4 : w4.cell? ⟨bx, 0, none⟩ = some (Value.slice (some ⟨go, 0, none⟩) nb cb) := (hgrow.cell_far ⟨bx, 0, none⟩ hpa hpn).trans (((below_box w3 (.cells #[.int .i64 x] 2)).cell (p := ⟨bx, 0, none⟩) hb3).trans c3)
      have f4 : w4.frozen? ⟨bx, 0, none⟩ = false := (hgrow.frozen_far ⟨bx, 0, none⟩ hpa hpn).trans (((below_box w3 (.cells #[.int .i64 x] 2)).frozen (p := ⟨bx, 0, none⟩) hb3).trans f3)
      have hb4 : bx < w4.heap.size := Nat.lt_of_lt_of_le hpa hgrow.size
      have hg2p : g2 ≠ bx := by rcases hg2 with h | h; (simp [Value.ownBlock] at h; omega); (have h9 : g2 = w3.heap.size + 1 := (by simpa using h)); omega
      have hg2W : W0.heap.size ≤ g2 := by have h5 := HG3.out.size; rcases hg2 with h | h; (simp [Value.ownBlock] at h; omega); (have h9 : g2 = w3.heap.size + 1 := (by simpa using h)); omega
      have HO4 : Hid (OwnI w4 W0.heap.size w4.heap.size (Value.slice (some ⟨g2, 0, none⟩) (nb + 1) cap2) (L ++ [x])) := Lib.hid (OwnI.mk' (n := nb + 1) (by rw [List.map_append]; exact hown2))
      have HS4 := Lib.hid (HS3.out.above B4 hgW)
      have HG4 := Lib.hid (grown_above HG3.out B4)
      refine hK.out _ _ trivial (fun hHeld => ?_)
      clear hK K hown2 hgrow hg2 hpa hpn B4 c3 f3 hb3 HO3 HS3 HG3
      try simp only [Act.put, List.setIfInBounds_toArray, List.set_cons_zero, List.set_cons_succ]
      refine takeY 7 _ (v := ?_) rfl rfl (by kernel_rfl) (by kernel_rfl) (by kernel_rfl) (fun _ _ _ h => h) (by kernel_rfl) ?_ (by assumption) ?_
      rotate_left 1
      · intro w hSw; (try dsimp only at hSw); go_simp; (try with_reducible rfl)
      try simp only [Act.put, List.setIfInBounds_toArray, List.set_cons_zero, List.set_cons_succ]
      refine wpAnyH_ready (rs := [8]) (by kernel_rfl) (by simp) ?_
      refine AllReadyH.cons rfl (fun K hK => ?_) AllReadyH.nil
      go_simp
      have HO5 : Hid (OwnI (w4.setCell ⟨bx, 0, none⟩ (Value.slice (some ⟨g2, 0, none⟩) (nb + 1) cap2)) W0.heap.size w4.heap.size (Value.slice (some ⟨g2, 0, none⟩) (nb + 1) cap2) (L ++ [x])) := Lib.hid (own_set HO4.out (by simp [Value.ownBlock]; omega))
      have B5 : Below W0.heap.size w4 (w4.setCell ⟨bx, 0, none⟩ (Value.slice (some ⟨g2, 0, none⟩) (nb + 1) cap2)) := (Below.refl _ _).setCell (p := ⟨bx, 0, none⟩) (by show W0.heap.size ≤ bx; omega) _
      have HS5 := Lib.hid (HS4.out.above B5 hgW)
      have HG5 := Lib.hid (grown_above HG4.out B5)
      have c5 : (w4.setCell ⟨bx, 0, none⟩ (Value.slice (some ⟨g2, 0, none⟩) (nb + 1) cap2)).cell? ⟨bx, 0, none⟩ = some (Value.slice (some ⟨g2, 0, none⟩) (nb + 1) cap2) := by go_simp
      have hz5 : (w4.setCell ⟨bx, 0, none⟩ (Value.slice (some ⟨g2, 0, none⟩) (nb + 1) cap2)).heap.size = w4.heap.size := setCell_size _ _ _
      refine hK.out _ (w4.setCell ⟨bx, 0, none⟩ (Value.slice (some ⟨g2, 0, none⟩) (nb + 1) cap2)) trivial (fun hHeld => ?_)
      clear hK K
      try simp only [Act.put, List.setIfInBounds_toArray, List.set_cons_zero, List.set_cons_succ]
      rw [← hz5] at HO5
      clear hz5 B5 c4 f4 HO4 HS4 HG4
      generalize (w4.setCell ⟨bx, 0, none⟩ (Value.slice (some ⟨g2, 0, none⟩) (nb + 1) cap2)) = W5 at *
      refine wpAnyH_done (by kernel_rfl) ?_ _
      obtain ⟨l2, l3, l4⟩ := S0.out.src hg (HG5.out)
      go_wp2_with fail
      have cr : (W5.setCell ⟨w.heap.size, 0, none⟩ (Value.slice (some ⟨g2, 0, none⟩) (nb + 1) cap2)).cell? ⟨w.heap.size, 0, none⟩ = some (Value.slice (some ⟨g2, 0, none⟩) (nb + 1) cap2) := by go_simp
      refine bodyPost_ret (v := .agg #[Value.slice (some ⟨g2, 0, none⟩) (nb + 1) cap2]) (by simp [results, Try.results84, go_sem, cr]) rfl ?_
      exact spoil_end HSW.out S0.out.below hg (fun a ha => by cases ha; show w.heap.size ≤ g2; omega) (setCell_size W5 _ _ ▸ (own_set HO5.out (by intro e; simp [Value.ownBlock] at e; omega)).reads) (SpOK.snoc HBR.out (by rw [HNB.out]; exact hnb8) (by omega)) (HS5.out) (HG5.out)
    · go_simp
      refine hK.out _ (W2.drew.alloc (.cells #[.int .i64 2001, .int .i64 1999, .int .i64 5, .int .i64 1099511627776] 2)) trivial (fun hHeld => ?_)
      clear hK K
      try simp only [Act.put, List.setIfInBounds_toArray, List.set_cons_zero, List.set_cons_succ]
      refine wpAnyH_ready (rs := [1, 4]) (by kernel_rfl) (by simp) ?_
      refine AllReadyH.cons rfl (fun K hK => ?_) (AllReadyH.cons rfl (fun K hK => ?_) AllReadyH.nil)
      · have d2 : (W2.drew.alloc (.cells #[.int .i64 2001, .int .i64 1999, .int .i64 5, .int .i64 1099511627776] 2)).cell? ⟨bx, 0, none⟩ = some (Value.slice (some ⟨go, 0, none⟩) nb cb) := ((below_box W2.drew (.cells #[.int .i64 2001, .int .i64 1999, .int .i64 5, .int .i64 1099511627776] 2)).cell (p := ⟨bx, 0, none⟩) hb2).trans c2
        go_simp
        refine hK.out _ (W2.drew.alloc (.cells #[.int .i64 2001, .int .i64 1999, .int .i64 5, .int .i64 1099511627776] 2)) trivial (fun hHeld => ?_)
        clear hK K
        try simp only [Act.put, List.setIfInBounds_toArray, List.set_cons_zero, List.set_cons_succ]
        refine wpAnyH_ready (rs := [4]) (by kernel_rfl) (by simp) ?_
        refine AllReadyH.cons rfl (fun K hK => ?_) AllReadyH.nil
        go_simp
        have HA : Hid (RI (W2.drew.alloc (.cells #[.int .i64 2001, .int .i64 1999, .int .i64 5, .int .i64 1099511627776] 2)) (W2.drew.alloc (.cells #[.int .i64 2001, .int .i64 1999, .int .i64 5, .int .i64 1099511627776] 2)).heap.size (some ⟨W2.heap.size, 0, none⟩) 4 [2001, 1999, 5, 1099511627776]) := Lib.hid (newRI W2.drew [2001, 1999, 5, 1099511627776] (by simp))
        have hgz : g < W2.heap.size := HS2.out.lt
        have HS2d : Hid (SrcOK W2.drew B g n) := HS2
        refine (l01Pick_any B g n _ 4 4 [2001, 1999, 5, 1099511627776] _ (HS2d.out.alloc _) HA.out ?_ (by omega)).mono ?_
        · intro a ha; cases ha; show ¬ W2.heap.size = g; omega
        rintro e w3 ⟨x, rfl, hx, hs3, hg30⟩
        have hx2 : -1 ≤ x ∧ x ≤ 1099511627776 := by simp at hx; omega
        have hg3 : (W2.alloc (.cells #[.int .i64 2001, .int .i64 1999, .int .i64 5, .int .i64 1099511627776] 2)).grownBy w3 (some g) := ⟨hg30.os, hg30.tape, hg30.output, hg30.size, hg30.block⟩
        have HS3 := Lib.hid hs3
        have HG3 := Lib.hid (grown_trans (grown_alloc HG2.out _) hg3)
        have HO3 : Hid (OwnI w3 W0.heap.size w3.heap.size (Value.slice (some ⟨go, 0, none⟩) nb cb) L) := Lib.hid (OwnI.mk' ((draw_up HO2.out _).kept (kept_src hg3 hgW (Nat.le_refl _))).1)
        have hbA : bx < (W2.alloc (.cells #[.int .i64 2001, .int .i64 1999, .int .i64 5, .int .i64 1099511627776] 2)).heap.size := by simp; omega
        have c3 := (grown_cellD hg3 (p := ⟨bx, 0, none⟩) (by show ¬ bx = g; omega) hbA).trans (((below_box W2 (.cells #[.int .i64 2001, .int .i64 1999, .int .i64 5, .int .i64 1099511627776] 2)).cell (p := ⟨bx, 0, none⟩) hb2).trans c2)
        have f3 := (grown_frozenD hg3 (p := ⟨bx, 0, none⟩) (by show ¬ bx = g; omega) hbA).trans (((below_box W2 (.cells #[.int .i64 2001, .int .i64 1999, .int .i64 5, .int .i64 1099511627776] 2)).frozen (p := ⟨bx, 0, none⟩) hb2).trans f2)
        have hb3 : bx < w3.heap.size := Nat.lt_of_lt_of_le hbA hg3.size
        clear hs3 hg3 hg30 hx HA HS2d HO2 HG2 HS2 c2 f2 hgz
        refine hK.out _ w3 trivial (fun hHeld => ?_)
        clear hK K
        try simp only [Act.put, List.setIfInBounds_toArray, List.set_cons_zero, List.set_cons_succ]
        refine wpAnyH_ready (rs := [5]) (by kernel_rfl) (by simp) ?_
        refine AllReadyH.cons rfl (fun K hK => ?_) AllReadyH.nil
        go_simp
        refine hK.out _ (w3.alloc (.cells #[.int .i64 x] 2)) trivial (fun hHeld => ?_)
        clear hK K
        try simp only [Act.put, List.setIfInBounds_toArray, List.set_cons_zero, List.set_cons_succ]
        refine wpAnyH_ready (rs := [6]) (by kernel_rfl) (by simp) ?_
        refine AllReadyH.cons rfl (fun K hK => ?_) AllReadyH.nil
        try simp only [List.getElem_toArray, List.getElem_cons_succ, List.getElem_cons_zero]
        rw [if_pos (by kernel_rfl)]
        refine wp_append_lies _ (.tmp 19) (.tmp 23) 24 ?kb2 (W0.heap.size) 2 i0 (.int .i64 0) 1 8 Try.underlying24 hi0 hy0 hy1 hy2 rfl (by decide) (Value.slice (some ⟨go, 0, none⟩) nb cb) nb (L.map (.int .i64)) ?kb3 ?kb4 ⟨w3.heap.size, 0, none⟩ 1 1 [.int .i64 x] ?kb5 rfl ?kb6 ?kb7 (by decide) ?kb8 ?kb9 ?kb10 _ rfl ?kb11
        case kb2 => rfl
        case kb3 => rfl
        case kb5 => rfl
        case kb4 => have h3 := HO3.out.1; rw [HNB.out] at h3; exact World.ownsRow.alloc h3 _
        case kb6 => exact World.news_of_block (cs := #[.int .i64 x]) (t := 2) (fr := (0, 0)) (heap_alloc_new w3 _)
        case kb7 => simp [Value.oneCell']
        case kb8 => simp only [maxLen]; omega
        case kb9 => omega
        case kb10 => show W0.heap.size ≤ (w3.alloc (.cells #[.int .i64 x] 2)).heap.size; have := HG3.out.size; simp; omega
        intro g2 cap2 w4 hown2 hgrow hg2 hlt2
        have B4 : Below W0.heap.size w3 w4 := Below.grown (w := (w3.alloc (.cells #[.int .i64 x] 2))) ((Below.refl _ _).alloc HG3.out.size _) ⟨hgrow.os, hgrow.tape, hgrow.output, hgrow.size, hgrow.block⟩ (by have := HG3.out.size; simp; omega) (fun k hk => (Own.lt HO3.out.1 k hk).1)
        have hpa : bx < (w3.alloc (.cells #[.int .i64 x] 2)).heap.size := by simp; omega
        have hpn : some bx ≠ (Value.slice (some ⟨go, 0, none⟩) nb cb).ownBlock := by simp [Value.ownBlock]; omega
        have c4 : w4.cell? ⟨bx, 0, none⟩ = some (Value.slice (some ⟨go, 0, none⟩) nb cb) := (hgrow.cell_far ⟨bx, 0, none⟩ hpa hpn).trans (((below_box w3 (.cells #[.int .i64 x] 2)).cell (p := ⟨bx, 0, none⟩) hb3).trans c3)
        have f4 : w4.frozen? ⟨bx, 0, none⟩ = false := (hgrow.frozen_far ⟨bx, 0, none⟩ hpa hpn).trans (((below_box w3 (.cells #[.int .i64 x] 2)).frozen (p := ⟨bx, 0, none⟩) hb3).trans f3)
        have hb4 : bx < w4.heap.size := Nat.lt_of_lt_of_le hpa hgrow.size
        have hg2p : g2 ≠ bx := by rcases hg2 with h | h; (simp [Value.ownBlock] at h; omega); (have h9 : g2 = w3.heap.size + 1 := (by simpa using h)); omega
        have hg2W : W0.heap.size ≤ g2 := by have h5 := HG3.out.size; rcases hg2 with h | h; (simp [Value.ownBlock] at h; omega); (have h9 : g2 = w3.heap.size + 1 := (by simpa using h)); omega
        have HO4 : Hid (OwnI w4 W0.heap.size w4.heap.size (Value.slice (some ⟨g2, 0, none⟩) (nb + 1) cap2) (L ++ [x])) := Lib.hid (OwnI.mk' (n := nb + 1) (by rw [List.map_append]; exact hown2))
        have HS4 := Lib.hid (HS3.out.above B4 hgW)
        have HG4 := Lib.hid (grown_above HG3.out B4)
        refine hK.out _ _ trivial (fun hHeld => ?_)
        clear hK K hown2 hgrow hg2 hpa hpn B4 c3 f3 hb3 HO3 HS3 HG3
        try simp only [Act.put, List.setIfInBounds_toArray, List.set_cons_zero, List.set_cons_succ]
        refine takeY 7 _ (v := ?_) rfl rfl (by kernel_rfl) (by kernel_rfl) (by kernel_rfl) (fun _ _ _ h => h) (by kernel_rfl) ?_ (by assumption) ?_
        rotate_left 1
        · intro w hSw; (try dsimp only at hSw); go_simp; (try with_reducible rfl)
        try simp only [Act.put, List.setIfInBounds_toArray, List.set_cons_zero, List.set_cons_succ]
        refine wpAnyH_ready (rs := [8]) (by kernel_rfl) (by simp) ?_
        refine AllReadyH.cons rfl (fun K hK => ?_) AllReadyH.nil
        go_simp
        have HO5 : Hid (OwnI (w4.setCell ⟨bx, 0, none⟩ (Value.slice (some ⟨g2, 0, none⟩) (nb + 1) cap2)) W0.heap.size w4.heap.size (Value.slice (some ⟨g2, 0, none⟩) (nb + 1) cap2) (L ++ [x])) := Lib.hid (own_set HO4.out (by simp [Value.ownBlock]; omega))
        have B5 : Below W0.heap.size w4 (w4.setCell ⟨bx, 0, none⟩ (Value.slice (some ⟨g2, 0, none⟩) (nb + 1) cap2)) := (Below.refl _ _).setCell (p := ⟨bx, 0, none⟩) (by show W0.heap.size ≤ bx; omega) _
        have HS5 := Lib.hid (HS4.out.above B5 hgW)
        have HG5 := Lib.hid (grown_above HG4.out B5)
        have c5 : (w4.setCell ⟨bx, 0, none⟩ (Value.slice (some ⟨g2, 0, none⟩) (nb + 1) cap2)).cell? ⟨bx, 0, none⟩ = some (Value.slice (some ⟨g2, 0, none⟩) (nb + 1) cap2) := by go_simp
        have hz5 : (w4.setCell ⟨bx, 0, none⟩ (Value.slice (some ⟨g2, 0, none⟩) (nb + 1) cap2)).heap.size = w4.heap.size := setCell_size _ _ _
        refine hK.out _ (w4.setCell ⟨bx, 0, none⟩ (Value.slice (some ⟨g2, 0, none⟩) (nb + 1) cap2)) trivial (fun hHeld => ?_)
        clear hK K
        try simp only [Act.put, List.setIfInBounds_toArray, List.set_cons_zero, List.set_cons_succ]
        rw [← hz5] at HO5
        clear hz5 B5 c4 f4 HO4 HS4 HG4
        generalize (w4.setCell ⟨bx, 0, none⟩ (Value.slice (some ⟨g2, 0, none⟩) (nb + 1) cap2)) = W5 at *
        refine wpAnyH_done (by kernel_rfl) ?_ _
        obtain ⟨l2, l3, l4⟩ := S0.out.src hg (HG5.out)
        go_wp2_with fail
        have cr : (W5.setCell ⟨w.heap.size, 0, none⟩ (Value.slice (some ⟨g2, 0, none⟩) (nb + 1) cap2)).cell? ⟨w.heap.size, 0, none⟩ = some (Value.slice (some ⟨g2, 0, none⟩) (nb + 1) cap2) := by go_simp
        refine bodyPost_ret (v := .agg #[Value.slice (some ⟨g2, 0, none⟩) (nb + 1) cap2]) (by simp [results, Try.results84, go_sem, cr]) rfl ?_
        exact spoil_end HSW.out S0.out.below hg (fun a ha => by cases ha; show w.heap.size ≤ g2; omega) (setCell_size W5 _ _ ▸ (own_set HO5.out (by intro e; simp [Value.ownBlock] at e; omega)).reads) (SpOK.snoc HBR.out (by rw [HNB.out]; exact hnb8) (by omega)) (HS5.out) (HG5.out)
      · go_simp
        have HA : Hid (RI (W2.drew.alloc (.cells #[.int .i64 2001, .int .i64 1999, .int .i64 5, .int .i64 1099511627776] 2)) (W2.drew.alloc (.cells #[.int .i64 2001, .int .i64 1999, .int .i64 5, .int .i64 1099511627776] 2)).heap.size (some ⟨W2.heap.size, 0, none⟩) 4 [2001, 1999, 5, 1099511627776]) := Lib.hid (newRI W2.drew [2001, 1999, 5, 1099511627776] (by simp))
        have hgz : g < W2.heap.size := HS2.out.lt
        have HS2d : Hid (SrcOK W2.drew B g n) := HS2
        refine (l01Pick_any B g n _ 4 4 [2001, 1999, 5, 1099511627776] _ (HS2d.out.alloc _) HA.out ?_ (by omega)).mono ?_
        · intro a ha; cases ha; show ¬ W2.heap.size = g; omega
        rintro e w3 ⟨x, rfl, hx, hs3, hg30⟩
        have hx2 : -1 ≤ x ∧ x ≤ 1099511627776 := by simp at hx; omega
        have hg3 : (W2.alloc (.cells #[.int .i64 2001, .int .i64 1999, .int .i64 5, .int .i64 1099511627776] 2)).grownBy w3 (some g) := ⟨hg30.os, hg30.tape, hg30.output, hg30.size, hg30.block⟩
        have HS3 := Lib.hid hs3
        have HG3 := Lib.hid (grown_trans (grown_alloc HG2.out _) hg3)
        have HO3 : Hid (OwnI w3 W0.heap.size w3.heap.size (Value.slice (some ⟨go, 0, none⟩) nb cb) L) := Lib.hid (OwnI.mk' ((draw_up HO2.out _).kept (kept_src hg3 hgW (Nat.le_refl _))).1)
        have hbA : bx < (W2.alloc (.cells #[.int .i64 2001, .int .i64 1999, .int .i64 5, .int .i64 1099511627776] 2)).heap.size := by simp; omega
        have c3 := (grown_cellD hg3 (p := ⟨bx, 0, none⟩) (by show ¬ bx = g; omega) hbA).trans (((below_box W2 (.cells #[.int .i64 2001, .int .i64 1999, .int .i64 5, .int .i64 1099511627776] 2)).cell (p := ⟨bx, 0, none⟩) hb2).trans c2)
        have f3 := (grown_frozenD hg3 (p := ⟨bx, 0, none⟩) (by show ¬ bx = g; omega) hbA).trans (((below_box W2 (.cells #[.int .i64 2001, .int .i64 1999, .int .i64 5, .int .i64 1099511627776] 2)).frozen (p := ⟨bx, 0, none⟩) hb2).trans f2)
        have hb3 : bx < w3.heap.size := Nat.lt_of_lt_of_le hbA hg3.size
        clear hs3 hg3 hg30 hx HA HS2d HO2 HG2 HS2 c2 f2 hgz
        refine hK.out _ w3 trivial (fun hHeld => ?_)
        clear hK K
        try simp only [Act.put, List.setIfInBounds_toArray, List.set_cons_zero, List.set_cons_succ]
        refine wpAnyH_ready (rs := [1, 5]) (by kernel_rfl) (by simp) ?_
        refine AllReadyH.cons rfl (fun K hK => ?_) (AllReadyH.cons rfl (fun K hK => ?_) AllReadyH.nil)
        · go_simp
          refine hK.out _ w3 trivial (fun hHeld => ?_)
          clear hK K
          try simp only [Act.put, List.setIfInBounds_toArray, List.set_cons_zero, List.set_cons_succ]
          refine wpAnyH_ready (rs := [5]) (by kernel_rfl) (by simp) ?_
          refine AllReadyH.cons rfl (fun K hK => ?_) AllReadyH.nil
          go_simp
          refine hK.out _ (w3.alloc (.cells #[.int .i64 x] 2)) trivial (fun hHeld => ?_)
          clear hK K
          try simp only [Act.put, List.setIfInBounds_toArray, List.set_cons_zero, List.set_cons_succ]
          refine wpAnyH_ready (rs := [6]) (by kernel_rfl) (by simp) ?_
          refine AllReadyH.cons rfl (fun K hK => ?_) AllReadyH.nil
          try simp only [List.getElem_toArray, List.getElem_cons_succ, List.getElem_cons_zero]
          rw [if_pos (by kernel_rfl)]
          refine wp_append_lies _ (.tmp 19) (.tmp 23) 24 ?kc2 (W0.heap.size) 2 i0 (.int .i64 0) 1 8 Try.underlying24 hi0 hy0 hy1 hy2 rfl (by decide) (Value.slice (some ⟨go, 0, none⟩) nb cb) nb (L.map (.int .i64)) ?kc3 ?kc4 ⟨w3.heap.size, 0, none⟩ 1 1 [.int .i64 x] ?kc5 rfl ?kc6 ?kc7 (by decide) ?kc8 ?kc9 ?kc10 _ rfl ?kc11
          case kc2 => rfl
          case kc3 => rfl
          case kc5 => rfl
          case kc4 => have h3 := HO3.out.1; rw [HNB.out] at h3; exact World.ownsRow.alloc h3 _
          case kc6 => exact World.news_of_block (cs := #[.int .i64 x]) (t := 2) (fr := (0, 0)) (heap_alloc_new w3 _)
          case kc7 => simp [Value.oneCell']
          case kc8 => simp only [maxLen]; omega
          case kc9 => omega
          case kc10 => show W0.heap.size ≤ (w3.alloc (.cells #[.int .i64 x] 2)).heap.size; have := HG3.out.size; simp; omega
          intro g2 cap2 w4 hown2 hgrow hg2 hlt2
          have B4 : Below W0.heap.size w3 w4 := Below.grown (w := (w3.alloc (.cells #[.int .i64 x] 2))) ((Below.refl _ _).alloc HG3.out.size _) ⟨hgrow.os, hgrow.tape, hgrow.output, hgrow.size, hgrow.block⟩ (by have := HG3.out.size; simp; omega) (fun k hk => (Own.lt HO3.out.1 k hk).1)
          have hpa : bx < (w3.alloc (.cells #[.int .i64 x] 2)).heap.size := by simp; omega
          have hpn : some bx ≠ (Value.slice (some ⟨go, 0, none⟩) nb cb).ownBlock := by simp [Value.ownBlock]; omega
          have c4 : w4.cell? ⟨bx, 0, none⟩ = some (Value.slice (some ⟨go, 0, none⟩) nb cb) := (hgrow.cell_far ⟨bx, 0, none⟩ hpa hpn).trans (((below_box w3 (.cells #[.int .i64 x] 2)).cell (p := ⟨bx, 0, none⟩) hb3).trans c3)
          have f4 : w4.frozen? ⟨bx, 0, none⟩ = false := (hgrow.frozen_far ⟨bx, 0, none⟩ hpa hpn).trans (((below_box w3 (.cells #[.int .i64 x] 2)).frozen (p := ⟨bx, 0, none⟩) hb3).trans f3)
          have hb4 : bx < w4.heap.size := Nat.lt_of_lt_of_le hpa hgrow.size
          have hg2p : g2 ≠ bx := by rcases hg2 with h | h; (simp [Value.ownBlock] at h; omega); (have h9 : g2 = w3.heap.size + 1 := (by simpa using h)); omega
          have hg2W : W0.heap.size ≤ g2 := by have h5 := HG3.out.size; rcases hg2 with h | h; (simp [Value.ownBlock] at h; omega); (have h9 : g2 = w3.heap.size + 1 := (by simpa using h)); omega
          have HO4 : Hid (OwnI w4 W0.heap.size w4.heap.size (Value.slice (some ⟨g2, 0, none⟩) (nb + 1) cap2) (L ++ [x])) := Lib.hid (OwnI.mk' (n := nb + 1) (by rw [List.map_append]; exact hown2))
          have HS4 := Lib.hid (HS3.out.above B4 hgW)
          have HG4 := Lib.hid (grown_above HG3.out B4)
          refine hK.out _ _ trivial (fun hHeld => ?_)
          clear hK K hown2 hgrow hg2 hpa hpn B4 c3 f3 hb3 HO3 HS3 HG3
          try simp only [Act.put, List.setIfInBounds_toArray, List.set_cons_zero, List.set_cons_succ]
          refine takeY 7 _ (v := ?_) rfl rfl (by kernel_rfl) (by kernel_rfl) (by kernel_rfl) (fun _ _ _ h => h) (by kernel_rfl) ?_ (by assumption) ?_
          rotate_left 1
          · intro w hSw; (try dsimp only at hSw); go_simp; (try with_reducible rfl)
          try simp only [Act.put, List.setIfInBounds_toArray, List.set_cons_zero, List.set_cons_succ]
          refine wpAnyH_ready (rs := [8]) (by kernel_rfl) (by simp) ?_
          refine AllReadyH.cons rfl (fun K hK => ?_) AllReadyH.nil
          go_simp
          have HO5 : Hid (OwnI (w4.setCell ⟨bx, 0, none⟩ (Value.slice (some ⟨g2, 0, none⟩) (nb + 1) cap2)) W0.heap.size w4.heap.size (Value.slice (some ⟨g2, 0, none⟩) (nb + 1) cap2) (L ++ [x])) := Lib.hid (own_set HO4.out (by simp [Value.ownBlock]; omega))
          have B5 : Below W0.heap.size w4 (w4.setCell ⟨bx, 0, none⟩ (Value.slice (some ⟨g2, 0, none⟩) (nb + 1) cap2)) := (Below.refl _ _).setCell (p := ⟨bx, 0, none⟩) (by show W0.heap.size ≤ bx; omega) _
          have HS5 := Lib.hid (HS4.out.above B5 hgW)
          have HG5 := Lib.hid (grown_above HG4.out B5)
          have c5 : (w4.setCell ⟨bx, 0, none⟩ (Value.slice (some ⟨g2, 0, none⟩) (nb + 1) cap2)).cell? ⟨bx, 0, none⟩ = some (Value.slice (some ⟨g2, 0, none⟩) (nb + 1) cap2) := by go_simp
          have hz5 : (w4.setCell ⟨bx, 0, none⟩ (Value.slice (some ⟨g2, 0, none⟩) (nb + 1) cap2)).heap.size = w4.heap.size := setCell_size _ _ _
          refine hK.out _ (w4.setCell ⟨bx, 0, none⟩ (Value.slice (some ⟨g2, 0, none⟩) (nb + 1) cap2)) trivial (fun hHeld => ?_)
          clear hK K
          try simp only [Act.put, List.setIfInBounds_toArray, List.set_cons_zero, List.set_cons_succ]
          rw [← hz5] at HO5
          clear hz5 B5 c4 f4 HO4 HS4 HG4
          generalize (w4.setCell ⟨bx, 0, none⟩ (Value.slice (some ⟨g2, 0, none⟩) (nb + 1) cap2)) = W5 at *
          refine wpAnyH_done (by kernel_rfl) ?_ _
          obtain ⟨l2, l3, l4⟩ := S0.out.src hg (HG5.out)
          go_wp2_with fail
          have cr : (W5.setCell ⟨w.heap.size, 0, none⟩ (Value.slice (some ⟨g2, 0, none⟩) (nb + 1) cap2)).cell? ⟨w.heap.size, 0, none⟩ = some (Value.slice (some ⟨g2, 0, none⟩) (nb + 1) cap2) := by go_simp
          refine bodyPost_ret (v := .agg #[Value.slice (some ⟨g2, 0, none⟩) (nb + 1) cap2]) (by simp [results, Try.results84, go_sem, cr]) rfl ?_
          exact spoil_end HSW.out S0.out.below hg (fun a ha => by cases ha; show w.heap.size ≤ g2; omega) (setCell_size W5 _ _ ▸ (own_set HO5.out (by intro e; simp [Value.ownBlock] at e; omega)).reads) (SpOK.snoc HBR.out (by rw [HNB.out]; exact hnb8) (by omega)) (HS5.out) (HG5.out)
        · go_simp
          refine hK.out _ (w3.alloc (.cells #[.int .i64 x] 2)) trivial (fun hHeld => ?_)
          clear hK K
          try simp only [Act.put, List.setIfInBounds_toArray, List.set_cons_zero, List.set_cons_succ]
          refine wpAnyH_ready (rs := [1]) (by kernel_rfl) (by simp) ?_
          refine AllReadyH.cons rfl (fun K hK => ?_) AllReadyH.nil
          have d3 : (w3.alloc (.cells #[.int .i64 x] 2)).cell? ⟨bx, 0, none⟩ = some (Value.slice (some ⟨go, 0, none⟩) nb cb) := ((below_box w3 (.cells #[.int .i64 x] 2)).cell (p := ⟨bx, 0, none⟩) hb3).trans c3
          go_simp
          refine hK.out _ (w3.alloc (.cells #[.int .i64 x] 2)) trivial (fun hHeld => ?_)
          clear hK K
          try simp only [Act.put, List.setIfInBounds_toArray, List.set_cons_zero, List.set_cons_succ]
          refine wpAnyH_ready (rs := [6]) (by kernel_rfl) (by simp) ?_
          refine AllReadyH.cons rfl (fun K hK => ?_) AllReadyH.nil
          try simp only [List.getElem_toArray, List.getElem_cons_succ, List.getElem_cons_zero]
          rw [if_pos (by kernel_rfl)]
          refine wp_append_lies _ (.tmp 19) (.tmp 23) 24 ?kd2 (W0.heap.size) 2 i0 (.int .i64 0) 1 8 Try.underlying24 hi0 hy0 hy1 hy2 rfl (by decide) (Value.slice (some ⟨go, 0, none⟩) nb cb) nb (L.map (.int .i64)) ?kd3 ?kd4 ⟨w3.heap.size, 0, none⟩ 1 1 [.int .i64 x] ?kd5 rfl ?kd6 ?kd7 (by decide) ?kd8 ?kd9 ?kd10 _ rfl ?kd11
          case kd2 => rfl
          case kd3 => rfl
          case kd5 => rfl
          case kd4 => have h3 := HO3.out.1; rw [HNB.out] at h3; exact World.ownsRow.alloc h3 _
          case kd6 => exact World.news_of_block (cs := #[.int .i64 x]) (t := 2) (fr := (0, 0)) (heap_alloc_new w3 _)
          case kd7 => simp [Value.oneCell']
          case kd8 => simp only [maxLen]; omega
          case kd9 => omega
          case kd10 => show W0.heap.size ≤ (w3.alloc (.cells #[.int .i64 x] 2)).heap.size; have := HG3.out.size; simp; omega
          intro g2 cap2 w4 hown2 hgrow hg2 hlt2
          have B4 : Below W0.heap.size w3 w4 := Below.grown (w := (w3.alloc (.cells #[.int .i64 x] 2))) ((Below.refl _ _).alloc HG3.out.size _) ⟨hgrow.os, hgrow.tape, hgrow.output, hgrow.size, hgrow.block⟩ (by have := HG3.out.size; simp; omega) (fun k hk => (Own.lt HO3.out.1 k hk).1)
          have hpa : bx < (w3.alloc (.cells #[.int .i64 x] 2)).heap.size := by simp; omega
          have hpn : some bx ≠ (Value.slice (some ⟨go, 0, none⟩) nb cb).ownBlock := by simp [Value.ownBlock]; omega
          have c4 : w4.cell? ⟨bx, 0, none⟩ = some (Value.slice (some ⟨go, 0, none⟩) nb cb) := (hgrow.cell_far ⟨bx, 0, none⟩ hpa hpn).trans (((below_box w3 (.cells #[.int .i64 x] 2)).cell (p := ⟨bx, 0, none⟩) hb3).trans c3)
          have f4 : w4.frozen? ⟨bx, 0, none⟩ = false := (hgrow.frozen_far ⟨bx, 0, none⟩ hpa hpn).trans (((below_box w3 (.cells #[.int .i64 x] 2)).frozen (p := ⟨bx, 0, none⟩) hb3).trans f3)
          have hb4 : bx < w4.heap.size := Nat.lt_of_lt_of_le hpa hgrow.size
          have hg2p : g2 ≠ bx := by rcases hg2 with h | h; (simp [Value.ownBlock] at h; omega); (have h9 : g2 = w3.heap.size + 1 := (by simpa using h)); omega
          have hg2W : W0.heap.size ≤ g2 := by have h5 := HG3.out.size; rcases hg2 with h | h; (simp [Value.ownBlock] at h; omega); (have h9 : g2 = w3.heap.size + 1 := (by simpa using h)); omega
          have HO4 : Hid (OwnI w4 W0.heap.size w4.heap.size (Value.slice (some ⟨g2, 0, none⟩) (nb + 1) cap2) (L ++ [x])) := Lib.hid (OwnI.mk' (n := nb + 1) (by rw [List.map_append]; exact hown2))
          have HS4 := Lib.hid (HS3.out.above B4 hgW)
          have HG4 := Lib.hid (grown_above HG3.out B4)
          refine hK.out _ _ trivial (fun hHeld => ?_)
          clear hK K hown2 hgrow hg2 hpa hpn B4 c3 f3 hb3 HO3 HS3 HG3
          try simp only [Act.put, List.setIfInBounds_toArray, List.set_cons_zero, List.set_cons_succ]
          refine takeY 7 _ (v := ?_) rfl rfl (by kernel_rfl) (by kernel_rfl) (by kernel_rfl) (fun _ _ _ h => h) (by kernel_rfl) ?_ (by assumption) ?_
          rotate_left 1
          · intro w hSw; (try dsimp only at hSw); go_simp; (try with_reducible rfl)
          try simp only [Act.put, List.setIfInBounds_toArray, List.set_cons_zero, List.set_cons_succ]
          refine wpAnyH_ready (rs := [8]) (by kernel_rfl) (by simp) ?_
          refine AllReadyH.cons rfl (fun K hK => ?_) AllReadyH.nil
          go_simp
          have HO5 : Hid (OwnI (w4.setCell ⟨bx, 0, none⟩ (Value.slice (some ⟨g2, 0, none⟩) (nb + 1) cap2)) W0.heap.size w4.heap.size (Value.slice (some ⟨g2, 0, none⟩) (nb + 1) cap2) (L ++ [x])) := Lib.hid (own_set HO4.out (by simp [Value.ownBlock]; omega))
          have B5 : Below W0.heap.size w4 (w4.setCell ⟨bx, 0, none⟩ (Value.slice (some ⟨g2, 0, none⟩) (nb + 1) cap2)) := (Below.refl _ _).setCell (p := ⟨bx, 0, none⟩) (by show W0.heap.size ≤ bx; omega) _
          have HS5 := Lib.hid (HS4.out.above B5 hgW)
          have HG5 := Lib.hid (grown_above HG4.out B5)
          have c5 : (w4.setCell ⟨bx, 0, none⟩ (Value.slice (some ⟨g2, 0, none⟩) (nb + 1) cap2)).cell? ⟨bx, 0, none⟩ = some (Value.slice (some ⟨g2, 0, none⟩) (nb + 1) cap2) := by go_simp
          have hz5 : (w4.setCell ⟨bx, 0, none⟩ (Value.slice (some ⟨g2, 0, none⟩) (nb + 1) cap2)).heap.size = w4.heap.size := setCell_size _ _ _
          refine hK.out _ (w4.setCell ⟨bx, 0, none⟩ (Value.slice (some ⟨g2, 0, none⟩) (nb + 1) cap2)) trivial (fun hHeld => ?_)
          clear hK K
          try simp only [Act.put, List.setIfInBounds_toArray, List.set_cons_zero, List.set_cons_succ]
          rw [← hz5] at HO5
          clear hz5 B5 c4 f4 HO4 HS4 HG4
          generalize (w4.setCell ⟨bx, 0, none⟩ (Value.slice (some ⟨g2, 0, none⟩) (nb + 1) cap2)) = W5 at *
          refine wpAnyH_done (by kernel_rfl) ?_ _
          obtain ⟨l2, l3, l4⟩ := S0.out.src hg (HG5.out)
          go_wp2_with fail
          have cr : (W5.setCell ⟨w.heap.size, 0, none⟩ (Value.slice (some ⟨g2, 0, none⟩) (nb + 1) cap2)).cell? ⟨w.heap.size, 0, none⟩ = some (Value.slice (some ⟨g2, 0, none⟩) (nb + 1) cap2) := by go_simp
          refine bodyPost_ret (v := .agg #[Value.slice (some ⟨g2, 0, none⟩) (nb + 1) cap2]) (by simp [results, Try.results84, go_sem, cr]) rfl ?_
          exact spoil_end HSW.out S0.out.below hg (fun a ha => by cases ha; show w.heap.size ≤ g2; omega) (setCell_size W5 _ _ ▸ (own_set HO5.out (by intro e; simp [Value.ownBlock] at e; omega)).reads) (SpOK.snoc HBR.out (by rw [HNB.out]; exact hnb8) (by omega)) (HS5.out) (HG5.out)
  by_cases h2 : y = 2
  · have hnb0 : 0 < nb := by omega
    have e0 : (y == 0) = false := by simpa using h0
    have e1 : (y == 1) = false := by simpa using h1
    have e2 : (y == 2) = true := by simpa using h2
    have HY := Lib.hid h2
    clear h2
    have hcb : nb ≤ cb ∧ cb ≤ 9223372036854775807 := by
      obtain ⟨A', c', e7, _, _, h5, _, h6⟩ := HO2.out.reads
      rw [HNB.out] at e7 h5
      cases e7; exact ⟨h5, h6⟩
    by_cases hC : cb = 1
    · obtain rfl : cb = 1 := hC
      obtain rfl : nb = 1 := by omega
      obtain ⟨l2, l3, l4⟩ := S0.out.src hg HG2.out
      have hnw : ¬ bx = w.heap.size := by omega
      have B4 : Below W0.heap.size W2 (W2.setCell ⟨bx, 0, none⟩ (Value.slice (some ⟨go, 0, none⟩) 0 0)) := (Below.refl _ _).setCell (p := ⟨bx, 0, none⟩) (by show W0.heap.size ≤ bx; omega) _
      have HS4 := Lib.hid (HS2.out.above B4 hgW)
      have HG4 := Lib.hid (grown_above HG2.out B4)
      go_wp2_with fail
      have cr : ((W2.setCell ⟨bx, 0, none⟩ (Value.slice (some ⟨go, 0, none⟩) 0 0)).setCell ⟨w.heap.size, 0, none⟩ (Value.slice (some ⟨go, 0, none⟩) 0 0)).cell? ⟨w.heap.size, 0, none⟩ = some (Value.slice (some ⟨go, 0, none⟩) 0 0) := by go_simp
      refine bodyPost_ret (v := .agg #[Value.slice (some ⟨go, 0, none⟩) 0 0]) (by simp [results, Try.results84, go_sem, cr]) rfl ?_
      refine spoil_end HSW.out S0.out.below hg (L := L.drop 1) (fun a ha => by cases ha; show w.heap.size ≤ go; omega) ?_ ((SpOK.of_br HBR.out (by rw [HNB.out]; exact hnb8)).drop 1) HS4.out HG4.out
      have hd : L.drop 1 = [] := List.drop_eq_nil_of_le (by rw [HNB.out]; exact Nat.le_refl _)
      rw [hd]
      exact ⟨some ⟨go, 0, none⟩, 0, rfl, ⟨rfl, fun k hk => absurd hk (by simp)⟩, (by intro h; cases h), Nat.le_refl _, fun a ha => by cases ha; exact ⟨_, _, rfl⟩, by omega⟩
    obtain ⟨C, rfl⟩ : ∃ C, cb = C + 1 := ⟨cb - 1, by omega⟩
    obtain ⟨M, rfl⟩ : ∃ M, nb = M + 1 := ⟨nb - 1, by omega⟩
    have hC0 : ¬ C = 0 := by omega
    have h1M : (1 : Int) ≤ (M : Int) + 1 := by omega
    clear hC
    obtain ⟨l2, l3, l4⟩ := S0.out.src hg HG2.out
    have hnw : ¬ bx = w.heap.size := by omega
    have B4 : Below W0.heap.size W2 (W2.setCell ⟨bx, 0, none⟩ (Value.slice (some ⟨go, 1, none⟩) M C)) := (Below.refl _ _).setCell (p := ⟨bx, 0, none⟩) (by show W0.heap.size ≤ bx; omega) _
    have HS4 := Lib.hid (HS2.out.above B4 hgW)
    have HG4 := Lib.hid (grown_above HG2.out B4)
    go_wp2_with fail
    have cr : ((W2.setCell ⟨bx, 0, none⟩ (Value.slice (some ⟨go, 1, none⟩) M C)).setCell ⟨w.heap.size, 0, none⟩ (Value.slice (some ⟨go, 1, none⟩) M C)).cell? ⟨w.heap.size, 0, none⟩ = some (Value.slice (some ⟨go, 1, none⟩) M C) := by go_simp
    refine bodyPost_ret (v := .agg #[Value.slice (some ⟨go, 1, none⟩) M C]) (by simp [results, Try.results84, go_sem, cr]) rfl ?_
    refine spoil_end HSW.out S0.out.below hg (L := L.drop 1) (fun a ha => by cases ha; show w.heap.size ≤ go; omega) ?_ ((SpOK.of_br HBR.out (by rw [HNB.out]; exact hnb8)).drop 1) HS4.out HG4.out
    have h7 := own_set (own_set HO2.out (p := ⟨bx, 0, none⟩) (u := Value.slice (some ⟨go, 1, none⟩) M C) (by simp [Value.ownBlock]; omega)) (p := ⟨w.heap.size, 0, none⟩) (u := Value.slice (some ⟨go, 1, none⟩) M C) (by simp [Value.ownBlock]; omega)
    have hz : ∀ (u v : Value), ((W2.setCell ⟨bx, 0, none⟩ u).setCell ⟨w.heap.size, 0, none⟩ v).heap.size = W2.heap.size := fun u v => by rw [setCell_size, setCell_size]
    have h8 := own_tail (hz _ _ ▸ h7) HNB.out
    rw [hz] at h8
    rw [setCell_size]
    exact h8
  obtain ⟨l2, l3, l4⟩ := S0.out.src hg HG2.out
  have e0 : (y == 0) = false := by simpa using h0
  have e1 : (y == 1) = false := by simpa using h1
  have e2 : (y == 2) = false := by simpa using h2
  go_wp2_with fail
  have cr : (W2.setCell ⟨w.heap.size, 0, none⟩ (.slice (some ⟨go, 0, none⟩) nb cb)).cell? ⟨w.heap.size, 0, none⟩ = some (.slice (some ⟨go, 0, none⟩) nb cb) := by go_simp
  refine bodyPost_ret (v := .agg #[.slice (some ⟨go, 0, none⟩) nb cb]) (by simp [results, Try.results84, go_sem, cr]) rfl ?_
  exact spoil_end HSW.out S0.out.below hg (fun a ha => by cases ha; show w.heap.size ≤ go; omega) (setCell_size W2 _ _ ▸ (own_set HO2.out (by intro e; simp [Value.ownBlock] at e; omega)).reads) (SpOK.of_br HBR.out (by rw [HNB.out]; exact hnb8)) HS2.out HG2.out
end Go.Proofs.Ytoebbhicffgdgaa
/- Drawn branches: contracts of spec.DrawSequenceOf and of the draws that hand it on. Conditions: stated at each theorem. -/
namespace Go.Proofs.Ytoebbhicffgdgaa
open Go.ChangeShapes Go.WideShapes Go.ChangeAt Go.RowKit Go.Deep
set_option linter.unusedVariables false
set_option linter.unusedSimpArgs false

/-- A drawn branch, any source gone. -/
def DrPost (w : World) (e : Ending) (w' : World) : Prop := ∃ A m c L, e = .returned (.agg #[.slice A m c]) ∧ ReadI w' w'.heap.size (.slice A m c) L ∧ (∀ a, A = some a → w.heap.size ≤ a.block) ∧ SpOK L ∧ Below w.heap.size w w'
theorem dr_end {w w5 : World} {A : Option Addr} {m c : Nat} {L : List Int} {u : Value} (hb : Below w.heap.size w w5) (hge : ∀ a, A = some a → w.heap.size ≤ a.block) (hr : ReadI (w5.setCell ⟨w.heap.size, 0, none⟩ u) w5.heap.size (.slice A m c) L) (hL : SpOK L) : DrPost w (.returned (.agg #[.slice A m c])) (w5.setCell ⟨w.heap.size, 0, none⟩ u) := by
  refine ⟨A, m, c, L, rfl, ?_, hge, hL, hb.setCell (p := ⟨w.heap.size, 0, none⟩) (Nat.le_refl _) u⟩
  rw [setCell_size]
  exact hr
theorem read_set {w : World} {v u : Value} {L : List Int} {p : Addr} {B : Nat} (h : ReadI w B v L) (hne : ∀ A n c, v = .slice A n c → ∀ a, A = some a → a.block ≠ p.block) : ReadI (w.setCell p u) B v L := by
  obtain ⟨A, c, rfl, h1, h2⟩ := h
  refine ⟨A, c, rfl, ⟨h1.1, fun k hk => ?_⟩, h2⟩
  obtain ⟨a, e, h3, h4⟩ := h1.2 k hk
  refine ⟨a, e, h3, ?_⟩
  rw [World.cell?_setCell_far _ _ _ _ (by rw [add_block]; exact fun e1 => hne A _ c rfl a e e1.symm)]
  exact h4
theorem read_src {w w' : World} {A : Option Addr} {m c B g : Nat} {L : List Int} (h : ReadI w B (.slice A m c) L) (hg : w.grownBy w' (some g)) (hB : B ≤ w.heap.size) (hne : ∀ a, A = some a → a.block ≠ g) : ReadI w' B (.slice A m c) L := by
  obtain ⟨A', c', e, h1, h2⟩ := h
  cases e
  refine ⟨A, c, rfl, ⟨h1.1, fun k hk => ?_⟩, h2⟩
  obtain ⟨a, e, h3, h4⟩ := h1.2 k hk
  refine ⟨a, e, h3, ?_⟩
  rw [grown_cellD hg (by rw [add_block]; exact hne a e) (by rw [add_block]; omega)]
  exact h4
theorem dr_two {w w5 : World} (hb : Below w.heap.size w w5) (hl : w.heap.size < w5.heap.size) (a b : Int) (ha : -1 ≤ a ∧ a ≤ 1099511627776) (hb' : -1 ≤ b ∧ b ≤ 1099511627776) (u : Value) :
    DrPost w (.returned (.agg #[.slice (some ⟨w5.heap.size, 0, none⟩) 2 2])) ((w5.setCell ⟨w.heap.size, 0, none⟩ u).alloc (.cells #[.int .i64 a, .int .i64 b] 2)) := by
  have h := list2R (lo := w.heap.size) (w := w5.setCell ⟨w.heap.size, 0, none⟩ u) (by rw [setCell_size]; omega) a b
  have hz := setCell_size w5 ⟨w.heap.size, 0, none⟩ u
  refine ⟨_, _, _, [a, b], rfl, ?_, fun a ha => by cases ha; show w.heap.size ≤ w5.heap.size; omega, ⟨by simp, fun z hz => by simp at hz; omega⟩, (hb.setCell (p := ⟨w.heap.size, 0, none⟩) (Nat.le_refl _) u).alloc (by rw [hz]; omega) _⟩
  have h2 := h.reads
  rw [hz] at h2
  exact h2
theorem Start1.below' {w W0 w1 : World} (h : Start1 w W0) (hb : Below W0.heap.size W0 w1) : w1.cell? ⟨w.heap.size, 0, none⟩ = some (.slice none 0 0) ∧ w1.frozen? ⟨w.heap.size, 0, none⟩ = false ∧ w.heap.size < w1.heap.size := h.later hb
theorem below_grown {w w1 w2 : World} {g B : Nat} (h : Below B w w1) (hg : w1.grownBy w2 (some g)) (hB : B ≤ g) (hs : B ≤ w1.heap.size) : Below B w w2 :=
  h.grown hg hs (fun k hk => by cases hk; exact hB)

end Go.Proofs.Ytoebbhicffgdgaa
/- Drawn branches with a number: contracts of spec.DrawIsValue, spec.DrawRepresentationOf, spec.DrawAperyOf. Conditions: stated at each theorem. -/
namespace Go.Proofs.Ytoebbhicffgdgaa
open Go.ChangeShapes Go.WideShapes Go.ChangeAt Go.RowKit Go.Deep
set_option linter.unusedVariables false
set_option linter.unusedSimpArgs false

/-- A drawn branch and a number. -/
def DrIPost (lo hi : Int) (w : World) (e : Ending) (w' : World) : Prop := ∃ A m c L x, e = .returned (.tuple #[.agg #[.slice A m c], .int .i64 x]) ∧ ReadI w' w'.heap.size (.slice A m c) L ∧ (∀ a, A = some a → w.heap.size ≤ a.block) ∧ SpOK L ∧ (lo ≤ x ∧ x ≤ hi) ∧ Below w.heap.size w w'
theorem dri_end {lo hi : Int} {w w5 : World} {A : Option Addr} {m c : Nat} {L : List Int} {u : Value} {x : Int} (hb : Below w.heap.size w w5) (hge : ∀ a, A = some a → w.heap.size ≤ a.block) (hr : ReadI (w5.setCell ⟨w.heap.size, 0, none⟩ u) w5.heap.size (.slice A m c) L) (hL : SpOK L) (hx : lo ≤ x ∧ x ≤ hi) : DrIPost lo hi w (.returned (.tuple #[.agg #[.slice A m c], .int .i64 x])) (w5.setCell ⟨w.heap.size, 0, none⟩ u) := by
  obtain ⟨A', m', c', L', e, h1, h2, h3, h4⟩ := dr_end hb hge hr hL
  refine ⟨A, m, c, L, x, rfl, ?_, hge, hL, hx, h4⟩
  rw [setCell_size]
  exact hr

end Go.Proofs.Ytoebbhicffgdgaa
