/- laws.likeInts and laws.likeRows5 over equal lists: they return true; nothing changes. Conditions: stated at each theorem. -/
import Derived.Test.YtbipihamkfifjaaOwnSS
namespace Go.Proofs.Ytbipihamkfifjaa
open Go.ChangeShapes Go.WideShapes Go.ChangeAt Go.RowKit
set_option linter.unusedVariables false

theorem likeInts_same (A A' : Option Addr) (n c c' : Nat) (zs : List Int) (w : World) (B : Nat) (hr : RI w B A n zs) (hr' : RI w B A' n zs) (hn : n ≤ 9223372036854775807) :
    Calls Try.prog 23 #[.slice A n c, .slice A' n c'] w fun e w' => e = .returned (.bool true) ∧ ∃ m, w' = w.drewN m := by
  have H0 := Lib.hid hr
  have H1 := Lib.hid hr'
  clear hr hr'
  go_enter Try.func23, Try.ntmps23
  go_wp2
  go_loopw [5] (fun i wr => ∃ (k m : Nat), k ≤ n ∧ i = .int .i64 k ∧ wr = w.drewN m) (fun i _ => n - (intOf i).toNat)
  case atStart => exact ⟨0, 0, by omega, rfl, rfl⟩
  case round =>
    obtain ⟨k, m, hk, rfl, rfl⟩ := hrel
    by_cases hlt : k < n
    · obtain ⟨a, rfl, _, hcell⟩ := H0.out.2 k hlt
      obtain ⟨a', rfl, _, hcell'⟩ := H1.out.2 k hlt
      have hk0 : (0 : Int) ≤ (k : Int) := Int.natCast_nonneg _
      have hk1 : (k : Int) < (n : Int) := by omega
      go_wp2
      go_quiet (fail)
      go_wp2
      go_roundw
      case rel => exact ⟨k + 1, m + nq, by omega, by go_num, rfl⟩
      case measure => simp [intOf]; omega
    · obtain rfl : k = n := by omega
      go_wp2
      go_ret
      exact ⟨rfl, m, rfl⟩

theorem likeRows5_same (A A' : Option Addr) (n c c' : Nat) (zf : Nat → List Int) (w : World) (B : Nat) (hr : RSS w B A n zf) (hr' : RSS w B A' n zf) (hn : n ≤ 9223372036854775807) (hm : ∀ k, k < n → (zf k).length ≤ 9223372036854775807) :
    Calls Try.prog 17 #[.slice A n c, .slice A' n c'] w fun e w' => e = .returned (.bool true) ∧ ∃ m, w' = w.drewN m := by
  have H0 := Lib.hid hr
  have H1 := Lib.hid hr'
  have HM := Lib.hid hm
  clear hr hr' hm
  go_enter Try.func17, Try.ntmps17
  go_wp2
  go_loopw [5] (fun i wr => ∃ (k : Nat), k ≤ n ∧ i = .int .i64 k ∧ Hid (∃ m, wr = w.drewN m)) (fun i _ => n - (intOf i).toNat)
  case atStart => exact ⟨0, by omega, rfl, Lib.hid ⟨0, rfl⟩⟩
  case round =>
    obtain ⟨k, hk, rfl, hw⟩ := hrel
    by_cases hlt : k < n
    · obtain ⟨a, A1, c1, rfl, _, hcell, hri⟩ := H0.out k hlt
      obtain ⟨a', A1', c1', rfl, _, hcell', hri'⟩ := H1.out k hlt
      have hk0 : (0 : Int) ≤ (k : Int) := Int.natCast_nonneg _
      have hk1 : (k : Int) < (n : Int) := by omega
      have hx : wr.cell? (a.add k) = some (.slice A1 (zf k).length c1) := by obtain ⟨m, rfl⟩ := hw.out; exact hcell
      have hx' : wr.cell? (a'.add k) = some (.slice A1' (zf k).length c1') := by obtain ⟨m, rfl⟩ := hw.out; exact hcell'
      have HR : Hid (RI wr B A1 (zf k).length (zf k)) := Lib.hid (by obtain ⟨m, rfl⟩ := hw.out; exact hri)
      have HR' : Hid (RI wr B A1' (zf k).length (zf k)) := Lib.hid (by obtain ⟨m, rfl⟩ := hw.out; exact hri')
      have HL := HM.out k hlt
      clear hcell hcell' hri hri'
      go_wp2
      go_quiet ((go_at_call 23; exact Calls.quiet_of (likeInts_same A1 A1' _ c1 c1' (zf k) _ B HR.out HR'.out HL)))
      go_wp2
      go_roundw
      case rel => exact ⟨k + 1, by omega, by go_num, Lib.hid (by obtain ⟨m, rfl⟩ := hw.out; exact ⟨m + nq, World.drewN_drewN _ _ _⟩)⟩
      case measure => simp [intOf]; omega
    · obtain rfl : k = n := by omega
      go_wp2
      go_ret
      exact ⟨rfl, hw.out⟩
end Go.Proofs.Ytbipihamkfifjaa
