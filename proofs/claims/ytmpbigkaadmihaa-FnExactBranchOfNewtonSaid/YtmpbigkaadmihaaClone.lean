/- slices.Clone on slices of int64: contracts. Conditions: stated at each theorem. -/
import Derived.Test.YtmpbigkaadmihaaTrim
import Derived.WalkSpells
import Derived.RegionTactic
import Derived.BigRegion
namespace Go.Proofs.Ytmpbigkaadmihaa
open Go.ChangeShapes Go.WideShapes Go.ChangeAt Go.RowKit
set_option linter.unusedVariables false

theorem clone_any (v : Value) (zs : List Int) (w : World) (B : Nat) (h : ReadI w B v zs) (hn : zs.length ≤ 1099511627776) (hB : B ≤ w.heap.size) :
    Calls Try.prog 65 #[v] w fun e w' => ∃ v', e = .returned v' ∧ OwnI w' w.heap.size w'.heap.size v' zs ∧ Below w.heap.size w w' := by
  obtain ⟨n, A, c, rfl, hr, HL, HN, hnc, HF, hcm⟩ := h.split2
  rw [HL.out] at hn
  have H0 := Lib.hid hr
  clear hr h
  obtain ⟨i0, hi0, hz0, hz1, hz2⟩ := info_parts int_info
  have hnil := fun (w : World) (A : Option Addr) (n c : Nat) => Lib.run_eql_slice_nil (P := Try.prog) w 24 2 A n c 0 0 Try.underlying24
  cases A with
  | none =>
    obtain rfl : c = 0 := HN.out rfl
    obtain rfl : n = 0 := by omega
    have Z : zs = [] := List.eq_nil_of_length_eq_zero HL.out
    subst Z
    go_enter Try.func65, Try.ntmps65
    go_wp2
    go_ret
    exact ⟨_, rfl, OwnI.nil _ _, Below.refl _ _⟩
  | some a =>
    go_enter Try.func65, Try.ntmps65
    go_wp2_with (at_builtin; refine wpList_append_own _ rfl _ _ 24 rfl w.heap.size 2 i0 (.int .i64 0) 1 8 Try.underlying24 hi0 hz0 hz1 hz2 rfl (by decide) _ 0 [] rfl (World.ownsRow_made w #[] 0 (Nat.le_refl _) (by unfold maxLen; omega) rfl) a n c (zs.map (.int .i64)) rfl ?_ ?_ ?_ ?_ ?_ ?_ ?_; (simp [HL.out]); (exact row_cells H0.out HL.out hB); (exact ints_oneCell _ _); (unfold maxLen; omega); (omega); (simp); intro v1 w1 hown1 hgrow _)
    go_ret
    refine ⟨_, rfl, OwnI.mk' (n := n) ?_, ?_⟩
    · simp only [Nat.zero_add, List.nil_append] at hown1
      exact hown1
    · exact ((Below.refl _ _).alloc (Nat.le_refl _) _).grown hgrow (by simp) (fun k hk => by cases hk; exact Nat.le_refl _)

end Go.Proofs.Ytmpbigkaadmihaa
