/- A []byte that comes in. Conditions: stated at each theorem. -/
import Derived.Test.YtbipihamkfifjaaSrc
namespace Go.Proofs.Ytbipihamkfifjaa
open Go.ChangeShapes Go.WideShapes Go.ChangeAt Go.RowKit
set_option linter.unusedVariables false
theorem open_row_bytes {H : Type} {enc : TypeId × Value → H} {W : World} {B : Nat} {r : Reach} {b0 : Nat} {v : Value} {d : DataW H} {p : List MemPlace}
    (hv : Value.okWide Try.prog W r b0 22 v) (h : DataW.Trod enc Try.prog W 0 (fun _ => true) true 22 v d p) (hlt : ∀ x ∈ p, x.block < B) :
    ∃ (A : Option Addr) (n c : Nat), v = .slice A n c ∧ RB W B A n ∧ n ≤ 9223372036854775807 := by
  obtain ⟨a0, len, cap, rfl⟩ := okWide_slice Try.underlying22 hv
  obtain ⟨fuel, hf⟩ := h
  rcases open_ints Try.underlying22 Try.underlying5 (by kernel_rfl) hf with ⟨e, _⟩ | ⟨a, len', cap', zs, e, _, hle, hcap, hzl, hx, hcell, hwf⟩
  · simp [Value.cells] at e
    obtain ⟨rfl, rfl, rfl⟩ := e
    exact ⟨none, 0, 0, rfl, fun k hk => by omega, by omega⟩
  · simp [Value.cells] at e
    obtain ⟨rfl, rfl, rfl⟩ := e
    simp only [if_true] at hzl
    simp only [Prod.mk.injEq] at hx
    have hp : p = MemPlace.row a zs.length := hx.2
    unfold maxLen at hcap
    refine ⟨some a, len, cap, rfl, fun k hk => ?_, by omega⟩
    have hkz : k < zs.length := by omega
    refine ⟨a, zs[k], rfl, ?_, ?_, bounds_u8 (hwf _ (List.getElem_mem hkz))⟩
    · have := hlt (.cell a.block (a.off + 0)) (by rw [hp]; exact MemPlace.mem_row.2 ⟨0, by omega, rfl⟩)
      simpa [MemPlace.block] using this
    · rw [hcell k (by omega)]
      simp [List.getD, hkz]
end Go.Proofs.Ytbipihamkfifjaa
