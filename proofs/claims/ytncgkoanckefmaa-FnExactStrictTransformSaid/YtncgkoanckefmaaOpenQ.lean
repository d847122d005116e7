/- A slice of slices of int64 that comes in. Conditions: stated at each theorem. -/
import Derived.Test.YtncgkoanckefmaaKeepQ
import Derived.Deep.Matrix
namespace Go.Proofs.Ytncgkoanckefmaa
open Go.ChangeShapes Go.WideShapes Go.ChangeAt Go.RowKit Go.Deep
set_option linter.unusedVariables false

set_option maxRecDepth 100000 in
theorem open_rows_ints {H : Type} {enc : TypeId × Value → H} {W : World} {B : Nat} {r : Reach} {b0 : Nat} {v : Value} {d : DataW H} {p : List MemPlace}
    (hv : Value.okWide Try.prog W r b0 51 v) (h : DataW.Trod enc Try.prog W 0 (fun _ => true) true 51 v d p) (hlt : ∀ x ∈ p, x.block < B) :
    ∃ (zss : List (List Int)), ReadQW W B v zss ∧ zss.length ≤ 9223372036854775807 ∧ (∀ zs ∈ zss, zs.length ≤ 9223372036854775807 ∧ ∀ z ∈ zs, (Lit.int .i64 z).wf = true) := by
  obtain ⟨a0, len, cap, rfl⟩ := okWide_slice Try.underlying51 hv
  obtain ⟨fuel, hf⟩ := h
  rcases open_int_rows Try.underlying51 Try.underlying22 Try.underlying2 (by kernel_rfl) (by kernel_rfl) hf with ⟨e, _⟩ | ⟨a, len', cap', A, L, C, Z, e, _, hle, hcap, hx, hrows⟩
  · simp [Value.cells] at e
    obtain ⟨rfl, rfl, rfl⟩ := e
    exact ⟨[], ⟨none, 0, rfl, fun k hk => by simp at hk⟩, by simp, fun zs h => by cases h⟩
  · simp [Value.cells] at e
    obtain ⟨rfl, rfl, rfl⟩ := e
    simp only [Prod.mk.injEq] at hx
    have hp : p = MemPlace.row a cap ++ (List.range cap).flatMap fun r => intRowPlaces (A r) (Z r) := hx.2
    unfold maxLen at hcap hrows
    refine ⟨(List.range len).map fun r => (Z r).take (L r), ⟨some a, cap, by simp, fun k hk => ?_⟩, by simp; omega, fun zs hz => ?_⟩
    · have hk' : k < len := by simpa using hk
      obtain ⟨hc, hl1, hl2, hl3, hwf, hnil, hcells⟩ := hrows k (by omega)
      refine ⟨a, .slice (A k) (L k) (C k), rfl, ?_, hc, ?_⟩
      · have := hlt (.cell a.block (a.off + 0)) (by rw [hp]; exact List.mem_append_left _ (MemPlace.mem_row.2 ⟨0, by omega, rfl⟩))
        simpa [MemPlace.block] using this
      · have e1 : ((List.range len).map fun r => (Z r).take (L r)).getD k [] = (Z k).take (L k) := by simp [List.getD, hk']
        have e2 : ((Z k).take (L k)).length = L k := by simp; omega
        rw [e1]
        refine ⟨A k, C k, by rw [e2], ?_⟩
        rw [e2]
        refine ⟨e2, fun j hj => ?_⟩
        cases hA : A k with
        | none => have := hnil hA; omega
        | some a' =>
          have hcj := (hcells a' hA).2 j (by omega)
          refine ⟨a', rfl, ?_, ?_⟩
          · have hm : MemPlace.cell a'.block (a'.off + 0) ∈ p := by
              rw [hp]
              refine List.mem_append_right _ (List.mem_flatMap.2 ⟨k, List.mem_range.2 (by omega), ?_⟩)
              rw [hA]
              exact MemPlace.mem_row.2 ⟨0, by omega, rfl⟩
            have := hlt _ hm
            simpa [MemPlace.block] using this
          · rw [hcj]; simp [List.getD, hj]
    · obtain ⟨k, hk, rfl⟩ := List.mem_map.1 hz
      have hk' : k < len := by simpa using hk
      obtain ⟨hc, hl1, hl2, hl3, hwf, hnil, hcells⟩ := hrows k (by omega)
      exact ⟨by simp; omega, fun z hz => hwf z (List.mem_of_mem_take hz)⟩

theorem szI_yes (A : Option Addr) (n c : Nat) (left : Int) (w : World) (h : (n : Int) ≤ left) (hl : left ≤ 1048576) :
    Calls Try.prog 73 #[.slice A n c, .int .i64 left] w fun e w' => e = .returned (.int .i64 (left - n)) ∧ w = w' := by
  go_enter Try.func73, Try.ntmps73
  go_wp2
  go_ret
  exact ⟨rfl, rfl⟩
theorem szI_no (A : Option Addr) (n c : Nat) (left : Int) (w : World) (h : left < (n : Int)) (h0 : 0 ≤ left) (hl : left ≤ 1048576) (hn : n ≤ 9223372036854775807) :
    Calls Try.prog 73 #[.slice A n c, .int .i64 left] w fun e w' => e = .returned (.int .i64 (-1)) ∧ w = w' := by
  go_enter Try.func73, Try.ntmps73
  go_wp2
  go_ret
  exact ⟨rfl, rfl⟩
theorem ReadW.form {w : World} {B : Nat} {v : Value} {zs : List Int} (h : ReadW w B v zs) {n : Nat} (hl : zs.length = n) : ∃ A c, v = .slice A n c := by
  subst hl; obtain ⟨A, c, rfl, _⟩ := h; exact ⟨A, c, rfl⟩

theorem ret_intQ {k : IntKind} {a b : Int} (h : a = b) : Ending.returned (.int k a) = .returned (.int k b) := by rw [h]
end Go.Proofs.Ytncgkoanckefmaa
