/- Slices of int64 that are only read, and copies of them: words, and contracts of laws.toInt64S and laws.eqInt64S. Conditions: stated at each theorem. -/
import Derived.Test.YtncgkoanckefmaaLaw
import Derived.Deep.OwnRows
import Derived.Deep.QuietTactic
import Derived.BigQuiet
import Derived.OwnWalk
namespace Go.Proofs.Ytncgkoanckefmaa
open Go.ChangeShapes Go.WideShapes Go.ChangeAt Go.RowKit
set_option linter.unusedVariables false

/-- The slice at A with n elements, below block B, reads as the integers zs. -/
def RI (w : World) (B : Nat) (A : Option Addr) (n : Nat) (zs : List Int) : Prop :=
  zs.length = n ∧ ∀ k, k < n → ∃ a, A = some a ∧ a.block < B ∧ w.cell? (a.add k) = some (.int .i64 (zs.getD k 0))
theorem add_block (a : Addr) (k : Nat) : (a.add k).block = a.block := by unfold Addr.add; split <;> rfl
theorem RI.below {w w' : World} {B n : Nat} {A : Option Addr} {zs : List Int} (h : RI w B A n zs) (hb : Below B w w') : RI w' B A n zs :=
  ⟨h.1, fun k hk => by
    obtain ⟨a, e, hlt, hc⟩ := h.2 k hk
    exact ⟨a, e, hlt, (hb.cell (by rw [add_block]; exact hlt)).trans hc⟩⟩
theorem RI.more {w : World} {B B' n : Nat} {A : Option Addr} {zs : List Int} (h : RI w B A n zs) (hB : B ≤ B') : RI w B' A n zs :=
  ⟨h.1, fun k hk => by
    obtain ⟨a, e, hlt, hc⟩ := h.2 k hk
    exact ⟨a, e, by omega, hc⟩⟩
theorem RI.drewN {w : World} {B n : Nat} {A : Option Addr} {zs : List Int} (h : RI w B A n zs) (m : Nat) : RI (w.drewN m) B A n zs := h
theorem RI.of_row {w : World} {g n : Nat} {t : TypeId} {zs : List Int} (h : w.rowIs g t n fun i => .int .i64 (zs.getD i 0)) (hl : zs.length = n) {B : Nat} (hB : g < B) : RI w B (some ⟨g, 0, none⟩) n zs :=
  ⟨hl, fun k hk => ⟨_, rfl, hB, by
    have := h.cell hk
    simp only [Addr.add]
    split <;> simp_all⟩⟩

theorem int_info : (Try.prog.info? 2).map (fun i => (i.zero, i.size, i.bytes)) = some (some (.int .i64 0), 1, 8) := by kernel_rfl

set_option maxRecDepth 100000 in
/-- A []int64 that comes in. -/
theorem open_row_ints {H : Type} {enc : TypeId × Value → H} {W : World} {B : Nat} {r : Reach} {b0 : Nat} {v : Value} {d : DataW H} {p : List MemPlace}
    (hv : Value.okWide Try.prog W r b0 22 v) (h : DataW.Trod enc Try.prog W 0 (fun _ => true) true 22 v d p) (hlt : ∀ x ∈ p, x.block < B) :
    ∃ (A : Option Addr) (n c : Nat) (zs : List Int), v = .slice A n c ∧ RI W B A n zs ∧ n ≤ 9223372036854775807 ∧ ∀ z ∈ zs, (Lit.int .i64 z).wf = true := by
  obtain ⟨a0, len, cap, rfl⟩ := okWide_slice Try.underlying22 hv
  obtain ⟨fuel, hf⟩ := h
  rcases open_ints Try.underlying22 Try.underlying2 (by kernel_rfl) hf with ⟨e, _⟩ | ⟨a, len', cap', zs, e, _, hle, hcap, hzl, hx, hcell, hwf⟩
  · simp [Value.cells] at e
    obtain ⟨rfl, rfl, rfl⟩ := e
    exact ⟨none, 0, 0, [], rfl, ⟨rfl, fun k hk => by omega⟩, by omega, by simp⟩
  · simp [Value.cells] at e
    obtain ⟨rfl, rfl, rfl⟩ := e
    simp only [if_true] at hzl
    simp only [Prod.mk.injEq] at hx
    have hp : p = MemPlace.row a zs.length := hx.2
    unfold maxLen at hcap
    refine ⟨some a, len, cap, zs.take len, rfl, ⟨by simp; omega, fun k hk => ⟨a, rfl, ?_, ?_⟩⟩, by omega, fun z hz => hwf z (List.mem_of_mem_take hz)⟩
    · have := hlt (.cell a.block (a.off + 0)) (by rw [hp]; exact MemPlace.mem_row.2 ⟨0, by omega, rfl⟩)
      simpa [MemPlace.block] using this
    · rw [hcell k (by omega)]
      simp [List.getD, hk]

theorem toInt64S_any (A : Option Addr) (n c : Nat) (zs : List Int) (w : World) (hr : RI w w.heap.size A n zs) (hn : n ≤ 1048576) :
    Calls Try.prog 33 #[.slice A n c] w fun e w' => e = .returned (.slice (some ⟨w.heap.size, 0, none⟩) n n) ∧ (w'.rowIs w.heap.size 2 n fun i => .int .i64 (zs.getD i 0)) ∧ Below w.heap.size w w' := by
  have hmk := fun (W : World) => run_make_row' (P := Try.prog) 22 2 (.int .i64 0) 8 Try.underlying22 int_info rfl .i64 .i64 n (by omega) (by omega) W
  have H0 := Lib.hid hr
  clear hr
  go_enter Try.func33, Try.ntmps33
  go_wp2
  clear hmk
  go_loopw [4] (fun i wr => ∃ k : Nat, k ≤ n ∧ i = .int .i64 k ∧ (wr.rowIs w.heap.size 2 n fun j => if j < k then .int .i64 (zs.getD j 0) else .int .i64 0) ∧ Below w.heap.size w wr) (fun i _ => n - (intOf i).toNat)
  case atStart =>
    exact ⟨0, by omega, rfl, (World.rowIs_made w _ n _).congr (fun i hi => by simp), (Below.refl _ _).alloc (Nat.le_refl _) _⟩
  case round =>
    obtain ⟨k, hk, rfl, hrow, hb⟩ := hrel
    by_cases hlt : k < n
    · obtain ⟨a, rfl, hab, hcell⟩ := H0.out.2 k hlt
      have hcell' : wr.cell? (a.add k) = some (.int .i64 (zs.getD k 0)) := (hb.cell (by rw [add_block]; exact hab)).trans hcell
      have hdst := hrow.cell hlt
      simp only [Nat.lt_irrefl, if_false] at hdst
      have hfz := hrow.frozen k
      clear hcell
      go_wp2
      go_roundw
      case rel =>
        refine ⟨k + 1, by omega, by go_num, (hrow.set k _).congr fun j hj => ?_, hb.setCell (Nat.le_refl _) _⟩
        by_cases h1 : j = k
        · subst h1; simp
        · by_cases h2 : j < k
          · simp [h1, h2, show j < k + 1 by omega]
          · simp [h1, h2, show ¬ j < k + 1 by omega]
      case measure => simp [intOf]; omega
    · obtain rfl : k = n := by omega
      go_wp2
      go_ret
      exact ⟨rfl, hrow.congr fun j hj => by simp [hj], hb⟩

theorem eqInt64S_same (A A' : Option Addr) (n c c' : Nat) (zs : List Int) (w : World) (B : Nat) (hr : RI w B A n zs) (hr' : RI w B A' n zs) (hn : n ≤ 9223372036854775807) :
    Calls Try.prog 22 #[.slice A n c, .slice A' n c'] w fun e w' => e = .returned (.bool true) ∧ ∃ m, w' = w.drewN m := by
  have H0 := Lib.hid hr
  have H1 := Lib.hid hr'
  clear hr hr'
  go_enter Try.func22, Try.ntmps22
  go_wp2
  go_loopw [5] (fun i wr => ∃ (k m : Nat), k ≤ n ∧ i = .int .i64 k ∧ wr = w.drewN m) (fun i _ => n - (intOf i).toNat)
  case atStart => exact ⟨0, 0, by omega, rfl, rfl⟩
  case round =>
    obtain ⟨k, m, hk, rfl, rfl⟩ := hrel
    by_cases hlt : k < n
    · obtain ⟨a, rfl, _, hcell⟩ := H0.out.2 k hlt
      obtain ⟨a', rfl, _, hcell'⟩ := H1.out.2 k hlt
      have hk0 : (0 : Int) ≤ (k : Int) := Int.natCast_nonneg _
      have hk1 : (k : Int) < (n : Int) := by omega
      go_wp2
      go_quiet (fail)
      go_wp2
      go_roundw
      case rel => exact ⟨k + 1, m + nq, by omega, by go_num, rfl⟩
      case measure => simp [intOf]; omega
    · obtain rfl : k = n := by omega
      go_wp2
      go_ret
      exact ⟨rfl, m, rfl⟩
end Go.Proofs.Ytncgkoanckefmaa
