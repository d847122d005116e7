/- Slices of pairs of int64 that a call has made: words. Conditions: stated at each theorem. -/
import Derived.Test.YtncgkoanckefmaaBrT
namespace Go.Proofs.Ytncgkoanckefmaa
open Go.ChangeShapes Go.WideShapes Go.ChangeAt Go.RowKit
set_option linter.unusedVariables false
set_option linter.unusedSimpArgs false

/-- The cells of a list of pairs, given by a function. -/
def pv (f : Nat → Int × Int) (j : Nat) : Value := .int .i64 (if j % 2 = 0 then (f (j / 2)).1 else (f (j / 2)).2)
/-- The block g holds n pairs, f 0, f 1, .. -/
def PRow (w : World) (g n : Nat) (f : Nat → Int × Int) : Prop := w.rowIs g 101 (n * 2) (pv f)
theorem pair_info : (Try.prog.info? 101).map (fun i => (i.zero, i.size, i.bytes)) = some (some (.agg #[.int .i64 0, .int .i64 0]), 2, 16) := by kernel_rfl
theorem make_pairs (kl kc : IntKind) (n : Nat) (hn : n ≤ 1048576) (w : World) :
    (Instr.makeSlice 98 (.int kl (n : Int)) (.int kc (n : Int))).run Try.prog w = .ok (.slice (some ⟨w.heap.size, 0, none⟩) n n) (w.alloc (.cells (madeCells #[.int .i64 0, .int .i64 0] (n * 2)) 101)) := by
  obtain ⟨i, hi, hzz⟩ := Option.map_eq_some_iff.1 pair_info
  simp only [Prod.mk.injEq] at hzz
  obtain ⟨hz, hs, hb⟩ := hzz
  have hr := run_make (P := Try.prog) w 98 101 i _ Try.underlying98 hi hz kl kc n n (by omega) (Int.le_refl _) (by rw [hb]; omega) (by omega)
  simp only [Int.toNat_natCast, hs] at hr
  exact hr
theorem PRow.made (w : World) (n : Nat) : PRow (w.alloc (.cells (madeCells #[.int .i64 0, .int .i64 0] (n * 2)) 101)) w.heap.size n (fun _ => (0, 0)) := by
  refine ⟨_, heap_alloc_new w _, size_madeCells _ _, fun i hi => ?_⟩
  rcases Nat.mod_two_eq_zero_or_one i with h | h <;> simp [madeCells, hi, pv, h]
theorem PRow.set {w : World} {g n i : Nat} {f : Nat → Int × Int} (h : PRow w g n f) (a b : Int) :
    PRow ((w.setCell ⟨g, i * 2, none⟩ (.int .i64 a)).setCell ⟨g, i * 2 + 1, none⟩ (.int .i64 b)) g n (fun k => if k = i then (a, b) else f k) := by
  refine ((World.rowIs.set h (i * 2) (.int .i64 a)).set (i * 2 + 1) (.int .i64 b)).congr fun j hj => ?_
  by_cases h1 : j = i * 2 + 1
  · subst h1
    have e1 : (i * 2 + 1) % 2 = 1 := by omega
    have e2 : (i * 2 + 1) / 2 = i := by omega
    simp [pv, e1, e2]
  · by_cases h2 : j = i * 2
    · subst h2
      have e1 : (i * 2) % 2 = 0 := by omega
      have e2 : (i * 2) / 2 = i := by omega
      simp [pv, e1, e2]
    · have e3 : j / 2 ≠ i := by omega
      simp [pv, h1, h2, e3]
theorem PRow.cells {w : World} {g n i : Nat} {f : Nat → Int × Int} (h : PRow w g n f) (hi : i < n) :
    w.cell? ⟨g, i * 2, none⟩ = some (.int .i64 (f i).1) ∧ w.cell? ⟨g, i * 2 + 1, none⟩ = some (.int .i64 (f i).2) ∧ w.frozen? ⟨g, i * 2, none⟩ = false ∧ w.frozen? ⟨g, i * 2 + 1, none⟩ = false := by
  refine ⟨?_, ?_, World.rowIs.frozen h _, World.rowIs.frozen h _⟩
  · have := World.rowIs.cell h (i := i * 2) (by omega)
    have e1 : (i * 2) % 2 = 0 := by omega
    have e2 : (i * 2) / 2 = i := by omega
    simpa [pv, e1, e2] using this
  · have := World.rowIs.cell h (i := i * 2 + 1) (by omega)
    have e1 : (i * 2 + 1) % 2 = 1 := by omega
    have e2 : (i * 2 + 1) / 2 = i := by omega
    simpa [pv, e1, e2] using this
theorem PRow.below {w w' : World} {g n : Nat} {f : Nat → Int × Int} (h : PRow w g n f) (hb : Below w.heap.size w w') : PRow w' g n f := World.rowIs.of_block h (hb.block g (World.rowIs.lt h))
theorem PRow.congr {w : World} {g n : Nat} {f f' : Nat → Int × Int} (h : PRow w g n f) (e : ∀ i, i < n → f i = f' i) : PRow w g n f' :=
  World.rowIs.congr h fun j hj => by unfold pv; rw [e (j / 2) (by omega)]
/-- The Puiseux pair with the index i. -/
def ppF (zs : List Int) (i : Nat) : Int × Int := ((zs[i + 1]?.getD 0).tdiv ((dvL 0 zs)[i + 1]?.getD 0), ((dvL 0 zs)[i]?.getD 0).tdiv ((dvL 0 zs)[i + 1]?.getD 0))
end Go.Proofs.Ytncgkoanckefmaa
