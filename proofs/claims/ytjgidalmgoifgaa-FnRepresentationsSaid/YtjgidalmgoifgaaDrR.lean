/- spec.DrawRepresentationOf: contract. Conditions: stated at the theorem. -/
import Derived.Test.YtjgidalmgoifgaaZE
namespace Go.Proofs.Ytjgidalmgoifgaa
open Go.ChangeShapes Go.WideShapes Go.ChangeAt Go.RowKit Go.Deep
set_option linter.unusedVariables false
set_option linter.unusedSimpArgs false

set_option maxRecDepth 100000 in
set_option maxHeartbeats 2000000 in
theorem DrawRepresentationOf_any (A : Option Addr) (n c : Nat) (w : World) (hr : RB w w.heap.size A n) (hn : n ≤ 9223372036854775807) :
    Calls Try.prog 51 #[.slice A n c] w (DrIPost (-1) 20001 w) := by
  have HR := Lib.hid hr
  clear hr
  obtain ⟨W0, HE⟩ : ∃ W, W = w.alloc (.cells #[.slice none 0 0] 26) := ⟨_, rfl⟩
  have hS0 : Start1 w W0 := by rw [HE]; exact Start1.new _
  have HB0 := Lib.hid hS0.below
  have HR0 := Lib.hid ((HR.out.below HB0.out).more HB0.out.size)
  have S0 := Lib.hid hS0
  have HEQ := Lib.hid HE
  have HSW := Lib.hid hS0.size
  have hwW : w.heap.size < W0.heap.size := by have := HSW.out; omega
  clear HR hS0 HE
  go_enter Try.func51, Try.ntmps51
  go_wp2_with fail
  rw [← HEQ.out]
  refine (DrawIsValue_any A n c W0 HR0.out hn).mono ?_
  rintro e w1 ⟨Ab, nb, cb, L, x, rfl, hr1, hge, hL, hx, hb1⟩
  have HB1 := Lib.hid (hb1.alloc hb1.size (.cells #[.slice Ab nb cb] 26))
  have HR1 : Hid (ReadI (w1.alloc (.cells #[.slice Ab nb cb] 26)) (w1.alloc (.cells #[.slice Ab nb cb] 26)).heap.size (.slice Ab nb cb) L) := Lib.hid (hr1.next (box_below _ _))
  have c1 : (w1.alloc (.cells #[.slice Ab nb cb] 26)).cell? ⟨w1.heap.size, 0, none⟩ = some (.slice Ab nb cb) := by go_simp
  have hz1 := hb1.size
  have HGE := Lib.hid hge
  have HSP := Lib.hid hL
  have hlw : w1.heap.size < (w1.alloc (.cells #[.slice Ab nb cb] 26)).heap.size := by simp
  obtain ⟨l2, l3, l4⟩ := S0.out.later HB1.out
  clear hr1 hge hL hb1
  have HR1 := Lib.hid HR1.out
  have HXX := Lib.hid hx
  clear hx
  go_wp2_with fail
  generalize w1.alloc (.cells #[.slice Ab nb cb] 26) = W2 at *
  have cr : (W2.setCell ⟨w.heap.size, 0, none⟩ (.slice Ab nb cb)).cell? ⟨w.heap.size, 0, none⟩ = some (.slice Ab nb cb) := by go_simp
  refine bodyPost_ret (v := .tuple #[.agg #[.slice Ab nb cb], .int .i64 x]) (by simp [results, Try.results51, go_sem, cr]) rfl ?_
  exact dri_end (HB0.out.trans (HB1.out.mono (by omega))) (fun a ha => by have := HGE.out a ha; omega) (read_set HR1.out (fun A' n' c' e a ha => by cases e; have := HGE.out a ha; show ¬ a.block = w.heap.size; omega)) HSP.out HXX.out
end Go.Proofs.Ytjgidalmgoifgaa
