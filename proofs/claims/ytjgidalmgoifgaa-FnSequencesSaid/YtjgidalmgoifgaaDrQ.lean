/- spec.DrawLongSequence: contract. Conditions: stated at the theorem. -/
import Derived.Test.YtjgidalmgoifgaaZE
namespace Go.Proofs.Ytjgidalmgoifgaa
open Go.ChangeShapes Go.WideShapes Go.ChangeAt Go.RowKit Go.Deep
set_option linter.unusedVariables false
set_option linter.unusedSimpArgs false

set_option maxRecDepth 100000 in
set_option maxHeartbeats 2000000 in
theorem DrawLongSequence_any (A : Option Addr) (n c : Nat) (w : World) (hr : RB w w.heap.size A n) (hn : n ≤ 9223372036854775807) :
    Calls Try.prog 16 #[.slice A n c] w (DrIPost (-1) 401 w) := by
  have HR := Lib.hid hr
  clear hr
  obtain ⟨W0, HE⟩ : ∃ W, W = w.alloc (.cells #[.slice none 0 0] 26) := ⟨_, rfl⟩
  have hS0 : Start1 w W0 := by rw [HE]; exact Start1.new _
  have HB0 := Lib.hid hS0.below
  have HR0 := Lib.hid ((HR.out.below HB0.out).more HB0.out.size)
  have S0 := Lib.hid hS0
  have HEQ := Lib.hid HE
  have HSW := Lib.hid hS0.size
  have hwW : w.heap.size < W0.heap.size := by have := HSW.out; omega
  clear HR hS0 HE
  go_enter Try.func16, Try.ntmps16
  go_wp2_with fail
  rw [← HEQ.out]
  refine (l01From_any A n c W0 HR0.out hn).mono ?_
  rintro e w1 ⟨g, rfl, hs1, hb1⟩
  have hgn : W0.heap.size ≤ g := hs1.new
  have HS1 := Lib.hid hs1
  have HB1 := Lib.hid hb1
  have hgl1 : g < w1.heap.size := hs1.lt
  clear hs1 hb1
  go_wp2_with fail
  refine (l03Spoil_any _ g n w1 HS1.out).mono ?_
  rintro e w2 ⟨Ab, nb, cb, L, rfl, hr2, hge, hL, hs2, hg2⟩
  have HB2 := Lib.hid (below_grown HB1.out hg2 hgn HB1.out.size)
  have HSP := Lib.hid hL
  have HR2 := Lib.hid hr2
  have HS2 := Lib.hid hs2
  have HGE := Lib.hid hge
  have hz1 := HB1.out.size
  have hz2 := hg2.size
  clear hr2 hge hL hs2 hg2
  go_wp2_with fail
  refine (l01Next_any _ g n 6 w2 HS2.out (by omega)).mono ?_
  rintro e w3 ⟨y1, rfl, h1a, h1b, hs3, hg3⟩
  have HS3 := Lib.hid hs3
  have HB3 := Lib.hid (below_grown HB2.out hg3 hgn HB2.out.size)
  have HR3 : Hid (ReadI w3 w2.heap.size (.slice Ab nb cb) L) := Lib.hid (read_src HR2.out hg3 (Nat.le_refl _) (fun a ha => by have := HGE.out a ha; omega))
  have hz3 := hg3.size
  clear hs3 hg3
  go_wp2_with fail
  refine (l01Next_any _ g n 20 w3 HS3.out (by omega)).mono ?_
  rintro e w4 ⟨y2, rfl, h2a, h2b, hs4, hg4⟩
  have HS4 := Lib.hid hs4
  have HB4 := Lib.hid (below_grown HB3.out hg4 hgn HB3.out.size)
  have HR4 : Hid (ReadI w4 w2.heap.size (.slice Ab nb cb) L) := Lib.hid (read_src HR3.out hg4 hz3 (fun a ha => by have := HGE.out a ha; omega))
  have hz4 := hg4.size
  have hgl4 : g < w4.heap.size := hs4.lt
  have HA := Lib.hid (newRI w4 [y1, y2, 400, 401, -1, 390] (by simp))
  clear hs4 hg4
  go_wp2_with fail
  refine (l01Pick_any _ g n _ 6 6 [y1, y2, 400, 401, -1, 390] (w4.alloc (.cells #[.int .i64 y1, .int .i64 y2, .int .i64 400, .int .i64 401, .int .i64 (-1), .int .i64 390] 2)) (HS4.out.alloc _) HA.out ?_ (by omega)).mono ?_
  · intro a ha; cases ha; show ¬ w4.heap.size = g; omega
  rintro e w5 ⟨x, rfl, hx, hs5, hg5⟩
  have hx2 : -1 ≤ x ∧ x ≤ 401 := by simp at hx; omega
  have HB5 := Lib.hid (below_grown (HB4.out.alloc HB4.out.size (.cells #[.int .i64 y1, .int .i64 y2, .int .i64 400, .int .i64 401, .int .i64 (-1), .int .i64 390] 2)) hg5 hgn (by have := HB4.out.size; simp; omega))
  have HR5 : Hid (ReadI w5 w2.heap.size (.slice Ab nb cb) L) := Lib.hid (read_src (HR4.out.below ((below_box w4 (.cells #[.int .i64 y1, .int .i64 y2, .int .i64 400, .int .i64 401, .int .i64 (-1), .int .i64 390] 2)).mono (by omega))) hg5 (by simp; omega) (fun a ha => by have := HGE.out a ha; omega))
  have hz5 : w2.heap.size ≤ w5.heap.size := by have := hg5.size; simp at this; omega
  obtain ⟨l2, l3, l4⟩ := S0.out.later HB5.out
  clear hs5 hg5 hx HA
  go_wp2_with fail
  have cr : (w5.setCell ⟨w.heap.size, 0, none⟩ (.slice Ab nb cb)).cell? ⟨w.heap.size, 0, none⟩ = some (.slice Ab nb cb) := by go_simp
  refine bodyPost_ret (v := .tuple #[.agg #[.slice Ab nb cb], .int .i64 x]) (by simp [results, Try.results16, go_sem, cr]) rfl ?_
  exact dri_end (HB0.out.trans (HB5.out.mono (by omega))) (fun a ha => by have := HGE.out a ha; omega) (read_set (HR5.out.more (by omega)) (fun A' n' c' e a ha => by cases e; have := HGE.out a ha; show ¬ a.block = w.heap.size; omega)) HSP.out hx2
end Go.Proofs.Ytjgidalmgoifgaa
