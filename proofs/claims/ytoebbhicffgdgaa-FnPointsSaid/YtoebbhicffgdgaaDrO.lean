/- Draws of a branch and a number of points: contracts of spec.l06Number, spec.l06One, spec.DrawOrdersOf and the like. Conditions: stated at each theorem. -/
import Derived.Test.YtoebbhicffgdgaaZE
namespace Go.Proofs.Ytoebbhicffgdgaa
open Go.ChangeShapes Go.WideShapes Go.ChangeAt Go.RowKit Go.Deep
set_option linter.unusedVariables false
set_option linter.unusedSimpArgs false

def NumPost (w : World) (B g n : Nat) (e : Ending) (w' : World) : Prop :=
  ∃ x : Int, e = .returned (.int .i64 x) ∧ (0 ≤ x ∧ x ≤ 401) ∧ SrcOK w' B g n ∧ w.grownBy w' (some g)

set_option maxRecDepth 100000 in
set_option maxHeartbeats 2000000 in
theorem l06Number_any (B g n : Nat) (w : World) (hs : SrcOK w B g n) :
    Calls Try.prog 92 #[.pointer (some ⟨g, 0, none⟩)] w (NumPost w B g n) := by
  have HS0 := Lib.hid hs
  have hgl := hs.lt
  clear hs
  go_enter Try.func92, Try.ntmps92
  go_wp2_with fail
  refine (l01Next_any _ g n 6 w HS0.out (by omega)).mono ?_
  rintro e w1 ⟨y1, rfl, h1a, h1b, hs, hg⟩
  have HS1 := Lib.hid hs
  have HG1 := Lib.hid hg
  have hz1 := hg.size
  have hl1 := hs.lt
  have q1 : IntKind.i64.wrap (1 + y1) = 1 + y1 := IntWalk.i64_in _ (by omega)
  clear hs hg
  go_wp2_with fail
  refine (l01Next_any _ g n 12 w1 HS1.out (by omega)).mono ?_
  rintro e w2 ⟨y2, rfl, h2a, h2b, hs, hg⟩
  have HS2 := Lib.hid hs
  have HG2 := Lib.hid hg
  have hz2 := hg.size
  have hl2 := hs.lt
  have q2 : IntKind.i64.wrap (1 + y2) = 1 + y2 := IntWalk.i64_in _ (by omega)
  clear hs hg
  go_wp2_with fail
  refine (l01Next_any _ g n 40 w2 HS2.out (by omega)).mono ?_
  rintro e w3 ⟨y3, rfl, h3a, h3b, hs, hg⟩
  have HS3 := Lib.hid hs
  have HG3 := Lib.hid hg
  have hz3 := hg.size
  have hl3 := hs.lt
  have q3 : IntKind.i64.wrap (1 + y3) = 1 + y3 := IntWalk.i64_in _ (by omega)
  clear hs hg
  go_wp2_with fail
  refine (l01Next_any _ g n 12 w3 HS3.out (by omega)).mono ?_
  rintro e w4 ⟨y4, rfl, h4a, h4b, hs, hg⟩
  have HS4 := Lib.hid hs
  have HG4 := Lib.hid hg
  have hz4 := hg.size
  have hl4 := hs.lt
  have q4 : IntKind.i64.wrap (1 + y4) = 1 + y4 := IntWalk.i64_in _ (by omega)
  clear hs hg
  have HA := Lib.hid (newRI w4 [1 + y1, 1 + y2, 1 + y3, 400, 0, 401, 1 + y4] (by simp))
  go_wp2_with fail
  refine (l01Pick_any _ g n _ 7 7 [1 + y1, 1 + y2, 1 + y3, 400, 0, 401, 1 + y4] (w4.alloc (.cells #[.int .i64 (1 + y1), .int .i64 (1 + y2), .int .i64 (1 + y3), .int .i64 400, .int .i64 0, .int .i64 401, .int .i64 (1 + y4)] 2)) (HS4.out.alloc _) HA.out ?_ (by omega)).mono ?_
  · intro a ha; cases ha; show ¬ w4.heap.size = g; omega
  rintro e w5 ⟨x, rfl, hx, hs5, hg5⟩
  have hx2 : 0 ≤ x ∧ x ≤ 401 := by simp at hx; omega
  clear hx HA
  go_wp2_with fail
  go_ret
  exact ⟨x, rfl, hx2, hs5, grown_trans (grown_alloc (grown_trans (grown_trans (grown_trans HG1.out HG2.out) HG3.out) HG4.out) _) hg5⟩

set_option maxRecDepth 100000 in
set_option maxHeartbeats 2000000 in
theorem l06One_any (A : Option Addr) (n c : Nat) (w : World) (hr : RB w w.heap.size A n) (hn : n ≤ 9223372036854775807) :
    Calls Try.prog 61 #[.slice A n c] w (DrIPost 0 401 w) := by
  have HR := Lib.hid hr
  clear hr
  obtain ⟨W0, HE⟩ : ∃ W, W = w.alloc (.cells #[.slice none 0 0] 26) := ⟨_, rfl⟩
  have hS0 : Start1 w W0 := by rw [HE]; exact Start1.new _
  have HB0 := Lib.hid hS0.below
  have HR0 := Lib.hid ((HR.out.below HB0.out).more HB0.out.size)
  have S0 := Lib.hid hS0
  have HEQ := Lib.hid HE
  have HSW := Lib.hid hS0.size
  have hwW : w.heap.size < W0.heap.size := by have := HSW.out; omega
  clear HR hS0 HE
  go_enter Try.func61, Try.ntmps61
  go_wp2_with fail
  rw [← HEQ.out]
  refine (l01From_any A n c W0 HR0.out hn).mono ?_
  rintro e w1 ⟨g, rfl, hs1, hb1⟩
  have hgn : W0.heap.size ≤ g := hs1.new
  have HS1 := Lib.hid hs1
  have HB1 := Lib.hid hb1
  have hgl1 : g < w1.heap.size := hs1.lt
  clear hs1 hb1
  go_wp2_with fail
  refine (l03Spoil_any _ g n w1 HS1.out).mono ?_
  rintro e w2 ⟨Ab, nb, cb, L, rfl, hr2, hge, hL, hs2, hg2⟩
  have HB2 := Lib.hid (below_grown HB1.out hg2 hgn HB1.out.size)
  have HSP := Lib.hid hL
  have HR2 := Lib.hid hr2
  have HS2 := Lib.hid hs2
  have HGE := Lib.hid hge
  have hz1 := HB1.out.size
  have hz2 := hg2.size
  clear hr2 hge hL hs2 hg2
  go_wp2_with fail
  refine (l06Number_any _ g n w2 HS2.out).mono ?_
  rintro e w5 ⟨x, rfl, hx2, hs5, hg5⟩
  have HB5 := Lib.hid (below_grown HB2.out hg5 hgn HB2.out.size)
  have HR5 : Hid (ReadI w5 w2.heap.size (.slice Ab nb cb) L) := Lib.hid (read_src HR2.out hg5 (Nat.le_refl _) (fun a ha => by have := HGE.out a ha; omega))
  have hz5 : w2.heap.size ≤ w5.heap.size := hg5.size
  obtain ⟨l2, l3, l4⟩ := S0.out.later HB5.out
  clear hs5 hg5
  go_wp2_with fail
  have cr : (w5.setCell ⟨w.heap.size, 0, none⟩ (.slice Ab nb cb)).cell? ⟨w.heap.size, 0, none⟩ = some (.slice Ab nb cb) := by go_simp
  refine bodyPost_ret (v := .tuple #[.agg #[.slice Ab nb cb], .int .i64 x]) (by simp [results, Try.results61, go_sem, cr]) rfl ?_
  exact dri_end (HB0.out.trans (HB5.out.mono (by omega))) (fun a ha => by have := HGE.out a ha; omega) (read_set (HR5.out.more (by omega)) (fun A' n' c' e a ha => by cases e; have := HGE.out a ha; show ¬ a.block = w.heap.size; omega)) HSP.out hx2

set_option maxRecDepth 100000 in
set_option maxHeartbeats 2000000 in
theorem DrawOrdersOf_any (A : Option Addr) (n c : Nat) (w : World) (hr : RB w w.heap.size A n) (hn : n ≤ 9223372036854775807) :
    Calls Try.prog 18 #[.slice A n c] w (DrIPost 0 401 w) := by
  have HR := Lib.hid hr
  clear hr
  obtain ⟨W0, HE⟩ : ∃ W, W = w.alloc (.cells #[.slice none 0 0] 26) := ⟨_, rfl⟩
  have hS0 : Start1 w W0 := by rw [HE]; exact Start1.new _
  have HB0 := Lib.hid hS0.below
  have HR0 := Lib.hid ((HR.out.below HB0.out).more HB0.out.size)
  have S0 := Lib.hid hS0
  have HEQ := Lib.hid HE
  have HSW := Lib.hid hS0.size
  have hwW : w.heap.size < W0.heap.size := by have := HSW.out; omega
  clear HR hS0 HE
  go_enter Try.func18, Try.ntmps18
  go_wp2_with fail
  rw [← HEQ.out]
  refine (l06One_any A n c W0 HR0.out hn).mono ?_
  rintro e w1 ⟨Ab, nb, cb, L, x, rfl, hr1, hge, hL, hx, hb1⟩
  have HB1 := Lib.hid (hb1.alloc hb1.size (.cells #[.slice Ab nb cb] 26))
  have HR1 : Hid (ReadI (w1.alloc (.cells #[.slice Ab nb cb] 26)) (w1.alloc (.cells #[.slice Ab nb cb] 26)).heap.size (.slice Ab nb cb) L) := Lib.hid (hr1.next (box_below _ _))
  have c1 : (w1.alloc (.cells #[.slice Ab nb cb] 26)).cell? ⟨w1.heap.size, 0, none⟩ = some (.slice Ab nb cb) := by go_simp
  have hz1 := hb1.size
  have HGE := Lib.hid hge
  have HSP := Lib.hid hL
  have hlw : w1.heap.size < (w1.alloc (.cells #[.slice Ab nb cb] 26)).heap.size := by simp
  obtain ⟨l2, l3, l4⟩ := S0.out.later HB1.out
  clear hr1 hge hL hb1
  have HR1 := Lib.hid HR1.out
  have HXX := Lib.hid hx
  clear hx
  go_wp2_with fail
  generalize w1.alloc (.cells #[.slice Ab nb cb] 26) = W2 at *
  have cr : (W2.setCell ⟨w.heap.size, 0, none⟩ (.slice Ab nb cb)).cell? ⟨w.heap.size, 0, none⟩ = some (.slice Ab nb cb) := by go_simp
  refine bodyPost_ret (v := .tuple #[.agg #[.slice Ab nb cb], .int .i64 x]) (by simp [results, Try.results18, go_sem, cr]) rfl ?_
  exact dri_end (HB0.out.trans (HB1.out.mono (by omega))) (fun a ha => by have := HGE.out a ha; omega) (read_set HR1.out (fun A' n' c' e a ha => by cases e; have := HGE.out a ha; show ¬ a.block = w.heap.size; omega)) HSP.out HXX.out

end Go.Proofs.Ytoebbhicffgdgaa
