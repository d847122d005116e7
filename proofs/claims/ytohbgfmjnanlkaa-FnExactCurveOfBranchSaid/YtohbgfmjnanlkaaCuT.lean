/- IsCurve, the program's. Conditions: stated at each theorem. -/
import Derived.Test.YtohbgfmjnanlkaaCuQ
namespace Go.Proofs.Ytohbgfmjnanlkaa
open Go.ChangeShapes Go.WideShapes Go.ChangeAt Go.RowKit Go.Deep
set_option linter.unusedVariables false
set_option linter.unusedSimpArgs false

set_option maxRecDepth 100000 in
set_option maxHeartbeats 4000000 in
theorem implIsCurve_any (a b : Value) (Z M : List (List Int)) (w : World) (h : ReadU w w.heap.size a b Z M) (hi : CuIn Z M) :
    Calls Try.prog 33 #[.agg #[a, b]] w (AnsB w (cuB Z M)) := by
  obtain ⟨W0, HE⟩ : ∃ V, V = w.alloc (.cells #[a, b] 56) := ⟨_, rfl⟩
  have hb0 : Below w.heap.size w W0 := by rw [HE]; exact below_box2 _ _
  have hx : UBox W0 w.heap.size a b := by rw [HE]; exact UBox.new _ _ _ _
  have HEQ := Lib.hid HE; have B := Lib.hid hb0; have HI := Lib.hid hi
  have HU := Lib.hid ((h.below hb0).more hb0.size)
  have x0 := hx.c0; have x1 := hx.c1; have x4 := hx.lt
  clear hx HE hb0 hi h
  go_enter Try.func33, Try.ntmps33
  go_wp2_with fail
  rw [← HEQ.out]
  refine (meetings_any a b Z M Z.length W0 HU.out HI.out rfl).mono ?_
  rintro e w1 ⟨(⟨hc, rfl⟩ | ⟨hc, A, c, rfl, _⟩), hb1⟩
  · have R : Hid (false = cuB Z M) := Lib.hid hc.symm
    have HB1 := Lib.hid (B.out.trans (hb1.mono B.out.size))
    clear hc hb1 x0 x1 x4
    go_wp2_with fail
    go_ret
    exact ⟨ret_bool R.out, HB1.out.alloc (by have := HB1.out.size; omega) _⟩
  · have R : Hid (true = cuB Z M) := Lib.hid hc.symm
    have HB1 := Lib.hid (B.out.trans (hb1.mono B.out.size))
    clear hc hb1 x0 x1 x4
    go_wp2_with fail
    go_ret
    exact ⟨ret_bool R.out, HB1.out.alloc (by have := HB1.out.size; omega) _⟩

end Go.Proofs.Ytohbgfmjnanlkaa
