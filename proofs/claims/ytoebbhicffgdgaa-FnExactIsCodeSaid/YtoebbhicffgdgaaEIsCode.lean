/- For all arguments, impl.IsCode answers as spec.IsCode does, leaves its arguments alone and answers in memory of its own: laws.FnExactIsCode returns true. No condition. -/
import Derived.Test.YtoebbhicffgdgaaPcS
import Derived.Test.YtoebbhicffgdgaaZA
import Derived.Test.YtoebbhicffgdgaaZB
namespace Go.Proofs.Ytoebbhicffgdgaa
open Go.ChangeShapes Go.WideShapes Go.ChangeAt Go.RowKit
set_option linter.unusedVariables false
set_option linter.unusedSimpArgs false

set_option maxHeartbeats 1000000 in
theorem FnExactIsCode_walk (w : World) (A0 : Option Addr) (n0 c0 : Nat) (z0 : List Int) (hr0 : RI w w.heap.size A0 n0 z0) (hn0 : n0 ≤ 9223372036854775807) (hw0 : ∀ z ∈ z0, (Lit.int .i64 z).wf = true) :
    Calls Try.prog 12 #[.slice A0 n0 c0] w fun e w' => e = .returned (.bool true) ∧ Below w.heap.size w w' := by
  obtain rfl : z0.length = n0 := hr0.1
  by_cases hb0 : 1048576 < z0.length
  · clear hr0 hw0
    go_enter Try.func12, Try.ntmps12
    go_wp2
    go_ret
    exact ⟨rfl, Below.refl _ _⟩
  have hq0 : z0.length ≤ 1048576 := by omega
  clear hb0 hn0
  have R0 : Hid (ReadW w w.heap.size (.slice A0 z0.length c0) z0) := Lib.hid (ReadW.mk' hr0)
  clear hr0
  have HW0 := Lib.hid hw0
  clear hw0
  have HS := fun (W : World) (v0 : Value) (h0 : ReadI W W.heap.size v0 z0) => hid_in (specIsCode_any v0 z0 W h0 hq0 HW0.out)
  have HI := fun (W : World) (v0 : Value) (h0 : ReadI W W.heap.size v0 z0) => hid_in (implIsCode_any v0 z0 W h0 hq0 HW0.out)
  generalize (isC z0) = K0 at *
  go_enter Try.func12, Try.ntmps12
  go_wp2_with fail
  refine (toI _ z0 w R0.out hq0).mono ?_
  rintro e w1 ⟨x1, rfl, ho, hb⟩
  have O1 := Lib.hid ho; clear ho
  have B1 := Lib.hid hb; have S1 : Hid (w.heap.size ≤ w1.heap.size) := Lib.hid (by exact hb.size); clear hb
  have C1 := Lib.hid B1.out
  go_wp2_with fail
  refine (hid_out (HS w1 x1 (O1.out.reads))).mono ?_
  rintro e w2 ⟨rfl, hb⟩
  have B2 := Lib.hid hb; have S2 : Hid (w1.heap.size ≤ w2.heap.size) := Lib.hid (by exact hb.size); clear hb
  have C2 := Lib.hid (C1.out.trans (B2.out.mono C1.out.size))
  go_wp2_with fail
  refine (toI _ z0 w2 ((R0.out.below C2.out).more C2.out.size) hq0).mono ?_
  rintro e w3 ⟨x3, rfl, ho, hb⟩
  have O3 := Lib.hid ho; clear ho
  have B3 := Lib.hid hb; have S3 : Hid (w2.heap.size ≤ w3.heap.size) := Lib.hid (by exact hb.size); clear hb
  have C3 := Lib.hid (C2.out.trans (B3.out.mono C2.out.size))
  go_wp2_with fail
  refine (hid_out (HI w3 x3 (O3.out.reads))).mono ?_
  rintro e w4 ⟨rfl, hb⟩
  have B4 := Lib.hid hb; have S4 : Hid (w3.heap.size ≤ w4.heap.size) := Lib.hid (by exact hb.size); clear hb
  have C4 := Lib.hid (C3.out.trans (B4.out.mono C3.out.size))
  go_wp2_with fail
  refine (toI _ z0 w4 ((R0.out.below C4.out).more C4.out.size) hq0).mono ?_
  rintro e w5 ⟨x5, rfl, ho, hb⟩
  have O5 := Lib.hid ho; clear ho
  have B5 := Lib.hid hb; have S5 : Hid (w4.heap.size ≤ w5.heap.size) := Lib.hid (by exact hb.size); clear hb
  have C5 := Lib.hid (C4.out.trans (B5.out.mono C4.out.size))
  go_wp2_with fail
  refine (eqI' _ _ z0 w5 w5.heap.size ((O3.out.kept (Kept.trans (Kept.of_below B4.out (by have s1 := S1.out; have s2 := S2.out; have s3 := S3.out; have s4 := S4.out; have s5 := S5.out; omega)) (Kept.of_below B5.out (by have s1 := S1.out; have s2 := S2.out; have s3 := S3.out; have s4 := S4.out; have s5 := S5.out; omega)))).reads) (O5.out.reads) (by omega)).mono ?_
  rintro e w6 ⟨rfl, hb⟩
  have B6 := Lib.hid hb; have S6 : Hid (w5.heap.size ≤ w6.heap.size) := Lib.hid (by exact hb.size); clear hb
  have C6 := Lib.hid (C5.out.trans (B6.out.mono C5.out.size))
  go_wp2_with fail
  go_ret
  exact ⟨rfl, C6.out⟩
end Go.Proofs.Ytoebbhicffgdgaa
