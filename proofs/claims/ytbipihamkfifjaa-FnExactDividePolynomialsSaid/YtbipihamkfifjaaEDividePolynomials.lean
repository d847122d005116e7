/- For all arguments, impl.DividePolynomials answers as spec.DividePolynomials does, leaves its arguments alone and answers in memory of its own: laws.FnExactDividePolynomials returns true. No condition. -/
import Derived.Test.YtbipihamkfifjaaDivide2
import Derived.Test.YtbipihamkfifjaaKeep
namespace Go.Proofs.Ytbipihamkfifjaa
open Go.ChangeShapes Go.WideShapes Go.ChangeAt Go.RowKit
set_option linter.unusedVariables false

theorem FnExactDividePolynomials_walk (w : World) (A0 : Option Addr) (n0 c0 : Nat) (z0 : List Int) (hr0 : RI w w.heap.size A0 n0 z0) (hn0 : n0 ≤ 9223372036854775807) (hw0 : ∀ z ∈ z0, (Lit.int .i64 z).wf = true) (A1 : Option Addr) (n1 c1 : Nat) (z1 : List Int) (hr1 : RI w w.heap.size A1 n1 z1) (hn1 : n1 ≤ 9223372036854775807) (hw1 : ∀ z ∈ z1, (Lit.int .i64 z).wf = true) :
    Calls Try.prog 10 #[.slice A0 n0 c0, .slice A1 n1 c1] w fun e w' => e = .returned (.bool true) ∧ Below w.heap.size w w' := by
  obtain rfl : z0.length = n0 := hr0.1
  obtain rfl : z1.length = n1 := hr1.1
  by_cases hb0 : 1048576 < z0.length
  · clear hr0 hw0 hr1 hw1
    go_enter Try.func10, Try.ntmps10
    go_wp2
    go_ret
    exact ⟨rfl, Below.refl _ _⟩
  by_cases hb1 : 1048576 < z1.length
  · clear hr0 hw0 hr1 hw1
    have hq0 : z0.length ≤ 1048576 := by omega
    go_enter Try.func10, Try.ntmps10
    go_wp2
    go_ret
    exact ⟨rfl, Below.refl _ _⟩
  have hq0 : z0.length ≤ 1048576 := by omega
  clear hb0 hn0
  have hq1 : z1.length ≤ 1048576 := by omega
  clear hb1 hn1
  have R0 : Hid (ReadW w w.heap.size (.slice A0 z0.length c0) z0) := Lib.hid (ReadW.mk' hr0)
  clear hr0
  have R1 : Hid (ReadW w w.heap.size (.slice A1 z1.length c1) z1) := Lib.hid (ReadW.mk' hr1)
  clear hr1
  have HW0 := Lib.hid hw0
  clear hw0
  have HW1 := Lib.hid hw1
  clear hw1
  have HS := fun (W : World) (v0 : Value) (v1 : Value) (h0 : ReadI W W.heap.size v0 z0) (h1 : ReadI W W.heap.size v1 z1) => hid_in (specDividePolynomials_any v0 z0 v1 z1 W h0 hq0 HW0.out h1 hq1 HW1.out)
  have HI := fun (W : World) (v0 : Value) (v1 : Value) (h0 : ReadI W W.heap.size v0 z0) (h1 : ReadI W W.heap.size v1 z1) => hid_in (implDividePolynomials_any v0 z0 v1 z1 W h0 hq0 HW0.out h1 hq1 HW1.out)
  have hl0 := (dvA_len z0 z1)
  generalize (dvA z0 z1) = L0 at *
  generalize (dvC z0 z1) = K1 at *
  go_enter Try.func10, Try.ntmps10
  go_wp2_with fail
  refine (toI _ z0 w R0.out hq0).mono ?_
  rintro e w1 ⟨x1, rfl, ho, hb⟩
  have O1 := Lib.hid ho; clear ho
  have B1 := Lib.hid hb; have S1 : Hid (w.heap.size ≤ w1.heap.size) := Lib.hid hb.size; clear hb
  have C1 := Lib.hid B1.out
  go_wp2_with fail
  refine (toI _ z1 w1 ((R1.out.below C1.out).more C1.out.size) hq1).mono ?_
  rintro e w2 ⟨x2, rfl, ho, hb⟩
  have O2 := Lib.hid ho; clear ho
  have B2 := Lib.hid hb; have S2 : Hid (w1.heap.size ≤ w2.heap.size) := Lib.hid hb.size; clear hb
  have C2 := Lib.hid (C1.out.trans (B2.out.mono C1.out.size))
  go_wp2_with fail
  refine (hid_out (HS w2 x1 x2 ((O1.out.kept (Kept.of_below B2.out (by have s1 := S1.out; have s2 := S2.out; omega))).reads) (O2.out.reads))).mono ?_
  rintro e w3 ⟨r3_0, rfl, ho0, hb⟩
  have O3_0 := Lib.hid ho0; clear ho0
  have B3 := Lib.hid hb; have S3 : Hid (w2.heap.size ≤ w3.heap.size) := Lib.hid hb.size; clear hb
  have C3 := Lib.hid (C2.out.trans (B3.out.mono C2.out.size))
  go_wp2_with fail
  refine (toI _ z0 w3 ((R0.out.below C3.out).more C3.out.size) hq0).mono ?_
  rintro e w4 ⟨x4, rfl, ho, hb⟩
  have O4 := Lib.hid ho; clear ho
  have B4 := Lib.hid hb; have S4 : Hid (w3.heap.size ≤ w4.heap.size) := Lib.hid hb.size; clear hb
  have C4 := Lib.hid (C3.out.trans (B4.out.mono C3.out.size))
  go_wp2_with fail
  refine (toI _ z1 w4 ((R1.out.below C4.out).more C4.out.size) hq1).mono ?_
  rintro e w5 ⟨x5, rfl, ho, hb⟩
  have O5 := Lib.hid ho; clear ho
  have B5 := Lib.hid hb; have S5 : Hid (w4.heap.size ≤ w5.heap.size) := Lib.hid hb.size; clear hb
  have C5 := Lib.hid (C4.out.trans (B5.out.mono C4.out.size))
  go_wp2_with fail
  refine (hid_out (HI w5 x4 x5 ((O4.out.kept (Kept.of_below B5.out (by have s1 := S1.out; have s2 := S2.out; have s3 := S3.out; have s4 := S4.out; have s5 := S5.out; omega))).reads) (O5.out.reads))).mono ?_
  rintro e w6 ⟨r6_0, rfl, ho0, hb⟩
  have O6_0 := Lib.hid ho0; clear ho0
  have B6 := Lib.hid hb; have S6 : Hid (w5.heap.size ≤ w6.heap.size) := Lib.hid hb.size; clear hb
  have C6 := Lib.hid (C5.out.trans (B6.out.mono C5.out.size))
  go_wp2_with fail
  refine (eqI' _ _ L0 w6 w6.heap.size (O6_0.out.reads) ((O3_0.out.kept (Kept.trans (Kept.trans (Kept.of_below B4.out (by have s1 := S1.out; have s2 := S2.out; have s3 := S3.out; have s4 := S4.out; have s5 := S5.out; have s6 := S6.out; omega)) (Kept.of_below B5.out (by have s1 := S1.out; have s2 := S2.out; have s3 := S3.out; have s4 := S4.out; have s5 := S5.out; have s6 := S6.out; omega))) (Kept.of_below B6.out (by have s1 := S1.out; have s2 := S2.out; have s3 := S3.out; have s4 := S4.out; have s5 := S5.out; have s6 := S6.out; omega)))).reads) (by omega)).mono ?_
  rintro e w7 ⟨rfl, hb⟩
  have B7 := Lib.hid hb; have S7 : Hid (w6.heap.size ≤ w7.heap.size) := Lib.hid hb.size; clear hb
  have C7 := Lib.hid (C6.out.trans (B7.out.mono C6.out.size))
  go_wp2_with fail
  refine (toI _ z0 w7 ((R0.out.below C7.out).more C7.out.size) hq0).mono ?_
  rintro e w8 ⟨x8, rfl, ho, hb⟩
  have O8 := Lib.hid ho; clear ho
  have B8 := Lib.hid hb; have S8 : Hid (w7.heap.size ≤ w8.heap.size) := Lib.hid hb.size; clear hb
  have C8 := Lib.hid (C7.out.trans (B8.out.mono C7.out.size))
  go_wp2_with fail
  refine (eqI' _ _ z0 w8 w8.heap.size ((O4.out.kept (Kept.trans (Kept.trans (Kept.trans (Kept.of_below B5.out (by have s1 := S1.out; have s2 := S2.out; have s3 := S3.out; have s4 := S4.out; have s5 := S5.out; have s6 := S6.out; have s7 := S7.out; have s8 := S8.out; omega)) (Kept.of_below B6.out (by have s1 := S1.out; have s2 := S2.out; have s3 := S3.out; have s4 := S4.out; have s5 := S5.out; have s6 := S6.out; have s7 := S7.out; have s8 := S8.out; omega))) (Kept.of_below B7.out (by have s1 := S1.out; have s2 := S2.out; have s3 := S3.out; have s4 := S4.out; have s5 := S5.out; have s6 := S6.out; have s7 := S7.out; have s8 := S8.out; omega))) (Kept.of_below B8.out (by have s1 := S1.out; have s2 := S2.out; have s3 := S3.out; have s4 := S4.out; have s5 := S5.out; have s6 := S6.out; have s7 := S7.out; have s8 := S8.out; omega)))).reads) (O8.out.reads) (by omega)).mono ?_
  rintro e w9 ⟨rfl, hb⟩
  have B9 := Lib.hid hb; have S9 : Hid (w8.heap.size ≤ w9.heap.size) := Lib.hid hb.size; clear hb
  have C9 := Lib.hid (C8.out.trans (B9.out.mono C8.out.size))
  go_wp2_with fail
  refine (toI _ z1 w9 ((R1.out.below C9.out).more C9.out.size) hq1).mono ?_
  rintro e w10 ⟨x10, rfl, ho, hb⟩
  have O10 := Lib.hid ho; clear ho
  have B10 := Lib.hid hb; have S10 : Hid (w9.heap.size ≤ w10.heap.size) := Lib.hid hb.size; clear hb
  have C10 := Lib.hid (C9.out.trans (B10.out.mono C9.out.size))
  go_wp2_with fail
  refine (eqI' _ _ z1 w10 w10.heap.size ((O5.out.kept (Kept.trans (Kept.trans (Kept.trans (Kept.trans (Kept.of_below B6.out (by have s1 := S1.out; have s2 := S2.out; have s3 := S3.out; have s4 := S4.out; have s5 := S5.out; have s6 := S6.out; have s7 := S7.out; have s8 := S8.out; have s9 := S9.out; have s10 := S10.out; omega)) (Kept.of_below B7.out (by have s1 := S1.out; have s2 := S2.out; have s3 := S3.out; have s4 := S4.out; have s5 := S5.out; have s6 := S6.out; have s7 := S7.out; have s8 := S8.out; have s9 := S9.out; have s10 := S10.out; omega))) (Kept.of_below B8.out (by have s1 := S1.out; have s2 := S2.out; have s3 := S3.out; have s4 := S4.out; have s5 := S5.out; have s6 := S6.out; have s7 := S7.out; have s8 := S8.out; have s9 := S9.out; have s10 := S10.out; omega))) (Kept.of_below B9.out (by have s1 := S1.out; have s2 := S2.out; have s3 := S3.out; have s4 := S4.out; have s5 := S5.out; have s6 := S6.out; have s7 := S7.out; have s8 := S8.out; have s9 := S9.out; have s10 := S10.out; omega))) (Kept.of_below B10.out (by have s1 := S1.out; have s2 := S2.out; have s3 := S3.out; have s4 := S4.out; have s5 := S5.out; have s6 := S6.out; have s7 := S7.out; have s8 := S8.out; have s9 := S9.out; have s10 := S10.out; omega)))).reads) (O10.out.reads) (by omega)).mono ?_
  rintro e w11 ⟨rfl, hb⟩
  have B11 := Lib.hid hb; have S11 : Hid (w10.heap.size ≤ w11.heap.size) := Lib.hid hb.size; clear hb
  have C11 := Lib.hid (C10.out.trans (B11.out.mono C10.out.size))
  go_wp2_with fail
  refine (markI' _ _ _ z0 1 w11 ((O4.out.kept (Kept.trans (Kept.trans (Kept.trans (Kept.trans (Kept.trans (Kept.trans (Kept.of_below B5.out (by have s1 := S1.out; have s2 := S2.out; have s3 := S3.out; have s4 := S4.out; have s5 := S5.out; have s6 := S6.out; have s7 := S7.out; have s8 := S8.out; have s9 := S9.out; have s10 := S10.out; have s11 := S11.out; omega)) (Kept.of_below B6.out (by have s1 := S1.out; have s2 := S2.out; have s3 := S3.out; have s4 := S4.out; have s5 := S5.out; have s6 := S6.out; have s7 := S7.out; have s8 := S8.out; have s9 := S9.out; have s10 := S10.out; have s11 := S11.out; omega))) (Kept.of_below B7.out (by have s1 := S1.out; have s2 := S2.out; have s3 := S3.out; have s4 := S4.out; have s5 := S5.out; have s6 := S6.out; have s7 := S7.out; have s8 := S8.out; have s9 := S9.out; have s10 := S10.out; have s11 := S11.out; omega))) (Kept.of_below B8.out (by have s1 := S1.out; have s2 := S2.out; have s3 := S3.out; have s4 := S4.out; have s5 := S5.out; have s6 := S6.out; have s7 := S7.out; have s8 := S8.out; have s9 := S9.out; have s10 := S10.out; have s11 := S11.out; omega))) (Kept.of_below B9.out (by have s1 := S1.out; have s2 := S2.out; have s3 := S3.out; have s4 := S4.out; have s5 := S5.out; have s6 := S6.out; have s7 := S7.out; have s8 := S8.out; have s9 := S9.out; have s10 := S10.out; have s11 := S11.out; omega))) (Kept.of_below B10.out (by have s1 := S1.out; have s2 := S2.out; have s3 := S3.out; have s4 := S4.out; have s5 := S5.out; have s6 := S6.out; have s7 := S7.out; have s8 := S8.out; have s9 := S9.out; have s10 := S10.out; have s11 := S11.out; omega))) (Kept.of_below B11.out (by have s1 := S1.out; have s2 := S2.out; have s3 := S3.out; have s4 := S4.out; have s5 := S5.out; have s6 := S6.out; have s7 := S7.out; have s8 := S8.out; have s9 := S9.out; have s10 := S10.out; have s11 := S11.out; omega))))) (by omega) (by omega)).mono ?_
  rintro e w12 ⟨rfl, hm, hb⟩
  have M12 := Lib.hid hm; clear hm
  have B12 := Lib.hid hb; have S12 : Hid (w11.heap.size ≤ w12.heap.size) := Lib.hid hb.size; clear hb
  have C12 := Lib.hid (C11.out.trans (Only.below B12.out (by have s1 := S1.out; have s2 := S2.out; have s3 := S3.out; have s4 := S4.out; have s5 := S5.out; have s6 := S6.out; have s7 := S7.out; have s8 := S8.out; have s9 := S9.out; have s10 := S10.out; have s11 := S11.out; have s12 := S12.out; omega) C11.out.size))
  go_wp2_with fail
  refine (markI' _ _ _ z1 (1 + (z0.length : Int)) w12 ((O5.out.kept (Kept.trans (Kept.trans (Kept.trans (Kept.trans (Kept.trans (Kept.trans (Kept.of_below B6.out (by have s1 := S1.out; have s2 := S2.out; have s3 := S3.out; have s4 := S4.out; have s5 := S5.out; have s6 := S6.out; have s7 := S7.out; have s8 := S8.out; have s9 := S9.out; have s10 := S10.out; have s11 := S11.out; have s12 := S12.out; omega)) (Kept.of_below B7.out (by have s1 := S1.out; have s2 := S2.out; have s3 := S3.out; have s4 := S4.out; have s5 := S5.out; have s6 := S6.out; have s7 := S7.out; have s8 := S8.out; have s9 := S9.out; have s10 := S10.out; have s11 := S11.out; have s12 := S12.out; omega))) (Kept.of_below B8.out (by have s1 := S1.out; have s2 := S2.out; have s3 := S3.out; have s4 := S4.out; have s5 := S5.out; have s6 := S6.out; have s7 := S7.out; have s8 := S8.out; have s9 := S9.out; have s10 := S10.out; have s11 := S11.out; have s12 := S12.out; omega))) (Kept.of_below B9.out (by have s1 := S1.out; have s2 := S2.out; have s3 := S3.out; have s4 := S4.out; have s5 := S5.out; have s6 := S6.out; have s7 := S7.out; have s8 := S8.out; have s9 := S9.out; have s10 := S10.out; have s11 := S11.out; have s12 := S12.out; omega))) (Kept.of_below B10.out (by have s1 := S1.out; have s2 := S2.out; have s3 := S3.out; have s4 := S4.out; have s5 := S5.out; have s6 := S6.out; have s7 := S7.out; have s8 := S8.out; have s9 := S9.out; have s10 := S10.out; have s11 := S11.out; have s12 := S12.out; omega))) (Kept.of_below B11.out (by have s1 := S1.out; have s2 := S2.out; have s3 := S3.out; have s4 := S4.out; have s5 := S5.out; have s6 := S6.out; have s7 := S7.out; have s8 := S8.out; have s9 := S9.out; have s10 := S10.out; have s11 := S11.out; have s12 := S12.out; omega))) (Only.kept B12.out (by have s1 := S1.out; have s2 := S2.out; have s3 := S3.out; have s4 := S4.out; have s5 := S5.out; have s6 := S6.out; have s7 := S7.out; have s8 := S8.out; have s9 := S9.out; have s10 := S10.out; have s11 := S11.out; have s12 := S12.out; omega) (by have s1 := S1.out; have s2 := S2.out; have s3 := S3.out; have s4 := S4.out; have s5 := S5.out; have s6 := S6.out; have s7 := S7.out; have s8 := S8.out; have s9 := S9.out; have s10 := S10.out; have s11 := S11.out; have s12 := S12.out; omega))))) (by omega) (by omega)).mono ?_
  rintro e w13 ⟨rfl, hm, hb⟩
  have M13 := Lib.hid hm; clear hm
  have B13 := Lib.hid hb; have S13 : Hid (w12.heap.size ≤ w13.heap.size) := Lib.hid hb.size; clear hb
  have C13 := Lib.hid (C12.out.trans (Only.below B13.out (by have s1 := S1.out; have s2 := S2.out; have s3 := S3.out; have s4 := S4.out; have s5 := S5.out; have s6 := S6.out; have s7 := S7.out; have s8 := S8.out; have s9 := S9.out; have s10 := S10.out; have s11 := S11.out; have s12 := S12.out; have s13 := S13.out; omega) C12.out.size))
  go_wp2_with fail
  refine (eqI' _ _ L0 w13 w13.heap.size ((O6_0.out.kept (Kept.trans (Kept.trans (Kept.trans (Kept.trans (Kept.trans (Kept.trans (Kept.of_below B7.out (by have s1 := S1.out; have s2 := S2.out; have s3 := S3.out; have s4 := S4.out; have s5 := S5.out; have s6 := S6.out; have s7 := S7.out; have s8 := S8.out; have s9 := S9.out; have s10 := S10.out; have s11 := S11.out; have s12 := S12.out; have s13 := S13.out; omega)) (Kept.of_below B8.out (by have s1 := S1.out; have s2 := S2.out; have s3 := S3.out; have s4 := S4.out; have s5 := S5.out; have s6 := S6.out; have s7 := S7.out; have s8 := S8.out; have s9 := S9.out; have s10 := S10.out; have s11 := S11.out; have s12 := S12.out; have s13 := S13.out; omega))) (Kept.of_below B9.out (by have s1 := S1.out; have s2 := S2.out; have s3 := S3.out; have s4 := S4.out; have s5 := S5.out; have s6 := S6.out; have s7 := S7.out; have s8 := S8.out; have s9 := S9.out; have s10 := S10.out; have s11 := S11.out; have s12 := S12.out; have s13 := S13.out; omega))) (Kept.of_below B10.out (by have s1 := S1.out; have s2 := S2.out; have s3 := S3.out; have s4 := S4.out; have s5 := S5.out; have s6 := S6.out; have s7 := S7.out; have s8 := S8.out; have s9 := S9.out; have s10 := S10.out; have s11 := S11.out; have s12 := S12.out; have s13 := S13.out; omega))) (Kept.of_below B11.out (by have s1 := S1.out; have s2 := S2.out; have s3 := S3.out; have s4 := S4.out; have s5 := S5.out; have s6 := S6.out; have s7 := S7.out; have s8 := S8.out; have s9 := S9.out; have s10 := S10.out; have s11 := S11.out; have s12 := S12.out; have s13 := S13.out; omega))) (Only.kept B12.out (by have s1 := S1.out; have s2 := S2.out; have s3 := S3.out; have s4 := S4.out; have s5 := S5.out; have s6 := S6.out; have s7 := S7.out; have s8 := S8.out; have s9 := S9.out; have s10 := S10.out; have s11 := S11.out; have s12 := S12.out; have s13 := S13.out; omega) (by have s1 := S1.out; have s2 := S2.out; have s3 := S3.out; have s4 := S4.out; have s5 := S5.out; have s6 := S6.out; have s7 := S7.out; have s8 := S8.out; have s9 := S9.out; have s10 := S10.out; have s11 := S11.out; have s12 := S12.out; have s13 := S13.out; omega))) (Only.kept B13.out (by have s1 := S1.out; have s2 := S2.out; have s3 := S3.out; have s4 := S4.out; have s5 := S5.out; have s6 := S6.out; have s7 := S7.out; have s8 := S8.out; have s9 := S9.out; have s10 := S10.out; have s11 := S11.out; have s12 := S12.out; have s13 := S13.out; omega) (by have s1 := S1.out; have s2 := S2.out; have s3 := S3.out; have s4 := S4.out; have s5 := S5.out; have s6 := S6.out; have s7 := S7.out; have s8 := S8.out; have s9 := S9.out; have s10 := S10.out; have s11 := S11.out; have s12 := S12.out; have s13 := S13.out; omega)))).reads) ((O3_0.out.kept (Kept.trans (Kept.trans (Kept.trans (Kept.trans (Kept.trans (Kept.trans (Kept.trans (Kept.trans (Kept.trans (Kept.of_below B4.out (by have s1 := S1.out; have s2 := S2.out; have s3 := S3.out; have s4 := S4.out; have s5 := S5.out; have s6 := S6.out; have s7 := S7.out; have s8 := S8.out; have s9 := S9.out; have s10 := S10.out; have s11 := S11.out; have s12 := S12.out; have s13 := S13.out; omega)) (Kept.of_below B5.out (by have s1 := S1.out; have s2 := S2.out; have s3 := S3.out; have s4 := S4.out; have s5 := S5.out; have s6 := S6.out; have s7 := S7.out; have s8 := S8.out; have s9 := S9.out; have s10 := S10.out; have s11 := S11.out; have s12 := S12.out; have s13 := S13.out; omega))) (Kept.of_below B6.out (by have s1 := S1.out; have s2 := S2.out; have s3 := S3.out; have s4 := S4.out; have s5 := S5.out; have s6 := S6.out; have s7 := S7.out; have s8 := S8.out; have s9 := S9.out; have s10 := S10.out; have s11 := S11.out; have s12 := S12.out; have s13 := S13.out; omega))) (Kept.of_below B7.out (by have s1 := S1.out; have s2 := S2.out; have s3 := S3.out; have s4 := S4.out; have s5 := S5.out; have s6 := S6.out; have s7 := S7.out; have s8 := S8.out; have s9 := S9.out; have s10 := S10.out; have s11 := S11.out; have s12 := S12.out; have s13 := S13.out; omega))) (Kept.of_below B8.out (by have s1 := S1.out; have s2 := S2.out; have s3 := S3.out; have s4 := S4.out; have s5 := S5.out; have s6 := S6.out; have s7 := S7.out; have s8 := S8.out; have s9 := S9.out; have s10 := S10.out; have s11 := S11.out; have s12 := S12.out; have s13 := S13.out; omega))) (Kept.of_below B9.out (by have s1 := S1.out; have s2 := S2.out; have s3 := S3.out; have s4 := S4.out; have s5 := S5.out; have s6 := S6.out; have s7 := S7.out; have s8 := S8.out; have s9 := S9.out; have s10 := S10.out; have s11 := S11.out; have s12 := S12.out; have s13 := S13.out; omega))) (Kept.of_below B10.out (by have s1 := S1.out; have s2 := S2.out; have s3 := S3.out; have s4 := S4.out; have s5 := S5.out; have s6 := S6.out; have s7 := S7.out; have s8 := S8.out; have s9 := S9.out; have s10 := S10.out; have s11 := S11.out; have s12 := S12.out; have s13 := S13.out; omega))) (Kept.of_below B11.out (by have s1 := S1.out; have s2 := S2.out; have s3 := S3.out; have s4 := S4.out; have s5 := S5.out; have s6 := S6.out; have s7 := S7.out; have s8 := S8.out; have s9 := S9.out; have s10 := S10.out; have s11 := S11.out; have s12 := S12.out; have s13 := S13.out; omega))) (Only.kept B12.out (by have s1 := S1.out; have s2 := S2.out; have s3 := S3.out; have s4 := S4.out; have s5 := S5.out; have s6 := S6.out; have s7 := S7.out; have s8 := S8.out; have s9 := S9.out; have s10 := S10.out; have s11 := S11.out; have s12 := S12.out; have s13 := S13.out; omega) (by have s1 := S1.out; have s2 := S2.out; have s3 := S3.out; have s4 := S4.out; have s5 := S5.out; have s6 := S6.out; have s7 := S7.out; have s8 := S8.out; have s9 := S9.out; have s10 := S10.out; have s11 := S11.out; have s12 := S12.out; have s13 := S13.out; omega))) (Only.kept B13.out (by have s1 := S1.out; have s2 := S2.out; have s3 := S3.out; have s4 := S4.out; have s5 := S5.out; have s6 := S6.out; have s7 := S7.out; have s8 := S8.out; have s9 := S9.out; have s10 := S10.out; have s11 := S11.out; have s12 := S12.out; have s13 := S13.out; omega) (by have s1 := S1.out; have s2 := S2.out; have s3 := S3.out; have s4 := S4.out; have s5 := S5.out; have s6 := S6.out; have s7 := S7.out; have s8 := S8.out; have s9 := S9.out; have s10 := S10.out; have s11 := S11.out; have s12 := S12.out; have s13 := S13.out; omega)))).reads) (by omega)).mono ?_
  rintro e w14 ⟨rfl, hb⟩
  have B14 := Lib.hid hb; have S14 : Hid (w13.heap.size ≤ w14.heap.size) := Lib.hid hb.size; clear hb
  have C14 := Lib.hid (C13.out.trans (B14.out.mono C13.out.size))
  go_wp2_with fail
  refine (markI' _ _ _ L0 1 w14 ((O6_0.out.kept (Kept.trans (Kept.trans (Kept.trans (Kept.trans (Kept.trans (Kept.trans (Kept.trans (Kept.of_below B7.out (by have s1 := S1.out; have s2 := S2.out; have s3 := S3.out; have s4 := S4.out; have s5 := S5.out; have s6 := S6.out; have s7 := S7.out; have s8 := S8.out; have s9 := S9.out; have s10 := S10.out; have s11 := S11.out; have s12 := S12.out; have s13 := S13.out; have s14 := S14.out; omega)) (Kept.of_below B8.out (by have s1 := S1.out; have s2 := S2.out; have s3 := S3.out; have s4 := S4.out; have s5 := S5.out; have s6 := S6.out; have s7 := S7.out; have s8 := S8.out; have s9 := S9.out; have s10 := S10.out; have s11 := S11.out; have s12 := S12.out; have s13 := S13.out; have s14 := S14.out; omega))) (Kept.of_below B9.out (by have s1 := S1.out; have s2 := S2.out; have s3 := S3.out; have s4 := S4.out; have s5 := S5.out; have s6 := S6.out; have s7 := S7.out; have s8 := S8.out; have s9 := S9.out; have s10 := S10.out; have s11 := S11.out; have s12 := S12.out; have s13 := S13.out; have s14 := S14.out; omega))) (Kept.of_below B10.out (by have s1 := S1.out; have s2 := S2.out; have s3 := S3.out; have s4 := S4.out; have s5 := S5.out; have s6 := S6.out; have s7 := S7.out; have s8 := S8.out; have s9 := S9.out; have s10 := S10.out; have s11 := S11.out; have s12 := S12.out; have s13 := S13.out; have s14 := S14.out; omega))) (Kept.of_below B11.out (by have s1 := S1.out; have s2 := S2.out; have s3 := S3.out; have s4 := S4.out; have s5 := S5.out; have s6 := S6.out; have s7 := S7.out; have s8 := S8.out; have s9 := S9.out; have s10 := S10.out; have s11 := S11.out; have s12 := S12.out; have s13 := S13.out; have s14 := S14.out; omega))) (Only.kept B12.out (by have s1 := S1.out; have s2 := S2.out; have s3 := S3.out; have s4 := S4.out; have s5 := S5.out; have s6 := S6.out; have s7 := S7.out; have s8 := S8.out; have s9 := S9.out; have s10 := S10.out; have s11 := S11.out; have s12 := S12.out; have s13 := S13.out; have s14 := S14.out; omega) (by have s1 := S1.out; have s2 := S2.out; have s3 := S3.out; have s4 := S4.out; have s5 := S5.out; have s6 := S6.out; have s7 := S7.out; have s8 := S8.out; have s9 := S9.out; have s10 := S10.out; have s11 := S11.out; have s12 := S12.out; have s13 := S13.out; have s14 := S14.out; omega))) (Only.kept B13.out (by have s1 := S1.out; have s2 := S2.out; have s3 := S3.out; have s4 := S4.out; have s5 := S5.out; have s6 := S6.out; have s7 := S7.out; have s8 := S8.out; have s9 := S9.out; have s10 := S10.out; have s11 := S11.out; have s12 := S12.out; have s13 := S13.out; have s14 := S14.out; omega) (by have s1 := S1.out; have s2 := S2.out; have s3 := S3.out; have s4 := S4.out; have s5 := S5.out; have s6 := S6.out; have s7 := S7.out; have s8 := S8.out; have s9 := S9.out; have s10 := S10.out; have s11 := S11.out; have s12 := S12.out; have s13 := S13.out; have s14 := S14.out; omega))) (Kept.of_below B14.out (by have s1 := S1.out; have s2 := S2.out; have s3 := S3.out; have s4 := S4.out; have s5 := S5.out; have s6 := S6.out; have s7 := S7.out; have s8 := S8.out; have s9 := S9.out; have s10 := S10.out; have s11 := S11.out; have s12 := S12.out; have s13 := S13.out; have s14 := S14.out; omega))))) (by omega) (by omega)).mono ?_
  rintro e w15 ⟨rfl, hm, hb⟩
  have M15 := Lib.hid hm; clear hm
  have B15 := Lib.hid hb; have S15 : Hid (w14.heap.size ≤ w15.heap.size) := Lib.hid hb.size; clear hb
  have C15 := Lib.hid (C14.out.trans (Only.below B15.out (by have s1 := S1.out; have s2 := S2.out; have s3 := S3.out; have s4 := S4.out; have s5 := S5.out; have s6 := S6.out; have s7 := S7.out; have s8 := S8.out; have s9 := S9.out; have s10 := S10.out; have s11 := S11.out; have s12 := S12.out; have s13 := S13.out; have s14 := S14.out; have s15 := S15.out; omega) C14.out.size))
  go_wp2_with fail
  refine (heldI' _ _ _ L0.length 1 w15 (M15.out) (by omega) (by omega)).mono ?_
  rintro e w' ⟨rfl, rfl⟩
  go_wp2_with fail
  refine (toI _ z0 w15 ((R0.out.below C15.out).more C15.out.size) hq0).mono ?_
  rintro e w16 ⟨x16, rfl, ho, hb⟩
  have O16 := Lib.hid ho; clear ho
  have B16 := Lib.hid hb; have S16 : Hid (w15.heap.size ≤ w16.heap.size) := Lib.hid hb.size; clear hb
  have C16 := Lib.hid (C15.out.trans (B16.out.mono C15.out.size))
  go_wp2_with fail
  refine (toI _ z1 w16 ((R1.out.below C16.out).more C16.out.size) hq1).mono ?_
  rintro e w17 ⟨x17, rfl, ho, hb⟩
  have O17 := Lib.hid ho; clear ho
  have B17 := Lib.hid hb; have S17 : Hid (w16.heap.size ≤ w17.heap.size) := Lib.hid hb.size; clear hb
  have C17 := Lib.hid (C16.out.trans (B17.out.mono C16.out.size))
  go_wp2_with fail
  refine (hid_out (HI w17 x16 x17 ((O16.out.kept (Kept.of_below B17.out (by have s1 := S1.out; have s2 := S2.out; have s3 := S3.out; have s4 := S4.out; have s5 := S5.out; have s6 := S6.out; have s7 := S7.out; have s8 := S8.out; have s9 := S9.out; have s10 := S10.out; have s11 := S11.out; have s12 := S12.out; have s13 := S13.out; have s14 := S14.out; have s15 := S15.out; have s16 := S16.out; have s17 := S17.out; omega))).reads) (O17.out.reads))).mono ?_
  rintro e w18 ⟨r18_0, rfl, ho0, hb⟩
  have O18_0 := Lib.hid ho0; clear ho0
  have B18 := Lib.hid hb; have S18 : Hid (w17.heap.size ≤ w18.heap.size) := Lib.hid hb.size; clear hb
  have C18 := Lib.hid (C17.out.trans (B18.out.mono C17.out.size))
  go_wp2_with fail
  refine (eqI' _ _ L0 w18 w18.heap.size (O18_0.out.reads) ((O3_0.out.kept (Kept.trans (Kept.trans (Kept.trans (Kept.trans (Kept.trans (Kept.trans (Kept.trans (Kept.trans (Kept.trans (Kept.trans (Kept.trans (Kept.trans (Kept.trans (Kept.trans (Kept.of_below B4.out (by have s1 := S1.out; have s2 := S2.out; have s3 := S3.out; have s4 := S4.out; have s5 := S5.out; have s6 := S6.out; have s7 := S7.out; have s8 := S8.out; have s9 := S9.out; have s10 := S10.out; have s11 := S11.out; have s12 := S12.out; have s13 := S13.out; have s14 := S14.out; have s15 := S15.out; have s16 := S16.out; have s17 := S17.out; have s18 := S18.out; omega)) (Kept.of_below B5.out (by have s1 := S1.out; have s2 := S2.out; have s3 := S3.out; have s4 := S4.out; have s5 := S5.out; have s6 := S6.out; have s7 := S7.out; have s8 := S8.out; have s9 := S9.out; have s10 := S10.out; have s11 := S11.out; have s12 := S12.out; have s13 := S13.out; have s14 := S14.out; have s15 := S15.out; have s16 := S16.out; have s17 := S17.out; have s18 := S18.out; omega))) (Kept.of_below B6.out (by have s1 := S1.out; have s2 := S2.out; have s3 := S3.out; have s4 := S4.out; have s5 := S5.out; have s6 := S6.out; have s7 := S7.out; have s8 := S8.out; have s9 := S9.out; have s10 := S10.out; have s11 := S11.out; have s12 := S12.out; have s13 := S13.out; have s14 := S14.out; have s15 := S15.out; have s16 := S16.out; have s17 := S17.out; have s18 := S18.out; omega))) (Kept.of_below B7.out (by have s1 := S1.out; have s2 := S2.out; have s3 := S3.out; have s4 := S4.out; have s5 := S5.out; have s6 := S6.out; have s7 := S7.out; have s8 := S8.out; have s9 := S9.out; have s10 := S10.out; have s11 := S11.out; have s12 := S12.out; have s13 := S13.out; have s14 := S14.out; have s15 := S15.out; have s16 := S16.out; have s17 := S17.out; have s18 := S18.out; omega))) (Kept.of_below B8.out (by have s1 := S1.out; have s2 := S2.out; have s3 := S3.out; have s4 := S4.out; have s5 := S5.out; have s6 := S6.out; have s7 := S7.out; have s8 := S8.out; have s9 := S9.out; have s10 := S10.out; have s11 := S11.out; have s12 := S12.out; have s13 := S13.out; have s14 := S14.out; have s15 := S15.out; have s16 := S16.out; have s17 := S17.out; have s18 := S18.out; omega))) (Kept.of_below B9.out (by have s1 := S1.out; have s2 := S2.out; have s3 := S3.out; have s4 := S4.out; have s5 := S5.out; have s6 := S6.out; have s7 := S7.out; have s8 := S8.out; have s9 := S9.out; have s10 := S10.out; have s11 := S11.out; have s12 := S12.out; have s13 := S13.out; have s14 := S14.out; have s15 := S15.out; have s16 := S16.out; have s17 := S17.out; have s18 := S18.out; omega))) (Kept.of_below B10.out (by have s1 := S1.out; have s2 := S2.out; have s3 := S3.out; have s4 := S4.out; have s5 := S5.out; have s6 := S6.out; have s7 := S7.out; have s8 := S8.out; have s9 := S9.out; have s10 := S10.out; have s11 := S11.out; have s12 := S12.out; have s13 := S13.out; have s14 := S14.out; have s15 := S15.out; have s16 := S16.out; have s17 := S17.out; have s18 := S18.out; omega))) (Kept.of_below B11.out (by have s1 := S1.out; have s2 := S2.out; have s3 := S3.out; have s4 := S4.out; have s5 := S5.out; have s6 := S6.out; have s7 := S7.out; have s8 := S8.out; have s9 := S9.out; have s10 := S10.out; have s11 := S11.out; have s12 := S12.out; have s13 := S13.out; have s14 := S14.out; have s15 := S15.out; have s16 := S16.out; have s17 := S17.out; have s18 := S18.out; omega))) (Only.kept B12.out (by have s1 := S1.out; have s2 := S2.out; have s3 := S3.out; have s4 := S4.out; have s5 := S5.out; have s6 := S6.out; have s7 := S7.out; have s8 := S8.out; have s9 := S9.out; have s10 := S10.out; have s11 := S11.out; have s12 := S12.out; have s13 := S13.out; have s14 := S14.out; have s15 := S15.out; have s16 := S16.out; have s17 := S17.out; have s18 := S18.out; omega) (by have s1 := S1.out; have s2 := S2.out; have s3 := S3.out; have s4 := S4.out; have s5 := S5.out; have s6 := S6.out; have s7 := S7.out; have s8 := S8.out; have s9 := S9.out; have s10 := S10.out; have s11 := S11.out; have s12 := S12.out; have s13 := S13.out; have s14 := S14.out; have s15 := S15.out; have s16 := S16.out; have s17 := S17.out; have s18 := S18.out; omega))) (Only.kept B13.out (by have s1 := S1.out; have s2 := S2.out; have s3 := S3.out; have s4 := S4.out; have s5 := S5.out; have s6 := S6.out; have s7 := S7.out; have s8 := S8.out; have s9 := S9.out; have s10 := S10.out; have s11 := S11.out; have s12 := S12.out; have s13 := S13.out; have s14 := S14.out; have s15 := S15.out; have s16 := S16.out; have s17 := S17.out; have s18 := S18.out; omega) (by have s1 := S1.out; have s2 := S2.out; have s3 := S3.out; have s4 := S4.out; have s5 := S5.out; have s6 := S6.out; have s7 := S7.out; have s8 := S8.out; have s9 := S9.out; have s10 := S10.out; have s11 := S11.out; have s12 := S12.out; have s13 := S13.out; have s14 := S14.out; have s15 := S15.out; have s16 := S16.out; have s17 := S17.out; have s18 := S18.out; omega))) (Kept.of_below B14.out (by have s1 := S1.out; have s2 := S2.out; have s3 := S3.out; have s4 := S4.out; have s5 := S5.out; have s6 := S6.out; have s7 := S7.out; have s8 := S8.out; have s9 := S9.out; have s10 := S10.out; have s11 := S11.out; have s12 := S12.out; have s13 := S13.out; have s14 := S14.out; have s15 := S15.out; have s16 := S16.out; have s17 := S17.out; have s18 := S18.out; omega))) (Only.kept B15.out (by have s1 := S1.out; have s2 := S2.out; have s3 := S3.out; have s4 := S4.out; have s5 := S5.out; have s6 := S6.out; have s7 := S7.out; have s8 := S8.out; have s9 := S9.out; have s10 := S10.out; have s11 := S11.out; have s12 := S12.out; have s13 := S13.out; have s14 := S14.out; have s15 := S15.out; have s16 := S16.out; have s17 := S17.out; have s18 := S18.out; omega) (by have s1 := S1.out; have s2 := S2.out; have s3 := S3.out; have s4 := S4.out; have s5 := S5.out; have s6 := S6.out; have s7 := S7.out; have s8 := S8.out; have s9 := S9.out; have s10 := S10.out; have s11 := S11.out; have s12 := S12.out; have s13 := S13.out; have s14 := S14.out; have s15 := S15.out; have s16 := S16.out; have s17 := S17.out; have s18 := S18.out; omega))) (Kept.of_below B16.out (by have s1 := S1.out; have s2 := S2.out; have s3 := S3.out; have s4 := S4.out; have s5 := S5.out; have s6 := S6.out; have s7 := S7.out; have s8 := S8.out; have s9 := S9.out; have s10 := S10.out; have s11 := S11.out; have s12 := S12.out; have s13 := S13.out; have s14 := S14.out; have s15 := S15.out; have s16 := S16.out; have s17 := S17.out; have s18 := S18.out; omega))) (Kept.of_below B17.out (by have s1 := S1.out; have s2 := S2.out; have s3 := S3.out; have s4 := S4.out; have s5 := S5.out; have s6 := S6.out; have s7 := S7.out; have s8 := S8.out; have s9 := S9.out; have s10 := S10.out; have s11 := S11.out; have s12 := S12.out; have s13 := S13.out; have s14 := S14.out; have s15 := S15.out; have s16 := S16.out; have s17 := S17.out; have s18 := S18.out; omega))) (Kept.of_below B18.out (by have s1 := S1.out; have s2 := S2.out; have s3 := S3.out; have s4 := S4.out; have s5 := S5.out; have s6 := S6.out; have s7 := S7.out; have s8 := S8.out; have s9 := S9.out; have s10 := S10.out; have s11 := S11.out; have s12 := S12.out; have s13 := S13.out; have s14 := S14.out; have s15 := S15.out; have s16 := S16.out; have s17 := S17.out; have s18 := S18.out; omega)))).reads) (by omega)).mono ?_
  rintro e w19 ⟨rfl, hb⟩
  have B19 := Lib.hid hb; have S19 : Hid (w18.heap.size ≤ w19.heap.size) := Lib.hid hb.size; clear hb
  have C19 := Lib.hid (C18.out.trans (B19.out.mono C18.out.size))
  go_wp2_with fail
  refine (heldI' _ _ _ L0.length 1 w19 ((M15.out.kept (Kept.trans (Kept.trans (Kept.trans (Kept.of_below B16.out (by have s1 := S1.out; have s2 := S2.out; have s3 := S3.out; have s4 := S4.out; have s5 := S5.out; have s6 := S6.out; have s7 := S7.out; have s8 := S8.out; have s9 := S9.out; have s10 := S10.out; have s11 := S11.out; have s12 := S12.out; have s13 := S13.out; have s14 := S14.out; have s15 := S15.out; have s16 := S16.out; have s17 := S17.out; have s18 := S18.out; have s19 := S19.out; omega)) (Kept.of_below B17.out (by have s1 := S1.out; have s2 := S2.out; have s3 := S3.out; have s4 := S4.out; have s5 := S5.out; have s6 := S6.out; have s7 := S7.out; have s8 := S8.out; have s9 := S9.out; have s10 := S10.out; have s11 := S11.out; have s12 := S12.out; have s13 := S13.out; have s14 := S14.out; have s15 := S15.out; have s16 := S16.out; have s17 := S17.out; have s18 := S18.out; have s19 := S19.out; omega))) (Kept.of_below B18.out (by have s1 := S1.out; have s2 := S2.out; have s3 := S3.out; have s4 := S4.out; have s5 := S5.out; have s6 := S6.out; have s7 := S7.out; have s8 := S8.out; have s9 := S9.out; have s10 := S10.out; have s11 := S11.out; have s12 := S12.out; have s13 := S13.out; have s14 := S14.out; have s15 := S15.out; have s16 := S16.out; have s17 := S17.out; have s18 := S18.out; have s19 := S19.out; omega))) (Kept.of_below B19.out (by have s1 := S1.out; have s2 := S2.out; have s3 := S3.out; have s4 := S4.out; have s5 := S5.out; have s6 := S6.out; have s7 := S7.out; have s8 := S8.out; have s9 := S9.out; have s10 := S10.out; have s11 := S11.out; have s12 := S12.out; have s13 := S13.out; have s14 := S14.out; have s15 := S15.out; have s16 := S16.out; have s17 := S17.out; have s18 := S18.out; have s19 := S19.out; omega))))) (by omega) (by omega)).mono ?_
  rintro e w' ⟨rfl, rfl⟩
  go_wp2_with fail
  go_ret
  exact ⟨rfl, C19.out⟩

set_option maxRecDepth 100000 in
theorem FnExactDividePolynomials_lifted (os : Os) (started : os.Started) (H : Type) (enc : TypeId × Value → H) :
    ReturnsInHanded {} Try.checked os 10 .any (Rows.fnExactDividePolynomialsSpec.pre6 enc Try.prog Try.f10 Rows.fnExactDividePolynomialsRow.domain false) (Rows.fnExactDividePolynomialsSpec.post enc Try.prog Try.f10 false true false false) := by
  refine returnsInHanded_of_change (C := Try.checked) Try.own started (by kernel_rfl) Try.func10
    (ChangeSpec.witness6 (enc := enc) (C := Try.checked) false ⟨#[], #[.slice none 0 0, .slice none 0 0], []⟩ 8 (by kernel_rfl) (by kernel_rfl) (by kernel_rfl) (by kernel_rfl)) ?_
  intro W base args ds gs before hval0 hW hcnd _
  have hval : ∀ (j : Nat) t v, Try.f10.params[j]? = some t → args[j]? = some v → Value.okWide Try.prog W .any base t v := hval0
  have hW' := hW
  have hltW : ∀ x ∈ before, x.block < W.heap.size := fun x hx => by simpa using hW'.lt x hx
  obtain ⟨p, q, hA0, hV, rfl, hfz, hnd⟩ := hW
  have hA : DataW.TrodAll enc Try.prog W 0 (fun _ => true) true Try.f10.params.toList args.toList ds p := hA0
  rw [Try.params10] at hA hval
  obtain ⟨v0, vs0, d0, ds0, p0, q0, hargs, rfl, rfl, h0, r0⟩ := trodAll_cons hA
  obtain ⟨v1, vs1, d1, ds1, p1, q1, rfl, rfl, rfl, h1, r1⟩ := trodAll_cons r0
  obtain ⟨rfl, rfl, rfl⟩ := trodAll_nil r1
  obtain rfl : args = #[v0, v1] := by cases args; simp_all
  obtain ⟨rfl, rfl⟩ := trodVars_none hV
  obtain ⟨A0, n0, c0, z0, rfl, hr0, hn0, hw0⟩ := open_row_ints (B := W.heap.size) (hval 0 29 v0 rfl rfl) h0 (fun x hx => hltW x (by simp [hx]))
  obtain ⟨A1, n1, c1, z1, rfl, hr1, hn1, hw1⟩ := open_row_ints (B := W.heap.size) (hval 1 29 v1 rfl rfl) h1 (fun x hx => hltW x (by simp [hx]))
  refine (FnExactDividePolynomials_walk (w := W) A0 n0 c0 z0 hr0 hn0 hw0 A1 n1 c1 z1 hr1 hn1 hw1).mono fun e W' ⟨he, hb⟩ => ?_
  subst he
  exact ⟨_, rfl, law_post (tb := 4) Try.laidOut (by kernel_rfl) rfl Try.underlying4 rfl rfl hW' hb⟩

/-- The given statement. -/
theorem fnExactDividePolynomials_proved : Rows.FnExactDividePolynomialsSaid :=
  OpenClaim.holds_of_wide 10 Try.f10 rfl rfl rfl rfl rfl rfl rfl ⟨rfl, rfl, rfl, rfl, rfl⟩ rfl rfl rfl rfl rfl (by kernel_rfl) Try.func10 (by kernel_rfl)
    (of_decide_eq_true (by kernel_rfl)) (by unfold Func.isWrapper; first | (rw [if_pos (by decide +kernel)]; kernel_rfl) | (rw [if_neg (by decide +kernel)]; exact ⟨rfl, rfl⟩))
    (fun os started H enc _ => FnExactDividePolynomials_lifted os started H enc)
end Go.Proofs.Ytbipihamkfifjaa
