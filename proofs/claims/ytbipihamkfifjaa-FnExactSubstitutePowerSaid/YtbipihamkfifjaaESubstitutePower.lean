/- For all arguments, impl.SubstitutePower answers as spec.SubstitutePower does, leaves its arguments alone and answers in memory of its own: laws.FnExactSubstitutePower returns true. No condition. -/
import Derived.Test.YtbipihamkfifjaaSubst
import Derived.Test.YtbipihamkfifjaaKeep
namespace Go.Proofs.Ytbipihamkfifjaa
open Go.ChangeShapes Go.WideShapes Go.ChangeAt Go.RowKit
set_option linter.unusedVariables false

theorem FnExactSubstitutePower_walk (w : World) (A0 : Option Addr) (n0 c0 : Nat) (z0 : List Int) (hr0 : RI w w.heap.size A0 n0 z0) (hn0 : n0 ≤ 9223372036854775807) (hw0 : ∀ z ∈ z0, (Lit.int .i64 z).wf = true) (a1 : Int) (hw1 : (Lit.int .i64 a1).wf = true) :
    Calls Try.prog 11 #[.slice A0 n0 c0, .int .i64 a1] w fun e w' => e = .returned (.bool true) ∧ Below w.heap.size w w' := by
  obtain rfl : z0.length = n0 := hr0.1
  by_cases hb0 : 1048576 < z0.length
  · clear hr0 hw0 hw1
    go_enter Try.func11, Try.ntmps11
    go_wp2
    go_ret
    exact ⟨rfl, Below.refl _ _⟩
  have hq0 : z0.length ≤ 1048576 := by omega
  clear hb0 hn0
  have R0 : Hid (ReadW w w.heap.size (.slice A0 z0.length c0) z0) := Lib.hid (ReadW.mk' hr0)
  clear hr0
  have HW0 := Lib.hid hw0
  clear hw0
  have HW1 := Lib.hid hw1
  clear hw1
  have HS := fun (W : World) (v0 : Value) (h0 : ReadI W W.heap.size v0 z0) => hid_in (specSubstitutePower_any v0 z0 a1 W h0 hq0 HW0.out HW1.out)
  have HI := fun (W : World) (v0 : Value) (h0 : ReadI W W.heap.size v0 z0) => hid_in (implSubstitutePower_any v0 z0 a1 W h0 hq0 HW0.out HW1.out)
  have hl0 := (subA_len z0 a1)
  generalize (subA z0 a1) = L0 at *
  generalize (subC z0 a1) = K1 at *
  go_enter Try.func11, Try.ntmps11
  go_wp2_with fail
  refine (toI _ z0 w R0.out hq0).mono ?_
  rintro e w1 ⟨x1, rfl, ho, hb⟩
  have O1 := Lib.hid ho; clear ho
  have B1 := Lib.hid hb; have S1 : Hid (w.heap.size ≤ w1.heap.size) := Lib.hid hb.size; clear hb
  have C1 := Lib.hid B1.out
  go_wp2_with fail
  refine (hid_out (HS w1 x1 (O1.out.reads))).mono ?_
  rintro e w2 ⟨r2_0, rfl, ho0, hb⟩
  have O2_0 := Lib.hid ho0; clear ho0
  have B2 := Lib.hid hb; have S2 : Hid (w1.heap.size ≤ w2.heap.size) := Lib.hid hb.size; clear hb
  have C2 := Lib.hid (C1.out.trans (B2.out.mono C1.out.size))
  go_wp2_with fail
  refine (toI _ z0 w2 ((R0.out.below C2.out).more C2.out.size) hq0).mono ?_
  rintro e w3 ⟨x3, rfl, ho, hb⟩
  have O3 := Lib.hid ho; clear ho
  have B3 := Lib.hid hb; have S3 : Hid (w2.heap.size ≤ w3.heap.size) := Lib.hid hb.size; clear hb
  have C3 := Lib.hid (C2.out.trans (B3.out.mono C2.out.size))
  go_wp2_with fail
  refine (hid_out (HI w3 x3 (O3.out.reads))).mono ?_
  rintro e w4 ⟨r4_0, rfl, ho0, hb⟩
  have O4_0 := Lib.hid ho0; clear ho0
  have B4 := Lib.hid hb; have S4 : Hid (w3.heap.size ≤ w4.heap.size) := Lib.hid hb.size; clear hb
  have C4 := Lib.hid (C3.out.trans (B4.out.mono C3.out.size))
  go_wp2_with fail
  refine (eqI' _ _ L0 w4 w4.heap.size (O4_0.out.reads) ((O2_0.out.kept (Kept.trans (Kept.of_below B3.out (by have s1 := S1.out; have s2 := S2.out; have s3 := S3.out; have s4 := S4.out; omega)) (Kept.of_below B4.out (by have s1 := S1.out; have s2 := S2.out; have s3 := S3.out; have s4 := S4.out; omega)))).reads) (by omega)).mono ?_
  rintro e w5 ⟨rfl, hb⟩
  have B5 := Lib.hid hb; have S5 : Hid (w4.heap.size ≤ w5.heap.size) := Lib.hid hb.size; clear hb
  have C5 := Lib.hid (C4.out.trans (B5.out.mono C4.out.size))
  go_wp2_with fail
  refine (toI _ z0 w5 ((R0.out.below C5.out).more C5.out.size) hq0).mono ?_
  rintro e w6 ⟨x6, rfl, ho, hb⟩
  have O6 := Lib.hid ho; clear ho
  have B6 := Lib.hid hb; have S6 : Hid (w5.heap.size ≤ w6.heap.size) := Lib.hid hb.size; clear hb
  have C6 := Lib.hid (C5.out.trans (B6.out.mono C5.out.size))
  go_wp2_with fail
  refine (eqI' _ _ z0 w6 w6.heap.size ((O3.out.kept (Kept.trans (Kept.trans (Kept.of_below B4.out (by have s1 := S1.out; have s2 := S2.out; have s3 := S3.out; have s4 := S4.out; have s5 := S5.out; have s6 := S6.out; omega)) (Kept.of_below B5.out (by have s1 := S1.out; have s2 := S2.out; have s3 := S3.out; have s4 := S4.out; have s5 := S5.out; have s6 := S6.out; omega))) (Kept.of_below B6.out (by have s1 := S1.out; have s2 := S2.out; have s3 := S3.out; have s4 := S4.out; have s5 := S5.out; have s6 := S6.out; omega)))).reads) (O6.out.reads) (by omega)).mono ?_
  rintro e w7 ⟨rfl, hb⟩
  have B7 := Lib.hid hb; have S7 : Hid (w6.heap.size ≤ w7.heap.size) := Lib.hid hb.size; clear hb
  have C7 := Lib.hid (C6.out.trans (B7.out.mono C6.out.size))
  go_wp2_with fail
  refine (markI' _ _ _ z0 1 w7 ((O3.out.kept (Kept.trans (Kept.trans (Kept.trans (Kept.of_below B4.out (by have s1 := S1.out; have s2 := S2.out; have s3 := S3.out; have s4 := S4.out; have s5 := S5.out; have s6 := S6.out; have s7 := S7.out; omega)) (Kept.of_below B5.out (by have s1 := S1.out; have s2 := S2.out; have s3 := S3.out; have s4 := S4.out; have s5 := S5.out; have s6 := S6.out; have s7 := S7.out; omega))) (Kept.of_below B6.out (by have s1 := S1.out; have s2 := S2.out; have s3 := S3.out; have s4 := S4.out; have s5 := S5.out; have s6 := S6.out; have s7 := S7.out; omega))) (Kept.of_below B7.out (by have s1 := S1.out; have s2 := S2.out; have s3 := S3.out; have s4 := S4.out; have s5 := S5.out; have s6 := S6.out; have s7 := S7.out; omega))))) (by omega) (by omega)).mono ?_
  rintro e w8 ⟨rfl, hm, hb⟩
  have M8 := Lib.hid hm; clear hm
  have B8 := Lib.hid hb; have S8 : Hid (w7.heap.size ≤ w8.heap.size) := Lib.hid hb.size; clear hb
  have C8 := Lib.hid (C7.out.trans (Only.below B8.out (by have s1 := S1.out; have s2 := S2.out; have s3 := S3.out; have s4 := S4.out; have s5 := S5.out; have s6 := S6.out; have s7 := S7.out; have s8 := S8.out; omega) C7.out.size))
  go_wp2_with fail
  refine (eqI' _ _ L0 w8 w8.heap.size ((O4_0.out.kept (Kept.trans (Kept.trans (Kept.trans (Kept.of_below B5.out (by have s1 := S1.out; have s2 := S2.out; have s3 := S3.out; have s4 := S4.out; have s5 := S5.out; have s6 := S6.out; have s7 := S7.out; have s8 := S8.out; omega)) (Kept.of_below B6.out (by have s1 := S1.out; have s2 := S2.out; have s3 := S3.out; have s4 := S4.out; have s5 := S5.out; have s6 := S6.out; have s7 := S7.out; have s8 := S8.out; omega))) (Kept.of_below B7.out (by have s1 := S1.out; have s2 := S2.out; have s3 := S3.out; have s4 := S4.out; have s5 := S5.out; have s6 := S6.out; have s7 := S7.out; have s8 := S8.out; omega))) (Only.kept B8.out (by have s1 := S1.out; have s2 := S2.out; have s3 := S3.out; have s4 := S4.out; have s5 := S5.out; have s6 := S6.out; have s7 := S7.out; have s8 := S8.out; omega) (by have s1 := S1.out; have s2 := S2.out; have s3 := S3.out; have s4 := S4.out; have s5 := S5.out; have s6 := S6.out; have s7 := S7.out; have s8 := S8.out; omega)))).reads) ((O2_0.out.kept (Kept.trans (Kept.trans (Kept.trans (Kept.trans (Kept.trans (Kept.of_below B3.out (by have s1 := S1.out; have s2 := S2.out; have s3 := S3.out; have s4 := S4.out; have s5 := S5.out; have s6 := S6.out; have s7 := S7.out; have s8 := S8.out; omega)) (Kept.of_below B4.out (by have s1 := S1.out; have s2 := S2.out; have s3 := S3.out; have s4 := S4.out; have s5 := S5.out; have s6 := S6.out; have s7 := S7.out; have s8 := S8.out; omega))) (Kept.of_below B5.out (by have s1 := S1.out; have s2 := S2.out; have s3 := S3.out; have s4 := S4.out; have s5 := S5.out; have s6 := S6.out; have s7 := S7.out; have s8 := S8.out; omega))) (Kept.of_below B6.out (by have s1 := S1.out; have s2 := S2.out; have s3 := S3.out; have s4 := S4.out; have s5 := S5.out; have s6 := S6.out; have s7 := S7.out; have s8 := S8.out; omega))) (Kept.of_below B7.out (by have s1 := S1.out; have s2 := S2.out; have s3 := S3.out; have s4 := S4.out; have s5 := S5.out; have s6 := S6.out; have s7 := S7.out; have s8 := S8.out; omega))) (Only.kept B8.out (by have s1 := S1.out; have s2 := S2.out; have s3 := S3.out; have s4 := S4.out; have s5 := S5.out; have s6 := S6.out; have s7 := S7.out; have s8 := S8.out; omega) (by have s1 := S1.out; have s2 := S2.out; have s3 := S3.out; have s4 := S4.out; have s5 := S5.out; have s6 := S6.out; have s7 := S7.out; have s8 := S8.out; omega)))).reads) (by omega)).mono ?_
  rintro e w9 ⟨rfl, hb⟩
  have B9 := Lib.hid hb; have S9 : Hid (w8.heap.size ≤ w9.heap.size) := Lib.hid hb.size; clear hb
  have C9 := Lib.hid (C8.out.trans (B9.out.mono C8.out.size))
  go_wp2_with fail
  refine (markI' _ _ _ L0 1 w9 ((O4_0.out.kept (Kept.trans (Kept.trans (Kept.trans (Kept.trans (Kept.of_below B5.out (by have s1 := S1.out; have s2 := S2.out; have s3 := S3.out; have s4 := S4.out; have s5 := S5.out; have s6 := S6.out; have s7 := S7.out; have s8 := S8.out; have s9 := S9.out; omega)) (Kept.of_below B6.out (by have s1 := S1.out; have s2 := S2.out; have s3 := S3.out; have s4 := S4.out; have s5 := S5.out; have s6 := S6.out; have s7 := S7.out; have s8 := S8.out; have s9 := S9.out; omega))) (Kept.of_below B7.out (by have s1 := S1.out; have s2 := S2.out; have s3 := S3.out; have s4 := S4.out; have s5 := S5.out; have s6 := S6.out; have s7 := S7.out; have s8 := S8.out; have s9 := S9.out; omega))) (Only.kept B8.out (by have s1 := S1.out; have s2 := S2.out; have s3 := S3.out; have s4 := S4.out; have s5 := S5.out; have s6 := S6.out; have s7 := S7.out; have s8 := S8.out; have s9 := S9.out; omega) (by have s1 := S1.out; have s2 := S2.out; have s3 := S3.out; have s4 := S4.out; have s5 := S5.out; have s6 := S6.out; have s7 := S7.out; have s8 := S8.out; have s9 := S9.out; omega))) (Kept.of_below B9.out (by have s1 := S1.out; have s2 := S2.out; have s3 := S3.out; have s4 := S4.out; have s5 := S5.out; have s6 := S6.out; have s7 := S7.out; have s8 := S8.out; have s9 := S9.out; omega))))) (by omega) (by omega)).mono ?_
  rintro e w10 ⟨rfl, hm, hb⟩
  have M10 := Lib.hid hm; clear hm
  have B10 := Lib.hid hb; have S10 : Hid (w9.heap.size ≤ w10.heap.size) := Lib.hid hb.size; clear hb
  have C10 := Lib.hid (C9.out.trans (Only.below B10.out (by have s1 := S1.out; have s2 := S2.out; have s3 := S3.out; have s4 := S4.out; have s5 := S5.out; have s6 := S6.out; have s7 := S7.out; have s8 := S8.out; have s9 := S9.out; have s10 := S10.out; omega) C9.out.size))
  go_wp2_with fail
  refine (heldI' _ _ _ L0.length 1 w10 (M10.out) (by omega) (by omega)).mono ?_
  rintro e w' ⟨rfl, rfl⟩
  go_wp2_with fail
  refine (toI _ z0 w10 ((R0.out.below C10.out).more C10.out.size) hq0).mono ?_
  rintro e w11 ⟨x11, rfl, ho, hb⟩
  have O11 := Lib.hid ho; clear ho
  have B11 := Lib.hid hb; have S11 : Hid (w10.heap.size ≤ w11.heap.size) := Lib.hid hb.size; clear hb
  have C11 := Lib.hid (C10.out.trans (B11.out.mono C10.out.size))
  go_wp2_with fail
  refine (hid_out (HI w11 x11 (O11.out.reads))).mono ?_
  rintro e w12 ⟨r12_0, rfl, ho0, hb⟩
  have O12_0 := Lib.hid ho0; clear ho0
  have B12 := Lib.hid hb; have S12 : Hid (w11.heap.size ≤ w12.heap.size) := Lib.hid hb.size; clear hb
  have C12 := Lib.hid (C11.out.trans (B12.out.mono C11.out.size))
  go_wp2_with fail
  refine (eqI' _ _ L0 w12 w12.heap.size (O12_0.out.reads) ((O2_0.out.kept (Kept.trans (Kept.trans (Kept.trans (Kept.trans (Kept.trans (Kept.trans (Kept.trans (Kept.trans (Kept.trans (Kept.of_below B3.out (by have s1 := S1.out; have s2 := S2.out; have s3 := S3.out; have s4 := S4.out; have s5 := S5.out; have s6 := S6.out; have s7 := S7.out; have s8 := S8.out; have s9 := S9.out; have s10 := S10.out; have s11 := S11.out; have s12 := S12.out; omega)) (Kept.of_below B4.out (by have s1 := S1.out; have s2 := S2.out; have s3 := S3.out; have s4 := S4.out; have s5 := S5.out; have s6 := S6.out; have s7 := S7.out; have s8 := S8.out; have s9 := S9.out; have s10 := S10.out; have s11 := S11.out; have s12 := S12.out; omega))) (Kept.of_below B5.out (by have s1 := S1.out; have s2 := S2.out; have s3 := S3.out; have s4 := S4.out; have s5 := S5.out; have s6 := S6.out; have s7 := S7.out; have s8 := S8.out; have s9 := S9.out; have s10 := S10.out; have s11 := S11.out; have s12 := S12.out; omega))) (Kept.of_below B6.out (by have s1 := S1.out; have s2 := S2.out; have s3 := S3.out; have s4 := S4.out; have s5 := S5.out; have s6 := S6.out; have s7 := S7.out; have s8 := S8.out; have s9 := S9.out; have s10 := S10.out; have s11 := S11.out; have s12 := S12.out; omega))) (Kept.of_below B7.out (by have s1 := S1.out; have s2 := S2.out; have s3 := S3.out; have s4 := S4.out; have s5 := S5.out; have s6 := S6.out; have s7 := S7.out; have s8 := S8.out; have s9 := S9.out; have s10 := S10.out; have s11 := S11.out; have s12 := S12.out; omega))) (Only.kept B8.out (by have s1 := S1.out; have s2 := S2.out; have s3 := S3.out; have s4 := S4.out; have s5 := S5.out; have s6 := S6.out; have s7 := S7.out; have s8 := S8.out; have s9 := S9.out; have s10 := S10.out; have s11 := S11.out; have s12 := S12.out; omega) (by have s1 := S1.out; have s2 := S2.out; have s3 := S3.out; have s4 := S4.out; have s5 := S5.out; have s6 := S6.out; have s7 := S7.out; have s8 := S8.out; have s9 := S9.out; have s10 := S10.out; have s11 := S11.out; have s12 := S12.out; omega))) (Kept.of_below B9.out (by have s1 := S1.out; have s2 := S2.out; have s3 := S3.out; have s4 := S4.out; have s5 := S5.out; have s6 := S6.out; have s7 := S7.out; have s8 := S8.out; have s9 := S9.out; have s10 := S10.out; have s11 := S11.out; have s12 := S12.out; omega))) (Only.kept B10.out (by have s1 := S1.out; have s2 := S2.out; have s3 := S3.out; have s4 := S4.out; have s5 := S5.out; have s6 := S6.out; have s7 := S7.out; have s8 := S8.out; have s9 := S9.out; have s10 := S10.out; have s11 := S11.out; have s12 := S12.out; omega) (by have s1 := S1.out; have s2 := S2.out; have s3 := S3.out; have s4 := S4.out; have s5 := S5.out; have s6 := S6.out; have s7 := S7.out; have s8 := S8.out; have s9 := S9.out; have s10 := S10.out; have s11 := S11.out; have s12 := S12.out; omega))) (Kept.of_below B11.out (by have s1 := S1.out; have s2 := S2.out; have s3 := S3.out; have s4 := S4.out; have s5 := S5.out; have s6 := S6.out; have s7 := S7.out; have s8 := S8.out; have s9 := S9.out; have s10 := S10.out; have s11 := S11.out; have s12 := S12.out; omega))) (Kept.of_below B12.out (by have s1 := S1.out; have s2 := S2.out; have s3 := S3.out; have s4 := S4.out; have s5 := S5.out; have s6 := S6.out; have s7 := S7.out; have s8 := S8.out; have s9 := S9.out; have s10 := S10.out; have s11 := S11.out; have s12 := S12.out; omega)))).reads) (by omega)).mono ?_
  rintro e w13 ⟨rfl, hb⟩
  have B13 := Lib.hid hb; have S13 : Hid (w12.heap.size ≤ w13.heap.size) := Lib.hid hb.size; clear hb
  have C13 := Lib.hid (C12.out.trans (B13.out.mono C12.out.size))
  go_wp2_with fail
  refine (heldI' _ _ _ L0.length 1 w13 ((M10.out.kept (Kept.trans (Kept.trans (Kept.of_below B11.out (by have s1 := S1.out; have s2 := S2.out; have s3 := S3.out; have s4 := S4.out; have s5 := S5.out; have s6 := S6.out; have s7 := S7.out; have s8 := S8.out; have s9 := S9.out; have s10 := S10.out; have s11 := S11.out; have s12 := S12.out; have s13 := S13.out; omega)) (Kept.of_below B12.out (by have s1 := S1.out; have s2 := S2.out; have s3 := S3.out; have s4 := S4.out; have s5 := S5.out; have s6 := S6.out; have s7 := S7.out; have s8 := S8.out; have s9 := S9.out; have s10 := S10.out; have s11 := S11.out; have s12 := S12.out; have s13 := S13.out; omega))) (Kept.of_below B13.out (by have s1 := S1.out; have s2 := S2.out; have s3 := S3.out; have s4 := S4.out; have s5 := S5.out; have s6 := S6.out; have s7 := S7.out; have s8 := S8.out; have s9 := S9.out; have s10 := S10.out; have s11 := S11.out; have s12 := S12.out; have s13 := S13.out; omega))))) (by omega) (by omega)).mono ?_
  rintro e w' ⟨rfl, rfl⟩
  go_wp2_with fail
  go_ret
  exact ⟨rfl, C13.out⟩

set_option maxRecDepth 100000 in
theorem FnExactSubstitutePower_lifted (os : Os) (started : os.Started) (H : Type) (enc : TypeId × Value → H) :
    ReturnsInHanded {} Try.checked os 11 .any (Rows.fnExactSubstitutePowerSpec.pre6 enc Try.prog Try.f11 Rows.fnExactSubstitutePowerRow.domain false) (Rows.fnExactSubstitutePowerSpec.post enc Try.prog Try.f11 false true false false) := by
  refine returnsInHanded_of_change (C := Try.checked) Try.own started (by kernel_rfl) Try.func11
    (ChangeSpec.witness6 (enc := enc) (C := Try.checked) false ⟨#[], #[.slice none 0 0, .int .i64 0], []⟩ 8 (by kernel_rfl) (by kernel_rfl) (by kernel_rfl) (by kernel_rfl)) ?_
  intro W base args ds gs before hval0 hW hcnd _
  have hval : ∀ (j : Nat) t v, Try.f11.params[j]? = some t → args[j]? = some v → Value.okWide Try.prog W .any base t v := hval0
  have hW' := hW
  have hltW : ∀ x ∈ before, x.block < W.heap.size := fun x hx => by simpa using hW'.lt x hx
  obtain ⟨p, q, hA0, hV, rfl, hfz, hnd⟩ := hW
  have hA : DataW.TrodAll enc Try.prog W 0 (fun _ => true) true Try.f11.params.toList args.toList ds p := hA0
  rw [Try.params11] at hA hval
  obtain ⟨v0, vs0, d0, ds0, p0, q0, hargs, rfl, rfl, h0, r0⟩ := trodAll_cons hA
  obtain ⟨v1, vs1, d1, ds1, p1, q1, rfl, rfl, rfl, h1, r1⟩ := trodAll_cons r0
  obtain ⟨rfl, rfl, rfl⟩ := trodAll_nil r1
  obtain rfl : args = #[v0, v1] := by cases args; simp_all
  obtain ⟨rfl, rfl⟩ := trodVars_none hV
  obtain ⟨A0, n0, c0, z0, rfl, hr0, hn0, hw0⟩ := open_row_ints (B := W.heap.size) (hval 0 29 v0 rfl rfl) h0 (fun x hx => hltW x (by simp [hx]))
  obtain ⟨a1, rfl, rfl, rfl, w1⟩ := open_int Try.underlying2 (hval 1 2 v1 rfl rfl) h1
  refine (FnExactSubstitutePower_walk (w := W) A0 n0 c0 z0 hr0 hn0 hw0 a1 w1).mono fun e W' ⟨he, hb⟩ => ?_
  subst he
  exact ⟨_, rfl, law_post (tb := 4) Try.laidOut (by kernel_rfl) rfl Try.underlying4 rfl rfl hW' hb⟩

/-- The given statement. -/
theorem fnExactSubstitutePower_proved : Rows.FnExactSubstitutePowerSaid :=
  OpenClaim.holds_of_wide 11 Try.f11 rfl rfl rfl rfl rfl rfl rfl ⟨rfl, rfl, rfl, rfl, rfl⟩ rfl rfl rfl rfl rfl (by kernel_rfl) Try.func11 (by kernel_rfl)
    (of_decide_eq_true (by kernel_rfl)) (by unfold Func.isWrapper; first | (rw [if_pos (by decide +kernel)]; kernel_rfl) | (rw [if_neg (by decide +kernel)]; exact ⟨rfl, rfl⟩))
    (fun os started H enc _ => FnExactSubstitutePower_lifted os started H enc)
end Go.Proofs.Ytbipihamkfifjaa
