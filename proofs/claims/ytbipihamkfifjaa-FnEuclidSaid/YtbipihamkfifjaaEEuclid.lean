/- The exact walk of laws.FnEuclid: it returns true and leaves old memory as it was. Condition: the bytes read; none else. -/
import Derived.Test.YtbipihamkfifjaaEuW
import Derived.Test.YtbipihamkfifjaaDraw2
import Derived.Test.YtbipihamkfifjaaDraw3
import Derived.Test.YtbipihamkfifjaaLike
import Derived.Test.YtbipihamkfifjaaBytes
import Derived.Test.YtbipihamkfifjaaKeep
namespace Go.Proofs.Ytbipihamkfifjaa
open Go.ChangeShapes Go.WideShapes Go.ChangeAt Go.RowKit Go.Proofs.Ytbipihamkfifjaa.Cf
set_option linter.unusedVariables false

theorem wf_of_in {zs : List Int} (h : InR zs) : ∀ z ∈ zs, (Lit.int .i64 z).wf = true := fun z hz => by
  have := h z hz
  simp [Lit.wf, IntKind.min, IntKind.max, IntKind.signed, IntKind.bits]; omega
theorem wf_of_ok {L : List Int} {l o : Int} (h0 : 0 ≤ l) (h1 : 0 ≤ o) (h : okL l o L = true) : ∀ z ∈ L, (Lit.int .i64 z).wf = true := fun z hz => by
  obtain ⟨k, hk, rfl⟩ := List.getElem_of_mem hz
  have h5 := okL_get L l o h k hk
  rw [List.getElem?_eq_getElem hk, Option.getD_some] at h5
  have h6 : 0 ≤ L[k] := by have := h5.1; split at this <;> omega
  simp [Lit.wf, IntKind.min, IntKind.max, IntKind.signed, IntKind.bits]; omega
theorem RI.of_own {w : World} {base n c : Nat} {A : Option Addr} {zs : List Int} (h : Own w base (.slice A n c) n (zs.map (.int .i64))) : RI w w.heap.size A n zs := by
  have hl : zs.length = n := by have := h.len; simpa using this
  subst hl
  exact h.reads

theorem Two.far {w w' : World} {g : Nat} {x y : Int} (h : Two w g x y) (hb : Below w.heap.size w w') : Two w' g x y := World.rowIs.of_block h (hb.block g (World.rowIs.lt h))

set_option maxRecDepth 100000 in
set_option maxHeartbeats 8000000 in
theorem FnEuclid_walk (A : Option Addr) (n c : Nat) (w : World) (hr : RB w w.heap.size A n) (hn : n ≤ 9223372036854775807) :
    Calls Try.prog 3 #[.slice A n c] w fun e w' => e = .returned (.bool true) ∧ Below w.heap.size w w' := by
  have HR := Lib.hid hr
  clear hr
  rcases (show (4096 : Int) < (n : Int) ∨ (n : Int) ≤ 4096 by omega) with hn4 | hn4
  · go_enter Try.func3, Try.ntmps3
    go_wp2_with fail
    refine (big_any A n c _ hn).mono ?_
    rintro e w' ⟨rfl, rfl⟩
    go_wp2_with fail
    go_ret
    exact ⟨rfl, Below.refl _ _⟩
  go_enter Try.func3, Try.ntmps3
  go_wp2_with fail
  refine (big_any A n c _ hn).mono ?_
  rintro e w' ⟨rfl, rfl⟩
  go_wp2_with fail
  refine (DrawEuclidSteps_any A n c _ HR.out hn).mono ?_
  rintro e w1 ⟨a, b, rfl, ha, hb, hb1⟩
  have C1 := Lib.hid hb1
  clear hb1
  obtain ⟨L, m, hl, hm, h1, h2, hcase⟩ := eu_cases a b
  have HL := Lib.hid hl
  have H1 := Lib.hid h1
  have H2 := Lib.hid h2
  clear hl h1 h2
  rcases hcase with h3 | ⟨h3, na, nb, rfl⟩
  · have H3 := Lib.hid h3
    clear h3
    go_wp2_with fail
    refine (esI_at H1.out H3.out HL.out _).mono ?_
    rintro e w2 ⟨A2, c2, vf2, rfl, ho, hb⟩
    have B2 := Lib.hid hb; have S2 : Hid (w1.heap.size ≤ w2.heap.size) := Lib.hid hb.size; clear hb
    have C2 := Lib.hid (C1.out.trans (B2.out.mono C1.out.size))
    have O2 := Lib.hid ho; clear ho
    go_wp2_with fail
    refine (esS_at H1.out H3.out HL.out _).mono ?_
    rintro e w3 ⟨A3, c3, vf3, rfl, ho, hb⟩
    have B3 := Lib.hid hb; have S3 : Hid (w2.heap.size ≤ w3.heap.size) := Lib.hid hb.size; clear hb
    have C3 := Lib.hid (C2.out.trans (B3.out.mono C2.out.size))
    have O3 := Lib.hid ho; clear ho
    go_wp2_with fail
    refine (cfI_at (n := m) H2.out H3.out (by rw [List.length_map]; exact HL.out) _).mono ?_
    rintro e w4 ⟨A4, c4, rfl, ho, hb⟩
    have B4 := Lib.hid hb; have S4 : Hid (w3.heap.size ≤ w4.heap.size) := Lib.hid hb.size; clear hb
    have C4 := Lib.hid (C3.out.trans (B4.out.mono C3.out.size))
    have O4 := Lib.hid ho; clear ho
    go_wp2_with fail
    refine (likeRows5_same A2 A3 m c2 c3 (stF _) _ w4.heap.size (((O2.out.reads.below B3.out).more B3.out.size |>.below B4.out).more B4.out.size) ((O3.out.reads.below B4.out).more B4.out.size) (by omega) (fun k _ => by rw [stF_len]; omega)).mono ?_
    rintro e w5 ⟨rfl, m5, e5⟩
    have B5 : Hid (Below w4.heap.size w4 w5) := Lib.hid (by rw [e5]; exact drewN_below _ _)
    have S5 : Hid (w4.heap.size ≤ w5.heap.size) := Lib.hid B5.out.size
    have C5 := Lib.hid (C4.out.trans (B5.out.mono C4.out.size))
    clear e5
    go_wp2_with fail
    refine (DrawNegativeFraction_any A n c _ ((HR.out.below C5.out).more C5.out.size) hn).mono ?_
    rintro e w6 ⟨cc, dd, rfl, hc, hd, hb⟩
    have B6 := Lib.hid hb; have S6 : Hid (w5.heap.size ≤ w6.heap.size) := Lib.hid hb.size; clear hb
    have C6 := Lib.hid (C5.out.trans (B6.out.mono C5.out.size))
    obtain ⟨M, q, hM, hq, g1, g2⟩ := nf_cases cc dd
    have HM := Lib.hid hM
    have G1 := Lib.hid g1
    clear hM g1
    rcases g2 with ⟨K, g2, g3⟩ | ⟨g2, g3, g4⟩
    · rcases g3 with rfl | rfl | rfl
      all_goals
        have G2 := Lib.hid g2
        clear g2
        go_wp2_with fail
        refine (nfI_at G1.out G2.out HM.out _).mono ?_
        rintro e w7 ⟨A6, c6, rfl, ho, hb⟩
        have B7 := Lib.hid hb; have S7 : Hid (w6.heap.size ≤ w7.heap.size) := Lib.hid hb.size; clear hb
        have C7 := Lib.hid (C6.out.trans (B7.out.mono C6.out.size))
        have O6 := Lib.hid ho; clear ho
        go_wp2_with fail
        refine (nfS_at G1.out G2.out HM.out _).mono ?_
        rintro e w8 ⟨A7, c7, rfl, ho, hb⟩
        have B8 := Lib.hid hb; have S8 : Hid (w7.heap.size ≤ w8.heap.size) := Lib.hid hb.size; clear hb
        have C8 := Lib.hid (C7.out.trans (B8.out.mono C7.out.size))
        have O7 := Lib.hid ho; clear ho
        go_wp2_with fail
        refine (likeInts_same A6 A7 q c6 c7 M _ w8.heap.size (((RI.of_own O6.out).below B8.out).more B8.out.size) (RI.of_own O7.out) (by omega)).mono ?_
        rintro e w9 ⟨rfl, m9, e9⟩
        have B9 : Hid (Below w8.heap.size w8 w9) := Lib.hid (by rw [e9]; exact drewN_below _ _)
        have S9 : Hid (w8.heap.size ≤ w9.heap.size) := Lib.hid B9.out.size
        have C9 := Lib.hid (C8.out.trans (B9.out.mono C8.out.size))
        clear e9
        go_wp2_with fail
        refine (DrawNegativeValue_any A n c _ ((HR.out.below C9.out).more C9.out.size) hn).mono ?_
        rintro e w10 ⟨A8, c8, zs, rfl, ho, hin, hlz, hb⟩
        have B10 := Lib.hid hb; have S10 : Hid (w9.heap.size ≤ w10.heap.size) := Lib.hid hb.size; clear hb
        have C10 := Lib.hid (C9.out.trans (B10.out.mono C9.out.size))
        have O8 := Lib.hid ho; have W8 := Lib.hid (wf_of_in hin); clear ho hin
        generalize hz : zs.length = z at *
        have HZ := Lib.hid hz
        clear hz
        obtain ⟨x1, y1, k1, hv1⟩ : ∃ x y k, nvR 2 2 (-1) zs = (x, y, k) := ⟨_, _, _, rfl⟩
        have V1 := Lib.hid hv1
        clear hv1
        go_wp2_with fail
        refine (nvI_at V1.out A8 z c8 _ (RI.of_own O8.out) (by omega) W8.out).mono ?_
        rintro e w11 ⟨rfl, hb⟩
        have B11 := Lib.hid hb; have S11 : Hid (w10.heap.size ≤ w11.heap.size) := Lib.hid hb.size; clear hb
        have C11 := Lib.hid (C10.out.trans (B11.out.mono C10.out.size))
        go_wp2_with fail
        have T12 := Lib.hid (Two.new w11 (x1) (y1))
        have B12 : Hid (Below w11.heap.size w11 (w11.alloc (.cells #[.int .i64 (x1), .int .i64 (y1)] 35))) := Lib.hid ((Below.refl _ _).alloc (Nat.le_refl _) _)
        have S12 : Hid (w11.heap.size ≤ (w11.alloc (.cells #[.int .i64 (x1), .int .i64 (y1)] 35)).heap.size) := Lib.hid B12.out.size
        have C12 := Lib.hid (C11.out.trans (B12.out.mono C11.out.size))
        generalize w11.alloc (.cells #[.int .i64 (x1), .int .i64 (y1)] 35) = w12 at *
        refine (nvS_at V1.out A8 z c8 _ (((((RI.of_own O8.out).below B11.out).more B11.out.size).below B12.out).more B12.out.size) (by omega) W8.out).mono ?_
        rintro e w13 ⟨rfl, hb⟩
        have B13 := Lib.hid hb; have S13 : Hid (w12.heap.size ≤ w13.heap.size) := Lib.hid hb.size; clear hb
        have C13 := Lib.hid (C12.out.trans (B13.out.mono C12.out.size))
        go_wp2_with fail
        have T14 := Lib.hid (Two.new w13 (x1) (y1))
        have B14 : Hid (Below w13.heap.size w13 (w13.alloc (.cells #[.int .i64 (x1), .int .i64 (y1)] 35))) := Lib.hid ((Below.refl _ _).alloc (Nat.le_refl _) _)
        have S14 : Hid (w13.heap.size ≤ (w13.alloc (.cells #[.int .i64 (x1), .int .i64 (y1)] 35)).heap.size) := Lib.hid B14.out.size
        have C14 := Lib.hid (C13.out.trans (B14.out.mono C13.out.size))
        generalize w13.alloc (.cells #[.int .i64 (x1), .int .i64 (y1)] 35) = w14 at *
        refine (DrawFractionValue_any A n c _ ((HR.out.below C14.out).more C14.out.size) hn).mono ?_
        rintro e w15 ⟨A9, c9, zt, rfl, ho, hin, hly, hb⟩
        have B15 := Lib.hid hb; have S15 : Hid (w14.heap.size ≤ w15.heap.size) := Lib.hid hb.size; clear hb
        have C15 := Lib.hid (C14.out.trans (B15.out.mono C14.out.size))
        have O9 := Lib.hid ho; have W9 := Lib.hid (wf_of_in hin); clear ho hin
        generalize hz : zt.length = y at *
        have HY := Lib.hid hz
        clear hz
        obtain ⟨x2, y2, k2, hv2⟩ : ∃ x y k, nvR 0 1 1 zt = (x, y, k) := ⟨_, _, _, rfl⟩
        have V2 := Lib.hid hv2
        clear hv2
        go_wp2_with fail
        refine (fvI_at V2.out A9 y c9 _ (RI.of_own O9.out) (by omega) W9.out).mono ?_
        rintro e w16 ⟨rfl, hb⟩
        have B16 := Lib.hid hb; have S16 : Hid (w15.heap.size ≤ w16.heap.size) := Lib.hid hb.size; clear hb
        have C16 := Lib.hid (C15.out.trans (B16.out.mono C15.out.size))
        go_wp2_with fail
        have T17 := Lib.hid (Two.new w16 (x2) (y2))
        have B17 : Hid (Below w16.heap.size w16 (w16.alloc (.cells #[.int .i64 (x2), .int .i64 (y2)] 35))) := Lib.hid ((Below.refl _ _).alloc (Nat.le_refl _) _)
        have S17 : Hid (w16.heap.size ≤ (w16.alloc (.cells #[.int .i64 (x2), .int .i64 (y2)] 35)).heap.size) := Lib.hid B17.out.size
        have C17 := Lib.hid (C16.out.trans (B17.out.mono C16.out.size))
        generalize w16.alloc (.cells #[.int .i64 (x2), .int .i64 (y2)] 35) = w17 at *
        refine (fvS_at V2.out A9 y c9 _ (((((RI.of_own O9.out).below B16.out).more B16.out.size).below B17.out).more B17.out.size) (by omega) W9.out).mono ?_
        rintro e w18 ⟨rfl, hb⟩
        have B18 := Lib.hid hb; have S18 : Hid (w17.heap.size ≤ w18.heap.size) := Lib.hid hb.size; clear hb
        have C18 := Lib.hid (C17.out.trans (B18.out.mono C17.out.size))
        obtain ⟨w19, hw19⟩ : ∃ W, w18.alloc (.cells #[.int .i64 (x2), .int .i64 (y2)] 35) = W := ⟨_, rfl⟩
        have T19 : Hid (Two w19 w18.heap.size (x2) (y2)) := Lib.hid (by rw [← hw19]; exact Two.new w18 (x2) (y2))
        have B19 : Hid (Below w18.heap.size w18 w19) := Lib.hid (by rw [← hw19]; exact (Below.refl _ _).alloc (Nat.le_refl _) _)
        have S19 : Hid (w18.heap.size ≤ w19.heap.size) := Lib.hid B19.out.size
        have C19 := Lib.hid (C18.out.trans (B19.out.mono C18.out.size))
        have tw12 := (((((((T12.out.far B13.out).far B14.out).far B15.out).far B16.out).far B17.out).far B18.out).far B19.out)
        have c12x := tw12.c0
        have c12y := tw12.c1
        clear tw12
        have tw14 := (((((T14.out.far B15.out).far B16.out).far B17.out).far B18.out).far B19.out)
        have c14x := tw14.c0
        have c14y := tw14.c1
        clear tw14
        have tw17 := ((T17.out.far B18.out).far B19.out)
        have c17x := tw17.c0
        have c17y := tw17.c1
        clear tw17
        have tw19 := T19.out
        have c19x := tw19.c0
        have c19y := tw19.c1
        clear tw19
        go_wp2_with fail
        go_ret
        exact ⟨rfl, C19.out⟩
    · have G3 := Lib.hid g3
      have G4 := Lib.hid g4
      clear g3 g4
      rcases (show (64 : Int) < (q : Int) ∨ (q : Int) ≤ 64 by omega) with h64 | h64
      · have G2 := Lib.hid g2
        clear g2
        go_wp2_with fail
        refine (nfI_at G1.out G2.out HM.out _).mono ?_
        rintro e w7 ⟨A6, c6, rfl, ho, hb⟩
        have B7 := Lib.hid hb; have S7 : Hid (w6.heap.size ≤ w7.heap.size) := Lib.hid hb.size; clear hb
        have C7 := Lib.hid (C6.out.trans (B7.out.mono C6.out.size))
        have O6 := Lib.hid ho; clear ho
        go_wp2_with fail
        refine (nfS_at G1.out G2.out HM.out _).mono ?_
        rintro e w8 ⟨A7, c7, rfl, ho, hb⟩
        have B8 := Lib.hid hb; have S8 : Hid (w7.heap.size ≤ w8.heap.size) := Lib.hid hb.size; clear hb
        have C8 := Lib.hid (C7.out.trans (B8.out.mono C7.out.size))
        have O7 := Lib.hid ho; clear ho
        go_wp2_with fail
        refine (likeInts_same A6 A7 q c6 c7 M _ w8.heap.size (((RI.of_own O6.out).below B8.out).more B8.out.size) (RI.of_own O7.out) (by omega)).mono ?_
        rintro e w9 ⟨rfl, m9, e9⟩
        have B9 : Hid (Below w8.heap.size w8 w9) := Lib.hid (by rw [e9]; exact drewN_below _ _)
        have S9 : Hid (w8.heap.size ≤ w9.heap.size) := Lib.hid B9.out.size
        have C9 := Lib.hid (C8.out.trans (B9.out.mono C8.out.size))
        clear e9
        go_wp2_with fail
        refine (DrawNegativeValue_any A n c _ ((HR.out.below C9.out).more C9.out.size) hn).mono ?_
        rintro e w10 ⟨A8, c8, zs, rfl, ho, hin, hlz, hb⟩
        have B10 := Lib.hid hb; have S10 : Hid (w9.heap.size ≤ w10.heap.size) := Lib.hid hb.size; clear hb
        have C10 := Lib.hid (C9.out.trans (B10.out.mono C9.out.size))
        have O8 := Lib.hid ho; have W8 := Lib.hid (wf_of_in hin); clear ho hin
        generalize hz : zs.length = z at *
        have HZ := Lib.hid hz
        clear hz
        obtain ⟨x1, y1, k1, hv1⟩ : ∃ x y k, nvR 2 2 (-1) zs = (x, y, k) := ⟨_, _, _, rfl⟩
        have V1 := Lib.hid hv1
        clear hv1
        go_wp2_with fail
        refine (nvI_at V1.out A8 z c8 _ (RI.of_own O8.out) (by omega) W8.out).mono ?_
        rintro e w11 ⟨rfl, hb⟩
        have B11 := Lib.hid hb; have S11 : Hid (w10.heap.size ≤ w11.heap.size) := Lib.hid hb.size; clear hb
        have C11 := Lib.hid (C10.out.trans (B11.out.mono C10.out.size))
        go_wp2_with fail
        have T12 := Lib.hid (Two.new w11 (x1) (y1))
        have B12 : Hid (Below w11.heap.size w11 (w11.alloc (.cells #[.int .i64 (x1), .int .i64 (y1)] 35))) := Lib.hid ((Below.refl _ _).alloc (Nat.le_refl _) _)
        have S12 : Hid (w11.heap.size ≤ (w11.alloc (.cells #[.int .i64 (x1), .int .i64 (y1)] 35)).heap.size) := Lib.hid B12.out.size
        have C12 := Lib.hid (C11.out.trans (B12.out.mono C11.out.size))
        generalize w11.alloc (.cells #[.int .i64 (x1), .int .i64 (y1)] 35) = w12 at *
        refine (nvS_at V1.out A8 z c8 _ (((((RI.of_own O8.out).below B11.out).more B11.out.size).below B12.out).more B12.out.size) (by omega) W8.out).mono ?_
        rintro e w13 ⟨rfl, hb⟩
        have B13 := Lib.hid hb; have S13 : Hid (w12.heap.size ≤ w13.heap.size) := Lib.hid hb.size; clear hb
        have C13 := Lib.hid (C12.out.trans (B13.out.mono C12.out.size))
        go_wp2_with fail
        have T14 := Lib.hid (Two.new w13 (x1) (y1))
        have B14 : Hid (Below w13.heap.size w13 (w13.alloc (.cells #[.int .i64 (x1), .int .i64 (y1)] 35))) := Lib.hid ((Below.refl _ _).alloc (Nat.le_refl _) _)
        have S14 : Hid (w13.heap.size ≤ (w13.alloc (.cells #[.int .i64 (x1), .int .i64 (y1)] 35)).heap.size) := Lib.hid B14.out.size
        have C14 := Lib.hid (C13.out.trans (B14.out.mono C13.out.size))
        generalize w13.alloc (.cells #[.int .i64 (x1), .int .i64 (y1)] 35) = w14 at *
        refine (DrawFractionValue_any A n c _ ((HR.out.below C14.out).more C14.out.size) hn).mono ?_
        rintro e w15 ⟨A9, c9, zt, rfl, ho, hin, hly, hb⟩
        have B15 := Lib.hid hb; have S15 : Hid (w14.heap.size ≤ w15.heap.size) := Lib.hid hb.size; clear hb
        have C15 := Lib.hid (C14.out.trans (B15.out.mono C14.out.size))
        have O9 := Lib.hid ho; have W9 := Lib.hid (wf_of_in hin); clear ho hin
        generalize hz : zt.length = y at *
        have HY := Lib.hid hz
        clear hz
        obtain ⟨x2, y2, k2, hv2⟩ : ∃ x y k, nvR 0 1 1 zt = (x, y, k) := ⟨_, _, _, rfl⟩
        have V2 := Lib.hid hv2
        clear hv2
        go_wp2_with fail
        refine (fvI_at V2.out A9 y c9 _ (RI.of_own O9.out) (by omega) W9.out).mono ?_
        rintro e w16 ⟨rfl, hb⟩
        have B16 := Lib.hid hb; have S16 : Hid (w15.heap.size ≤ w16.heap.size) := Lib.hid hb.size; clear hb
        have C16 := Lib.hid (C15.out.trans (B16.out.mono C15.out.size))
        go_wp2_with fail
        have T17 := Lib.hid (Two.new w16 (x2) (y2))
        have B17 : Hid (Below w16.heap.size w16 (w16.alloc (.cells #[.int .i64 (x2), .int .i64 (y2)] 35))) := Lib.hid ((Below.refl _ _).alloc (Nat.le_refl _) _)
        have S17 : Hid (w16.heap.size ≤ (w16.alloc (.cells #[.int .i64 (x2), .int .i64 (y2)] 35)).heap.size) := Lib.hid B17.out.size
        have C17 := Lib.hid (C16.out.trans (B17.out.mono C16.out.size))
        generalize w16.alloc (.cells #[.int .i64 (x2), .int .i64 (y2)] 35) = w17 at *
        refine (fvS_at V2.out A9 y c9 _ (((((RI.of_own O9.out).below B16.out).more B16.out.size).below B17.out).more B17.out.size) (by omega) W9.out).mono ?_
        rintro e w18 ⟨rfl, hb⟩
        have B18 := Lib.hid hb; have S18 : Hid (w17.heap.size ≤ w18.heap.size) := Lib.hid hb.size; clear hb
        have C18 := Lib.hid (C17.out.trans (B18.out.mono C17.out.size))
        obtain ⟨w19, hw19⟩ : ∃ W, w18.alloc (.cells #[.int .i64 (x2), .int .i64 (y2)] 35) = W := ⟨_, rfl⟩
        have T19 : Hid (Two w19 w18.heap.size (x2) (y2)) := Lib.hid (by rw [← hw19]; exact Two.new w18 (x2) (y2))
        have B19 : Hid (Below w18.heap.size w18 w19) := Lib.hid (by rw [← hw19]; exact (Below.refl _ _).alloc (Nat.le_refl _) _)
        have S19 : Hid (w18.heap.size ≤ w19.heap.size) := Lib.hid B19.out.size
        have C19 := Lib.hid (C18.out.trans (B19.out.mono C18.out.size))
        have tw12 := (((((((T12.out.far B13.out).far B14.out).far B15.out).far B16.out).far B17.out).far B18.out).far B19.out)
        have c12x := tw12.c0
        have c12y := tw12.c1
        clear tw12
        have tw14 := (((((T14.out.far B15.out).far B16.out).far B17.out).far B18.out).far B19.out)
        have c14x := tw14.c0
        have c14y := tw14.c1
        clear tw14
        have tw17 := ((T17.out.far B18.out).far B19.out)
        have c17x := tw17.c0
        have c17y := tw17.c1
        clear tw17
        have tw19 := T19.out
        have c19x := tw19.c0
        have c19y := tw19.c1
        clear tw19
        go_wp2_with fail
        go_ret
        exact ⟨rfl, C19.out⟩
      · have G2 := Lib.hid g2
        clear g2
        go_wp2_with fail
        refine (nfI_at G1.out G2.out HM.out _).mono ?_
        rintro e w7 ⟨A6, c6, rfl, ho, hb⟩
        have B7 := Lib.hid hb; have S7 : Hid (w6.heap.size ≤ w7.heap.size) := Lib.hid hb.size; clear hb
        have C7 := Lib.hid (C6.out.trans (B7.out.mono C6.out.size))
        have O6 := Lib.hid ho; clear ho
        go_wp2_with fail
        refine (nfS_at G1.out G2.out HM.out _).mono ?_
        rintro e w8 ⟨A7, c7, rfl, ho, hb⟩
        have B8 := Lib.hid hb; have S8 : Hid (w7.heap.size ≤ w8.heap.size) := Lib.hid hb.size; clear hb
        have C8 := Lib.hid (C7.out.trans (B8.out.mono C7.out.size))
        have O7 := Lib.hid ho; clear ho
        go_wp2_with fail
        refine (likeInts_same A6 A7 q c6 c7 M _ w8.heap.size (((RI.of_own O6.out).below B8.out).more B8.out.size) (RI.of_own O7.out) (by omega)).mono ?_
        rintro e w9 ⟨rfl, m9, e9⟩
        have B9 : Hid (Below w8.heap.size w8 w9) := Lib.hid (by rw [e9]; exact drewN_below _ _)
        have S9 : Hid (w8.heap.size ≤ w9.heap.size) := Lib.hid B9.out.size
        have C9 := Lib.hid (C8.out.trans (B9.out.mono C8.out.size))
        clear e9
        go_wp2_with fail
        refine (nvI_at (G3.out (by omega)) A6 q c6 _ ((((RI.of_own O6.out).below B8.out).more B8.out.size |>.below B9.out).more B9.out.size) (by omega) G4.out).mono ?_
        rintro e w10 ⟨rfl, hb⟩
        have B10 := Lib.hid hb; have S10 : Hid (w9.heap.size ≤ w10.heap.size) := Lib.hid hb.size; clear hb
        have C10 := Lib.hid (C9.out.trans (B10.out.mono C9.out.size))
        go_wp2_with fail
        have T11 := Lib.hid (Two.new w10 (cc) (dd))
        have B11 : Hid (Below w10.heap.size w10 (w10.alloc (.cells #[.int .i64 (cc), .int .i64 (dd)] 35))) := Lib.hid ((Below.refl _ _).alloc (Nat.le_refl _) _)
        have S11 : Hid (w10.heap.size ≤ (w10.alloc (.cells #[.int .i64 (cc), .int .i64 (dd)] 35)).heap.size) := Lib.hid B11.out.size
        have C11 := Lib.hid (C10.out.trans (B11.out.mono C10.out.size))
        generalize w10.alloc (.cells #[.int .i64 (cc), .int .i64 (dd)] 35) = w11 at *
        have tw11 := T11.out
        have c11x := tw11.c0
        have c11y := tw11.c1
        clear tw11
        go_wp2_with fail
        refine (DrawNegativeValue_any A n c _ ((HR.out.below C11.out).more C11.out.size) hn).mono ?_
        rintro e w12 ⟨A8, c8, zs, rfl, ho, hin, hlz, hb⟩
        have B12 := Lib.hid hb; have S12 : Hid (w11.heap.size ≤ w12.heap.size) := Lib.hid hb.size; clear hb
        have C12 := Lib.hid (C11.out.trans (B12.out.mono C11.out.size))
        have O8 := Lib.hid ho; have W8 := Lib.hid (wf_of_in hin); clear ho hin
        generalize hz : zs.length = z at *
        have HZ := Lib.hid hz
        clear hz
        obtain ⟨x1, y1, k1, hv1⟩ : ∃ x y k, nvR 2 2 (-1) zs = (x, y, k) := ⟨_, _, _, rfl⟩
        have V1 := Lib.hid hv1
        clear hv1
        go_wp2_with fail
        refine (nvI_at V1.out A8 z c8 _ (RI.of_own O8.out) (by omega) W8.out).mono ?_
        rintro e w13 ⟨rfl, hb⟩
        have B13 := Lib.hid hb; have S13 : Hid (w12.heap.size ≤ w13.heap.size) := Lib.hid hb.size; clear hb
        have C13 := Lib.hid (C12.out.trans (B13.out.mono C12.out.size))
        go_wp2_with fail
        have T14 := Lib.hid (Two.new w13 (x1) (y1))
        have B14 : Hid (Below w13.heap.size w13 (w13.alloc (.cells #[.int .i64 (x1), .int .i64 (y1)] 35))) := Lib.hid ((Below.refl _ _).alloc (Nat.le_refl _) _)
        have S14 : Hid (w13.heap.size ≤ (w13.alloc (.cells #[.int .i64 (x1), .int .i64 (y1)] 35)).heap.size) := Lib.hid B14.out.size
        have C14 := Lib.hid (C13.out.trans (B14.out.mono C13.out.size))
        generalize w13.alloc (.cells #[.int .i64 (x1), .int .i64 (y1)] 35) = w14 at *
        refine (nvS_at V1.out A8 z c8 _ (((((RI.of_own O8.out).below B13.out).more B13.out.size).below B14.out).more B14.out.size) (by omega) W8.out).mono ?_
        rintro e w15 ⟨rfl, hb⟩
        have B15 := Lib.hid hb; have S15 : Hid (w14.heap.size ≤ w15.heap.size) := Lib.hid hb.size; clear hb
        have C15 := Lib.hid (C14.out.trans (B15.out.mono C14.out.size))
        go_wp2_with fail
        have T16 := Lib.hid (Two.new w15 (x1) (y1))
        have B16 : Hid (Below w15.heap.size w15 (w15.alloc (.cells #[.int .i64 (x1), .int .i64 (y1)] 35))) := Lib.hid ((Below.refl _ _).alloc (Nat.le_refl _) _)
        have S16 : Hid (w15.heap.size ≤ (w15.alloc (.cells #[.int .i64 (x1), .int .i64 (y1)] 35)).heap.size) := Lib.hid B16.out.size
        have C16 := Lib.hid (C15.out.trans (B16.out.mono C15.out.size))
        generalize w15.alloc (.cells #[.int .i64 (x1), .int .i64 (y1)] 35) = w16 at *
        refine (DrawFractionValue_any A n c _ ((HR.out.below C16.out).more C16.out.size) hn).mono ?_
        rintro e w17 ⟨A9, c9, zt, rfl, ho, hin, hly, hb⟩
        have B17 := Lib.hid hb; have S17 : Hid (w16.heap.size ≤ w17.heap.size) := Lib.hid hb.size; clear hb
        have C17 := Lib.hid (C16.out.trans (B17.out.mono C16.out.size))
        have O9 := Lib.hid ho; have W9 := Lib.hid (wf_of_in hin); clear ho hin
        generalize hz : zt.length = y at *
        have HY := Lib.hid hz
        clear hz
        obtain ⟨x2, y2, k2, hv2⟩ : ∃ x y k, nvR 0 1 1 zt = (x, y, k) := ⟨_, _, _, rfl⟩
        have V2 := Lib.hid hv2
        clear hv2
        go_wp2_with fail
        refine (fvI_at V2.out A9 y c9 _ (RI.of_own O9.out) (by omega) W9.out).mono ?_
        rintro e w18 ⟨rfl, hb⟩
        have B18 := Lib.hid hb; have S18 : Hid (w17.heap.size ≤ w18.heap.size) := Lib.hid hb.size; clear hb
        have C18 := Lib.hid (C17.out.trans (B18.out.mono C17.out.size))
        go_wp2_with fail
        have T19 := Lib.hid (Two.new w18 (x2) (y2))
        have B19 : Hid (Below w18.heap.size w18 (w18.alloc (.cells #[.int .i64 (x2), .int .i64 (y2)] 35))) := Lib.hid ((Below.refl _ _).alloc (Nat.le_refl _) _)
        have S19 : Hid (w18.heap.size ≤ (w18.alloc (.cells #[.int .i64 (x2), .int .i64 (y2)] 35)).heap.size) := Lib.hid B19.out.size
        have C19 := Lib.hid (C18.out.trans (B19.out.mono C18.out.size))
        generalize w18.alloc (.cells #[.int .i64 (x2), .int .i64 (y2)] 35) = w19 at *
        refine (fvS_at V2.out A9 y c9 _ (((((RI.of_own O9.out).below B18.out).more B18.out.size).below B19.out).more B19.out.size) (by omega) W9.out).mono ?_
        rintro e w20 ⟨rfl, hb⟩
        have B20 := Lib.hid hb; have S20 : Hid (w19.heap.size ≤ w20.heap.size) := Lib.hid hb.size; clear hb
        have C20 := Lib.hid (C19.out.trans (B20.out.mono C19.out.size))
        obtain ⟨w21, hw21⟩ : ∃ W, w20.alloc (.cells #[.int .i64 (x2), .int .i64 (y2)] 35) = W := ⟨_, rfl⟩
        have T21 : Hid (Two w21 w20.heap.size (x2) (y2)) := Lib.hid (by rw [← hw21]; exact Two.new w20 (x2) (y2))
        have B21 : Hid (Below w20.heap.size w20 w21) := Lib.hid (by rw [← hw21]; exact (Below.refl _ _).alloc (Nat.le_refl _) _)
        have S21 : Hid (w20.heap.size ≤ w21.heap.size) := Lib.hid B21.out.size
        have C21 := Lib.hid (C20.out.trans (B21.out.mono C20.out.size))
        have tw14 := (((((((T14.out.far B15.out).far B16.out).far B17.out).far B18.out).far B19.out).far B20.out).far B21.out)
        have c14x := tw14.c0
        have c14y := tw14.c1
        clear tw14
        have tw16 := (((((T16.out.far B17.out).far B18.out).far B19.out).far B20.out).far B21.out)
        have c16x := tw16.c0
        have c16y := tw16.c1
        clear tw16
        have tw19 := ((T19.out.far B20.out).far B21.out)
        have c19x := tw19.c0
        have c19y := tw19.c1
        clear tw19
        have tw21 := T21.out
        have c21x := tw21.c0
        have c21y := tw21.c1
        clear tw21
        go_wp2_with fail
        go_ret
        exact ⟨rfl, C21.out⟩
  · have H3 := Lib.hid h3; have NA := Lib.hid na; have NB := Lib.hid nb
    clear h3 na nb
    go_wp2_with fail
    refine (esI_at H1.out H3.out HL.out _).mono ?_
    rintro e w2 ⟨A2, c2, vf2, rfl, ho, hb⟩
    have B2 := Lib.hid hb; have S2 : Hid (w1.heap.size ≤ w2.heap.size) := Lib.hid hb.size; clear hb
    have C2 := Lib.hid (C1.out.trans (B2.out.mono C1.out.size))
    have O2 := Lib.hid ho; clear ho
    go_wp2_with fail
    refine (esS_at H1.out H3.out HL.out _).mono ?_
    rintro e w3 ⟨A3, c3, vf3, rfl, ho, hb⟩
    have B3 := Lib.hid hb; have S3 : Hid (w2.heap.size ≤ w3.heap.size) := Lib.hid hb.size; clear hb
    have C3 := Lib.hid (C2.out.trans (B3.out.mono C2.out.size))
    have O3 := Lib.hid ho; clear ho
    go_wp2_with fail
    refine (cfI_at (n := m) H2.out H3.out (by rw [List.length_map]; exact HL.out) _).mono ?_
    rintro e w4 ⟨A4, c4, rfl, ho, hb⟩
    have B4 := Lib.hid hb; have S4 : Hid (w3.heap.size ≤ w4.heap.size) := Lib.hid hb.size; clear hb
    have C4 := Lib.hid (C3.out.trans (B4.out.mono C3.out.size))
    have O4 := Lib.hid ho; clear ho
    go_wp2_with fail
    refine (likeRows5_same A2 A3 m c2 c3 (stF _) _ w4.heap.size (((O2.out.reads.below B3.out).more B3.out.size |>.below B4.out).more B4.out.size) ((O3.out.reads.below B4.out).more B4.out.size) (by omega) (fun k _ => by rw [stF_len]; omega)).mono ?_
    rintro e w5 ⟨rfl, m5, e5⟩
    have B5 : Hid (Below w4.heap.size w4 w5) := Lib.hid (by rw [e5]; exact drewN_below _ _)
    have S5 : Hid (w4.heap.size ≤ w5.heap.size) := Lib.hid B5.out.size
    have C5 := Lib.hid (C4.out.trans (B5.out.mono C4.out.size))
    clear e5
    go_wp2_with fail
    have R2 := Lib.hid ((((O2.out.reads.below B3.out).more B3.out.size |>.below B4.out).more B4.out.size |>.below B5.out).more B5.out.size)
    have R4 := Lib.hid (((RI.of_own O4.out).below B5.out).more B5.out.size)
    go_loopw [11, 12] (fun vt vi wr => ∃ (k : Nat) (t : Int), k ≤ m ∧ vi = .int .i64 k ∧ vt = .int .i64 t ∧ Hid (sumS ((steps a b).take k) = t) ∧ Hid (Below w5.heap.size w5 wr)) (fun _ vi _ => m - (intOf vi).toNat)
    case atStart => exact ⟨0, 0, by omega, rfl, rfl, Lib.hid (by simp [sumS]), Lib.hid (Below.refl _ _)⟩
    case round =>
      obtain ⟨k, t, hk, rfl, rfl, ht, hbr⟩ := hrel
      by_cases hlt : k < m
      · obtain ⟨p, A1, c1, rfl, _, hcell, hri⟩ := (R2.out.below hbr.out) k hlt
        obtain ⟨p1, rfl, _, hc0⟩ := hri.2 0 (by rw [stF_len]; omega)
        obtain ⟨p1', e1, _, hc1⟩ := hri.2 1 (by rw [stF_len]; omega)
        cases e1
        obtain ⟨pl, rfl, _, hcl⟩ := (R4.out.below hbr.out).2 k hlt
        obtain ⟨q, hq⟩ : ∃ q, ((steps a b)[k]?.getD (0, 0)).1 = q := ⟨_, rfl⟩
        obtain ⟨r, hr⟩ : ∃ r, ((steps a b)[k]?.getD (0, 0)).2 = r := ⟨_, rfl⟩
        obtain ⟨f1, f2, f3, f4, f5, f6⟩ := step_at a b NA.out NB.out k (by rw [HL.out]; exact hlt) q r t hq hr ht.out
        have hcell' : wr.cell? (p.add k) = some (.slice (some p1) 2 c1) := hcell
        have hc0' : wr.cell? (p1.add 0) = some (.int .i64 q) := by rw [hc0, ← hq]; rfl
        have hc1' : wr.cell? (p1.add 1) = some (.int .i64 r) := by rw [hc1, ← hr]; rfl
        have hcl' : wr.cell? (pl.add k) = some (.int .i64 q) := by
          rw [hcl, ← hq]
          have hk2 : k < (steps a b).length := by rw [HL.out]; exact hlt
          simp [List.getD, hk2]
        have hc0'' : wr.cell? p1 = some (.int .i64 q) := hc0'
        have hc1'' : wr.cell? ⟨p1.block, p1.off + 1, none⟩ = some (.int .i64 r) := hc1'
        have hk0 : (0 : Int) ≤ (k : Int) := Int.natCast_nonneg _
        have hk1 : (k : Int) < (m : Int) := by omega
        have F6 := Lib.hid f6
        clear hcell hri hc0 hc1 hcl hq hr f6
        go_wp2
        go_quiet (fail)
        go_wp2
        go_quiet (fail)
        go_wp2
        go_roundw
        case rel => exact ⟨k + 1, t + q * r * r, by omega, by go_num, rfl, F6, Lib.hid (hbr.out.trans (drewN_below _ _))⟩
        case measure => simp [intOf]; omega
      · obtain rfl : k = m := by omega
        have hsum : t = a * b := ht.out.symm.trans (sum_all a b NA.out NB.out _ HL.out)
        clear ht
        have na := natB_true.1 NA.out
        have nb := natB_true.1 NB.out
        have hab : 0 ≤ a * b ∧ a * b ≤ 1000000000000000000 := by
          have h1 : a * b ≤ 1000000000 * 1000000000 := Int.mul_le_mul na.2 nb.2 (by omega) (by omega)
          have h2 := Int.mul_nonneg (show 0 ≤ a by omega) (show 0 ≤ b by omega)
          omega
        subst hsum
        obtain ⟨g, x, y, gg, gx, gy, hx, hy, hg1, hx1, hy1, hv⟩ := quot_at a b NA.out NB.out
        have GG := Lib.hid gg
        have V := Lib.hid hv
        clear gg gx gy hv
        have hbr' := hbr
        have B6 : Hid (Below w5.heap.size w5 wr) := hbr
        clear hbr hbr'
        have S6 : Hid (w5.heap.size ≤ wr.heap.size) := Lib.hid B6.out.size
        have C6 := Lib.hid (C5.out.trans (B6.out.mono C5.out.size))
        go_wp2_with fail
        refine (cd_at NA.out NB.out _).mono ?_
        rintro e w7 ⟨rfl, hb⟩
        rw [GG.out]
        have B7 := Lib.hid hb; have S7 : Hid (wr.heap.size ≤ w7.heap.size) := Lib.hid hb.size; clear hb
        have C7 := Lib.hid (C6.out.trans (B7.out.mono C6.out.size))
        go_wp2_with fail
        refine (fvI_at V.out A4 _ c4 _ (((R4.out.below B6.out).more B6.out.size |>.below B7.out).more B7.out.size) (by omega) (wf_of_ok (l := 0) (o := 1) (by omega) (by omega) (okL_steps _ a b 0 na (by omega) (.inl (by omega))))).mono ?_
        rintro e w8 ⟨rfl, hb⟩
        have B8 := Lib.hid hb; have S8 : Hid (w7.heap.size ≤ w8.heap.size) := Lib.hid hb.size; clear hb
        have C8 := Lib.hid (C7.out.trans (B8.out.mono C7.out.size))
        go_wp2_with fail
        have T9 := Lib.hid (Two.new w8 (x) (y))
        have B9 : Hid (Below w8.heap.size w8 (w8.alloc (.cells #[.int .i64 (x), .int .i64 (y)] 35))) := Lib.hid ((Below.refl _ _).alloc (Nat.le_refl _) _)
        have S9 : Hid (w8.heap.size ≤ (w8.alloc (.cells #[.int .i64 (x), .int .i64 (y)] 35)).heap.size) := Lib.hid B9.out.size
        have C9 := Lib.hid (C8.out.trans (B9.out.mono C8.out.size))
        generalize w8.alloc (.cells #[.int .i64 (x), .int .i64 (y)] 35) = w9 at *
        have tw9 := T9.out
        have c9x := tw9.c0
        have c9y := tw9.c1
        clear tw9
        go_wp2_with fail
        refine (DrawNegativeFraction_any A n c _ ((HR.out.below C9.out).more C9.out.size) hn).mono ?_
        rintro e w10 ⟨cc, dd, rfl, hc, hd, hb⟩
        have B10 := Lib.hid hb; have S10 : Hid (w9.heap.size ≤ w10.heap.size) := Lib.hid hb.size; clear hb
        have C10 := Lib.hid (C9.out.trans (B10.out.mono C9.out.size))
        obtain ⟨M, q, hM, hq, g1, g2⟩ := nf_cases cc dd
        have HM := Lib.hid hM
        have G1 := Lib.hid g1
        clear hM g1
        rcases g2 with ⟨K, g2, g3⟩ | ⟨g2, g3, g4⟩
        · rcases g3 with rfl | rfl | rfl
          all_goals
            have G2 := Lib.hid g2
            clear g2
            go_wp2_with fail
            refine (nfI_at G1.out G2.out HM.out _).mono ?_
            rintro e w11 ⟨A6, c6, rfl, ho, hb⟩
            have B11 := Lib.hid hb; have S11 : Hid (w10.heap.size ≤ w11.heap.size) := Lib.hid hb.size; clear hb
            have C11 := Lib.hid (C10.out.trans (B11.out.mono C10.out.size))
            have O6 := Lib.hid ho; clear ho
            go_wp2_with fail
            refine (nfS_at G1.out G2.out HM.out _).mono ?_
            rintro e w12 ⟨A7, c7, rfl, ho, hb⟩
            have B12 := Lib.hid hb; have S12 : Hid (w11.heap.size ≤ w12.heap.size) := Lib.hid hb.size; clear hb
            have C12 := Lib.hid (C11.out.trans (B12.out.mono C11.out.size))
            have O7 := Lib.hid ho; clear ho
            go_wp2_with fail
            refine (likeInts_same A6 A7 q c6 c7 M _ w12.heap.size (((RI.of_own O6.out).below B12.out).more B12.out.size) (RI.of_own O7.out) (by omega)).mono ?_
            rintro e w13 ⟨rfl, m13, e13⟩
            have B13 : Hid (Below w12.heap.size w12 w13) := Lib.hid (by rw [e13]; exact drewN_below _ _)
            have S13 : Hid (w12.heap.size ≤ w13.heap.size) := Lib.hid B13.out.size
            have C13 := Lib.hid (C12.out.trans (B13.out.mono C12.out.size))
            clear e13
            go_wp2_with fail
            refine (DrawNegativeValue_any A n c _ ((HR.out.below C13.out).more C13.out.size) hn).mono ?_
            rintro e w14 ⟨A8, c8, zs, rfl, ho, hin, hlz, hb⟩
            have B14 := Lib.hid hb; have S14 : Hid (w13.heap.size ≤ w14.heap.size) := Lib.hid hb.size; clear hb
            have C14 := Lib.hid (C13.out.trans (B14.out.mono C13.out.size))
            have O8 := Lib.hid ho; have W8 := Lib.hid (wf_of_in hin); clear ho hin
            generalize hz : zs.length = z at *
            have HZ := Lib.hid hz
            clear hz
            obtain ⟨x1, y1, k1, hv1⟩ : ∃ x y k, nvR 2 2 (-1) zs = (x, y, k) := ⟨_, _, _, rfl⟩
            have V1 := Lib.hid hv1
            clear hv1
            go_wp2_with fail
            refine (nvI_at V1.out A8 z c8 _ (RI.of_own O8.out) (by omega) W8.out).mono ?_
            rintro e w15 ⟨rfl, hb⟩
            have B15 := Lib.hid hb; have S15 : Hid (w14.heap.size ≤ w15.heap.size) := Lib.hid hb.size; clear hb
            have C15 := Lib.hid (C14.out.trans (B15.out.mono C14.out.size))
            go_wp2_with fail
            have T16 := Lib.hid (Two.new w15 (x1) (y1))
            have B16 : Hid (Below w15.heap.size w15 (w15.alloc (.cells #[.int .i64 (x1), .int .i64 (y1)] 35))) := Lib.hid ((Below.refl _ _).alloc (Nat.le_refl _) _)
            have S16 : Hid (w15.heap.size ≤ (w15.alloc (.cells #[.int .i64 (x1), .int .i64 (y1)] 35)).heap.size) := Lib.hid B16.out.size
            have C16 := Lib.hid (C15.out.trans (B16.out.mono C15.out.size))
            generalize w15.alloc (.cells #[.int .i64 (x1), .int .i64 (y1)] 35) = w16 at *
            refine (nvS_at V1.out A8 z c8 _ (((((RI.of_own O8.out).below B15.out).more B15.out.size).below B16.out).more B16.out.size) (by omega) W8.out).mono ?_
            rintro e w17 ⟨rfl, hb⟩
            have B17 := Lib.hid hb; have S17 : Hid (w16.heap.size ≤ w17.heap.size) := Lib.hid hb.size; clear hb
            have C17 := Lib.hid (C16.out.trans (B17.out.mono C16.out.size))
            go_wp2_with fail
            have T18 := Lib.hid (Two.new w17 (x1) (y1))
            have B18 : Hid (Below w17.heap.size w17 (w17.alloc (.cells #[.int .i64 (x1), .int .i64 (y1)] 35))) := Lib.hid ((Below.refl _ _).alloc (Nat.le_refl _) _)
            have S18 : Hid (w17.heap.size ≤ (w17.alloc (.cells #[.int .i64 (x1), .int .i64 (y1)] 35)).heap.size) := Lib.hid B18.out.size
            have C18 := Lib.hid (C17.out.trans (B18.out.mono C17.out.size))
            generalize w17.alloc (.cells #[.int .i64 (x1), .int .i64 (y1)] 35) = w18 at *
            refine (DrawFractionValue_any A n c _ ((HR.out.below C18.out).more C18.out.size) hn).mono ?_
            rintro e w19 ⟨A9, c9, zt, rfl, ho, hin, hly, hb⟩
            have B19 := Lib.hid hb; have S19 : Hid (w18.heap.size ≤ w19.heap.size) := Lib.hid hb.size; clear hb
            have C19 := Lib.hid (C18.out.trans (B19.out.mono C18.out.size))
            have O9 := Lib.hid ho; have W9 := Lib.hid (wf_of_in hin); clear ho hin
            generalize hz : zt.length = y at *
            have HY := Lib.hid hz
            clear hz
            obtain ⟨x2, y2, k2, hv2⟩ : ∃ x y k, nvR 0 1 1 zt = (x, y, k) := ⟨_, _, _, rfl⟩
            have V2 := Lib.hid hv2
            clear hv2
            go_wp2_with fail
            refine (fvI_at V2.out A9 y c9 _ (RI.of_own O9.out) (by omega) W9.out).mono ?_
            rintro e w20 ⟨rfl, hb⟩
            have B20 := Lib.hid hb; have S20 : Hid (w19.heap.size ≤ w20.heap.size) := Lib.hid hb.size; clear hb
            have C20 := Lib.hid (C19.out.trans (B20.out.mono C19.out.size))
            go_wp2_with fail
            have T21 := Lib.hid (Two.new w20 (x2) (y2))
            have B21 : Hid (Below w20.heap.size w20 (w20.alloc (.cells #[.int .i64 (x2), .int .i64 (y2)] 35))) := Lib.hid ((Below.refl _ _).alloc (Nat.le_refl _) _)
            have S21 : Hid (w20.heap.size ≤ (w20.alloc (.cells #[.int .i64 (x2), .int .i64 (y2)] 35)).heap.size) := Lib.hid B21.out.size
            have C21 := Lib.hid (C20.out.trans (B21.out.mono C20.out.size))
            generalize w20.alloc (.cells #[.int .i64 (x2), .int .i64 (y2)] 35) = w21 at *
            refine (fvS_at V2.out A9 y c9 _ (((((RI.of_own O9.out).below B20.out).more B20.out.size).below B21.out).more B21.out.size) (by omega) W9.out).mono ?_
            rintro e w22 ⟨rfl, hb⟩
            have B22 := Lib.hid hb; have S22 : Hid (w21.heap.size ≤ w22.heap.size) := Lib.hid hb.size; clear hb
            have C22 := Lib.hid (C21.out.trans (B22.out.mono C21.out.size))
            obtain ⟨w23, hw23⟩ : ∃ W, w22.alloc (.cells #[.int .i64 (x2), .int .i64 (y2)] 35) = W := ⟨_, rfl⟩
            have T23 : Hid (Two w23 w22.heap.size (x2) (y2)) := Lib.hid (by rw [← hw23]; exact Two.new w22 (x2) (y2))
            have B23 : Hid (Below w22.heap.size w22 w23) := Lib.hid (by rw [← hw23]; exact (Below.refl _ _).alloc (Nat.le_refl _) _)
            have S23 : Hid (w22.heap.size ≤ w23.heap.size) := Lib.hid B23.out.size
            have C23 := Lib.hid (C22.out.trans (B23.out.mono C22.out.size))
            have tw16 := (((((((T16.out.far B17.out).far B18.out).far B19.out).far B20.out).far B21.out).far B22.out).far B23.out)
            have c16x := tw16.c0
            have c16y := tw16.c1
            clear tw16
            have tw18 := (((((T18.out.far B19.out).far B20.out).far B21.out).far B22.out).far B23.out)
            have c18x := tw18.c0
            have c18y := tw18.c1
            clear tw18
            have tw21 := ((T21.out.far B22.out).far B23.out)
            have c21x := tw21.c0
            have c21y := tw21.c1
            clear tw21
            have tw23 := T23.out
            have c23x := tw23.c0
            have c23y := tw23.c1
            clear tw23
            go_wp2_with fail
            go_ret
            exact ⟨rfl, C23.out⟩
        · have G3 := Lib.hid g3
          have G4 := Lib.hid g4
          clear g3 g4
          rcases (show (64 : Int) < (q : Int) ∨ (q : Int) ≤ 64 by omega) with h64 | h64
          · have G2 := Lib.hid g2
            clear g2
            go_wp2_with fail
            refine (nfI_at G1.out G2.out HM.out _).mono ?_
            rintro e w11 ⟨A6, c6, rfl, ho, hb⟩
            have B11 := Lib.hid hb; have S11 : Hid (w10.heap.size ≤ w11.heap.size) := Lib.hid hb.size; clear hb
            have C11 := Lib.hid (C10.out.trans (B11.out.mono C10.out.size))
            have O6 := Lib.hid ho; clear ho
            go_wp2_with fail
            refine (nfS_at G1.out G2.out HM.out _).mono ?_
            rintro e w12 ⟨A7, c7, rfl, ho, hb⟩
            have B12 := Lib.hid hb; have S12 : Hid (w11.heap.size ≤ w12.heap.size) := Lib.hid hb.size; clear hb
            have C12 := Lib.hid (C11.out.trans (B12.out.mono C11.out.size))
            have O7 := Lib.hid ho; clear ho
            go_wp2_with fail
            refine (likeInts_same A6 A7 q c6 c7 M _ w12.heap.size (((RI.of_own O6.out).below B12.out).more B12.out.size) (RI.of_own O7.out) (by omega)).mono ?_
            rintro e w13 ⟨rfl, m13, e13⟩
            have B13 : Hid (Below w12.heap.size w12 w13) := Lib.hid (by rw [e13]; exact drewN_below _ _)
            have S13 : Hid (w12.heap.size ≤ w13.heap.size) := Lib.hid B13.out.size
            have C13 := Lib.hid (C12.out.trans (B13.out.mono C12.out.size))
            clear e13
            go_wp2_with fail
            refine (DrawNegativeValue_any A n c _ ((HR.out.below C13.out).more C13.out.size) hn).mono ?_
            rintro e w14 ⟨A8, c8, zs, rfl, ho, hin, hlz, hb⟩
            have B14 := Lib.hid hb; have S14 : Hid (w13.heap.size ≤ w14.heap.size) := Lib.hid hb.size; clear hb
            have C14 := Lib.hid (C13.out.trans (B14.out.mono C13.out.size))
            have O8 := Lib.hid ho; have W8 := Lib.hid (wf_of_in hin); clear ho hin
            generalize hz : zs.length = z at *
            have HZ := Lib.hid hz
            clear hz
            obtain ⟨x1, y1, k1, hv1⟩ : ∃ x y k, nvR 2 2 (-1) zs = (x, y, k) := ⟨_, _, _, rfl⟩
            have V1 := Lib.hid hv1
            clear hv1
            go_wp2_with fail
            refine (nvI_at V1.out A8 z c8 _ (RI.of_own O8.out) (by omega) W8.out).mono ?_
            rintro e w15 ⟨rfl, hb⟩
            have B15 := Lib.hid hb; have S15 : Hid (w14.heap.size ≤ w15.heap.size) := Lib.hid hb.size; clear hb
            have C15 := Lib.hid (C14.out.trans (B15.out.mono C14.out.size))
            go_wp2_with fail
            have T16 := Lib.hid (Two.new w15 (x1) (y1))
            have B16 : Hid (Below w15.heap.size w15 (w15.alloc (.cells #[.int .i64 (x1), .int .i64 (y1)] 35))) := Lib.hid ((Below.refl _ _).alloc (Nat.le_refl _) _)
            have S16 : Hid (w15.heap.size ≤ (w15.alloc (.cells #[.int .i64 (x1), .int .i64 (y1)] 35)).heap.size) := Lib.hid B16.out.size
            have C16 := Lib.hid (C15.out.trans (B16.out.mono C15.out.size))
            generalize w15.alloc (.cells #[.int .i64 (x1), .int .i64 (y1)] 35) = w16 at *
            refine (nvS_at V1.out A8 z c8 _ (((((RI.of_own O8.out).below B15.out).more B15.out.size).below B16.out).more B16.out.size) (by omega) W8.out).mono ?_
            rintro e w17 ⟨rfl, hb⟩
            have B17 := Lib.hid hb; have S17 : Hid (w16.heap.size ≤ w17.heap.size) := Lib.hid hb.size; clear hb
            have C17 := Lib.hid (C16.out.trans (B17.out.mono C16.out.size))
            go_wp2_with fail
            have T18 := Lib.hid (Two.new w17 (x1) (y1))
            have B18 : Hid (Below w17.heap.size w17 (w17.alloc (.cells #[.int .i64 (x1), .int .i64 (y1)] 35))) := Lib.hid ((Below.refl _ _).alloc (Nat.le_refl _) _)
            have S18 : Hid (w17.heap.size ≤ (w17.alloc (.cells #[.int .i64 (x1), .int .i64 (y1)] 35)).heap.size) := Lib.hid B18.out.size
            have C18 := Lib.hid (C17.out.trans (B18.out.mono C17.out.size))
            generalize w17.alloc (.cells #[.int .i64 (x1), .int .i64 (y1)] 35) = w18 at *
            refine (DrawFractionValue_any A n c _ ((HR.out.below C18.out).more C18.out.size) hn).mono ?_
            rintro e w19 ⟨A9, c9, zt, rfl, ho, hin, hly, hb⟩
            have B19 := Lib.hid hb; have S19 : Hid (w18.heap.size ≤ w19.heap.size) := Lib.hid hb.size; clear hb
            have C19 := Lib.hid (C18.out.trans (B19.out.mono C18.out.size))
            have O9 := Lib.hid ho; have W9 := Lib.hid (wf_of_in hin); clear ho hin
            generalize hz : zt.length = y at *
            have HY := Lib.hid hz
            clear hz
            obtain ⟨x2, y2, k2, hv2⟩ : ∃ x y k, nvR 0 1 1 zt = (x, y, k) := ⟨_, _, _, rfl⟩
            have V2 := Lib.hid hv2
            clear hv2
            go_wp2_with fail
            refine (fvI_at V2.out A9 y c9 _ (RI.of_own O9.out) (by omega) W9.out).mono ?_
            rintro e w20 ⟨rfl, hb⟩
            have B20 := Lib.hid hb; have S20 : Hid (w19.heap.size ≤ w20.heap.size) := Lib.hid hb.size; clear hb
            have C20 := Lib.hid (C19.out.trans (B20.out.mono C19.out.size))
            go_wp2_with fail
            have T21 := Lib.hid (Two.new w20 (x2) (y2))
            have B21 : Hid (Below w20.heap.size w20 (w20.alloc (.cells #[.int .i64 (x2), .int .i64 (y2)] 35))) := Lib.hid ((Below.refl _ _).alloc (Nat.le_refl _) _)
            have S21 : Hid (w20.heap.size ≤ (w20.alloc (.cells #[.int .i64 (x2), .int .i64 (y2)] 35)).heap.size) := Lib.hid B21.out.size
            have C21 := Lib.hid (C20.out.trans (B21.out.mono C20.out.size))
            generalize w20.alloc (.cells #[.int .i64 (x2), .int .i64 (y2)] 35) = w21 at *
            refine (fvS_at V2.out A9 y c9 _ (((((RI.of_own O9.out).below B20.out).more B20.out.size).below B21.out).more B21.out.size) (by omega) W9.out).mono ?_
            rintro e w22 ⟨rfl, hb⟩
            have B22 := Lib.hid hb; have S22 : Hid (w21.heap.size ≤ w22.heap.size) := Lib.hid hb.size; clear hb
            have C22 := Lib.hid (C21.out.trans (B22.out.mono C21.out.size))
            obtain ⟨w23, hw23⟩ : ∃ W, w22.alloc (.cells #[.int .i64 (x2), .int .i64 (y2)] 35) = W := ⟨_, rfl⟩
            have T23 : Hid (Two w23 w22.heap.size (x2) (y2)) := Lib.hid (by rw [← hw23]; exact Two.new w22 (x2) (y2))
            have B23 : Hid (Below w22.heap.size w22 w23) := Lib.hid (by rw [← hw23]; exact (Below.refl _ _).alloc (Nat.le_refl _) _)
            have S23 : Hid (w22.heap.size ≤ w23.heap.size) := Lib.hid B23.out.size
            have C23 := Lib.hid (C22.out.trans (B23.out.mono C22.out.size))
            have tw16 := (((((((T16.out.far B17.out).far B18.out).far B19.out).far B20.out).far B21.out).far B22.out).far B23.out)
            have c16x := tw16.c0
            have c16y := tw16.c1
            clear tw16
            have tw18 := (((((T18.out.far B19.out).far B20.out).far B21.out).far B22.out).far B23.out)
            have c18x := tw18.c0
            have c18y := tw18.c1
            clear tw18
            have tw21 := ((T21.out.far B22.out).far B23.out)
            have c21x := tw21.c0
            have c21y := tw21.c1
            clear tw21
            have tw23 := T23.out
            have c23x := tw23.c0
            have c23y := tw23.c1
            clear tw23
            go_wp2_with fail
            go_ret
            exact ⟨rfl, C23.out⟩
          · have G2 := Lib.hid g2
            clear g2
            go_wp2_with fail
            refine (nfI_at G1.out G2.out HM.out _).mono ?_
            rintro e w11 ⟨A6, c6, rfl, ho, hb⟩
            have B11 := Lib.hid hb; have S11 : Hid (w10.heap.size ≤ w11.heap.size) := Lib.hid hb.size; clear hb
            have C11 := Lib.hid (C10.out.trans (B11.out.mono C10.out.size))
            have O6 := Lib.hid ho; clear ho
            go_wp2_with fail
            refine (nfS_at G1.out G2.out HM.out _).mono ?_
            rintro e w12 ⟨A7, c7, rfl, ho, hb⟩
            have B12 := Lib.hid hb; have S12 : Hid (w11.heap.size ≤ w12.heap.size) := Lib.hid hb.size; clear hb
            have C12 := Lib.hid (C11.out.trans (B12.out.mono C11.out.size))
            have O7 := Lib.hid ho; clear ho
            go_wp2_with fail
            refine (likeInts_same A6 A7 q c6 c7 M _ w12.heap.size (((RI.of_own O6.out).below B12.out).more B12.out.size) (RI.of_own O7.out) (by omega)).mono ?_
            rintro e w13 ⟨rfl, m13, e13⟩
            have B13 : Hid (Below w12.heap.size w12 w13) := Lib.hid (by rw [e13]; exact drewN_below _ _)
            have S13 : Hid (w12.heap.size ≤ w13.heap.size) := Lib.hid B13.out.size
            have C13 := Lib.hid (C12.out.trans (B13.out.mono C12.out.size))
            clear e13
            go_wp2_with fail
            refine (nvI_at (G3.out (by omega)) A6 q c6 _ ((((RI.of_own O6.out).below B12.out).more B12.out.size |>.below B13.out).more B13.out.size) (by omega) G4.out).mono ?_
            rintro e w14 ⟨rfl, hb⟩
            have B14 := Lib.hid hb; have S14 : Hid (w13.heap.size ≤ w14.heap.size) := Lib.hid hb.size; clear hb
            have C14 := Lib.hid (C13.out.trans (B14.out.mono C13.out.size))
            go_wp2_with fail
            have T15 := Lib.hid (Two.new w14 (cc) (dd))
            have B15 : Hid (Below w14.heap.size w14 (w14.alloc (.cells #[.int .i64 (cc), .int .i64 (dd)] 35))) := Lib.hid ((Below.refl _ _).alloc (Nat.le_refl _) _)
            have S15 : Hid (w14.heap.size ≤ (w14.alloc (.cells #[.int .i64 (cc), .int .i64 (dd)] 35)).heap.size) := Lib.hid B15.out.size
            have C15 := Lib.hid (C14.out.trans (B15.out.mono C14.out.size))
            generalize w14.alloc (.cells #[.int .i64 (cc), .int .i64 (dd)] 35) = w15 at *
            have tw15 := T15.out
            have c15x := tw15.c0
            have c15y := tw15.c1
            clear tw15
            go_wp2_with fail
            refine (DrawNegativeValue_any A n c _ ((HR.out.below C15.out).more C15.out.size) hn).mono ?_
            rintro e w16 ⟨A8, c8, zs, rfl, ho, hin, hlz, hb⟩
            have B16 := Lib.hid hb; have S16 : Hid (w15.heap.size ≤ w16.heap.size) := Lib.hid hb.size; clear hb
            have C16 := Lib.hid (C15.out.trans (B16.out.mono C15.out.size))
            have O8 := Lib.hid ho; have W8 := Lib.hid (wf_of_in hin); clear ho hin
            generalize hz : zs.length = z at *
            have HZ := Lib.hid hz
            clear hz
            obtain ⟨x1, y1, k1, hv1⟩ : ∃ x y k, nvR 2 2 (-1) zs = (x, y, k) := ⟨_, _, _, rfl⟩
            have V1 := Lib.hid hv1
            clear hv1
            go_wp2_with fail
            refine (nvI_at V1.out A8 z c8 _ (RI.of_own O8.out) (by omega) W8.out).mono ?_
            rintro e w17 ⟨rfl, hb⟩
            have B17 := Lib.hid hb; have S17 : Hid (w16.heap.size ≤ w17.heap.size) := Lib.hid hb.size; clear hb
            have C17 := Lib.hid (C16.out.trans (B17.out.mono C16.out.size))
            go_wp2_with fail
            have T18 := Lib.hid (Two.new w17 (x1) (y1))
            have B18 : Hid (Below w17.heap.size w17 (w17.alloc (.cells #[.int .i64 (x1), .int .i64 (y1)] 35))) := Lib.hid ((Below.refl _ _).alloc (Nat.le_refl _) _)
            have S18 : Hid (w17.heap.size ≤ (w17.alloc (.cells #[.int .i64 (x1), .int .i64 (y1)] 35)).heap.size) := Lib.hid B18.out.size
            have C18 := Lib.hid (C17.out.trans (B18.out.mono C17.out.size))
            generalize w17.alloc (.cells #[.int .i64 (x1), .int .i64 (y1)] 35) = w18 at *
            refine (nvS_at V1.out A8 z c8 _ (((((RI.of_own O8.out).below B17.out).more B17.out.size).below B18.out).more B18.out.size) (by omega) W8.out).mono ?_
            rintro e w19 ⟨rfl, hb⟩
            have B19 := Lib.hid hb; have S19 : Hid (w18.heap.size ≤ w19.heap.size) := Lib.hid hb.size; clear hb
            have C19 := Lib.hid (C18.out.trans (B19.out.mono C18.out.size))
            go_wp2_with fail
            have T20 := Lib.hid (Two.new w19 (x1) (y1))
            have B20 : Hid (Below w19.heap.size w19 (w19.alloc (.cells #[.int .i64 (x1), .int .i64 (y1)] 35))) := Lib.hid ((Below.refl _ _).alloc (Nat.le_refl _) _)
            have S20 : Hid (w19.heap.size ≤ (w19.alloc (.cells #[.int .i64 (x1), .int .i64 (y1)] 35)).heap.size) := Lib.hid B20.out.size
            have C20 := Lib.hid (C19.out.trans (B20.out.mono C19.out.size))
            generalize w19.alloc (.cells #[.int .i64 (x1), .int .i64 (y1)] 35) = w20 at *
            refine (DrawFractionValue_any A n c _ ((HR.out.below C20.out).more C20.out.size) hn).mono ?_
            rintro e w21 ⟨A9, c9, zt, rfl, ho, hin, hly, hb⟩
            have B21 := Lib.hid hb; have S21 : Hid (w20.heap.size ≤ w21.heap.size) := Lib.hid hb.size; clear hb
            have C21 := Lib.hid (C20.out.trans (B21.out.mono C20.out.size))
            have O9 := Lib.hid ho; have W9 := Lib.hid (wf_of_in hin); clear ho hin
            generalize hz : zt.length = y at *
            have HY := Lib.hid hz
            clear hz
            obtain ⟨x2, y2, k2, hv2⟩ : ∃ x y k, nvR 0 1 1 zt = (x, y, k) := ⟨_, _, _, rfl⟩
            have V2 := Lib.hid hv2
            clear hv2
            go_wp2_with fail
            refine (fvI_at V2.out A9 y c9 _ (RI.of_own O9.out) (by omega) W9.out).mono ?_
            rintro e w22 ⟨rfl, hb⟩
            have B22 := Lib.hid hb; have S22 : Hid (w21.heap.size ≤ w22.heap.size) := Lib.hid hb.size; clear hb
            have C22 := Lib.hid (C21.out.trans (B22.out.mono C21.out.size))
            go_wp2_with fail
            have T23 := Lib.hid (Two.new w22 (x2) (y2))
            have B23 : Hid (Below w22.heap.size w22 (w22.alloc (.cells #[.int .i64 (x2), .int .i64 (y2)] 35))) := Lib.hid ((Below.refl _ _).alloc (Nat.le_refl _) _)
            have S23 : Hid (w22.heap.size ≤ (w22.alloc (.cells #[.int .i64 (x2), .int .i64 (y2)] 35)).heap.size) := Lib.hid B23.out.size
            have C23 := Lib.hid (C22.out.trans (B23.out.mono C22.out.size))
            generalize w22.alloc (.cells #[.int .i64 (x2), .int .i64 (y2)] 35) = w23 at *
            refine (fvS_at V2.out A9 y c9 _ (((((RI.of_own O9.out).below B22.out).more B22.out.size).below B23.out).more B23.out.size) (by omega) W9.out).mono ?_
            rintro e w24 ⟨rfl, hb⟩
            have B24 := Lib.hid hb; have S24 : Hid (w23.heap.size ≤ w24.heap.size) := Lib.hid hb.size; clear hb
            have C24 := Lib.hid (C23.out.trans (B24.out.mono C23.out.size))
            obtain ⟨w25, hw25⟩ : ∃ W, w24.alloc (.cells #[.int .i64 (x2), .int .i64 (y2)] 35) = W := ⟨_, rfl⟩
            have T25 : Hid (Two w25 w24.heap.size (x2) (y2)) := Lib.hid (by rw [← hw25]; exact Two.new w24 (x2) (y2))
            have B25 : Hid (Below w24.heap.size w24 w25) := Lib.hid (by rw [← hw25]; exact (Below.refl _ _).alloc (Nat.le_refl _) _)
            have S25 : Hid (w24.heap.size ≤ w25.heap.size) := Lib.hid B25.out.size
            have C25 := Lib.hid (C24.out.trans (B25.out.mono C24.out.size))
            have tw18 := (((((((T18.out.far B19.out).far B20.out).far B21.out).far B22.out).far B23.out).far B24.out).far B25.out)
            have c18x := tw18.c0
            have c18y := tw18.c1
            clear tw18
            have tw20 := (((((T20.out.far B21.out).far B22.out).far B23.out).far B24.out).far B25.out)
            have c20x := tw20.c0
            have c20y := tw20.c1
            clear tw20
            have tw23 := ((T23.out.far B24.out).far B25.out)
            have c23x := tw23.c0
            have c23y := tw23.c1
            clear tw23
            have tw25 := T25.out
            have c25x := tw25.c0
            have c25y := tw25.c1
            clear tw25
            go_wp2_with fail
            go_ret
            exact ⟨rfl, C25.out⟩
end Go.Proofs.Ytbipihamkfifjaa
