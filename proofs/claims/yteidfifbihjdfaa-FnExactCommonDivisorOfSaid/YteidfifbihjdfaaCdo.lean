/- The divisor of a list, the model and the program: contracts of CommonDivisorOf. Conditions: stated at each theorem. -/
import Derived.Test.YteidfifbihjdfaaSlice
import Derived.Test.YteidfifbihjdfaaGcd
namespace Go.Proofs.Yteidfifbihjdfaa
open Go.ChangeShapes Go.WideShapes Go.ChangeAt Go.RowKit
set_option linter.unusedVariables false

/-- The divisor of d and a list, none if one of the list is no integer of the chapter. -/
def cdF : Int → List Int → Option Int
  | d, [] => some d
  | d, z :: zs => if intB z then cdF (Int.gcd d z) zs else none
def cdoA (zs : List Int) : Int := if 64 < zs.length then 0 else (cdF 0 zs).getD 0
def cdoC (zs : List Int) : Int := if 64 < zs.length then 2 else if (cdF 0 zs).isSome then 0 else 2
theorem tup_int {a b c d : Int} (h : a = c) (k : b = d) : Ending.returned (.tuple #[.int .i64 a, .int .i64 b]) = .returned (.tuple #[.int .i64 c, .int .i64 d]) := by rw [h, k]
theorem drop_cons (zs : List Int) (k : Nat) (h : k < zs.length) : zs.drop k = zs.getD k 0 :: zs.drop (k + 1) := by
  rw [List.drop_eq_getElem_cons h]; simp [List.getD, h]
theorem gcd_in (d z : Int) (h0 : 0 ≤ d ∧ d ≤ 1000000000) (hz : -1000000000 ≤ z ∧ z ≤ 1000000000) : 0 ≤ (Int.gcd d z : Int) ∧ (Int.gcd d z : Int) ≤ 1000000000 := by
  refine ⟨by omega, ?_⟩
  by_cases h : d = 0
  · subst h; simp; omega
  · have := Nat.le_of_dvd (by omega) (Int.gcd_dvd_natAbs_left d z)
    omega
theorem wf_getD {zs : List Int} (h : ∀ z ∈ zs, (Lit.int .i64 z).wf = true) (k : Nat) : -9223372036854775808 ≤ zs[k]?.getD 0 ∧ zs[k]?.getD 0 ≤ 9223372036854775807 := range_i64 h k

theorem specCommonDivisorOf_any (A : Option Addr) (n c : Nat) (zs : List Int) (w : World) (B : Nat) (hr : RI w B A n zs) (hn : n ≤ 9223372036854775807) (hwf : ∀ z ∈ zs, (Lit.int .i64 z).wf = true) :
    Calls Try.prog 32 #[.slice A n c] w fun e w' => e = .returned (.tuple #[.int .i64 (cdoA zs), .int .i64 (cdoC zs)]) ∧ ∃ m, w' = w.drewN m := by
  have hl := hr.1
  by_cases h64 : 64 < n
  · have E1 : Hid (0 = cdoA zs) := Lib.hid (by simp [cdoA, hl, h64])
    have E2 : Hid (2 = cdoC zs) := Lib.hid (by simp [cdoC, hl, h64])
    clear hl
    go_enter Try.func32, Try.ntmps32
    go_wp2
    go_ret2
    exact ⟨tup_int E1.out E2.out, 0, rfl⟩
  · have E1 : Hid (cdoA zs = (cdF 0 zs).getD 0) := Lib.hid (by simp [cdoA, hl, h64])
    have E2 : Hid (cdoC zs = if (cdF 0 zs).isSome then 0 else 2) := Lib.hid (by simp [cdoC, hl, h64])
    have HL := Lib.hid hl
    have H0 := Lib.hid hr
    have HW := Lib.hid hwf
    clear hl hr hwf
    go_enter Try.func32, Try.ntmps32
    go_wp2
    go_loopw [4, 5] (fun vd vi wr => ∃ (d : Int) (k m : Nat), k ≤ n ∧ (0 ≤ d ∧ d ≤ 1000000000) ∧ Hid (cdF 0 zs = cdF d (zs.drop k)) ∧ vd = .int .i64 d ∧ vi = .int .i64 k ∧ wr = w.drewN m) (fun _ vi _ => n - (intOf vi).toNat)
    case atStart => exact ⟨0, 0, 0, by omega, by omega, Lib.hid rfl, rfl, rfl, rfl⟩
    case round =>
      obtain ⟨d, k, m, hk, hd, hg, rfl, rfl, rfl⟩ := hrel
      by_cases hlt : k < n
      · obtain ⟨a, rfl, _, hcell⟩ := H0.out.2 k hlt
        have hk0 : (0 : Int) ≤ (k : Int) := Int.natCast_nonneg _
        have hk1 : (k : Int) < (n : Int) := by omega
        have hz := wf_getD HW.out k
        have HD : Hid (zs.drop k = zs.getD k 0 :: zs.drop (k + 1)) := Lib.hid (drop_cons zs k (by rw [HL.out]; exact hlt))
        have hcell' : w.cell? (a.add k) = some (.int .i64 (zs[k]?.getD 0)) := by simpa using hcell
        clear hcell
        cases hi : intB (zs[k]?.getD 0)
        · have HI := Lib.hid hi
          have R1 : Hid (0 = cdoA zs) := Lib.hid (by rw [E1.out, hg.out, HD.out]; simp [cdF, hi])
          have R2 : Hid (2 = cdoC zs) := Lib.hid (by rw [E2.out, hg.out, HD.out]; simp [cdF, hi])
          clear hi
          go_wp2_with (go_at_call 62; refine (integer_no _ _ HI.out).mono ?_; rintro e w' ⟨rfl, rfl⟩)
          go_ret2
          exact ⟨tup_int R1.out R2.out, _, rfl⟩
        · have HI := Lib.hid hi
          have hi2 := intB_true.1 hi
          have hg2 := gcd_in d _ hd hi2
          have HG : Hid (cdF 0 zs = cdF (Int.gcd d (zs[k]?.getD 0)) (zs.drop (k + 1))) := Lib.hid (by rw [hg.out, HD.out]; simp [cdF, hi])
          clear hi hg
          go_wp2_with (first | (go_at_call 62; refine (integer_yes _ _ HI.out).mono ?_; rintro e w' ⟨rfl, rfl⟩) | (go_at_call 59; refine (l01Gcd_any _ _ _ (by omega) (by omega) (by omega) (by omega)).mono ?_; rintro e w' ⟨rfl, rfl⟩))
          go_roundw
          case rel => exact ⟨_, k + 1, _, by omega, hg2, HG, rfl, by go_num, rfl⟩
          case measure => simp [intOf]; omega
      · obtain rfl : k = n := by omega
        have R0 : cdF 0 zs = some d := by rw [hg.out, List.drop_of_length_le (by rw [HL.out]; omega)]; rfl
        have R1 : Hid (d = cdoA zs) := Lib.hid (by rw [E1.out, R0]; rfl)
        have R2 : Hid (0 = cdoC zs) := Lib.hid (by rw [E2.out, R0]; rfl)
        clear R0
        go_wp2
        go_ret2
        exact ⟨tup_int R1.out R2.out, _, rfl⟩

theorem implCommonDivisorOf_any (A : Option Addr) (n c : Nat) (zs : List Int) (w : World) (B : Nat) (hr : RI w B A n zs) (hn : n ≤ 9223372036854775807) (hwf : ∀ z ∈ zs, (Lit.int .i64 z).wf = true) :
    Calls Try.prog 34 #[.slice A n c] w fun e w' => e = .returned (.tuple #[.int .i64 (cdoA zs), .int .i64 (cdoC zs)]) ∧ ∃ m, w' = w.drewN m := by
  have hl := hr.1
  by_cases h64 : 64 < n
  · have E1 : Hid (0 = cdoA zs) := Lib.hid (by simp [cdoA, hl, h64])
    have E2 : Hid (2 = cdoC zs) := Lib.hid (by simp [cdoC, hl, h64])
    clear hl
    go_enter Try.func34, Try.ntmps34
    go_wp2
    go_ret2
    exact ⟨tup_int E1.out E2.out, 0, rfl⟩
  · have E1 : Hid (cdoA zs = (cdF 0 zs).getD 0) := Lib.hid (by simp [cdoA, hl, h64])
    have E2 : Hid (cdoC zs = if (cdF 0 zs).isSome then 0 else 2) := Lib.hid (by simp [cdoC, hl, h64])
    have HL := Lib.hid hl
    have H0 := Lib.hid hr
    have HW := Lib.hid hwf
    clear hl hr hwf
    go_enter Try.func34, Try.ntmps34
    go_wp2
    go_loopw [4, 12] (fun vd vi wr => ∃ (d : Int) (k m : Nat), k ≤ n ∧ (0 ≤ d ∧ d ≤ 1000000000) ∧ Hid (cdF 0 zs = cdF d (zs.drop k)) ∧ vd = .int .i64 d ∧ vi = .int .i64 k ∧ wr = w.drewN m) (fun _ vi _ => n - (intOf vi).toNat)
    case atStart => exact ⟨0, 0, 0, by omega, by omega, Lib.hid rfl, rfl, rfl, rfl⟩
    case round =>
      obtain ⟨d, k, m, hk, hd, hg, rfl, rfl, rfl⟩ := hrel
      by_cases hlt : k < n
      · obtain ⟨a, rfl, _, hcell⟩ := H0.out.2 k hlt
        have hk0 : (0 : Int) ≤ (k : Int) := Int.natCast_nonneg _
        have hk1 : (k : Int) < (n : Int) := by omega
        have hz := wf_getD HW.out k
        have HD : Hid (zs.drop k = zs.getD k 0 :: zs.drop (k + 1)) := Lib.hid (drop_cons zs k (by rw [HL.out]; exact hlt))
        have hcell' : w.cell? (a.add k) = some (.int .i64 (zs[k]?.getD 0)) := by simpa using hcell
        clear hcell
        cases hi : intB (zs[k]?.getD 0)
        · have HI := Lib.hid hi
          have R1 : Hid (0 = cdoA zs) := Lib.hid (by rw [E1.out, hg.out, HD.out]; simp [cdF, hi])
          have R2 : Hid (2 = cdoC zs) := Lib.hid (by rw [E2.out, hg.out, HD.out]; simp [cdF, hi])
          clear hi
          go_wp2_with (go_at_call 54; refine (isInteger_no _ _ HI.out).mono ?_; rintro e w' ⟨rfl, rfl⟩)
          go_ret2
          exact ⟨tup_int R1.out R2.out, _, rfl⟩
        · have HI := Lib.hid hi
          have hi2 := intB_true.1 hi
          have hg2 := gcd_in d _ hd hi2
          have HG : Hid (cdF 0 zs = cdF (Int.gcd d (zs[k]?.getD 0)) (zs.drop (k + 1))) := Lib.hid (by rw [hg.out, HD.out]; simp [cdF, hi])
          clear hi hg
          go_wp2_with (first | (go_at_call 54; refine (isInteger_yes _ _ HI.out).mono ?_; rintro e w' ⟨rfl, rfl⟩) | (go_at_call 55; refine (greatest_any _ _ _ (by omega) (by omega) (by omega) (by omega)).mono ?_; rintro e w' ⟨rfl, nd, rfl⟩))
          go_roundw
          case rel => exact ⟨_, k + 1, _, by omega, hg2, HG, rfl, by go_num, rfl⟩
          case measure => simp [intOf]; omega
      · obtain rfl : k = n := by omega
        have R0 : cdF 0 zs = some d := by rw [hg.out, List.drop_of_length_le (by rw [HL.out]; omega)]; rfl
        have R1 : Hid (d = cdoA zs) := Lib.hid (by rw [E1.out, R0]; rfl)
        have R2 : Hid (0 = cdoC zs) := Lib.hid (by rw [E2.out, R0]; rfl)
        clear R0
        go_wp2
        go_ret2
        exact ⟨tup_int R1.out R2.out, _, rfl⟩
end Go.Proofs.Yteidfifbihjdfaa
