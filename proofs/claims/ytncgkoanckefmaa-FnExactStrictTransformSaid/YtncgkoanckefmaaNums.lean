/- The two ways to the greatest common divisor of this program answer Int.gcd: contracts of impl.greatestDivisor and spec.l01Gcd, of spec.l01In, spec.l01Integer, spec.l01Natural, impl.isInteger and impl.isNatural. Conditions: stated at each theorem. -/
import Derived.Test.YtncgkoanckefmaaRows
import Derived.WalkKit
import Derived.ProofKit
import Derived.OpenShut
import Derived.Deep.QuietTactic
import Derived.BigQuiet
import Derived.Lib.Hide
import Derived.Outline
namespace Go.Proofs.Ytncgkoanckefmaa
open Go.ChangeShapes Go.WideShapes Go.ChangeAt Go.RowKit

/-! ### Plain mathematics -/
theorem ret_int {k : IntKind} {a b : Int} (h : a = b) : Ending.returned (.int k a) = .returned (.int k b) := by rw [h]
theorem gcd_tmod (a b : Int) : Int.gcd b (a.tmod b) = Int.gcd a b := by
  have h : a = b * (a.tdiv b) + a.tmod b := by rw [Int.mul_tdiv_add_tmod]
  conv => rhs; rw [h]
  rw [Int.gcd_comm, Int.gcd_comm (b * _ + _) b]
  rw [Int.gcd_comm (a.tmod b) b]
  simp
theorem tmod_lt (a b : Int) (h : b ≠ 0) : (a.tmod b).natAbs < b.natAbs := by
  rw [Int.natAbs_tmod]; exact Nat.mod_lt _ (by omega)
theorem gcd_emod (a b : Int) : Int.gcd b (a % b) = Int.gcd a b := by
  have h : a = b * (a / b) + a % b := by rw [Int.mul_ediv_add_emod]
  conv => rhs; rw [h]
  rw [Int.gcd_comm, Int.gcd_comm (b * _ + _) b]
  rw [Int.gcd_comm (a % b) b]
  simp

/-! ### The integers and natural numbers of chapter 1 -/
def intB (n : Int) : Bool := decide (-1000000000 ≤ n ∧ n ≤ 1000000000)
def natB (n : Int) : Bool := decide (1 ≤ n ∧ n ≤ 1000000000)
theorem intB_true {n : Int} : intB n = true ↔ -1000000000 ≤ n ∧ n ≤ 1000000000 := by unfold intB; simp
theorem intB_false {n : Int} : intB n = false ↔ ¬ (-1000000000 ≤ n ∧ n ≤ 1000000000) := by unfold intB; simp
theorem natB_true {n : Int} : natB n = true ↔ 1 ≤ n ∧ n ≤ 1000000000 := by unfold natB; simp
theorem natB_false {n : Int} : natB n = false ↔ ¬ (1 ≤ n ∧ n ≤ 1000000000) := by unfold natB; simp

theorem in_yes (n l h : Int) (w : World) (h1 : l ≤ n) (h2 : n ≤ h) :
    Calls Try.prog 75 #[.int .i64 n, .int .i64 l, .int .i64 h] w fun e w' => e = .returned (.bool true) ∧ w = w' := by
  go_enter Try.func75, Try.ntmps75
  go_wp2
  go_ret
  exact ⟨rfl, rfl⟩
theorem in_no (n l h : Int) (w : World) (h1 : ¬ (l ≤ n ∧ n ≤ h)) :
    Calls Try.prog 75 #[.int .i64 n, .int .i64 l, .int .i64 h] w fun e w' => e = .returned (.bool false) ∧ w = w' := by
  by_cases h0 : l ≤ n
  · have h2 : ¬ n ≤ h := fun h3 => h1 ⟨h0, h3⟩
    clear h1
    go_enter Try.func75, Try.ntmps75
    go_wp2
    go_ret
    exact ⟨rfl, rfl⟩
  · clear h1
    go_enter Try.func75, Try.ntmps75
    go_wp2
    go_ret
    exact ⟨rfl, rfl⟩

theorem isNatural_any (n : Int) (w : World) :
    Calls Try.prog 128 #[.int .i64 n] w fun e w' => e = .returned (.bool (natB n)) ∧ w = w' := by
  by_cases h1 : 1 ≤ n
  · by_cases h2 : n ≤ 1000000000
    · have hb : natB n = true := natB_true.2 ⟨h1, h2⟩
      rw [hb]; clear hb
      go_enter Try.func128, Try.ntmps128
      go_wp2
      go_ret
      exact ⟨rfl, rfl⟩
    · have hb : natB n = false := natB_false.2 (by omega)
      rw [hb]; clear hb
      go_enter Try.func128, Try.ntmps128
      go_wp2
      go_ret
      exact ⟨rfl, rfl⟩
  · have hb : natB n = false := natB_false.2 (by omega)
    rw [hb]; clear hb
    go_enter Try.func128, Try.ntmps128
    go_wp2
    go_ret
    exact ⟨rfl, rfl⟩

theorem isNatural_yes (n : Int) (w : World) (h : natB n = true) :
    Calls Try.prog 128 #[.int .i64 n] w fun e w' => e = .returned (.bool true) ∧ w = w' := by
  have := isNatural_any n w; rwa [h] at this
theorem isNatural_no (n : Int) (w : World) (h : natB n = false) :
    Calls Try.prog 128 #[.int .i64 n] w fun e w' => e = .returned (.bool false) ∧ w = w' := by
  have := isNatural_any n w; rwa [h] at this
theorem greatest_any (a b : Int) (w : World) (ha1 : -9223372036854775807 ≤ a) (ha2 : a ≤ 9223372036854775807) (hb1 : -9223372036854775807 ≤ b) (hb2 : b ≤ 9223372036854775807) :
    Calls Try.prog 125 #[.int .i64 a, .int .i64 b] w fun e w' => e = .returned (.int .i64 (Int.gcd a b)) ∧ ∃ n, w' = w.drewN n := by
  go_enter Try.func125, Try.ntmps125
  go_wp2
  go_loopw [0, 1] (fun va vb wr => ∃ (x y : Int) (m : Nat), (-9223372036854775807 ≤ x ∧ x ≤ 9223372036854775807) ∧ (-9223372036854775807 ≤ y ∧ y ≤ 9223372036854775807) ∧ Hid (Int.gcd x y = Int.gcd a b) ∧ va = .int .i64 x ∧ vb = .int .i64 y ∧ wr = w.drewN m) (fun _ vb _ => (intOf vb).natAbs)
  case atStart => exact ⟨a, b, 0, ⟨ha1, ha2⟩, ⟨hb1, hb2⟩, Lib.hid rfl, rfl, rfl, rfl⟩
  case round =>
    obtain ⟨x, y, m, ⟨hx1, hx2⟩, ⟨hy1, hy2⟩, hg, rfl, rfl, rfl⟩ := hrel
    by_cases hy : y = 0
    · subst hy
      have hg' : Int.gcd a b = x.natAbs := by rw [← hg.out]; simp
      have HA : x < 0 → Hid (-x = (Int.gcd a b : Int)) := fun h => Lib.hid (by omega)
      have HB : 0 ≤ x → Hid (x = (Int.gcd a b : Int)) := fun h => Lib.hid (by omega)
      clear hg hg'
      by_cases hx : x < 0
      · have HC := HA hx
        clear HA HB
        go_wp2
        go_ret
        exact ⟨ret_int HC.out, m, rfl⟩
      · have HC := HB (by omega)
        clear HA HB
        go_wp2
        go_ret
        exact ⟨ret_int HC.out, m, rfl⟩
    · have hlt := tmod_lt x y hy
      have hlt2 : -9223372036854775807 ≤ x.tmod y ∧ x.tmod y ≤ 9223372036854775807 := by omega
      have HG : Hid (Int.gcd y (x.tmod y) = Int.gcd a b) := Lib.hid (by rw [gcd_tmod]; exact hg.out)
      clear hg
      go_wp2
      go_quiet (fail)
      go_roundw
      case rel => exact ⟨_, _, _, _, _, _, _, _, ⟨y, x.tmod y, m + nq, ⟨hy1, hy2⟩, hlt2, HG, rfl, rfl, World.drewN_drewN _ _ _⟩, rfl⟩
      case measure => simpa [intOf] using hlt

theorem gcd_neg (a b : Int) : Int.gcd (-a) b = Int.gcd a b := Int.neg_gcd
theorem l01Gcd_any (a b : Int) (w : World) (ha1 : -9223372036854775807 ≤ a) (ha2 : a ≤ 9223372036854775807) (hb1 : -9223372036854775807 ≤ b) (hb2 : b ≤ 9223372036854775807) :
    Calls Try.prog 112 #[.int .i64 a, .int .i64 b] w fun e w' => e = .returned (.int .i64 (Int.gcd a b)) ∧ w = w' := by
  go_enter Try.func112, Try.ntmps112
  by_cases ha : a < 0 <;> by_cases hb : b < 0
  all_goals
    go_wp2
    go_loop [0, 1] (fun va vb => ∃ (x y : Int), (0 ≤ x ∧ x ≤ 9223372036854775807) ∧ (0 ≤ y ∧ y ≤ 9223372036854775807) ∧ Hid (Int.gcd x y = Int.gcd a b) ∧ va = .int .i64 x ∧ vb = .int .i64 y) (fun _ vb => (intOf vb).toNat)
    case atStart => first | exact ⟨a, b, by omega, by omega, Lib.hid rfl, rfl, rfl⟩ | exact ⟨-a, b, by omega, by omega, Lib.hid (by simp), rfl, rfl⟩ | exact ⟨a, -b, by omega, by omega, Lib.hid (by simp), rfl, rfl⟩ | exact ⟨-a, -b, by omega, by omega, Lib.hid (by simp), rfl, rfl⟩
    case round =>
      obtain ⟨x, y, ⟨hx1, hx2⟩, ⟨hy1, hy2⟩, hg, rfl, rfl⟩ := hrel
      by_cases hy : 0 < y
      · have hlt : 0 ≤ x % y ∧ x % y < y := ⟨Int.emod_nonneg _ (by omega), Int.emod_lt_of_pos _ hy⟩
        have HG : Hid (Int.gcd y (x % y) = Int.gcd a b) := Lib.hid (by rw [gcd_emod]; exact hg.out)
        clear hg
        go_wp2
        go_round
        case rel => exact ⟨y, x % y, ⟨hy1, hy2⟩, by omega, HG, rfl, rfl⟩
        case measure => simp [intOf]; omega
      · obtain rfl : y = 0 := by omega
        have HC : Hid (x = (Int.gcd a b : Int)) := Lib.hid (by rw [← hg.out]; simp; omega)
        clear hg
        go_wp2
        go_ret
        exact ⟨ret_int HC.out, rfl⟩

end Go.Proofs.Ytncgkoanckefmaa
