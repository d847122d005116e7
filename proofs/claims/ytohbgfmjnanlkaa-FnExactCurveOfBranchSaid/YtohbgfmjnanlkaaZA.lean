/- ZA: Law Nums Slice Own Keep Ins Poly PolyIs Trim KeepQ OwnSS OpenQ Man Gcd Steps Clone. Conditions: stated at each theorem. -/
import Derived.Test.YtohbgfmjnanlkaaRows
import Derived.WalkKit
import Derived.ProofKit
import Derived.OpenShut
import Derived.Lib.Hide
import Derived.Outline
import Derived.Deep.Draws
import Derived.Deep.QuietTactic
import Derived.BigQuiet
import Derived.Deep.OwnRows
import Derived.OwnWalk
import Derived.Laws.Small
import Derived.Maps.AppendAt
import Derived.Deep.AppendLies
import Derived.Laws.AppendOwnNone
import Derived.Deep.Matrix
import Derived.RegionTactic
import Derived.BigRegion
import Derived.Deep.RegionHeld3
import Derived.WalkSpells
/- A law whose call returns true and leaves all old memory as it was keeps its statement's last part: the result reads as true and each argument reads as it did. Conditions: stated at each theorem. -/
namespace Go.Proofs.Ytohbgfmjnanlkaa
open Go.ChangeShapes Go.WideShapes Go.ChangeAt Go.RowKit Go.WideElems

theorem Try.own : ownKnob Try.prog.godebug = none := by kernel_rfl
theorem Try.laidOut : laidOutB Try.prog = true := by kernel_rfl

/-- Each type is a row of the table and can be read. -/
def rowed (P : Program) (ts : List TypeId) : Bool := ts.all fun t => P.readableRec t && decide (t < P.types.size)

theorem all_stays {H : Type} {enc : TypeId × Value → H} {P : Program} (hl : laidOutB P = true) {W W' : World} (hb : Below W.heap.size W W') {sp : Nat → Bool} :
    ∀ {ts : List TypeId} {vs : List Value} {ds : List (DataW H)} {ps : List MemPlace}, rowed P ts = true → (∀ p ∈ ps, p.block < W.heap.size) → (∀ p ∈ ps, sp p.block = true) →
      DataW.TrodAll enc P W 0 (fun _ => true) true ts vs ds ps → DataW.TrodAll enc P W' 0 sp true ts vs ds ps
  | [], [], [], _, _, _, _, h => h
  | [], _ :: _, _, _, _, _, _, h => h.elim
  | [], [], _ :: _, _, _, _, _, h => h.elim
  | _ :: _, [], _, _, _, _, _, h => h.elim
  | _ :: _, _ :: _, [], _, _, _, _, h => h.elim
  | t :: ts, v :: vs, d :: ds, ps, hr, hlt, hs, h => by
    obtain ⟨p, q, h1, h2, rfl⟩ := h
    simp only [rowed, List.all_cons, Bool.and_eq_true, decide_eq_true_eq] at hr
    have e1 : ∀ x ∈ p, x.block < W.heap.size := fun x hx => hlt x (List.mem_append_left _ hx)
    have e2 : ∀ x ∈ q, x.block < W.heap.size := fun x hx => hlt x (List.mem_append_right _ hx)
    refine ⟨p, q, ?_, ?_, rfl⟩
    · exact Trod_stays hl hr.1.1 hr.1.2 h1 (fun x hx => hb.same (e1 x hx)) (fun x hx => hs x (List.mem_append_left _ hx))
    · exact all_stays hl hb (by simpa [rowed] using hr.2) e2 (fun x hx => hs x (List.mem_append_right _ hx)) h2

theorem law_post {H : Type} {enc : TypeId × Value → H} {P : Program} {f : Func} {s : ChangeSpec} {tb : TypeId} (hl : laidOutB P = true) (hr : rowed P f.params.toList = true)
    (hres : f.resultTypes = #[tb]) (ht : P.underlying tb = some .bool) (hv : s.vars = []) {W W' : World} {args : Array Value} {ds gs : List (DataW H)} {ps : List MemPlace}
    (hfn : s.fn H (ds ++ gs) = { results := [.lit (.bool true)], args := ds })
    (hW : DataW.Whole enc P f.params.toList s.vars false W args.toList ds gs ps) (hb : Below W.heap.size W W') :
    s.post enc P f false true false false W args (.bool true) W' := by
  have hlt : ∀ x ∈ ps, x.block < W.heap.size := fun x hx => by simpa using hW.lt x hx
  have hW' := hW
  obtain ⟨p, q, hA, hV, rfl, _, _⟩ := hW'
  have hV' := hV
  rw [hv] at hV'
  obtain ⟨rfl, rfl⟩ := trodVars_none hV'
  refine ⟨ds, [], _, [], p ++ [], [], hW, ?_, ?_, ?_, hb.frame _, fun h => by cases h⟩
  · rw [hfn, hres]
    exact trodAll_mk1 (shut_bool ht true)
  · rw [hfn]
    have := all_stays hl hb (sp := fun b => decide (b < W.heap.size)) hr (fun x hx => hlt x (by simpa using hx)) (fun x hx => by simpa using hlt x (by simpa using hx)) hA
    simpa using this
  · rw [hfn, hv]; rfl

theorem below_drewN {B : Nat} {a w : World} (h : Below B a w) (n : Nat) : Below B a (w.drewN n) := ⟨h.os, h.tape, h.output, h.size, h.block⟩
end Go.Proofs.Ytohbgfmjnanlkaa
/- The two ways to the greatest common divisor of this program answer Int.gcd: contracts of impl.greatestDivisor and spec.l01Gcd, of spec.l01In, spec.l01Integer, spec.l01Natural, impl.isInteger and impl.isNatural. Conditions: stated at each theorem. -/
namespace Go.Proofs.Ytohbgfmjnanlkaa
open Go.ChangeShapes Go.WideShapes Go.ChangeAt Go.RowKit

/-! ### Plain mathematics -/
theorem ret_int {k : IntKind} {a b : Int} (h : a = b) : Ending.returned (.int k a) = .returned (.int k b) := by rw [h]
theorem gcd_tmod (a b : Int) : Int.gcd b (a.tmod b) = Int.gcd a b := by
  have h : a = b * (a.tdiv b) + a.tmod b := by rw [Int.mul_tdiv_add_tmod]
  conv => rhs; rw [h]
  rw [Int.gcd_comm, Int.gcd_comm (b * _ + _) b]
  rw [Int.gcd_comm (a.tmod b) b]
  simp
theorem tmod_lt (a b : Int) (h : b ≠ 0) : (a.tmod b).natAbs < b.natAbs := by
  rw [Int.natAbs_tmod]; exact Nat.mod_lt _ (by omega)
theorem gcd_emod (a b : Int) : Int.gcd b (a % b) = Int.gcd a b := by
  have h : a = b * (a / b) + a % b := by rw [Int.mul_ediv_add_emod]
  conv => rhs; rw [h]
  rw [Int.gcd_comm, Int.gcd_comm (b * _ + _) b]
  rw [Int.gcd_comm (a % b) b]
  simp

/-! ### The integers and natural numbers of chapter 1 -/
def intB (n : Int) : Bool := decide (-1000000000 ≤ n ∧ n ≤ 1000000000)
def natB (n : Int) : Bool := decide (1 ≤ n ∧ n ≤ 1000000000)
theorem intB_true {n : Int} : intB n = true ↔ -1000000000 ≤ n ∧ n ≤ 1000000000 := by unfold intB; simp
theorem intB_false {n : Int} : intB n = false ↔ ¬ (-1000000000 ≤ n ∧ n ≤ 1000000000) := by unfold intB; simp
theorem natB_true {n : Int} : natB n = true ↔ 1 ≤ n ∧ n ≤ 1000000000 := by unfold natB; simp
theorem natB_false {n : Int} : natB n = false ↔ ¬ (1 ≤ n ∧ n ≤ 1000000000) := by unfold natB; simp

theorem in_yes (n l h : Int) (w : World) (h1 : l ≤ n) (h2 : n ≤ h) :
    Calls Try.prog 60 #[.int .i64 n, .int .i64 l, .int .i64 h] w fun e w' => e = .returned (.bool true) ∧ w = w' := by
  go_enter Try.func60, Try.ntmps60
  go_wp2
  go_ret
  exact ⟨rfl, rfl⟩
theorem in_no (n l h : Int) (w : World) (h1 : ¬ (l ≤ n ∧ n ≤ h)) :
    Calls Try.prog 60 #[.int .i64 n, .int .i64 l, .int .i64 h] w fun e w' => e = .returned (.bool false) ∧ w = w' := by
  by_cases h0 : l ≤ n
  · have h2 : ¬ n ≤ h := fun h3 => h1 ⟨h0, h3⟩
    clear h1
    go_enter Try.func60, Try.ntmps60
    go_wp2
    go_ret
    exact ⟨rfl, rfl⟩
  · clear h1
    go_enter Try.func60, Try.ntmps60
    go_wp2
    go_ret
    exact ⟨rfl, rfl⟩

theorem integer_yes (n : Int) (w : World) (h : intB n = true) :
    Calls Try.prog 128 #[.int .i64 n] w fun e w' => e = .returned (.bool true) ∧ w = w' := by
  rw [intB_true] at h
  go_enter Try.func128, Try.ntmps128
  go_wp2_with (go_at_call 60; refine (in_yes _ _ _ _ (by omega) (by omega)).mono ?_; rintro e w' ⟨rfl, rfl⟩)
  go_ret
  exact ⟨rfl, rfl⟩
theorem integer_no (n : Int) (w : World) (h : intB n = false) :
    Calls Try.prog 128 #[.int .i64 n] w fun e w' => e = .returned (.bool false) ∧ w = w' := by
  rw [intB_false] at h
  go_enter Try.func128, Try.ntmps128
  go_wp2_with (go_at_call 60; refine (in_no _ _ _ _ (by omega)).mono ?_; rintro e w' ⟨rfl, rfl⟩)
  go_ret
  exact ⟨rfl, rfl⟩
theorem integer_any (n : Int) (w : World) :
    Calls Try.prog 128 #[.int .i64 n] w fun e w' => e = .returned (.bool (intB n)) ∧ w = w' := by
  cases h : intB n
  · exact integer_no n w h
  · exact integer_yes n w h
theorem natural_any (n : Int) (w : World) :
    Calls Try.prog 129 #[.int .i64 n] w fun e w' => e = .returned (.bool (natB n)) ∧ w = w' := by
  cases h : natB n
  · rw [natB_false] at h
    go_enter Try.func129, Try.ntmps129
    go_wp2_with (go_at_call 60; refine (in_no _ _ _ _ (by omega)).mono ?_; rintro e w' ⟨rfl, rfl⟩)
    go_ret
    exact ⟨rfl, rfl⟩
  · rw [natB_true] at h
    go_enter Try.func129, Try.ntmps129
    go_wp2_with (go_at_call 60; refine (in_yes _ _ _ _ (by omega) (by omega)).mono ?_; rintro e w' ⟨rfl, rfl⟩)
    go_ret
    exact ⟨rfl, rfl⟩
theorem isInteger_any (n : Int) (w : World) :
    Calls Try.prog 136 #[.int .i64 n] w fun e w' => e = .returned (.bool (intB n)) ∧ w = w' := by
  by_cases h1 : -1000000000 ≤ n
  · by_cases h2 : n ≤ 1000000000
    · have hb : intB n = true := intB_true.2 ⟨h1, h2⟩
      rw [hb]; clear hb
      go_enter Try.func136, Try.ntmps136
      go_wp2
      go_ret
      exact ⟨rfl, rfl⟩
    · have hb : intB n = false := intB_false.2 (by omega)
      rw [hb]; clear hb
      go_enter Try.func136, Try.ntmps136
      go_wp2
      go_ret
      exact ⟨rfl, rfl⟩
  · have hb : intB n = false := intB_false.2 (by omega)
    rw [hb]; clear hb
    go_enter Try.func136, Try.ntmps136
    go_wp2
    go_ret
    exact ⟨rfl, rfl⟩
theorem isNatural_any (n : Int) (w : World) :
    Calls Try.prog 137 #[.int .i64 n] w fun e w' => e = .returned (.bool (natB n)) ∧ w = w' := by
  by_cases h1 : 1 ≤ n
  · by_cases h2 : n ≤ 1000000000
    · have hb : natB n = true := natB_true.2 ⟨h1, h2⟩
      rw [hb]; clear hb
      go_enter Try.func137, Try.ntmps137
      go_wp2
      go_ret
      exact ⟨rfl, rfl⟩
    · have hb : natB n = false := natB_false.2 (by omega)
      rw [hb]; clear hb
      go_enter Try.func137, Try.ntmps137
      go_wp2
      go_ret
      exact ⟨rfl, rfl⟩
  · have hb : natB n = false := natB_false.2 (by omega)
    rw [hb]; clear hb
    go_enter Try.func137, Try.ntmps137
    go_wp2
    go_ret
    exact ⟨rfl, rfl⟩

theorem isInteger_yes (n : Int) (w : World) (h : intB n = true) :
    Calls Try.prog 136 #[.int .i64 n] w fun e w' => e = .returned (.bool true) ∧ w = w' := by
  have := isInteger_any n w; rwa [h] at this
theorem isInteger_no (n : Int) (w : World) (h : intB n = false) :
    Calls Try.prog 136 #[.int .i64 n] w fun e w' => e = .returned (.bool false) ∧ w = w' := by
  have := isInteger_any n w; rwa [h] at this
theorem isNatural_yes (n : Int) (w : World) (h : natB n = true) :
    Calls Try.prog 137 #[.int .i64 n] w fun e w' => e = .returned (.bool true) ∧ w = w' := by
  have := isNatural_any n w; rwa [h] at this
theorem isNatural_no (n : Int) (w : World) (h : natB n = false) :
    Calls Try.prog 137 #[.int .i64 n] w fun e w' => e = .returned (.bool false) ∧ w = w' := by
  have := isNatural_any n w; rwa [h] at this
theorem natural_yes (n : Int) (w : World) (h : natB n = true) :
    Calls Try.prog 129 #[.int .i64 n] w fun e w' => e = .returned (.bool true) ∧ w = w' := by
  have := natural_any n w; rwa [h] at this
theorem natural_no (n : Int) (w : World) (h : natB n = false) :
    Calls Try.prog 129 #[.int .i64 n] w fun e w' => e = .returned (.bool false) ∧ w = w' := by
  have := natural_any n w; rwa [h] at this

/-! ### Greatest common divisors -/
theorem greatest_any (a b : Int) (w : World) (ha1 : -9223372036854775807 ≤ a) (ha2 : a ≤ 9223372036854775807) (hb1 : -9223372036854775807 ≤ b) (hb2 : b ≤ 9223372036854775807) :
    Calls Try.prog 138 #[.int .i64 a, .int .i64 b] w fun e w' => e = .returned (.int .i64 (Int.gcd a b)) ∧ ∃ n, w' = w.drewN n := by
  go_enter Try.func138, Try.ntmps138
  go_wp2
  go_loopw [0, 1] (fun va vb wr => ∃ (x y : Int) (m : Nat), (-9223372036854775807 ≤ x ∧ x ≤ 9223372036854775807) ∧ (-9223372036854775807 ≤ y ∧ y ≤ 9223372036854775807) ∧ Hid (Int.gcd x y = Int.gcd a b) ∧ va = .int .i64 x ∧ vb = .int .i64 y ∧ wr = w.drewN m) (fun _ vb _ => (intOf vb).natAbs)
  case atStart => exact ⟨a, b, 0, ⟨ha1, ha2⟩, ⟨hb1, hb2⟩, Lib.hid rfl, rfl, rfl, rfl⟩
  case round =>
    obtain ⟨x, y, m, ⟨hx1, hx2⟩, ⟨hy1, hy2⟩, hg, rfl, rfl, rfl⟩ := hrel
    by_cases hy : y = 0
    · subst hy
      have hg' : Int.gcd a b = x.natAbs := by rw [← hg.out]; simp
      have HA : x < 0 → Hid (-x = (Int.gcd a b : Int)) := fun h => Lib.hid (by omega)
      have HB : 0 ≤ x → Hid (x = (Int.gcd a b : Int)) := fun h => Lib.hid (by omega)
      clear hg hg'
      by_cases hx : x < 0
      · have HC := HA hx
        clear HA HB
        go_wp2
        go_ret
        exact ⟨ret_int HC.out, m, rfl⟩
      · have HC := HB (by omega)
        clear HA HB
        go_wp2
        go_ret
        exact ⟨ret_int HC.out, m, rfl⟩
    · have hlt := tmod_lt x y hy
      have hlt2 : -9223372036854775807 ≤ x.tmod y ∧ x.tmod y ≤ 9223372036854775807 := by omega
      have HG : Hid (Int.gcd y (x.tmod y) = Int.gcd a b) := Lib.hid (by rw [gcd_tmod]; exact hg.out)
      clear hg
      go_wp2
      go_quiet (fail)
      go_roundw
      case rel => exact ⟨_, _, _, _, _, _, _, _, ⟨y, x.tmod y, m + nq, ⟨hy1, hy2⟩, hlt2, HG, rfl, rfl, World.drewN_drewN _ _ _⟩, rfl⟩
      case measure => simpa [intOf] using hlt

theorem gcd_neg (a b : Int) : Int.gcd (-a) b = Int.gcd a b := Int.neg_gcd
theorem l01Gcd_any (a b : Int) (w : World) (ha1 : -9223372036854775807 ≤ a) (ha2 : a ≤ 9223372036854775807) (hb1 : -9223372036854775807 ≤ b) (hb2 : b ≤ 9223372036854775807) :
    Calls Try.prog 117 #[.int .i64 a, .int .i64 b] w fun e w' => e = .returned (.int .i64 (Int.gcd a b)) ∧ w = w' := by
  go_enter Try.func117, Try.ntmps117
  by_cases ha : a < 0 <;> by_cases hb : b < 0
  all_goals
    go_wp2
    go_loop [0, 1] (fun va vb => ∃ (x y : Int), (0 ≤ x ∧ x ≤ 9223372036854775807) ∧ (0 ≤ y ∧ y ≤ 9223372036854775807) ∧ Hid (Int.gcd x y = Int.gcd a b) ∧ va = .int .i64 x ∧ vb = .int .i64 y) (fun _ vb => (intOf vb).toNat)
    case atStart => first | exact ⟨a, b, by omega, by omega, Lib.hid rfl, rfl, rfl⟩ | exact ⟨-a, b, by omega, by omega, Lib.hid (by simp), rfl, rfl⟩ | exact ⟨a, -b, by omega, by omega, Lib.hid (by simp), rfl, rfl⟩ | exact ⟨-a, -b, by omega, by omega, Lib.hid (by simp), rfl, rfl⟩
    case round =>
      obtain ⟨x, y, ⟨hx1, hx2⟩, ⟨hy1, hy2⟩, hg, rfl, rfl⟩ := hrel
      by_cases hy : 0 < y
      · have hlt : 0 ≤ x % y ∧ x % y < y := ⟨Int.emod_nonneg _ (by omega), Int.emod_lt_of_pos _ hy⟩
        have HG : Hid (Int.gcd y (x % y) = Int.gcd a b) := Lib.hid (by rw [gcd_emod]; exact hg.out)
        clear hg
        go_wp2
        go_round
        case rel => exact ⟨y, x % y, ⟨hy1, hy2⟩, by omega, HG, rfl, rfl⟩
        case measure => simp [intOf]; omega
      · obtain rfl : y = 0 := by omega
        have HC : Hid (x = (Int.gcd a b : Int)) := Lib.hid (by rw [← hg.out]; simp; omega)
        clear hg
        go_wp2
        go_ret
        exact ⟨ret_int HC.out, rfl⟩

end Go.Proofs.Ytohbgfmjnanlkaa
/- Slices of int64 that are only read, and copies of them: words, and contracts of laws.toInt64S and laws.eqInt64S. Conditions: stated at each theorem. -/
namespace Go.Proofs.Ytohbgfmjnanlkaa
open Go.ChangeShapes Go.WideShapes Go.ChangeAt Go.RowKit
set_option linter.unusedVariables false

/-- The slice at A with n elements, below block B, reads as the integers zs. -/
def RI (w : World) (B : Nat) (A : Option Addr) (n : Nat) (zs : List Int) : Prop :=
  zs.length = n ∧ ∀ k, k < n → ∃ a, A = some a ∧ a.block < B ∧ w.cell? (a.add k) = some (.int .i64 (zs.getD k 0))
theorem add_block (a : Addr) (k : Nat) : (a.add k).block = a.block := by unfold Addr.add; split <;> rfl
theorem RI.below {w w' : World} {B n : Nat} {A : Option Addr} {zs : List Int} (h : RI w B A n zs) (hb : Below B w w') : RI w' B A n zs :=
  ⟨h.1, fun k hk => by
    obtain ⟨a, e, hlt, hc⟩ := h.2 k hk
    exact ⟨a, e, hlt, (hb.cell (by rw [add_block]; exact hlt)).trans hc⟩⟩
theorem RI.more {w : World} {B B' n : Nat} {A : Option Addr} {zs : List Int} (h : RI w B A n zs) (hB : B ≤ B') : RI w B' A n zs :=
  ⟨h.1, fun k hk => by
    obtain ⟨a, e, hlt, hc⟩ := h.2 k hk
    exact ⟨a, e, by omega, hc⟩⟩
theorem RI.drewN {w : World} {B n : Nat} {A : Option Addr} {zs : List Int} (h : RI w B A n zs) (m : Nat) : RI (w.drewN m) B A n zs := h
theorem RI.of_row {w : World} {g n : Nat} {t : TypeId} {zs : List Int} (h : w.rowIs g t n fun i => .int .i64 (zs.getD i 0)) (hl : zs.length = n) {B : Nat} (hB : g < B) : RI w B (some ⟨g, 0, none⟩) n zs :=
  ⟨hl, fun k hk => ⟨_, rfl, hB, by
    have := h.cell hk
    simp only [Addr.add]
    split <;> simp_all⟩⟩

theorem int_info : (Try.prog.info? 2).map (fun i => (i.zero, i.size, i.bytes)) = some (some (.int .i64 0), 1, 8) := by kernel_rfl

set_option maxRecDepth 100000 in
/-- A []int64 that comes in. -/
theorem open_row_ints {H : Type} {enc : TypeId × Value → H} {W : World} {B : Nat} {r : Reach} {b0 : Nat} {v : Value} {d : DataW H} {p : List MemPlace}
    (hv : Value.okWide Try.prog W r b0 22 v) (h : DataW.Trod enc Try.prog W 0 (fun _ => true) true 22 v d p) (hlt : ∀ x ∈ p, x.block < B) :
    ∃ (A : Option Addr) (n c : Nat) (zs : List Int), v = .slice A n c ∧ RI W B A n zs ∧ n ≤ 9223372036854775807 ∧ ∀ z ∈ zs, (Lit.int .i64 z).wf = true := by
  obtain ⟨a0, len, cap, rfl⟩ := okWide_slice Try.underlying22 hv
  obtain ⟨fuel, hf⟩ := h
  rcases open_ints Try.underlying22 Try.underlying2 (by kernel_rfl) hf with ⟨e, _⟩ | ⟨a, len', cap', zs, e, _, hle, hcap, hzl, hx, hcell, hwf⟩
  · simp [Value.cells] at e
    obtain ⟨rfl, rfl, rfl⟩ := e
    exact ⟨none, 0, 0, [], rfl, ⟨rfl, fun k hk => by omega⟩, by omega, by simp⟩
  · simp [Value.cells] at e
    obtain ⟨rfl, rfl, rfl⟩ := e
    simp only [if_true] at hzl
    simp only [Prod.mk.injEq] at hx
    have hp : p = MemPlace.row a zs.length := hx.2
    unfold maxLen at hcap
    refine ⟨some a, len, cap, zs.take len, rfl, ⟨by simp; omega, fun k hk => ⟨a, rfl, ?_, ?_⟩⟩, by omega, fun z hz => hwf z (List.mem_of_mem_take hz)⟩
    · have := hlt (.cell a.block (a.off + 0)) (by rw [hp]; exact MemPlace.mem_row.2 ⟨0, by omega, rfl⟩)
      simpa [MemPlace.block] using this
    · rw [hcell k (by omega)]
      simp [List.getD, hk]

theorem toInt64S_any (A : Option Addr) (n c : Nat) (zs : List Int) (w : World) (hr : RI w w.heap.size A n zs) (hn : n ≤ 1048576) :
    Calls Try.prog 54 #[.slice A n c] w fun e w' => e = .returned (.slice (some ⟨w.heap.size, 0, none⟩) n n) ∧ (w'.rowIs w.heap.size 2 n fun i => .int .i64 (zs.getD i 0)) ∧ Below w.heap.size w w' := by
  have hmk := fun (W : World) => run_make_row' (P := Try.prog) 22 2 (.int .i64 0) 8 Try.underlying22 int_info rfl .i64 .i64 n (by omega) (by omega) W
  have H0 := Lib.hid hr
  clear hr
  go_enter Try.func54, Try.ntmps54
  go_wp2
  clear hmk
  go_loopw [4] (fun i wr => ∃ k : Nat, k ≤ n ∧ i = .int .i64 k ∧ (wr.rowIs w.heap.size 2 n fun j => if j < k then .int .i64 (zs.getD j 0) else .int .i64 0) ∧ Below w.heap.size w wr) (fun i _ => n - (intOf i).toNat)
  case atStart =>
    exact ⟨0, by omega, rfl, (World.rowIs_made w _ n _).congr (fun i hi => by simp), (Below.refl _ _).alloc (Nat.le_refl _) _⟩
  case round =>
    obtain ⟨k, hk, rfl, hrow, hb⟩ := hrel
    by_cases hlt : k < n
    · obtain ⟨a, rfl, hab, hcell⟩ := H0.out.2 k hlt
      have hcell' : wr.cell? (a.add k) = some (.int .i64 (zs.getD k 0)) := (hb.cell (by rw [add_block]; exact hab)).trans hcell
      have hdst := hrow.cell hlt
      simp only [Nat.lt_irrefl, if_false] at hdst
      have hfz := hrow.frozen k
      clear hcell
      go_wp2
      go_roundw
      case rel =>
        refine ⟨k + 1, by omega, by go_num, (hrow.set k _).congr fun j hj => ?_, hb.setCell (Nat.le_refl _) _⟩
        by_cases h1 : j = k
        · subst h1; simp
        · by_cases h2 : j < k
          · simp [h1, h2, show j < k + 1 by omega]
          · simp [h1, h2, show ¬ j < k + 1 by omega]
      case measure => simp [intOf]; omega
    · obtain rfl : k = n := by omega
      go_wp2
      go_ret
      exact ⟨rfl, hrow.congr fun j hj => by simp [hj], hb⟩

theorem eqInt64S_same (A A' : Option Addr) (n c c' : Nat) (zs : List Int) (w : World) (B : Nat) (hr : RI w B A n zs) (hr' : RI w B A' n zs) (hn : n ≤ 9223372036854775807) :
    Calls Try.prog 50 #[.slice A n c, .slice A' n c'] w fun e w' => e = .returned (.bool true) ∧ ∃ m, w' = w.drewN m := by
  have H0 := Lib.hid hr
  have H1 := Lib.hid hr'
  clear hr hr'
  go_enter Try.func50, Try.ntmps50
  go_wp2
  go_loopw [5] (fun i wr => ∃ (k m : Nat), k ≤ n ∧ i = .int .i64 k ∧ wr = w.drewN m) (fun i _ => n - (intOf i).toNat)
  case atStart => exact ⟨0, 0, by omega, rfl, rfl⟩
  case round =>
    obtain ⟨k, m, hk, rfl, rfl⟩ := hrel
    by_cases hlt : k < n
    · obtain ⟨a, rfl, _, hcell⟩ := H0.out.2 k hlt
      obtain ⟨a', rfl, _, hcell'⟩ := H1.out.2 k hlt
      have hk0 : (0 : Int) ≤ (k : Int) := Int.natCast_nonneg _
      have hk1 : (k : Int) < (n : Int) := by omega
      go_wp2
      go_quiet (fail)
      go_wp2
      go_roundw
      case rel => exact ⟨k + 1, m + nq, by omega, by go_num, rfl⟩
      case measure => simp [intOf]; omega
    · obtain rfl : k = n := by omega
      go_wp2
      go_ret
      exact ⟨rfl, m, rfl⟩
end Go.Proofs.Ytohbgfmjnanlkaa
/- Slices of int64 that a call has made: words, and contracts of laws.markInt64S and laws.heldInt64S. Conditions: stated at each theorem. -/
namespace Go.Proofs.Ytohbgfmjnanlkaa
open Go.ChangeShapes Go.WideShapes Go.ChangeAt Go.RowKit
set_option linter.unusedVariables false

/-- The slice value v with n elements is the call's own from block base on, and holds xs. -/
def Own (w : World) (base : Nat) (v : Value) (n : Nat) (xs : List Value) : Prop := w.ownsRow base 2 1 v n xs
theorem Own.kept {w w' : World} {base n : Nat} {v : Value} {xs : List Value} {row : Option Nat} (h : Own w base v n xs) (hg : w.grownBy w' row) (hne : v.ownBlock = none ∨ v.ownBlock ≠ row) : Own w' base v n xs := World.ownsRow.kept h hg hne
theorem grown_of_below {w w' : World} (h : Below w.heap.size w w') (row : Option Nat) : w.grownBy w' row := ⟨h.os, h.tape, h.output, h.size, fun i hi _ => h.block i hi⟩
theorem grown_trans {a b c : World} {row : Option Nat} (h : a.grownBy b row) (k : b.grownBy c row) : a.grownBy c row :=
  ⟨k.os.trans h.os, k.tape.trans h.tape, k.output.trans h.output, Nat.le_trans h.size k.size, fun i hi hn => (k.block i (Nat.lt_of_lt_of_le hi h.size) hn).trans (h.block i hi hn)⟩
theorem grown_setCell {a w : World} {g : Nat} (h : a.grownBy w (some g)) {p : Addr} (hp : p.block = g) (u : Value) : a.grownBy (w.setCell p u) (some g) :=
  ⟨h.os, h.tape, h.output, by simpa [World.setCell] using h.size, fun i hi hne => (Below.heap_setCell w p u i (by
    rintro rfl
    exact hne (by rw [hp]))).trans (h.block i hi hne)⟩
theorem Own.below {w w' : World} {base n : Nat} {v : Value} {xs : List Value} (h : Own w base v n xs) (hb : Below w.heap.size w w') : Own w' base v n xs :=
  h.kept (grown_of_below hb none) (by cases v.ownBlock <;> simp)
theorem Own.drewN {w : World} {base n : Nat} {v : Value} {xs : List Value} (h : Own w base v n xs) (m : Nat) : Own (w.drewN m) base v n xs := h
theorem Own.nil (w : World) (base : Nat) : Own w base (.slice none 0 0) 0 [] := World.ownsRow_nil w base _ _
theorem Own.lt {w : World} {base n : Nat} {v : Value} {xs : List Value} (h : Own w base v n xs) : ∀ k, v.ownBlock = some k → base ≤ k ∧ k < w.heap.size := World.ownsRow.lt h
theorem Own.len {w : World} {base n : Nat} {v : Value} {xs : List Value} (h : Own w base v n xs) : xs.length = n := by have := h.1; omega
theorem Own.apart {w w' : World} {base base' n n' : Nat} {v v' : Value} {xs xs' : List Value} (h : Own w base v n xs) (h' : Own w' base' v' n' xs') (hlt : w.heap.size ≤ base') : v.ownBlock = none ∨ v.ownBlock ≠ v'.ownBlock := by
  cases e : v.ownBlock with
  | none => exact .inl rfl
  | some k =>
    refine .inr fun e' => ?_
    have h1 := h.lt k e
    have h2 := h'.lt k e'.symm
    omega
/-- An own slice of integers reads as them. -/
theorem Own.reads {w : World} {base n c : Nat} {A : Option Addr} {zs : List Int} (h : Own w base (.slice A n c) n (zs.map (.int .i64))) : RI w w.heap.size A n zs := by
  have hl := h.len
  refine ⟨by simpa using hl, fun k hk => ?_⟩
  rcases h.2 with ⟨e, e0⟩ | ⟨g, cap, cur, e, hb, hg, hnc, hcm, hcs, hcur⟩
  · omega
  · simp only [Value.slice.injEq] at e
    obtain ⟨rfl, _, rfl⟩ := e
    refine ⟨_, rfl, (Array.getElem?_eq_some_iff.1 hg).1, ?_⟩
    have h2 : w.ownsRow base 2 1 (.slice (some ⟨g, 0, none⟩) n c) n (zs.map (.int .i64)) := h
    have h3 := h2.cellAt k (by omega)
    have h4 : (⟨g, 0, none⟩ : Addr).add k = ⟨g, k, none⟩ := by unfold Addr.add; split <;> simp_all
    rw [h4, h3]
    have hk' : k < zs.length := by simpa using (show k < (zs.map (Value.int .i64)).length by omega)
    simp [hk']
/-- The numbers k, k + 1, .. -/
def Marked (k n : Nat) (xs : List Value) : Prop := ∀ i, i < n → xs[i]? = some (.int .i64 ((k + i : Nat) : Int))

theorem markInt64S_any (A : Option Addr) (n c base k : Nat) (xs : List Value) (w : World) (hown : Own w base (.slice A n c) n xs) (hn : n ≤ 1099511627776) (hk : k ≤ 1099511627776) :
    Calls Try.prog 51 #[.slice A n c, .int .i64 k] w fun e w' => e = .returned (.int .i64 ((k + n : Nat) : Int)) ∧ (∃ ys, Own w' base (.slice A n c) n ys ∧ Marked k n ys) ∧ w.grownBy w' (Value.slice A n c).ownBlock := by
  rcases hown.2 with ⟨e, e0⟩ | ⟨g, cap, cur, e, hb, hg, hnc, hcm, hcs, hcur⟩
  · subst e0
    simp only [Value.slice.injEq] at e
    obtain ⟨rfl, _, rfl⟩ := e
    have H := Lib.hid hown
    clear hown
    go_enter Try.func51, Try.ntmps51
    go_wp2
    go_loopw [1, 5] (fun vk vi wr => vk = .int .i64 k ∧ vi = .int .i64 0 ∧ wr = w) (fun _ _ _ => 0)
    case atStart => exact ⟨rfl, rfl, rfl⟩
    case round =>
      obtain ⟨rfl, rfl, rfl⟩ := hrel
      go_wp2
      go_ret
      exact ⟨rfl, ⟨xs, H.out, fun i hi => by omega⟩, World.grownBy.refl _ _⟩
  · simp only [Value.slice.injEq] at e
    obtain ⟨rfl, _, rfl⟩ := e
    have H := Lib.hid hown
    clear hown hg hcs hcur
    go_enter Try.func51, Try.ntmps51
    go_wp2
    go_loopw [1, 5] (fun vk vi wr => ∃ (j : Nat) (ys : List Value), j ≤ n ∧ vk = .int .i64 ((k + j : Nat) : Int) ∧ vi = .int .i64 j ∧ Hid (Own wr base (.slice (some ⟨g, 0, none⟩) n c) n ys) ∧ Hid (Marked k j ys) ∧ Hid (w.grownBy wr (some g))) (fun _ vi _ => n - (intOf vi).toNat)
    case atStart => exact ⟨0, xs, by omega, rfl, rfl, H, fun i hi => by omega, World.grownBy.refl _ _⟩
    case round =>
      obtain ⟨j, ys, hj, rfl, rfl, ho, hm, hgr⟩ := hrel
      by_cases hlt : j < n
      · have hlen : j < ys.length := by rw [ho.out.len]; exact hlt
        have hcell : wr.cell? ⟨g, j, none⟩ = some ys[j] := by
          rw [World.ownsRow.cellAt ho.out j (by omega), List.getElem?_eq_getElem hlen]
        have hfz := World.ownsRow.frozenAt ho.out j
        go_wp2
        go_roundw
        case rel =>
          refine ⟨j + 1, ys.set j (.int .i64 ((k + j : Nat) : Int)), by omega, by go_num, by go_num, Lib.hid ?_, Lib.hid ?_, Lib.hid (grown_setCell hgr.out rfl _)⟩
          · have e : (k : Int) + (j : Int) = ((k + j : Nat) : Int) := by omega
            rw [e]
            exact (World.ownsRow.stored ho.out j _).1
          · intro i hi
            rw [List.getElem?_set]
            by_cases h1 : j = i
            · subst h1; simp [hlen]
            · rw [if_neg h1]; exact hm.out i (by omega)
        case measure => simp [intOf]; omega
      · obtain rfl : j = n := by omega
        go_wp2
        go_ret
        exact ⟨rfl, ⟨ys, ho.out, hm.out⟩, hgr.out⟩

theorem heldInt64S_any (A : Option Addr) (n c base k : Nat) (xs : List Value) (w : World) (hown : Own w base (.slice A n c) n xs) (hm : Marked k n xs) (hn : n ≤ 1099511627776) (hk : k ≤ 1099511627776) :
    Calls Try.prog 52 #[.slice A n c, .int .i64 k] w fun e w' => e = .returned (.int .i64 ((k + n : Nat) : Int)) ∧ w = w' := by
  have hform : 0 < n → ∃ g, A = some ⟨g, 0, none⟩ := by
    intro h0
    rcases hown.2 with ⟨e, e0⟩ | ⟨g, cap, cur, e, _⟩
    · omega
    · simp only [Value.slice.injEq] at e
      exact ⟨g, e.1⟩
  have H := Lib.hid hown
  have M := Lib.hid hm
  clear hown hm
  go_enter Try.func52, Try.ntmps52
  go_wp2
  go_loop [1, 5] (fun vk vi => ∃ (j : Nat), j ≤ n ∧ vk = .int .i64 ((k + j : Nat) : Int) ∧ vi = .int .i64 j) (fun _ vi => n - (intOf vi).toNat)
  case atStart => exact ⟨0, by omega, rfl, rfl⟩
  case round =>
    obtain ⟨j, hj, rfl, rfl⟩ := hrel
    by_cases hlt : j < n
    · obtain ⟨g, rfl⟩ := hform (by omega)
      have hcell : w.cell? ⟨g, j, none⟩ = some (.int .i64 ((k + j : Nat) : Int)) := by
        rw [World.ownsRow.cellAt H.out j (by omega), M.out j hlt]
      have hcell' : w.cell? ((⟨g, 0, none⟩ : Addr).add j) = some (.int .i64 ((k + j : Nat) : Int)) := by
        have h4 : (⟨g, 0, none⟩ : Addr).add j = ⟨g, j, none⟩ := by unfold Addr.add; split <;> simp_all
        rw [h4]; exact hcell
      go_wp2
      go_round
      case rel => exact ⟨j + 1, by omega, by go_num, by go_num⟩
      case measure => simp [intOf]; omega
    · obtain rfl : j = n := by omega
      go_wp2
      go_ret
      exact ⟨rfl, rfl⟩
end Go.Proofs.Ytohbgfmjnanlkaa
/- Parts of memory that a call has made and that later calls leave alone: words for the exact laws. Conditions: stated at each theorem. -/
namespace Go.Proofs.Ytohbgfmjnanlkaa
open Go.ChangeShapes Go.WideShapes Go.ChangeAt Go.RowKit
set_option linter.unusedVariables false

/-- The blocks from lo on and below hi are in w' as in w; no block has gone. -/
structure Kept (lo hi : Nat) (w w' : World) : Prop where
  size : w.heap.size ≤ w'.heap.size
  block : ∀ b, lo ≤ b → b < hi → w'.heap[b]? = w.heap[b]?
theorem Kept.refl (lo hi : Nat) (w : World) : Kept lo hi w w := ⟨Nat.le_refl _, fun _ _ _ => rfl⟩
theorem Kept.trans {lo hi : Nat} {a b c : World} (h : Kept lo hi a b) (k : Kept lo hi b c) : Kept lo hi a c :=
  ⟨Nat.le_trans h.size k.size, fun i h1 h2 => (k.block i h1 h2).trans (h.block i h1 h2)⟩
theorem Kept.of_below {lo hi B : Nat} {w w' : World} (h : Below B w w') (hB : hi ≤ B) : Kept lo hi w w' := ⟨h.size, fun b _ hb => h.block b (by omega)⟩
theorem Kept.drewN (lo hi : Nat) (w : World) (m : Nat) : Kept lo hi w (w.drewN m) := ⟨Nat.le_refl _, fun _ _ _ => rfl⟩

/-- From w to w' blocks from lo on and below hi may have changed, and new ones may have come. -/
structure Only (lo hi : Nat) (w w' : World) : Prop where
  os : w'.os = w.os
  tape : w'.tape = w.tape
  output : w'.output = w.output
  size : w.heap.size ≤ w'.heap.size
  block : ∀ b, b < w.heap.size → ¬(lo ≤ b ∧ b < hi) → w'.heap[b]? = w.heap[b]?
theorem Only.kept {lo hi l h : Nat} {w w' : World} (k : Only lo hi w w') (hd : h ≤ lo ∨ hi ≤ l) (hs : h ≤ w.heap.size) : Kept l h w w' :=
  ⟨k.size, fun b h1 h2 => k.block b (by omega) (by omega)⟩
theorem Only.below {lo hi B : Nat} {w w' : World} (k : Only lo hi w w') (hB : B ≤ lo) (hs : B ≤ w.heap.size) : Below B w w' :=
  ⟨k.os, k.tape, k.output, k.size, fun b hb => k.block b (by omega) (by omega)⟩
theorem Only.refl (lo hi : Nat) (w : World) : Only lo hi w w := ⟨rfl, rfl, rfl, Nat.le_refl _, fun _ _ _ => rfl⟩
theorem Only.trans {lo hi : Nat} {a b c : World} (h : Only lo hi a b) (k : Only lo hi b c) : Only lo hi a c :=
  ⟨k.os.trans h.os, k.tape.trans h.tape, k.output.trans h.output, Nat.le_trans h.size k.size, fun i h1 h2 => (k.block i (by have := h.size; omega) h2).trans (h.block i h1 h2)⟩
theorem Only.of_grown {lo hi : Nat} {w w' : World} {row : Option Nat} (h : w.grownBy w' row) (hr : ∀ k, row = some k → lo ≤ k ∧ k < hi) : Only lo hi w w' :=
  ⟨h.os, h.tape, h.output, h.size, fun b hb hn => h.block b hb (fun e => hn (hr b e.symm))⟩

/-- The slice v of the numbers zs is the call's own: its block is one from lo on and below hi. -/
def OwnI (w : World) (lo hi : Nat) (v : Value) (zs : List Int) : Prop := Own w lo v zs.length (zs.map (.int .i64)) ∧ (∀ k, v.ownBlock = some k → k < hi) ∧ hi ≤ w.heap.size
/-- The slice v of n cells is the call's own and bears the marks k, k + 1, .. -/
def MarkI (w : World) (lo hi : Nat) (v : Value) (n k : Nat) : Prop := (∃ ys, Own w lo v n ys ∧ Marked k n ys) ∧ (∀ k, v.ownBlock = some k → k < hi) ∧ hi ≤ w.heap.size
/-- The slice v, below block B, reads as the numbers zs. -/
def ReadI (w : World) (B : Nat) (v : Value) (zs : List Int) : Prop := ∃ A c, v = .slice A zs.length c ∧ RI w B A zs.length zs ∧ (A = none → c = 0) ∧ zs.length ≤ c ∧ (∀ a, A = some a → ∃ g o, a = ⟨g, o, none⟩) ∧ c ≤ 9223372036854775807
/-- The like, where nothing is known of its capacity. -/
def ReadW (w : World) (B : Nat) (v : Value) (zs : List Int) : Prop := ∃ A c, v = .slice A zs.length c ∧ RI w B A zs.length zs
theorem ReadI.weak {w : World} {B : Nat} {v : Value} {zs : List Int} (h : ReadI w B v zs) : ReadW w B v zs := by
  obtain ⟨A, c, e, h, _⟩ := h; exact ⟨A, c, e, h⟩

theorem own_of_kept {w w' : World} {lo hi n : Nat} {v : Value} {xs : List Value} (h : Own w lo v n xs) (hh : ∀ k, v.ownBlock = some k → k < hi) (k : Kept lo hi w w') : Own w' lo v n xs := by
  refine ⟨h.1, ?_⟩
  rcases h.2 with hn | ⟨g, cap, cur, rfl, hb, hgg, rest⟩
  · exact .inl hn
  · refine .inr ⟨g, cap, cur, rfl, hb, ?_, rest⟩
    rw [k.block g hb (hh g rfl)]
    exact hgg
theorem OwnI.kept {w w' : World} {lo hi : Nat} {v : Value} {zs : List Int} (h : OwnI w lo hi v zs) (k : Kept lo hi w w') : OwnI w' lo hi v zs :=
  ⟨own_of_kept h.1 h.2.1 k, h.2.1, Nat.le_trans h.2.2 k.size⟩
theorem MarkI.kept {w w' : World} {lo hi n m : Nat} {v : Value} (h : MarkI w lo hi v n m) (k : Kept lo hi w w') : MarkI w' lo hi v n m := by
  obtain ⟨⟨ys, h1, h2⟩, h3, h4⟩ := h
  exact ⟨⟨ys, own_of_kept h1 h3 k, h2⟩, h3, Nat.le_trans h4 k.size⟩
theorem OwnI.mk' {w : World} {lo : Nat} {v : Value} {n : Nat} {zs : List Int} (h : Own w lo v n (zs.map (.int .i64))) : OwnI w lo w.heap.size v zs := by
  obtain rfl : zs.length = n := by have := h.len; simpa using this
  exact ⟨h, fun k hk => (h.lt k hk).2, Nat.le_refl _⟩
theorem OwnI.nil (w : World) (lo : Nat) : OwnI w lo w.heap.size (.slice none 0 0) [] := OwnI.mk' (n := 0) (Own.nil w lo)
theorem own_form {w : World} {base n : Nat} {v : Value} {xs : List Value} (h : Own w base v n xs) : ∃ A c, v = .slice A n c := by
  rcases h.2 with ⟨rfl, rfl⟩ | ⟨g, cap, cur, rfl, _⟩
  · exact ⟨none, 0, rfl⟩
  · exact ⟨_, _, rfl⟩
theorem OwnI.form {w : World} {lo hi : Nat} {v : Value} {zs : List Int} (h : OwnI w lo hi v zs) {n : Nat} (hl : zs.length = n) : ∃ A c, v = .slice A n c := by
  subst hl; exact own_form h.1
theorem OwnI.reads {w : World} {lo hi : Nat} {v : Value} {zs : List Int} (h : OwnI w lo hi v zs) : ReadI w w.heap.size v zs := by
  obtain ⟨A, c, rfl⟩ := own_form h.1
  refine ⟨A, c, rfl, h.1.reads, ?_⟩
  rcases h.1.2 with ⟨e, e0⟩ | ⟨g, cap, cur, e, hb, hg, hnc, hcm, hcs, hcur⟩
  · simp only [Value.slice.injEq] at e
    obtain ⟨rfl, h0, rfl⟩ := e
    exact ⟨fun _ => rfl, by omega, (fun a h => by cases h), by omega⟩
  · simp only [Value.slice.injEq] at e
    obtain ⟨rfl, h0, rfl⟩ := e
    unfold maxLen at hcm
    exact ⟨(fun h => by cases h), hnc, (fun a h => by cases h; exact ⟨_, _, rfl⟩), by omega⟩
theorem ReadI.below {w w' : World} {B : Nat} {v : Value} {zs : List Int} (h : ReadI w B v zs) (hb : Below B w w') : ReadI w' B v zs := by
  obtain ⟨A, c, e, h, k⟩ := h; exact ⟨A, c, e, h.below hb, k⟩
theorem ReadI.more {w : World} {B B' : Nat} {v : Value} {zs : List Int} (h : ReadI w B v zs) (hB : B ≤ B') : ReadI w B' v zs := by
  obtain ⟨A, c, e, h, k⟩ := h; exact ⟨A, c, e, h.more hB, k⟩
theorem ReadW.below {w w' : World} {B : Nat} {v : Value} {zs : List Int} (h : ReadW w B v zs) (hb : Below B w w') : ReadW w' B v zs := by
  obtain ⟨A, c, e, h⟩ := h; exact ⟨A, c, e, h.below hb⟩
theorem ReadW.more {w : World} {B B' : Nat} {v : Value} {zs : List Int} (h : ReadW w B v zs) (hB : B ≤ B') : ReadW w B' v zs := by
  obtain ⟨A, c, e, h⟩ := h; exact ⟨A, c, e, h.more hB⟩
theorem ReadW.mk' {w : World} {B n c : Nat} {A : Option Addr} {zs : List Int} (h : RI w B A n zs) : ReadW w B (.slice A n c) zs := by
  obtain rfl := h.1; exact ⟨A, c, rfl, h⟩

theorem toI (v : Value) (zs : List Int) (w : World) (hr : ReadW w w.heap.size v zs) (hn : zs.length ≤ 1048576) :
    Calls Try.prog 54 #[v] w fun e w' => ∃ v', e = .returned v' ∧ OwnI w' w.heap.size w'.heap.size v' zs ∧ Below w.heap.size w w' := by
  obtain ⟨A, c, rfl, hr⟩ := hr
  refine (toInt64S_any A _ c zs w hr hn).mono ?_
  rintro e w' ⟨rfl, ⟨cs, h1, h2, h3⟩, hb⟩
  refine ⟨_, rfl, OwnI.mk' (n := zs.length) ⟨by simp, .inr ⟨w.heap.size, zs.length, cs, rfl, Nat.le_refl _, h1, Nat.le_refl _, by unfold maxLen; omega, by omega, ?_⟩⟩, hb⟩
  apply List.ext_getElem?
  intro i
  by_cases hi : i < zs.length
  · have := h3 i hi
    simp only [Nat.mul_one, List.getElem?_take, hi, if_true, Array.getElem?_toList, this]
    simp [hi]
  · rw [List.getElem?_eq_none (by simp; omega), List.getElem?_eq_none (by simp; omega)]

theorem eqI (v v' : Value) (zs : List Int) (w : World) (B : Nat) (hr : ReadI w B v zs) (hr' : ReadI w B v' zs) (hn : zs.length ≤ 9223372036854775807) :
    Calls Try.prog 50 #[v, v'] w fun e w' => e = .returned (.bool true) ∧ ∃ m, w' = w.drewN m := by
  obtain ⟨A, c, rfl, hr, _⟩ := hr
  obtain ⟨A', c', rfl, hr', _⟩ := hr'
  exact eqInt64S_same A A' _ c c' zs w B hr hr' hn

theorem markI (v : Value) (lo hi : Nat) (zs : List Int) (k : Nat) (w : World) (h : OwnI w lo hi v zs) (hn : zs.length ≤ 1099511627776) (hk : k ≤ 1099511627776) :
    Calls Try.prog 51 #[v, .int .i64 k] w fun e w' => e = .returned (.int .i64 ((k + zs.length : Nat) : Int)) ∧ MarkI w' lo hi v zs.length k ∧ Only lo hi w w' := by
  obtain ⟨h1, h2, h3⟩ := h
  obtain ⟨A, c, rfl⟩ := own_form h1
  refine (markInt64S_any A _ c lo k _ w h1 hn hk).mono ?_
  rintro e w' ⟨rfl, h4, h5⟩
  exact ⟨rfl, ⟨h4, h2, Nat.le_trans h3 h5.size⟩, Only.of_grown h5 fun k hk => ⟨(h1.lt k hk).1, h2 k hk⟩⟩

theorem heldI (v : Value) (lo hi n k : Nat) (w : World) (h : MarkI w lo hi v n k) (hn : n ≤ 1099511627776) (hk : k ≤ 1099511627776) :
    Calls Try.prog 52 #[v, .int .i64 k] w fun e w' => e = .returned (.int .i64 ((k + n : Nat) : Int)) ∧ w = w' := by
  obtain ⟨⟨ys, h1, hm⟩, h2, h3⟩ := h
  obtain ⟨A, c, rfl⟩ := own_form h1
  exact heldInt64S_any A n c lo k ys w h1 hm hn hk
theorem eqI' (v v' : Value) (zs : List Int) (w : World) (B : Nat) (hr : ReadI w B v zs) (hr' : ReadI w B v' zs) (hn : zs.length ≤ 9223372036854775807) :
    Calls Try.prog 50 #[v, v'] w fun e w' => e = .returned (.bool true) ∧ Below w.heap.size w w' :=
  (eqI v v' zs w B hr hr' hn).mono fun e w' ⟨h, m, hw⟩ => ⟨h, by rw [hw]; exact ⟨rfl, rfl, rfl, Nat.le_refl _, fun _ _ => rfl⟩⟩
theorem markI' (v : Value) (lo hi : Nat) (zs : List Int) (k : Int) (w : World) (h : OwnI w lo hi v zs) (hn : zs.length ≤ 1099511627776) (hk : 0 ≤ k ∧ k ≤ 1099511627776) :
    Calls Try.prog 51 #[v, .int .i64 k] w fun e w' => e = .returned (.int .i64 (k + (zs.length : Int))) ∧ MarkI w' lo hi v zs.length k.toNat ∧ Only lo hi w w' := by
  obtain ⟨j, rfl⟩ : ∃ j : Nat, k = (j : Int) := ⟨k.toNat, by omega⟩
  refine (markI v lo hi zs j w h hn (by omega)).mono ?_
  rintro e w' ⟨rfl, h1, h2⟩
  exact ⟨by rw [Int.natCast_add], by simpa using h1, h2⟩
theorem heldI' (v : Value) (lo hi n : Nat) (k : Int) (w : World) (h : MarkI w lo hi v n k.toNat) (hn : n ≤ 1099511627776) (hk : 0 ≤ k ∧ k ≤ 1099511627776) :
    Calls Try.prog 52 #[v, .int .i64 k] w fun e w' => e = .returned (.int .i64 (k + (n : Int))) ∧ w = w' := by
  obtain ⟨j, rfl⟩ : ∃ j : Nat, k = (j : Int) := ⟨k.toNat, by omega⟩
  refine (heldI v lo hi n j w (by simpa using h) hn (by omega)).mono ?_
  rintro e w' ⟨rfl, h1⟩
  exact ⟨by rw [Int.natCast_add], h1⟩
/-- Answers: a list and a code; two numbers; a bool; a bool and a code. -/
def AnsIC (w : World) (L : List Int) (C : Int) (e : Ending) (w' : World) : Prop := ∃ v, e = .returned (.tuple #[v, .int .i64 C]) ∧ OwnI w' w.heap.size w'.heap.size v L ∧ Below w.heap.size w w'
def AnsII (w : World) (a b : Int) (e : Ending) (w' : World) : Prop := e = .returned (.tuple #[.int .i64 a, .int .i64 b]) ∧ Below w.heap.size w w'
def AnsB (w : World) (b : Bool) (e : Ending) (w' : World) : Prop := e = .returned (.bool b) ∧ Below w.heap.size w w'
def AnsBI (w : World) (b : Bool) (c : Int) (e : Ending) (w' : World) : Prop := e = .returned (.tuple #[.bool b, .int .i64 c]) ∧ Below w.heap.size w w'
theorem AnsIC.empty {w w' : World} {L : List Int} {C D : Int} (h1 : [] = L) (h2 : D = C) (hb : Below w.heap.size w w') : AnsIC w L C (.returned (.tuple #[.slice none 0 0, .int .i64 D])) w' := by
  subst h1; subst h2; exact ⟨_, rfl, (OwnI.mk' (n := 0) (Own.nil _ _)), hb⟩
theorem AnsIC.mk' {w w' : World} {L zs : List Int} {C D : Int} {v : Value} (h1 : zs = L) (h2 : D = C) (ho : OwnI w' w.heap.size w'.heap.size v zs) (hb : Below w.heap.size w w') : AnsIC w L C (.returned (.tuple #[v, .int .i64 D])) w' := by
  subst h1; subst h2; exact ⟨_, rfl, ho, hb⟩
theorem hid_in {p : Prop} (h : p) : Hid p := h
theorem hid_out {p : Prop} (h : Hid p) : p := h
theorem drewN_below {B : Nat} (w : World) (m : Nat) : Below B w (w.drewN m) := ⟨rfl, rfl, rfl, Nat.le_refl _, fun _ _ => rfl⟩
end Go.Proofs.Ytohbgfmjnanlkaa
/- Ranges: contracts of spec.l01In, impl.isWithin and impl.isCoefficient, and of impl.absolute. Conditions: stated at each theorem. -/
namespace Go.Proofs.Ytohbgfmjnanlkaa
open Go.ChangeShapes Go.WideShapes Go.ChangeAt Go.RowKit
set_option linter.unusedVariables false
theorem inY (n l h : Int) (w : World) (h1 : l ≤ n) (h2 : n ≤ h) :
    Calls Try.prog 60 #[.int .i64 n, .int .i64 l, .int .i64 h] w fun e w' => e = .returned (.bool true) ∧ w = w' := by
  go_enter Try.func60, Try.ntmps60
  go_wp2
  go_ret
  exact ⟨rfl, rfl⟩
theorem inN (n l h : Int) (w : World) (h1 : ¬ (l ≤ n ∧ n ≤ h)) :
    Calls Try.prog 60 #[.int .i64 n, .int .i64 l, .int .i64 h] w fun e w' => e = .returned (.bool false) ∧ w = w' := by
  by_cases h0 : l ≤ n
  · have h2 : ¬ n ≤ h := fun h3 => h1 ⟨h0, h3⟩
    clear h1
    go_enter Try.func60, Try.ntmps60
    go_wp2
    go_ret
    exact ⟨rfl, rfl⟩
  · clear h1
    go_enter Try.func60, Try.ntmps60
    go_wp2
    go_ret
    exact ⟨rfl, rfl⟩
theorem withinY (n m : Int) (w : World) (h1 : -m ≤ n) (h2 : n ≤ m) (h3 : 0 ≤ m) (h4 : m ≤ 9223372036854775807) :
    Calls Try.prog 174 #[.int .i64 n, .int .i64 m] w fun e w' => e = .returned (.bool true) ∧ w = w' := by
  go_enter Try.func174, Try.ntmps174
  go_wp2
  go_ret
  exact ⟨rfl, rfl⟩
theorem withinN (n m : Int) (w : World) (h1 : ¬ (-m ≤ n ∧ n ≤ m)) (h3 : 0 ≤ m) (h4 : m ≤ 9223372036854775807) :
    Calls Try.prog 174 #[.int .i64 n, .int .i64 m] w fun e w' => e = .returned (.bool false) ∧ w = w' := by
  by_cases h0 : -m ≤ n
  · have h2 : ¬ n ≤ m := fun h3 => h1 ⟨h0, h3⟩
    clear h1
    go_enter Try.func174, Try.ntmps174
    go_wp2
    go_ret
    exact ⟨rfl, rfl⟩
  · clear h1
    go_enter Try.func174, Try.ntmps174
    go_wp2
    go_ret
    exact ⟨rfl, rfl⟩
end Go.Proofs.Ytohbgfmjnanlkaa
/- Polynomials as lists of integers: the plain functions that chapter 2 is held against. Conditions: stated at each theorem. -/
namespace Go.Proofs.Ytohbgfmjnanlkaa
set_option linter.unusedVariables false

/-- n steps of f, numbered from 0, as long as none fails. -/
def iterO {α : Type} (f : Nat → α → Option α) : Nat → α → Option α
  | 0, a => some a
  | n + 1, a => (iterO f n a).bind (f n)
theorem iterO_none {α : Type} {f : Nat → α → Option α} {a : α} {k : Nat} (h : iterO f k a = none) : ∀ {n : Nat}, k ≤ n → iterO f n a = none
  | 0, hk => by obtain rfl : k = 0 := by omega
                exact h
  | n + 1, hk => by
    by_cases e : k = n + 1
    · subst e; exact h
    · show (iterO f n a).bind (f n) = none
      rw [iterO_none h (show k ≤ n by omega)]; rfl
theorem iterO_step {α : Type} {f : Nat → α → Option α} {a b : α} {k : Nat} (h : iterO f k a = some b) : iterO f (k + 1) a = f k b := by
  show (iterO f k a).bind (f k) = f k b
  rw [h]; rfl
theorem iterO_inv {α : Type} {f : Nat → α → Option α} {P : α → Prop} {a : α} (h0 : P a) (hs : ∀ k x y, P x → f k x = some y → P y) : ∀ {n : Nat} {b : α}, iterO f n a = some b → P b
  | 0, b, h => by cases h; exact h0
  | n + 1, b, h => by
    cases e : iterO f n a with
    | none => rw [show iterO f (n + 1) a = (iterO f n a).bind (f n) from rfl, e] at h; cases h
    | some c => rw [iterO_step e] at h; exact hs n c b (iterO_inv h0 hs e) h

def coB (z : Int) : Bool := decide (-1000000000000 ≤ z ∧ z ≤ 1000000000000)
theorem coB_true {z : Int} : coB z = true ↔ -1000000000000 ≤ z ∧ z ≤ 1000000000000 := by simp [coB]
theorem coB_false {z : Int} : coB z = false ↔ ¬(-1000000000000 ≤ z ∧ z ≤ 1000000000000) := by simp [coB]
/-- The last number is not 0. -/
def endB (p : List Int) : Bool := p.isEmpty || (p.getD (p.length - 1) 0 != 0)
def polyB (p : List Int) : Bool := decide (p.length ≤ 2001) && p.all coB && endB p
theorem polyB_len {p : List Int} (h : polyB p = true) : p.length ≤ 2001 := by
  simp only [polyB, Bool.and_eq_true, decide_eq_true_eq] at h; exact h.1.1
theorem polyB_co {p : List Int} (h : polyB p = true) (k : Nat) : -1000000000000 ≤ p.getD k 0 ∧ p.getD k 0 ≤ 1000000000000 := by
  simp only [polyB, Bool.and_eq_true, decide_eq_true_eq, List.all_eq_true] at h
  by_cases hk : k < p.length
  · have := coB_true.1 (h.1.2 p[k] (List.getElem_mem _))
    simpa [List.getD, hk] using this
  · simp [List.getD, List.getElem?_eq_none (show p.length ≤ k by omega)]
theorem polyB_end {p : List Int} (h : polyB p = true) : endB p = true := by
  simp only [polyB, Bool.and_eq_true] at h; exact h.2
theorem all_take_succ {p : List Int} {k : Nat} (h : k < p.length) (ht : (p.take k).all coB = true) (hc : coB (p.getD k 0) = true) : (p.take (k + 1)).all coB = true := by
  have e : p.take (k + 1) = p.take k ++ [p.getD k 0] := by
    rw [List.take_succ_eq_append_getElem h]; simp [List.getD, h]
  rw [e, List.all_append, ht, List.all_cons, hc]; rfl
theorem all_false {p : List Int} {k : Nat} (h : k < p.length) (hc : coB (p.getD k 0) = false) : p.all coB = false := by
  rw [Bool.eq_false_iff]
  intro ha
  have := List.all_eq_true.1 ha p[k] (List.getElem_mem _)
  rw [show p.getD k 0 = p[k] by simp [List.getD, h], this] at hc
  cases hc

/-- How many numbers are left when the zeros at the end are taken away. -/
def trimN (p : List Int) : Nat → Nat
  | 0 => 0
  | n + 1 => if p.getD n 0 = 0 then trimN p n else n + 1
def trimL (p : List Int) : List Int := p.take (trimN p p.length)
theorem trimN_le (p : List Int) : ∀ n, trimN p n ≤ n
  | 0 => Nat.le_refl _
  | n + 1 => by unfold trimN; split; exact Nat.le_succ_of_le (trimN_le p n); exact Nat.le_refl _
theorem trimN_zero {p : List Int} {n : Nat} (h : p.getD n 0 = 0) : trimN p (n + 1) = trimN p n := by
  conv => lhs; unfold trimN
  rw [if_pos h]
theorem trimN_stop {p : List Int} {n : Nat} (h : p.getD n 0 ≠ 0) : trimN p (n + 1) = n + 1 := by
  conv => lhs; unfold trimN
  rw [if_neg h]
theorem trimL_len (p : List Int) : (trimL p).length = trimN p p.length := by
  have := trimN_le p p.length
  simp [trimL]; omega
theorem trimN_last (p : List Int) : ∀ n, trimN p n ≠ 0 → p.getD (trimN p n - 1) 0 ≠ 0
  | 0, h => by simp [trimN] at h
  | n + 1, h => by
    by_cases e : p.getD n 0 = 0
    · rw [trimN_zero e] at h ⊢; exact trimN_last p n h
    · rw [trimN_stop e]; simpa using e
theorem trimL_end (p : List Int) : endB (trimL p) = true := by
  unfold endB
  by_cases e : trimN p p.length = 0
  · simp [trimL, e]
  · have h := trimN_last p p.length e
    have hl := trimN_le p p.length
    have h2 : (trimL p).getD ((trimL p).length - 1) 0 = p.getD (trimN p p.length - 1) 0 := by
      rw [trimL_len]
      have h3 : trimN p p.length - 1 < trimN p p.length := by omega
      simp [trimL, List.getD, h3]
    rw [h2]
    have h5 : (p.getD (trimN p p.length - 1) 0 != 0) = true := by simpa using h
    rw [h5]; simp
theorem getD_take {p : List Int} {n k : Nat} (h : k < n) : (p.take n).getD k 0 = p.getD k 0 := by
  simp [List.getD, h]

/-- The list p with k times q added. -/
def plusL (p q : List Int) (k : Int) : List Int := (List.range (max p.length q.length)).map fun i => p.getD i 0 + k * q.getD i 0
theorem plusL_len (p q : List Int) (k : Int) : (plusL p q k).length = max p.length q.length := by simp [plusL]
def fitL (p : List Int) : List Int := if polyB p then p else []
def fitC (p : List Int) : Int := if polyB p then 0 else 3
def addA (p q : List Int) (k : Int) : List Int := if polyB p && polyB q then fitL (trimL (plusL p q k)) else []
def addC (p q : List Int) (k : Int) : Int := if polyB p && polyB q then fitC (trimL (plusL p q k)) else 1
theorem trimL_poly {p : List Int} (hl : p.length ≤ 2001) : polyB (trimL p) = p.all coB := by
  have e : polyB (trimL p) = (trimL p).all coB := by
    have h1 := trimL_len p
    have h2 := trimN_le p p.length
    have h3 : (trimL p).length ≤ 2001 := by omega
    simp [polyB, trimL_end, h3]
  rw [e]
  have hz : ∀ n, n ≤ p.length → (p.take n).all coB = (p.take (trimN p n)).all coB := by
    intro n
    induction n with
    | zero => intro _; rfl
    | succ n ih =>
      intro hn
      by_cases e : p.getD n 0 = 0
      · rw [trimN_zero e, ← ih (by omega)]
        have e2 : p.take (n + 1) = p.take n ++ [p.getD n 0] := by
          rw [List.take_succ_eq_append_getElem (by omega)]; simp [List.getD, show n < p.length by omega]
        rw [e2, List.all_append, e]; simp [coB]
      · rw [trimN_stop e]
  have := hz p.length (Nat.le_refl _)
  rw [List.take_length] at this
  exact this.symm
/-- Values, from the greatest power on; none if one leaves the range. -/
def evalL (x : Int) : Int → List Int → Option Int
  | v, [] => some v
  | v, c :: cs => if coB (v * x + c) then evalL x (v * x + c) cs else none
def pointB (x : Int) : Bool := decide (-1000 ≤ x ∧ x ≤ 1000)
def evA (p : List Int) (x : Int) : Int := if polyB p then (if pointB x then (evalL x 0 p.reverse).getD 0 else 0) else 0
def evC (p : List Int) (x : Int) : Int := if polyB p then (if pointB x then (if (evalL x 0 p.reverse).isSome then 0 else 3) else 2) else 1
def revA (p : List Int) : List Int := if polyB p then trimL p.reverse else []
def revC (p : List Int) : Int := if polyB p then 0 else 1
def symA (p : List Int) : Bool := polyB p && decide (p = p.reverse)
/-- t^k in place of t. -/
def spreadL (p : List Int) (k : Nat) : List Int := if p = [] then [] else (List.range ((p.length - 1) * k + 1)).map fun i => if i % k = 0 then p.getD (i / k) 0 else 0
def subA (p : List Int) (k : Int) : List Int := if polyB p then (if 1 ≤ k ∧ k ≤ 2000 then (if ((p.length : Int) - 1) * k ≤ 2000 then spreadL p k.toNat else []) else []) else []
def subC (p : List Int) (k : Int) : Int := if polyB p then (if 1 ≤ k ∧ k ≤ 2000 then (if ((p.length : Int) - 1) * k ≤ 2000 then 0 else 3) else 2) else 1
end Go.Proofs.Ytohbgfmjnanlkaa
/- What a polynomial is, the model's test and the program's: contracts of spec.l02Is, spec.IsPolynomial, impl.IsPolynomial. Conditions: stated at each theorem. -/
namespace Go.Proofs.Ytohbgfmjnanlkaa
open Go.ChangeShapes Go.WideShapes Go.ChangeAt Go.RowKit
set_option linter.unusedVariables false

theorem ret_bool {a b : Bool} (h : a = b) : Ending.returned (.bool a) = .returned (.bool b) := by rw [h]
theorem wf_at {zs : List Int} (h : ∀ z ∈ zs, (Lit.int .i64 z).wf = true) (k : Nat) : -9223372036854775808 ≤ zs[k]?.getD 0 ∧ zs[k]?.getD 0 ≤ 9223372036854775807 := range_i64 h k
theorem getD_opt (zs : List Int) (k : Nat) : zs.getD k 0 = zs[k]?.getD 0 := by simp [List.getD]
theorem poly_end {zs : List Int} {n : Nat} (hl : zs.length = n) (h : n ≤ 2001) (ha : (zs.take n).all coB = true) : polyB zs = endB zs := by
  subst hl
  rw [List.take_length] at ha
  simp [polyB, ha, h]
theorem poly_long {zs : List Int} {n : Nat} (hl : zs.length = n) (h : ¬ n ≤ 2001) : polyB zs = false := by subst hl; simp [polyB, h]
theorem poly_co {zs : List Int} {n k : Nat} (hl : zs.length = n) (h : k < n) (hc : coB (zs[k]?.getD 0) = false) : polyB zs = false := by
  subst hl; unfold polyB; rw [all_false h (by rw [getD_opt]; exact hc)]; simp
theorem end_nil {zs : List Int} (h : zs.length = 0) : endB zs = true := by
  have := List.eq_nil_of_length_eq_zero h; subst this; rfl
theorem end_some {zs : List Int} {n : Nat} (hl : zs.length = n) (h : 0 < n) : endB zs = (zs[n - 1]?.getD 0 != 0) := by
  subst hl
  have : zs.isEmpty = false := by cases zs <;> simp at h ⊢
  simp [endB, this]
theorem all_next {zs : List Int} {n k : Nat} (hl : zs.length = n) (h : k < n) (ht : (zs.take k).all coB = true) (hc : coB (zs[k]?.getD 0) = true) : (zs.take (k + 1)).all coB = true :=
  all_take_succ (by omega) ht (by rw [getD_opt]; exact hc)
/-- A slice that is read, its length under a name of its own. -/
theorem ReadI.split {w : World} {B : Nat} {v : Value} {zs : List Int} (h : ReadI w B v zs) : ∃ n A c, v = .slice A n c ∧ RI w B A n zs ∧ Hid (zs.length = n) := by
  obtain ⟨A, c, rfl, hr, _⟩ := h; exact ⟨_, A, c, rfl, hr, rfl⟩
theorem ReadI.split2 {w : World} {B : Nat} {v : Value} {zs : List Int} (h : ReadI w B v zs) : ∃ n A c, v = .slice A n c ∧ RI w B A n zs ∧ Hid (zs.length = n) ∧ Hid (A = none → c = 0) ∧ n ≤ c ∧ Hid (∀ a, A = some a → ∃ g o, a = ⟨g, o, none⟩) ∧ c ≤ 9223372036854775807 := by
  obtain ⟨A, c, rfl, hr, h1, h2, h3, h4⟩ := h; exact ⟨_, A, c, rfl, hr, rfl, h1, h2, h3, h4⟩

end Go.Proofs.Ytohbgfmjnanlkaa
/- Copies of lists, and lists without their zeros at the end: contracts of spec.l01Own, spec.l02Trim, impl.withoutEndZeros. Conditions: stated at each theorem. -/
namespace Go.Proofs.Ytohbgfmjnanlkaa
open Go.ChangeShapes Go.WideShapes Go.ChangeAt Go.RowKit
set_option linter.unusedVariables false

/-- A slice cut at its end is read, and owned, as its first numbers. -/
theorem RI.cut {w : World} {B n : Nat} {A : Option Addr} {zs : List Int} (h : RI w B A n zs) {k : Nat} (hk : k ≤ n) : RI w B A k (zs.take k) :=
  ⟨by have := h.1; simp; omega, fun j hj => by
    obtain ⟨a, e, hlt, hc⟩ := h.2 j (by omega)
    exact ⟨a, e, hlt, by rw [hc]; simp [List.getD, hj]⟩⟩
theorem OwnI.cut {w : World} {lo hi n c : Nat} {A : Option Addr} {zs : List Int} (h : OwnI w lo hi (.slice A n c) zs) (hl : zs.length = n) {k : Nat} (hk : k ≤ n) : OwnI w lo hi (.slice A k c) (zs.take k) := by
  obtain ⟨h1, h2, h3⟩ := h
  have hlk : (zs.take k).length = k := by simp; omega
  refine ⟨?_, ?_, h3⟩
  · rw [hlk]
    refine ⟨by simp; omega, ?_⟩
    rcases h1.2 with ⟨e, e0⟩ | ⟨g, cap, cur, e, hb, hg, hnc, hcm, hcs, hcur⟩
    · simp only [Value.slice.injEq] at e
      obtain ⟨rfl, rfl, rfl⟩ := e
      obtain rfl : k = 0 := by omega
      exact .inl ⟨rfl, rfl⟩
    · simp only [Value.slice.injEq] at e
      obtain ⟨rfl, rfl, rfl⟩ := e
      refine .inr ⟨g, c, cur, rfl, hb, hg, by omega, hcm, hcs, ?_⟩
      simp only [Nat.mul_one] at hcur ⊢
      rw [List.map_take, ← hcur, List.take_take]
      congr 1; omega
  · intro j hj
    exact h2 j (by cases A with | none => cases hj | some a => exact hj)

theorem own_less {w : World} {lo lo' hi : Nat} {v : Value} {zs : List Int} (h : OwnI w lo hi v zs) (hl : lo' ≤ lo) : OwnI w lo' hi v zs := by
  obtain ⟨⟨h0, h1⟩, h2, h3⟩ := h
  refine ⟨⟨h0, ?_⟩, h2, h3⟩
  rcases h1 with hn | ⟨g, cap, cur, e, hb, rest⟩
  · exact .inl hn
  · exact .inr ⟨g, cap, cur, e, by omega, rest⟩
theorem only_alloc (w : World) (o : Obj) (lo hi : Nat) : Only lo hi w (w.alloc o) := ⟨rfl, rfl, rfl, by simp, fun b hb _ => Below.heap_alloc _ _ _ hb⟩
theorem Only.setCell {lo hi : Nat} {a w : World} (h : Only lo hi a w) {p : Addr} (h1 : lo ≤ p.block) (h2 : p.block < hi) (u : Value) : Only lo hi a (w.setCell p u) :=
  h.trans ⟨rfl, rfl, rfl, by simp [World.setCell], fun b hb hn => Below.heap_setCell _ _ _ _ (by rintro rfl; exact hn ⟨h1, h2⟩)⟩
theorem ReadI.ri {w : World} {B n c : Nat} {A : Option Addr} {zs : List Int} (h : ReadI w B (.slice A n c) zs) : RI w B A n zs := by
  obtain ⟨A', c', e, h, _⟩ := h
  simp only [Value.slice.injEq] at e
  obtain ⟨rfl, rfl, rfl⟩ := e
  exact h
theorem own_cell {w : World} {lo hi n c j : Nat} {A : Option Addr} {zs : List Int} {z : Int} (h : OwnI w lo hi (.slice A n c) zs) (hl : zs.length = n) (hj : j < n) (hz : zs[j]? = some z) :
    ∃ g, A = some ⟨g, 0, none⟩ ∧ lo ≤ g ∧ g < hi ∧ w.cell? ⟨g, j, none⟩ = some (.int .i64 z) ∧ w.frozen? ⟨g, j, none⟩ = false := by
  subst hl
  obtain ⟨h1, h2, h3⟩ := h
  rcases h1.2 with ⟨e, e0⟩ | ⟨g, cap, cur, e, hb, hg, hnc, hcm, hcs, hcur⟩
  · omega
  · have e2 := e
    simp only [Value.slice.injEq] at e
    obtain ⟨rfl, h0, rfl⟩ := e
    refine ⟨g, rfl, hb, h2 g rfl, ?_, World.ownsRow.frozenAt (h1 : w.ownsRow lo 2 1 (.slice (some ⟨g, 0, none⟩) zs.length c) zs.length _) j⟩
    rw [World.ownsRow.cellAt (h1 : w.ownsRow lo 2 1 (.slice (some ⟨g, 0, none⟩) zs.length c) zs.length _) j (by omega), List.getElem?_map, hz]
    rfl
theorem own_at {w : World} {lo hi n c j : Nat} {A : Option Addr} {zs : List Int} (h : OwnI w lo hi (.slice A n c) zs) (hl : zs.length = n) (hj : j < n) :
    ∃ g, A = some ⟨g, 0, none⟩ ∧ lo ≤ g ∧ g < hi ∧ w.cell? ⟨g, j, none⟩ = some (.int .i64 (zs[j]?.getD 0)) ∧ w.frozen? ⟨g, j, none⟩ = false :=
  own_cell h hl hj (by simp [show j < zs.length by omega])
theorem own_store {w : World} {lo hi n c j g : Nat} {zs : List Int} (h : OwnI w lo hi (.slice (some ⟨g, 0, none⟩) n c) zs) (hl : zs.length = n) (z : Int) :
    OwnI (w.setCell ⟨g, j, none⟩ (.int .i64 z)) lo hi (.slice (some ⟨g, 0, none⟩) n c) (zs.set j z) := by
  obtain ⟨h1, h2, h3⟩ := h
  subst hl
  refine ⟨?_, h2, by simpa [World.setCell] using h3⟩
  have := (World.ownsRow.stored (h1 : w.ownsRow lo 2 1 (.slice (some ⟨g, 0, none⟩) zs.length c) zs.length _) j (.int .i64 z)).1
  rw [List.length_set, List.map_set]
  exact this
theorem OwnI.raise {w : World} {lo hi hi' : Nat} {v : Value} {zs : List Int} (h : OwnI w lo hi v zs) (h1 : hi ≤ hi') (h2 : hi' ≤ w.heap.size) : OwnI w lo hi' v zs :=
  ⟨h.1, fun k hk => Nat.lt_of_lt_of_le (h.2.1 k hk) h1, h2⟩
theorem trim_as {L : List Int} {n : Nat} (h : L.length = n) : L.take (trimN L n) = trimL L := by subst h; rfl
theorem reads_as {w : World} {lo hi n c : Nat} {A : Option Addr} {zs : List Int} (h : OwnI w lo hi (.slice A n c) zs) (hl : zs.length = n) : RI w w.heap.size A n zs := by
  subst hl
  exact h.1.reads
theorem row_cells {w : World} {B n : Nat} {a : Addr} {zs : List Int} {o : Obj} (h : RI w B (some a) n zs) (hl : zs.length = n) (hB : B ≤ w.heap.size) : ∀ j u, (zs.map (Value.int .i64))[j]? = some u → (w.alloc o).cell? (a.add j) = some u := by
  intro j u hu
  have hj : j < n := by
    have := (List.getElem?_eq_some_iff.1 hu).1
    simpa [hl] using this
  obtain ⟨a', e, hlt, hc⟩ := h.2 j hj
  cases e
  rw [(Below.alloc (Below.refl w.heap.size w) (Nat.le_refl _) o).cell (by rw [add_block]; omega), hc]
  rw [List.getElem?_map] at hu
  have hj' : j < zs.length := by omega
  simp only [List.getElem?_eq_getElem hj', Option.map_some, Option.some.injEq] at hu
  rw [← hu]; simp [List.getD, hj']

theorem l01Own_any (v : Value) (zs : List Int) (w : World) (B : Nat) (h : ReadI w B v zs) (hn : zs.length ≤ 1099511627776) (hB : B ≤ w.heap.size) :
    Calls Try.prog 123 #[v] w fun e w' => ∃ v', e = .returned v' ∧ OwnI w' w.heap.size w'.heap.size v' zs ∧ Below w.heap.size w w' := by
  obtain ⟨n, A, c, rfl, hr, HL, HN, hnc, HF, hcm⟩ := h.split2
  rw [HL.out] at hn
  have H0 := Lib.hid hr
  clear hr h
  obtain ⟨i0, hi0, hz0, hz1, hz2⟩ := info_parts int_info
  cases A with
  | none =>
    obtain rfl : c = 0 := HN.out rfl
    obtain rfl : n = 0 := by omega
    have Z : zs = [] := List.eq_nil_of_length_eq_zero HL.out
    subst Z
    go_enter Try.func123, Try.ntmps123
    go_wp2_with (at_builtin; refine wpList_append_own_none rfl _ _ 22 rfl w.heap.size 2 i0 1 Try.underlying22 hi0 _ 0 [] rfl (World.ownsRow_made w #[] 0 (Nat.le_refl _) (by unfold maxLen; omega) rfl) rfl ?_)
    go_ret
    exact ⟨_, rfl, OwnI.mk' (n := 0) (World.ownsRow_made w #[] 0 (Nat.le_refl _) (by unfold maxLen; omega) rfl), (Below.refl _ _).alloc (Nat.le_refl _) _⟩
  | some a =>
    go_enter Try.func123, Try.ntmps123
    go_wp2_with (at_builtin; refine wpList_append_own _ rfl _ _ 22 rfl w.heap.size 2 i0 (.int .i64 0) 1 8 Try.underlying22 hi0 hz0 hz1 hz2 rfl (by decide) _ 0 [] rfl (World.ownsRow_made w #[] 0 (Nat.le_refl _) (by unfold maxLen; omega) rfl) a n c (zs.map (.int .i64)) rfl ?_ ?_ ?_ ?_ ?_ ?_ ?_; (simp [HL.out]); (exact row_cells H0.out HL.out hB); (exact ints_oneCell _ _); (unfold maxLen; omega); (omega); (simp); intro v1 w1 hown1 hgrow _)
    go_ret
    refine ⟨_, rfl, OwnI.mk' (n := n) ?_, ?_⟩
    · simp only [Nat.zero_add, List.nil_append] at hown1
      exact hown1
    · exact ((Below.refl _ _).alloc (Nat.le_refl _) _).grown hgrow (by simp) (fun k hk => by cases hk; exact Nat.le_refl _)

theorem trim_more {zs : List Int} {k : Nat} (h0 : 0 < k) (h : zs[k - 1]?.getD 0 = 0) : trimN zs k = trimN zs (k - 1) := by
  obtain ⟨j, rfl⟩ : ∃ j, k = j + 1 := ⟨k - 1, by omega⟩
  exact trimN_zero (by rw [getD_opt]; exact h)
theorem trim_here {zs : List Int} {k : Nat} (h0 : 0 < k) (h : ¬ zs[k - 1]?.getD 0 = 0) : trimN zs k = k := by
  obtain ⟨j, rfl⟩ : ∃ j, k = j + 1 := ⟨k - 1, by omega⟩
  exact trimN_stop (by rw [getD_opt]; exact h)
theorem trim_take {zs : List Int} {n k : Nat} (hl : zs.length = n) (h : trimN zs n = trimN zs k) (h2 : trimN zs k = k) : zs.take k = trimL zs := by
  subst hl; unfold trimL; rw [h, h2]

theorem ret_slice {A : Option Addr} {n m c : Nat} (h : n = m) : Ending.returned (.slice A n c) = .returned (.slice A m c) := by rw [h]
/-- The length of a slice value: for a loop's measure. -/
def lenOf : Value → Nat
  | .slice _ k _ => k
  | _ => 0
end Go.Proofs.Ytohbgfmjnanlkaa
/- Slices of slices of int64 that a call has made: words for the exact laws, and contracts of laws.toInt64SS, laws.eqInt64SS, laws.markInt64SS, laws.heldInt64SS, laws.szInt64SS. Conditions: stated at each theorem. -/
namespace Go.Proofs.Ytohbgfmjnanlkaa
open Go.ChangeShapes Go.WideShapes Go.ChangeAt Go.RowKit
set_option linter.unusedVariables false

/-- A slice of n slices of the call's own: the i-th, of blocks from ls i on and below hs i, is as P says; they share no memory. -/
def Rows2 (w : World) (lo hi : Nat) (v : Value) (n : Nat) (us : List Value) (ls hs : Nat → Nat) (P : Nat → Nat → Nat → Value → Prop) : Prop :=
  w.ownsRow lo 22 1 v n us ∧ (∀ k, v.ownBlock = some k → k < hi ∧ ∀ i, i < n → (k < ls i ∨ hs i ≤ k)) ∧ hi ≤ w.heap.size ∧
  (∀ i, i < n → lo ≤ ls i ∧ hs i ≤ hi ∧ P i (ls i) (hs i) (us.getD i undef)) ∧ (∀ i j, i < j → j < n → (hs i ≤ ls j ∨ hs j ≤ ls i))
def OwnQ (w : World) (lo hi : Nat) (v : Value) (zss : List (List Int)) : Prop := ∃ us ls hs, Rows2 w lo hi v zss.length us ls hs fun i l h u => OwnI w l h u (zss.getD i [])
/-- The sum of the first j numbers of ms. -/
def sumTo (ms : Nat → Nat) : Nat → Nat
  | 0 => 0
  | j + 1 => sumTo ms j + ms j
theorem sumTo_le (ms : Nat → Nat) {i n : Nat} (h : i ≤ n) : sumTo ms i ≤ sumTo ms n := by
  induction n with
  | zero => obtain rfl : i = 0 := by omega
            exact Nat.le_refl _
  | succ n ih =>
    by_cases e : i = n + 1
    · subst e; exact Nat.le_refl _
    · have := ih (by omega); show sumTo ms i ≤ sumTo ms n + ms n; omega
def lens (zss : List (List Int)) (i : Nat) : Nat := (zss.getD i []).length
def MarkQ (w : World) (lo hi : Nat) (v : Value) (n : Nat) (ms : Nat → Nat) (k : Nat) : Prop := ∃ us ls hs, Rows2 w lo hi v n us ls hs fun i l h u => MarkI w l h u (ms i) (k + sumTo ms i)
def ReadQ (w : World) (B : Nat) (v : Value) (zss : List (List Int)) : Prop :=
  ∃ A c, v = .slice A zss.length c ∧ (∀ k, k < zss.length → ∃ a u, A = some a ∧ a.block < B ∧ w.cell? (a.add k) = some u ∧ ReadI w B u (zss.getD k [])) ∧ (A = none → c = 0) ∧ zss.length ≤ c ∧ (∀ a, A = some a → ∃ g o, a = ⟨g, o, none⟩) ∧ c ≤ 9223372036854775807
def ReadQW (w : World) (B : Nat) (v : Value) (zss : List (List Int)) : Prop :=
  ∃ A c, v = .slice A zss.length c ∧ (∀ k, k < zss.length → ∃ a u, A = some a ∧ a.block < B ∧ w.cell? (a.add k) = some u ∧ ReadW w B u (zss.getD k []))
theorem ReadQ.below {w w' : World} {B : Nat} {v : Value} {zss : List (List Int)} (h : ReadQ w B v zss) (hb : Below B w w') : ReadQ w' B v zss := by
  obtain ⟨A, c, e, h, k⟩ := h
  exact ⟨A, c, e, fun i hi => by
    obtain ⟨a, u, e1, h1, h2, h3⟩ := h i hi
    exact ⟨a, u, e1, h1, (hb.cell (by rw [add_block]; exact h1)).trans h2, h3.below hb⟩, k⟩
theorem ReadQ.more {w : World} {B B' : Nat} {v : Value} {zss : List (List Int)} (h : ReadQ w B v zss) (hB : B ≤ B') : ReadQ w B' v zss := by
  obtain ⟨A, c, e, h, k⟩ := h
  exact ⟨A, c, e, fun i hi => by
    obtain ⟨a, u, e1, h1, h2, h3⟩ := h i hi
    exact ⟨a, u, e1, by omega, h2, h3.more hB⟩, k⟩
theorem ReadQW.below {w w' : World} {B : Nat} {v : Value} {zss : List (List Int)} (h : ReadQW w B v zss) (hb : Below B w w') : ReadQW w' B v zss := by
  obtain ⟨A, c, e, h⟩ := h
  exact ⟨A, c, e, fun i hi => by
    obtain ⟨a, u, e1, h1, h2, h3⟩ := h i hi
    exact ⟨a, u, e1, h1, (hb.cell (by rw [add_block]; exact h1)).trans h2, h3.below hb⟩⟩
theorem ReadQW.more {w : World} {B B' : Nat} {v : Value} {zss : List (List Int)} (h : ReadQW w B v zss) (hB : B ≤ B') : ReadQW w B' v zss := by
  obtain ⟨A, c, e, h⟩ := h
  exact ⟨A, c, e, fun i hi => by
    obtain ⟨a, u, e1, h1, h2, h3⟩ := h i hi
    exact ⟨a, u, e1, by omega, h2, h3.more hB⟩⟩

theorem row_of_kept {w w' : World} {lo hi n : Nat} {t : TypeId} {v : Value} {xs : List Value} (h : w.ownsRow lo t 1 v n xs) (hh : ∀ k, v.ownBlock = some k → k < hi) (k : Kept lo hi w w') : w'.ownsRow lo t 1 v n xs := by
  refine ⟨h.1, ?_⟩
  rcases h.2 with hn | ⟨g, cap, cur, rfl, hb, hgg, rest⟩
  · exact .inl hn
  · refine .inr ⟨g, cap, cur, rfl, hb, ?_, rest⟩
    rw [k.block g hb (hh g rfl)]
    exact hgg
theorem Kept.inner {lo hi lo' hi' : Nat} {w w' : World} (h : Kept lo hi w w') (h1 : lo ≤ lo') (h2 : hi' ≤ hi) : Kept lo' hi' w w' :=
  ⟨h.size, fun b h3 h4 => h.block b (by omega) (by omega)⟩
theorem Rows2.kept {w w' : World} {lo hi n : Nat} {v : Value} {us : List Value} {ls hs : Nat → Nat} {P P' : Nat → Nat → Nat → Value → Prop} (h : Rows2 w lo hi v n us ls hs P) (k : Kept lo hi w w')
    (hP : ∀ i l h u, i < n → lo ≤ l → h ≤ hi → P i l h u → P' i l h u) : Rows2 w' lo hi v n us ls hs P' :=
  ⟨row_of_kept h.1 (fun b hb => (h.2.1 b hb).1) k, h.2.1, Nat.le_trans h.2.2.1 k.size, fun i hi => ⟨(h.2.2.2.1 i hi).1, (h.2.2.2.1 i hi).2.1, hP i _ _ _ hi (h.2.2.2.1 i hi).1 (h.2.2.2.1 i hi).2.1 (h.2.2.2.1 i hi).2.2⟩, h.2.2.2.2⟩
theorem OwnQ.kept {w w' : World} {lo hi : Nat} {v : Value} {zss : List (List Int)} (h : OwnQ w lo hi v zss) (k : Kept lo hi w w') : OwnQ w' lo hi v zss := by
  obtain ⟨us, ls, hs, h⟩ := h
  exact ⟨us, ls, hs, h.kept k fun i l h' u _ h1 h2 hp => OwnI.kept hp (k.inner h1 h2)⟩
theorem MarkQ.kept {w w' : World} {lo hi n k : Nat} {v : Value} {ms : Nat → Nat} (h : MarkQ w lo hi v n ms k) (kk : Kept lo hi w w') : MarkQ w' lo hi v n ms k := by
  obtain ⟨us, ls, hs, h⟩ := h
  exact ⟨us, ls, hs, h.kept kk fun i l h' u _ h1 h2 hp => MarkI.kept hp (kk.inner h1 h2)⟩
/-- The cell of the i-th slice. -/
theorem Rows2.cell {w : World} {lo hi n c : Nat} {A : Option Addr} {us : List Value} {ls hs : Nat → Nat} {P : Nat → Nat → Nat → Value → Prop} (h : Rows2 w lo hi (.slice A n c) n us ls hs P) {i : Nat} (hi' : i < n) :
    ∃ g, A = some ⟨g, 0, none⟩ ∧ lo ≤ g ∧ g < hi ∧ w.cell? ⟨g, i, none⟩ = some (us.getD i undef) ∧ w.frozen? ⟨g, i, none⟩ = false := by
  obtain ⟨h1, h2, h3, h4, h5⟩ := h
  have hl := h1.1
  rcases h1.2 with ⟨e, e0⟩ | ⟨g, cap, cur, e, hb, hg, hnc, hcm, hcs, hcur⟩
  · omega
  · simp only [Value.slice.injEq] at e
    obtain ⟨rfl, _, rfl⟩ := e
    refine ⟨g, rfl, hb, (h2 g rfl).1, ?_, World.ownsRow.frozenAt h1 i⟩
    have h6 : i < us.length := by omega
    rw [World.ownsRow.cellAt h1 i (by omega)]
    simp [List.getD, h6]
theorem row_form {w : World} {lo n : Nat} {t : TypeId} {v : Value} {xs : List Value} (h : w.ownsRow lo t 1 v n xs) : ∃ A c, v = .slice A n c ∧ (A = none → c = 0) ∧ n ≤ c ∧ (∀ a, A = some a → ∃ g o, a = ⟨g, o, none⟩) ∧ c ≤ 9223372036854775807 := by
  rcases h.2 with ⟨rfl, h0⟩ | ⟨g, cap, cur, rfl, hb, hg, hnc, hcm, hcs, hcur⟩
  · subst h0; exact ⟨none, 0, rfl, fun _ => rfl, Nat.le_refl _, (fun a h => by cases h), by omega⟩
  · unfold maxLen at hcm
    exact ⟨_, _, rfl, (fun h => by cases h), hnc, (fun a h => by cases h; exact ⟨_, _, rfl⟩), by omega⟩
theorem OwnQ.reads {w : World} {lo hi : Nat} {v : Value} {zss : List (List Int)} (h : OwnQ w lo hi v zss) : ReadQ w w.heap.size v zss := by
  obtain ⟨us, ls, hs, h⟩ := h
  obtain ⟨A, c, rfl, h1, h2, h3, h4⟩ := row_form h.1
  refine ⟨A, c, rfl, fun k hk => ?_, h1, h2, h3, h4⟩
  obtain ⟨g, rfl, hg1, hg2, hc, _⟩ := h.cell hk
  have h5 : (⟨g, 0, none⟩ : Addr).add k = ⟨g, k, none⟩ := by unfold Addr.add; split <;> simp_all
  refine ⟨_, _, rfl, Nat.lt_of_lt_of_le hg2 h.2.2.1, by rw [h5]; exact hc, (h.2.2.2.1 k hk).2.2.reads⟩
theorem OwnQ.nil (w : World) (lo : Nat) : OwnQ w lo w.heap.size (.slice none 0 0) [] :=
  ⟨[], fun _ => 0, fun _ => 0, World.ownsRow_nil w lo _ _, (fun k h => by cases h), Nat.le_refl _, (fun i h => by simp at h), (fun i j _ h => by simp at h)⟩

theorem eqQ (v v' : Value) (zss : List (List Int)) (w : World) (B : Nat) (hr : ReadQ w B v zss) (hr' : ReadQ w B v' zss) (hn : zss.length ≤ 9223372036854775807) (hm : ∀ k, lens zss k ≤ 9223372036854775807) :
    Calls Try.prog 96 #[v, v'] w fun e w' => e = .returned (.bool true) ∧ Below w.heap.size w w' := by
  obtain ⟨A, c, rfl, h0, _⟩ := hr
  obtain ⟨A', c', rfl, h1, _⟩ := hr'
  have H0 := Lib.hid h0
  have H1 := Lib.hid h1
  have HM := Lib.hid hm
  clear h0 h1 hm
  generalize hL : zss.length = n at *
  clear hL
  go_enter Try.func96, Try.ntmps96
  go_wp2
  go_loopw [5] (fun i wr => ∃ (k : Nat), k ≤ n ∧ i = .int .i64 k ∧ Hid (∃ m, wr = w.drewN m)) (fun i _ => n - (intOf i).toNat)
  case atStart => exact ⟨0, by omega, rfl, Lib.hid ⟨0, rfl⟩⟩
  case round =>
    obtain ⟨k, hk, rfl, hw⟩ := hrel
    by_cases hlt : k < n
    · obtain ⟨a, u, rfl, _, hcell, hri⟩ := H0.out k hlt
      obtain ⟨a', u', rfl, _, hcell', hri'⟩ := H1.out k hlt
      have hk0 : (0 : Int) ≤ (k : Int) := Int.natCast_nonneg _
      have hk1 : (k : Int) < (n : Int) := by omega
      have hx : wr.cell? (a.add k) = some u := by obtain ⟨m, rfl⟩ := hw.out; exact hcell
      have hx' : wr.cell? (a'.add k) = some u' := by obtain ⟨m, rfl⟩ := hw.out; exact hcell'
      have HR : Hid (ReadI wr B u (zss.getD k [])) := Lib.hid (by obtain ⟨m, rfl⟩ := hw.out; exact hri)
      have HR' : Hid (ReadI wr B u' (zss.getD k [])) := Lib.hid (by obtain ⟨m, rfl⟩ := hw.out; exact hri')
      have HL : (zss.getD k []).length ≤ 9223372036854775807 := HM.out k
      clear hcell hcell' hri hri'
      go_wp2
      go_quiet ((go_at_call 50; exact Calls.quiet_of (eqI u u' (zss.getD k []) _ B HR.out HR'.out HL)))
      go_wp2
      go_roundw
      case rel => exact ⟨k + 1, by omega, by go_num, Lib.hid (by obtain ⟨m, rfl⟩ := hw.out; exact ⟨m + nq, World.drewN_drewN _ _ _⟩)⟩
      case measure => simp [intOf]; omega
    · obtain rfl : k = n := by omega
      go_wp2
      go_ret
      exact ⟨rfl, by obtain ⟨m, rfl⟩ := hw.out; exact drewN_below _ _⟩

theorem Rows2.step2 {w w' : World} {lo hi n : Nat} {v : Value} {us : List Value} {ls hs : Nat → Nat} {P P' : Nat → Nat → Nat → Value → Prop} (h : Rows2 w lo hi v n us ls hs P) {j : Nat} (hj : j < n)
    (ho : Only (ls j) (hs j) w w') (hP : ∀ i, i < n → i ≠ j → P i (ls i) (hs i) (us.getD i undef) → Kept (ls i) (hs i) w w' → P' i (ls i) (hs i) (us.getD i undef)) (hj' : P' j (ls j) (hs j) (us.getD j undef)) :
    Rows2 w' lo hi v n us ls hs P' := by
  obtain ⟨h1, h2, h3, h4, h5⟩ := h
  refine ⟨?_, h2, Nat.le_trans h3 ho.size, ?_, h5⟩
  · refine ⟨h1.1, ?_⟩
    rcases h1.2 with hn | ⟨g, cap, cur, rfl, hb, hgg, rest⟩
    · exact .inl hn
    · refine .inr ⟨g, cap, cur, rfl, hb, ?_, rest⟩
      have h7 := (h2 g rfl).2 j hj
      rw [ho.block g (Array.getElem?_eq_some_iff.1 hgg).1 (by omega)]
      exact hgg
  · intro i hi'
    refine ⟨(h4 i hi').1, (h4 i hi').2.1, ?_⟩
    by_cases e : i = j
    · subst e; exact hj'
    · refine hP i hi' e (h4 i hi').2.2 (ho.kept ?_ (Nat.le_trans (h4 i hi').2.1 h3))
      by_cases h8 : i < j
      · have := h5 i j h8 hj; omega
      · have := h5 j i (by omega) hi'; omega
theorem Only.wider {lo hi lo' hi' : Nat} {w w' : World} (h : Only lo hi w w') (h1 : lo' ≤ lo) (h2 : hi ≤ hi') : Only lo' hi' w w' :=
  ⟨h.os, h.tape, h.output, h.size, fun b hb hn => h.block b hb (by omega)⟩
theorem OwnI.order {w : World} {lo hi : Nat} {v : Value} {zs : List Int} (h : OwnI w lo hi v zs) : lo ≤ hi ∨ v = .slice none 0 0 := by
  rcases h.1.2 with hn | ⟨g, cap, cur, rfl, hb, hgg, rest⟩
  · exact .inr hn.1
  · have := h.2.1 g rfl; exact .inl (by omega)

theorem markQ (v : Value) (lo hi : Nat) (zss : List (List Int)) (k : Int) (w : World) (h : OwnQ w lo hi v zss) (hn : zss.length ≤ 1099511627776) (hm : sumTo (lens zss) zss.length ≤ 549755813888) (hk : 0 ≤ k ∧ k ≤ 549755813888) :
    Calls Try.prog 102 #[v, .int .i64 k] w fun e w' => e = .returned (.int .i64 (k + (sumTo (lens zss) zss.length : Int))) ∧ MarkQ w' lo hi v zss.length (lens zss) k.toNat ∧ Only lo hi w w' := by
  obtain ⟨us, ls, hs, h⟩ := h
  obtain ⟨A, c, rfl, _⟩ := row_form h.1
  have HR := Lib.hid h
  have HM := Lib.hid hm
  clear h hm
  generalize hL : zss.length = n at *
  clear hL
  go_enter Try.func102, Try.ntmps102
  go_wp2
  go_loopw [1, 5] (fun vk vi wr => ∃ (j : Nat), j ≤ n ∧ vk = .int .i64 (k + (sumTo (lens zss) j : Int)) ∧ vi = .int .i64 j ∧ Hid (Rows2 wr lo hi (.slice A n c) n us ls hs fun i l h u => if i < j then MarkI wr l h u (lens zss i) (k.toNat + sumTo (lens zss) i) else OwnI wr l h u (zss.getD i [])) ∧ Hid (Only lo hi w wr)) (fun _ vi _ => n - (intOf vi).toNat)
  case atStart => exact ⟨0, by omega, by simp [sumTo], rfl, Lib.hid (HR.out.kept (Kept.refl _ _ _) fun i l h u _ _ _ hp => by simpa using hp), Lib.hid (Only.refl _ _ _)⟩
  case round =>
    obtain ⟨j, hj, rfl, rfl, ho, hb⟩ := hrel
    by_cases hlt : j < n
    · obtain ⟨g, rfl, _, _, hcell, _⟩ := ho.out.cell hlt
      have hel := (ho.out.2.2.2.1 j hlt)
      have hin : OwnI wr (ls j) (hs j) (us.getD j undef) (zss.getD j []) := by
        have h4 := hel.2.2; dsimp only at h4; rw [if_neg (Nat.lt_irrefl j)] at h4; exact h4
      have s1 : sumTo (lens zss) (j + 1) = sumTo (lens zss) j + lens zss j := rfl
      have s2 := sumTo_le (lens zss) (show j + 1 ≤ n by omega)
      have hm := HM.out
      have hk2 : 0 ≤ k + (sumTo (lens zss) j : Int) ∧ k + (sumTo (lens zss) j : Int) ≤ 1099511627776 := by omega
      have hl3 : (zss.getD j []).length ≤ 1099511627776 := by show lens zss j ≤ _; omega
      have HI := Lib.hid hin
      have HB2 := Lib.hid (And.intro hel.1 hel.2.1)
      have S1 := Lib.hid s1
      clear hin hel s1 s2 hm
      go_wp2_with fail
      refine (markI' _ (ls j) (hs j) (zss.getD j []) _ wr HI.out hl3 hk2).mono ?_
      rintro e w2 ⟨rfl, hmk, hon⟩
      have HN : Hid (Rows2 w2 lo hi (.slice (some ⟨g, 0, none⟩) n c) n us ls hs fun i l h u => if i < j + 1 then MarkI w2 l h u (lens zss i) (k.toNat + sumTo (lens zss) i) else OwnI w2 l h u (zss.getD i [])) := Lib.hid (by
        refine Rows2.step2 ho.out hlt hon (fun i hi' e hp kk => ?_) ?_
        · by_cases e2 : i < j
          · rw [if_pos e2] at hp; rw [if_pos (by omega)]; exact hp.kept kk
          · rw [if_neg e2] at hp; rw [if_neg (by omega)]; exact hp.kept kk
        · rw [if_pos (by omega)]
          have e3 : (k + (sumTo (lens zss) j : Int)).toNat = k.toNat + sumTo (lens zss) j := by omega
          rw [e3] at hmk
          exact hmk)
      have HO2 : Hid (Only lo hi w w2) := Lib.hid (hb.out.trans (hon.wider HB2.out.1 HB2.out.2))
      have e4 : k + (sumTo (lens zss) j : Int) + ((zss.getD j []).length : Int) = k + (sumTo (lens zss) (j + 1) : Int) := by have := S1.out; rw [this]; show _ = k + ((sumTo (lens zss) j + lens zss j : Nat) : Int); unfold lens; omega
      rw [e4]
      clear hmk hon e4
      go_wp2_with fail
      go_roundw
      case rel => exact ⟨j + 1, by omega, rfl, by go_num, HN, HO2⟩
      case measure => simp [intOf]; omega
    · obtain rfl : j = n := by omega
      go_wp2
      go_ret
      exact ⟨rfl, ⟨us, ls, hs, ho.out.kept (Kept.refl _ _ _) fun i l h u hi' _ _ hp => by rw [if_pos hi'] at hp; exact hp⟩, hb.out⟩

theorem heldQ (v : Value) (lo hi n : Nat) (ms : Nat → Nat) (k : Int) (w : World) (h : MarkQ w lo hi v n ms k.toNat) (hn : n ≤ 1099511627776) (hm : sumTo ms n ≤ 549755813888) (hk : 0 ≤ k ∧ k ≤ 549755813888) :
    Calls Try.prog 104 #[v, .int .i64 k] w fun e w' => e = .returned (.int .i64 (k + (sumTo ms n : Int))) ∧ w = w' := by
  obtain ⟨us, ls, hs, h⟩ := h
  obtain ⟨A, c, rfl, _⟩ := row_form h.1
  have HR := Lib.hid h
  have HM := Lib.hid hm
  clear h hm
  go_enter Try.func104, Try.ntmps104
  go_wp2
  go_loop [1, 5] (fun vk vi => ∃ (j : Nat), j ≤ n ∧ vk = .int .i64 (k + (sumTo ms j : Int)) ∧ vi = .int .i64 j) (fun _ vi => n - (intOf vi).toNat)
  case atStart => exact ⟨0, by omega, by simp [sumTo], rfl⟩
  case round =>
    obtain ⟨j, hj, rfl, rfl⟩ := hrel
    by_cases hlt : j < n
    · obtain ⟨g, rfl, _, _, hcell, _⟩ := HR.out.cell hlt
      have hin : MarkI w (ls j) (hs j) (us.getD j undef) (ms j) (k.toNat + sumTo ms j) := (HR.out.2.2.2.1 j hlt).2.2
      have s1 : sumTo ms (j + 1) = sumTo ms j + ms j := rfl
      have s2 := sumTo_le ms (show j + 1 ≤ n by omega)
      have hm := HM.out
      have hk2 : 0 ≤ k + (sumTo ms j : Int) ∧ k + (sumTo ms j : Int) ≤ 1099511627776 := by omega
      have hl3 : ms j ≤ 1099511627776 := by omega
      have e3 : (k + (sumTo ms j : Int)).toNat = k.toNat + sumTo ms j := by omega
      rw [← e3] at hin
      have HI := Lib.hid hin
      have e4 : k + (sumTo ms j : Int) + (ms j : Int) = k + (sumTo ms (j + 1) : Int) := by rw [s1]; omega
      have E4 := Lib.hid e4
      have hk3 : 0 ≤ k + (sumTo ms (j + 1) : Int) := by omega
      clear hin s1 s2 hm e3 e4
      go_wp2_with fail
      refine (heldI' _ (ls j) (hs j) (ms j) _ w HI.out hl3 hk2).mono ?_
      rintro e w' ⟨rfl, rfl⟩
      rw [E4.out]
      go_wp2_with fail
      go_round
      case rel => exact ⟨j + 1, by omega, rfl, by go_num⟩
      case measure => simp [intOf]; omega
    · obtain rfl : j = n := by omega
      go_wp2
      go_ret
      exact ⟨rfl, rfl⟩

theorem kept_set {lo hi : Nat} (w : World) {p : Addr} (h : p.block < lo ∨ hi ≤ p.block) (u : Value) : Kept lo hi w (w.setCell p u) :=
  ⟨by simp [World.setCell], fun b h1 h2 => Below.heap_setCell _ _ _ _ (by rintro rfl; omega)⟩
theorem slice_eq {A : Option Addr} {n m c : Nat} (h : n = m) : Value.slice A n c = .slice A m c := by rw [h]
theorem slice_info : (Try.prog.info? 22).map (fun i => (i.zero, i.size, i.bytes)) = some (some (.slice none 0 0), 1, 24) := by kernel_rfl

theorem toQ (v : Value) (zss : List (List Int)) (w : World) (hr : ReadQW w w.heap.size v zss) (hn : zss.length ≤ 1048576) (hm : ∀ i, lens zss i ≤ 1048576) :
    Calls Try.prog 93 #[v] w fun e w' => ∃ v', e = .returned v' ∧ OwnQ w' w.heap.size w'.heap.size v' zss ∧ Below w.heap.size w w' := by
  obtain ⟨A, c, rfl, hr⟩ := hr
  have H0 := Lib.hid hr
  have HM := Lib.hid hm
  clear hr hm
  obtain ⟨n, hL⟩ : ∃ n, n = zss.length := ⟨_, rfl⟩
  rw [← hL] at hn
  have H0' : Hid (∀ k, k < n → ∃ a u, A = some a ∧ a.block < w.heap.size ∧ w.cell? (a.add k) = some u ∧ ReadW w w.heap.size u (zss.getD k [])) := Lib.hid (by rw [hL]; exact H0.out)
  rw [← hL]
  have HL := Lib.hid hL
  have hmk := fun (W : World) => run_make_row' (P := Try.prog) 49 22 (.slice none 0 0) 24 Try.underlying49 slice_info rfl .i64 .i64 n (by omega) (by omega) W
  clear hL H0
  go_enter Try.func93, Try.ntmps93
  go_wp2
  clear hmk
  go_loopw [4] (fun vi wr => ∃ (i : Nat) (ls hs : Nat → Nat) (uf : Nat → Value), i ≤ n ∧ vi = .int .i64 i ∧ Hid (wr.rowIs w.heap.size 22 n (fun j => if j < i then uf j else .slice none 0 0)) ∧ Hid (∀ j, j < i → w.heap.size + 1 ≤ ls j ∧ hs j ≤ wr.heap.size ∧ OwnI wr (ls j) (hs j) (uf j) (zss.getD j [])) ∧ Hid (∀ j k, j < k → k < i → hs j ≤ ls k) ∧ Hid (w.heap.size + 1 ≤ wr.heap.size) ∧ Hid (Below w.heap.size w wr)) (fun vi _ => n - (intOf vi).toNat)
  case atStart => exact ⟨0, fun _ => 0, fun _ => 0, fun _ => undef, by omega, rfl, Lib.hid ((World.rowIs_made w _ n _).congr (fun j hj => by simp)), Lib.hid (fun j hj => by omega), Lib.hid (fun j k _ hk => by omega), Lib.hid (by simp), Lib.hid ((Below.refl _ _).alloc (Nat.le_refl _) _)⟩
  case round =>
    obtain ⟨i, ls, hs, uf, hi, rfl, hrow, hel, hap, hsz, hb⟩ := hrel
    by_cases hlt : i < n
    · obtain ⟨a, u, rfl, hab, hcell, hrd⟩ := H0'.out i hlt
      have hx : wr.cell? (a.add i) = some u := by rw [hb.out.cell (by rw [add_block]; exact hab)]; exact hcell
      have HR : Hid (ReadW wr wr.heap.size u (zss.getD i [])) := Lib.hid ((hrd.below hb.out).more hb.out.size)
      have hlen : (zss.getD i []).length ≤ 1048576 := HM.out i
      clear hcell hrd
      go_wp2_with fail
      refine (toI _ (zss.getD i []) wr HR.out hlen).mono ?_
      rintro e w2 ⟨v2, rfl, ho2, hb2⟩
      obtain ⟨m2, hm2⟩ : ∃ m, (zss.getD i []).length = m := ⟨_, rfl⟩
      obtain ⟨A2, c2, rfl⟩ := ho2.form hm2
      have O2 := Lib.hid ho2
      have B2 := Lib.hid hb2
      have hrow2 : w2.rowIs w.heap.size 22 n (fun j => if j < i then uf j else .slice none 0 0) := hrow.out.of_block (hb2.block _ hrow.out.lt)
      have hdst := hrow2.cell hlt
      simp only [Nat.lt_irrefl, if_false] at hdst
      have hfz := hrow2.frozen i
      have HROW := Lib.hid hrow2
      clear ho2 hb2 hrow2 hm2
      go_wp2_with fail
      go_roundw
      case rel =>
        have hsz1 := hsz.out
        have hb2 := B2.out.size
        have hset : (w2.setCell ⟨w.heap.size, i, none⟩ (.slice A2 m2 c2)).heap.size = w2.heap.size := by simp [World.setCell]
        refine ⟨i + 1, (fun j => if j = i then wr.heap.size else ls j), (fun j => if j = i then w2.heap.size else hs j), (fun j => if j = i then .slice A2 m2 c2 else uf j), by omega, by go_num, Lib.hid ((HROW.out.set i _).congr fun j hj => ?_), Lib.hid (fun j hj => ?_), Lib.hid (fun j k hjk hk => ?_), Lib.hid ?_, Lib.hid ((hb.out.trans (B2.out.mono hb.out.size)).setCell (Nat.le_refl _) _)⟩
        · by_cases h1 : j = i
          · subst h1; simp
          · by_cases h2 : j < i
            · simp [h1, h2, show j < i + 1 by omega]
            · simp [h1, h2, show ¬ j < i + 1 by omega]
        · by_cases h1 : j = i
          · subst h1
            simp only [if_true, hset]
            exact ⟨hsz1, Nat.le_refl _, O2.out.kept (kept_set w2 (p := ⟨w.heap.size, j, none⟩) (Or.inl (show w.heap.size < wr.heap.size by omega)) _)⟩
          · have h2 := hel.out j (by omega)
            simp only [if_neg h1, hset]
            exact ⟨h2.1, by omega, (h2.2.2.kept (Kept.of_below B2.out h2.2.1)).kept (kept_set w2 (p := ⟨w.heap.size, i, none⟩) (Or.inl (show w.heap.size < ls j by omega)) _)⟩
        · by_cases h1 : k = i
          · subst h1
            simp only [if_true, if_neg (show ¬ j = k by omega)]
            exact (hel.out j hjk).2.1
          · simp only [if_neg h1, if_neg (show ¬ j = i by omega)]
            exact hap.out j k hjk (by omega)
        · rw [hset]; omega
      case measure => simp [intOf]; omega
    · obtain rfl : i = n := by omega
      go_wp2
      go_ret
      refine ⟨_, rfl, ?_, hb.out⟩
      obtain ⟨cs, hc1, hc2, hc3⟩ := hrow.out
      have hcl : cs.toList.length = i := by simpa using hc2
      rw [HL.out] at hcl
      refine ⟨cs.toList, ls, hs, ⟨by rw [hcl, Nat.mul_one], .inr ⟨w.heap.size, i, cs, slice_eq HL.out, Nat.le_refl _, hc1, Nat.le_of_eq HL.out.symm, by unfold maxLen; omega, by omega, ?_⟩⟩, (fun k hk => ?_), Nat.le_refl _, (fun j hj => ?_), (fun j k hjk hk => Or.inl (hap.out j k hjk (Nat.lt_of_lt_of_eq hk HL.out.symm)))⟩
      · rw [List.take_of_length_le (by rw [hcl]; omega)]
      · cases hk
        have hsz1 := hsz.out
        exact ⟨show w.heap.size < wr.heap.size by omega, fun j hj => Or.inl (show w.heap.size < ls j by have := (hel.out j (Nat.lt_of_lt_of_eq hj HL.out.symm)).1; omega)⟩
      · have hji : j < i := Nat.lt_of_lt_of_eq hj HL.out.symm
        have h2 := hel.out j hji
        have h3 := hc3 j hji
        simp only [hji, if_true] at h3
        have h4 : cs.toList.getD j undef = uf j := by simp [List.getD, h3]
        rw [h4]
        exact ⟨by omega, h2.2.1, h2.2.2⟩

/-- How many slices and numbers there are, as laws.szInt64SS counts. -/
def szTot (zss : List (List Int)) : Nat := zss.length + sumTo (lens zss) zss.length
theorem szTot_facts {zss : List (List Int)} {B : Nat} (h : szTot zss ≤ B) : zss.length ≤ B ∧ (∀ i, lens zss i ≤ B) ∧ sumTo (lens zss) zss.length ≤ B := by
  unfold szTot at h
  refine ⟨by omega, fun i => ?_, by omega⟩
  by_cases hi : i < zss.length
  · have h1 := sumTo_le (lens zss) (show i + 1 ≤ zss.length by omega)
    have h2 : sumTo (lens zss) (i + 1) = sumTo (lens zss) i + lens zss i := rfl
    omega
  · have : zss.getD i [] = [] := by simp [List.getD, List.getElem?_eq_none (show zss.length ≤ i by omega)]
    unfold lens; rw [this]; simp
theorem lens_all {zss : List (List Int)} {B : Nat} (h : ∀ zs ∈ zss, zs.length ≤ B) (i : Nat) : lens zss i ≤ B := by
  unfold lens
  by_cases hi : i < zss.length
  · have e : zss.getD i [] = zss[i] := by simp [List.getD, hi]
    rw [e]; exact h _ (List.getElem_mem _)
  · have : zss.getD i [] = [] := by simp [List.getD, List.getElem?_eq_none (show zss.length ≤ i by omega)]
    rw [this]; simp
/-- Answers: a list of lists and a code. -/
def AnsQC (w : World) (L : List (List Int)) (C : Int) (e : Ending) (w' : World) : Prop := ∃ v, e = .returned (.tuple #[v, .int .i64 C]) ∧ OwnQ w' w.heap.size w'.heap.size v L ∧ Below w.heap.size w w'
end Go.Proofs.Ytohbgfmjnanlkaa
/- Slices of slices of int64: words, and contracts of laws.eqInt64SS, laws.markInt64SS and laws.heldInt64SS. Conditions: stated at each theorem. -/
namespace Go.Proofs.Ytohbgfmjnanlkaa
open Go.ChangeShapes Go.WideShapes Go.ChangeAt Go.RowKit
set_option linter.unusedVariables false

theorem vintS {a b : Int} (h : a = b) : Value.int .i64 a = Value.int .i64 b := by rw [h]
/-- The slice at A with n slices, below block B, reads as the lists zf 0, zf 1, .. -/
def RSS (w : World) (B : Nat) (A : Option Addr) (n : Nat) (zf : Nat → List Int) : Prop :=
  ∀ k, k < n → ∃ a A' c', A = some a ∧ a.block < B ∧ w.cell? (a.add k) = some (.slice A' (zf k).length c') ∧ RI w B A' (zf k).length (zf k)
theorem RSS.below {w w' : World} {B n : Nat} {A : Option Addr} {zf : Nat → List Int} (h : RSS w B A n zf) (hb : Below B w w') : RSS w' B A n zf := fun k hk => by
  obtain ⟨a, A', c', e, hlt, hc, hr⟩ := h k hk
  exact ⟨a, A', c', e, hlt, (hb.cell (by rw [add_block]; exact hlt)).trans hc, hr.below hb⟩
theorem RSS.more {w : World} {B B' n : Nat} {A : Option Addr} {zf : Nat → List Int} (h : RSS w B A n zf) (hB : B ≤ B') : RSS w B' A n zf := fun k hk => by
  obtain ⟨a, A', c', e, hlt, hc, hr⟩ := h k hk
  exact ⟨a, A', c', e, by omega, hc, hr.more hB⟩
theorem RSS.drewN {w : World} {B n : Nat} {A : Option Addr} {zf : Nat → List Int} (h : RSS w B A n zf) (m : Nat) : RSS (w.drewN m) B A n zf := h

/-- A slice of slices of the call's own, from block base on: the slices vf 0, vf 1, .. have ms 0, ms 1, .. numbers, hold xf 0, xf 1, .., and share no memory. -/
structure OwnSS (w : World) (base : Nat) (A : Option Addr) (n c : Nat) (vf : Nat → Value) (ms : Nat → Nat) (xf : Nat → List Value) : Prop where
  outer : w.ownsRow base 22 1 (.slice A n c) n ((List.range n).map vf)
  form : ∀ i, i < n → ∃ A' c', vf i = .slice A' (ms i) c'
  inner : ∀ i, i < n → Own w base (vf i) (ms i) (xf i)
  apart : ∀ i j, i < n → j < n → i ≠ j → (vf i).ownBlock = none ∨ (vf i).ownBlock ≠ (vf j).ownBlock

theorem block_type {w : World} {base base' n m : Nat} {v v' : Value} {xs ys : List Value} {t t' : TypeId} (h : w.ownsRow base t 1 v n xs) (h' : w.ownsRow base' t' 1 v' m ys) (hne : t ≠ t') : v.ownBlock = none ∨ v.ownBlock ≠ v'.ownBlock := by
  rcases h.2 with ⟨rfl, _⟩ | ⟨g, cap, cur, rfl, _, hg, _⟩
  · exact .inl rfl
  · rcases h'.2 with ⟨rfl, _⟩ | ⟨g', cap', cur', rfl, _, hg', _⟩
    · exact .inr (by simp [Value.ownBlock])
    · refine .inr fun e => ?_
      simp only [Value.ownBlock, Option.some.injEq] at e
      subst e
      rw [hg] at hg'
      simp only [Option.some.injEq, Obj.cells.injEq] at hg'
      exact hne hg'.2.1
theorem OwnSS.kept {w w' : World} {base n c : Nat} {A : Option Addr} {vf : Nat → Value} {ms : Nat → Nat} {xf : Nat → List Value} (h : OwnSS w base A n c vf ms xf) {row : Option Nat} (hg : w.grownBy w' row)
    (ho : (Value.slice A n c).ownBlock = none ∨ (Value.slice A n c).ownBlock ≠ row) (hi : ∀ i, i < n → (vf i).ownBlock = none ∨ (vf i).ownBlock ≠ row) : OwnSS w' base A n c vf ms xf :=
  ⟨h.outer.kept hg ho, h.form, fun i hin => (h.inner i hin).kept hg (hi i hin), h.apart⟩
theorem OwnSS.below {w w' : World} {base n c : Nat} {A : Option Addr} {vf : Nat → Value} {ms : Nat → Nat} {xf : Nat → List Value} (h : OwnSS w base A n c vf ms xf) (hb : Below w.heap.size w w') : OwnSS w' base A n c vf ms xf :=
  h.kept (grown_of_below hb none) (by cases (Value.slice A n c).ownBlock <;> simp) (fun i _ => by cases (vf i).ownBlock <;> simp)
theorem OwnSS.drewN {w : World} {base n c : Nat} {A : Option Addr} {vf : Nat → Value} {ms : Nat → Nat} {xf : Nat → List Value} (h : OwnSS w base A n c vf ms xf) (m : Nat) : OwnSS (w.drewN m) base A n c vf ms xf := ⟨h.outer, h.form, h.inner, h.apart⟩
theorem OwnSS.nil (w : World) (base : Nat) (vf : Nat → Value) (ms : Nat → Nat) (xf : Nat → List Value) : OwnSS w base none 0 0 vf ms xf :=
  ⟨World.ownsRow_nil w base _ _, fun i h => by omega, fun i h => by omega, fun i j h => by omega⟩
/-- The cell of the i-th slice. -/
theorem OwnSS.cell {w : World} {base n c : Nat} {A : Option Addr} {vf : Nat → Value} {ms : Nat → Nat} {xf : Nat → List Value} (h : OwnSS w base A n c vf ms xf) {i : Nat} (hi : i < n) :
    ∃ g, A = some ⟨g, 0, none⟩ ∧ g < w.heap.size ∧ w.cell? ⟨g, i, none⟩ = some (vf i) := by
  rcases h.outer.2 with ⟨e, e0⟩ | ⟨g, cap, cur, e, hb, hg, hnc, hcm, hcs, hcur⟩
  · omega
  · simp only [Value.slice.injEq] at e
    obtain ⟨rfl, _, rfl⟩ := e
    refine ⟨g, rfl, (Array.getElem?_eq_some_iff.1 hg).1, ?_⟩
    have h5 : ((List.range n).map vf)[i]? = some (vf i) := by simp [hi]
    rw [World.ownsRow.cellAt h.outer i (by omega), h5]
theorem OwnSS.reads {w : World} {base n c : Nat} {A : Option Addr} {vf : Nat → Value} {ms : Nat → Nat} {zf : Nat → List Int} (h : OwnSS w base A n c vf ms fun i => (zf i).map (.int .i64)) : RSS w w.heap.size A n zf := fun k hk => by
  obtain ⟨g, rfl, hlt, hc⟩ := h.cell hk
  obtain ⟨A', c', e⟩ := h.form k hk
  have ho := h.inner k hk
  have hl := ho.len
  simp only [List.length_map] at hl
  rw [e, ← hl] at ho
  rw [e, ← hl] at hc
  have h4 : (⟨g, 0, none⟩ : Addr).add k = ⟨g, k, none⟩ := by unfold Addr.add; split <;> simp_all
  rw [← h4] at hc
  exact ⟨_, A', c', rfl, hlt, hc, ho.reads⟩

/-- The sum of the first j numbers of ms. -/
def off (ms : Nat → Nat) : Nat → Nat
  | 0 => 0
  | j + 1 => off ms j + ms j
theorem off_le (ms : Nat → Nat) {i n : Nat} (h : i ≤ n) : off ms i ≤ off ms n := by
  induction n with
  | zero => obtain rfl : i = 0 := by omega
            exact Nat.le_refl _
  | succ n ih =>
    by_cases e : i = n + 1
    · subst e; exact Nat.le_refl _
    · have := ih (by omega); show off ms i ≤ off ms n + ms n; omega
def MarkedSS (k n : Nat) (ms : Nat → Nat) (xf : Nat → List Value) : Prop := ∀ i, i < n → Marked (k + off ms i) (ms i) (xf i)

theorem eqInt64SS_same (A A' : Option Addr) (n c c' : Nat) (zf : Nat → List Int) (w : World) (B : Nat) (hr : RSS w B A n zf) (hr' : RSS w B A' n zf) (hn : n ≤ 9223372036854775807) (hm : ∀ k, k < n → (zf k).length ≤ 9223372036854775807) :
    Calls Try.prog 96 #[.slice A n c, .slice A' n c'] w fun e w' => e = .returned (.bool true) ∧ ∃ m, w' = w.drewN m := by
  have H0 := Lib.hid hr
  have H1 := Lib.hid hr'
  have HM := Lib.hid hm
  clear hr hr' hm
  go_enter Try.func96, Try.ntmps96
  go_wp2
  go_loopw [5] (fun i wr => ∃ (k : Nat), k ≤ n ∧ i = .int .i64 k ∧ Hid (∃ m, wr = w.drewN m)) (fun i _ => n - (intOf i).toNat)
  case atStart => exact ⟨0, by omega, rfl, Lib.hid ⟨0, rfl⟩⟩
  case round =>
    obtain ⟨k, hk, rfl, hw⟩ := hrel
    by_cases hlt : k < n
    · obtain ⟨a, A1, c1, rfl, _, hcell, hri⟩ := H0.out k hlt
      obtain ⟨a', A1', c1', rfl, _, hcell', hri'⟩ := H1.out k hlt
      have hk0 : (0 : Int) ≤ (k : Int) := Int.natCast_nonneg _
      have hk1 : (k : Int) < (n : Int) := by omega
      have hx : wr.cell? (a.add k) = some (.slice A1 (zf k).length c1) := by obtain ⟨m, rfl⟩ := hw.out; exact hcell
      have hx' : wr.cell? (a'.add k) = some (.slice A1' (zf k).length c1') := by obtain ⟨m, rfl⟩ := hw.out; exact hcell'
      have HR : Hid (RI wr B A1 (zf k).length (zf k)) := Lib.hid (by obtain ⟨m, rfl⟩ := hw.out; exact hri)
      have HR' : Hid (RI wr B A1' (zf k).length (zf k)) := Lib.hid (by obtain ⟨m, rfl⟩ := hw.out; exact hri')
      have HL := HM.out k hlt
      clear hcell hcell' hri hri'
      go_wp2
      go_quiet ((go_at_call 50; exact Calls.quiet_of (eqInt64S_same A1 A1' _ c1 c1' (zf k) _ B HR.out HR'.out HL)))
      go_wp2
      go_roundw
      case rel => exact ⟨k + 1, by omega, by go_num, Lib.hid (by obtain ⟨m, rfl⟩ := hw.out; exact ⟨m + nq, World.drewN_drewN _ _ _⟩)⟩
      case measure => simp [intOf]; omega
    · obtain rfl : k = n := by omega
      go_wp2
      go_ret
      exact ⟨rfl, hw.out⟩

theorem markInt64SS_any (A : Option Addr) (n c base k : Nat) (vf : Nat → Value) (ms : Nat → Nat) (xf : Nat → List Value) (w : World) (hown : OwnSS w base A n c vf ms xf) (hn : n ≤ 1099511627776) (hk : k + off ms n ≤ 1099511627776) :
    Calls Try.prog 102 #[.slice A n c, .int .i64 k] w fun e w' => e = .returned (.int .i64 ((k + off ms n : Nat) : Int)) ∧ (∃ yf, OwnSS w' base A n c vf ms yf ∧ MarkedSS k n ms yf) ∧ Below base w w' := by
  have H := Lib.hid hown
  clear hown
  have hk0 : k ≤ 1099511627776 := by omega
  go_enter Try.func102, Try.ntmps102
  go_wp2
  go_loopw [1, 5] (fun vk vi wr => ∃ (j : Nat) (yf : Nat → List Value), j ≤ n ∧ vk = .int .i64 ((k + off ms j : Nat) : Int) ∧ vi = .int .i64 j ∧ Hid (OwnSS wr base A n c vf ms yf) ∧ Hid (MarkedSS k j ms yf) ∧ Hid (Below base w wr)) (fun _ vi _ => n - (intOf vi).toNat)
  case atStart => exact ⟨0, xf, by omega, by simp [off], rfl, H, fun i hi => by omega, Lib.hid (Below.refl _ _)⟩
  case round =>
    obtain ⟨j, yf, hj, rfl, rfl, ho, hm, hb⟩ := hrel
    by_cases hlt : j < n
    · obtain ⟨g, rfl, _, hcell⟩ := ho.out.cell hlt
      obtain ⟨A', c', hv⟩ := ho.out.form j hlt
      have hin := ho.out.inner j hlt
      rw [hv] at hcell hin
      have HI := Lib.hid hin
      have HV := Lib.hid hv
      have o1 : off ms (j + 1) ≤ off ms n := off_le ms hlt
      have o2 : off ms (j + 1) = off ms j + ms j := rfl
      have o3 : ms j ≤ 1099511627776 := by omega
      have o4 : k + off ms j ≤ 1099511627776 := by omega
      have O2 := Lib.hid o2
      clear hin hv o1 o2
      go_wp2_with (go_at_call 51; refine (markInt64S_any A' (ms j) c' base (k + off ms j) (yf j) _ HI.out o3 o4).mono ?_; rintro e w2 ⟨rfl, ⟨ys, hy, hym⟩, hg⟩; have HY := Lib.hid hy; have HM := Lib.hid hym; have HG := Lib.hid hg; clear hy hym hg)
      go_roundw
      case rel =>
        have hne : ∀ i, i < n → i ≠ j → (vf i).ownBlock = none ∨ (vf i).ownBlock ≠ (Value.slice A' (ms j) c').ownBlock := fun i hi hij => by rw [← HV.out]; exact ho.out.apart i j hi hlt hij
        refine ⟨j + 1, fun i => if i = j then ys else yf i, by omega, vintS (by have := O2.out; omega), by go_num, Lib.hid ⟨?_, ho.out.form, ?_, ho.out.apart⟩, Lib.hid ?_, Lib.hid ?_⟩
        · exact ho.out.outer.kept HG.out (block_type ho.out.outer HI.out (by decide))
        · intro i hi
          by_cases e : i = j
          · subst e
            rw [HV.out]; simpa using HY.out
          · simp only [if_neg e]
            exact (ho.out.inner i hi).kept HG.out (hne i hi e)
        · intro i hi
          by_cases e : i = j
          · subst e; simpa using HM.out
          · simp only [if_neg e]; exact hm.out i (by omega)
        · exact hb.out.grown HG.out (by have := World.ownsRow.lt ho.out.outer g rfl; omega) (fun k hk => (Own.lt HI.out k hk).1)
      case measure => simp [intOf]; omega
    · obtain rfl : j = n := by omega
      go_wp2
      go_ret
      exact ⟨rfl, ⟨yf, ho.out, hm.out⟩, hb.out⟩

theorem heldInt64SS_any (A : Option Addr) (n c base k : Nat) (vf : Nat → Value) (ms : Nat → Nat) (xf : Nat → List Value) (w : World) (hown : OwnSS w base A n c vf ms xf) (hm : MarkedSS k n ms xf) (hn : n ≤ 1099511627776) (hk : k + off ms n ≤ 1099511627776) :
    Calls Try.prog 104 #[.slice A n c, .int .i64 k] w fun e w' => e = .returned (.int .i64 ((k + off ms n : Nat) : Int)) ∧ w = w' := by
  have H := Lib.hid hown
  have M := Lib.hid hm
  clear hown hm
  have hk0 : k ≤ 1099511627776 := by omega
  go_enter Try.func104, Try.ntmps104
  go_wp2
  go_loop [1, 5] (fun vk vi => ∃ (j : Nat), j ≤ n ∧ vk = .int .i64 ((k + off ms j : Nat) : Int) ∧ vi = .int .i64 j) (fun _ vi => n - (intOf vi).toNat)
  case atStart => exact ⟨0, by omega, by simp [off], rfl⟩
  case round =>
    obtain ⟨j, hj, rfl, rfl⟩ := hrel
    by_cases hlt : j < n
    · obtain ⟨g, rfl, _, hcell⟩ := H.out.cell hlt
      obtain ⟨A', c', hv⟩ := H.out.form j hlt
      have hin := H.out.inner j hlt
      rw [hv] at hcell hin
      have HI := Lib.hid hin
      have o1 : off ms (j + 1) ≤ off ms n := off_le ms hlt
      have o2 : off ms (j + 1) = off ms j + ms j := rfl
      have o3 : ms j ≤ 1099511627776 := by omega
      have o4 : k + off ms j ≤ 1099511627776 := by omega
      have O2 := Lib.hid o2
      have MM := Lib.hid (M.out j hlt)
      clear hin hv o1 o2
      go_wp2_with (go_at_call 52; refine (heldInt64S_any A' (ms j) c' base (k + off ms j) (xf j) _ HI.out MM.out o3 o4).mono ?_; rintro e w2 ⟨rfl, rfl⟩)
      go_round
      case rel => exact ⟨j + 1, by omega, vintS (by have := O2.out; omega), by go_num⟩
      case measure => simp [intOf]; omega
    · obtain rfl : j = n := by omega
      go_wp2
      go_ret
      exact ⟨rfl, rfl⟩
end Go.Proofs.Ytohbgfmjnanlkaa
/- A slice of slices of int64 that comes in. Conditions: stated at each theorem. -/
namespace Go.Proofs.Ytohbgfmjnanlkaa
open Go.ChangeShapes Go.WideShapes Go.ChangeAt Go.RowKit Go.Deep
set_option linter.unusedVariables false

set_option maxRecDepth 100000 in
theorem open_rows_ints {H : Type} {enc : TypeId × Value → H} {W : World} {B : Nat} {r : Reach} {b0 : Nat} {v : Value} {d : DataW H} {p : List MemPlace}
    (hv : Value.okWide Try.prog W r b0 49 v) (h : DataW.Trod enc Try.prog W 0 (fun _ => true) true 49 v d p) (hlt : ∀ x ∈ p, x.block < B) :
    ∃ (zss : List (List Int)), ReadQW W B v zss ∧ zss.length ≤ 9223372036854775807 ∧ (∀ zs ∈ zss, zs.length ≤ 9223372036854775807 ∧ ∀ z ∈ zs, (Lit.int .i64 z).wf = true) := by
  obtain ⟨a0, len, cap, rfl⟩ := okWide_slice Try.underlying49 hv
  obtain ⟨fuel, hf⟩ := h
  rcases open_int_rows Try.underlying49 Try.underlying22 Try.underlying2 (by kernel_rfl) (by kernel_rfl) hf with ⟨e, _⟩ | ⟨a, len', cap', A, L, C, Z, e, _, hle, hcap, hx, hrows⟩
  · simp [Value.cells] at e
    obtain ⟨rfl, rfl, rfl⟩ := e
    exact ⟨[], ⟨none, 0, rfl, fun k hk => by simp at hk⟩, by simp, fun zs h => by cases h⟩
  · simp [Value.cells] at e
    obtain ⟨rfl, rfl, rfl⟩ := e
    simp only [Prod.mk.injEq] at hx
    have hp : p = MemPlace.row a cap ++ (List.range cap).flatMap fun r => intRowPlaces (A r) (Z r) := hx.2
    unfold maxLen at hcap hrows
    refine ⟨(List.range len).map fun r => (Z r).take (L r), ⟨some a, cap, by simp, fun k hk => ?_⟩, by simp; omega, fun zs hz => ?_⟩
    · have hk' : k < len := by simpa using hk
      obtain ⟨hc, hl1, hl2, hl3, hwf, hnil, hcells⟩ := hrows k (by omega)
      refine ⟨a, .slice (A k) (L k) (C k), rfl, ?_, hc, ?_⟩
      · have := hlt (.cell a.block (a.off + 0)) (by rw [hp]; exact List.mem_append_left _ (MemPlace.mem_row.2 ⟨0, by omega, rfl⟩))
        simpa [MemPlace.block] using this
      · have e1 : ((List.range len).map fun r => (Z r).take (L r)).getD k [] = (Z k).take (L k) := by simp [List.getD, hk']
        have e2 : ((Z k).take (L k)).length = L k := by simp; omega
        rw [e1]
        refine ⟨A k, C k, by rw [e2], ?_⟩
        rw [e2]
        refine ⟨e2, fun j hj => ?_⟩
        cases hA : A k with
        | none => have := hnil hA; omega
        | some a' =>
          have hcj := (hcells a' hA).2 j (by omega)
          refine ⟨a', rfl, ?_, ?_⟩
          · have hm : MemPlace.cell a'.block (a'.off + 0) ∈ p := by
              rw [hp]
              refine List.mem_append_right _ (List.mem_flatMap.2 ⟨k, List.mem_range.2 (by omega), ?_⟩)
              rw [hA]
              exact MemPlace.mem_row.2 ⟨0, by omega, rfl⟩
            have := hlt _ hm
            simpa [MemPlace.block] using this
          · rw [hcj]; simp [List.getD, hj]
    · obtain ⟨k, hk, rfl⟩ := List.mem_map.1 hz
      have hk' : k < len := by simpa using hk
      obtain ⟨hc, hl1, hl2, hl3, hwf, hnil, hcells⟩ := hrows k (by omega)
      exact ⟨by simp; omega, fun z hz => hwf z (List.mem_of_mem_take hz)⟩

theorem szI_yes (A : Option Addr) (n c : Nat) (left : Int) (w : World) (h : (n : Int) ≤ left) (hl : left ≤ 1048576) :
    Calls Try.prog 58 #[.slice A n c, .int .i64 left] w fun e w' => e = .returned (.int .i64 (left - n)) ∧ w = w' := by
  go_enter Try.func58, Try.ntmps58
  go_wp2
  go_ret
  exact ⟨rfl, rfl⟩
theorem szI_no (A : Option Addr) (n c : Nat) (left : Int) (w : World) (h : left < (n : Int)) (h0 : 0 ≤ left) (hl : left ≤ 1048576) (hn : n ≤ 9223372036854775807) :
    Calls Try.prog 58 #[.slice A n c, .int .i64 left] w fun e w' => e = .returned (.int .i64 (-1)) ∧ w = w' := by
  go_enter Try.func58, Try.ntmps58
  go_wp2
  go_ret
  exact ⟨rfl, rfl⟩
theorem ReadW.form {w : World} {B : Nat} {v : Value} {zs : List Int} (h : ReadW w B v zs) {n : Nat} (hl : zs.length = n) : ∃ A c, v = .slice A n c := by
  subst hl; obtain ⟨A, c, rfl, _⟩ := h; exact ⟨A, c, rfl⟩

theorem ret_intQ {k : IntKind} {a b : Int} (h : a = b) : Ending.returned (.int k a) = .returned (.int k b) := by rw [h]
theorem szQ_yes (v : Value) (zss : List (List Int)) (w : World) (B : Nat) (hr : ReadQW w B v zss) (h : szTot zss ≤ 1048576) :
    Calls Try.prog 90 #[v, .int .i64 1048576] w fun e w' => e = .returned (.int .i64 (1048576 - (szTot zss : Int))) ∧ w = w' := by
  obtain ⟨A, c, rfl, hr⟩ := hr
  have HR := Lib.hid hr
  have HT := Lib.hid h
  clear hr h
  obtain ⟨n, hL⟩ : ∃ n, zss.length = n := ⟨_, rfl⟩
  have hn1 : (n : Int) ≤ 1048576 := by have := HT.out; unfold szTot at this; omega
  have HR' : Hid (∀ k, k < n → ∃ a u, A = some a ∧ a.block < B ∧ w.cell? (a.add k) = some u ∧ ReadW w B u (zss.getD k [])) := Lib.hid (by rw [← hL]; exact HR.out)
  have HTot : Hid (szTot zss = n + sumTo (lens zss) n) := Lib.hid (by unfold szTot; rw [hL])
  rw [hL]
  clear hL HR
  go_enter Try.func90, Try.ntmps90
  go_wp2
  go_loop [1, 5] (fun vk vi => ∃ (j : Nat) (y : Int), j ≤ n ∧ vk = .int .i64 y ∧ vi = .int .i64 j ∧ Hid (y = 1048576 - (n : Int) - (sumTo (lens zss) j : Int)) ∧ (0 ≤ y ∧ y ≤ 1048576)) (fun _ vi => n - (intOf vi).toNat)
  case atStart => exact ⟨0, _, by omega, rfl, rfl, Lib.hid (by simp [sumTo]), by omega⟩
  case round =>
    obtain ⟨j, y, hj, rfl, rfl, hy, hyb⟩ := hrel
    by_cases hlt : j < n
    · obtain ⟨a, u, rfl, hab, hcell, hrd⟩ := HR'.out j hlt
      obtain ⟨m, hm⟩ : ∃ m, (zss.getD j []).length = m := ⟨_, rfl⟩
      obtain ⟨A2, c2, rfl⟩ := hrd.form hm
      have s1 : sumTo (lens zss) (j + 1) = sumTo (lens zss) j + m := by rw [← hm]; rfl
      have s2 := sumTo_le (lens zss) (show j + 1 ≤ n by omega)
      have hmy : (m : Int) ≤ y := by have := HT.out; have := HTot.out; have := hy.out; omega
      have S1 := Lib.hid s1
      clear hrd hm s1 s2
      go_wp2_with fail
      refine (szI_yes _ m _ y w hmy hyb.2).mono ?_
      rintro e w' ⟨rfl, rfl⟩
      go_wp2_with fail
      go_round
      case rel => exact ⟨j + 1, y - m, by omega, rfl, by go_num, Lib.hid (by have := hy.out; have := S1.out; omega), by omega⟩
      case measure => simp [intOf]; omega
    · obtain rfl : j = n := by omega
      have E : Hid (y = 1048576 - (szTot zss : Int)) := Lib.hid (by have := hy.out; have := HTot.out; omega)
      go_wp2
      go_ret
      exact ⟨ret_intQ E.out, rfl⟩

theorem szQ_no (v : Value) (zss : List (List Int)) (w : World) (B : Nat) (hr : ReadQW w B v zss) (h : ¬ szTot zss ≤ 1048576) (hn : zss.length ≤ 9223372036854775807) (hm : ∀ i, lens zss i ≤ 9223372036854775807) :
    Calls Try.prog 90 #[v, .int .i64 1048576] w fun e w' => e = .returned (.int .i64 (-1)) ∧ w = w' := by
  obtain ⟨A, c, rfl, hr⟩ := hr
  have HR := Lib.hid hr
  have HT := Lib.hid h
  have HM := Lib.hid hm
  clear hr h hm
  obtain ⟨n, hL⟩ : ∃ n, zss.length = n := ⟨_, rfl⟩
  rw [hL] at hn
  have HR' : Hid (∀ k, k < n → ∃ a u, A = some a ∧ a.block < B ∧ w.cell? (a.add k) = some u ∧ ReadW w B u (zss.getD k [])) := Lib.hid (by rw [← hL]; exact HR.out)
  have HTot : Hid (szTot zss = n + sumTo (lens zss) n) := Lib.hid (by unfold szTot; rw [hL])
  rw [hL]
  clear hL HR
  by_cases hbig : 1048576 < (n : Int)
  · go_enter Try.func90, Try.ntmps90
    go_wp2
    go_ret
    exact ⟨rfl, rfl⟩
  have hn1 : (n : Int) ≤ 1048576 := by omega
  clear hbig
  go_enter Try.func90, Try.ntmps90
  go_wp2
  go_loop [1, 5] (fun vk vi => ∃ (j : Nat) (y : Int), j ≤ n ∧ vk = .int .i64 y ∧ vi = .int .i64 j ∧ Hid (y = 1048576 - (n : Int) - (sumTo (lens zss) j : Int)) ∧ (0 ≤ y ∧ y ≤ 1048576)) (fun _ vi => n - (intOf vi).toNat)
  case atStart => exact ⟨0, _, by omega, rfl, rfl, Lib.hid (by simp [sumTo]), by omega⟩
  case round =>
    obtain ⟨j, y, hj, rfl, rfl, hy, hyb⟩ := hrel
    by_cases hlt : j < n
    · obtain ⟨a, u, rfl, hab, hcell, hrd⟩ := HR'.out j hlt
      obtain ⟨m, hm⟩ : ∃ m, (zss.getD j []).length = m := ⟨_, rfl⟩
      obtain ⟨A2, c2, rfl⟩ := hrd.form hm
      have s1 : sumTo (lens zss) (j + 1) = sumTo (lens zss) j + m := by rw [← hm]; rfl
      have hm3 : m ≤ 9223372036854775807 := by rw [← hm]; exact HM.out j
      have S1 := Lib.hid s1
      clear hrd hm s1
      by_cases hmy : (m : Int) ≤ y
      · go_wp2_with fail
        refine (szI_yes _ m _ y w hmy hyb.2).mono ?_
        rintro e w' ⟨rfl, rfl⟩
        go_wp2_with fail
        go_round
        case rel => exact ⟨j + 1, y - m, by omega, rfl, by go_num, Lib.hid (by have := hy.out; have := S1.out; omega), by omega⟩
        case measure => simp [intOf]; omega
      · go_wp2_with fail
        refine (szI_no _ m _ y w (by omega) hyb.1 hyb.2 hm3).mono ?_
        rintro e w' ⟨rfl, rfl⟩
        go_wp2_with fail
        go_ret
        exact ⟨rfl, rfl⟩
    · obtain rfl : j = n := by omega
      exfalso
      have h1 := hy.out
      have h2 := HTot.out
      apply HT.out
      omega
end Go.Proofs.Ytohbgfmjnanlkaa
/- A region that draws its order, walked by hand: one operation is taken first, its slot named. Conditions: stated at each theorem. -/
namespace Go.Proofs.Ytohbgfmjnanlkaa
open Go.ChangeShapes Go.WideShapes Go.ChangeAt Go.RowKit
set_option linter.unusedVariables false
section
variable {P : Program} {ops : Array Oper} {Q : Exit → Act → World → Prop} {md : Region.Mode} {S : World → Prop}
theorem takeY (i d : Nat) {oi : Oper} {v : Value} {fuel : Nat} {listed : Array Bool} {a : Act} {w : World} (hi : ops[i]? = some oi) (hd : oi.dst = some d)
    (hs : Region.noSelect ops = true) (hf : Region.free md ops listed i = true) (hr : (Region.ready md ops listed).contains i = true)
    (hQ : ∀ c a w, Q (.panic c) (a.put (some d) v) w → Q (.panic c) a w) (hw : Region.wanted oi (yielded ops a.tmps) = true) (hy : ∀ w, S w → (execOp a.eval oi).run P w = .ok (.value v) w) (hS : S w)
    (h : wpAnyH P md ops Q S fuel (listed.setIfInBounds i true) (a.put (some d) v) w) : wpAnyH P md ops Q S (fuel + 1) listed a w :=
  wpAnyH_take hi hs hf hr (by rw [hd]; exact hQ) (Or.inl ⟨hw, hy⟩) hS (by rw [hd]; exact h)
theorem takeN (i d : Nat) {oi : Oper} {fuel : Nat} {listed : Array Bool} {a : Act} {w : World} (hi : ops[i]? = some oi) (hd : oi.dst = some d)
    (hs : Region.noSelect ops = true) (hf : Region.free md ops listed i = true) (hr : (Region.ready md ops listed).contains i = true)
    (hQ : ∀ c a w, Q (.panic c) (a.put (some d) undef) w → Q (.panic c) a w) (hw : Region.wanted oi (yielded ops a.tmps) = false) (hS : S w)
    (h : wpAnyH P md ops Q S fuel (listed.setIfInBounds i true) (a.put (some d) undef) w) : wpAnyH P md ops Q S (fuel + 1) listed a w :=
  wpAnyH_take hi hs hf hr (by rw [hd]; exact hQ) (Or.inr ⟨hw, rfl⟩) hS (by rw [hd]; exact h)
end
end Go.Proofs.Ytohbgfmjnanlkaa
/- CommonDivisor, the model's and the program's: contracts. Conditions: stated at each theorem. -/
namespace Go.Proofs.Ytohbgfmjnanlkaa
open Go.ChangeShapes Go.WideShapes Go.ChangeAt Go.RowKit
set_option linter.unusedVariables false

/-! ### CommonDivisor, the model's and the program's -/
def cdA (a b : Int) : Int := if intB a && intB b then Int.gcd a b else 0
def cdC (a b : Int) : Int := if intB a && intB b then 0 else 2
end Go.Proofs.Ytohbgfmjnanlkaa
/- The steps of two natural numbers, the model's and the program's: contracts. Conditions: stated at each theorem. -/
namespace Go.Proofs.Ytohbgfmjnanlkaa
open Go.ChangeShapes Go.WideShapes Go.ChangeAt Go.RowKit
set_option linter.unusedVariables false

theorem bool_fs (b : Bool) : b = false ∨ b = true := by cases b <;> simp
theorem ints_info : (Try.prog.info? 22).map (fun i => (i.zero, i.size, i.bytes)) = some (some (.slice none 0 0), 1, 24) := by kernel_rfl
/-- The steps of a and b, with more fuel than b. -/
def stL : Nat → Int → Int → List (Int × Int)
  | 0, _, _ => []
  | f + 1, a, b => if b ≤ 0 then [] else (a / b, b) :: stL f b (a % b)
def steps (a b : Int) : List (Int × Int) := stL (b.toNat + 1) a b
theorem stL_len : ∀ (f : Nat) (a b : Int), (stL f a b).length ≤ f
  | 0, _, _ => by simp [stL]
  | f + 1, a, b => by
    unfold stL; split
    · simp
    · have := stL_len f b (a % b); simp; omega
/-- The lists {q, r} of steps. -/
def stF (L : List (Int × Int)) (i : Nat) : List Int := [(L[i]?.getD (0, 0)).1, (L[i]?.getD (0, 0)).2]
theorem stF_len (L : List (Int × Int)) (i : Nat) : (stF L i).length = 2 := rfl
def two (_ : Nat) : Nat := 2
theorem off_two (n : Nat) : off two n = 2 * n := by
  induction n with
  | zero => rfl
  | succ n ih => show off two n + 2 = _; omega

theorem Own.form29 {w : World} {base n : Nat} {v : Value} {xs : List Value} {t : TypeId} (h : w.ownsRow base t 1 v n xs) : ∃ A c, v = .slice A n c := by
  rcases h.2 with ⟨rfl, rfl⟩ | ⟨g, cap, cur, rfl, _⟩
  · exact ⟨none, 0, rfl⟩
  · exact ⟨_, _, rfl⟩
theorem range_snoc (vf : Nat → Value) (v : Value) (n : Nat) : (List.range n).map vf ++ [v] = (List.range (n + 1)).map fun i => if i = n then v else vf i := by
  rw [List.range_succ, List.map_append]
  congr 1
  · apply List.map_congr_left
    intro i hi
    have : i < n := by simpa using hi
    rw [if_neg (by omega)]
  · simp
/-- One more slice of two numbers, behind an append. -/
theorem OwnSS.push2 {w w1 : World} {base n c : Nat} {A : Option Addr} {vf : Nat → Value} {xf : Nat → List Value} (h : OwnSS w base A n c vf two xf) (x y : Value) (hb : base ≤ w.heap.size) {A1 : Option Addr} {c1 : Nat} {o : Obj}
    (h1 : w1.ownsRow base 22 1 (.slice A1 (n + 1) c1) (n + 1) ((List.range n).map vf ++ [.slice (some ⟨w.heap.size, 0, none⟩) 2 2]))
    (hg : ((w.alloc (.cells #[x, y] 2)).alloc o).grownBy w1 (Value.slice A n c).ownBlock) :
    OwnSS w1 base A1 (n + 1) c1 (fun i => if i = n then .slice (some ⟨w.heap.size, 0, none⟩) 2 2 else vf i) two (fun i => if i = n then [x, y] else xf i) := by
  have hlt : ∀ i, i < n → ∀ k, (vf i).ownBlock = some k → k < w.heap.size := fun i hi k hk => ((h.inner i hi).lt k hk).2
  have hold : ∀ i, i < n → Own w1 base (vf i) 2 (xf i) := fun i hi =>
    (((h.inner i hi).kept (World.grownBy_alloc w _ none) (by cases (vf i).ownBlock <;> simp)).kept (World.grownBy_alloc _ _ none) (by cases (vf i).ownBlock <;> simp)).kept hg (block_type (h.inner i hi) h.outer (by decide))
  have hnew : Own w1 base (.slice (some ⟨w.heap.size, 0, none⟩) 2 2) 2 [x, y] := by
    have e : Own (w.alloc (.cells #[x, y] 2)) base (.slice (some ⟨w.heap.size, 0, none⟩) 2 2) 2 [x, y] := World.ownsRow_lit w #[x, y] 2 hb (by simp [maxLen]) rfl
    refine (e.kept (World.grownBy_alloc _ o none) (by simp [Value.ownBlock])).kept hg (.inr fun e' => ?_)
    have := World.ownsRow.lt h.outer w.heap.size e'.symm
    omega
  refine ⟨?_, ?_, ?_, ?_⟩
  · rw [← range_snoc]; exact h1
  · intro i hi
    by_cases e : i = n
    · exact ⟨_, _, if_pos e⟩
    · simp only [if_neg e]; exact h.form i (by omega)
  · intro i hi
    by_cases e : i = n
    · simp only [if_pos e]; exact hnew
    · simp only [if_neg e]; exact hold i (by omega)
  · intro i j hi hj hij
    by_cases e : i = n
    · have e2 : j ≠ n := by omega
      simp only [if_pos e, if_neg e2]
      refine .inr fun e' => ?_
      have := hlt j (by omega) w.heap.size e'.symm
      omega
    · by_cases e2 : j = n
      · simp only [if_neg e, if_pos e2]
        cases ek : (vf i).ownBlock with
        | none => exact .inl rfl
        | some k =>
          refine .inr fun e' => ?_
          have := hlt i (by omega) k ek
          simp only [Value.ownBlock, Option.some.injEq] at e'
          omega
      · simp only [if_neg e, if_neg e2]; exact h.apart i j (by omega) (by omega) hij

def StepsPost (w : World) (L : List (Int × Int)) (e : Ending) (w' : World) : Prop :=
  ∃ A c vf, e = .returned (.slice A L.length c) ∧ OwnSS w' w.heap.size A L.length c vf two (fun i => (stF L i).map (.int .i64)) ∧ Below w.heap.size w w'
theorem StepsPost.mk' {w w' : World} {L M : List (Int × Int)} {A : Option Addr} {n c : Nat} {vf : Nat → Value} (h1 : L = M) (h2 : M.length = n) (h3 : OwnSS w' w.heap.size A n c vf two (fun i => (stF M i).map (.int .i64))) (h4 : Below w.heap.size w w') : StepsPost w L (.returned (.slice A n c)) w' := by
  subst h1; subst h2; exact ⟨A, c, vf, rfl, h3, h4⟩
theorem l01Steps_any (a b : Int) (w : World) (ha : 1 ≤ a ∧ a ≤ 1000000000) (hb : 1 ≤ b ∧ b ≤ 1000000000) :
    Calls Try.prog 167 #[.int .i64 a, .int .i64 b] w (StepsPost w (steps a b)) := by
  go_enter Try.func167, Try.ntmps167
  go_wp2
  have HO : Hid (OwnSS (w.alloc (.cells #[] 22)) w.heap.size (some ⟨w.heap.size, 0, none⟩) 0 0 (fun _ => .slice none 0 0) two fun i => (stF [] i).map (.int .i64)) := Lib.hid ⟨World.ownsRow_lit w #[] 0 (Nat.le_refl _) (by simp [maxLen]) rfl, fun i h => by omega, fun i h => by omega, fun i j h => by omega⟩
  have hB0 : Below w.heap.size w (w.alloc (.cells #[] 22)) := (Below.refl _ _).alloc (Nat.le_refl _) _

  go_loopw [0, 1, 5] (fun vx vy vo wr => ∃ (x y : Int) (j f : Nat) (L : List (Int × Int)) (A : Option Addr) (c : Nat) (vf : Nat → Value), (1 ≤ x ∧ x ≤ 1000000000) ∧ (0 ≤ y ∧ y ≤ 1000000000) ∧ (y.toNat < f ∧ j + f ≤ 1000000001) ∧ Hid (L.length = j) ∧ Hid (steps a b = L ++ stL f x y) ∧ vx = .int .i64 x ∧ vy = .int .i64 y ∧ vo = .slice A j c ∧ Hid (OwnSS wr w.heap.size A j c vf two fun i => (stF L i).map (.int .i64)) ∧ Below w.heap.size w wr) (fun _ vy _ _ => (intOf vy).toNat)
  case atStart => exact ⟨a, b, 0, b.toNat + 1, [], _, _, fun _ => .slice none 0 0, by omega, by omega, by omega, Lib.hid rfl, Lib.hid rfl, rfl, rfl, rfl, HO, hB0⟩
  case round =>
    obtain ⟨x, y, j, f, L, A, c, vf, hx, hy, hf, hl, hg, rfl, rfl, rfl, ho, hb⟩ := hrel
    obtain ⟨f, rfl⟩ : ∃ k, f = k + 1 := ⟨f - 1, by omega⟩
    by_cases hy0 : 0 < y
    rotate_left
    · obtain rfl : y = 0 := by omega
      have Z : Hid (steps a b = L) := Lib.hid (by rw [hg.out]; simp [stL])
      clear hg
      go_wp2
      go_ret
      exact StepsPost.mk' Z.out hl.out ho.out hb
    · have hm : 0 ≤ x % y ∧ x % y < y := ⟨Int.emod_nonneg _ (by omega), Int.emod_lt_of_pos _ hy0⟩
      have hq : 0 ≤ x / y ∧ x / y ≤ x := ⟨Int.ediv_nonneg (by omega) (by omega), Int.ediv_le_self _ (by omega)⟩
      have HG : Hid (steps a b = (L ++ [(x / y, y)]) ++ stL f y (x % y)) := Lib.hid (by
        rw [hg.out]; conv => lhs; unfold stL
        rw [if_neg (by omega)]; simp)
      clear hg
      obtain ⟨i0, hi0, hz0, hz1, hz2⟩ := info_parts ints_info
      go_wp2_with (at_builtin; refine wpList_append_own _ rfl _ _ 49 rfl w.heap.size 22 i0 (.slice none 0 0) 1 24 Try.underlying49 hi0 hz0 hz1 hz2 rfl ?_ _ j ((List.range j).map vf) rfl (World.ownsRow.alloc (World.ownsRow.alloc ho.out.outer _) _) ⟨wr.heap.size + 1, 0, none⟩ 1 1 [.slice (some ⟨wr.heap.size, 0, none⟩) 2 2] rfl rfl ?_ ?_ ?_ ?_ ?_ ?_; (decide); (exact World.news_of_block (cs := #[.slice (some ⟨wr.heap.size, 0, none⟩) 2 2]) (t := 22) (fr := (0, 0)) (heap_alloc2_new wr _ _)); (simp [Value.oneCell']); (simp only [maxLen]; omega); (omega); (have := hb.size; simp; omega); intro v1 w1 hown1 hgrow _; obtain ⟨A1, c1, rfl⟩ := Own.form29 hown1; have HO1 := Lib.hid (ho.out.push2 (.int .i64 (x / y)) (.int .i64 y) hb.size hown1 hgrow); have hb1 : Below w.heap.size w w1 := ((hb.alloc hb.size _).alloc (by have := hb.size; simp; omega) _).grown hgrow (by have := hb.size; simp; omega) (fun k hk => (World.ownsRow.lt ho.out.outer k hk).1); clear hown1 hgrow)
      go_roundw
      case rel =>
        refine ⟨y, x % y, j + 1, f, L ++ [(x / y, y)], A1, c1, (fun i => if i = j then .slice (some ⟨wr.heap.size, 0, none⟩) 2 2 else vf i), by omega, by omega, by omega, Lib.hid (by simp [hl.out]), HG, rfl, rfl, rfl, Lib.hid ?_, hb1⟩
        have e : (fun i => (stF (L ++ [(x / y, y)]) i).map (Value.int .i64)) = fun i => if i = j then [.int .i64 (x / y), .int .i64 y] else (stF L i).map (.int .i64) := by
          funext i
          have hlj := hl.out
          by_cases e : i = j
          · subst e; rw [if_pos rfl]; simp [stF, ← hlj]
          · rw [if_neg e]
            by_cases e2 : i < j
            · simp [stF, List.getElem?_append_left (show i < L.length by omega)]
            · have e3 : (L ++ [(x / y, y)])[i]? = none := List.getElem?_eq_none (by simp; omega)
              have e4 : L[i]? = none := List.getElem?_eq_none (by omega)
              simp [stF, e3, e4]
        rw [e]
        exact HO1.out
      case measure => simp [intOf]; omega

/-- Steps and a code come back. -/
def StepsCode (w : World) (L : List (Int × Int)) (C : Int) (e : Ending) (w' : World) : Prop :=
  ∃ A c vf, e = .returned (.tuple #[.slice A L.length c, .int .i64 C]) ∧ OwnSS w' w.heap.size A L.length c vf two (fun i => (stF L i).map (.int .i64)) ∧ Below w.heap.size w w'
theorem StepsCode.mk' {w w' : World} {L M : List (Int × Int)} {C D : Int} {A : Option Addr} {n c : Nat} {vf : Nat → Value} (h1 : L = M) (h0 : D = C) (h2 : M.length = n) (h3 : OwnSS w' w.heap.size A n c vf two (fun i => (stF M i).map (.int .i64))) (h4 : Below w.heap.size w w') : StepsCode w L D (.returned (.tuple #[.slice A n c, .int .i64 C])) w' := by
  subst h1; subst h2; subst h0; exact ⟨A, c, vf, rfl, h3, h4⟩
theorem StepsCode.empty {w w' : World} {L : List (Int × Int)} {D : Int} (C : Int) (h1 : L = []) (h0 : D = C) (hb : Below w.heap.size w w') : StepsCode w L D (.returned (.tuple #[.slice none 0 0, .int .i64 C])) w' :=
  StepsCode.mk' (M := []) (vf := fun _ => .slice none 0 0) h1 h0 rfl (OwnSS.nil _ _ _ _ _) hb
def esA (a b : Int) : List (Int × Int) := if natB a && natB b then steps a b else []
def esC (a b : Int) : Int := if natB a && natB b then 0 else 2
theorem esA_len (a b : Int) : (esA a b).length ≤ 1000000001 := by
  unfold esA
  by_cases h : (natB a && natB b) = true
  · rw [if_pos h]
    simp only [Bool.and_eq_true] at h
    have := natB_true.1 h.2
    have := stL_len (b.toNat + 1) a b
    unfold steps; omega
  · rw [if_neg h]; simp

theorem implEuclidSteps_any (a b : Int) (w : World) :
    Calls Try.prog 187 #[.int .i64 a, .int .i64 b] w (StepsCode w (esA a b) (esC a b)) := by
  rcases bool_fs (natB a) with ha0 | ha0
  · have e1 : Hid (esA a b = []) := Lib.hid (by simp [esA, *])
    have e2 : Hid (esC a b = 2) := Lib.hid (by simp [esC, *])
    have Ha := Lib.hid ha0
    clear ha0
    go_enter Try.func187, Try.ntmps187
    go_wp2_with (go_at_call 137; (first | (with_reducible refine (isNatural_no a _ Ha.out).mono ?_)); rintro e w' ⟨rfl, rfl⟩)
    go_ret2
    exact StepsCode.empty 2 e1.out e2.out (Below.refl _ _)
  rcases bool_fs (natB b) with hb0 | hb0
  · have e1 : Hid (esA a b = []) := Lib.hid (by simp [esA, *])
    have e2 : Hid (esC a b = 2) := Lib.hid (by simp [esC, *])
    have Ha := Lib.hid ha0
    have Hb := Lib.hid hb0
    clear ha0 hb0
    go_enter Try.func187, Try.ntmps187
    go_wp2_with (go_at_call 137; (first | (with_reducible refine (isNatural_yes a _ Ha.out).mono ?_) | (with_reducible refine (isNatural_no b _ Hb.out).mono ?_)); rintro e w' ⟨rfl, rfl⟩)
    go_ret2
    exact StepsCode.empty 2 e1.out e2.out (Below.refl _ _)
  have E1 : Hid (esA a b = steps a b) := Lib.hid (by simp [esA, *])
  have E2 : Hid (esC a b = 0) := Lib.hid (by simp [esC, *])
  have ha := natB_true.1 ha0
  have hb := natB_true.1 hb0
  have Ha := Lib.hid ha0
  have Hb := Lib.hid hb0
  clear ha0 hb0
  go_enter Try.func187, Try.ntmps187
  go_wp2_with (go_at_call 137; (first | (with_reducible refine (isNatural_yes a _ Ha.out).mono ?_) | (with_reducible refine (isNatural_yes b _ Hb.out).mono ?_)); rintro e w' ⟨rfl, rfl⟩)
  have HO : Hid (OwnSS w w.heap.size none 0 0 (fun _ => .slice none 0 0) two fun i => (stF [] i).map (.int .i64)) := Lib.hid (OwnSS.nil _ _ _ _ _)
  have hB0 : Below w.heap.size w w := Below.refl _ _

  go_loopw [0, 1, 6] (fun vx vy vo wr => ∃ (x y : Int) (j f : Nat) (L : List (Int × Int)) (A : Option Addr) (c : Nat) (vf : Nat → Value), (1 ≤ x ∧ x ≤ 1000000000) ∧ (0 ≤ y ∧ y ≤ 1000000000) ∧ (y.toNat < f ∧ j + f ≤ 1000000001) ∧ Hid (L.length = j) ∧ Hid (steps a b = L ++ stL f x y) ∧ vx = .int .i64 x ∧ vy = .int .i64 y ∧ vo = .slice A j c ∧ Hid (OwnSS wr w.heap.size A j c vf two fun i => (stF L i).map (.int .i64)) ∧ Below w.heap.size w wr) (fun _ vy _ _ => (intOf vy).toNat)
  case atStart => exact ⟨a, b, 0, b.toNat + 1, [], _, _, fun _ => .slice none 0 0, by omega, by omega, by omega, Lib.hid rfl, Lib.hid rfl, rfl, rfl, rfl, HO, hB0⟩
  case round =>
    obtain ⟨x, y, j, f, L, A, c, vf, hx, hy, hf, hl, hg, rfl, rfl, rfl, ho, hb⟩ := hrel
    obtain ⟨f, rfl⟩ : ∃ k, f = k + 1 := ⟨f - 1, by omega⟩
    by_cases hy0 : 0 < y
    rotate_left
    · obtain rfl : y = 0 := by omega
      have Z : Hid (steps a b = L) := Lib.hid (by rw [hg.out]; simp [stL])
      clear hg
      go_wp2
      go_ret2
      exact StepsCode.mk' (E1.out.trans Z.out) E2.out hl.out ho.out hb
    · have hm : 0 ≤ x % y ∧ x % y < y := ⟨Int.emod_nonneg _ (by omega), Int.emod_lt_of_pos _ hy0⟩
      have hq : 0 ≤ x / y ∧ x / y ≤ x := ⟨Int.ediv_nonneg (by omega) (by omega), Int.ediv_le_self _ (by omega)⟩
      have HG : Hid (steps a b = (L ++ [(x / y, y)]) ++ stL f y (x % y)) := Lib.hid (by
        rw [hg.out]; conv => lhs; unfold stL
        rw [if_neg (by omega)]; simp)
      clear hg
      obtain ⟨i0, hi0, hz0, hz1, hz2⟩ := info_parts ints_info
      go_wp2_with (at_builtin; refine wpList_append_own _ rfl _ _ 49 rfl w.heap.size 22 i0 (.slice none 0 0) 1 24 Try.underlying49 hi0 hz0 hz1 hz2 rfl ?_ _ j ((List.range j).map vf) rfl (World.ownsRow.alloc (World.ownsRow.alloc ho.out.outer _) _) ⟨wr.heap.size + 1, 0, none⟩ 1 1 [.slice (some ⟨wr.heap.size, 0, none⟩) 2 2] rfl rfl ?_ ?_ ?_ ?_ ?_ ?_; (decide); (exact World.news_of_block (cs := #[.slice (some ⟨wr.heap.size, 0, none⟩) 2 2]) (t := 22) (fr := (0, 0)) (heap_alloc2_new wr _ _)); (simp [Value.oneCell']); (simp only [maxLen]; omega); (omega); (have := hb.size; simp; omega); intro v1 w1 hown1 hgrow _; obtain ⟨A1, c1, rfl⟩ := Own.form29 hown1; have HO1 := Lib.hid (ho.out.push2 (.int .i64 (x / y)) (.int .i64 y) hb.size hown1 hgrow); have hb1 : Below w.heap.size w w1 := ((hb.alloc hb.size _).alloc (by have := hb.size; simp; omega) _).grown hgrow (by have := hb.size; simp; omega) (fun k hk => (World.ownsRow.lt ho.out.outer k hk).1); clear hown1 hgrow)
      go_quiet (fail)
      go_roundw
      case rel =>
        (repeat apply Exists.intro)
        refine ⟨⟨y, x % y, j + 1, f, L ++ [(x / y, y)], A1, c1, (fun i => if i = j then .slice (some ⟨wr.heap.size, 0, none⟩) 2 2 else vf i), by omega, by omega, by omega, Lib.hid (by simp [hl.out]), HG, rfl, rfl, rfl, Lib.hid ?_, below_drewN hb1 _⟩, rfl⟩
        have e : (fun i => (stF (L ++ [(x / y, y)]) i).map (Value.int .i64)) = fun i => if i = j then [.int .i64 (x / y), .int .i64 y] else (stF L i).map (.int .i64) := by
          funext i
          have hlj := hl.out
          by_cases e : i = j
          · subst e; rw [if_pos rfl]; simp [stF, ← hlj]
          · rw [if_neg e]
            by_cases e2 : i < j
            · simp [stF, List.getElem?_append_left (show i < L.length by omega)]
            · have e3 : (L ++ [(x / y, y)])[i]? = none := List.getElem?_eq_none (by simp; omega)
              have e4 : L[i]? = none := List.getElem?_eq_none (by omega)
              simp [stF, e3, e4]
        rw [e]
        exact HO1.out.drewN _
      case measure => simp [intOf]; omega
end Go.Proofs.Ytohbgfmjnanlkaa
/- slices.Clone on slices of int64: contracts. Conditions: stated at each theorem. -/
namespace Go.Proofs.Ytohbgfmjnanlkaa
open Go.ChangeShapes Go.WideShapes Go.ChangeAt Go.RowKit
set_option linter.unusedVariables false

theorem clone_any (v : Value) (zs : List Int) (w : World) (B : Nat) (h : ReadI w B v zs) (hn : zs.length ≤ 1099511627776) (hB : B ≤ w.heap.size) :
    Calls Try.prog 99 #[v] w fun e w' => ∃ v', e = .returned v' ∧ OwnI w' w.heap.size w'.heap.size v' zs ∧ Below w.heap.size w w' := by
  obtain ⟨n, A, c, rfl, hr, HL, HN, hnc, HF, hcm⟩ := h.split2
  rw [HL.out] at hn
  have H0 := Lib.hid hr
  clear hr h
  obtain ⟨i0, hi0, hz0, hz1, hz2⟩ := info_parts int_info
  have hnil := fun (w : World) (A : Option Addr) (n c : Nat) => Lib.run_eql_slice_nil (P := Try.prog) w 22 2 A n c 0 0 Try.underlying22
  cases A with
  | none =>
    obtain rfl : c = 0 := HN.out rfl
    obtain rfl : n = 0 := by omega
    have Z : zs = [] := List.eq_nil_of_length_eq_zero HL.out
    subst Z
    go_enter Try.func99, Try.ntmps99
    go_wp2
    go_ret
    exact ⟨_, rfl, OwnI.nil _ _, Below.refl _ _⟩
  | some a =>
    go_enter Try.func99, Try.ntmps99
    go_wp2_with (at_builtin; refine wpList_append_own _ rfl _ _ 22 rfl w.heap.size 2 i0 (.int .i64 0) 1 8 Try.underlying22 hi0 hz0 hz1 hz2 rfl (by decide) _ 0 [] rfl (World.ownsRow_made w #[] 0 (Nat.le_refl _) (by unfold maxLen; omega) rfl) a n c (zs.map (.int .i64)) rfl ?_ ?_ ?_ ?_ ?_ ?_ ?_; (simp [HL.out]); (exact row_cells H0.out HL.out hB); (exact ints_oneCell _ _); (unfold maxLen; omega); (omega); (simp); intro v1 w1 hown1 hgrow _)
    go_ret
    refine ⟨_, rfl, OwnI.mk' (n := n) ?_, ?_⟩
    · simp only [Nat.zero_add, List.nil_append] at hown1
      exact hown1
    · exact ((Below.refl _ _).alloc (Nat.le_refl _) _).grown hgrow (by simp) (fun k hk => by cases hk; exact Nat.le_refl _)

end Go.Proofs.Ytohbgfmjnanlkaa
