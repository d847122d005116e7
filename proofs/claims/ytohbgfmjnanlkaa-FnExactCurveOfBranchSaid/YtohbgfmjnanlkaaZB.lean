/- ZB: BrM BrI BrD BrS BrW BrJ BrA BrB BrV BrU BrT BrTi BrX BrY BrZ. Conditions: stated at each theorem. -/
import Derived.Test.YtohbgfmjnanlkaaZA
import Derived.Lib.SmallJoins
import Derived.Deep.QuietTactic
import Derived.BigQuiet
import Derived.Maps.AppendAt
import Derived.Deep.AppendLies
import Derived.Laws.AppendOwnNone
/- Branches: plain mathematics of chapter 3. Conditions: stated at each theorem. -/
namespace Go.Proofs.Ytohbgfmjnanlkaa
set_option linter.unusedVariables false

/-- The greatest common divisors, one number after the other. -/
def dvL (e : Int) : List Int → List Int
  | [] => []
  | z :: zs => (Int.gcd e z : Int) :: dvL (Int.gcd e z : Int) zs
/-- The numbers ascend, from b on, and are at most 2000. -/
def ascB (b : Int) : List Int → Bool
  | [] => true
  | z :: zs => decide (b < z ∧ z ≤ 2000) && ascB z zs
/-- The divisors change with each number, and end with 1. -/
def desB (e : Int) : List Int → Bool
  | [] => e == 1
  | z :: zs => decide ((Int.gcd e z : Int) ≠ e) && desB (Int.gcd e z : Int) zs
/-- Both. -/
def isB (p e : Int) : List Int → Bool
  | [] => e == 1
  | z :: zs => decide (p < z ∧ z ≤ 2000) && (decide ((Int.gcd e z : Int) ≠ e) && isB z (Int.gcd e z : Int) zs)
def mulB (z : Int) : Bool := decide (1 ≤ z ∧ z ≤ 64)
def dcB : List Int → Bool
  | [] => false
  | n :: r => mulB n && (ascB 0 r && desB n r)
def brB : List Int → Bool
  | [] => false
  | n :: r => mulB n && isB n n r
/-- Each number is another one than that before it. -/
def chgB : List Int → Bool
  | a :: b :: r => decide (b ≠ a) && chgB (b :: r)
  | _ => true

theorem mulB_true {z : Int} : mulB z = true ↔ 1 ≤ z ∧ z ≤ 64 := by unfold mulB; simp
theorem mulB_false {z : Int} : mulB z = false ↔ ¬(1 ≤ z ∧ z ≤ 64) := by unfold mulB; simp
theorem drop_at {zs : List Int} {n k : Nat} (hl : zs.length = n) (h : k < n) : zs.drop k = (zs[k]?.getD 0) :: zs.drop (k + 1) := by
  subst hl; rw [List.drop_eq_getElem_cons h]; simp [h]
theorem drop_end {zs : List Int} {n k : Nat} (hl : zs.length = n) (h : n ≤ k) : zs.drop k = [] := List.drop_eq_nil_of_le (by omega)

theorem isB_split (e : Int) : ∀ (p : Int) (zs : List Int), isB p e zs = (ascB p zs && desB e zs) := by
  intro p zs
  induction zs generalizing p e with
  | nil => simp [isB, ascB, desB]
  | cons z zs ih => simp only [isB, ascB, desB, ih]; cases decide (p < z ∧ z ≤ 2000) <;> cases ascB z zs <;> simp
theorem ascB_less {n : Int} (hn : 1 ≤ n) (z : Int) (zs : List Int) : ascB n (z :: zs) = (ascB 0 (z :: zs) && decide (n < z)) := by
  simp only [ascB]
  by_cases h : n < z
  · have h0 : 0 < z := by omega
    simp [h, h0]
  · simp [h]
theorem brB_one {n : Int} : brB [n] = dcB [n] := by simp [brB, dcB, isB, ascB, desB]
theorem brB_more {n z : Int} {r : List Int} : brB (n :: z :: r) = (dcB (n :: z :: r) && decide (n < z)) := by
  simp only [brB, dcB]
  cases hm : mulB n
  · simp
  · rw [isB_split, ascB_less (mulB_true.1 hm).1]
    cases ascB 0 (z :: r) <;> cases desB n (z :: r) <;> simp

theorem gcd_nat (e z : Int) : (0 : Int) ≤ (Int.gcd e z : Int) := Int.natCast_nonneg _
theorem gcd_le {e z : Int} (hz : 1 ≤ z) : 1 ≤ (Int.gcd e z : Int) ∧ (Int.gcd e z : Int) ≤ z := by
  have h1 : Int.gcd e z ≠ 0 := by intro h; have := (Int.gcd_eq_zero_iff.1 h).2; omega
  have h2 : (Int.gcd e z : Int) ∣ z := Int.gcd_dvd_right _ _
  exact ⟨by omega, Int.le_of_dvd (by omega) h2⟩
theorem gcd_le_left {e z : Int} (he : 1 ≤ e) : 1 ≤ (Int.gcd e z : Int) ∧ (Int.gcd e z : Int) ≤ e := by
  rw [Int.gcd_comm]; exact gcd_le he
theorem dvL_len (e : Int) (zs : List Int) : (dvL e zs).length = zs.length := by
  induction zs generalizing e with
  | nil => rfl
  | cons z zs ih => simp [dvL, ih]
theorem ascB_all {b : Int} {zs : List Int} (h : ascB b zs = true) : ∀ z ∈ zs, b < z ∧ z ≤ 2000 := by
  induction zs generalizing b with
  | nil => intro z hz; cases hz
  | cons y ys ih =>
    simp only [ascB, Bool.and_eq_true, decide_eq_true_eq] at h
    intro z hz
    rcases List.mem_cons.1 hz with rfl | hz
    · exact h.1
    · have := ih h.2 z hz; omega
theorem dcB_parts {zs : List Int} (h : dcB zs = true) : ∃ n r, zs = n :: r ∧ (1 ≤ n ∧ n ≤ 64) ∧ ascB 0 r = true ∧ desB n r = true := by
  cases zs with
  | nil => cases h
  | cons n r =>
    simp only [dcB, Bool.and_eq_true] at h
    exact ⟨n, r, rfl, mulB_true.1 h.1, h.2.1, h.2.2⟩
theorem dcB_range {zs : List Int} (h : dcB zs = true) : ∀ z ∈ zs, 1 ≤ z ∧ z ≤ 2000 := by
  obtain ⟨n, r, rfl, hn, ha, _⟩ := dcB_parts h
  intro z hz
  rcases List.mem_cons.1 hz with rfl | hz
  · omega
  · have := ascB_all ha z hz; omega
theorem brB_dcB {zs : List Int} (h : brB zs = true) : dcB zs = true := by
  cases zs with
  | nil => cases h
  | cons n r =>
    cases r with
    | nil => rw [brB_one] at h; exact h
    | cons z r => rw [brB_more] at h; simp only [Bool.and_eq_true] at h; exact h.1
theorem brB_pos {zs : List Int} (h : brB zs = true) : 0 < zs.length := by cases zs with | nil => cases h | cons => simp
theorem chg_cons (e : Int) (zs : List Int) : chgB (e :: dvL e zs) = true ∧ (e :: dvL e zs).getLast? = some 1 ↔ desB e zs = true := by
  induction zs generalizing e with
  | nil => simp [chgB, dvL, desB]
  | cons z zs ih =>
    have h := ih (Int.gcd e z : Int)
    have e1 : (e :: dvL e (z :: zs)).getLast? = ((Int.gcd e z : Int) :: dvL (Int.gcd e z : Int) zs).getLast? := by simp [dvL, List.getLast?_cons_cons]
    rw [e1]
    simp only [dvL, chgB, desB, Bool.and_eq_true, decide_eq_true_eq, and_assoc]
    rw [← h]
theorem dvL_first {n : Int} (hn : 1 ≤ n) (r : List Int) : dvL 0 (n :: r) = n :: dvL n r := by
  have : (Int.gcd 0 n : Int) = n := by simp; omega
  simp only [dvL, this]
theorem dcB_split {n : Int} {r : List Int} : dcB (n :: r) = (mulB n && (ascB 0 r && (chgB (dvL 0 (n :: r)) && decide ((dvL 0 (n :: r)).getLast? = some 1)))) := by
  simp only [dcB]
  cases hm : mulB n
  · simp
  · rw [dvL_first (mulB_true.1 hm).1]
    have := chg_cons n r
    cases hd : desB n r
    · have h2 : ¬(chgB (n :: dvL n r) = true ∧ (n :: dvL n r).getLast? = some 1) := fun h => by rw [this.1 h] at hd; cases hd
      cases hc : chgB (n :: dvL n r)
      · simp
      · have h3 : ¬ (n :: dvL n r).getLast? = some 1 := fun h => h2 ⟨hc, h⟩
        simp [h3]
    · have h2 := this.2 hd
      simp [h2.1, h2.2]
theorem chg_at {L : List Int} {n k : Nat} (hl : L.length = n) (h : k + 1 < n) : chgB (L.drop k) = (decide (L[k + 1]?.getD 0 ≠ L[k]?.getD 0) && chgB (L.drop (k + 1))) := by
  rw [drop_at hl (by omega), drop_at hl h]
  simp only [chgB]
theorem chg_end {L : List Int} {n k : Nat} (hl : L.length = n) (h : n ≤ k + 1) : chgB (L.drop k) = true := by
  have : (L.drop k).length ≤ 1 := by simp; omega
  match hd : L.drop k with
  | [] => rfl
  | [a] => rfl
  | a :: b :: r => rw [hd] at this; simp at this
theorem last_at {L : List Int} {n : Nat} (hl : L.length = n) (h : 0 < n) : L.getLast? = some (L[n - 1]?.getD 0) := by
  subst hl
  rw [List.getLast?_eq_getElem?]
  simp [show L.length - 1 < L.length by omega]
theorem gcd_range {e z : Int} (he : 0 ≤ e ∧ e ≤ 2000) (hz : 1 ≤ z ∧ z ≤ 2000) : 0 ≤ (Int.gcd e z : Int) ∧ (Int.gcd e z : Int) ≤ 2000 := by
  have := gcd_le (e := e) hz.1; omega
theorem dvL_rangeE {zs : List Int} : ∀ {e : Int}, (0 ≤ e ∧ e ≤ 2000) → (∀ z ∈ zs, 1 ≤ z ∧ z ≤ 2000) → ∀ z ∈ dvL e zs, 0 ≤ z ∧ z ≤ 2000 := by
  induction zs with
  | nil => intro e _ _ z hz; cases hz
  | cons y ys ih =>
    intro e he h z hz
    have h1 := gcd_range he (h y (List.mem_cons_self ..))
    rcases List.mem_cons.1 hz with rfl | hz
    · exact h1
    · exact ih h1 (fun x hx => h x (List.mem_cons_of_mem _ hx)) z hz
theorem dvL_range {zs : List Int} (h : ∀ z ∈ zs, 1 ≤ z ∧ z ≤ 2000) : ∀ z ∈ dvL 0 zs, 0 ≤ z ∧ z ≤ 2000 := dvL_rangeE (by omega) h
theorem range_of {D : List Int} (h : ∀ z ∈ D, 0 ≤ z ∧ z ≤ 2000) (k : Nat) : 0 ≤ D[k]?.getD 0 ∧ D[k]?.getD 0 ≤ 2000 := by
  by_cases hk : k < D.length
  · have := h D[k] (List.getElem_mem _); simpa [hk] using this
  · simp [List.getElem?_eq_none (show D.length ≤ k by omega)]
end Go.Proofs.Ytohbgfmjnanlkaa
/- Branches, the program's side: contracts of impl.isMultiplicity, impl.isTerm, impl.areExponents, impl.divisorsOfTerms. Conditions: stated at each theorem. -/
namespace Go.Proofs.Ytohbgfmjnanlkaa
open Go.ChangeShapes Go.WideShapes Go.ChangeAt Go.RowKit
set_option linter.unusedVariables false

theorem isMul_any (z : Int) (w : World) :
    Calls Try.prog 183 #[.int .i64 z] w fun e w' => e = .returned (.bool (mulB z)) ∧ w = w' := by
  by_cases h1 : 1 ≤ z
  · by_cases h2 : z ≤ 64
    · have hb : mulB z = true := mulB_true.2 ⟨h1, h2⟩
      rw [hb]; clear hb
      go_enter Try.func183, Try.ntmps183
      go_wp2
      go_ret
      exact ⟨rfl, rfl⟩
    · have hb : mulB z = false := mulB_false.2 (by omega)
      rw [hb]; clear hb
      go_enter Try.func183, Try.ntmps183
      go_wp2
      go_ret
      exact ⟨rfl, rfl⟩
  · have hb : mulB z = false := mulB_false.2 (by omega)
    rw [hb]; clear hb
    go_enter Try.func183, Try.ntmps183
    go_wp2
    go_ret
    exact ⟨rfl, rfl⟩
theorem isMul_yes (z : Int) (w : World) (h : mulB z = true) :
    Calls Try.prog 183 #[.int .i64 z] w fun e w' => e = .returned (.bool true) ∧ w = w' := by
  have := isMul_any z w; rwa [h] at this
theorem isMul_no (z : Int) (w : World) (h : mulB z = false) :
    Calls Try.prog 183 #[.int .i64 z] w fun e w' => e = .returned (.bool false) ∧ w = w' := by
  have := isMul_any z w; rwa [h] at this

theorem ret_boolB {a b : Bool} (h : a = b) : Ending.returned (.bool a) = .returned (.bool b) := by rw [h]
theorem areExp_any (A : Option Addr) (n c : Nat) (zs : List Int) (w : World) (B : Nat) (hr : RI w B A n zs) (hl : zs.length = n) (hn : n ≤ 9223372036854775807) (hw : ∀ z ∈ zs, (Lit.int .i64 z).wf = true) :
    Calls Try.prog 184 #[.slice A n c] w fun e w' => e = .returned (.bool (ascB 0 zs)) ∧ w = w' := by
  have H0 := Lib.hid hr
  have HW := Lib.hid hw
  have HL := Lib.hid hl
  obtain ⟨b, hb⟩ : ∃ b, b = ascB 0 zs := ⟨_, rfl⟩
  rw [← hb]
  have HB := Lib.hid hb
  clear hb hr hw hl
  go_enter Try.func184, Try.ntmps184
  go_wp2
  go_loop [3, 8] (fun vb vi => ∃ (k : Nat) (y : Int), k ≤ n ∧ (0 ≤ y ∧ y ≤ 9223372036854775807) ∧ vb = .int .i64 y ∧ vi = .int .i64 k ∧ Hid (b = ascB y (zs.drop k))) (fun _ vi => n - (intOf vi).toNat)
  case atStart => exact ⟨0, 0, by omega, by omega, rfl, rfl, HB⟩
  case round =>
    obtain ⟨k, y, hk, hy, rfl, rfl, hg⟩ := hrel
    by_cases hlt : k < n
    · obtain ⟨a, rfl, _, hcell0⟩ := H0.out.2 k hlt
      have hz := range_i64 HW.out k
      have HG : Hid (b = (decide (y < zs[k]?.getD 0 ∧ zs[k]?.getD 0 ≤ 2000) && ascB (zs[k]?.getD 0) (zs.drop (k + 1)))) := Lib.hid (by rw [hg.out, drop_at HL.out hlt]; rfl)
      have hcell1 : w.cell? (a.add k) = some (.int .i64 (zs[k]?.getD 0)) := by simpa using hcell0
      generalize zs[k]?.getD 0 = z at *
      clear hcell0
      by_cases h1 : y < z
      · by_cases h2 : z ≤ 2000
        · have HG2 : Hid (b = ascB z (zs.drop (k + 1))) := Lib.hid (by rw [HG.out]; simp [h1, h2])
          go_wp2
          go_round
          case rel => exact ⟨k + 1, z, by omega, by omega, rfl, by go_num, HG2⟩
          case measure => simp [intOf]; omega
        · have R : Hid (false = b) := Lib.hid (by rw [HG.out]; simp [h2])
          go_wp2
          go_ret
          exact ⟨ret_boolB R.out, rfl⟩
      · have R : Hid (false = b) := Lib.hid (by rw [HG.out]; simp [h1])
        go_wp2
        go_ret
        exact ⟨ret_boolB R.out, rfl⟩
    · obtain rfl : k = n := by omega
      have R : Hid (true = b) := Lib.hid (by rw [hg.out, drop_end HL.out (Nat.le_refl _)]; rfl)
      go_wp2
      go_ret
      exact ⟨ret_boolB R.out, rfl⟩

theorem row_ownB {w : World} {g n lo : Nat} {zs : List Int} (h : w.rowIs g 2 n (fun x => if x < n then .int .i64 (zs.getD x 0) else .int .i64 0)) (hl : zs.length = n) (hlo : lo ≤ g) (hn : n ≤ 9223372036854775807) :
    OwnI w lo w.heap.size (.slice (some ⟨g, 0, none⟩) n n) zs := by
  obtain ⟨cs, h1, h2, h3⟩ := h
  refine OwnI.mk' (n := n) ⟨by simp [hl], .inr ⟨g, n, cs, rfl, hlo, h1, Nat.le_refl _, by unfold maxLen; omega, by omega, ?_⟩⟩
  apply List.ext_getElem?
  intro i
  by_cases hi : i < n
  · have := h3 i hi
    simp only [Nat.mul_one, List.getElem?_take, hi, if_true, Array.getElem?_toList, this]
    simp [hl, hi]
  · rw [List.getElem?_eq_none (by simp; omega), List.getElem?_eq_none (by simp; omega)]

set_option maxRecDepth 100000 in
theorem divisors_any (v : Value) (zs : List Int) (w : World) (B : Nat) (h : ReadI w B v zs) (hn : zs.length ≤ 1048576) (hB : B ≤ w.heap.size) (hz : ∀ z ∈ zs, 1 ≤ z ∧ z ≤ 2000) :
    Calls Try.prog 185 #[v] w fun e w' => ∃ v', e = .returned v' ∧ v' = .slice (some ⟨w.heap.size, 0, none⟩) zs.length zs.length ∧ OwnI w' w.heap.size w'.heap.size v' (dvL 0 zs) ∧ Below w.heap.size w w' := by
  obtain ⟨n, A, c, rfl, hr, HL⟩ := h.split
  rw [HL.out] at hn
  have H0 := Lib.hid hr
  have HZ := Lib.hid hz
  clear hr h hz
  have hmk := fun (W : World) => run_make_row' (P := Try.prog) 22 2 (.int .i64 0) 8 Try.underlying22 int_info rfl .i64 .i64 n (by omega) (by omega) W
  go_enter Try.func185, Try.ntmps185
  go_wp2
  clear hmk
  go_loopw [4, 12] (fun ve vi wr => ∃ (k : Nat) (y : Int) (L : List Int), k ≤ n ∧ (0 ≤ y ∧ y ≤ 2000) ∧ ve = .int .i64 y ∧ vi = .int .i64 k ∧ Hid (L.length = k) ∧ Hid (dvL 0 zs = L ++ dvL y (zs.drop k)) ∧ Hid (wr.rowIs w.heap.size 2 n (fun x => if x < k then .int .i64 ((dvL 0 zs).getD x 0) else .int .i64 0)) ∧ Hid (Below w.heap.size w wr)) (fun _ vi _ => n - (intOf vi).toNat)
  case atStart => exact ⟨0, 0, [], by omega, by omega, rfl, rfl, Lib.hid rfl, Lib.hid rfl, Lib.hid ((World.rowIs_made w _ n _).congr (fun i hi => by simp)), Lib.hid ((Below.refl _ _).alloc (Nat.le_refl _) _)⟩
  case round =>
    obtain ⟨k, y, L, hk, hy, rfl, rfl, hL, hg, hrow, hb⟩ := hrel
    by_cases hlt : k < n
    · obtain ⟨a, rfl, hab, hcell0⟩ := H0.out.2 k hlt
      have hz1 := HZ.out (zs[k]?.getD 0) (by have := HL.out; simp [show k < zs.length by omega])
      have HG : Hid (dvL 0 zs = (L ++ [(Int.gcd y (zs[k]?.getD 0) : Int)]) ++ dvL (Int.gcd y (zs[k]?.getD 0) : Int) (zs.drop (k + 1))) := Lib.hid (by rw [hg.out, drop_at HL.out hlt]; simp [dvL])
      have hcell1 : wr.cell? (a.add k) = some (.int .i64 (zs[k]?.getD 0)) := by rw [hb.out.cell (by rw [add_block]; omega)]; simpa using hcell0
      generalize zs[k]?.getD 0 = z at *
      have hgl := gcd_le (e := y) (z := z) hz1.1
      have HD : Hid ((dvL 0 zs).getD k 0 = (Int.gcd y z : Int)) := Lib.hid (by have := hL.out; subst this; rw [HG.out]; simp)
      have hdst := hrow.out.cell hlt
      simp only [Nat.lt_irrefl, if_false] at hdst
      have hfz := hrow.out.frozen k
      clear hcell0 hg
      go_wp2_with (go_at_call 138; refine (greatest_any _ _ _ (by omega) (by omega) (by omega) (by omega)).mono ?_; rintro e w' ⟨rfl, nd, rfl⟩)
      go_roundw
      case rel =>
        refine ⟨k + 1, _, L ++ [(Int.gcd y z : Int)], by omega, by omega, rfl, by go_num, Lib.hid (by simp [hL.out]), HG, Lib.hid ((hrow.out.set k _).congr fun j hj => ?_), Lib.hid ((below_drewN hb.out nd).setCell (Nat.le_refl _) _)⟩
        by_cases h1 : j = k
        · subst h1; simp only [if_true, show j < j + 1 by omega]; rw [HD.out]
        · by_cases h2 : j < k
          · simp only [h1, h2, if_false, if_true, show j < k + 1 by omega]
          · simp only [h1, h2, if_false, show ¬ j < k + 1 by omega]
      case measure => simp [intOf]; omega
    · obtain rfl : k = n := by omega
      have HNL : Hid ((dvL 0 zs).length = k) := Lib.hid (by rw [dvL_len, HL.out])
      go_wp2
      go_ret
      exact ⟨_, rfl, by rw [HL.out]; rfl, row_ownB hrow.out HNL.out (Nat.le_refl _) (by omega), hb.out⟩
end Go.Proofs.Ytohbgfmjnanlkaa
/- Branches, the program's side: contracts of impl.descendsToOne and impl.IsBranch. Conditions: stated at each theorem. -/
namespace Go.Proofs.Ytohbgfmjnanlkaa
open Go.ChangeShapes Go.WideShapes Go.ChangeAt Go.RowKit
set_option linter.unusedVariables false

theorem RI.tail {w : World} {B n g o : Nat} {z : Int} {zs : List Int} (h : RI w B (some ⟨g, o, none⟩) (n + 1) (z :: zs)) : RI w B (some ⟨g, o + 1, none⟩) n zs :=
  ⟨by have := h.1; simpa using this, fun k hk => by
    obtain ⟨a, e, hlt, hc⟩ := h.2 (k + 1) (by omega)
    cases e
    refine ⟨_, rfl, hlt, ?_⟩
    have e2 : (⟨g, o, none⟩ : Addr).add (k + 1) = (⟨g, o + 1, none⟩ : Addr).add k := by unfold Addr.add; split <;> simp_all [Nat.add_left_comm, Nat.add_comm]
    rw [← e2, hc]; simp [List.getD]⟩

theorem first_tail {w : World} {B m g o x : Nat} {r : List Int} (h : RI w B (some ⟨g, o + 1, none⟩) m r) (hx : x = o + 1 ∨ m ≤ 0) : RI w B (some ⟨g, x, none⟩) m r := by
  rcases hx with rfl | h0
  · exact h
  · exact ⟨h.1, fun k hk => by omega⟩

set_option maxHeartbeats 1000000 in
set_option maxRecDepth 100000 in
theorem descends_any (v : Value) (zs : List Int) (w : World) (h : ReadI w w.heap.size v zs) (hn : zs.length ≤ 1048576) (hw : ∀ z ∈ zs, (Lit.int .i64 z).wf = true) :
    Calls Try.prog 156 #[v] w fun e w' => e = .returned (.bool (dcB zs)) ∧ Below w.heap.size w w' := by
  have h' := h
  obtain ⟨n, A, c, rfl, hr, HL, HN, hnc, HF, hcm⟩ := h.split2
  cases zs with
  | nil =>
    obtain rfl : n = 0 := HL.out.symm
    have R : Hid (false = dcB []) := Lib.hid rfl
    clear hr HF h' h
    go_enter Try.func156, Try.ntmps156
    go_wp2
    go_ret
    exact ⟨ret_boolB R.out, Below.refl _ _⟩
  | cons z0 r =>
    obtain ⟨m, rfl⟩ : ∃ m, n = m + 1 := ⟨n - 1, by have := HL.out; simp at this; omega⟩
    have hm : m + 1 ≤ 1048576 := by have := HL.out; omega
    obtain ⟨a, rfl, hlt, hc0⟩ := hr.2 0 (by omega)
    obtain ⟨g, o, rfl⟩ := HF.out a rfl
    have hcell : w.cell? ⟨g, o, none⟩ = some (.int .i64 z0) := by simpa [Addr.add] using hc0
    have HT := Lib.hid hr.tail
    have HRd := Lib.hid h'
    have hz := range_i64 hw 0
    have HWr : Hid (∀ z ∈ r, (Lit.int .i64 z).wf = true) := Lib.hid fun z hz => hw z (List.mem_cons_of_mem _ hz)
    have HLr : Hid (r.length = m) := Lib.hid (by have := HL.out; simpa using this)
    simp only [List.getElem?_cons_zero, Option.getD_some] at hz
    clear hr h' h hc0 HF hw
    obtain ⟨b, hb⟩ : ∃ b, b = dcB (z0 :: r) := ⟨_, rfl⟩
    rw [← hb]
    have HB := Lib.hid hb
    clear hb
    cases hmu : mulB z0
    · have R : Hid (false = b) := Lib.hid (by rw [HB.out]; simp [dcB, hmu])
      have HM := Lib.hid hmu
      clear hmu
      go_enter Try.func156, Try.ntmps156
      go_wp2_with fail
      refine (isMul_no _ _ HM.out).mono ?_
      rintro e w' ⟨rfl, rfl⟩
      go_wp2_with fail
      go_ret
      exact ⟨ret_boolB R.out, Below.refl _ _⟩
    cases has : ascB 0 r
    · have R : Hid (false = b) := Lib.hid (by rw [HB.out]; simp [dcB, has])
      have HM := Lib.hid hmu
      have HA := Lib.hid has
      clear hmu has
      rcases Nat.eq_zero_or_pos m with hm0 | hm1
      · obtain rfl : m = 0 := hm0
        rcases Nat.lt_or_ge c 2 with hc1 | hc1
        · obtain rfl : c = 1 := by omega
          go_enter Try.func156, Try.ntmps156
          go_wp2_with fail
          refine (isMul_yes _ _ HM.out).mono ?_
          rintro e w' ⟨rfl, rfl⟩
          go_wp2_with fail
          refine (areExp_any _ _ _ r _ w.heap.size (first_tail HT.out (Or.inr (Nat.le_refl _))) HLr.out (Nat.zero_le _) HWr.out).mono ?_
          rw [HA.out]
          rintro e w' ⟨rfl, rfl⟩
          go_wp2_with fail
          go_ret
          exact ⟨ret_boolB R.out, Below.refl _ _⟩
        · have hc2 : ¬ c - 1 = 0 := by omega
          go_enter Try.func156, Try.ntmps156
          go_wp2_with fail
          refine (isMul_yes _ _ HM.out).mono ?_
          rintro e w' ⟨rfl, rfl⟩
          go_wp2_with fail
          refine (areExp_any _ _ _ r _ w.heap.size (first_tail HT.out (Or.inr (Nat.le_refl _))) HLr.out (Nat.zero_le _) HWr.out).mono ?_
          rw [HA.out]
          rintro e w' ⟨rfl, rfl⟩
          go_wp2_with fail
          go_ret
          exact ⟨ret_boolB R.out, Below.refl _ _⟩
      · have hc2 : ¬ c - 1 = 0 := by omega
        have hm2 : ¬ m = 0 := by omega
        have hc3 : 2 ≤ c := by omega
        go_enter Try.func156, Try.ntmps156
        go_wp2_with fail
        refine (isMul_yes _ _ HM.out).mono ?_
        rintro e w' ⟨rfl, rfl⟩
        go_wp2_with fail
        refine (areExp_any _ m _ r _ w.heap.size (first_tail HT.out (by first | (left; rfl) | (right; omega))) HLr.out (by omega) HWr.out).mono ?_
        rw [HA.out]
        rintro e w' ⟨rfl, rfl⟩
        go_wp2_with fail
        go_ret
        exact ⟨ret_boolB R.out, Below.refl _ _⟩
    have E : Hid (b = (chgB (dvL 0 (z0 :: r)) && decide ((dvL 0 (z0 :: r)).getLast? = some 1))) := Lib.hid (by rw [HB.out, dcB_split, hmu, has]; simp)
    have HZ : Hid (∀ z ∈ z0 :: r, 1 ≤ z ∧ z ≤ 2000) := Lib.hid (fun z hz => by
      rcases List.mem_cons.1 hz with rfl | hz
      · have := mulB_true.1 hmu; omega
      · have := ascB_all has z hz; omega)
    have HM := Lib.hid hmu
    have HA := Lib.hid has
    have HLD : Hid ((dvL 0 (z0 :: r)).length = m + 1) := Lib.hid (by rw [dvL_len, HL.out])
    clear hmu has HB
    have hn2 := hn
    generalize hzz : z0 :: r = zs at *
    have hd0 : ∀ z ∈ dvL 0 zs, 0 ≤ z ∧ z ≤ 2000 := dvL_range HZ.out
    have HD := fun (W : World) (c : Nat) (h1 : ReadI W W.heap.size (.slice (some ⟨g, o, none⟩) (m + 1) c) zs) => hid_in (divisors_any _ zs W W.heap.size h1 hn2 (Nat.le_refl _) HZ.out)
    generalize dvL 0 zs = D at *
    have HDR := Lib.hid hd0
    clear hzz hn hn2 hd0
    rcases Nat.eq_zero_or_pos m with hm0 | hm1
    · obtain rfl : m = 0 := hm0
      rcases Nat.lt_or_ge c 2 with hc1 | hc1
      · obtain rfl : c = 1 := by omega
        go_enter Try.func156, Try.ntmps156
        go_wp2_with fail
        refine (isMul_yes _ _ HM.out).mono ?_
        rintro e w' ⟨rfl, rfl⟩
        go_wp2_with fail
        refine (areExp_any _ _ _ r _ w.heap.size (first_tail HT.out (Or.inr (Nat.le_refl _))) HLr.out (Nat.zero_le _) HWr.out).mono ?_
        rw [HA.out]
        rintro e w' ⟨rfl, rfl⟩
        go_wp2_with fail
        refine (hid_out (HD w _ HRd.out)).mono ?_
        rintro e w1 ⟨v1, rfl, hv1, ho, hb⟩
        rw [HL.out] at hv1
        subst hv1
        have O1 := Lib.hid ho
        have B1 := Lib.hid hb
        clear ho hb
        go_wp2_with fail
        obtain ⟨g1, e1, _, _, hc1, _⟩ := own_at O1.out HLD.out (show 0 < 0 + 1 by omega)
        cases e1
        have hx := range_of HDR.out 0
        have E2 : Hid (b = decide (D[0]?.getD 0 = 1)) := Lib.hid (by rw [E.out, show chgB D = true from chg_end (k := 0) HLD.out (by omega), last_at HLD.out (by omega)]; simp)
        generalize D[0]?.getD 0 = x at *
        have R : Hid ((x == 1) = b) := Lib.hid (by rw [E2.out]; by_cases h : x = 1 <;> simp [h])
        go_loop [27] (fun vi => vi = .int .i64 0) (fun vi => 0)
        case atStart => rfl
        case round =>
          obtain rfl := hrel
          go_wp2
          go_ret
          exact ⟨ret_boolB R.out, B1.out⟩
      · have hc2 : ¬ c - 1 = 0 := by omega
        go_enter Try.func156, Try.ntmps156
        go_wp2_with fail
        refine (isMul_yes _ _ HM.out).mono ?_
        rintro e w' ⟨rfl, rfl⟩
        go_wp2_with fail
        refine (areExp_any _ _ _ r _ w.heap.size (first_tail HT.out (Or.inr (Nat.le_refl _))) HLr.out (Nat.zero_le _) HWr.out).mono ?_
        rw [HA.out]
        rintro e w' ⟨rfl, rfl⟩
        go_wp2_with fail
        refine (hid_out (HD w _ HRd.out)).mono ?_
        rintro e w1 ⟨v1, rfl, hv1, ho, hb⟩
        rw [HL.out] at hv1
        subst hv1
        have O1 := Lib.hid ho
        have B1 := Lib.hid hb
        clear ho hb
        go_wp2_with fail
        obtain ⟨g1, e1, _, _, hc1, _⟩ := own_at O1.out HLD.out (show 0 < 0 + 1 by omega)
        cases e1
        have hx := range_of HDR.out 0
        have E2 : Hid (b = decide (D[0]?.getD 0 = 1)) := Lib.hid (by rw [E.out, show chgB D = true from chg_end (k := 0) HLD.out (by omega), last_at HLD.out (by omega)]; simp)
        generalize D[0]?.getD 0 = x at *
        have R : Hid ((x == 1) = b) := Lib.hid (by rw [E2.out]; by_cases h : x = 1 <;> simp [h])
        go_loop [27] (fun vi => vi = .int .i64 0) (fun vi => 0)
        case atStart => rfl
        case round =>
          obtain rfl := hrel
          go_wp2
          go_ret
          exact ⟨ret_boolB R.out, B1.out⟩
    · have hc2 : ¬ c - 1 = 0 := by omega
      have hm2 : ¬ m = 0 := by omega
      have hc3 : 2 ≤ c := by omega
      go_enter Try.func156, Try.ntmps156
      go_wp2_with fail
      refine (isMul_yes _ _ HM.out).mono ?_
      rintro e w' ⟨rfl, rfl⟩
      go_wp2_with fail
      refine (areExp_any _ m _ r _ w.heap.size (first_tail HT.out (by first | (left; rfl) | (right; omega))) HLr.out (by omega) HWr.out).mono ?_
      rw [HA.out]
      rintro e w' ⟨rfl, rfl⟩
      go_wp2_with fail
      refine (hid_out (HD w _ HRd.out)).mono ?_
      rintro e w1 ⟨v1, rfl, hv1, ho, hb⟩
      rw [HL.out] at hv1
      subst hv1
      have O1 := Lib.hid ho
      have B1 := Lib.hid hb
      clear ho hb
      go_wp2_with fail
      go_loop [27] (fun vi => ∃ (k : Nat), k ≤ m ∧ vi = .int .i64 k ∧ Hid (chgB D = chgB (D.drop k))) (fun vi => m - (intOf vi).toNat)
      case atStart => exact ⟨0, by omega, rfl, Lib.hid rfl⟩
      case round =>
        obtain ⟨k, hk, rfl, hg⟩ := hrel
        by_cases hlt : k < m
        · obtain ⟨g1, e1, _, _, hc1, _⟩ := own_at O1.out HLD.out (show k < m + 1 by omega)
          obtain ⟨g2, e2, _, _, hc2, _⟩ := own_at O1.out HLD.out (show k + 1 < m + 1 by omega)
          cases e1
          cases e2
          have HG : Hid (chgB D = (decide (D[k + 1]?.getD 0 ≠ D[k]?.getD 0) && chgB (D.drop (k + 1)))) := Lib.hid (by rw [hg.out, chg_at HLD.out (by omega)])
          have hx := range_of HDR.out k
          have hy := range_of HDR.out (k + 1)
          have hc2' : w1.cell? ⟨w.heap.size, 1 + k, none⟩ = some (.int .i64 (D[k + 1]?.getD 0)) := by rw [Nat.add_comm 1 k]; exact hc2
          generalize D[k + 1]?.getD 0 = y at *
          generalize D[k]?.getD 0 = x at *
          by_cases hxy : y = x
          · have R : Hid (false = b) := Lib.hid (by rw [E.out, HG.out]; simp [hxy])
            subst hxy
            go_wp2
            go_ret
            exact ⟨ret_boolB R.out, B1.out⟩
          · have HG2 : Hid (chgB D = chgB (D.drop (k + 1))) := Lib.hid (by rw [HG.out]; simp [hxy])
            have hT : (y == x) = false := by simpa using hxy
            go_wp2
            go_round
            case rel => exact ⟨k + 1, by omega, by go_num, HG2⟩
            case measure => simp [intOf]; omega
        · obtain rfl : k = m := by omega
          obtain ⟨g1, e1, _, _, hc1, _⟩ := own_at O1.out HLD.out (show k < k + 1 by omega)
          cases e1
          have hx := range_of HDR.out k
          have E2 : Hid (b = decide (D[k]?.getD 0 = 1)) := Lib.hid (by rw [E.out, hg.out, chg_end HLD.out (by omega), last_at HLD.out (by omega)]; simp)
          generalize D[k]?.getD 0 = x at *
          have hk1 : ((k + 1 : Nat) : Int) - 1 = (k : Int) := by omega
          have R : Hid ((x == 1) = b) := Lib.hid (by rw [E2.out]; by_cases h : x = 1 <;> simp [h])
          go_wp2
          go_ret
          exact ⟨ret_boolB R.out, B1.out⟩
end Go.Proofs.Ytohbgfmjnanlkaa
/- Branches, the model's side: contracts of spec.l03Is. Conditions: stated at each theorem. -/
namespace Go.Proofs.Ytohbgfmjnanlkaa
open Go.ChangeShapes Go.WideShapes Go.ChangeAt Go.RowKit
set_option linter.unusedVariables false

theorem brB_isB {z : Int} {r : List Int} (h : mulB z = true) : brB (z :: r) = isB z z r := by simp [brB, h]
theorem isB_step {p e z : Int} {r : List Int} : isB p e (z :: r) = (decide (p < z ∧ z ≤ 2000) && (decide ((Int.gcd e z : Int) ≠ e) && isB z (Int.gcd e z : Int) r)) := rfl
theorem quietN {n l h : Int} {w : World} {q : Nat} (h1 : ¬ (l ≤ n ∧ n ≤ h)) :
    Calls Try.prog 60 #[.int .i64 n, .int .i64 l, .int .i64 h] (w.drewN q) fun e w'' => e = .returned (.bool false) ∧ ∃ m, w'' = w.drewN m :=
  (inN n l h _ h1).mono fun e w' ⟨he, hw⟩ => ⟨he, q, hw.symm⟩
theorem quietY {n l h : Int} {w : World} {q : Nat} (h1 : l ≤ n) (h2 : n ≤ h) :
    Calls Try.prog 60 #[.int .i64 n, .int .i64 l, .int .i64 h] (w.drewN q) fun e w'' => e = .returned (.bool true) ∧ ∃ m, w'' = w.drewN m :=
  (inY n l h _ h1 h2).mono fun e w' ⟨he, hw⟩ => ⟨he, q, hw.symm⟩
theorem add_lit (g o k : Nat) : (⟨g, o, none⟩ : Addr).add k = ⟨g, o + k, none⟩ := by unfold Addr.add; split <;> simp_all
theorem below_box (w : World) (o : Obj) : Below w.heap.size w (w.alloc o) := (Below.refl _ _).alloc (Nat.le_refl _) o

set_option maxHeartbeats 1000000 in
set_option maxRecDepth 100000 in
theorem l03Is_any (v : Value) (zs : List Int) (w : World) (h : ReadI w w.heap.size v zs) (hn : zs.length ≤ 1048576) (hw : ∀ z ∈ zs, (Lit.int .i64 z).wf = true) :
    Calls Try.prog 59 #[.agg #[v]] w fun e w' => e = .returned (.bool (brB zs)) ∧ Below w.heap.size w w' := by
  obtain ⟨n, A, c, rfl, hr, HL, HN, hnc, HF, hcm⟩ := h.split2
  rw [HL.out] at hn
  cases zs with
  | nil =>
    obtain rfl : n = 0 := HL.out.symm
    clear hr HF h
    go_enter Try.func59, Try.ntmps59
    go_wp2
    go_ret
    exact ⟨rfl, below_box _ _⟩
  | cons z0 r =>
    have hn0 : 0 < n := by have := HL.out; simp at this; omega
    obtain ⟨a, rfl, hlt, hc0⟩ := hr.2 0 hn0
    obtain ⟨g, o, rfl⟩ := HF.out a rfl
    have HW := Lib.hid hw
    have hz := range_i64 hw 0
    simp only [List.getElem?_cons_zero, Option.getD_some] at hz
    have H0 : Hid (RI w w.heap.size (some ⟨g, o, none⟩) n (z0 :: r)) := Lib.hid hr
    have hcell : w.cell? ⟨g, o, none⟩ = some (.int .i64 z0) := by simpa [Addr.add] using hc0
    obtain ⟨b, hb⟩ : ∃ b, b = brB (z0 :: r) := ⟨_, rfl⟩
    rw [← hb]
    have HB := Lib.hid hb
    clear hb hr h hc0 HF hw
    cases hmu : mulB z0
    · have R : Hid (false = b) := Lib.hid (by rw [HB.out]; simp [brB, hmu])
      have hm' := mulB_false.1 hmu
      clear hmu
      go_enter Try.func59, Try.ntmps59
      go_wp2_with fail
      refine (inN _ _ _ _ (by omega)).mono ?_
      rintro e w' ⟨rfl, rfl⟩
      go_wp2_with fail
      go_ret
      exact ⟨ret_boolB R.out, below_box _ _⟩
    have hm' := mulB_true.1 hmu
    have E : Hid (b = isB z0 z0 ((z0 :: r).drop 1)) := Lib.hid (by rw [HB.out, brB_isB hmu]; rfl)
    have HLz : Hid ((z0 :: r)[0]?.getD 0 = z0) := Lib.hid rfl
    generalize z0 :: r = zs at *
    clear hmu HB
    have T0 : ((n : Int) == 0) = false := by simp; omega
    go_enter Try.func59, Try.ntmps59
    go_wp2_with fail
    refine (inY _ _ _ _ (by omega) (by omega)).mono ?_
    rintro e w' ⟨rfl, rfl⟩
    go_wp2_with fail
    have HS : Hid (RI (w.alloc (.cells #[.slice (some ⟨g, o, none⟩) n c] 28)) w.heap.size (some ⟨g, o, none⟩) n zs) := Lib.hid (H0.out.below (below_box _ _))
    have hB0 := below_box w (.cells #[.slice (some ⟨g, o, none⟩) n c] 28)
    generalize w.alloc (.cells #[.slice (some ⟨g, o, none⟩) n c] 28) = w0 at *
    have B0 := Lib.hid hB0
    clear hB0 hcell
    go_loopw [4, 5] (fun ve vi wr => ∃ (k : Nat) (x y : Int), (1 ≤ k ∧ k ≤ n) ∧ (1 ≤ x ∧ x ≤ 2000) ∧ (-9223372036854775808 ≤ y ∧ y ≤ 2000) ∧ ve = .int .i64 x ∧ vi = .int .i64 k ∧ Hid (∃ q, wr = w0.drewN q) ∧ Hid (zs[k - 1]?.getD 0 = y) ∧ Hid (b = isB y x (zs.drop k))) (fun _ vi _ => n - (intOf vi).toNat)
    case atStart => exact ⟨1, z0, z0, by omega, by omega, by omega, rfl, rfl, Lib.hid ⟨0, rfl⟩, HLz, E⟩
    case round =>
      obtain ⟨k, x, y, hk, hx, hy, rfl, rfl, hwr, hyk, hg⟩ := hrel
      have hsame : ∀ p, wr.cell? p = w0.cell? p := by obtain ⟨q, rfl⟩ := hwr.out; intro p; rfl
      have BR : Hid (Below w.heap.size w wr) := Lib.hid (by obtain ⟨q, rfl⟩ := hwr.out; exact below_drewN B0.out q)
      by_cases hlt : k < n
      · obtain ⟨a, e1, _, hcell0⟩ := HS.out.2 k hlt
        cases e1
        obtain ⟨a, e1, _, hcell1⟩ := HS.out.2 (k - 1) (by omega)
        cases e1
        have hz := range_i64 HW.out k
        have HG : Hid (b = isB y x ((zs[k]?.getD 0) :: zs.drop (k + 1))) := Lib.hid (by rw [hg.out, drop_at HL.out hlt])
        have HZ2 : Hid (zs[k + 1 - 1]?.getD 0 = zs[k]?.getD 0) := Lib.hid rfl
        have hc2 : wr.cell? ⟨g, o + k, none⟩ = some (.int .i64 (zs[k]?.getD 0)) := by rw [← add_lit, hsame]; simpa using hcell0
        have hc3 : wr.cell? ⟨g, o + (k - 1), none⟩ = some (.int .i64 y) := by rw [← hyk.out, ← add_lit, hsame]; simpa using hcell1
        generalize zs[k]?.getD 0 = z at *
        clear hcell0 hcell1 hsame
        have h5 : (0 : Int) ≤ (k : Int) - 1 := by omega
        have h6 : (k : Int) - 1 < (n : Int) := by omega
        have h7 : ((k : Int) - 1).toNat = k - 1 := by omega
        have h9 : (0 : Int) ≤ (k : Int) := by omega
        have p1 : IntKind.i64.wrap ((k : Int) - 1) = (k : Int) - 1 := IntWalk.i64_in _ (by omega)
        have p2 : IntKind.i64.wrap (y + 1) = y + 1 := IntWalk.i64_in _ (by omega)
        have h8 : (k : Int) < (n : Int) := by omega
        by_cases hin : y < z ∧ z ≤ 2000
        · have hgl := gcd_le_left (e := x) (z := z) hx.1
          have hgn : (0 : Int) ≤ (Int.gcd x z : Int) ∧ (Int.gcd x z : Int) ≤ 2000 := by omega
          by_cases hgx : (Int.gcd x z : Int) = x
          · have R : Hid (false = b) := Lib.hid (by rw [HG.out, isB_step]; simp [hgx])
            have hT : ((Int.gcd x z : Int) == x) = true := by simpa using hgx
            clear hgx
            go_wp2_with fail
            go_quiet ((go_at_call 60; exact quietY (by omega) (by omega)))
            go_wp2_with (go_at_call 117; refine (l01Gcd_any _ _ _ (by omega) (by omega) (by omega) (by omega)).mono ?_; rintro e w' ⟨rfl, rfl⟩)
            go_ret
            exact ⟨ret_boolB R.out, below_drewN BR.out _⟩
          · have HG2 : Hid (b = isB z (Int.gcd x z : Int) (zs.drop (k + 1))) := Lib.hid (by rw [HG.out, isB_step]; simp [hgx, hin])
            have hT : ((Int.gcd x z : Int) == x) = false := by simpa using hgx
            clear hgx
            go_wp2_with fail
            go_quiet ((go_at_call 60; exact quietY (by omega) (by omega)))
            go_wp2_with (go_at_call 117; refine (l01Gcd_any _ _ _ (by omega) (by omega) (by omega) (by omega)).mono ?_; rintro e w' ⟨rfl, rfl⟩)
            go_roundw
            case rel => exact ⟨k + 1, (Int.gcd x z : Int), z, by omega, by omega, by omega, rfl, by go_num, Lib.hid (by obtain ⟨q, rfl⟩ := hwr.out; exact ⟨q + nq, World.drewN_drewN _ _ _⟩), HZ2, HG2⟩
            case measure => simp [intOf]; omega
        · have R : Hid (false = b) := Lib.hid (by rw [HG.out, isB_step]; simp [hin])
          go_wp2_with fail
          go_quiet ((go_at_call 60; exact quietN (by omega)))
          go_wp2_with fail
          go_ret
          exact ⟨ret_boolB R.out, below_drewN BR.out _⟩
      · obtain rfl : k = n := by omega
        have R : Hid ((x == 1) = b) := Lib.hid (by rw [hg.out, drop_end HL.out (Nat.le_refl _)]; rfl)
        go_wp2
        go_ret
        exact ⟨ret_boolB R.out, BR.out⟩
end Go.Proofs.Ytohbgfmjnanlkaa
/- Branches in a law: a struct of one slice that comes in, contracts of laws.toBranch, eqBranch, markBranch, heldBranch, szBranch. Conditions: stated at each theorem. -/
namespace Go.Proofs.Ytohbgfmjnanlkaa
open Go.ChangeShapes Go.WideShapes Go.ChangeAt Go.RowKit Go.Joins Go.Deep
set_option linter.unusedVariables false

set_option maxRecDepth 100000 in
theorem open_branch {H : Type} {enc : TypeId × Value → H} {W : World} {B : Nat} {r : Reach} {b0 : Nat} {f0 : Field} {v : Value} {d : DataW H} {p : List MemPlace}
    (hs : Try.prog.underlying 24 = some (.struct #[f0])) (hone : oneCellFields Try.prog #[f0] = true) (hC : Try.prog.cellsOf 24 = 1) (hf0 : f0.type = 22)
    (hv : Value.okWide Try.prog W r b0 24 v) (h : DataW.Trod enc Try.prog W 0 (fun _ => true) true 24 v d p) (hlt : ∀ x ∈ p, x.block < B) :
    ∃ (A : Option Addr) (n c : Nat) (zs : List Int), v = .agg #[.slice A n c] ∧ RI W B A n zs ∧ n ≤ 9223372036854775807 ∧ ∀ z ∈ zs, (Lit.int .i64 z).wf = true := by
  obtain ⟨cs, rfl, hsz⟩ := okWide_struct hs hv
  obtain ⟨c0, rfl⟩ : ∃ c0, cs = #[c0] := by
    have h1 : cs.size = 1 := hsz.trans hC
    exact ⟨cs[0], by apply Array.ext' ; match cs, h1 with | ⟨[a]⟩, _ => rfl⟩
  obtain ⟨fuel, hf⟩ := h
  obtain ⟨y0, m, hx, _, h0⟩ := trod_struct1 hs hf
  obtain ⟨o0, k0⟩ := hone_of hone 0 f0 rfl
  have hp : p = y0.2 := by simp only [Prod.mk.injEq] at hx; exact hx.2
  have h1 : DataW.trod enc Try.prog W 0 (fun _ => true) true m 22 [c0] = some y0 := by rw [← hf0]; simpa [Value.cells, o0, k0] using h0
  subst hp
  obtain ⟨d0, p0⟩ := y0
  rcases open_ints Try.underlying22 Try.underlying2 (by kernel_rfl) h1 with ⟨e, _⟩ | ⟨a, len', cap', zs, e, _, hle, hcap, hzl, hx, hcell, hwf⟩
  · simp only [List.cons.injEq, and_true] at e
    subst e
    exact ⟨none, 0, 0, [], rfl, ⟨rfl, fun k hk => by omega⟩, by omega, by simp⟩
  · simp only [List.cons.injEq, and_true] at e
    subst e
    simp only [if_true] at hzl
    simp only [Prod.mk.injEq] at hx
    have hp : p0 = MemPlace.row a zs.length := hx.2
    unfold maxLen at hcap
    refine ⟨some a, len', cap', zs.take len', rfl, ⟨by simp; omega, fun k hk => ⟨a, rfl, ?_, ?_⟩⟩, by omega, fun z hz => hwf z (List.mem_of_mem_take hz)⟩
    · have := hlt (.cell a.block (a.off + 0)) (by show _ ∈ p0; rw [hp]; exact MemPlace.mem_row.2 ⟨0, by omega, rfl⟩)
      simpa [MemPlace.block] using this
    · rw [hcell k (by omega)]
      simp [List.getD, hk]

theorem bcellB {W w1 : World} (hb : Below W.heap.size W w1) : (∀ b o, b < W.heap.size → w1.cell? ⟨b, o, none⟩ = W.cell? ⟨b, o, none⟩) ∧ (∀ b o, b < W.heap.size → w1.frozen? ⟨b, o, none⟩ = W.frozen? ⟨b, o, none⟩) :=
  ⟨fun b o h => hb.cell (p := ⟨b, o, none⟩) h, fun b o h => hb.frozen (p := ⟨b, o, none⟩) h⟩
theorem keptS {lo hi : Nat} (w : World) {p : Addr} (h : p.block < lo) (u : Value) : Kept lo hi w (w.setCell p u) :=
  ⟨by simp [World.setCell], fun b h1 h2 => Below.heap_setCell w p u b (by omega)⟩
theorem own_lessB {w : World} {lo lo' hi : Nat} {v : Value} {zs : List Int} (h : OwnI w lo hi v zs) (hl : lo' ≤ lo) : OwnI w lo' hi v zs := by
  obtain ⟨⟨h0, h1⟩, h2, h3⟩ := h
  refine ⟨⟨h0, ?_⟩, h2, h3⟩
  rcases h1 with hn | ⟨g, cap, cur, e, hb, rest⟩
  · exact .inl hn
  · exact .inr ⟨g, cap, cur, e, by omega, rest⟩
theorem below_box2 (w : World) (o : Obj) : Below w.heap.size w (w.alloc o) := (Below.refl _ _).alloc (Nat.le_refl _) o

set_option maxHeartbeats 1000000 in
theorem toB (v : Value) (zs : List Int) (w : World) (hr : ReadW w w.heap.size v zs) (hn : zs.length ≤ 1048576) :
    Calls Try.prog 17 #[.agg #[v]] w fun e w' => ∃ v', e = .returned (.agg #[v']) ∧ OwnI w' w.heap.size w'.heap.size v' zs ∧ Below w.heap.size w w' := by
  have HR := Lib.hid hr
  clear hr
  have hB : Below w.heap.size w (((w.alloc (Obj.cells #[v] 24)).alloc (Obj.cells #[Value.slice none 0 0] 28)).alloc (Obj.cells #[Value.slice none 0 0] 28)) :=
    (((Below.refl _ _).alloc (Nat.le_refl _) _).alloc (by simp) _).alloc (by simp; omega) _
  have hs : (((w.alloc (Obj.cells #[v] 24)).alloc (Obj.cells #[Value.slice none 0 0] 28)).alloc (Obj.cells #[Value.slice none 0 0] 28)).heap.size = w.heap.size + 1 + 1 + 1 := by simp
  have k1 : (((w.alloc (Obj.cells #[v] 24)).alloc (Obj.cells #[Value.slice none 0 0] 28)).alloc (Obj.cells #[Value.slice none 0 0] 28)).cell? ⟨w.heap.size + 1, 0, none⟩ = some (.slice none 0 0) := by go_simp
  have k2 : (((w.alloc (Obj.cells #[v] 24)).alloc (Obj.cells #[Value.slice none 0 0] 28)).alloc (Obj.cells #[Value.slice none 0 0] 28)).cell? ⟨w.heap.size + 1 + 1, 0, none⟩ = some (.slice none 0 0) := by go_simp
  have f1 : (((w.alloc (Obj.cells #[v] 24)).alloc (Obj.cells #[Value.slice none 0 0] 28)).alloc (Obj.cells #[Value.slice none 0 0] 28)).frozen? ⟨w.heap.size + 1, 0, none⟩ = false := by go_simp
  have f2 : (((w.alloc (Obj.cells #[v] 24)).alloc (Obj.cells #[Value.slice none 0 0] 28)).alloc (Obj.cells #[Value.slice none 0 0] 28)).frozen? ⟨w.heap.size + 1 + 1, 0, none⟩ = false := by go_simp
  have HX := Lib.hid (And.intro hB (And.intro hs (And.intro k1 (And.intro k2 (And.intro f1 f2)))))
  clear hB hs k1 k2 f1 f2
  go_enter Try.func17, Try.ntmps17
  go_wp2_with fail
  generalize ((w.alloc (Obj.cells #[v] 24)).alloc (Obj.cells #[Value.slice none 0 0] 28)).alloc (Obj.cells #[Value.slice none 0 0] 28) = W3 at *
  refine (toI v zs W3 ((HR.out.below HX.out.1).more HX.out.1.size) hn).mono ?_
  rintro e w1 ⟨v1, rfl, ho, hb⟩
  obtain ⟨A1, c1', rfl⟩ := own_form ho.1
  obtain ⟨hB, hs, k1, k2, f1, f2⟩ := HX.out
  obtain ⟨hc, hf⟩ := bcellB hb
  have c1 := (hc (w.heap.size + 1) 0 (by omega)).trans k1
  have c2 := (hc (w.heap.size + 1 + 1) 0 (by omega)).trans k2
  have g1 := (hf (w.heap.size + 1) 0 (by omega)).trans f1
  have g2 := (hf (w.heap.size + 1 + 1) 0 (by omega)).trans f2
  have hsz := hb.size
  have O1 := Lib.hid ho
  have B1 := Lib.hid (hB.trans (hb.mono (by omega)))
  clear ho hb hc hf k1 k2 f1 f2 hB
  go_wp2
  have E1 : ∀ u, Kept W3.heap.size w1.heap.size w1 ((w1.setCell ⟨w.heap.size + 1 + 1, 0, none⟩ u).setCell ⟨w.heap.size + 1, 0, none⟩ u) := fun u =>
    (keptS w1 (p := ⟨w.heap.size + 1 + 1, 0, none⟩) (by show w.heap.size + 1 + 1 < _; omega) u).trans (keptS _ (p := ⟨w.heap.size + 1, 0, none⟩) (by show w.heap.size + 1 < _; omega) u)
  have cr : ((w1.setCell ⟨w.heap.size + 1 + 1, 0, none⟩ (.slice A1 zs.length c1')).setCell ⟨w.heap.size + 1, 0, none⟩ (.slice A1 zs.length c1')).cell? ⟨w.heap.size + 1, 0, none⟩ = some (.slice A1 zs.length c1') := by go_simp
  refine bodyPost_ret (v := .agg #[.slice A1 zs.length c1']) (by simp [results, Try.results17, go_sem, cr]) rfl ⟨_, rfl, ?_, ?_⟩
  · have := own_lessB (O1.out.kept (E1 (.slice A1 zs.length c1'))) (lo' := w.heap.size) (by omega)
    simpa [World.setCell] using this
  · exact (B1.out.setCell (by show w.heap.size ≤ w.heap.size + 1 + 1; omega) _).setCell (by show w.heap.size ≤ w.heap.size + 1; omega) _

theorem eqB (v v' : Value) (zs : List Int) (w : World) (hr : ReadI w w.heap.size v zs) (hr' : ReadI w w.heap.size v' zs) (hn : zs.length ≤ 9223372036854775807) :
    Calls Try.prog 19 #[.agg #[v], .agg #[v']] w fun e w' => e = .returned (.bool true) ∧ Below w.heap.size w w' := by
  have hB : Below w.heap.size w ((w.alloc (Obj.cells #[v] 28)).alloc (Obj.cells #[v'] 28)) := ((Below.refl _ _).alloc (Nat.le_refl _) _).alloc (by simp) _
  have HB := Lib.hid hB
  have HR := Lib.hid ((hr.below hB).more hB.size)
  have HR' := Lib.hid ((hr'.below hB).more hB.size)
  clear hr hr' hB
  go_enter Try.func19, Try.ntmps19
  go_wp2_with fail
  refine (eqI' v v' zs _ _ HR.out HR'.out hn).mono ?_
  rintro e w1 ⟨rfl, hb⟩
  have B1 := Lib.hid (HB.out.trans (hb.mono HB.out.size))
  clear hb
  go_wp2
  go_ret
  exact ⟨rfl, B1.out⟩

theorem markB (v : Value) (lo hi : Nat) (zs : List Int) (k : Int) (w : World) (h : OwnI w lo hi v zs) (hn : zs.length ≤ 1099511627776) (hk : 0 ≤ k ∧ k ≤ 1099511627776) :
    Calls Try.prog 37 #[.agg #[v], .int .i64 k] w fun e w' => e = .returned (.int .i64 (k + (zs.length : Int))) ∧ MarkI w' lo hi v zs.length k.toNat ∧ Only lo hi w w' := by
  have HO := Lib.hid (h.kept (Kept.of_below (below_box2 w (Obj.cells #[v] 28)) h.2.2))
  clear h
  go_enter Try.func37, Try.ntmps37
  go_wp2_with fail
  refine (markI' v lo hi zs k _ HO.out hn hk).mono ?_
  rintro e w1 ⟨rfl, hm, ho⟩
  have HM := Lib.hid hm
  have H2 := Lib.hid ho
  clear hm ho
  go_wp2
  go_ret
  exact ⟨rfl, HM.out, Only.trans (show Only lo hi w (w.alloc (Obj.cells #[v] 28)) from ⟨rfl, rfl, rfl, by simp, fun b hb _ => Below.heap_alloc _ _ _ hb⟩) H2.out⟩

theorem szB_yes (A : Option Addr) (n c : Nat) (left : Int) (w : World) (h : (n : Int) ≤ left) (hl : left ≤ 1048576) :
    Calls Try.prog 15 #[.agg #[.slice A n c], .int .i64 left] w fun e w' => e = .returned (.int .i64 (left - n)) ∧ Below w.heap.size w w' := by
  go_enter Try.func15, Try.ntmps15
  go_wp2_with fail
  refine (szI_yes A n c left _ h hl).mono ?_
  rintro e w1 ⟨rfl, rfl⟩
  go_wp2
  go_ret
  exact ⟨rfl, below_box2 _ _⟩
theorem szB_no (A : Option Addr) (n c : Nat) (left : Int) (w : World) (h : left < (n : Int)) (h0 : 0 ≤ left) (hl : left ≤ 1048576) (hn : n ≤ 9223372036854775807) :
    Calls Try.prog 15 #[.agg #[.slice A n c], .int .i64 left] w fun e w' => e = .returned (.int .i64 (-1)) ∧ Below w.heap.size w w' := by
  go_enter Try.func15, Try.ntmps15
  go_wp2_with fail
  refine (szI_no A n c left _ h h0 hl hn).mono ?_
  rintro e w1 ⟨rfl, rfl⟩
  go_wp2
  go_ret
  exact ⟨rfl, below_box2 _ _⟩
/-- The one cell of block b holds v. -/
def BoxI (w : World) (b : Nat) (v : Value) : Prop := w.cell? ⟨b, 0, none⟩ = some v ∧ b < w.heap.size
theorem BoxI.kept {w w' : World} {b : Nat} {v : Value} (h : BoxI w b v) (k : Kept b (b + 1) w w') : BoxI w' b v :=
  ⟨by have := k.block b (Nat.le_refl _) (Nat.lt_succ_self _)
      have h1 := h.1
      unfold World.cell? at h1 ⊢
      simpa [this] using h1, Nat.lt_of_lt_of_le h.2 k.size⟩
theorem BoxI.new (w : World) (v : Value) (t : TypeId) : BoxI (w.alloc (.cells #[v] t)) w.heap.size v := ⟨by go_simp, by simp⟩
theorem toB_drew (v : Value) (zs : List Int) (w : World) (hr : ReadW w w.heap.size v zs) (hn : zs.length ≤ 1048576) :
    Calls Try.prog 17 #[.agg #[v]] w.drew fun e w' => ∃ v', e = .returned (.agg #[v']) ∧ OwnI w' w.heap.size w'.heap.size v' zs ∧ Below w.heap.size w w' := by
  refine (toB v zs w.drew hr hn).mono ?_
  rintro e w' ⟨v', rfl, h1, h2⟩
  exact ⟨v', rfl, h1, ⟨h2.os, h2.tape, h2.output, h2.size, h2.block⟩⟩
/-- An answer: a branch and a code. -/
def AnsRC (w : World) (L : List Int) (C : Int) (e : Ending) (w' : World) : Prop := ∃ v, e = .returned (.tuple #[.agg #[v], .int .i64 C]) ∧ OwnI w' w.heap.size w'.heap.size v L ∧ Below w.heap.size w w'
end Go.Proofs.Ytohbgfmjnanlkaa
/- Branches, the program's side: contract of impl.IsBranch. Conditions: stated at each theorem. -/
namespace Go.Proofs.Ytohbgfmjnanlkaa
open Go.ChangeShapes Go.WideShapes Go.ChangeAt Go.RowKit
set_option linter.unusedVariables false
set_option linter.unusedSimpArgs false

theorem descends_if (v : Value) (zs : List Int) (w : World) (b : Bool) (h : ReadI w w.heap.size v zs) (hn : zs.length ≤ 1048576) (hw : ∀ z ∈ zs, (Lit.int .i64 z).wf = true) (hb : dcB zs = b) :
    Calls Try.prog 156 #[v] w fun e w' => e = .returned (.bool b) ∧ Below w.heap.size w w' := by
  subst hb; exact descends_any v zs w h hn hw

theorem descends_drew (v : Value) (zs : List Int) (w : World) (b : Bool) (h : ReadI w w.heap.size v zs) (hn : zs.length ≤ 1048576) (hw : ∀ z ∈ zs, (Lit.int .i64 z).wf = true) (hb : dcB zs = b) :
    Calls Try.prog 156 #[v] w.drew fun e w' => e = .returned (.bool b) ∧ Below w.heap.size w w' := by
  refine (descends_if v zs w.drew b h hn hw hb).mono ?_
  rintro e w' ⟨rfl, h1⟩
  exact ⟨rfl, ⟨h1.os, h1.tape, h1.output, h1.size, h1.block⟩⟩

set_option maxHeartbeats 1000000 in
set_option maxRecDepth 100000 in
theorem implIsBranch_any (v : Value) (zs : List Int) (w : World) (h : ReadI w w.heap.size v zs) (hn : zs.length ≤ 1048576) (hw : ∀ z ∈ zs, (Lit.int .i64 z).wf = true) :
    Calls Try.prog 98 #[.agg #[v]] w fun e w' => e = .returned (.bool (brB zs)) ∧ Below w.heap.size w w' := by
  have hbx := below_box w (.cells #[v] 28)
  have hcx : (w.alloc (.cells #[v] 28)).cell? ⟨w.heap.size, 0, none⟩ = some v := by go_simp
  have hsx : (w.alloc (.cells #[v] 28)).heap.size = w.heap.size + 1 := by simp
  have HX := Lib.hid (And.intro hbx (And.intro hcx hsx))
  clear hbx hcx hsx
  cases hd : dcB zs
  · have E : brB zs = false := by cases hb : brB zs; rfl; rw [brB_dcB hb] at hd; cases hd
    rw [E]
    have HD := Lib.hid hd
    have HW := Lib.hid hw
    obtain ⟨A, n, c, rfl⟩ : ∃ A n c, v = .slice A n c := by obtain ⟨A, c, e, _⟩ := h; exact ⟨A, _, c, e⟩
    have HR := Lib.hid ((h.below HX.out.1).more HX.out.1.size)
    have hn2 := Lib.hid hn
    clear hd hw E h hn
    go_enter Try.func98, Try.ntmps98
    go_wp2_with fail
    generalize w.alloc (.cells #[.slice A n c] 28) = W0 at *
    have hc0 := HX.out.2.1
    have hs0 : w.heap.size < W0.heap.size := by have := HX.out.2.2; omega
    refine wp_region_held_drew (S := fun w' => w'.cell? ⟨w.heap.size, 0, none⟩ = some (.slice A n c)) (by kernel_rfl) hc0 (fun hHeld => ?_)
    refine takeY 0 3 (v := ?_) rfl rfl (by kernel_rfl) (by kernel_rfl) (by kernel_rfl) (fun _ _ _ h => h) (by kernel_rfl) ?_ (by assumption) ?_
    rotate_left 1
    · intro w hSw; (try dsimp only at hSw); go_simp; (try with_reducible rfl)
    try simp only [Act.put, List.setIfInBounds_toArray, List.set_cons_zero, List.set_cons_succ]
    refine takeY 1 4 (v := ?_) rfl rfl (by kernel_rfl) (by kernel_rfl) (by kernel_rfl) (fun _ _ _ h => h) (by kernel_rfl) ?_ (by assumption) ?_
    rotate_left 1
    · intro w hSw; (try dsimp only at hSw); go_simp; (try with_reducible rfl)
    try simp only [Act.put, List.setIfInBounds_toArray, List.set_cons_zero, List.set_cons_succ]
    refine wpAnyH_ready (rs := [2]) (by kernel_rfl) (by simp) ?_
    refine AllReadyH.cons rfl (fun K hK => ?_) AllReadyH.nil
    go_simp
    refine (descends_drew _ zs _ false HR.out hn2.out HW.out HD.out).mono ?_
    rintro e w1 ⟨rfl, hb1⟩
    refine hK.out _ _ ((hb1.cell (p := ⟨w.heap.size, 0, none⟩) hs0).trans hc0) (fun hHeld => ?_)
    clear hK K
    try simp only [Act.put, List.setIfInBounds_toArray, List.set_cons_zero, List.set_cons_succ]
    refine takeY 3 6 (v := ?_) rfl rfl (by kernel_rfl) (by kernel_rfl) (by kernel_rfl) (fun _ _ _ h => h) (by kernel_rfl) ?_ (by assumption) ?_
    rotate_left 1
    · intro w hSw; (try dsimp only at hSw); go_simp; (try with_reducible rfl)
    try simp only [Act.put, List.setIfInBounds_toArray, List.set_cons_zero, List.set_cons_succ]
    refine takeN 4 7 rfl rfl (by kernel_rfl) (by kernel_rfl) (by kernel_rfl) (fun _ _ _ h => h) (by kernel_rfl) (by assumption) ?_
    try simp only [Act.put, List.setIfInBounds_toArray, List.set_cons_zero, List.set_cons_succ]
    refine takeN 5 8 rfl rfl (by kernel_rfl) (by kernel_rfl) (by kernel_rfl) (fun _ _ _ h => h) (by kernel_rfl) (by assumption) ?_
    try simp only [Act.put, List.setIfInBounds_toArray, List.set_cons_zero, List.set_cons_succ]
    refine takeN 6 9 rfl rfl (by kernel_rfl) (by kernel_rfl) (by kernel_rfl) (fun _ _ _ h => h) (by kernel_rfl) (by assumption) ?_
    try simp only [Act.put, List.setIfInBounds_toArray, List.set_cons_zero, List.set_cons_succ]
    refine takeN 7 10 rfl rfl (by kernel_rfl) (by kernel_rfl) (by kernel_rfl) (fun _ _ _ h => h) (by kernel_rfl) (by assumption) ?_
    try simp only [Act.put, List.setIfInBounds_toArray, List.set_cons_zero, List.set_cons_succ]
    refine takeN 8 11 rfl rfl (by kernel_rfl) (by kernel_rfl) (by kernel_rfl) (fun _ _ _ h => h) (by kernel_rfl) (by assumption) ?_
    try simp only [Act.put, List.setIfInBounds_toArray, List.set_cons_zero, List.set_cons_succ]
    refine takeN 9 12 rfl rfl (by kernel_rfl) (by kernel_rfl) (by kernel_rfl) (fun _ _ _ h => h) (by kernel_rfl) (by assumption) ?_
    try simp only [Act.put, List.setIfInBounds_toArray, List.set_cons_zero, List.set_cons_succ]
    refine takeN 10 13 rfl rfl (by kernel_rfl) (by kernel_rfl) (by kernel_rfl) (fun _ _ _ h => h) (by kernel_rfl) (by assumption) ?_
    try simp only [Act.put, List.setIfInBounds_toArray, List.set_cons_zero, List.set_cons_succ]
    refine takeN 11 14 rfl rfl (by kernel_rfl) (by kernel_rfl) (by kernel_rfl) (fun _ _ _ h => h) (by kernel_rfl) (by assumption) ?_
    try simp only [Act.put, List.setIfInBounds_toArray, List.set_cons_zero, List.set_cons_succ]
    refine takeN 12 15 rfl rfl (by kernel_rfl) (by kernel_rfl) (by kernel_rfl) (fun _ _ _ h => h) (by kernel_rfl) (by assumption) ?_
    try simp only [Act.put, List.setIfInBounds_toArray, List.set_cons_zero, List.set_cons_succ]
    refine takeN 13 16 rfl rfl (by kernel_rfl) (by kernel_rfl) (by kernel_rfl) (fun _ _ _ h => h) (by kernel_rfl) (by assumption) ?_
    try simp only [Act.put, List.setIfInBounds_toArray, List.set_cons_zero, List.set_cons_succ]
    refine takeN 14 17 rfl rfl (by kernel_rfl) (by kernel_rfl) (by kernel_rfl) (fun _ _ _ h => h) (by kernel_rfl) (by assumption) ?_
    try simp only [Act.put, List.setIfInBounds_toArray, List.set_cons_zero, List.set_cons_succ]
    refine takeN 15 18 rfl rfl (by kernel_rfl) (by kernel_rfl) (by kernel_rfl) (fun _ _ _ h => h) (by kernel_rfl) (by assumption) ?_
    try simp only [Act.put, List.setIfInBounds_toArray, List.set_cons_zero, List.set_cons_succ]
    refine takeN 16 19 rfl rfl (by kernel_rfl) (by kernel_rfl) (by kernel_rfl) (fun _ _ _ h => h) (by kernel_rfl) (by assumption) ?_
    try simp only [Act.put, List.setIfInBounds_toArray, List.set_cons_zero, List.set_cons_succ]
    refine takeN 17 20 rfl rfl (by kernel_rfl) (by kernel_rfl) (by kernel_rfl) (fun _ _ _ h => h) (by kernel_rfl) (by assumption) ?_
    try simp only [Act.put, List.setIfInBounds_toArray, List.set_cons_zero, List.set_cons_succ]
    refine takeN 18 21 rfl rfl (by kernel_rfl) (by kernel_rfl) (by kernel_rfl) (fun _ _ _ h => h) (by kernel_rfl) (by assumption) ?_
    try simp only [Act.put, List.setIfInBounds_toArray, List.set_cons_zero, List.set_cons_succ]
    refine takeY 19 22 (v := ?_) rfl rfl (by kernel_rfl) (by kernel_rfl) (by kernel_rfl) (fun _ _ _ h => h) (by kernel_rfl) ?_ (by assumption) ?_
    rotate_left 1
    · intro w hSw; (try dsimp only at hSw); go_simp; (try with_reducible rfl)
    try simp only [Act.put, List.setIfInBounds_toArray, List.set_cons_zero, List.set_cons_succ]
    refine takeY 20 2 (v := ?_) rfl rfl (by kernel_rfl) (by kernel_rfl) (by kernel_rfl) (fun _ _ _ h => h) (by kernel_rfl) ?_ (by assumption) ?_
    rotate_left 1
    · intro w hSw; (try dsimp only at hSw); go_simp; (try with_reducible rfl)
    try simp only [Act.put, List.setIfInBounds_toArray, List.set_cons_zero, List.set_cons_succ]
    refine wpAnyH_done (by kernel_rfl) ?_ _
    all_goals go_wp2
    all_goals go_ret
    all_goals exact ⟨rfl, HX.out.1.trans (by first | exact hb1.mono (by omega) | exact (below_drewN hb1 _).mono (by omega) | exact (Below.drew hb1).mono (by omega))⟩
  obtain ⟨n0, r, rfl, hn0, -, -⟩ := dcB_parts hd
  obtain ⟨n, A, c, rfl, hr, HL, HN, hnc, HF, hcm⟩ := h.split2
  have hl : n = r.length + 1 := by have := HL.out; simp at this; omega
  obtain ⟨a, rfl, hlt, hc0⟩ := hr.2 0 (by omega)
  obtain ⟨g, o, rfl⟩ := HF.out a rfl
  have hce0 : w.cell? ⟨g, o, none⟩ = some (.int .i64 n0) := by simpa [Addr.add] using hc0
  have hz0 := range_i64 hw 0
  simp only [List.getElem?_cons_zero, Option.getD_some] at hz0
  have hz1 := range_i64 hw 1
  have HC1 : Hid (1 < n → w.cell? ⟨g, o + 1, none⟩ = some (.int .i64 ((n0 :: r)[1]?.getD 0))) := Lib.hid (fun h1 => by
    obtain ⟨a, e, _, hc⟩ := hr.2 1 h1
    cases e
    rw [← add_lit]; simpa using hc)
  have HD := Lib.hid hd
  have HW := Lib.hid hw
  have HR := Lib.hid ((h.below HX.out.1).more HX.out.1.size)
  have hn2 := Lib.hid hn
  have hgl : g < w.heap.size := hlt
  clear hd hw h hr hn HF hc0
  cases r with
  | nil =>
    obtain rfl : n = 1 := hl
    have E : Hid (brB [n0] = true) := Lib.hid (by rw [brB_one]; exact HD.out)
    rw [E.out]
    generalize [n0] = zs at *
    go_enter Try.func98, Try.ntmps98
    go_wp2_with fail
    generalize w.alloc (.cells #[.slice (some ⟨g, o, none⟩) 1 c] 28) = W0 at *
    have hc0 := HX.out.2.1
    have hs0 : w.heap.size < W0.heap.size := by have := HX.out.2.2; omega
    refine wp_region_held_drew (S := fun w' => w'.cell? ⟨w.heap.size, 0, none⟩ = some (.slice (some ⟨g, o, none⟩) 1 c)) (by kernel_rfl) hc0 (fun hHeld => ?_)
    refine takeY 0 3 (v := ?_) rfl rfl (by kernel_rfl) (by kernel_rfl) (by kernel_rfl) (fun _ _ _ h => h) (by kernel_rfl) ?_ (by assumption) ?_
    rotate_left 1
    · intro w hSw; (try dsimp only at hSw); go_simp; (try with_reducible rfl)
    try simp only [Act.put, List.setIfInBounds_toArray, List.set_cons_zero, List.set_cons_succ]
    refine takeY 1 4 (v := ?_) rfl rfl (by kernel_rfl) (by kernel_rfl) (by kernel_rfl) (fun _ _ _ h => h) (by kernel_rfl) ?_ (by assumption) ?_
    rotate_left 1
    · intro w hSw; (try dsimp only at hSw); go_simp; (try with_reducible rfl)
    try simp only [Act.put, List.setIfInBounds_toArray, List.set_cons_zero, List.set_cons_succ]
    refine wpAnyH_ready (rs := [2]) (by kernel_rfl) (by simp) ?_
    refine AllReadyH.cons rfl (fun K hK => ?_) AllReadyH.nil
    go_simp
    refine (descends_drew _ zs _ true HR.out hn2.out HW.out HD.out).mono ?_
    rintro e w1 ⟨rfl, hb1⟩
    refine hK.out _ _ ((hb1.cell (p := ⟨w.heap.size, 0, none⟩) hs0).trans hc0) (fun hHeld => ?_)
    clear hK K
    try simp only [Act.put, List.setIfInBounds_toArray, List.set_cons_zero, List.set_cons_succ]
    refine takeY 3 6 (v := ?_) rfl rfl (by kernel_rfl) (by kernel_rfl) (by kernel_rfl) (fun _ _ _ h => h) (by kernel_rfl) ?_ (by assumption) ?_
    rotate_left 1
    · intro w hSw; (try dsimp only at hSw); go_simp; (try with_reducible rfl)
    try simp only [Act.put, List.setIfInBounds_toArray, List.set_cons_zero, List.set_cons_succ]
    refine takeY 4 7 (v := ?_) rfl rfl (by kernel_rfl) (by kernel_rfl) (by kernel_rfl) (fun _ _ _ h => h) (by kernel_rfl) ?_ (by assumption) ?_
    rotate_left 1
    · intro w hSw; (try dsimp only at hSw); go_simp; (try with_reducible rfl)
    try simp only [Act.put, List.setIfInBounds_toArray, List.set_cons_zero, List.set_cons_succ]
    refine takeY 5 8 (v := ?_) rfl rfl (by kernel_rfl) (by kernel_rfl) (by kernel_rfl) (fun _ _ _ h => h) (by kernel_rfl) ?_ (by assumption) ?_
    rotate_left 1
    · intro w hSw; (try dsimp only at hSw); go_simp; (try with_reducible rfl)
    try simp only [Act.put, List.setIfInBounds_toArray, List.set_cons_zero, List.set_cons_succ]
    refine takeY 6 9 (v := ?_) rfl rfl (by kernel_rfl) (by kernel_rfl) (by kernel_rfl) (fun _ _ _ h => h) (by kernel_rfl) ?_ (by assumption) ?_
    rotate_left 1
    · intro w hSw; (try dsimp only at hSw); go_simp; (try with_reducible rfl)
    try simp only [Act.put, List.setIfInBounds_toArray, List.set_cons_zero, List.set_cons_succ]
    refine takeY 7 10 (v := ?_) rfl rfl (by kernel_rfl) (by kernel_rfl) (by kernel_rfl) (fun _ _ _ h => h) (by kernel_rfl) ?_ (by assumption) ?_
    rotate_left 1
    · intro w hSw; (try dsimp only at hSw); go_simp; (try with_reducible rfl)
    try simp only [Act.put, List.setIfInBounds_toArray, List.set_cons_zero, List.set_cons_succ]
    refine takeY 8 11 (v := ?_) rfl rfl (by kernel_rfl) (by kernel_rfl) (by kernel_rfl) (fun _ _ _ h => h) (by kernel_rfl) ?_ (by assumption) ?_
    rotate_left 1
    · intro w hSw; (try dsimp only at hSw); go_simp; (try with_reducible rfl)
    try simp only [Act.put, List.setIfInBounds_toArray, List.set_cons_zero, List.set_cons_succ]
    refine takeN 9 12 rfl rfl (by kernel_rfl) (by kernel_rfl) (by kernel_rfl) (fun _ _ _ h => h) (by kernel_rfl) (by assumption) ?_
    try simp only [Act.put, List.setIfInBounds_toArray, List.set_cons_zero, List.set_cons_succ]
    refine takeN 10 13 rfl rfl (by kernel_rfl) (by kernel_rfl) (by kernel_rfl) (fun _ _ _ h => h) (by kernel_rfl) (by assumption) ?_
    try simp only [Act.put, List.setIfInBounds_toArray, List.set_cons_zero, List.set_cons_succ]
    refine takeN 11 14 rfl rfl (by kernel_rfl) (by kernel_rfl) (by kernel_rfl) (fun _ _ _ h => h) (by kernel_rfl) (by assumption) ?_
    try simp only [Act.put, List.setIfInBounds_toArray, List.set_cons_zero, List.set_cons_succ]
    refine takeN 12 15 rfl rfl (by kernel_rfl) (by kernel_rfl) (by kernel_rfl) (fun _ _ _ h => h) (by kernel_rfl) (by assumption) ?_
    try simp only [Act.put, List.setIfInBounds_toArray, List.set_cons_zero, List.set_cons_succ]
    refine takeN 13 16 rfl rfl (by kernel_rfl) (by kernel_rfl) (by kernel_rfl) (fun _ _ _ h => h) (by kernel_rfl) (by assumption) ?_
    try simp only [Act.put, List.setIfInBounds_toArray, List.set_cons_zero, List.set_cons_succ]
    refine takeN 14 17 rfl rfl (by kernel_rfl) (by kernel_rfl) (by kernel_rfl) (fun _ _ _ h => h) (by kernel_rfl) (by assumption) ?_
    try simp only [Act.put, List.setIfInBounds_toArray, List.set_cons_zero, List.set_cons_succ]
    refine takeN 15 18 rfl rfl (by kernel_rfl) (by kernel_rfl) (by kernel_rfl) (fun _ _ _ h => h) (by kernel_rfl) (by assumption) ?_
    try simp only [Act.put, List.setIfInBounds_toArray, List.set_cons_zero, List.set_cons_succ]
    refine takeN 16 19 rfl rfl (by kernel_rfl) (by kernel_rfl) (by kernel_rfl) (fun _ _ _ h => h) (by kernel_rfl) (by assumption) ?_
    try simp only [Act.put, List.setIfInBounds_toArray, List.set_cons_zero, List.set_cons_succ]
    refine takeN 17 20 rfl rfl (by kernel_rfl) (by kernel_rfl) (by kernel_rfl) (fun _ _ _ h => h) (by kernel_rfl) (by assumption) ?_
    try simp only [Act.put, List.setIfInBounds_toArray, List.set_cons_zero, List.set_cons_succ]
    refine takeY 18 21 (v := ?_) rfl rfl (by kernel_rfl) (by kernel_rfl) (by kernel_rfl) (fun _ _ _ h => h) (by kernel_rfl) ?_ (by assumption) ?_
    rotate_left 1
    · intro w hSw; (try dsimp only at hSw); go_simp; (try with_reducible rfl)
    try simp only [Act.put, List.setIfInBounds_toArray, List.set_cons_zero, List.set_cons_succ]
    refine takeY 19 22 (v := ?_) rfl rfl (by kernel_rfl) (by kernel_rfl) (by kernel_rfl) (fun _ _ _ h => h) (by kernel_rfl) ?_ (by assumption) ?_
    rotate_left 1
    · intro w hSw; (try dsimp only at hSw); go_simp; (try with_reducible rfl)
    try simp only [Act.put, List.setIfInBounds_toArray, List.set_cons_zero, List.set_cons_succ]
    refine takeY 20 2 (v := ?_) rfl rfl (by kernel_rfl) (by kernel_rfl) (by kernel_rfl) (fun _ _ _ h => h) (by kernel_rfl) ?_ (by assumption) ?_
    rotate_left 1
    · intro w hSw; (try dsimp only at hSw); go_simp; (try with_reducible rfl)
    try simp only [Act.put, List.setIfInBounds_toArray, List.set_cons_zero, List.set_cons_succ]
    refine wpAnyH_done (by kernel_rfl) ?_ _
    all_goals go_wp2
    all_goals go_ret
    all_goals exact ⟨rfl, HX.out.1.trans (by first | exact hb1.mono (by omega) | exact (below_drewN hb1 _).mono (by omega) | exact (Below.drew hb1).mono (by omega))⟩
  | cons z r =>
    have hn1 : 1 < n := by rw [hl]; simp
    have hn0x : 0 < n := by omega
    have hn1' : ((n : Int) == 1) = false := by simp; omega
    have hn1'' : (1 : Int) < (n : Int) := by omega
    have hce1 : w.cell? ⟨g, o + 1, none⟩ = some (.int .i64 z) := by simpa using HC1.out hn1
    simp only [List.getElem?_cons_succ, List.getElem?_cons_zero, Option.getD_some] at hz1
    have E : Hid (brB (n0 :: z :: r) = decide (n0 < z)) := Lib.hid (by rw [brB_more, HD.out]; simp)
    rw [E.out]
    generalize n0 :: z :: r = zs at *
    have he0 := HX.out.1.cell (p := ⟨g, o, none⟩) hgl
    have he1 := HX.out.1.cell (p := ⟨g, o + 1, none⟩) hgl
    rw [hce0] at he0
    rw [hce1] at he1
    clear hl hce0 hce1 HC1
    go_enter Try.func98, Try.ntmps98
    go_wp2_with fail
    generalize w.alloc (.cells #[.slice (some ⟨g, o, none⟩) n c] 28) = W0 at *
    have hc0 := HX.out.2.1
    have hs0 : w.heap.size < W0.heap.size := by have := HX.out.2.2; omega
    refine wp_region_held_drew (S := fun w' => w'.cell? ⟨w.heap.size, 0, none⟩ = some (.slice (some ⟨g, o, none⟩) n c) ∧ w'.cell? ⟨g, o, none⟩ = some (.int .i64 n0) ∧ w'.cell? ⟨g, o + 1, none⟩ = some (.int .i64 z)) (by kernel_rfl) ⟨hc0, he0, he1⟩ (fun hHeld => ?_)
    refine takeY 0 3 (v := ?_) rfl rfl (by kernel_rfl) (by kernel_rfl) (by kernel_rfl) (fun _ _ _ h => h) (by kernel_rfl) ?_ (by assumption) ?_
    rotate_left 1
    · intro w hSw; (try dsimp only at hSw); go_simp; (try with_reducible rfl)
    try simp only [Act.put, List.setIfInBounds_toArray, List.set_cons_zero, List.set_cons_succ]
    refine takeY 1 4 (v := ?_) rfl rfl (by kernel_rfl) (by kernel_rfl) (by kernel_rfl) (fun _ _ _ h => h) (by kernel_rfl) ?_ (by assumption) ?_
    rotate_left 1
    · intro w hSw; (try dsimp only at hSw); go_simp; (try with_reducible rfl)
    try simp only [Act.put, List.setIfInBounds_toArray, List.set_cons_zero, List.set_cons_succ]
    refine wpAnyH_ready (rs := [2]) (by kernel_rfl) (by simp) ?_
    refine AllReadyH.cons rfl (fun K hK => ?_) AllReadyH.nil
    go_simp
    refine (descends_drew _ zs _ true HR.out hn2.out HW.out HD.out).mono ?_
    rintro e w1 ⟨rfl, hb1⟩
    refine hK.out _ _ (⟨(hb1.cell (p := ⟨w.heap.size, 0, none⟩) hs0).trans hc0, (hb1.cell (p := ⟨g, o, none⟩) (show g < W0.heap.size by omega)).trans he0, (hb1.cell (p := ⟨g, o + 1, none⟩) (show g < W0.heap.size by omega)).trans he1⟩) (fun hHeld => ?_)
    clear hK K
    try simp only [Act.put, List.setIfInBounds_toArray, List.set_cons_zero, List.set_cons_succ]
    refine takeY 3 6 (v := ?_) rfl rfl (by kernel_rfl) (by kernel_rfl) (by kernel_rfl) (fun _ _ _ h => h) (by kernel_rfl) ?_ (by assumption) ?_
    rotate_left 1
    · intro w hSw; (try dsimp only at hSw); go_simp; (try with_reducible rfl)
    try simp only [Act.put, List.setIfInBounds_toArray, List.set_cons_zero, List.set_cons_succ]
    refine takeY 4 7 (v := ?_) rfl rfl (by kernel_rfl) (by kernel_rfl) (by kernel_rfl) (fun _ _ _ h => h) (by kernel_rfl) ?_ (by assumption) ?_
    rotate_left 1
    · intro w hSw; (try dsimp only at hSw); go_simp; (try with_reducible rfl)
    try simp only [Act.put, List.setIfInBounds_toArray, List.set_cons_zero, List.set_cons_succ]
    refine takeY 5 8 (v := ?_) rfl rfl (by kernel_rfl) (by kernel_rfl) (by kernel_rfl) (fun _ _ _ h => h) (by kernel_rfl) ?_ (by assumption) ?_
    rotate_left 1
    · intro w hSw; (try dsimp only at hSw); go_simp; (try with_reducible rfl)
    try simp only [Act.put, List.setIfInBounds_toArray, List.set_cons_zero, List.set_cons_succ]
    refine takeY 6 9 (v := ?_) rfl rfl (by kernel_rfl) (by kernel_rfl) (by kernel_rfl) (fun _ _ _ h => h) (by kernel_rfl) ?_ (by assumption) ?_
    rotate_left 1
    · intro w hSw; (try dsimp only at hSw); go_simp; (try with_reducible rfl)
    try simp only [Act.put, List.setIfInBounds_toArray, List.set_cons_zero, List.set_cons_succ]
    refine takeY 7 10 (v := ?_) rfl rfl (by kernel_rfl) (by kernel_rfl) (by kernel_rfl) (fun _ _ _ h => h) (by kernel_rfl) ?_ (by assumption) ?_
    rotate_left 1
    · intro w hSw; (try dsimp only at hSw); go_simp; (try with_reducible rfl)
    try simp only [Act.put, List.setIfInBounds_toArray, List.set_cons_zero, List.set_cons_succ]
    refine takeY 8 11 (v := ?_) rfl rfl (by kernel_rfl) (by kernel_rfl) (by kernel_rfl) (fun _ _ _ h => h) (by kernel_rfl) ?_ (by assumption) ?_
    rotate_left 1
    · intro w hSw; (try dsimp only at hSw); go_simp; (try with_reducible rfl)
    try simp only [Act.put, List.setIfInBounds_toArray, List.set_cons_zero, List.set_cons_succ]
    refine takeY 9 12 (v := ?_) rfl rfl (by kernel_rfl) (by kernel_rfl) (by kernel_rfl) (fun _ _ _ h => h) (by kernel_rfl) ?_ (by assumption) ?_
    rotate_left 1
    · intro w hSw; (try dsimp only at hSw); go_simp; (try with_reducible rfl)
    try simp only [Act.put, List.setIfInBounds_toArray, List.set_cons_zero, List.set_cons_succ]
    refine takeY 10 13 (v := ?_) rfl rfl (by kernel_rfl) (by kernel_rfl) (by kernel_rfl) (fun _ _ _ h => h) (by kernel_rfl) ?_ (by assumption) ?_
    rotate_left 1
    · intro w hSw; (try dsimp only at hSw); go_simp; (try with_reducible rfl)
    try simp only [Act.put, List.setIfInBounds_toArray, List.set_cons_zero, List.set_cons_succ]
    refine takeY 11 14 (v := ?_) rfl rfl (by kernel_rfl) (by kernel_rfl) (by kernel_rfl) (fun _ _ _ h => h) (by kernel_rfl) ?_ (by assumption) ?_
    rotate_left 1
    · intro w hSw; (try dsimp only at hSw); go_simp; (try with_reducible rfl)
    try simp only [Act.put, List.setIfInBounds_toArray, List.set_cons_zero, List.set_cons_succ]
    refine takeY 12 15 (v := ?_) rfl rfl (by kernel_rfl) (by kernel_rfl) (by kernel_rfl) (fun _ _ _ h => h) (by kernel_rfl) ?_ (by assumption) ?_
    rotate_left 1
    · intro w hSw; (try dsimp only at hSw); go_simp; (try with_reducible rfl)
    try simp only [Act.put, List.setIfInBounds_toArray, List.set_cons_zero, List.set_cons_succ]
    refine takeY 13 16 (v := ?_) rfl rfl (by kernel_rfl) (by kernel_rfl) (by kernel_rfl) (fun _ _ _ h => h) (by kernel_rfl) ?_ (by assumption) ?_
    rotate_left 1
    · intro w hSw; (try dsimp only at hSw); go_simp; (try with_reducible rfl)
    try simp only [Act.put, List.setIfInBounds_toArray, List.set_cons_zero, List.set_cons_succ]
    refine takeY 14 17 (v := ?_) rfl rfl (by kernel_rfl) (by kernel_rfl) (by kernel_rfl) (fun _ _ _ h => h) (by kernel_rfl) ?_ (by assumption) ?_
    rotate_left 1
    · intro w hSw; (try dsimp only at hSw); go_simp; (try with_reducible rfl)
    try simp only [Act.put, List.setIfInBounds_toArray, List.set_cons_zero, List.set_cons_succ]
    refine takeY 15 18 (v := ?_) rfl rfl (by kernel_rfl) (by kernel_rfl) (by kernel_rfl) (fun _ _ _ h => h) (by kernel_rfl) ?_ (by assumption) ?_
    rotate_left 1
    · intro w hSw; (try dsimp only at hSw); go_simp; (try with_reducible rfl)
    try simp only [Act.put, List.setIfInBounds_toArray, List.set_cons_zero, List.set_cons_succ]
    refine takeY 16 19 (v := ?_) rfl rfl (by kernel_rfl) (by kernel_rfl) (by kernel_rfl) (fun _ _ _ h => h) (by kernel_rfl) ?_ (by assumption) ?_
    rotate_left 1
    · intro w hSw; (try dsimp only at hSw); go_simp; (try with_reducible rfl)
    try simp only [Act.put, List.setIfInBounds_toArray, List.set_cons_zero, List.set_cons_succ]
    refine takeY 17 20 (v := ?_) rfl rfl (by kernel_rfl) (by kernel_rfl) (by kernel_rfl) (fun _ _ _ h => h) (by kernel_rfl) ?_ (by assumption) ?_
    rotate_left 1
    · intro w hSw; (try dsimp only at hSw); go_simp; (try with_reducible rfl)
    try simp only [Act.put, List.setIfInBounds_toArray, List.set_cons_zero, List.set_cons_succ]
    refine takeY 18 21 (v := ?_) rfl rfl (by kernel_rfl) (by kernel_rfl) (by kernel_rfl) (fun _ _ _ h => h) (by kernel_rfl) ?_ (by assumption) ?_
    rotate_left 1
    · intro w hSw; (try dsimp only at hSw); go_simp; (try with_reducible rfl)
    try simp only [Act.put, List.setIfInBounds_toArray, List.set_cons_zero, List.set_cons_succ]
    refine takeY 19 22 (v := ?_) rfl rfl (by kernel_rfl) (by kernel_rfl) (by kernel_rfl) (fun _ _ _ h => h) (by kernel_rfl) ?_ (by assumption) ?_
    rotate_left 1
    · intro w hSw; (try dsimp only at hSw); go_simp; (try with_reducible rfl)
    try simp only [Act.put, List.setIfInBounds_toArray, List.set_cons_zero, List.set_cons_succ]
    refine takeY 20 2 (v := ?_) rfl rfl (by kernel_rfl) (by kernel_rfl) (by kernel_rfl) (fun _ _ _ h => h) (by kernel_rfl) ?_ (by assumption) ?_
    rotate_left 1
    · intro w hSw; (try dsimp only at hSw); go_simp; (try with_reducible rfl)
    try simp only [Act.put, List.setIfInBounds_toArray, List.set_cons_zero, List.set_cons_succ]
    refine wpAnyH_done (by kernel_rfl) ?_ _
    all_goals go_wp2
    all_goals go_ret
    all_goals exact ⟨rfl, HX.out.1.trans (by first | exact hb1.mono (by omega) | exact (below_drewN hb1 _).mono (by omega) | exact (Below.drew hb1).mono (by omega))⟩
end Go.Proofs.Ytohbgfmjnanlkaa
/- spec.IsBranch: a contract; the model's test and the program's in the forms that a guard takes. Conditions: stated at each theorem. -/
namespace Go.Proofs.Ytohbgfmjnanlkaa
open Go.ChangeShapes Go.WideShapes Go.ChangeAt Go.RowKit
set_option linter.unusedVariables false
theorem l03Is_if (v : Value) (zs : List Int) (w : World) (b : Bool) (h : ReadI w w.heap.size v zs) (hn : zs.length ≤ 1048576) (hw : ∀ z ∈ zs, (Lit.int .i64 z).wf = true) (hb : brB zs = b) :
    Calls Try.prog 59 #[.agg #[v]] w fun e w' => e = .returned (.bool b) ∧ Below w.heap.size w w' := by
  subst hb; exact l03Is_any v zs w h hn hw
theorem implIsBranch_if (v : Value) (zs : List Int) (w : World) (b : Bool) (h : ReadI w w.heap.size v zs) (hn : zs.length ≤ 1048576) (hw : ∀ z ∈ zs, (Lit.int .i64 z).wf = true) (hb : brB zs = b) :
    Calls Try.prog 98 #[.agg #[v]] w fun e w' => e = .returned (.bool b) ∧ Below w.heap.size w w' := by
  subst hb; exact implIsBranch_any v zs w h hn hw
end Go.Proofs.Ytohbgfmjnanlkaa
/- MultiplicityOf, CountPairs: contracts. Conditions: stated at each theorem. -/
namespace Go.Proofs.Ytohbgfmjnanlkaa
open Go.ChangeShapes Go.WideShapes Go.ChangeAt Go.RowKit
set_option linter.unusedVariables false
def muA (zs : List Int) : Int := if brB zs then zs[0]?.getD 0 else 0
def brC (zs : List Int) : Int := if brB zs then 0 else 1
def cpA (zs : List Int) : Int := if brB zs then (zs.length : Int) - 1 else 0
theorem mu_no {zs : List Int} (h : brB zs = false) : muA zs = 0 ∧ brC zs = 1 := by simp [muA, brC, h]
theorem mu_yes {zs : List Int} (h : brB zs = true) : muA zs = zs[0]?.getD 0 ∧ brC zs = 0 := by simp [muA, brC, h]
theorem cp_no {zs : List Int} (h : brB zs = false) : cpA zs = 0 ∧ brC zs = 1 := by simp [cpA, brC, h]
theorem cp_yes {zs : List Int} (h : brB zs = true) : cpA zs = (zs.length : Int) - 1 ∧ brC zs = 0 := by simp [cpA, brC, h]
theorem ans_ii {w w' : World} {a b A B : Int} (h1 : a = A) (h2 : b = B) (hb : Below w.heap.size w w') : AnsII w A B (.returned (.tuple #[.int .i64 a, .int .i64 b])) w' := by subst h1; subst h2; exact ⟨rfl, hb⟩

end Go.Proofs.Ytohbgfmjnanlkaa
/- Divisors of a branch, the model's: contract of spec.l03Divisors. Conditions: stated at each theorem. -/
namespace Go.Proofs.Ytohbgfmjnanlkaa
open Go.ChangeShapes Go.WideShapes Go.ChangeAt Go.RowKit
set_option linter.unusedVariables false
set_option linter.unusedSimpArgs false

set_option maxHeartbeats 1000000 in
theorem l03Divisors_any (v : Value) (zs : List Int) (w : World) (h : ReadI w w.heap.size v zs) (hn : zs.length ≤ 1048576) (hp : brB zs = true) :
    Calls Try.prog 166 #[.agg #[v]] w fun e w' => ∃ v', e = .returned v' ∧ OwnI w' w.heap.size w'.heap.size v' (dvL 0 zs) ∧ Below w.heap.size w w' := by
  obtain ⟨n, A, c, rfl, hr, HL, HN, hnc, HF, hcm⟩ := h.split2
  rw [HL.out] at hn
  have hn0 : 0 < n := by have := brB_pos hp; rw [HL.out] at this; exact this
  have HZ := Lib.hid (dcB_range (brB_dcB hp))
  obtain ⟨a, rfl, hlt, hc0⟩ := hr.2 0 hn0
  obtain ⟨g, o, rfl⟩ := HF.out a rfl
  obtain ⟨W0, HE⟩ : ∃ W, W = w.alloc (.cells #[.slice (some ⟨g, o, none⟩) n c] 28) := ⟨_, rfl⟩
  have hb0 : Below w.heap.size w W0 := by rw [HE]; exact below_box _ _
  have hq0 : BoxI W0 w.heap.size (.slice (some ⟨g, o, none⟩) n c) := by rw [HE]; exact BoxI.new _ _ _
  have H0 := Lib.hid (hr.below hb0)
  have B0 := Lib.hid hb0
  have Q0 := Lib.hid hq0
  have HEQ := Lib.hid HE
  have hcell : W0.cell? ⟨g, o, none⟩ = some (.int .i64 (zs[0]?.getD 0)) := by
    rw [hb0.cell (p := ⟨g, o, none⟩) hlt]
    have h2 : (⟨g, o, none⟩ : Addr).add 0 = ⟨g, o, none⟩ := by rw [add_lit]; rfl
    rw [h2] at hc0; simpa using hc0
  have E0 : Hid (dvL 0 zs = [zs[0]?.getD 0] ++ dvL (zs[0]?.getD 0) (zs.drop 1)) := Lib.hid (by
    have h1 := drop_at HL.out hn0
    rw [List.drop_zero] at h1
    have hz0 := HZ.out (zs[0]?.getD 0) (by have := HL.out; simp [show 0 < zs.length by omega])
    conv => lhs; rw [h1]
    rw [dvL_first hz0.1]; rfl)
  have hz0 := HZ.out (zs[0]?.getD 0) (by have := HL.out; simp [show 0 < zs.length by omega])
  generalize zs[0]?.getD 0 = z0 at *
  have hglt : g < w.heap.size := hlt
  have hcw : w.cell? ⟨g, o, none⟩ = some (.int .i64 z0) := by rw [← hcell, hb0.cell (p := ⟨g, o, none⟩) hlt]
  have hs0 : w.heap.size < W0.heap.size := Q0.out.2
  clear h hr hb0 hq0 HE hc0 hlt
  go_enter Try.func166, Try.ntmps166
  go_wp2_with fail
  rw [← HEQ.out]
  have hsz0 : W0.heap.size = w.heap.size + 1 := by rw [HEQ.out]; simp
  have HO : Hid (OwnI (W0.alloc (.cells #[.int .i64 z0] 2)) W0.heap.size (W0.alloc (.cells #[.int .i64 z0] 2)).heap.size (.slice (some ⟨w.heap.size + 1, 0, none⟩) 1 1) [z0]) := Lib.hid (by rw [← hsz0]; exact OwnI.mk' (n := 1) (World.ownsRow_lit W0 #[.int .i64 z0] 1 (Nat.le_refl _) (by simp [maxLen]) rfl))
  have HB : Hid (Below W0.heap.size W0 (W0.alloc (.cells #[.int .i64 z0] 2))) := Lib.hid (below_box _ _)
  obtain ⟨i0, hi0, hy0, hy1, hy2⟩ := info_parts int_info
  go_loopw [3, 4] (fun vo vi wr => ∃ (k : Nat) (x : Int) (L : List Int) (A' : Option Addr) (c' : Nat), (1 ≤ k ∧ k ≤ n) ∧ (1 ≤ x ∧ x ≤ 2000) ∧ vo = .slice A' k c' ∧ vi = .int .i64 k ∧ Hid (L.length = k) ∧ Hid (L[k - 1]?.getD 0 = x) ∧ Hid (dvL 0 zs = L ++ dvL x (zs.drop k)) ∧ Hid (OwnI wr W0.heap.size wr.heap.size (.slice A' k c') L) ∧ Hid (Below W0.heap.size W0 wr)) (fun _ vi _ => n - (intOf vi).toNat)
  case atStart => exact ⟨1, z0, [z0], _, _, by omega, hz0, rfl, rfl, Lib.hid rfl, Lib.hid rfl, E0, HO, HB⟩
  case round =>
    obtain ⟨k, x, L, A', c', hk, hx, rfl, rfl, hL, hLx, hg, ho, hb⟩ := hrel
    have hcb : wr.cell? ⟨w.heap.size, 0, none⟩ = some (.slice (some ⟨g, o, none⟩) n c) := by rw [hb.out.cell (p := ⟨w.heap.size, 0, none⟩) hs0]; exact Q0.out.1
    by_cases hlt : k < n
    · obtain ⟨a, e1, _, hcell0⟩ := H0.out.2 k hlt
      cases e1
      have hz1 := HZ.out (zs[k]?.getD 0) (by have := HL.out; simp [show k < zs.length by omega])
      have HG : Hid (dvL 0 zs = (L ++ [(Int.gcd x (zs[k]?.getD 0) : Int)]) ++ dvL (Int.gcd x (zs[k]?.getD 0) : Int) (zs.drop (k + 1))) := Lib.hid (by rw [hg.out, drop_at HL.out hlt]; simp [dvL])
      have hce : wr.cell? ⟨g, o + k, none⟩ = some (.int .i64 (zs[k]?.getD 0)) := by
        rw [← add_lit, hb.out.cell (by rw [add_block]; show g < _; omega)]; simpa using hcell0
      obtain ⟨g', e1, hg1, hg2, hco, _⟩ := own_at ho.out hL.out (show k - 1 < k by omega)
      cases e1
      have hco' : wr.cell? ⟨g', k - 1, none⟩ = some (.int .i64 x) := by rw [hco, hLx.out]
      generalize zs[k]?.getD 0 = z at *
      have hgl := gcd_le_left (e := x) (z := z) hx.1
      have p1 : IntKind.i64.wrap ((k : Int) - 1) = (k : Int) - 1 := IntWalk.i64_in _ (by omega)
      have h5 : (0 : Int) ≤ (k : Int) - 1 := by omega
      have h6 : (k : Int) - 1 < (k : Int) := by omega
      have h7 : ((k : Int) - 1).toNat = k - 1 := by omega
      have h8 : (k : Int) < (n : Int) := by omega
      have h9 : (0 : Int) ≤ (k : Int) := by omega
      have h10 : k - 1 < k := by omega
      have h11 : (1 : Int) ≤ (k : Int) := by omega
      clear hcell0 hco hg
      go_wp2_with fail
      refine wp_region_held_drew (S := fun w' => w'.cell? ⟨w.heap.size, 0, none⟩ = some (.slice (some ⟨g, o, none⟩) n c) ∧ w'.cell? ⟨g, o + k, none⟩ = some (.int .i64 z)) (by kernel_rfl) ⟨hcb, hce⟩ (fun hHeld => ?_)
      refine takeY 0 _ (v := ?_) rfl rfl (by kernel_rfl) (by kernel_rfl) (by kernel_rfl) (fun _ _ _ h => h) (by kernel_rfl) ?_ (by assumption) ?_
      rotate_left 1
      · intro w hSw; (try dsimp only at hSw); go_simp; (try with_reducible rfl)
      try simp only [Act.put, List.setIfInBounds_toArray, List.set_cons_zero, List.set_cons_succ]
      refine takeY 1 _ (v := ?_) rfl rfl (by kernel_rfl) (by kernel_rfl) (by kernel_rfl) (fun _ _ _ h => h) (by kernel_rfl) ?_ (by assumption) ?_
      rotate_left 1
      · intro w hSw; (try dsimp only at hSw); go_simp; (try with_reducible rfl)
      try simp only [Act.put, List.setIfInBounds_toArray, List.set_cons_zero, List.set_cons_succ]
      refine takeY 2 _ (v := ?_) rfl rfl (by kernel_rfl) (by kernel_rfl) (by kernel_rfl) (fun _ _ _ h => h) (by kernel_rfl) ?_ (by assumption) ?_
      rotate_left 1
      · intro w hSw; (try dsimp only at hSw); go_simp; (try with_reducible rfl)
      try simp only [Act.put, List.setIfInBounds_toArray, List.set_cons_zero, List.set_cons_succ]
      refine takeY 3 _ (v := ?_) rfl rfl (by kernel_rfl) (by kernel_rfl) (by kernel_rfl) (fun _ _ _ h => h) (by kernel_rfl) ?_ (by assumption) ?_
      rotate_left 1
      · intro w hSw; (try dsimp only at hSw); go_simp; (try with_reducible rfl)
      try simp only [Act.put, List.setIfInBounds_toArray, List.set_cons_zero, List.set_cons_succ]
      refine takeY 4 _ (v := ?_) rfl rfl (by kernel_rfl) (by kernel_rfl) (by kernel_rfl) (fun _ _ _ h => h) (by kernel_rfl) ?_ (by assumption) ?_
      rotate_left 1
      · intro w hSw; (try dsimp only at hSw); go_simp; (try with_reducible rfl)
      try simp only [Act.put, List.setIfInBounds_toArray, List.set_cons_zero, List.set_cons_succ]
      refine takeY 6 _ (v := ?_) rfl rfl (by kernel_rfl) (by kernel_rfl) (by kernel_rfl) (fun _ _ _ h => h) (by kernel_rfl) ?_ (by assumption) ?_
      rotate_left 1
      · intro w hSw; (try dsimp only at hSw); go_simp; (try with_reducible rfl)
      try simp only [Act.put, List.setIfInBounds_toArray, List.set_cons_zero, List.set_cons_succ]
      refine takeY 7 _ (v := ?_) rfl rfl (by kernel_rfl) (by kernel_rfl) (by kernel_rfl) (fun _ _ _ h => h) (by kernel_rfl) ?_ (by assumption) ?_
      rotate_left 1
      · intro w hSw; (try dsimp only at hSw); go_simp; (try with_reducible rfl)
      try simp only [Act.put, List.setIfInBounds_toArray, List.set_cons_zero, List.set_cons_succ]
      refine takeY 8 _ (v := ?_) rfl rfl (by kernel_rfl) (by kernel_rfl) (by kernel_rfl) (fun _ _ _ h => h) (by kernel_rfl) ?_ (by assumption) ?_
      rotate_left 1
      · intro w hSw; (try dsimp only at hSw); go_simp; (try with_reducible rfl)
      try simp only [Act.put, List.setIfInBounds_toArray, List.set_cons_zero, List.set_cons_succ]
      refine takeY 9 _ (v := ?_) rfl rfl (by kernel_rfl) (by kernel_rfl) (by kernel_rfl) (fun _ _ _ h => h) (by kernel_rfl) ?_ (by assumption) ?_
      rotate_left 1
      · intro w hSw; (try dsimp only at hSw); go_simp; (try with_reducible rfl)
      try simp only [Act.put, List.setIfInBounds_toArray, List.set_cons_zero, List.set_cons_succ]
      refine takeY 10 _ (v := ?_) rfl rfl (by kernel_rfl) (by kernel_rfl) (by kernel_rfl) (fun _ _ _ h => h) (by kernel_rfl) ?_ (by assumption) ?_
      rotate_left 1
      · intro w hSw; (try dsimp only at hSw); go_simp; (try with_reducible rfl)
      try simp only [Act.put, List.setIfInBounds_toArray, List.set_cons_zero, List.set_cons_succ]
      refine wpAnyH_ready (rs := [5]) (by kernel_rfl) (by simp) ?_
      refine AllReadyH.cons rfl (fun K hK => ?_) AllReadyH.nil
      go_simp
      refine hK.out _ wr.drew ⟨hcb, hce⟩ (fun hHeld => ?_)
      clear hK K
      try simp only [Act.put, List.setIfInBounds_toArray, List.set_cons_zero, List.set_cons_succ]
      refine wpAnyH_ready (rs := [11]) (by kernel_rfl) (by simp) ?_
      refine AllReadyH.cons rfl (fun K hK => ?_) AllReadyH.nil
      go_simp
      refine (l01Gcd_any _ _ _ (by omega) (by omega) (by omega) (by omega)).mono ?_
      rintro e w' ⟨rfl, rfl⟩
      refine hK.out _ wr.drew ⟨hcb, hce⟩ (fun hHeld => ?_)
      clear hK K
      try simp only [Act.put, List.setIfInBounds_toArray, List.set_cons_zero, List.set_cons_succ]
      refine wpAnyH_ready (rs := [12]) (by kernel_rfl) (by simp) ?_
      refine AllReadyH.cons rfl (fun K hK => ?_) AllReadyH.nil
      go_simp
      have hlw : w.heap.size < wr.heap.size := Nat.lt_of_lt_of_le hs0 hb.out.size
      have hlg : g < wr.heap.size := by omega
      refine hK.out _ _ ⟨((below_box wr _).cell (p := ⟨w.heap.size, 0, none⟩) hlw).trans hcb, ((below_box wr _).cell (p := ⟨g, o + k, none⟩) hlg).trans hce⟩ (fun hHeld => ?_)
      clear hK K
      try simp only [Act.put, List.setIfInBounds_toArray, List.set_cons_zero, List.set_cons_succ]
      refine wpAnyH_ready (rs := [13]) (by kernel_rfl) (by simp) ?_
      refine AllReadyH.cons rfl (fun K hK => ?_) AllReadyH.nil
      try simp only [List.getElem_toArray, List.getElem_cons_succ, List.getElem_cons_zero]
      rw [if_pos (by kernel_rfl)]
      refine wp_append_lies _ (.tmp 17) (.tmp 29) 22 ?g2 W0.heap.size 2 i0 (.int .i64 0) 1 8 Try.underlying22 hi0 hy0 hy1 hy2 rfl (by decide) (.slice (some ⟨g', 0, none⟩) k c') k (L.map (.int .i64)) ?g3 ?g4 ⟨wr.heap.size, 0, none⟩ 1 1 [.int .i64 (Int.gcd x z : Int)] ?g5 rfl ?g6 ?g7 (by decide) ?g8 ?g9 ?g10 _ rfl ?g11
      case g2 => rfl
      case g3 => rfl
      case g5 => rfl
      case g4 => have h3 := ho.out.1; rw [hL.out] at h3; exact World.ownsRow.alloc h3 _
      case g6 => exact World.news_of_block (cs := #[.int .i64 (Int.gcd x z : Int)]) (t := 2) (fr := (0, 0)) (heap_alloc_new wr _)
      case g7 => simp [Value.oneCell']
      case g8 => simp only [maxLen]; omega
      case g9 => omega
      case g10 => have := hb.out.size; show W0.heap.size ≤ (wr.alloc _).heap.size; simp; omega
      intro g2 cap2 w2 hown2 hgrow _ _
      have hb2 : Below W0.heap.size W0 w2 := Below.grown (w := (wr.alloc (.cells #[.int .i64 (Int.gcd x z : Int)] 2)).drew) (below_drewN (hb.out.alloc hb.out.size _) 1) hgrow (by have := hb.out.size; show W0.heap.size ≤ (wr.alloc _).heap.size; simp; omega) (fun k hk => (Own.lt ho.out.1 k hk).1)
      have HB2 := Lib.hid hb2
      have HO2 : Hid (OwnI w2 W0.heap.size w2.heap.size (.slice (some ⟨g2, 0, none⟩) (k + 1) cap2) (L ++ [(Int.gcd x z : Int)])) := Lib.hid (OwnI.mk' (n := k + 1) (by rw [List.map_append]; exact hown2))
      refine hK.out _ _ ⟨by rw [hb2.cell (p := ⟨w.heap.size, 0, none⟩) hs0]; exact Q0.out.1, by rw [hb2.cell (p := ⟨g, o + k, none⟩) (show g < W0.heap.size by omega), ← hb.out.cell (p := ⟨g, o + k, none⟩) (show g < W0.heap.size by omega)]; exact hce⟩ (fun hHeld => ?_)
      clear hK K hb2 hown2 hgrow
      try simp only [Act.put, List.setIfInBounds_toArray, List.set_cons_zero, List.set_cons_succ]
      refine takeY 14 _ (v := ?_) rfl rfl (by kernel_rfl) (by kernel_rfl) (by kernel_rfl) (fun _ _ _ h => h) (by kernel_rfl) ?_ (by assumption) ?_
      rotate_left 1
      · intro w hSw; (try dsimp only at hSw); go_simp; (try with_reducible rfl)
      try simp only [Act.put, List.setIfInBounds_toArray, List.set_cons_zero, List.set_cons_succ]
      refine wpAnyH_done (by kernel_rfl) ?_ _
      go_wp2_with fail
      go_roundw
      case rel => exact ⟨k + 1, (Int.gcd x z : Int), L ++ [(Int.gcd x z : Int)], _, _, by omega, by omega, rfl, by go_num, Lib.hid (by simp [hL.out]), Lib.hid (by have := hL.out; subst this; simp), HG, HO2, HB2⟩
      case measure => simp [intOf]; omega
    · obtain rfl : k = n := by omega
      have E : Hid (L = dvL 0 zs) := Lib.hid (by rw [hg.out, drop_end HL.out (Nat.le_refl _)]; simp [dvL])
      go_wp2
      go_ret
      exact ⟨_, rfl, by rw [← E.out]; exact own_lessB ho.out (by omega), B0.out.trans (hb.out.mono B0.out.size)⟩
end Go.Proofs.Ytohbgfmjnanlkaa
/- DivisorsOf: contracts. Conditions: stated at each theorem. -/
namespace Go.Proofs.Ytohbgfmjnanlkaa
open Go.ChangeShapes Go.WideShapes Go.ChangeAt Go.RowKit
set_option linter.unusedVariables false
def doA (zs : List Int) : List Int := if brB zs then dvL 0 zs else []
theorem do_no {zs : List Int} (h : brB zs = false) : doA zs = [] ∧ brC zs = 1 := by simp [doA, brC, h]
theorem do_yes {zs : List Int} (h : brB zs = true) : doA zs = dvL 0 zs ∧ brC zs = 0 := by simp [doA, brC, h]
theorem doA_len {zs : List Int} (h : zs.length ≤ 1048576) : (doA zs).length ≤ 1099511627776 := by
  unfold doA; split
  · rw [dvL_len]; omega
  · simp

end Go.Proofs.Ytohbgfmjnanlkaa
/- TruncateBranch, the program's: contract. Conditions: stated at each theorem. -/
namespace Go.Proofs.Ytohbgfmjnanlkaa
open Go.ChangeShapes Go.WideShapes Go.ChangeAt Go.RowKit
set_option linter.unusedVariables false

/-- The truncation after k pairs. -/
def cutL (zs : List Int) (k : Nat) : List Int := (zs.take (k + 1)).map fun z => z.tdiv ((dvL 0 zs)[k]?.getD 0)
def tcA (zs : List Int) (k : Int) : List Int := if brB zs then (if 0 ≤ k ∧ k < (zs.length : Int) then cutL zs k.toNat else []) else []
def tcC (zs : List Int) (k : Int) : Int := if brB zs then (if 0 ≤ k ∧ k < (zs.length : Int) then 0 else 2) else 1
theorem tc_no {zs : List Int} {k : Int} (h : brB zs = false) : tcA zs k = [] ∧ tcC zs k = 1 := by simp [tcA, tcC, h]
theorem tc_out {zs : List Int} {k : Int} (h : brB zs = true) (hk : ¬(0 ≤ k ∧ k < (zs.length : Int))) : tcA zs k = [] ∧ tcC zs k = 2 := by
  unfold tcA tcC; rw [if_pos h, if_pos h, if_neg hk, if_neg hk]; exact ⟨rfl, rfl⟩
theorem tc_in {zs : List Int} {k : Nat} (h : brB zs = true) (hk : k < zs.length) : tcA zs k = cutL zs k ∧ tcC zs k = 0 := by
  have h2 : 0 ≤ (k : Int) ∧ (k : Int) < (zs.length : Int) := by omega
  unfold tcA tcC; rw [if_pos h, if_pos h, if_pos h2, if_pos h2]; exact ⟨by simp, rfl⟩
theorem tcA_len {zs : List Int} {k : Int} (h : zs.length ≤ 1048576) : (tcA zs k).length ≤ 1099511627776 := by
  unfold tcA; split
  · split
    · unfold cutL; simp; omega
    · simp
  · simp
theorem dvL_take (e : Int) (zs : List Int) (m : Nat) : dvL e (zs.take m) = (dvL e zs).take m := by
  induction zs generalizing e m with
  | nil => simp [dvL]
  | cons z zs ih => cases m with
    | zero => simp [dvL]
    | succ m => simp [dvL, ih]
theorem dvL_pos {zs : List Int} : ∀ {e : Int}, (∀ z ∈ zs, 1 ≤ z ∧ z ≤ 2000) → ∀ z ∈ dvL e zs, 1 ≤ z ∧ z ≤ 2000 := by
  induction zs with
  | nil => intro e _ z hz; cases hz
  | cons y ys ih =>
    intro e h z hz
    have h1 := gcd_le (e := e) (h y (List.mem_cons_self ..)).1
    have h2 := (h y (List.mem_cons_self ..)).2
    rcases List.mem_cons.1 hz with rfl | hz
    · omega
    · exact ih (fun x hx => h x (List.mem_cons_of_mem _ hx)) z hz
theorem tdiv_range {z e : Int} (hz : 1 ≤ z ∧ z ≤ 2000) (he : 1 ≤ e) : 0 ≤ z.tdiv e ∧ z.tdiv e ≤ 2000 := by
  rw [Int.tdiv_eq_ediv_of_nonneg (by omega)]
  exact ⟨Int.ediv_nonneg (by omega) (by omega), Int.le_trans (Int.ediv_le_self _ (by omega)) hz.2⟩
/-- The list X, its first i numbers turned by f. -/
def mixL (f : Int → Int) (X : List Int) (i : Nat) : List Int := (List.range X.length).map fun t => if t < i then f (X[t]?.getD 0) else X[t]?.getD 0
theorem mix_len (f : Int → Int) (X : List Int) (i : Nat) : (mixL f X i).length = X.length := by simp [mixL]
theorem mix_zero (f : Int → Int) (X : List Int) : mixL f X 0 = X := by
  apply List.ext_getElem?
  intro t
  by_cases h : t < X.length
  · simp [mixL, h]
  · simp [mixL, List.getElem?_eq_none (show X.length ≤ t by omega)]; omega
theorem mix_all (f : Int → Int) (X : List Int) {i : Nat} (h : X.length = i) : mixL f X i = X.map f := by
  subst h
  apply List.ext_getElem?
  intro t
  by_cases h : t < X.length
  · simp [mixL, h]
  · simp [mixL, List.getElem?_eq_none (show X.length ≤ t by omega)]; omega
theorem mix_at (f : Int → Int) (X : List Int) {i : Nat} (h : i < X.length) : (mixL f X i)[i]?.getD 0 = X[i]?.getD 0 := by simp [mixL, h]
theorem mix_set (f : Int → Int) (X : List Int) {i : Nat} (h : i < X.length) : (mixL f X i).set i (f (X[i]?.getD 0)) = mixL f X (i + 1) := by
  apply List.ext_getElem?
  intro t
  by_cases ht : t < X.length
  · by_cases e : i = t
    · subst e; simp [mixL, h]
    · by_cases e2 : t < i
      · simp [mixL, ht, e, e2, show t < i + 1 by omega]
      · simp [mixL, ht, e, e2, show ¬ t < i + 1 by omega]
  · rw [List.getElem?_eq_none (by rw [List.length_set, mix_len]; omega), List.getElem?_eq_none (by rw [mix_len]; omega)]
end Go.Proofs.Ytohbgfmjnanlkaa
/- TruncateBranch, the program's: contract. Conditions: stated at each theorem. -/
namespace Go.Proofs.Ytohbgfmjnanlkaa
open Go.ChangeShapes Go.WideShapes Go.ChangeAt Go.RowKit
set_option linter.unusedVariables false
set_option linter.unusedSimpArgs false

/-- Two blocks at the start of a function: a struct that came in, a struct that goes out. -/
structure Start (w W0 : World) (v : Value) : Prop where
  below : Below w.heap.size w W0
  box : BoxI W0 w.heap.size v
  res : BoxI W0 (w.heap.size + 1) (.slice none 0 0)
  free : W0.frozen? ⟨w.heap.size + 1, 0, none⟩ = false
  size : W0.heap.size = w.heap.size + 2
theorem Start.new (w : World) (v : Value) : Start w ((w.alloc (.cells #[v] 28)).alloc (.cells #[.slice none 0 0] 28)) v :=
  ⟨((Below.refl _ _).alloc (Nat.le_refl _) _).alloc (by simp) _, ⟨by go_simp, by simp; omega⟩, ⟨by go_simp, by simp⟩, by go_simp, by simp⟩
theorem Start.later {w W0 w1 : World} {v : Value} (h : Start w W0 v) (hb : Below W0.heap.size W0 w1) : BoxI w1 w.heap.size v ∧ w1.cell? ⟨w.heap.size + 1, 0, none⟩ = some (.slice none 0 0) ∧ w1.frozen? ⟨w.heap.size + 1, 0, none⟩ = false ∧ w.heap.size + 1 < w1.heap.size :=
  ⟨h.box.kept (Kept.of_below hb (by have := h.box.2; omega)), by rw [hb.cell (p := ⟨w.heap.size + 1, 0, none⟩) h.res.2]; exact h.res.1, by rw [hb.frozen (p := ⟨w.heap.size + 1, 0, none⟩) h.res.2]; exact h.free, Nat.lt_of_lt_of_le h.res.2 hb.size⟩
/-- The end of such a function: the answer has been stored. -/
theorem ansR_end {w w1 : World} {v : Value} {zs L : List Int} {C D : Int} (h1 : zs = L) (h2 : D = C) (ho : OwnI w1 w.heap.size w1.heap.size v zs) (hne : v.ownBlock ≠ some (w.heap.size + 1)) (hlt : w.heap.size + 1 < w1.heap.size) (hb : Below w.heap.size w w1) (u : Value) :
    AnsRC w L C (.returned (.tuple #[.agg #[v], .int .i64 D])) (w1.setCell ⟨w.heap.size + 1, 0, none⟩ u) := by
  subst h1; subst h2
  refine ⟨v, rfl, ?_, hb.setCell (by show w.heap.size ≤ w.heap.size + 1; omega) _⟩
  obtain ⟨⟨g0, g1⟩, g2, g3⟩ := ho
  refine ⟨⟨g0, ?_⟩, ?_, by simp⟩
  · rcases g1 with hn | ⟨g, cap, cur, e, hgb, hgg, rest⟩
    · exact .inl hn
    · refine .inr ⟨g, cap, cur, e, hgb, ?_, rest⟩
      rw [Below.heap_setCell w1 ⟨w.heap.size + 1, 0, none⟩ u g (by
        rintro rfl
        apply hne; rw [e]; rfl)]
      exact hgg
  · intro k hk; simpa [World.setCell] using g2 k hk

end Go.Proofs.Ytohbgfmjnanlkaa
/- A branch of a multiplicity and terms: contract of impl.branchWith; exponents: plain mathematics. Conditions: stated at each theorem. -/
namespace Go.Proofs.Ytohbgfmjnanlkaa
open Go.ChangeShapes Go.WideShapes Go.ChangeAt Go.RowKit
set_option linter.unusedVariables false
set_option linter.unusedSimpArgs false

/-- The exponents that are no multiples of the divisor before them. -/
def exL (e : Int) : List Int → List Int
  | [] => []
  | z :: zs => if z.tmod e = 0 then exL e zs else z :: exL (Int.gcd e z : Int) zs
theorem exL_len (e : Int) (zs : List Int) : (exL e zs).length ≤ zs.length := by
  induction zs generalizing e with
  | nil => simp [exL]
  | cons z zs ih =>
    unfold exL
    split
    · have := ih e; simp; omega
    · have := ih (Int.gcd e z : Int); simp; omega
theorem exL_mem (e : Int) (zs : List Int) : ∀ z ∈ exL e zs, z ∈ zs := by
  induction zs generalizing e with
  | nil => intro z h; cases h
  | cons y ys ih =>
    intro z h
    unfold exL at h
    split at h
    · exact List.mem_cons_of_mem _ (ih _ z h)
    · rcases List.mem_cons.1 h with rfl | h
      · exact List.mem_cons_self ..
      · exact List.mem_cons_of_mem _ (ih _ z h)
def boOK (n : Int) (zs : List Int) : Bool := mulB n && (decide (zs.length ≤ 64) && ascB 0 zs)
def boA (n : Int) (zs : List Int) : List Int := if boOK n zs then (if brB (n :: exL n zs) then n :: exL n zs else []) else []
def boC (n : Int) (zs : List Int) : Int := if boOK n zs then (if brB (n :: exL n zs) then 0 else 5) else 2
theorem bo_no {n : Int} {zs : List Int} (h : boOK n zs = false) : boA n zs = [] ∧ boC n zs = 2 := by simp [boA, boC, h]
theorem bo_none {n : Int} {zs : List Int} (h : boOK n zs = true) (h2 : brB (n :: exL n zs) = false) : boA n zs = [] ∧ boC n zs = 5 := by simp [boA, boC, h, h2]
theorem bo_yes {n : Int} {zs : List Int} (h : boOK n zs = true) (h2 : brB (n :: exL n zs) = true) : boA n zs = n :: exL n zs ∧ boC n zs = 0 := by simp [boA, boC, h, h2]
theorem boA_len (n : Int) (zs : List Int) (h : zs.length ≤ 1048576) : (boA n zs).length ≤ 1099511627776 := by
  have := exL_len n zs
  unfold boA; split
  · split
    · simp; omega
    · simp
  · simp
theorem asc_step {p z : Int} {r : List Int} : ascB p (z :: r) = (decide (p < z ∧ z ≤ 2000) && ascB z r) := rfl
theorem asc_no {p z : Int} {r : List Int} (h : ¬(p < z ∧ z ≤ 2000)) : ascB p (z :: r) = false := by rw [asc_step]; simp [h]
theorem asc_yes {p z : Int} {r : List Int} (h : p < z ∧ z ≤ 2000) : ascB p (z :: r) = ascB z r := by rw [asc_step]; simp [h]
theorem ex_yes {e z : Int} {zs : List Int} (h : z.tmod e = 0) : exL e (z :: zs) = exL e zs := by rw [exL, if_pos h]
theorem ex_no {e z : Int} {zs : List Int} (h : ¬ z.tmod e = 0) : exL e (z :: zs) = z :: exL (Int.gcd e z : Int) zs := by rw [exL, if_neg h]
theorem boOK_yes {n : Int} {zs : List Int} (h : boOK n zs = true) : (1 ≤ n ∧ n ≤ 64) ∧ zs.length ≤ 64 ∧ ascB 0 zs = true := by
  simp only [boOK, Bool.and_eq_true, decide_eq_true_eq] at h; exact ⟨mulB_true.1 h.1, h.2.1, h.2.2⟩
theorem boOK_no1 {n : Int} {zs : List Int} (h : mulB n = false) : boOK n zs = false := by simp [boOK, h]
theorem boOK_no2 {n : Int} {zs : List Int} (h : ¬ zs.length ≤ 64) : boOK n zs = false := by simp only [boOK]; rw [decide_eq_false h]; simp
theorem boOK_no3 {n : Int} {zs : List Int} (h : ascB 0 zs = false) : boOK n zs = false := by simp [boOK, h]
theorem ex_range {e : Int} {zs : List Int} (h : ascB 0 zs = true) : ∀ z ∈ exL e zs, 1 ≤ z ∧ z ≤ 2000 := fun z hz => by
  have := ascB_all h z (exL_mem e zs z hz); omega
theorem i64_wf {z : Int} (h1 : -9223372036854775808 ≤ z) (h2 : z ≤ 9223372036854775807) : (Lit.int .i64 z).wf = true := by
  have e1 : IntKind.i64.min = -9223372036854775808 := by rfl
  have e2 : IntKind.i64.max = 9223372036854775807 := by rfl
  simp only [Lit.wf, e1, e2, decide_eq_true h1, decide_eq_true h2, Bool.and_self]

/-! ### Turned characteristics -/
def tuB : List Int → Bool
  | n :: b :: r => decide (b < n) && dcB (n :: b :: r)
  | _ => false
def tuL : List Int → List Int
  | n :: b :: r => b :: ((if n.tmod b = 0 then [] else [n]) ++ r.map fun z => z + n - b)
  | _ => []
def tuA (zs : List Int) : List Int := if tuB zs then (if brB (tuL zs) then tuL zs else []) else []
def tuC (zs : List Int) : Int := if tuB zs then (if brB (tuL zs) then 0 else 5) else 2
theorem tu_no {zs : List Int} (h : tuB zs = false) : tuA zs = [] ∧ tuC zs = 2 := by simp [tuA, tuC, h]
theorem tu_none {zs : List Int} (h : tuB zs = true) (h2 : brB (tuL zs) = false) : tuA zs = [] ∧ tuC zs = 5 := by simp [tuA, tuC, h, h2]
theorem tu_yes {zs : List Int} (h : tuB zs = true) (h2 : brB (tuL zs) = true) : tuA zs = tuL zs ∧ tuC zs = 0 := by simp [tuA, tuC, h, h2]
theorem tuL_len (zs : List Int) : (tuL zs).length ≤ zs.length := by
  match zs with
  | [] => simp [tuL]
  | [a] => simp [tuL]
  | n :: b :: r => simp only [tuL]; split <;> simp <;> omega
theorem tuA_len {zs : List Int} (h : zs.length ≤ 1048576) : (tuA zs).length ≤ 1099511627776 := by
  have := tuL_len zs
  unfold tuA; split
  · split
    · omega
    · simp
  · simp
/-- Of a turned characteristic with 1 ≤ b < n ≤ 64 the test is that of a branch behind b. -/
theorem tuB_isB {n b : Int} {r : List Int} (hb : 1 ≤ b) (hbn : b < n) (hn : n ≤ 64) : tuB (n :: b :: r) = isB b (Int.gcd n b : Int) r := by
  have h1 : mulB n = true := mulB_true.2 (by omega)
  have h2 := gcd_le (e := n) (z := b) hb
  have h3 : (Int.gcd n b : Int) ≠ n := by omega
  have h4 : (0 < b ∧ b ≤ 2000) := by omega
  simp only [tuB, dcB, h1, hbn, decide_true, Bool.true_and, ascB, desB, isB_split]
  simp [h3, h4]
theorem tuB_no {n b : Int} {r : List Int} (h : ¬((2 ≤ n ∧ n ≤ 64) ∧ (1 ≤ b ∧ b ≤ n - 1))) : tuB (n :: b :: r) = false := by
  by_cases h0 : b < n
  · simp only [tuB, dcB, mulB, ascB]
    have : ¬((1 ≤ n ∧ n ≤ 64) ∧ (0 < b ∧ b ≤ 2000)) := by omega
    by_cases h1 : (1 ≤ n ∧ n ≤ 64)
    · have h2 : ¬ (0 < b ∧ b ≤ 2000) := fun h => this ⟨h1, h⟩
      simp [h2]
    · simp [h1]
  · simp [tuB, h0]
theorem tuB_short {zs : List Int} (h : zs.length < 2) : tuB zs = false := by
  match zs with
  | [] => rfl
  | [a] => rfl
  | n :: b :: r => simp at h; omega
end Go.Proofs.Ytohbgfmjnanlkaa
/- BranchOfExponents, the program's: contract. Conditions: stated at each theorem. -/
namespace Go.Proofs.Ytohbgfmjnanlkaa
open Go.ChangeShapes Go.WideShapes Go.ChangeAt Go.RowKit
set_option linter.unusedVariables false
set_option linter.unusedSimpArgs false

/-- The end of a function whose answer, a struct, lies in the block p: the answer has been stored. -/
theorem ansR_endG {w w1 : World} {v : Value} {zs L : List Int} {C D : Int} (p : Nat) (hp : w.heap.size ≤ p) (h1 : zs = L) (h2 : D = C) (ho : OwnI w1 w.heap.size w1.heap.size v zs) (hne : v.ownBlock ≠ some p) (hb : Below w.heap.size w w1) (u : Value) :
    AnsRC w L C (.returned (.tuple #[.agg #[v], .int .i64 D])) (w1.setCell ⟨p, 0, none⟩ u) := by
  subst h1; subst h2
  refine ⟨v, rfl, ?_, hb.setCell hp _⟩
  obtain ⟨⟨g0, g1⟩, g2, g3⟩ := ho
  refine ⟨⟨g0, ?_⟩, ?_, by simp⟩
  · rcases g1 with hn | ⟨g, cap, cur, e, hgb, hgg, rest⟩
    · exact .inl hn
    · refine .inr ⟨g, cap, cur, e, hgb, ?_, rest⟩
      rw [Below.heap_setCell w1 ⟨p, 0, none⟩ u g (by
        rintro rfl
        apply hne; rw [e]; rfl)]
      exact hgg
  · intro k hk; simpa [World.setCell] using g2 k hk
theorem areExp_if (A : Option Addr) (n c : Nat) (zs : List Int) (w : World) (B : Nat) (b : Bool) (hr : RI w B A n zs) (hl : zs.length = n) (hn : n ≤ 9223372036854775807) (hw : ∀ z ∈ zs, (Lit.int .i64 z).wf = true) (hb : ascB 0 zs = b) :
    Calls Try.prog 184 #[.slice A n c] w fun e w' => e = .returned (.bool b) ∧ w = w' := by
  subst hb; exact areExp_any A n c zs w B hr hl hn hw
/-- One block at the start of a function: a struct that goes out. -/
structure Start1 (w W0 : World) : Prop where
  below : Below w.heap.size w W0
  res : BoxI W0 w.heap.size (.slice none 0 0)
  free : W0.frozen? ⟨w.heap.size, 0, none⟩ = false
  size : W0.heap.size = w.heap.size + 1
theorem Start1.new (w : World) : Start1 w (w.alloc (.cells #[.slice none 0 0] 28)) := ⟨below_box _ _, BoxI.new _ _ _, by go_simp, by simp⟩
theorem Start1.later {w W0 w1 : World} (h : Start1 w W0) (hb : Below W0.heap.size W0 w1) : w1.cell? ⟨w.heap.size, 0, none⟩ = some (.slice none 0 0) ∧ w1.frozen? ⟨w.heap.size, 0, none⟩ = false ∧ w.heap.size < w1.heap.size :=
  ⟨by rw [hb.cell (p := ⟨w.heap.size, 0, none⟩) h.res.2]; exact h.res.1, by rw [hb.frozen (p := ⟨w.heap.size, 0, none⟩) h.res.2]; exact h.free, Nat.lt_of_lt_of_le h.res.2 hb.size⟩
theorem wfs_of {L : List Int} (h : ∀ z ∈ L, 1 ≤ z ∧ z ≤ 2000) : ∀ z ∈ L, (Lit.int .i64 z).wf = true := fun z hz => i64_wf (by have := h z hz; omega) (by have := h z hz; omega)

end Go.Proofs.Ytohbgfmjnanlkaa
/- BranchOfExponents, the model's: contract. Conditions: stated at each theorem. -/
namespace Go.Proofs.Ytohbgfmjnanlkaa
open Go.ChangeShapes Go.WideShapes Go.ChangeAt Go.RowKit
set_option linter.unusedVariables false
set_option linter.unusedSimpArgs false

theorem own_set {w : World} {lo hi : Nat} {v : Value} {zs : List Int} (h : OwnI w lo hi v zs) {p : Addr} {u : Value} (hne : v.ownBlock ≠ some p.block) : OwnI (w.setCell p u) lo hi v zs := by
  obtain ⟨⟨g0, g1⟩, g2, g3⟩ := h
  refine ⟨⟨g0, ?_⟩, g2, by simpa [World.setCell] using g3⟩
  rcases g1 with hn | ⟨g, cap, cur, e, hgb, hgg, rest⟩
  · exact .inl hn
  · refine .inr ⟨g, cap, cur, e, hgb, ?_, rest⟩
    rw [Below.heap_setCell w p u g (by
      rintro rfl
      apply hne; rw [e]; rfl)]
    exact hgg

end Go.Proofs.Ytohbgfmjnanlkaa
