/- ZB: BrM BrI BrD BrS BrW BrJ BrA BrB BrV BrU BrT BrTi BrX BrY BrZ. Conditions: stated at each theorem. -/
import Derived.Test.YtjobfjgphcaoeaaZA
import Derived.Lib.SmallJoins
import Derived.Deep.QuietTactic
import Derived.BigQuiet
import Derived.Maps.AppendAt
import Derived.Deep.AppendLies
import Derived.Laws.AppendOwnNone
/- Branches: plain mathematics of chapter 3. Conditions: stated at each theorem. -/
namespace Go.Proofs.Ytjobfjgphcaoeaa
set_option linter.unusedVariables false

/-- The greatest common divisors, one number after the other. -/
def dvL (e : Int) : List Int → List Int
  | [] => []
  | z :: zs => (Int.gcd e z : Int) :: dvL (Int.gcd e z : Int) zs
/-- The numbers ascend, from b on, and are at most 2000. -/
def ascB (b : Int) : List Int → Bool
  | [] => true
  | z :: zs => decide (b < z ∧ z ≤ 2000) && ascB z zs
/-- The divisors change with each number, and end with 1. -/
def desB (e : Int) : List Int → Bool
  | [] => e == 1
  | z :: zs => decide ((Int.gcd e z : Int) ≠ e) && desB (Int.gcd e z : Int) zs
/-- Both. -/
def isB (p e : Int) : List Int → Bool
  | [] => e == 1
  | z :: zs => decide (p < z ∧ z ≤ 2000) && (decide ((Int.gcd e z : Int) ≠ e) && isB z (Int.gcd e z : Int) zs)
def mulB (z : Int) : Bool := decide (1 ≤ z ∧ z ≤ 64)
def dcB : List Int → Bool
  | [] => false
  | n :: r => mulB n && (ascB 0 r && desB n r)
def brB : List Int → Bool
  | [] => false
  | n :: r => mulB n && isB n n r
/-- Each number is another one than that before it. -/
def chgB : List Int → Bool
  | a :: b :: r => decide (b ≠ a) && chgB (b :: r)
  | _ => true

theorem mulB_true {z : Int} : mulB z = true ↔ 1 ≤ z ∧ z ≤ 64 := by unfold mulB; simp
theorem mulB_false {z : Int} : mulB z = false ↔ ¬(1 ≤ z ∧ z ≤ 64) := by unfold mulB; simp
theorem drop_at {zs : List Int} {n k : Nat} (hl : zs.length = n) (h : k < n) : zs.drop k = (zs[k]?.getD 0) :: zs.drop (k + 1) := by
  subst hl; rw [List.drop_eq_getElem_cons h]; simp [h]
theorem drop_end {zs : List Int} {n k : Nat} (hl : zs.length = n) (h : n ≤ k) : zs.drop k = [] := List.drop_eq_nil_of_le (by omega)

theorem isB_split (e : Int) : ∀ (p : Int) (zs : List Int), isB p e zs = (ascB p zs && desB e zs) := by
  intro p zs
  induction zs generalizing p e with
  | nil => simp [isB, ascB, desB]
  | cons z zs ih => simp only [isB, ascB, desB, ih]; cases decide (p < z ∧ z ≤ 2000) <;> cases ascB z zs <;> simp
theorem ascB_less {n : Int} (hn : 1 ≤ n) (z : Int) (zs : List Int) : ascB n (z :: zs) = (ascB 0 (z :: zs) && decide (n < z)) := by
  simp only [ascB]
  by_cases h : n < z
  · have h0 : 0 < z := by omega
    simp [h, h0]
  · simp [h]
theorem brB_one {n : Int} : brB [n] = dcB [n] := by simp [brB, dcB, isB, ascB, desB]
theorem brB_more {n z : Int} {r : List Int} : brB (n :: z :: r) = (dcB (n :: z :: r) && decide (n < z)) := by
  simp only [brB, dcB]
  cases hm : mulB n
  · simp
  · rw [isB_split, ascB_less (mulB_true.1 hm).1]
    cases ascB 0 (z :: r) <;> cases desB n (z :: r) <;> simp

theorem gcd_nat (e z : Int) : (0 : Int) ≤ (Int.gcd e z : Int) := Int.natCast_nonneg _
theorem gcd_le {e z : Int} (hz : 1 ≤ z) : 1 ≤ (Int.gcd e z : Int) ∧ (Int.gcd e z : Int) ≤ z := by
  have h1 : Int.gcd e z ≠ 0 := by intro h; have := (Int.gcd_eq_zero_iff.1 h).2; omega
  have h2 : (Int.gcd e z : Int) ∣ z := Int.gcd_dvd_right _ _
  exact ⟨by omega, Int.le_of_dvd (by omega) h2⟩
theorem gcd_le_left {e z : Int} (he : 1 ≤ e) : 1 ≤ (Int.gcd e z : Int) ∧ (Int.gcd e z : Int) ≤ e := by
  rw [Int.gcd_comm]; exact gcd_le he
theorem dvL_len (e : Int) (zs : List Int) : (dvL e zs).length = zs.length := by
  induction zs generalizing e with
  | nil => rfl
  | cons z zs ih => simp [dvL, ih]
theorem ascB_all {b : Int} {zs : List Int} (h : ascB b zs = true) : ∀ z ∈ zs, b < z ∧ z ≤ 2000 := by
  induction zs generalizing b with
  | nil => intro z hz; cases hz
  | cons y ys ih =>
    simp only [ascB, Bool.and_eq_true, decide_eq_true_eq] at h
    intro z hz
    rcases List.mem_cons.1 hz with rfl | hz
    · exact h.1
    · have := ih h.2 z hz; omega
theorem dcB_parts {zs : List Int} (h : dcB zs = true) : ∃ n r, zs = n :: r ∧ (1 ≤ n ∧ n ≤ 64) ∧ ascB 0 r = true ∧ desB n r = true := by
  cases zs with
  | nil => cases h
  | cons n r =>
    simp only [dcB, Bool.and_eq_true] at h
    exact ⟨n, r, rfl, mulB_true.1 h.1, h.2.1, h.2.2⟩
theorem dcB_range {zs : List Int} (h : dcB zs = true) : ∀ z ∈ zs, 1 ≤ z ∧ z ≤ 2000 := by
  obtain ⟨n, r, rfl, hn, ha, _⟩ := dcB_parts h
  intro z hz
  rcases List.mem_cons.1 hz with rfl | hz
  · omega
  · have := ascB_all ha z hz; omega
theorem brB_dcB {zs : List Int} (h : brB zs = true) : dcB zs = true := by
  cases zs with
  | nil => cases h
  | cons n r =>
    cases r with
    | nil => rw [brB_one] at h; exact h
    | cons z r => rw [brB_more] at h; simp only [Bool.and_eq_true] at h; exact h.1
theorem brB_pos {zs : List Int} (h : brB zs = true) : 0 < zs.length := by cases zs with | nil => cases h | cons => simp
theorem chg_cons (e : Int) (zs : List Int) : chgB (e :: dvL e zs) = true ∧ (e :: dvL e zs).getLast? = some 1 ↔ desB e zs = true := by
  induction zs generalizing e with
  | nil => simp [chgB, dvL, desB]
  | cons z zs ih =>
    have h := ih (Int.gcd e z : Int)
    have e1 : (e :: dvL e (z :: zs)).getLast? = ((Int.gcd e z : Int) :: dvL (Int.gcd e z : Int) zs).getLast? := by simp [dvL, List.getLast?_cons_cons]
    rw [e1]
    simp only [dvL, chgB, desB, Bool.and_eq_true, decide_eq_true_eq, and_assoc]
    rw [← h]
theorem dvL_first {n : Int} (hn : 1 ≤ n) (r : List Int) : dvL 0 (n :: r) = n :: dvL n r := by
  have : (Int.gcd 0 n : Int) = n := by simp; omega
  simp only [dvL, this]
theorem dcB_split {n : Int} {r : List Int} : dcB (n :: r) = (mulB n && (ascB 0 r && (chgB (dvL 0 (n :: r)) && decide ((dvL 0 (n :: r)).getLast? = some 1)))) := by
  simp only [dcB]
  cases hm : mulB n
  · simp
  · rw [dvL_first (mulB_true.1 hm).1]
    have := chg_cons n r
    cases hd : desB n r
    · have h2 : ¬(chgB (n :: dvL n r) = true ∧ (n :: dvL n r).getLast? = some 1) := fun h => by rw [this.1 h] at hd; cases hd
      cases hc : chgB (n :: dvL n r)
      · simp
      · have h3 : ¬ (n :: dvL n r).getLast? = some 1 := fun h => h2 ⟨hc, h⟩
        simp [h3]
    · have h2 := this.2 hd
      simp [h2.1, h2.2]
theorem chg_at {L : List Int} {n k : Nat} (hl : L.length = n) (h : k + 1 < n) : chgB (L.drop k) = (decide (L[k + 1]?.getD 0 ≠ L[k]?.getD 0) && chgB (L.drop (k + 1))) := by
  rw [drop_at hl (by omega), drop_at hl h]
  simp only [chgB]
theorem chg_end {L : List Int} {n k : Nat} (hl : L.length = n) (h : n ≤ k + 1) : chgB (L.drop k) = true := by
  have : (L.drop k).length ≤ 1 := by simp; omega
  match hd : L.drop k with
  | [] => rfl
  | [a] => rfl
  | a :: b :: r => rw [hd] at this; simp at this
theorem last_at {L : List Int} {n : Nat} (hl : L.length = n) (h : 0 < n) : L.getLast? = some (L[n - 1]?.getD 0) := by
  subst hl
  rw [List.getLast?_eq_getElem?]
  simp [show L.length - 1 < L.length by omega]
theorem gcd_range {e z : Int} (he : 0 ≤ e ∧ e ≤ 2000) (hz : 1 ≤ z ∧ z ≤ 2000) : 0 ≤ (Int.gcd e z : Int) ∧ (Int.gcd e z : Int) ≤ 2000 := by
  have := gcd_le (e := e) hz.1; omega
theorem dvL_rangeE {zs : List Int} : ∀ {e : Int}, (0 ≤ e ∧ e ≤ 2000) → (∀ z ∈ zs, 1 ≤ z ∧ z ≤ 2000) → ∀ z ∈ dvL e zs, 0 ≤ z ∧ z ≤ 2000 := by
  induction zs with
  | nil => intro e _ _ z hz; cases hz
  | cons y ys ih =>
    intro e he h z hz
    have h1 := gcd_range he (h y (List.mem_cons_self ..))
    rcases List.mem_cons.1 hz with rfl | hz
    · exact h1
    · exact ih h1 (fun x hx => h x (List.mem_cons_of_mem _ hx)) z hz
theorem dvL_range {zs : List Int} (h : ∀ z ∈ zs, 1 ≤ z ∧ z ≤ 2000) : ∀ z ∈ dvL 0 zs, 0 ≤ z ∧ z ≤ 2000 := dvL_rangeE (by omega) h
theorem range_of {D : List Int} (h : ∀ z ∈ D, 0 ≤ z ∧ z ≤ 2000) (k : Nat) : 0 ≤ D[k]?.getD 0 ∧ D[k]?.getD 0 ≤ 2000 := by
  by_cases hk : k < D.length
  · have := h D[k] (List.getElem_mem _); simpa [hk] using this
  · simp [List.getElem?_eq_none (show D.length ≤ k by omega)]
end Go.Proofs.Ytjobfjgphcaoeaa
/- Branches, the program's side: contracts of impl.isMultiplicity, impl.isTerm, impl.areExponents, impl.divisorsOfTerms. Conditions: stated at each theorem. -/
namespace Go.Proofs.Ytjobfjgphcaoeaa
open Go.ChangeShapes Go.WideShapes Go.ChangeAt Go.RowKit
set_option linter.unusedVariables false

theorem ret_boolB {a b : Bool} (h : a = b) : Ending.returned (.bool a) = .returned (.bool b) := by rw [h]
theorem row_ownB {w : World} {g n lo : Nat} {zs : List Int} (h : w.rowIs g 2 n (fun x => if x < n then .int .i64 (zs.getD x 0) else .int .i64 0)) (hl : zs.length = n) (hlo : lo ≤ g) (hn : n ≤ 9223372036854775807) :
    OwnI w lo w.heap.size (.slice (some ⟨g, 0, none⟩) n n) zs := by
  obtain ⟨cs, h1, h2, h3⟩ := h
  refine OwnI.mk' (n := n) ⟨by simp [hl], .inr ⟨g, n, cs, rfl, hlo, h1, Nat.le_refl _, by unfold maxLen; omega, by omega, ?_⟩⟩
  apply List.ext_getElem?
  intro i
  by_cases hi : i < n
  · have := h3 i hi
    simp only [Nat.mul_one, List.getElem?_take, hi, if_true, Array.getElem?_toList, this]
    simp [hl, hi]
  · rw [List.getElem?_eq_none (by simp; omega), List.getElem?_eq_none (by simp; omega)]

end Go.Proofs.Ytjobfjgphcaoeaa
/- Branches, the program's side: contracts of impl.descendsToOne and impl.IsBranch. Conditions: stated at each theorem. -/
namespace Go.Proofs.Ytjobfjgphcaoeaa
open Go.ChangeShapes Go.WideShapes Go.ChangeAt Go.RowKit
set_option linter.unusedVariables false

theorem RI.tail {w : World} {B n g o : Nat} {z : Int} {zs : List Int} (h : RI w B (some ⟨g, o, none⟩) (n + 1) (z :: zs)) : RI w B (some ⟨g, o + 1, none⟩) n zs :=
  ⟨by have := h.1; simpa using this, fun k hk => by
    obtain ⟨a, e, hlt, hc⟩ := h.2 (k + 1) (by omega)
    cases e
    refine ⟨_, rfl, hlt, ?_⟩
    have e2 : (⟨g, o, none⟩ : Addr).add (k + 1) = (⟨g, o + 1, none⟩ : Addr).add k := by unfold Addr.add; split <;> simp_all [Nat.add_left_comm, Nat.add_comm]
    rw [← e2, hc]; simp [List.getD]⟩

theorem first_tail {w : World} {B m g o x : Nat} {r : List Int} (h : RI w B (some ⟨g, o + 1, none⟩) m r) (hx : x = o + 1 ∨ m ≤ 0) : RI w B (some ⟨g, x, none⟩) m r := by
  rcases hx with rfl | h0
  · exact h
  · exact ⟨h.1, fun k hk => by omega⟩

end Go.Proofs.Ytjobfjgphcaoeaa
/- Branches, the model's side: contracts of spec.l03Is. Conditions: stated at each theorem. -/
namespace Go.Proofs.Ytjobfjgphcaoeaa
open Go.ChangeShapes Go.WideShapes Go.ChangeAt Go.RowKit
set_option linter.unusedVariables false

theorem brB_isB {z : Int} {r : List Int} (h : mulB z = true) : brB (z :: r) = isB z z r := by simp [brB, h]
theorem isB_step {p e z : Int} {r : List Int} : isB p e (z :: r) = (decide (p < z ∧ z ≤ 2000) && (decide ((Int.gcd e z : Int) ≠ e) && isB z (Int.gcd e z : Int) r)) := rfl
theorem quietN {n l h : Int} {w : World} {q : Nat} (h1 : ¬ (l ≤ n ∧ n ≤ h)) :
    Calls Try.prog 67 #[.int .i64 n, .int .i64 l, .int .i64 h] (w.drewN q) fun e w'' => e = .returned (.bool false) ∧ ∃ m, w'' = w.drewN m :=
  (inN n l h _ h1).mono fun e w' ⟨he, hw⟩ => ⟨he, q, hw.symm⟩
theorem quietY {n l h : Int} {w : World} {q : Nat} (h1 : l ≤ n) (h2 : n ≤ h) :
    Calls Try.prog 67 #[.int .i64 n, .int .i64 l, .int .i64 h] (w.drewN q) fun e w'' => e = .returned (.bool true) ∧ ∃ m, w'' = w.drewN m :=
  (inY n l h _ h1 h2).mono fun e w' ⟨he, hw⟩ => ⟨he, q, hw.symm⟩
theorem add_lit (g o k : Nat) : (⟨g, o, none⟩ : Addr).add k = ⟨g, o + k, none⟩ := by unfold Addr.add; split <;> simp_all
theorem below_box (w : World) (o : Obj) : Below w.heap.size w (w.alloc o) := (Below.refl _ _).alloc (Nat.le_refl _) o

end Go.Proofs.Ytjobfjgphcaoeaa
/- Branches in a law: a struct of one slice that comes in, contracts of laws.toBranch, eqBranch, markBranch, heldBranch, szBranch. Conditions: stated at each theorem. -/
namespace Go.Proofs.Ytjobfjgphcaoeaa
open Go.ChangeShapes Go.WideShapes Go.ChangeAt Go.RowKit Go.Joins Go.Deep
set_option linter.unusedVariables false

theorem bcellB {W w1 : World} (hb : Below W.heap.size W w1) : (∀ b o, b < W.heap.size → w1.cell? ⟨b, o, none⟩ = W.cell? ⟨b, o, none⟩) ∧ (∀ b o, b < W.heap.size → w1.frozen? ⟨b, o, none⟩ = W.frozen? ⟨b, o, none⟩) :=
  ⟨fun b o h => hb.cell (p := ⟨b, o, none⟩) h, fun b o h => hb.frozen (p := ⟨b, o, none⟩) h⟩
theorem keptS {lo hi : Nat} (w : World) {p : Addr} (h : p.block < lo) (u : Value) : Kept lo hi w (w.setCell p u) :=
  ⟨by simp [World.setCell], fun b h1 h2 => Below.heap_setCell w p u b (by omega)⟩
theorem own_lessB {w : World} {lo lo' hi : Nat} {v : Value} {zs : List Int} (h : OwnI w lo hi v zs) (hl : lo' ≤ lo) : OwnI w lo' hi v zs := by
  obtain ⟨⟨h0, h1⟩, h2, h3⟩ := h
  refine ⟨⟨h0, ?_⟩, h2, h3⟩
  rcases h1 with hn | ⟨g, cap, cur, e, hb, rest⟩
  · exact .inl hn
  · exact .inr ⟨g, cap, cur, e, by omega, rest⟩
theorem below_box2 (w : World) (o : Obj) : Below w.heap.size w (w.alloc o) := (Below.refl _ _).alloc (Nat.le_refl _) o

/-- The one cell of block b holds v. -/
def BoxI (w : World) (b : Nat) (v : Value) : Prop := w.cell? ⟨b, 0, none⟩ = some v ∧ b < w.heap.size
theorem BoxI.kept {w w' : World} {b : Nat} {v : Value} (h : BoxI w b v) (k : Kept b (b + 1) w w') : BoxI w' b v :=
  ⟨by have := k.block b (Nat.le_refl _) (Nat.lt_succ_self _)
      have h1 := h.1
      unfold World.cell? at h1 ⊢
      simpa [this] using h1, Nat.lt_of_lt_of_le h.2 k.size⟩
theorem BoxI.new (w : World) (v : Value) (t : TypeId) : BoxI (w.alloc (.cells #[v] t)) w.heap.size v := ⟨by go_simp, by simp⟩
/-- An answer: a branch and a code. -/
def AnsRC (w : World) (L : List Int) (C : Int) (e : Ending) (w' : World) : Prop := ∃ v, e = .returned (.tuple #[.agg #[v], .int .i64 C]) ∧ OwnI w' w.heap.size w'.heap.size v L ∧ Below w.heap.size w w'
end Go.Proofs.Ytjobfjgphcaoeaa
/- Branches, the program's side: contract of impl.IsBranch. Conditions: stated at each theorem. -/
namespace Go.Proofs.Ytjobfjgphcaoeaa
open Go.ChangeShapes Go.WideShapes Go.ChangeAt Go.RowKit
set_option linter.unusedVariables false
set_option linter.unusedSimpArgs false

end Go.Proofs.Ytjobfjgphcaoeaa
/- spec.IsBranch: a contract; the model's test and the program's in the forms that a guard takes. Conditions: stated at each theorem. -/
namespace Go.Proofs.Ytjobfjgphcaoeaa
open Go.ChangeShapes Go.WideShapes Go.ChangeAt Go.RowKit
set_option linter.unusedVariables false
end Go.Proofs.Ytjobfjgphcaoeaa
/- MultiplicityOf, CountPairs: contracts. Conditions: stated at each theorem. -/
namespace Go.Proofs.Ytjobfjgphcaoeaa
open Go.ChangeShapes Go.WideShapes Go.ChangeAt Go.RowKit
set_option linter.unusedVariables false
def muA (zs : List Int) : Int := if brB zs then zs[0]?.getD 0 else 0
def brC (zs : List Int) : Int := if brB zs then 0 else 1
def cpA (zs : List Int) : Int := if brB zs then (zs.length : Int) - 1 else 0
theorem mu_no {zs : List Int} (h : brB zs = false) : muA zs = 0 ∧ brC zs = 1 := by simp [muA, brC, h]
theorem mu_yes {zs : List Int} (h : brB zs = true) : muA zs = zs[0]?.getD 0 ∧ brC zs = 0 := by simp [muA, brC, h]
theorem cp_no {zs : List Int} (h : brB zs = false) : cpA zs = 0 ∧ brC zs = 1 := by simp [cpA, brC, h]
theorem cp_yes {zs : List Int} (h : brB zs = true) : cpA zs = (zs.length : Int) - 1 ∧ brC zs = 0 := by simp [cpA, brC, h]
theorem ans_ii {w w' : World} {a b A B : Int} (h1 : a = A) (h2 : b = B) (hb : Below w.heap.size w w') : AnsII w A B (.returned (.tuple #[.int .i64 a, .int .i64 b])) w' := by subst h1; subst h2; exact ⟨rfl, hb⟩

end Go.Proofs.Ytjobfjgphcaoeaa
/- Divisors of a branch, the model's: contract of spec.l03Divisors. Conditions: stated at each theorem. -/
namespace Go.Proofs.Ytjobfjgphcaoeaa
open Go.ChangeShapes Go.WideShapes Go.ChangeAt Go.RowKit
set_option linter.unusedVariables false
set_option linter.unusedSimpArgs false

end Go.Proofs.Ytjobfjgphcaoeaa
/- DivisorsOf: contracts. Conditions: stated at each theorem. -/
namespace Go.Proofs.Ytjobfjgphcaoeaa
open Go.ChangeShapes Go.WideShapes Go.ChangeAt Go.RowKit
set_option linter.unusedVariables false
def doA (zs : List Int) : List Int := if brB zs then dvL 0 zs else []
theorem do_no {zs : List Int} (h : brB zs = false) : doA zs = [] ∧ brC zs = 1 := by simp [doA, brC, h]
theorem do_yes {zs : List Int} (h : brB zs = true) : doA zs = dvL 0 zs ∧ brC zs = 0 := by simp [doA, brC, h]
theorem doA_len {zs : List Int} (h : zs.length ≤ 1048576) : (doA zs).length ≤ 1099511627776 := by
  unfold doA; split
  · rw [dvL_len]; omega
  · simp

end Go.Proofs.Ytjobfjgphcaoeaa
/- TruncateBranch, the program's: contract. Conditions: stated at each theorem. -/
namespace Go.Proofs.Ytjobfjgphcaoeaa
open Go.ChangeShapes Go.WideShapes Go.ChangeAt Go.RowKit
set_option linter.unusedVariables false

/-- The truncation after k pairs. -/
def cutL (zs : List Int) (k : Nat) : List Int := (zs.take (k + 1)).map fun z => z.tdiv ((dvL 0 zs)[k]?.getD 0)
def tcA (zs : List Int) (k : Int) : List Int := if brB zs then (if 0 ≤ k ∧ k < (zs.length : Int) then cutL zs k.toNat else []) else []
def tcC (zs : List Int) (k : Int) : Int := if brB zs then (if 0 ≤ k ∧ k < (zs.length : Int) then 0 else 2) else 1
theorem tc_no {zs : List Int} {k : Int} (h : brB zs = false) : tcA zs k = [] ∧ tcC zs k = 1 := by simp [tcA, tcC, h]
theorem tc_out {zs : List Int} {k : Int} (h : brB zs = true) (hk : ¬(0 ≤ k ∧ k < (zs.length : Int))) : tcA zs k = [] ∧ tcC zs k = 2 := by
  unfold tcA tcC; rw [if_pos h, if_pos h, if_neg hk, if_neg hk]; exact ⟨rfl, rfl⟩
theorem tc_in {zs : List Int} {k : Nat} (h : brB zs = true) (hk : k < zs.length) : tcA zs k = cutL zs k ∧ tcC zs k = 0 := by
  have h2 : 0 ≤ (k : Int) ∧ (k : Int) < (zs.length : Int) := by omega
  unfold tcA tcC; rw [if_pos h, if_pos h, if_pos h2, if_pos h2]; exact ⟨by simp, rfl⟩
theorem tcA_len {zs : List Int} {k : Int} (h : zs.length ≤ 1048576) : (tcA zs k).length ≤ 1099511627776 := by
  unfold tcA; split
  · split
    · unfold cutL; simp; omega
    · simp
  · simp
theorem dvL_take (e : Int) (zs : List Int) (m : Nat) : dvL e (zs.take m) = (dvL e zs).take m := by
  induction zs generalizing e m with
  | nil => simp [dvL]
  | cons z zs ih => cases m with
    | zero => simp [dvL]
    | succ m => simp [dvL, ih]
theorem dvL_pos {zs : List Int} : ∀ {e : Int}, (∀ z ∈ zs, 1 ≤ z ∧ z ≤ 2000) → ∀ z ∈ dvL e zs, 1 ≤ z ∧ z ≤ 2000 := by
  induction zs with
  | nil => intro e _ z hz; cases hz
  | cons y ys ih =>
    intro e h z hz
    have h1 := gcd_le (e := e) (h y (List.mem_cons_self ..)).1
    have h2 := (h y (List.mem_cons_self ..)).2
    rcases List.mem_cons.1 hz with rfl | hz
    · omega
    · exact ih (fun x hx => h x (List.mem_cons_of_mem _ hx)) z hz
theorem tdiv_range {z e : Int} (hz : 1 ≤ z ∧ z ≤ 2000) (he : 1 ≤ e) : 0 ≤ z.tdiv e ∧ z.tdiv e ≤ 2000 := by
  rw [Int.tdiv_eq_ediv_of_nonneg (by omega)]
  exact ⟨Int.ediv_nonneg (by omega) (by omega), Int.le_trans (Int.ediv_le_self _ (by omega)) hz.2⟩
/-- The list X, its first i numbers turned by f. -/
def mixL (f : Int → Int) (X : List Int) (i : Nat) : List Int := (List.range X.length).map fun t => if t < i then f (X[t]?.getD 0) else X[t]?.getD 0
theorem mix_len (f : Int → Int) (X : List Int) (i : Nat) : (mixL f X i).length = X.length := by simp [mixL]
theorem mix_zero (f : Int → Int) (X : List Int) : mixL f X 0 = X := by
  apply List.ext_getElem?
  intro t
  by_cases h : t < X.length
  · simp [mixL, h]
  · simp [mixL, List.getElem?_eq_none (show X.length ≤ t by omega)]; omega
theorem mix_all (f : Int → Int) (X : List Int) {i : Nat} (h : X.length = i) : mixL f X i = X.map f := by
  subst h
  apply List.ext_getElem?
  intro t
  by_cases h : t < X.length
  · simp [mixL, h]
  · simp [mixL, List.getElem?_eq_none (show X.length ≤ t by omega)]; omega
theorem mix_at (f : Int → Int) (X : List Int) {i : Nat} (h : i < X.length) : (mixL f X i)[i]?.getD 0 = X[i]?.getD 0 := by simp [mixL, h]
theorem mix_set (f : Int → Int) (X : List Int) {i : Nat} (h : i < X.length) : (mixL f X i).set i (f (X[i]?.getD 0)) = mixL f X (i + 1) := by
  apply List.ext_getElem?
  intro t
  by_cases ht : t < X.length
  · by_cases e : i = t
    · subst e; simp [mixL, h]
    · by_cases e2 : t < i
      · simp [mixL, ht, e, e2, show t < i + 1 by omega]
      · simp [mixL, ht, e, e2, show ¬ t < i + 1 by omega]
  · rw [List.getElem?_eq_none (by rw [List.length_set, mix_len]; omega), List.getElem?_eq_none (by rw [mix_len]; omega)]
end Go.Proofs.Ytjobfjgphcaoeaa
/- TruncateBranch, the program's: contract. Conditions: stated at each theorem. -/
namespace Go.Proofs.Ytjobfjgphcaoeaa
open Go.ChangeShapes Go.WideShapes Go.ChangeAt Go.RowKit
set_option linter.unusedVariables false
set_option linter.unusedSimpArgs false

/-- Two blocks at the start of a function: a struct that came in, a struct that goes out. -/
structure Start (w W0 : World) (v : Value) : Prop where
  below : Below w.heap.size w W0
  box : BoxI W0 w.heap.size v
  res : BoxI W0 (w.heap.size + 1) (.slice none 0 0)
  free : W0.frozen? ⟨w.heap.size + 1, 0, none⟩ = false
  size : W0.heap.size = w.heap.size + 2
theorem Start.later {w W0 w1 : World} {v : Value} (h : Start w W0 v) (hb : Below W0.heap.size W0 w1) : BoxI w1 w.heap.size v ∧ w1.cell? ⟨w.heap.size + 1, 0, none⟩ = some (.slice none 0 0) ∧ w1.frozen? ⟨w.heap.size + 1, 0, none⟩ = false ∧ w.heap.size + 1 < w1.heap.size :=
  ⟨h.box.kept (Kept.of_below hb (by have := h.box.2; omega)), by rw [hb.cell (p := ⟨w.heap.size + 1, 0, none⟩) h.res.2]; exact h.res.1, by rw [hb.frozen (p := ⟨w.heap.size + 1, 0, none⟩) h.res.2]; exact h.free, Nat.lt_of_lt_of_le h.res.2 hb.size⟩
/-- The end of such a function: the answer has been stored. -/
theorem ansR_end {w w1 : World} {v : Value} {zs L : List Int} {C D : Int} (h1 : zs = L) (h2 : D = C) (ho : OwnI w1 w.heap.size w1.heap.size v zs) (hne : v.ownBlock ≠ some (w.heap.size + 1)) (hlt : w.heap.size + 1 < w1.heap.size) (hb : Below w.heap.size w w1) (u : Value) :
    AnsRC w L C (.returned (.tuple #[.agg #[v], .int .i64 D])) (w1.setCell ⟨w.heap.size + 1, 0, none⟩ u) := by
  subst h1; subst h2
  refine ⟨v, rfl, ?_, hb.setCell (by show w.heap.size ≤ w.heap.size + 1; omega) _⟩
  obtain ⟨⟨g0, g1⟩, g2, g3⟩ := ho
  refine ⟨⟨g0, ?_⟩, ?_, by simp⟩
  · rcases g1 with hn | ⟨g, cap, cur, e, hgb, hgg, rest⟩
    · exact .inl hn
    · refine .inr ⟨g, cap, cur, e, hgb, ?_, rest⟩
      rw [Below.heap_setCell w1 ⟨w.heap.size + 1, 0, none⟩ u g (by
        rintro rfl
        apply hne; rw [e]; rfl)]
      exact hgg
  · intro k hk; simpa [World.setCell] using g2 k hk

end Go.Proofs.Ytjobfjgphcaoeaa
/- A branch of a multiplicity and terms: contract of impl.branchWith; exponents: plain mathematics. Conditions: stated at each theorem. -/
namespace Go.Proofs.Ytjobfjgphcaoeaa
open Go.ChangeShapes Go.WideShapes Go.ChangeAt Go.RowKit
set_option linter.unusedVariables false
set_option linter.unusedSimpArgs false

/-- The exponents that are no multiples of the divisor before them. -/
def exL (e : Int) : List Int → List Int
  | [] => []
  | z :: zs => if z.tmod e = 0 then exL e zs else z :: exL (Int.gcd e z : Int) zs
theorem exL_len (e : Int) (zs : List Int) : (exL e zs).length ≤ zs.length := by
  induction zs generalizing e with
  | nil => simp [exL]
  | cons z zs ih =>
    unfold exL
    split
    · have := ih e; simp; omega
    · have := ih (Int.gcd e z : Int); simp; omega
theorem exL_mem (e : Int) (zs : List Int) : ∀ z ∈ exL e zs, z ∈ zs := by
  induction zs generalizing e with
  | nil => intro z h; cases h
  | cons y ys ih =>
    intro z h
    unfold exL at h
    split at h
    · exact List.mem_cons_of_mem _ (ih _ z h)
    · rcases List.mem_cons.1 h with rfl | h
      · exact List.mem_cons_self ..
      · exact List.mem_cons_of_mem _ (ih _ z h)
def boOK (n : Int) (zs : List Int) : Bool := mulB n && (decide (zs.length ≤ 64) && ascB 0 zs)
def boA (n : Int) (zs : List Int) : List Int := if boOK n zs then (if brB (n :: exL n zs) then n :: exL n zs else []) else []
def boC (n : Int) (zs : List Int) : Int := if boOK n zs then (if brB (n :: exL n zs) then 0 else 5) else 2
theorem bo_no {n : Int} {zs : List Int} (h : boOK n zs = false) : boA n zs = [] ∧ boC n zs = 2 := by simp [boA, boC, h]
theorem bo_none {n : Int} {zs : List Int} (h : boOK n zs = true) (h2 : brB (n :: exL n zs) = false) : boA n zs = [] ∧ boC n zs = 5 := by simp [boA, boC, h, h2]
theorem bo_yes {n : Int} {zs : List Int} (h : boOK n zs = true) (h2 : brB (n :: exL n zs) = true) : boA n zs = n :: exL n zs ∧ boC n zs = 0 := by simp [boA, boC, h, h2]
theorem boA_len (n : Int) (zs : List Int) (h : zs.length ≤ 1048576) : (boA n zs).length ≤ 1099511627776 := by
  have := exL_len n zs
  unfold boA; split
  · split
    · simp; omega
    · simp
  · simp
theorem asc_step {p z : Int} {r : List Int} : ascB p (z :: r) = (decide (p < z ∧ z ≤ 2000) && ascB z r) := rfl
theorem asc_no {p z : Int} {r : List Int} (h : ¬(p < z ∧ z ≤ 2000)) : ascB p (z :: r) = false := by rw [asc_step]; simp [h]
theorem asc_yes {p z : Int} {r : List Int} (h : p < z ∧ z ≤ 2000) : ascB p (z :: r) = ascB z r := by rw [asc_step]; simp [h]
theorem ex_yes {e z : Int} {zs : List Int} (h : z.tmod e = 0) : exL e (z :: zs) = exL e zs := by rw [exL, if_pos h]
theorem ex_no {e z : Int} {zs : List Int} (h : ¬ z.tmod e = 0) : exL e (z :: zs) = z :: exL (Int.gcd e z : Int) zs := by rw [exL, if_neg h]
theorem boOK_yes {n : Int} {zs : List Int} (h : boOK n zs = true) : (1 ≤ n ∧ n ≤ 64) ∧ zs.length ≤ 64 ∧ ascB 0 zs = true := by
  simp only [boOK, Bool.and_eq_true, decide_eq_true_eq] at h; exact ⟨mulB_true.1 h.1, h.2.1, h.2.2⟩
theorem boOK_no1 {n : Int} {zs : List Int} (h : mulB n = false) : boOK n zs = false := by simp [boOK, h]
theorem boOK_no2 {n : Int} {zs : List Int} (h : ¬ zs.length ≤ 64) : boOK n zs = false := by simp only [boOK]; rw [decide_eq_false h]; simp
theorem boOK_no3 {n : Int} {zs : List Int} (h : ascB 0 zs = false) : boOK n zs = false := by simp [boOK, h]
theorem ex_range {e : Int} {zs : List Int} (h : ascB 0 zs = true) : ∀ z ∈ exL e zs, 1 ≤ z ∧ z ≤ 2000 := fun z hz => by
  have := ascB_all h z (exL_mem e zs z hz); omega
theorem i64_wf {z : Int} (h1 : -9223372036854775808 ≤ z) (h2 : z ≤ 9223372036854775807) : (Lit.int .i64 z).wf = true := by
  have e1 : IntKind.i64.min = -9223372036854775808 := by rfl
  have e2 : IntKind.i64.max = 9223372036854775807 := by rfl
  simp only [Lit.wf, e1, e2, decide_eq_true h1, decide_eq_true h2, Bool.and_self]

/-! ### Turned characteristics -/
def tuB : List Int → Bool
  | n :: b :: r => decide (b < n) && dcB (n :: b :: r)
  | _ => false
def tuL : List Int → List Int
  | n :: b :: r => b :: ((if n.tmod b = 0 then [] else [n]) ++ r.map fun z => z + n - b)
  | _ => []
def tuA (zs : List Int) : List Int := if tuB zs then (if brB (tuL zs) then tuL zs else []) else []
def tuC (zs : List Int) : Int := if tuB zs then (if brB (tuL zs) then 0 else 5) else 2
theorem tu_no {zs : List Int} (h : tuB zs = false) : tuA zs = [] ∧ tuC zs = 2 := by simp [tuA, tuC, h]
theorem tu_none {zs : List Int} (h : tuB zs = true) (h2 : brB (tuL zs) = false) : tuA zs = [] ∧ tuC zs = 5 := by simp [tuA, tuC, h, h2]
theorem tu_yes {zs : List Int} (h : tuB zs = true) (h2 : brB (tuL zs) = true) : tuA zs = tuL zs ∧ tuC zs = 0 := by simp [tuA, tuC, h, h2]
theorem tuL_len (zs : List Int) : (tuL zs).length ≤ zs.length := by
  match zs with
  | [] => simp [tuL]
  | [a] => simp [tuL]
  | n :: b :: r => simp only [tuL]; split <;> simp <;> omega
theorem tuA_len {zs : List Int} (h : zs.length ≤ 1048576) : (tuA zs).length ≤ 1099511627776 := by
  have := tuL_len zs
  unfold tuA; split
  · split
    · omega
    · simp
  · simp
/-- Of a turned characteristic with 1 ≤ b < n ≤ 64 the test is that of a branch behind b. -/
theorem tuB_isB {n b : Int} {r : List Int} (hb : 1 ≤ b) (hbn : b < n) (hn : n ≤ 64) : tuB (n :: b :: r) = isB b (Int.gcd n b : Int) r := by
  have h1 : mulB n = true := mulB_true.2 (by omega)
  have h2 := gcd_le (e := n) (z := b) hb
  have h3 : (Int.gcd n b : Int) ≠ n := by omega
  have h4 : (0 < b ∧ b ≤ 2000) := by omega
  simp only [tuB, dcB, h1, hbn, decide_true, Bool.true_and, ascB, desB, isB_split]
  simp [h3, h4]
theorem tuB_no {n b : Int} {r : List Int} (h : ¬((2 ≤ n ∧ n ≤ 64) ∧ (1 ≤ b ∧ b ≤ n - 1))) : tuB (n :: b :: r) = false := by
  by_cases h0 : b < n
  · simp only [tuB, dcB, mulB, ascB]
    have : ¬((1 ≤ n ∧ n ≤ 64) ∧ (0 < b ∧ b ≤ 2000)) := by omega
    by_cases h1 : (1 ≤ n ∧ n ≤ 64)
    · have h2 : ¬ (0 < b ∧ b ≤ 2000) := fun h => this ⟨h1, h⟩
      simp [h2]
    · simp [h1]
  · simp [tuB, h0]
theorem tuB_short {zs : List Int} (h : zs.length < 2) : tuB zs = false := by
  match zs with
  | [] => rfl
  | [a] => rfl
  | n :: b :: r => simp at h; omega
end Go.Proofs.Ytjobfjgphcaoeaa
/- BranchOfExponents, the program's: contract. Conditions: stated at each theorem. -/
namespace Go.Proofs.Ytjobfjgphcaoeaa
open Go.ChangeShapes Go.WideShapes Go.ChangeAt Go.RowKit
set_option linter.unusedVariables false
set_option linter.unusedSimpArgs false

/-- The end of a function whose answer, a struct, lies in the block p: the answer has been stored. -/
theorem ansR_endG {w w1 : World} {v : Value} {zs L : List Int} {C D : Int} (p : Nat) (hp : w.heap.size ≤ p) (h1 : zs = L) (h2 : D = C) (ho : OwnI w1 w.heap.size w1.heap.size v zs) (hne : v.ownBlock ≠ some p) (hb : Below w.heap.size w w1) (u : Value) :
    AnsRC w L C (.returned (.tuple #[.agg #[v], .int .i64 D])) (w1.setCell ⟨p, 0, none⟩ u) := by
  subst h1; subst h2
  refine ⟨v, rfl, ?_, hb.setCell hp _⟩
  obtain ⟨⟨g0, g1⟩, g2, g3⟩ := ho
  refine ⟨⟨g0, ?_⟩, ?_, by simp⟩
  · rcases g1 with hn | ⟨g, cap, cur, e, hgb, hgg, rest⟩
    · exact .inl hn
    · refine .inr ⟨g, cap, cur, e, hgb, ?_, rest⟩
      rw [Below.heap_setCell w1 ⟨p, 0, none⟩ u g (by
        rintro rfl
        apply hne; rw [e]; rfl)]
      exact hgg
  · intro k hk; simpa [World.setCell] using g2 k hk
/-- One block at the start of a function: a struct that goes out. -/
structure Start1 (w W0 : World) : Prop where
  below : Below w.heap.size w W0
  res : BoxI W0 w.heap.size (.slice none 0 0)
  free : W0.frozen? ⟨w.heap.size, 0, none⟩ = false
  size : W0.heap.size = w.heap.size + 1
theorem Start1.later {w W0 w1 : World} (h : Start1 w W0) (hb : Below W0.heap.size W0 w1) : w1.cell? ⟨w.heap.size, 0, none⟩ = some (.slice none 0 0) ∧ w1.frozen? ⟨w.heap.size, 0, none⟩ = false ∧ w.heap.size < w1.heap.size :=
  ⟨by rw [hb.cell (p := ⟨w.heap.size, 0, none⟩) h.res.2]; exact h.res.1, by rw [hb.frozen (p := ⟨w.heap.size, 0, none⟩) h.res.2]; exact h.free, Nat.lt_of_lt_of_le h.res.2 hb.size⟩
theorem wfs_of {L : List Int} (h : ∀ z ∈ L, 1 ≤ z ∧ z ≤ 2000) : ∀ z ∈ L, (Lit.int .i64 z).wf = true := fun z hz => i64_wf (by have := h z hz; omega) (by have := h z hz; omega)

end Go.Proofs.Ytjobfjgphcaoeaa
/- BranchOfExponents, the model's: contract. Conditions: stated at each theorem. -/
namespace Go.Proofs.Ytjobfjgphcaoeaa
open Go.ChangeShapes Go.WideShapes Go.ChangeAt Go.RowKit
set_option linter.unusedVariables false
set_option linter.unusedSimpArgs false

theorem own_set {w : World} {lo hi : Nat} {v : Value} {zs : List Int} (h : OwnI w lo hi v zs) {p : Addr} {u : Value} (hne : v.ownBlock ≠ some p.block) : OwnI (w.setCell p u) lo hi v zs := by
  obtain ⟨⟨g0, g1⟩, g2, g3⟩ := h
  refine ⟨⟨g0, ?_⟩, g2, by simpa [World.setCell] using g3⟩
  rcases g1 with hn | ⟨g, cap, cur, e, hgb, hgg, rest⟩
  · exact .inl hn
  · refine .inr ⟨g, cap, cur, e, hgb, ?_, rest⟩
    rw [Below.heap_setCell w p u g (by
      rintro rfl
      apply hne; rw [e]; rfl)]
    exact hgg

end Go.Proofs.Ytjobfjgphcaoeaa
