/- Equal lists of lists, the model's test: contract of spec.l01Same2. Conditions: stated at each theorem. -/
import Derived.Test.YtmpbigkaadmihaaSame
import Derived.Test.YtmpbigkaadmihaaKeepQ
namespace Go.Proofs.Ytmpbigkaadmihaa
open Go.ChangeShapes Go.WideShapes Go.ChangeAt Go.RowKit
set_option linter.unusedVariables false
set_option linter.unusedSimpArgs false

theorem quietSame {v u : Value} {p q : List Int} {w : World} {B B' d k : Nat} {b : Bool} (hp : ReadI (w.drewN d) B v p) (hq : ReadI (w.drewN d) B' u q) (hn : p.length ≤ 1048576) (hm : q.length ≤ 1048576) (hwp : ∀ z ∈ p, (Lit.int .i64 z).wf = true) (hwq : ∀ z ∈ q, (Lit.int .i64 z).wf = true) (hb : decide (p = q) = b) :
    Calls Try.prog 80 #[v, u] (w.drewN (d + k)) fun e w'' => e = .returned (.bool b) ∧ ∃ m, w'' = w.drewN (d + m) := by
  subst hb
  refine (l01Same_any v u p q (w.drewN (d + k)) B B' hp hq hn hm hwp hwq).mono ?_
  rintro e w1 ⟨rfl, m, rfl⟩
  exact ⟨rfl, k + m, by rw [World.drewN_drewN, Nat.add_assoc]⟩
theorem rows_not {p q : List (List Int)} {k : Nat} (h : ¬ p.getD k [] = q.getD k []) : decide (p = q) = false := by
  rw [decide_eq_false_iff_not]; rintro rfl; exact h rfl
theorem rows_len {p q : List (List Int)} {n m : Nat} (h : p.length = n) (k : q.length = m) (hne : ¬ n = m) : decide (p = q) = false := by
  rw [decide_eq_false_iff_not]; rintro rfl; omega
theorem rows_next {p q : List (List Int)} {n k : Nat} (hp : p.length = n) (hq : q.length = n) (h : k < n) (ht : p.take k = q.take k) (he : p.getD k [] = q.getD k []) : p.take (k + 1) = q.take (k + 1) := by
  have h1 : k < p.length := by omega
  have h2 : k < q.length := by omega
  rw [List.take_succ_eq_append_getElem h1, List.take_succ_eq_append_getElem h2, ht]
  simp [List.getD, h1, h2] at he
  rw [he]
theorem rows_all {p q : List (List Int)} {n : Nat} (hp : p.length = n) (hq : q.length = n) (ht : p.take n = q.take n) : decide (p = q) = true := by
  rw [List.take_of_length_le (by omega), List.take_of_length_le (by omega)] at ht
  simp [ht]

set_option maxRecDepth 100000 in
theorem l01Same2_any (v u : Value) (p q : List (List Int)) (w : World) (B B' : Nat) (hp : ReadQ w B v p) (hq : ReadQ w B' u q) (hn : p.length ≤ 1048576) (hm : q.length ≤ 1048576)
    (hlp : ∀ x ∈ p, x.length ≤ 1048576 ∧ ∀ z ∈ x, (Lit.int .i64 z).wf = true) (hlq : ∀ x ∈ q, x.length ≤ 1048576 ∧ ∀ z ∈ x, (Lit.int .i64 z).wf = true) :
    Calls Try.prog 68 #[v, u] w fun e w' => e = .returned (.bool (decide (p = q))) ∧ ∃ m, w' = w.drewN m := by
  obtain ⟨A, c, rfl, h0, _⟩ := hp
  obtain ⟨A1, c1, rfl, h1, _⟩ := hq
  have H0 := Lib.hid h0
  have H1 := Lib.hid h1
  have W0 := Lib.hid hlp
  have W1 := Lib.hid hlq
  clear h0 h1 hlp hlq
  generalize hL : p.length = n at *
  generalize hL1 : q.length = m at *
  have HL := Lib.hid hL
  have HL1 := Lib.hid hL1
  clear hL hL1
  obtain ⟨b, hb⟩ : ∃ b, b = decide (p = q) := ⟨_, rfl⟩
  rw [← hb]
  have HB := Lib.hid hb
  clear hb
  by_cases hnm : n = m
  rotate_left
  · have R : Hid (false = b) := Lib.hid (by rw [HB.out, rows_len HL.out HL1.out hnm])
    have T : ((n : Int) == (m : Int)) = false := by simp; omega
    have T2 : ((n : Int) != (m : Int)) = true := by simp; omega
    clear hnm
    go_enter Try.func68, Try.ntmps68
    go_wp2
    go_ret
    exact ⟨ret_bool R.out, 0, rfl⟩
  subst hnm
  go_enter Try.func68, Try.ntmps68
  go_wp2
  go_loopw [5] (fun i wr => ∃ (k d : Nat), k ≤ n ∧ i = .int .i64 k ∧ wr = w.drewN d ∧ Hid (p.take k = q.take k)) (fun i _ => n - (intOf i).toNat)
  case atStart => exact ⟨0, 0, by omega, rfl, rfl, Lib.hid rfl⟩
  case round =>
    obtain ⟨k, d, hk, rfl, rfl, ht⟩ := hrel
    by_cases hlt : k < n
    · obtain ⟨a, x, rfl, _, hcell, hri⟩ := H0.out k hlt
      obtain ⟨a', y, rfl, _, hcell', hri'⟩ := H1.out k hlt
      have hk0 : (0 : Int) ≤ (k : Int) := Int.natCast_nonneg _
      have hk1 : (k : Int) < (n : Int) := by omega
      have hx : (w.drewN d).cell? (a.add k) = some x := hcell
      have hx' : (w.drewN d).cell? (a'.add k) = some y := hcell'
      have HR : Hid (ReadI (w.drewN d) B x (p.getD k [])) := Lib.hid hri
      have HR' : Hid (ReadI (w.drewN d) B' y (q.getD k [])) := Lib.hid hri'
      have HM : Hid (p.getD k [] ∈ p ∧ q.getD k [] ∈ q) := Lib.hid (by
        have e1 := HL.out
        have e2 := HL1.out
        simp [List.getD, show k < p.length by omega, show k < q.length by omega])
      have HW0 := Lib.hid (W0.out _ HM.out.1)
      have HW1 := Lib.hid (W1.out _ HM.out.2)
      clear hx hx' hri hri'
      by_cases he : p.getD k [] = q.getD k []
      · have HT : Hid (p.take (k + 1) = q.take (k + 1)) := Lib.hid (rows_next HL.out HL1.out hlt ht.out he)
        have HE : Hid (decide (p.getD k [] = q.getD k []) = true) := Lib.hid (decide_eq_true he)
        clear he
        go_wp2
        go_quiet ((go_at_call 80; exact quietSame HR.out HR'.out HW0.out.1 HW1.out.1 HW0.out.2 HW1.out.2 HE.out))
        go_wp2
        go_roundw
        case rel => exact ⟨k + 1, d + nq, by omega, by go_num, rfl, HT⟩
        case measure => simp [intOf]; omega
      · have R : Hid (false = b) := Lib.hid (by rw [HB.out, rows_not he])
        have HE : Hid (decide (p.getD k [] = q.getD k []) = false) := Lib.hid (decide_eq_false he)
        clear he
        go_wp2
        go_quiet ((go_at_call 80; exact quietSame HR.out HR'.out HW0.out.1 HW1.out.1 HW0.out.2 HW1.out.2 HE.out))
        go_wp2
        go_ret
        exact ⟨ret_bool R.out, d + nq, World.drewN_drewN _ _ _⟩
    · obtain rfl : k = n := by omega
      have R : Hid (true = b) := Lib.hid (by rw [HB.out, rows_all HL.out HL1.out ht.out])
      go_wp2
      go_ret
      exact ⟨ret_bool R.out, d, rfl⟩
end Go.Proofs.Ytmpbigkaadmihaa
