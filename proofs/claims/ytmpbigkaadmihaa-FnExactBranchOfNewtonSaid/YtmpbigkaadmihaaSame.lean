/- Equal lists, the model's test: contract of spec.l01Same. Conditions: stated at each theorem. -/
import Derived.Test.YtmpbigkaadmihaaTrim
namespace Go.Proofs.Ytmpbigkaadmihaa
open Go.ChangeShapes Go.WideShapes Go.ChangeAt Go.RowKit
set_option linter.unusedVariables false

theorem same_not {p q : List Int} {k : Nat} (h : ¬ p[k]?.getD 0 = q[k]?.getD 0) : decide (p = q) = false := by
  rw [decide_eq_false_iff_not]; rintro rfl; exact h rfl
theorem same_len {p q : List Int} {n m : Nat} (h : p.length = n) (k : q.length = m) (hne : ¬ n = m) : decide (p = q) = false := by
  rw [decide_eq_false_iff_not]; rintro rfl; omega
theorem take_next {p q : List Int} {n k : Nat} (hp : p.length = n) (hq : q.length = n) (h : k < n) (ht : p.take k = q.take k) (he : p[k]?.getD 0 = q[k]?.getD 0) : p.take (k + 1) = q.take (k + 1) := by
  have h1 : k < p.length := by omega
  have h2 : k < q.length := by omega
  rw [List.take_succ_eq_append_getElem h1, List.take_succ_eq_append_getElem h2, ht]
  simp [h1, h2] at he
  rw [he]
theorem same_all {p q : List Int} {n : Nat} (hp : p.length = n) (hq : q.length = n) (ht : p.take n = q.take n) : decide (p = q) = true := by
  rw [List.take_of_length_le (by omega), List.take_of_length_le (by omega)] at ht
  simp [ht]

set_option maxRecDepth 100000 in
theorem l01Same_any (v u : Value) (p q : List Int) (w : World) (B B' : Nat) (hp : ReadI w B v p) (hq : ReadI w B' u q) (hn : p.length ≤ 1048576) (hm : q.length ≤ 1048576) (hwp : ∀ z ∈ p, (Lit.int .i64 z).wf = true) (hwq : ∀ z ∈ q, (Lit.int .i64 z).wf = true) :
    Calls Try.prog 80 #[v, u] w fun e w' => e = .returned (.bool (decide (p = q))) ∧ ∃ m, w' = w.drewN m := by
  obtain ⟨n, A, c, rfl, hr, HL⟩ := hp.split
  obtain ⟨m, A1, c1, rfl, hr1, HL1⟩ := hq.split
  rw [HL.out] at hn
  rw [HL1.out] at hm
  have H0 := Lib.hid hr
  have H1 := Lib.hid hr1
  have W0 := Lib.hid hwp
  have W1 := Lib.hid hwq
  clear hr hr1 hp hq hwp hwq
  obtain ⟨b, hb⟩ : ∃ b, b = decide (p = q) := ⟨_, rfl⟩
  rw [← hb]
  have HB := Lib.hid hb
  clear hb
  by_cases hnm : n = m
  rotate_left
  · have R : Hid (false = b) := Lib.hid (by rw [HB.out, same_len HL.out HL1.out hnm])
    have T : ((n : Int) == (m : Int)) = false := by simp; omega
    have T2 : ((n : Int) != (m : Int)) = true := by simp; omega
    clear hnm
    go_enter Try.func80, Try.ntmps80
    go_wp2
    go_ret
    exact ⟨ret_bool R.out, 0, rfl⟩
  subst hnm
  go_enter Try.func80, Try.ntmps80
  go_wp2
  go_loopw [5] (fun i wr => ∃ (k d : Nat), k ≤ n ∧ i = .int .i64 k ∧ wr = w.drewN d ∧ Hid (p.take k = q.take k)) (fun i _ => n - (intOf i).toNat)
  case atStart => exact ⟨0, 0, by omega, rfl, rfl, Lib.hid rfl⟩
  case round =>
    obtain ⟨k, d, hk, rfl, rfl, ht⟩ := hrel
    by_cases hlt : k < n
    · obtain ⟨a, rfl, _, hcell⟩ := H0.out.2 k hlt
      obtain ⟨a', rfl, _, hcell'⟩ := H1.out.2 k hlt
      rw [getD_opt] at hcell hcell'
      have hk0 : (0 : Int) ≤ (k : Int) := Int.natCast_nonneg _
      have hk1 : (k : Int) < (n : Int) := by omega
      by_cases he : p[k]?.getD 0 = q[k]?.getD 0
      · have HT : Hid (p.take (k + 1) = q.take (k + 1)) := Lib.hid (take_next HL.out HL1.out hlt ht.out he)
        have T : ((p[k]?.getD 0 : Int) != q[k]?.getD 0) = false := by simp [he]
        rw [he] at hcell
        clear he T
        go_wp2
        go_quiet (fail)
        go_wp2
        go_roundw
        case rel => exact ⟨k + 1, d + nq, by omega, by go_num, rfl, HT⟩
        case measure => simp [intOf]; omega
      · have R : Hid (false = b) := Lib.hid (by rw [HB.out, same_not he])
        have T : ((p[k]?.getD 0 : Int) != q[k]?.getD 0) = true := by simp [he]
        clear he
        go_wp2
        go_quiet (fail)
        go_wp2
        go_ret
        exact ⟨ret_bool R.out, d + nq, World.drewN_drewN _ _ _⟩
    · obtain rfl : k = n := by omega
      have R : Hid (true = b) := Lib.hid (by rw [HB.out, same_all HL.out HL1.out ht.out])
      go_wp2
      go_ret
      exact ⟨ret_bool R.out, d, rfl⟩
end Go.Proofs.Ytmpbigkaadmihaa
