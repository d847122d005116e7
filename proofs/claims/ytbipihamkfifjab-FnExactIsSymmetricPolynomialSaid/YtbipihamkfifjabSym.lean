/- Symmetric polynomials, the model's test and the program's: contracts of IsSymmetricPolynomial. Conditions: stated at each theorem. -/
import Derived.Test.YtbipihamkfifjabRev
namespace Go.Proofs.Ytbipihamkfifjab
open Go.ChangeShapes Go.WideShapes Go.ChangeAt Go.RowKit
set_option linter.unusedVariables false

theorem same_not {p q : List Int} {k : Nat} (h : ¬ p[k]?.getD 0 = q[k]?.getD 0) : decide (p = q) = false := by
  rw [decide_eq_false_iff_not]; rintro rfl; exact h rfl
theorem same_len {p q : List Int} {n m : Nat} (h : p.length = n) (k : q.length = m) (hne : ¬ n = m) : decide (p = q) = false := by
  rw [decide_eq_false_iff_not]; rintro rfl; omega
theorem take_next {p q : List Int} {n k : Nat} (hp : p.length = n) (hq : q.length = n) (h : k < n) (ht : p.take k = q.take k) (he : p[k]?.getD 0 = q[k]?.getD 0) : p.take (k + 1) = q.take (k + 1) := by
  have h1 : k < p.length := by omega
  have h2 : k < q.length := by omega
  rw [List.take_succ_eq_append_getElem h1, List.take_succ_eq_append_getElem h2, ht]
  simp [h1, h2] at he
  rw [he]
theorem same_all {p q : List Int} {n : Nat} (hp : p.length = n) (hq : q.length = n) (ht : p.take n = q.take n) : decide (p = q) = true := by
  rw [List.take_of_length_le (by omega), List.take_of_length_le (by omega)] at ht
  simp [ht]

set_option maxRecDepth 100000 in
theorem l01Same_any (v u : Value) (p q : List Int) (w : World) (B B' : Nat) (hp : ReadI w B v p) (hq : ReadI w B' u q) (hn : p.length ≤ 1048576) (hm : q.length ≤ 1048576) (hwp : ∀ z ∈ p, (Lit.int .i64 z).wf = true) (hwq : ∀ z ∈ q, (Lit.int .i64 z).wf = true) :
    Calls Try.prog 40 #[v, u] w fun e w' => e = .returned (.bool (decide (p = q))) ∧ ∃ m, w' = w.drewN m := by
  obtain ⟨n, A, c, rfl, hr, HL⟩ := hp.split
  obtain ⟨m, A1, c1, rfl, hr1, HL1⟩ := hq.split
  rw [HL.out] at hn
  rw [HL1.out] at hm
  have H0 := Lib.hid hr
  have H1 := Lib.hid hr1
  have W0 := Lib.hid hwp
  have W1 := Lib.hid hwq
  clear hr hr1 hp hq hwp hwq
  obtain ⟨b, hb⟩ : ∃ b, b = decide (p = q) := ⟨_, rfl⟩
  rw [← hb]
  have HB := Lib.hid hb
  clear hb
  by_cases hnm : n = m
  rotate_left
  · have R : Hid (false = b) := Lib.hid (by rw [HB.out, same_len HL.out HL1.out hnm])
    have T : ((n : Int) == (m : Int)) = false := by simp; omega
    have T2 : ((n : Int) != (m : Int)) = true := by simp; omega
    clear hnm
    go_enter Try.func40, Try.ntmps40
    go_wp2
    go_ret
    exact ⟨ret_bool R.out, 0, rfl⟩
  subst hnm
  go_enter Try.func40, Try.ntmps40
  go_wp2
  go_loopw [5] (fun i wr => ∃ (k d : Nat), k ≤ n ∧ i = .int .i64 k ∧ wr = w.drewN d ∧ Hid (p.take k = q.take k)) (fun i _ => n - (intOf i).toNat)
  case atStart => exact ⟨0, 0, by omega, rfl, rfl, Lib.hid rfl⟩
  case round =>
    obtain ⟨k, d, hk, rfl, rfl, ht⟩ := hrel
    by_cases hlt : k < n
    · obtain ⟨a, rfl, _, hcell⟩ := H0.out.2 k hlt
      obtain ⟨a', rfl, _, hcell'⟩ := H1.out.2 k hlt
      rw [getD_opt] at hcell hcell'
      have hk0 : (0 : Int) ≤ (k : Int) := Int.natCast_nonneg _
      have hk1 : (k : Int) < (n : Int) := by omega
      by_cases he : p[k]?.getD 0 = q[k]?.getD 0
      · have HT : Hid (p.take (k + 1) = q.take (k + 1)) := Lib.hid (take_next HL.out HL1.out hlt ht.out he)
        have T : ((p[k]?.getD 0 : Int) != q[k]?.getD 0) = false := by simp [he]
        rw [he] at hcell
        clear he T
        go_wp2
        go_quiet (fail)
        go_wp2
        go_roundw
        case rel => exact ⟨k + 1, d + nq, by omega, by go_num, rfl, HT⟩
        case measure => simp [intOf]; omega
      · have R : Hid (false = b) := Lib.hid (by rw [HB.out, same_not he])
        have T : ((p[k]?.getD 0 : Int) != q[k]?.getD 0) = true := by simp [he]
        clear he
        go_wp2
        go_quiet (fail)
        go_wp2
        go_ret
        exact ⟨ret_bool R.out, d + nq, World.drewN_drewN _ _ _⟩
    · obtain rfl : k = n := by omega
      have R : Hid (true = b) := Lib.hid (by rw [HB.out, same_all HL.out HL1.out ht.out])
      go_wp2
      go_ret
      exact ⟨ret_bool R.out, d, rfl⟩

theorem specIsSymmetricPolynomial_any (v : Value) (p : List Int) (w : World) (h0 : ReadI w w.heap.size v p) (hn0 : p.length ≤ 1048576) (hw0 : ∀ z ∈ p, (Lit.int .i64 z).wf = true) :
    Calls Try.prog 17 #[v] w (AnsBI w (symA p) (revC p)) := by
  have H0 := Lib.hid h0
  have W0 := Lib.hid hw0
  clear h0 hw0
  cases hp : polyB p
  · have E1 := Lib.hid (sym_no hp)
    have HP := Lib.hid hp
    clear hp
    go_enter Try.func17, Try.ntmps17
    go_wp2_with fail
    refine (l02Is_no _ p _ _ H0.out hn0 W0.out HP.out).mono ?_
    rintro e w' ⟨rfl, rfl⟩
    go_wp2_with fail
    go_ret2
    exact ⟨tup_bi E1.out.1.symm E1.out.2.symm, Below.refl _ _⟩
  · have E1 := Lib.hid (sym_yes hp)
    have HP := Lib.hid hp
    clear hp
    go_enter Try.func17, Try.ntmps17
    go_wp2_with fail
    refine (l02Is_yes _ p _ _ H0.out hn0 W0.out HP.out).mono ?_
    rintro e w' ⟨rfl, rfl⟩
    go_wp2_with fail
    refine (l02Reverse_any _ p _ _ H0.out hn0 (Nat.le_refl _)).mono ?_
    rintro e w1 ⟨v1, rfl, ho, hb⟩
    have O1 := Lib.hid ho
    have B1 := Lib.hid hb
    clear ho hb
    go_wp2_with fail
    refine (l01Same_any _ _ p p.reverse w1 _ _ (H0.out.below B1.out) O1.out.reads hn0 (by rw [List.length_reverse]; exact hn0) W0.out (wf_rev W0.out)).mono ?_
    rintro e w' ⟨rfl, m, rfl⟩
    obtain ⟨b, hb⟩ : ∃ b, b = decide (p = p.reverse) := ⟨_, rfl⟩
    rw [← hb]
    have HB := Lib.hid hb
    clear hb
    go_wp2_with fail
    go_ret2
    exact ⟨tup_bi (HB.out.trans E1.out.1.symm) E1.out.2.symm, below_drewN B1.out m⟩

theorem sym_not {p : List Int} {n k : Nat} (hl : p.length = n) (hk : k < n) (h : ¬ p[k]?.getD 0 = p[n - 1 - k]?.getD 0) : decide (p = p.reverse) = false := by
  subst hl
  rw [decide_eq_false_iff_not]
  intro e
  apply h
  have : p[k]? = p.reverse[k]? := by rw [← e]
  rw [this, List.getElem?_reverse hk]
theorem sym_all {p : List Int} {n : Nat} (hl : p.length = n) (h : ∀ k, k < n → p[k]?.getD 0 = p[n - 1 - k]?.getD 0) : decide (p = p.reverse) = true := by
  subst hl
  rw [decide_eq_true_eq]
  apply List.ext_getElem
  · simp
  · intro i h1 h2
    have := h i h1
    rw [List.getElem_reverse]
    simpa [h1, show p.length - 1 - i < p.length by omega] using this

set_option maxRecDepth 100000 in
theorem implIsSymmetricPolynomial_any (v : Value) (p : List Int) (w : World) (h0 : ReadI w w.heap.size v p) (hn0 : p.length ≤ 1048576) (hw0 : ∀ z ∈ p, (Lit.int .i64 z).wf = true) :
    Calls Try.prog 18 #[v] w (AnsBI w (symA p) (revC p)) := by
  have H0 := Lib.hid h0
  have W0 := Lib.hid hw0
  clear h0 hw0
  cases hp : polyB p
  · have E1 := Lib.hid (sym_no hp)
    have HP := Lib.hid hp
    clear hp
    go_enter Try.func18, Try.ntmps18
    go_wp2_with fail
    refine (implIs_no _ p _ _ H0.out hn0 W0.out HP.out).mono ?_
    rintro e w' ⟨rfl, rfl⟩
    go_wp2_with fail
    go_ret2
    exact ⟨tup_bi E1.out.1.symm E1.out.2.symm, Below.refl _ _⟩
  · have E1 := Lib.hid (sym_yes hp)
    have HP := Lib.hid hp
    obtain ⟨n, A, c, rfl, hr, HL⟩ := H0.out.split
    rw [HL.out] at hn0
    have HR := Lib.hid hr
    clear hp hr
    go_enter Try.func18, Try.ntmps18
    go_wp2_with fail
    refine (implIs_yes _ p _ _ H0.out (by rw [HL.out]; exact hn0) W0.out HP.out).mono ?_
    rintro e w' ⟨rfl, rfl⟩
    go_wp2_with fail
    go_loop [11] (fun i => ∃ k : Nat, k ≤ n ∧ i = .int .i64 k ∧ Hid (∀ j, j < k → p[j]?.getD 0 = p[n - 1 - j]?.getD 0)) (fun i => n - (intOf i).toNat)
    case atStart => exact ⟨0, by omega, rfl, Lib.hid (fun j hj => by omega)⟩
    case round =>
      obtain ⟨k, hk, rfl, ha⟩ := hrel
      by_cases hlt : k < n
      · obtain ⟨a, rfl, _, hcell⟩ := HR.out.2 k hlt
        obtain ⟨a', e, _, hcell'⟩ := HR.out.2 (n - 1 - k) (by omega)
        simp only [Option.some.injEq] at e
        subst e
        rw [getD_opt] at hcell hcell'
        have h5 : (0 : Int) ≤ (n : Int) - 1 - k := by omega
        have h6 : (n : Int) - 1 - k < n := by omega
        by_cases he : p[k]?.getD 0 = p[n - 1 - k]?.getD 0
        · have HT : Hid (∀ j, j < k + 1 → p[j]?.getD 0 = p[n - 1 - j]?.getD 0) := Lib.hid (fun j hj => by
            by_cases e : j = k
            · subst e; exact he
            · exact ha.out j (by omega))
          rw [he] at hcell
          clear he
          go_wp2
          go_round
          case rel => exact ⟨k + 1, by omega, by go_num, HT⟩
          case measure => simp [intOf]; omega
        · have R : Hid (decide (p = p.reverse) = false) := Lib.hid (sym_not HL.out hlt he)
          have T : ((p[k]?.getD 0 : Int) != p[n - 1 - k]?.getD 0) = true := by simp [he]
          clear he
          go_wp2
          go_ret2
          exact ⟨tup_bi (R.out.symm.trans E1.out.1.symm) E1.out.2.symm, Below.refl _ _⟩
      · obtain rfl : k = n := by omega
        have R : Hid (decide (p = p.reverse) = true) := Lib.hid (sym_all HL.out ha.out)
        go_wp2
        go_ret2
        exact ⟨tup_bi (R.out.symm.trans E1.out.1.symm) E1.out.2.symm, Below.refl _ _⟩
end Go.Proofs.Ytbipihamkfifjab
