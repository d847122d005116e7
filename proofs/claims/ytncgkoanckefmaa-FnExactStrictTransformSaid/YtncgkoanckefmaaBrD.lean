/- Branches, the program's side: contracts of impl.descendsToOne and impl.IsBranch. Conditions: stated at each theorem. -/
import Derived.Test.YtncgkoanckefmaaBrI
namespace Go.Proofs.Ytncgkoanckefmaa
open Go.ChangeShapes Go.WideShapes Go.ChangeAt Go.RowKit
set_option linter.unusedVariables false

theorem RI.tail {w : World} {B n g o : Nat} {z : Int} {zs : List Int} (h : RI w B (some ⟨g, o, none⟩) (n + 1) (z :: zs)) : RI w B (some ⟨g, o + 1, none⟩) n zs :=
  ⟨by have := h.1; simpa using this, fun k hk => by
    obtain ⟨a, e, hlt, hc⟩ := h.2 (k + 1) (by omega)
    cases e
    refine ⟨_, rfl, hlt, ?_⟩
    have e2 : (⟨g, o, none⟩ : Addr).add (k + 1) = (⟨g, o + 1, none⟩ : Addr).add k := by unfold Addr.add; split <;> simp_all [Nat.add_left_comm, Nat.add_comm]
    rw [← e2, hc]; simp [List.getD]⟩

theorem first_tail {w : World} {B m g o x : Nat} {r : List Int} (h : RI w B (some ⟨g, o + 1, none⟩) m r) (hx : x = o + 1 ∨ m ≤ 0) : RI w B (some ⟨g, x, none⟩) m r := by
  rcases hx with rfl | h0
  · exact h
  · exact ⟨h.1, fun k hk => by omega⟩

set_option maxHeartbeats 1000000 in
set_option maxRecDepth 100000 in
theorem descends_any (v : Value) (zs : List Int) (w : World) (h : ReadI w w.heap.size v zs) (hn : zs.length ≤ 1048576) (hw : ∀ z ∈ zs, (Lit.int .i64 z).wf = true) :
    Calls Try.prog 115 #[v] w fun e w' => e = .returned (.bool (dcB zs)) ∧ Below w.heap.size w w' := by
  have h' := h
  obtain ⟨n, A, c, rfl, hr, HL, HN, hnc, HF, hcm⟩ := h.split2
  cases zs with
  | nil =>
    obtain rfl : n = 0 := HL.out.symm
    have R : Hid (false = dcB []) := Lib.hid rfl
    clear hr HF h' h
    go_enter Try.func115, Try.ntmps115
    go_wp2
    go_ret
    exact ⟨ret_boolB R.out, Below.refl _ _⟩
  | cons z0 r =>
    obtain ⟨m, rfl⟩ : ∃ m, n = m + 1 := ⟨n - 1, by have := HL.out; simp at this; omega⟩
    have hm : m + 1 ≤ 1048576 := by have := HL.out; omega
    obtain ⟨a, rfl, hlt, hc0⟩ := hr.2 0 (by omega)
    obtain ⟨g, o, rfl⟩ := HF.out a rfl
    have hcell : w.cell? ⟨g, o, none⟩ = some (.int .i64 z0) := by simpa [Addr.add] using hc0
    have HT := Lib.hid hr.tail
    have HRd := Lib.hid h'
    have hz := range_i64 hw 0
    have HWr : Hid (∀ z ∈ r, (Lit.int .i64 z).wf = true) := Lib.hid fun z hz => hw z (List.mem_cons_of_mem _ hz)
    have HLr : Hid (r.length = m) := Lib.hid (by have := HL.out; simpa using this)
    simp only [List.getElem?_cons_zero, Option.getD_some] at hz
    clear hr h' h hc0 HF hw
    obtain ⟨b, hb⟩ : ∃ b, b = dcB (z0 :: r) := ⟨_, rfl⟩
    rw [← hb]
    have HB := Lib.hid hb
    clear hb
    cases hmu : mulB z0
    · have R : Hid (false = b) := Lib.hid (by rw [HB.out]; simp [dcB, hmu])
      have HM := Lib.hid hmu
      clear hmu
      go_enter Try.func115, Try.ntmps115
      go_wp2_with fail
      refine (isMul_no _ _ HM.out).mono ?_
      rintro e w' ⟨rfl, rfl⟩
      go_wp2_with fail
      go_ret
      exact ⟨ret_boolB R.out, Below.refl _ _⟩
    cases has : ascB 0 r
    · have R : Hid (false = b) := Lib.hid (by rw [HB.out]; simp [dcB, has])
      have HM := Lib.hid hmu
      have HA := Lib.hid has
      clear hmu has
      rcases Nat.eq_zero_or_pos m with hm0 | hm1
      · obtain rfl : m = 0 := hm0
        rcases Nat.lt_or_ge c 2 with hc1 | hc1
        · obtain rfl : c = 1 := by omega
          go_enter Try.func115, Try.ntmps115
          go_wp2_with fail
          refine (isMul_yes _ _ HM.out).mono ?_
          rintro e w' ⟨rfl, rfl⟩
          go_wp2_with fail
          refine (areExp_any _ _ _ r _ w.heap.size (first_tail HT.out (Or.inr (Nat.le_refl _))) HLr.out (Nat.zero_le _) HWr.out).mono ?_
          rw [HA.out]
          rintro e w' ⟨rfl, rfl⟩
          go_wp2_with fail
          go_ret
          exact ⟨ret_boolB R.out, Below.refl _ _⟩
        · have hc2 : ¬ c - 1 = 0 := by omega
          go_enter Try.func115, Try.ntmps115
          go_wp2_with fail
          refine (isMul_yes _ _ HM.out).mono ?_
          rintro e w' ⟨rfl, rfl⟩
          go_wp2_with fail
          refine (areExp_any _ _ _ r _ w.heap.size (first_tail HT.out (Or.inr (Nat.le_refl _))) HLr.out (Nat.zero_le _) HWr.out).mono ?_
          rw [HA.out]
          rintro e w' ⟨rfl, rfl⟩
          go_wp2_with fail
          go_ret
          exact ⟨ret_boolB R.out, Below.refl _ _⟩
      · have hc2 : ¬ c - 1 = 0 := by omega
        have hm2 : ¬ m = 0 := by omega
        have hc3 : 2 ≤ c := by omega
        go_enter Try.func115, Try.ntmps115
        go_wp2_with fail
        refine (isMul_yes _ _ HM.out).mono ?_
        rintro e w' ⟨rfl, rfl⟩
        go_wp2_with fail
        refine (areExp_any _ m _ r _ w.heap.size (first_tail HT.out (by first | (left; rfl) | (right; omega))) HLr.out (by omega) HWr.out).mono ?_
        rw [HA.out]
        rintro e w' ⟨rfl, rfl⟩
        go_wp2_with fail
        go_ret
        exact ⟨ret_boolB R.out, Below.refl _ _⟩
    have E : Hid (b = (chgB (dvL 0 (z0 :: r)) && decide ((dvL 0 (z0 :: r)).getLast? = some 1))) := Lib.hid (by rw [HB.out, dcB_split, hmu, has]; simp)
    have HZ : Hid (∀ z ∈ z0 :: r, 1 ≤ z ∧ z ≤ 2000) := Lib.hid (fun z hz => by
      rcases List.mem_cons.1 hz with rfl | hz
      · have := mulB_true.1 hmu; omega
      · have := ascB_all has z hz; omega)
    have HM := Lib.hid hmu
    have HA := Lib.hid has
    have HLD : Hid ((dvL 0 (z0 :: r)).length = m + 1) := Lib.hid (by rw [dvL_len, HL.out])
    clear hmu has HB
    have hn2 := hn
    generalize hzz : z0 :: r = zs at *
    have hd0 : ∀ z ∈ dvL 0 zs, 0 ≤ z ∧ z ≤ 2000 := dvL_range HZ.out
    have HD := fun (W : World) (c : Nat) (h1 : ReadI W W.heap.size (.slice (some ⟨g, o, none⟩) (m + 1) c) zs) => hid_in (divisors_any _ zs W W.heap.size h1 hn2 (Nat.le_refl _) HZ.out)
    generalize dvL 0 zs = D at *
    have HDR := Lib.hid hd0
    clear hzz hn hn2 hd0
    rcases Nat.eq_zero_or_pos m with hm0 | hm1
    · obtain rfl : m = 0 := hm0
      rcases Nat.lt_or_ge c 2 with hc1 | hc1
      · obtain rfl : c = 1 := by omega
        go_enter Try.func115, Try.ntmps115
        go_wp2_with fail
        refine (isMul_yes _ _ HM.out).mono ?_
        rintro e w' ⟨rfl, rfl⟩
        go_wp2_with fail
        refine (areExp_any _ _ _ r _ w.heap.size (first_tail HT.out (Or.inr (Nat.le_refl _))) HLr.out (Nat.zero_le _) HWr.out).mono ?_
        rw [HA.out]
        rintro e w' ⟨rfl, rfl⟩
        go_wp2_with fail
        refine (hid_out (HD w _ HRd.out)).mono ?_
        rintro e w1 ⟨v1, rfl, hv1, ho, hb⟩
        rw [HL.out] at hv1
        subst hv1
        have O1 := Lib.hid ho
        have B1 := Lib.hid hb
        clear ho hb
        go_wp2_with fail
        obtain ⟨g1, e1, _, _, hc1, _⟩ := own_at O1.out HLD.out (show 0 < 0 + 1 by omega)
        cases e1
        have hx := range_of HDR.out 0
        have E2 : Hid (b = decide (D[0]?.getD 0 = 1)) := Lib.hid (by rw [E.out, show chgB D = true from chg_end (k := 0) HLD.out (by omega), last_at HLD.out (by omega)]; simp)
        generalize D[0]?.getD 0 = x at *
        have R : Hid ((x == 1) = b) := Lib.hid (by rw [E2.out]; by_cases h : x = 1 <;> simp [h])
        go_loop [27] (fun vi => vi = .int .i64 0) (fun vi => 0)
        case atStart => rfl
        case round =>
          obtain rfl := hrel
          go_wp2
          go_ret
          exact ⟨ret_boolB R.out, B1.out⟩
      · have hc2 : ¬ c - 1 = 0 := by omega
        go_enter Try.func115, Try.ntmps115
        go_wp2_with fail
        refine (isMul_yes _ _ HM.out).mono ?_
        rintro e w' ⟨rfl, rfl⟩
        go_wp2_with fail
        refine (areExp_any _ _ _ r _ w.heap.size (first_tail HT.out (Or.inr (Nat.le_refl _))) HLr.out (Nat.zero_le _) HWr.out).mono ?_
        rw [HA.out]
        rintro e w' ⟨rfl, rfl⟩
        go_wp2_with fail
        refine (hid_out (HD w _ HRd.out)).mono ?_
        rintro e w1 ⟨v1, rfl, hv1, ho, hb⟩
        rw [HL.out] at hv1
        subst hv1
        have O1 := Lib.hid ho
        have B1 := Lib.hid hb
        clear ho hb
        go_wp2_with fail
        obtain ⟨g1, e1, _, _, hc1, _⟩ := own_at O1.out HLD.out (show 0 < 0 + 1 by omega)
        cases e1
        have hx := range_of HDR.out 0
        have E2 : Hid (b = decide (D[0]?.getD 0 = 1)) := Lib.hid (by rw [E.out, show chgB D = true from chg_end (k := 0) HLD.out (by omega), last_at HLD.out (by omega)]; simp)
        generalize D[0]?.getD 0 = x at *
        have R : Hid ((x == 1) = b) := Lib.hid (by rw [E2.out]; by_cases h : x = 1 <;> simp [h])
        go_loop [27] (fun vi => vi = .int .i64 0) (fun vi => 0)
        case atStart => rfl
        case round =>
          obtain rfl := hrel
          go_wp2
          go_ret
          exact ⟨ret_boolB R.out, B1.out⟩
    · have hc2 : ¬ c - 1 = 0 := by omega
      have hm2 : ¬ m = 0 := by omega
      have hc3 : 2 ≤ c := by omega
      go_enter Try.func115, Try.ntmps115
      go_wp2_with fail
      refine (isMul_yes _ _ HM.out).mono ?_
      rintro e w' ⟨rfl, rfl⟩
      go_wp2_with fail
      refine (areExp_any _ m _ r _ w.heap.size (first_tail HT.out (by first | (left; rfl) | (right; omega))) HLr.out (by omega) HWr.out).mono ?_
      rw [HA.out]
      rintro e w' ⟨rfl, rfl⟩
      go_wp2_with fail
      refine (hid_out (HD w _ HRd.out)).mono ?_
      rintro e w1 ⟨v1, rfl, hv1, ho, hb⟩
      rw [HL.out] at hv1
      subst hv1
      have O1 := Lib.hid ho
      have B1 := Lib.hid hb
      clear ho hb
      go_wp2_with fail
      go_loop [27] (fun vi => ∃ (k : Nat), k ≤ m ∧ vi = .int .i64 k ∧ Hid (chgB D = chgB (D.drop k))) (fun vi => m - (intOf vi).toNat)
      case atStart => exact ⟨0, by omega, rfl, Lib.hid rfl⟩
      case round =>
        obtain ⟨k, hk, rfl, hg⟩ := hrel
        by_cases hlt : k < m
        · obtain ⟨g1, e1, _, _, hc1, _⟩ := own_at O1.out HLD.out (show k < m + 1 by omega)
          obtain ⟨g2, e2, _, _, hc2, _⟩ := own_at O1.out HLD.out (show k + 1 < m + 1 by omega)
          cases e1
          cases e2
          have HG : Hid (chgB D = (decide (D[k + 1]?.getD 0 ≠ D[k]?.getD 0) && chgB (D.drop (k + 1)))) := Lib.hid (by rw [hg.out, chg_at HLD.out (by omega)])
          have hx := range_of HDR.out k
          have hy := range_of HDR.out (k + 1)
          have hc2' : w1.cell? ⟨w.heap.size, 1 + k, none⟩ = some (.int .i64 (D[k + 1]?.getD 0)) := by rw [Nat.add_comm 1 k]; exact hc2
          generalize D[k + 1]?.getD 0 = y at *
          generalize D[k]?.getD 0 = x at *
          by_cases hxy : y = x
          · have R : Hid (false = b) := Lib.hid (by rw [E.out, HG.out]; simp [hxy])
            subst hxy
            go_wp2
            go_ret
            exact ⟨ret_boolB R.out, B1.out⟩
          · have HG2 : Hid (chgB D = chgB (D.drop (k + 1))) := Lib.hid (by rw [HG.out]; simp [hxy])
            have hT : (y == x) = false := by simpa using hxy
            go_wp2
            go_round
            case rel => exact ⟨k + 1, by omega, by go_num, HG2⟩
            case measure => simp [intOf]; omega
        · obtain rfl : k = m := by omega
          obtain ⟨g1, e1, _, _, hc1, _⟩ := own_at O1.out HLD.out (show k < k + 1 by omega)
          cases e1
          have hx := range_of HDR.out k
          have E2 : Hid (b = decide (D[k]?.getD 0 = 1)) := Lib.hid (by rw [E.out, hg.out, chg_end HLD.out (by omega), last_at HLD.out (by omega)]; simp)
          generalize D[k]?.getD 0 = x at *
          have hk1 : ((k + 1 : Nat) : Int) - 1 = (k : Int) := by omega
          have R : Hid ((x == 1) = b) := Lib.hid (by rw [E2.out]; by_cases h : x = 1 <;> simp [h])
          go_wp2
          go_ret
          exact ⟨ret_boolB R.out, B1.out⟩
end Go.Proofs.Ytncgkoanckefmaa
