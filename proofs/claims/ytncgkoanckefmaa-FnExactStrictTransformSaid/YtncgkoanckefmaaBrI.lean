/- Branches, the program's side: contracts of impl.isMultiplicity, impl.isTerm, impl.areExponents, impl.divisorsOfTerms. Conditions: stated at each theorem. -/
import Derived.Test.YtncgkoanckefmaaKeep
import Derived.Test.YtncgkoanckefmaaNums
import Derived.Test.YtncgkoanckefmaaIns
import Derived.Test.YtncgkoanckefmaaTrim
import Derived.Test.YtncgkoanckefmaaBrM
namespace Go.Proofs.Ytncgkoanckefmaa
open Go.ChangeShapes Go.WideShapes Go.ChangeAt Go.RowKit
set_option linter.unusedVariables false

theorem isMul_any (z : Int) (w : World) :
    Calls Try.prog 118 #[.int .i64 z] w fun e w' => e = .returned (.bool (mulB z)) ∧ w = w' := by
  by_cases h1 : 1 ≤ z
  · by_cases h2 : z ≤ 64
    · have hb : mulB z = true := mulB_true.2 ⟨h1, h2⟩
      rw [hb]; clear hb
      go_enter Try.func118, Try.ntmps118
      go_wp2
      go_ret
      exact ⟨rfl, rfl⟩
    · have hb : mulB z = false := mulB_false.2 (by omega)
      rw [hb]; clear hb
      go_enter Try.func118, Try.ntmps118
      go_wp2
      go_ret
      exact ⟨rfl, rfl⟩
  · have hb : mulB z = false := mulB_false.2 (by omega)
    rw [hb]; clear hb
    go_enter Try.func118, Try.ntmps118
    go_wp2
    go_ret
    exact ⟨rfl, rfl⟩
theorem isMul_yes (z : Int) (w : World) (h : mulB z = true) :
    Calls Try.prog 118 #[.int .i64 z] w fun e w' => e = .returned (.bool true) ∧ w = w' := by
  have := isMul_any z w; rwa [h] at this
theorem isMul_no (z : Int) (w : World) (h : mulB z = false) :
    Calls Try.prog 118 #[.int .i64 z] w fun e w' => e = .returned (.bool false) ∧ w = w' := by
  have := isMul_any z w; rwa [h] at this

theorem ret_boolB {a b : Bool} (h : a = b) : Ending.returned (.bool a) = .returned (.bool b) := by rw [h]
theorem areExp_any (A : Option Addr) (n c : Nat) (zs : List Int) (w : World) (B : Nat) (hr : RI w B A n zs) (hl : zs.length = n) (hn : n ≤ 9223372036854775807) (hw : ∀ z ∈ zs, (Lit.int .i64 z).wf = true) :
    Calls Try.prog 127 #[.slice A n c] w fun e w' => e = .returned (.bool (ascB 0 zs)) ∧ w = w' := by
  have H0 := Lib.hid hr
  have HW := Lib.hid hw
  have HL := Lib.hid hl
  obtain ⟨b, hb⟩ : ∃ b, b = ascB 0 zs := ⟨_, rfl⟩
  rw [← hb]
  have HB := Lib.hid hb
  clear hb hr hw hl
  go_enter Try.func127, Try.ntmps127
  go_wp2
  go_loop [3, 8] (fun vb vi => ∃ (k : Nat) (y : Int), k ≤ n ∧ (0 ≤ y ∧ y ≤ 9223372036854775807) ∧ vb = .int .i64 y ∧ vi = .int .i64 k ∧ Hid (b = ascB y (zs.drop k))) (fun _ vi => n - (intOf vi).toNat)
  case atStart => exact ⟨0, 0, by omega, by omega, rfl, rfl, HB⟩
  case round =>
    obtain ⟨k, y, hk, hy, rfl, rfl, hg⟩ := hrel
    by_cases hlt : k < n
    · obtain ⟨a, rfl, _, hcell0⟩ := H0.out.2 k hlt
      have hz := range_i64 HW.out k
      have HG : Hid (b = (decide (y < zs[k]?.getD 0 ∧ zs[k]?.getD 0 ≤ 2000) && ascB (zs[k]?.getD 0) (zs.drop (k + 1)))) := Lib.hid (by rw [hg.out, drop_at HL.out hlt]; rfl)
      have hcell1 : w.cell? (a.add k) = some (.int .i64 (zs[k]?.getD 0)) := by simpa using hcell0
      generalize zs[k]?.getD 0 = z at *
      clear hcell0
      by_cases h1 : y < z
      · by_cases h2 : z ≤ 2000
        · have HG2 : Hid (b = ascB z (zs.drop (k + 1))) := Lib.hid (by rw [HG.out]; simp [h1, h2])
          go_wp2
          go_round
          case rel => exact ⟨k + 1, z, by omega, by omega, rfl, by go_num, HG2⟩
          case measure => simp [intOf]; omega
        · have R : Hid (false = b) := Lib.hid (by rw [HG.out]; simp [h2])
          go_wp2
          go_ret
          exact ⟨ret_boolB R.out, rfl⟩
      · have R : Hid (false = b) := Lib.hid (by rw [HG.out]; simp [h1])
        go_wp2
        go_ret
        exact ⟨ret_boolB R.out, rfl⟩
    · obtain rfl : k = n := by omega
      have R : Hid (true = b) := Lib.hid (by rw [hg.out, drop_end HL.out (Nat.le_refl _)]; rfl)
      go_wp2
      go_ret
      exact ⟨ret_boolB R.out, rfl⟩

theorem row_ownB {w : World} {g n lo : Nat} {zs : List Int} (h : w.rowIs g 2 n (fun x => if x < n then .int .i64 (zs.getD x 0) else .int .i64 0)) (hl : zs.length = n) (hlo : lo ≤ g) (hn : n ≤ 9223372036854775807) :
    OwnI w lo w.heap.size (.slice (some ⟨g, 0, none⟩) n n) zs := by
  obtain ⟨cs, h1, h2, h3⟩ := h
  refine OwnI.mk' (n := n) ⟨by simp [hl], .inr ⟨g, n, cs, rfl, hlo, h1, Nat.le_refl _, by unfold maxLen; omega, by omega, ?_⟩⟩
  apply List.ext_getElem?
  intro i
  by_cases hi : i < n
  · have := h3 i hi
    simp only [Nat.mul_one, List.getElem?_take, hi, if_true, Array.getElem?_toList, this]
    simp [hl, hi]
  · rw [List.getElem?_eq_none (by simp; omega), List.getElem?_eq_none (by simp; omega)]

set_option maxRecDepth 100000 in
theorem divisors_any (v : Value) (zs : List Int) (w : World) (B : Nat) (h : ReadI w B v zs) (hn : zs.length ≤ 1048576) (hB : B ≤ w.heap.size) (hz : ∀ z ∈ zs, 1 ≤ z ∧ z ≤ 2000) :
    Calls Try.prog 114 #[v] w fun e w' => ∃ v', e = .returned v' ∧ v' = .slice (some ⟨w.heap.size, 0, none⟩) zs.length zs.length ∧ OwnI w' w.heap.size w'.heap.size v' (dvL 0 zs) ∧ Below w.heap.size w w' := by
  obtain ⟨n, A, c, rfl, hr, HL⟩ := h.split
  rw [HL.out] at hn
  have H0 := Lib.hid hr
  have HZ := Lib.hid hz
  clear hr h hz
  have hmk := fun (W : World) => run_make_row' (P := Try.prog) 22 2 (.int .i64 0) 8 Try.underlying22 int_info rfl .i64 .i64 n (by omega) (by omega) W
  go_enter Try.func114, Try.ntmps114
  go_wp2
  clear hmk
  go_loopw [4, 12] (fun ve vi wr => ∃ (k : Nat) (y : Int) (L : List Int), k ≤ n ∧ (0 ≤ y ∧ y ≤ 2000) ∧ ve = .int .i64 y ∧ vi = .int .i64 k ∧ Hid (L.length = k) ∧ Hid (dvL 0 zs = L ++ dvL y (zs.drop k)) ∧ Hid (wr.rowIs w.heap.size 2 n (fun x => if x < k then .int .i64 ((dvL 0 zs).getD x 0) else .int .i64 0)) ∧ Hid (Below w.heap.size w wr)) (fun _ vi _ => n - (intOf vi).toNat)
  case atStart => exact ⟨0, 0, [], by omega, by omega, rfl, rfl, Lib.hid rfl, Lib.hid rfl, Lib.hid ((World.rowIs_made w _ n _).congr (fun i hi => by simp)), Lib.hid ((Below.refl _ _).alloc (Nat.le_refl _) _)⟩
  case round =>
    obtain ⟨k, y, L, hk, hy, rfl, rfl, hL, hg, hrow, hb⟩ := hrel
    by_cases hlt : k < n
    · obtain ⟨a, rfl, hab, hcell0⟩ := H0.out.2 k hlt
      have hz1 := HZ.out (zs[k]?.getD 0) (by have := HL.out; simp [show k < zs.length by omega])
      have HG : Hid (dvL 0 zs = (L ++ [(Int.gcd y (zs[k]?.getD 0) : Int)]) ++ dvL (Int.gcd y (zs[k]?.getD 0) : Int) (zs.drop (k + 1))) := Lib.hid (by rw [hg.out, drop_at HL.out hlt]; simp [dvL])
      have hcell1 : wr.cell? (a.add k) = some (.int .i64 (zs[k]?.getD 0)) := by rw [hb.out.cell (by rw [add_block]; omega)]; simpa using hcell0
      generalize zs[k]?.getD 0 = z at *
      have hgl := gcd_le (e := y) (z := z) hz1.1
      have HD : Hid ((dvL 0 zs).getD k 0 = (Int.gcd y z : Int)) := Lib.hid (by have := hL.out; subst this; rw [HG.out]; simp)
      have hdst := hrow.out.cell hlt
      simp only [Nat.lt_irrefl, if_false] at hdst
      have hfz := hrow.out.frozen k
      clear hcell0 hg
      go_wp2_with (go_at_call 125; refine (greatest_any _ _ _ (by omega) (by omega) (by omega) (by omega)).mono ?_; rintro e w' ⟨rfl, nd, rfl⟩)
      go_roundw
      case rel =>
        refine ⟨k + 1, _, L ++ [(Int.gcd y z : Int)], by omega, by omega, rfl, by go_num, Lib.hid (by simp [hL.out]), HG, Lib.hid ((hrow.out.set k _).congr fun j hj => ?_), Lib.hid ((below_drewN hb.out nd).setCell (Nat.le_refl _) _)⟩
        by_cases h1 : j = k
        · subst h1; simp only [if_true, show j < j + 1 by omega]; rw [HD.out]
        · by_cases h2 : j < k
          · simp only [h1, h2, if_false, if_true, show j < k + 1 by omega]
          · simp only [h1, h2, if_false, show ¬ j < k + 1 by omega]
      case measure => simp [intOf]; omega
    · obtain rfl : k = n := by omega
      have HNL : Hid ((dvL 0 zs).length = k) := Lib.hid (by rw [dvL_len, HL.out])
      go_wp2
      go_ret
      exact ⟨_, rfl, by rw [HL.out]; rfl, row_ownB hrow.out HNL.out (Nat.le_refl _) (by omega), hb.out⟩
end Go.Proofs.Ytncgkoanckefmaa
