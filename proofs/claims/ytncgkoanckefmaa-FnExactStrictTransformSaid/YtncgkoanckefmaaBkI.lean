/- Blocks of equal numbers, the program's counting and the model's blocks: contracts. Conditions: stated at each theorem. -/
import Derived.Test.YtncgkoanckefmaaBkM
import Derived.Test.YtncgkoanckefmaaRowQ
import Derived.Test.YtncgkoanckefmaaBrD
import Derived.Deep.QuietTactic
import Derived.BigQuiet
namespace Go.Proofs.Ytncgkoanckefmaa
open Go.ChangeShapes Go.WideShapes Go.ChangeAt Go.RowKit Go.Deep
set_option linter.unusedVariables false
set_option linter.unusedSimpArgs false

theorem lead_step {zs : List Int} {n j : Nat} (x : Int) (hl : zs.length = n) (h : j < n) : lead x (zs.drop j) = if zs[j]?.getD 0 = x then lead x (zs.drop (j + 1)) + 1 else 0 := by
  rw [drop_at hl h]; rfl
theorem countLeading_any (A : Option Addr) (n c : Nat) (zs : List Int) (x : Int) (w : World) (B : Nat) (hr : RI w B A n zs) (hB : B ≤ w.heap.size) (hn : n ≤ 9223372036854775807) (hw : ∀ z ∈ zs, (Lit.int .i64 z).wf = true) :
    Calls Try.prog 93 #[.slice A n c, .int .i64 x] w fun e w' => e = .returned (.int .i64 (lead x zs : Int)) ∧ Below w.heap.size w w' := by
  have HR := Lib.hid hr
  have HL := Lib.hid hr.1
  clear hr
  go_enter Try.func93, Try.ntmps93
  go_wp2
  go_loopw [5] (fun vj wr => ∃ (j : Nat), j ≤ n ∧ vj = .int .i64 j ∧ Hid (lead x zs = j + lead x (zs.drop j)) ∧ Hid (Below w.heap.size w wr)) (fun vj _ => n - (intOf vj).toNat)
  case atStart => exact ⟨0, by omega, rfl, Lib.hid (by simp), Lib.hid (Below.refl _ _)⟩
  case round =>
    obtain ⟨j, hj, rfl, HS, hb⟩ := hrel
    by_cases hjn : j < n
    · obtain ⟨a, rfl, hlt, hc⟩ := HR.out.2 j hjn
      have d1 : wr.cell? (a.add j) = some (.int .i64 (zs[j]?.getD 0)) := by rw [hb.out.cell (by rw [add_block]; omega)]; simpa using hc
      have HS2 : Hid (lead x zs = j + if zs[j]?.getD 0 = x then lead x (zs.drop (j + 1)) + 1 else 0) := Lib.hid (by rw [HS.out, lead_step x HL.out hjn])
      generalize zs[j]?.getD 0 = z at *
      have hjn2 : (j : Int) < (n : Int) := by omega
      clear hc HS
      by_cases hz : z = x
      · have HS3 : Hid (lead x zs = (j + 1 : Nat) + lead x (zs.drop (j + 1))) := Lib.hid (by rw [HS2.out, if_pos hz]; omega)
        have hzb : (z == x) = true := by simpa using hz
        clear HS2 hz
        go_wp2
        go_roundw
        case rel => exact ⟨j + 1, by omega, by go_num, HS3, hb⟩
        case measure => simp [intOf]; omega
      · have HS3 : Hid (lead x zs = j) := Lib.hid (by rw [HS2.out, if_neg hz]; omega)
        have hzb : (z == x) = false := by simpa using hz
        clear HS2 hz
        go_wp2
        go_ret
        exact ⟨by rw [HS3.out]; rfl, hb.out⟩
    · obtain rfl : j = n := by omega
      have HS3 : Hid (lead x zs = j) := Lib.hid (by rw [HS.out, drop_end HL.out (Nat.le_refl _)]; simp [lead])
      clear HS
      go_wp2
      go_ret
      exact ⟨by rw [HS3.out]; rfl, hb.out⟩

/-- A block more, or one number more in the last one. -/
theorem bk_take {zs : List Int} {n i : Nat} (hl : zs.length = n) (hi : i < n) : zs.take (i + 1) = zs.take i ++ [zs[i]?.getD 0] := by
  have h6 : i < zs.length := by omega
  rw [List.take_add_one]; simp [h6]
theorem bk_last {zs : List Int} {n i : Nat} (hl : zs.length = n) (hi : i < n) (h0 : 0 < i) : (zs.take i).getLast? = some (zs[i - 1]?.getD 0) := by
  have h7 : i - 1 < zs.length := by omega
  rw [List.getLast?_eq_getElem?, List.length_take, Nat.min_eq_left (by omega), List.getElem?_take]
  simp [show i - 1 < i by omega, h7]
theorem bkQ_first {zs : List Int} {n : Nat} (hl : zs.length = n) (hi : 0 < n) : bkQ (zs.take 1) = [] ++ [[zs[0]?.getD 0, 1]] := by
  rw [bk_take hl hi]; simp [bkQ, bkL]
theorem bkQ_new {zs : List Int} {n i : Nat} (hl : zs.length = n) (hi : i < n) (h0 : 0 < i) (h : zs[i]?.getD 0 ≠ zs[i - 1]?.getD 0) : bkQ (zs.take (i + 1)) = bkQ (zs.take i) ++ [[zs[i]?.getD 0, 1]] := by
  rw [bk_take hl hi, bkQ, (bk_snoc _ _ _ (bk_last hl hi h0)).2 (fun e => h e.symm)]
  simp [bkQ]
theorem bkQ_same {zs : List Int} {n i : Nat} (hl : zs.length = n) (hi : i < n) (h0 : 0 < i) (h : zs[i]?.getD 0 = zs[i - 1]?.getD 0) : ∃ D k, bkQ (zs.take i) = D ++ [[zs[i]?.getD 0, k]] ∧ bkQ (zs.take (i + 1)) = D ++ [[zs[i]?.getD 0, k + 1]] := by
  obtain ⟨D, k, h1, h2⟩ := (bk_snoc _ (zs[i]?.getD 0) _ (bk_last hl hi h0)).1 h.symm
  refine ⟨D.map fun p => [p.1, p.2], k, ?_, ?_⟩
  · rw [bkQ, h1]; simp
  · rw [bk_take hl hi, bkQ, h2]; simp
theorem set_last {D : List (List Int)} {a b c : Int} {n : Nat} (h : (D ++ [[a, b]]).length = n + 1) : (D ++ [[a, b]]).set n (((D ++ [[a, b]]).getD n []).set 1 c) = D ++ [[a, c]] := by
  have hn : D.length = n := by simpa using h
  subst hn
  simp [List.getD]
theorem get_last {D : List (List Int)} {a b : Int} {n : Nat} (h : (D ++ [[a, b]]).length = n + 1) : (D ++ [[a, b]]).getD n [] = [a, b] := by
  have hn : D.length = n := by simpa using h
  subst hn
  simp [List.getD]
end Go.Proofs.Ytncgkoanckefmaa
