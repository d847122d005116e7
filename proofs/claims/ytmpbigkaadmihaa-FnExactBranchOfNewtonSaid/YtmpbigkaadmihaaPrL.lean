/- Pairs as lists of two numbers: contract of impl.listsOfPairs. Conditions: stated at the theorem. -/
import Derived.Test.YtmpbigkaadmihaaPrI
import Derived.Test.YtmpbigkaadmihaaKeepQ
namespace Go.Proofs.Ytmpbigkaadmihaa
open Go.ChangeShapes Go.WideShapes Go.ChangeAt Go.RowKit
set_option linter.unusedVariables false
set_option linter.unusedSimpArgs false

def prL (f : Nat → Int × Int) (n : Nat) : List (List Int) := (List.range n).map fun i => [(f i).1, (f i).2]
theorem prL_len (f : Nat → Int × Int) (n : Nat) : (prL f n).length = n := by simp [prL]
theorem prL_at (f : Nat → Int × Int) {n i : Nat} (h : i < n) : (prL f n).getD i [] = [(f i).1, (f i).2] := by simp [prL, List.getD, h]
theorem list2 {w : World} {lo : Nat} (hlo : lo ≤ w.heap.size) (a b : Int) : OwnI (w.alloc (.cells #[.int .i64 a, .int .i64 b] 2)) lo (w.alloc (.cells #[.int .i64 a, .int .i64 b] 2)).heap.size (.slice (some ⟨w.heap.size, 0, none⟩) 2 2) [a, b] :=
  OwnI.mk' (n := 2) (World.ownsRow_lit (base := lo) w #[.int .i64 a, .int .i64 b] 2 (e := 2) (size := 1) hlo (by simp [maxLen]) rfl)
theorem kept_box (w : World) (o : Obj) (lo hi : Nat) (h : hi ≤ w.heap.size) : Kept lo hi w (w.alloc o) := Kept.of_below (below_box2 w o) h
theorem slice_infoP : (Try.prog.info? 24).map (fun i => (i.zero, i.size, i.bytes)) = some (some (.slice none 0 0), 1, 24) := by kernel_rfl

set_option maxHeartbeats 1000000 in
theorem lists_any (g n : Nat) (f : Nat → Int × Int) (w : World) (hr : PRow w g n f) (hn : n ≤ 1048576) :
    Calls Try.prog 51 #[.slice (some ⟨g, 0, none⟩) n n] w fun e w' => ∃ v', e = .returned v' ∧ OwnQ w' w.heap.size w'.heap.size v' (prL f n) ∧ Below w.heap.size w w' := by
  have HR := Lib.hid hr
  have hg : g < w.heap.size := World.rowIs.lt hr
  have hmk := fun (W : World) => run_make_row' (P := Try.prog) 28 24 (.slice none 0 0) 24 Try.underlying28 slice_infoP rfl .i64 .i64 n (by omega) (by omega) W
  clear hr
  go_enter Try.func51, Try.ntmps51
  go_wp2
  clear hmk
  go_loopw [11] (fun vi wr => ∃ (i : Nat) (ls hs : Nat → Nat) (uf : Nat → Value), i ≤ n ∧ vi = .int .i64 i ∧ Hid (wr.rowIs w.heap.size 24 n (fun j => if j < i then uf j else .slice none 0 0)) ∧ Hid (∀ j, j < i → w.heap.size + 1 ≤ ls j ∧ hs j ≤ wr.heap.size ∧ OwnI wr (ls j) (hs j) (uf j) [(f j).1, (f j).2]) ∧ Hid (∀ j k, j < k → k < i → hs j ≤ ls k) ∧ Hid (w.heap.size + 1 ≤ wr.heap.size) ∧ Hid (Below w.heap.size w wr)) (fun vi _ => n - (intOf vi).toNat)
  case atStart => exact ⟨0, fun _ => 0, fun _ => 0, fun _ => undef, by omega, rfl, Lib.hid ((World.rowIs_made w _ n _).congr (fun j hj => by simp)), Lib.hid (fun j hj => by omega), Lib.hid (fun j k _ hk => by omega), Lib.hid (by simp), Lib.hid ((Below.refl _ _).alloc (Nat.le_refl _) _)⟩
  case round =>
    obtain ⟨i, ls, hs, uf, hi, rfl, hrow, hel, hap, hsz, hb⟩ := hrel
    by_cases hlt : i < n
    · obtain ⟨q1, q2, q3, q4⟩ := HR.out.cells hlt
      have c1 : wr.cell? ⟨g, i * 2, none⟩ = some (.int .i64 (f i).1) := (hb.out.cell (p := ⟨g, i * 2, none⟩) hg).trans q1
      have c2 : wr.cell? ⟨g, i * 2 + 1, none⟩ = some (.int .i64 (f i).2) := (hb.out.cell (p := ⟨g, i * 2 + 1, none⟩) hg).trans q2
      have HF : Hid (f i = ((f i).1, (f i).2)) := Lib.hid rfl
      obtain ⟨a, ha⟩ : ∃ a, (f i).1 = a := ⟨_, rfl⟩
      obtain ⟨b, hbb⟩ : ∃ a, (f i).2 = a := ⟨_, rfl⟩
      have HA := Lib.hid (And.intro ha hbb)
      rw [ha] at c1
      rw [hbb] at c2
      have hdst := hrow.out.cell hlt
      simp only [Nat.lt_irrefl, if_false] at hdst
      have hfz := hrow.out.frozen i
      have hsz1 := hsz.out
      have hin : (i : Int) < (n : Int) := by omega
      have hgr : g < wr.heap.size := by have := hb.out.size; omega
      have hwr : w.heap.size < wr.heap.size := by omega
      clear q1 q2 q3 q4 ha hbb
      go_wp2
      go_roundw
      case rel =>
        have hs1 : (wr.setCell ⟨w.heap.size, i, none⟩ (.slice (some ⟨wr.heap.size + 1, 0, none⟩) 2 2)).heap.size = wr.heap.size := by simp [World.setCell]
        have hs2 : ((wr.setCell ⟨w.heap.size, i, none⟩ (.slice (some ⟨wr.heap.size + 1, 0, none⟩) 2 2)).alloc (.cells #[.int .i64 a, .int .i64 b] 86)).heap.size = wr.heap.size + 1 := by rw [World.size_alloc, hs1]
        have hs3 : (((wr.setCell ⟨w.heap.size, i, none⟩ (.slice (some ⟨wr.heap.size + 1, 0, none⟩) 2 2)).alloc (.cells #[.int .i64 a, .int .i64 b] 86)).alloc (.cells #[.int .i64 a, .int .i64 b] 2)).heap.size = wr.heap.size + 2 := by rw [World.size_alloc, hs2]
        have hk1 := kept_box ((wr.setCell ⟨w.heap.size, i, none⟩ (.slice (some ⟨wr.heap.size + 1, 0, none⟩) 2 2))) (.cells #[.int .i64 a, .int .i64 b] 86)
        have hk2 := kept_box ((wr.setCell ⟨w.heap.size, i, none⟩ (.slice (some ⟨wr.heap.size + 1, 0, none⟩) 2 2)).alloc (.cells #[.int .i64 a, .int .i64 b] 86)) (.cells #[.int .i64 a, .int .i64 b] 2)
        refine ⟨i + 1, (fun j => if j = i then wr.heap.size + 1 else ls j), (fun j => if j = i then wr.heap.size + 2 else hs j), (fun j => if j = i then (.slice (some ⟨wr.heap.size + 1, 0, none⟩) 2 2) else uf j), by omega, by go_num, Lib.hid ((((hrow.out.set i _).alloc _).alloc _).congr fun j hj => ?_), Lib.hid (fun j hj => ?_), Lib.hid (fun j k hjk hk => ?_), Lib.hid (by rw [hs3]; omega), Lib.hid (((hb.out.setCell (Nat.le_refl _) _).alloc (by rw [hs1]; omega) _).alloc (by rw [hs2]; omega) _)⟩
        · by_cases h1 : j = i
          · subst h1; simp
          · by_cases h2 : j < i
            · simp [h1, h2, show j < i + 1 by omega]
            · simp [h1, h2, show ¬ j < i + 1 by omega]
        · by_cases h1 : j = i
          · subst h1
            simp only [if_true, hs3]
            refine ⟨by omega, Nat.le_refl _, ?_⟩
            have h9 := list2 (lo := wr.heap.size + 1) (w := (wr.setCell ⟨w.heap.size, j, none⟩ (.slice (some ⟨wr.heap.size + 1, 0, none⟩) 2 2)).alloc (.cells #[.int .i64 a, .int .i64 b] 86)) (by rw [hs2]; omega) a b
            rw [HA.out.1, HA.out.2]
            rw [hs2, hs3] at h9
            exact h9
          · have h2 := hel.out j (by omega)
            simp only [if_neg h1, hs3]
            exact ⟨h2.1, by omega, ((h2.2.2.kept (kept_set wr (p := ⟨w.heap.size, i, none⟩) (Or.inl (show w.heap.size < ls j by omega)) _)).kept (hk1 _ _ (by rw [hs1]; exact h2.2.1))).kept (hk2 _ _ (by rw [hs2]; omega))⟩
        · by_cases h1 : k = i
          · subst h1
            simp only [if_true, if_neg (show ¬ j = k by omega)]
            have := (hel.out j hjk).2.1
            omega
          · simp only [if_neg h1, if_neg (show ¬ j = i by omega)]
            exact hap.out j k hjk (by omega)
      case measure => simp [intOf]; omega
    · obtain rfl : i = n := by omega
      have HL : Hid (i = (prL f i).length) := Lib.hid (prL_len f i).symm
      go_wp2
      go_ret
      refine ⟨_, rfl, ?_, hb.out⟩
      obtain ⟨cs, hc1, hc2, hc3⟩ := hrow.out
      have hcl : cs.toList.length = i := by simpa using hc2
      have hcl2 : cs.toList.length = (prL f i).length := by rw [hcl]; exact HL.out
      have hsz1 := hsz.out
      refine ⟨cs.toList, ls, hs, ⟨by rw [hcl2, Nat.mul_one], .inr ⟨w.heap.size, i, cs, slice_eq HL.out, Nat.le_refl _, hc1, Nat.le_of_eq HL.out.symm, by unfold maxLen; omega, by omega, ?_⟩⟩, (fun k hk => ?_), Nat.le_refl _, (fun j hj => ?_), (fun j k hjk hk => Or.inl (hap.out j k hjk (Nat.lt_of_lt_of_eq hk HL.out.symm)))⟩
      · rw [List.take_of_length_le (by rw [hcl2]; omega)]
      · cases hk
        exact ⟨show w.heap.size < wr.heap.size by omega, fun j hj => Or.inl (show w.heap.size < ls j by have := (hel.out j (Nat.lt_of_lt_of_eq hj HL.out.symm)).1; omega)⟩
      · have hji : j < i := Nat.lt_of_lt_of_eq hj HL.out.symm
        have h2 := hel.out j hji
        have h3 := hc3 j hji
        simp only [hji, if_true] at h3
        have h4 : cs.toList.getD j undef = uf j := by simp [List.getD, h3]
        show w.heap.size ≤ ls j ∧ hs j ≤ wr.heap.size ∧ OwnI wr (ls j) (hs j) (cs.toList.getD j undef) ((prL f i).getD j [])
        rw [h4, prL_at f hji]
        exact ⟨by omega, h2.2.1, h2.2.2⟩
end Go.Proofs.Ytmpbigkaadmihaa
