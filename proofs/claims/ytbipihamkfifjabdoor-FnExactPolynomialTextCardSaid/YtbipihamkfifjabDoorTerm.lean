/- The program's text of a term: contract of impl.textOfTerm. Conditions: stated at the theorem. -/
import Derived.Test.YtbipihamkfifjabDoorTxM
import Derived.Test.YtbipihamkfifjabDoorItoa
namespace Go.Proofs.YtbipihamkfifjabDoor
open Go.ChangeShapes Go.WideShapes Go.ChangeAt Go.RowKit
set_option linter.unusedVariables false

theorem bc {W w1 : World} (hb : Below W.heap.size W w1) : (∀ b o, b < W.heap.size → w1.cell? ⟨b, o, none⟩ = W.cell? ⟨b, o, none⟩) ∧ (∀ b o, b < W.heap.size → w1.frozen? ⟨b, o, none⟩ = W.frozen? ⟨b, o, none⟩) :=
  ⟨fun b o h => hb.cell (p := ⟨b, o, none⟩) h, fun b o h => hb.frozen (p := ⟨b, o, none⟩) h⟩

set_option maxRecDepth 100000 in
theorem term_0 (c : Int) (k : Nat) (w : World) (hc : -1000000000000 ≤ c ∧ c ≤ 1000000000000) (hk : k ≤ 2000) (ht : Tab w) (h : k = 0) :
    Calls Tryd.prog 27 #[.int .i64 c, .int .i64 (k : Int)] w fun e w' => e = .returned (.string ⟨(termL c k).toArray⟩) ∧ Below w.heap.size w w' := by
  have E : Hid (Lib.itoa c = termL c k) := Lib.hid (by rw [termL, if_pos h])
  have li : (Lib.itoa c).length ≤ 20 := itoa_len (by omega) (by omega)
  have lk : (Lib.itoa (k : Int)).length ≤ 20 := itoa_len (by omega) (by omega)
  have T : ((k : Int) == 0) = true := by simp; omega
  have HT := Lib.hid ht
  clear ht li lk h
  go_enter Tryd.func27, Tryd.ntmps27
  go_wp2_with fail
  refine (fmt_any c _ (by omega) (by omega) HT.out).mono ?_
  rintro e w1 ⟨rfl, hb1⟩
  have hz1 := hb1.size
  go_wp2_with fail
  go_ret
  exact ⟨str_eq E.out, (by repeat (first | exact Below.refl _ _ | apply below_drewN | apply Below.drew | (refine Below.setCell ?_ (by first | (simp; done) | (simp; omega) | omega) _) | (refine Below.alloc ?_ (by first | exact Nat.le_refl _ | (simp; done) | (simp; omega) | omega) _) | (refine Below.trans ?_ (hb1.mono (by first | exact Nat.le_refl _ | (simp; done) | (simp; omega) | omega)))))⟩

set_option maxRecDepth 100000 in
theorem term_sp (c : Int) (k : Nat) (w : World) (hc : -1000000000000 ≤ c ∧ c ≤ 1000000000000) (hk : k ≤ 2000) (ht : Tab w) (h : k = 1) (h1 : c = 1) :
    Calls Tryd.prog 27 #[.int .i64 c, .int .i64 (k : Int)] w fun e w' => e = .returned (.string ⟨(termL c k).toArray⟩) ∧ Below w.heap.size w w' := by
  have E : Hid ([116] = termL c k) := Lib.hid (by rw [termL, if_neg (by omega), if_pos h1, powL, if_pos h])
  have li : (Lib.itoa c).length ≤ 20 := itoa_len (by omega) (by omega)
  have lk : (Lib.itoa (k : Int)).length ≤ 20 := itoa_len (by omega) (by omega)
  have T : ((k : Int) == 0) = false := by simp; omega
  have G : ¬ (1 : Int) < (k : Int) := by omega
  have C1 : (c == 1) = true := by simp [h1]
  have HT := Lib.hid ht
  clear ht li lk h h1
  go_enter Tryd.func27, Tryd.ntmps27
  go_wp2_with fail
  refine (fmt_any c _ (by omega) (by omega) HT.out).mono ?_
  rintro e w1 ⟨rfl, hb1⟩
  have hz1 := hb1.size
  go_wp2_with fail
  go_ret
  exact ⟨str_eq E.out, (by repeat (first | exact Below.refl _ _ | apply below_drewN | apply Below.drew | (refine Below.setCell ?_ (by first | (simp; done) | (simp; omega) | omega) _) | (refine Below.alloc ?_ (by first | exact Nat.le_refl _ | (simp; done) | (simp; omega) | omega) _) | (refine Below.trans ?_ (hb1.mono (by first | exact Nat.le_refl _ | (simp; done) | (simp; omega) | omega)))))⟩

set_option maxRecDepth 100000 in
theorem term_sm (c : Int) (k : Nat) (w : World) (hc : -1000000000000 ≤ c ∧ c ≤ 1000000000000) (hk : k ≤ 2000) (ht : Tab w) (h : k = 1) (h1 : c = -1) :
    Calls Tryd.prog 27 #[.int .i64 c, .int .i64 (k : Int)] w fun e w' => e = .returned (.string ⟨(termL c k).toArray⟩) ∧ Below w.heap.size w w' := by
  have E : Hid (45 :: [116] = termL c k) := Lib.hid (by rw [termL, if_neg (by omega), if_neg (by omega), if_pos h1, powL, if_pos h])
  have li : (Lib.itoa c).length ≤ 20 := itoa_len (by omega) (by omega)
  have lk : (Lib.itoa (k : Int)).length ≤ 20 := itoa_len (by omega) (by omega)
  have T : ((k : Int) == 0) = false := by simp; omega
  have G : ¬ (1 : Int) < (k : Int) := by omega
  have C1 : (c == 1) = false := by simp [h1]
  have C2 : (c == -1) = true := by simp [h1]
  have a1 := fun W => (add_lists [45] [116] (by simp) (by simp; try omega) W : (Op.stringOp .add ⟨#[45]⟩ ⟨([116] : List UInt8).toArray⟩).run Tryd.prog W = .ok (.string ⟨(45 :: [116]).toArray⟩) W)
  have HT := Lib.hid ht
  clear ht li lk h h1
  go_enter Tryd.func27, Tryd.ntmps27
  go_wp2_with fail
  refine (fmt_any c _ (by omega) (by omega) HT.out).mono ?_
  rintro e w1 ⟨rfl, hb1⟩
  have hz1 := hb1.size
  go_wp2_with fail
  go_ret
  exact ⟨str_eq E.out, (by repeat (first | exact Below.refl _ _ | apply below_drewN | apply Below.drew | (refine Below.setCell ?_ (by first | (simp; done) | (simp; omega) | omega) _) | (refine Below.alloc ?_ (by first | exact Nat.le_refl _ | (simp; done) | (simp; omega) | omega) _) | (refine Below.trans ?_ (hb1.mono (by first | exact Nat.le_refl _ | (simp; done) | (simp; omega) | omega)))))⟩

set_option maxRecDepth 100000 in
theorem term_sx (c : Int) (k : Nat) (w : World) (hc : -1000000000000 ≤ c ∧ c ≤ 1000000000000) (hk : k ≤ 2000) (ht : Tab w) (h : k = 1) (h1 : c ≠ 1) (h2 : c ≠ -1) :
    Calls Tryd.prog 27 #[.int .i64 c, .int .i64 (k : Int)] w fun e w' => e = .returned (.string ⟨(termL c k).toArray⟩) ∧ Below w.heap.size w w' := by
  have E : Hid (Lib.itoa c ++ [116] = termL c k) := Lib.hid (by rw [termL, if_neg (by omega), if_neg h1, if_neg h2, powL, if_pos h])
  have li : (Lib.itoa c).length ≤ 20 := itoa_len (by omega) (by omega)
  have lk : (Lib.itoa (k : Int)).length ≤ 20 := itoa_len (by omega) (by omega)
  have T : ((k : Int) == 0) = false := by simp; omega
  have G : ¬ (1 : Int) < (k : Int) := by omega
  have C1 : (c == 1) = false := by simp [h1]
  have C2 : (c == -1) = false := by simp [h2]
  have a1 := fun W => add_lists (Lib.itoa c) [116] (by omega) (by simp; try omega) W
  have HT := Lib.hid ht
  clear ht li lk h
  go_enter Tryd.func27, Tryd.ntmps27
  go_wp2_with fail
  refine (fmt_any c _ (by omega) (by omega) HT.out).mono ?_
  rintro e w1 ⟨rfl, hb1⟩
  have hz1 := hb1.size
  go_wp2_with fail
  go_ret
  exact ⟨str_eq E.out, (by repeat (first | exact Below.refl _ _ | apply below_drewN | apply Below.drew | (refine Below.setCell ?_ (by first | (simp; done) | (simp; omega) | omega) _) | (refine Below.alloc ?_ (by first | exact Nat.le_refl _ | (simp; done) | (simp; omega) | omega) _) | (refine Below.trans ?_ (hb1.mono (by first | exact Nat.le_refl _ | (simp; done) | (simp; omega) | omega)))))⟩

set_option maxRecDepth 100000 in
theorem term_bp (c : Int) (k : Nat) (w : World) (hc : -1000000000000 ≤ c ∧ c ≤ 1000000000000) (hk : k ≤ 2000) (ht : Tab w) (h : 1 < k) (h1 : c = 1) :
    Calls Tryd.prog 27 #[.int .i64 c, .int .i64 (k : Int)] w fun e w' => e = .returned (.string ⟨(termL c k).toArray⟩) ∧ Below w.heap.size w w' := by
  have E : Hid ((116 :: 94 :: Lib.itoa (k : Int)) = termL c k) := Lib.hid (by rw [termL, if_neg (by omega), if_pos h1, powL, if_neg (show ¬ k = 1 by omega)])
  have li : (Lib.itoa c).length ≤ 20 := itoa_len (by omega) (by omega)
  have lk : (Lib.itoa (k : Int)).length ≤ 20 := itoa_len (by omega) (by omega)
  have T : ((k : Int) == 0) = false := by simp; omega
  have G : (1 : Int) < (k : Int) := by omega
  have C1 : (c == 1) = true := by simp [h1]
  have a0 := fun W => (add_lists [116, 94] (Lib.itoa (k : Int)) (by simp) (by omega) W : (Op.stringOp .add ⟨#[116, 94]⟩ ⟨(Lib.itoa (k : Int)).toArray⟩).run Tryd.prog W = .ok (.string ⟨(116 :: 94 :: Lib.itoa (k : Int)).toArray⟩) W)
  have HT := Lib.hid ht
  clear ht li lk h1
  go_enter Tryd.func27, Tryd.ntmps27
  go_wp2_with fail
  refine (fmt_any c _ (by omega) (by omega) HT.out).mono ?_
  rintro e w1 ⟨rfl, hb1⟩
  have hz1 := hb1.size
  go_wp2_with fail
  refine (itoa_any (k : Int) _ (by omega) (by omega) (HT.out.below (by repeat (first | exact Below.refl _ _ | apply below_drewN | apply Below.drew | (refine Below.setCell ?_ (by first | (simp; done) | (simp; omega) | omega) _) | (refine Below.alloc ?_ (by first | exact Nat.le_refl _ | (simp; done) | (simp; omega) | omega) _) | (refine Below.trans ?_ (hb1.mono (by first | exact Nat.le_refl _ | (simp; done) | (simp; omega) | omega))))))).mono ?_
  rintro e w2 ⟨rfl, hb2⟩
  go_wp2_with fail
  go_ret
  exact ⟨str_eq E.out, (by repeat (first | exact Below.refl _ _ | apply below_drewN | apply Below.drew | (refine Below.setCell ?_ (by first | (simp; done) | (simp; omega) | omega) _) | (refine Below.alloc ?_ (by first | exact Nat.le_refl _ | (simp; done) | (simp; omega) | omega) _) | (refine Below.trans ?_ (hb2.mono (by first | exact Nat.le_refl _ | (simp; done) | (simp; omega) | omega))) | (refine Below.trans ?_ (hb1.mono (by first | exact Nat.le_refl _ | (simp; done) | (simp; omega) | omega)))))⟩

set_option maxRecDepth 100000 in
theorem term_bm (c : Int) (k : Nat) (w : World) (hc : -1000000000000 ≤ c ∧ c ≤ 1000000000000) (hk : k ≤ 2000) (ht : Tab w) (h : 1 < k) (h1 : c = -1) :
    Calls Tryd.prog 27 #[.int .i64 c, .int .i64 (k : Int)] w fun e w' => e = .returned (.string ⟨(termL c k).toArray⟩) ∧ Below w.heap.size w w' := by
  have E : Hid (45 :: (116 :: 94 :: Lib.itoa (k : Int)) = termL c k) := Lib.hid (by rw [termL, if_neg (by omega), if_neg (by omega), if_pos h1, powL, if_neg (show ¬ k = 1 by omega)])
  have li : (Lib.itoa c).length ≤ 20 := itoa_len (by omega) (by omega)
  have lk : (Lib.itoa (k : Int)).length ≤ 20 := itoa_len (by omega) (by omega)
  have T : ((k : Int) == 0) = false := by simp; omega
  have G : (1 : Int) < (k : Int) := by omega
  have C1 : (c == 1) = false := by simp [h1]
  have C2 : (c == -1) = true := by simp [h1]
  have a0 := fun W => (add_lists [116, 94] (Lib.itoa (k : Int)) (by simp) (by omega) W : (Op.stringOp .add ⟨#[116, 94]⟩ ⟨(Lib.itoa (k : Int)).toArray⟩).run Tryd.prog W = .ok (.string ⟨(116 :: 94 :: Lib.itoa (k : Int)).toArray⟩) W)
  have a1 := fun W => (add_lists [45] (116 :: 94 :: Lib.itoa (k : Int)) (by simp) (by simp; try omega) W : (Op.stringOp .add ⟨#[45]⟩ ⟨((116 :: 94 :: Lib.itoa (k : Int)) : List UInt8).toArray⟩).run Tryd.prog W = .ok (.string ⟨(45 :: (116 :: 94 :: Lib.itoa (k : Int))).toArray⟩) W)
  have HT := Lib.hid ht
  clear ht li lk h1
  go_enter Tryd.func27, Tryd.ntmps27
  go_wp2_with fail
  refine (fmt_any c _ (by omega) (by omega) HT.out).mono ?_
  rintro e w1 ⟨rfl, hb1⟩
  have hz1 := hb1.size
  go_wp2_with fail
  refine (itoa_any (k : Int) _ (by omega) (by omega) (HT.out.below (by repeat (first | exact Below.refl _ _ | apply below_drewN | apply Below.drew | (refine Below.setCell ?_ (by first | (simp; done) | (simp; omega) | omega) _) | (refine Below.alloc ?_ (by first | exact Nat.le_refl _ | (simp; done) | (simp; omega) | omega) _) | (refine Below.trans ?_ (hb1.mono (by first | exact Nat.le_refl _ | (simp; done) | (simp; omega) | omega))))))).mono ?_
  rintro e w2 ⟨rfl, hb2⟩
  go_wp2_with fail
  go_ret
  exact ⟨str_eq E.out, (by repeat (first | exact Below.refl _ _ | apply below_drewN | apply Below.drew | (refine Below.setCell ?_ (by first | (simp; done) | (simp; omega) | omega) _) | (refine Below.alloc ?_ (by first | exact Nat.le_refl _ | (simp; done) | (simp; omega) | omega) _) | (refine Below.trans ?_ (hb2.mono (by first | exact Nat.le_refl _ | (simp; done) | (simp; omega) | omega))) | (refine Below.trans ?_ (hb1.mono (by first | exact Nat.le_refl _ | (simp; done) | (simp; omega) | omega)))))⟩

set_option maxRecDepth 100000 in
theorem term_bx (c : Int) (k : Nat) (w : World) (hc : -1000000000000 ≤ c ∧ c ≤ 1000000000000) (hk : k ≤ 2000) (ht : Tab w) (h : 1 < k) (h1 : c ≠ 1) (h2 : c ≠ -1) :
    Calls Tryd.prog 27 #[.int .i64 c, .int .i64 (k : Int)] w fun e w' => e = .returned (.string ⟨(termL c k).toArray⟩) ∧ Below w.heap.size w w' := by
  have E : Hid (Lib.itoa c ++ (116 :: 94 :: Lib.itoa (k : Int)) = termL c k) := Lib.hid (by rw [termL, if_neg (by omega), if_neg h1, if_neg h2, powL, if_neg (show ¬ k = 1 by omega)])
  have li : (Lib.itoa c).length ≤ 20 := itoa_len (by omega) (by omega)
  have lk : (Lib.itoa (k : Int)).length ≤ 20 := itoa_len (by omega) (by omega)
  have T : ((k : Int) == 0) = false := by simp; omega
  have G : (1 : Int) < (k : Int) := by omega
  have C1 : (c == 1) = false := by simp [h1]
  have C2 : (c == -1) = false := by simp [h2]
  have a0 := fun W => (add_lists [116, 94] (Lib.itoa (k : Int)) (by simp) (by omega) W : (Op.stringOp .add ⟨#[116, 94]⟩ ⟨(Lib.itoa (k : Int)).toArray⟩).run Tryd.prog W = .ok (.string ⟨(116 :: 94 :: Lib.itoa (k : Int)).toArray⟩) W)
  have a1 := fun W => add_lists (Lib.itoa c) (116 :: 94 :: Lib.itoa (k : Int)) (by omega) (by simp; try omega) W
  have HT := Lib.hid ht
  clear ht li lk
  go_enter Tryd.func27, Tryd.ntmps27
  go_wp2_with fail
  refine (fmt_any c _ (by omega) (by omega) HT.out).mono ?_
  rintro e w1 ⟨rfl, hb1⟩
  have hz1 := hb1.size
  go_wp2_with fail
  refine (itoa_any (k : Int) _ (by omega) (by omega) (HT.out.below (by repeat (first | exact Below.refl _ _ | apply below_drewN | apply Below.drew | (refine Below.setCell ?_ (by first | (simp; done) | (simp; omega) | omega) _) | (refine Below.alloc ?_ (by first | exact Nat.le_refl _ | (simp; done) | (simp; omega) | omega) _) | (refine Below.trans ?_ (hb1.mono (by first | exact Nat.le_refl _ | (simp; done) | (simp; omega) | omega))))))).mono ?_
  rintro e w2 ⟨rfl, hb2⟩
  go_wp2_with fail
  go_ret
  exact ⟨str_eq E.out, (by repeat (first | exact Below.refl _ _ | apply below_drewN | apply Below.drew | (refine Below.setCell ?_ (by first | (simp; done) | (simp; omega) | omega) _) | (refine Below.alloc ?_ (by first | exact Nat.le_refl _ | (simp; done) | (simp; omega) | omega) _) | (refine Below.trans ?_ (hb2.mono (by first | exact Nat.le_refl _ | (simp; done) | (simp; omega) | omega))) | (refine Below.trans ?_ (hb1.mono (by first | exact Nat.le_refl _ | (simp; done) | (simp; omega) | omega)))))⟩

theorem textOfTerm_any (c : Int) (k : Nat) (w : World) (hc : -1000000000000 ≤ c ∧ c ≤ 1000000000000) (hk : k ≤ 2000) (ht : Tab w) :
    Calls Tryd.prog 27 #[.int .i64 c, .int .i64 (k : Int)] w fun e w' => e = .returned (.string ⟨(termL c k).toArray⟩) ∧ Below w.heap.size w w' := by
  by_cases h0 : k = 0
  · exact term_0 c k w hc hk ht h0
  by_cases h1 : k = 1
  · by_cases c1 : c = 1
    · exact term_sp c k w hc hk ht h1 c1
    by_cases c2 : c = -1
    · exact term_sm c k w hc hk ht h1 c2
    · exact term_sx c k w hc hk ht h1 c1 c2
  · by_cases c1 : c = 1
    · exact term_bp c k w hc hk ht (by omega) c1
    by_cases c2 : c = -1
    · exact term_bm c k w hc hk ht (by omega) c2
    · exact term_bx c k w hc hk ht (by omega) c1 c2
end Go.Proofs.YtbipihamkfifjabDoor
