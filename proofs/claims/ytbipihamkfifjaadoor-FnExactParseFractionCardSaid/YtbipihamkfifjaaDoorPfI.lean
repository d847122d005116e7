/- The program's ParseFraction: contract. Conditions: stated at each theorem. -/
import Derived.Test.YtbipihamkfifjaaDoorPfD
import Derived.Test.YtbipihamkfifjaaDoorText
namespace Go.Proofs.YtbipihamkfifjaaDoor
open Go.ChangeShapes Go.WideShapes Go.ChangeAt Go.RowKit
set_option linter.unusedVariables false

/-- internal/bytealg.MaxLen holds some integer. -/
def MaxL (W : World) : Prop := ∃ m : Int, W.cell? ⟨0, 0, none⟩ = some (.int .i64 m)
theorem MaxL.lt {W : World} (h : MaxL W) : 0 < W.heap.size := by
  obtain ⟨m, h⟩ := h
  unfold World.cell? at h
  cases hh : W.heap[0]? with
  | none => simp only [hh] at h; cases h
  | some o => exact (Array.getElem?_eq_some_iff.1 hh).1
theorem MaxL.below {W W' : World} (h : MaxL W) (hb : Below W.heap.size W W') : MaxL W' := by
  obtain ⟨m, hm⟩ := h
  refine ⟨m, ?_⟩
  rw [(bcell hb).1 _ _ (MaxL.lt ⟨m, hm⟩)]; exact hm
def pfE : Option (Int × Nat) → Ending
  | none => .returned (.tuple #[.agg #[.int .i64 0, .int .i64 0], .int .i64 6])
  | some x => .returned (.tuple #[.agg #[.int .i64 x.1, .int .i64 (x.2 : Int)], .int .i64 0])
/-- What the reading of a fraction answers. -/
def PfAns (r : Option (Int × Nat)) (w : World) : Ending → World → Prop := fun e w' => e = pfE r ∧ Below w.heap.size w w'
theorem PfAns.no {r : Option (Int × Nat)} {w w' : World} (h : r = none) (hb : Below w.heap.size w w') : PfAns r w (.returned (.tuple #[.agg #[.int .i64 0, .int .i64 0], .int .i64 6])) w' := ⟨by rw [h]; rfl, hb⟩
theorem PfAns.yes {r : Option (Int × Nat)} {w w' : World} {a u : Int} {k : Nat} (h : r = some (a, k)) (hk : u = (k : Int)) (hb : Below w.heap.size w w') : PfAns r w (.returned (.tuple #[.agg #[.int .i64 a, .int .i64 u], .int .i64 0])) w' := ⟨by rw [h, hk]; rfl, hb⟩
theorem cp_any (l b : List UInt8) (neg : Bool) (hb : Lib.trimPrefix l [45] = b) (hn : Lib.hasPrefix l [45] = neg) (w : World) :
    Calls Tryd.prog 52 #[.string ⟨l.toArray⟩, .string ⟨#[45]⟩] w fun e w' => e = .returned (.tuple #[.string ⟨b.toArray⟩, .bool neg]) ∧ w' = w := by
  subst hb; subst hn
  simpa using Tryd.strings_CutPrefix ⟨l.toArray⟩ ⟨#[45]⟩ w
theorem ct_any (l H T : List UInt8) (F : Bool) (hc : Lib.cut l [47] = (H, T, F)) (hl : l.length ≤ 1048576) (w : World) (hm : MaxL w) :
    Calls Tryd.prog 53 #[.string ⟨l.toArray⟩, .string ⟨#[47]⟩] w fun e w' => e = .returned (.tuple #[.string ⟨H.toArray⟩, .string ⟨T.toArray⟩, .bool F]) ∧ ∃ n, w' = w.drewN n := by
  obtain ⟨m, hm⟩ := hm
  have h := Tryd.strings_Cut ⟨l.toArray⟩ ⟨#[47]⟩ m w (by show l.toArray.size < 4294967281; rw [List.size_toArray]; omega) hm
  simp only [hc] at h
  simpa using h
theorem rd_yes (l : List UInt8) (h : rdB l = true) (w : World) :
    Calls Tryd.prog 54 #[.string ⟨l.toArray⟩] w fun e w' => e = .returned (.tuple #[.int .i64 (valL 0 l : Int), .bool true]) ∧ w' = w := by
  have hl : l.length ≤ 9 := by unfold rdB at h; simp only [Bool.and_eq_true, decide_eq_true_eq] at h; exact h.1.2
  refine (readDigits_any ⟨l.toArray⟩ w (by show l.toArray.size ≤ 1048576; rw [List.size_toArray]; omega)).mono ?_
  rintro e w' ⟨he, hw⟩
  simp only [h, if_true] at he
  exact ⟨he, hw⟩
theorem rd_no (l : List UInt8) (hl : l.length ≤ 1048576) (h : rdB l = false) (w : World) :
    Calls Tryd.prog 54 #[.string ⟨l.toArray⟩] w fun e w' => e = .returned (.tuple #[.int .i64 0, .bool false]) ∧ w' = w := by
  refine (readDigits_any ⟨l.toArray⟩ w (by show l.toArray.size ≤ 1048576; rw [List.size_toArray]; exact hl)).mono ?_
  rintro e w' ⟨he, hw⟩
  simp only [h] at he
  exact ⟨by simpa using he, hw⟩
theorem cut_len {l H T x : List UInt8} {F : Bool} (h : Lib.cut l x = (H, T, F)) : H.length ≤ l.length ∧ T.length ≤ l.length := by
  unfold Lib.cut at h
  split at h
  · simp only [Prod.mk.injEq] at h; obtain ⟨rfl, rfl, _⟩ := h
    exact ⟨List.length_take_le' _ _, by simp⟩
  · simp only [Prod.mk.injEq] at h; obtain ⟨rfl, rfl, _⟩ := h
    exact ⟨Nat.le_refl _, by simp⟩
theorem trim_len {l b x : List UInt8} (h : Lib.trimPrefix l x = b) : b.length ≤ l.length := by
  unfold Lib.trimPrefix at h; subst h; split <;> simp
theorem cand_of {ok : List UInt8 → Bool} {l b H T : List UInt8} {neg F : Bool} (hb : Lib.trimPrefix l [45] = b) (hn : Lib.hasPrefix l [45] = neg) (hc : Lib.cut b [47] = (H, T, F)) :
    cand ok l = if ok H && (!F || ok T) then some (if neg then -(valL 0 H : Int) else (valL 0 H : Int), if F then valL 0 T else 1) else none := by
  unfold cand; simp only [hb, hn, hc]
theorem pfR_none {ok : List UInt8 → Bool} {l : List UInt8} (h : cand ok l = none) : pfR ok l = none := by unfold pfR; rw [h]
theorem pfR_bad {ok : List UInt8 → Bool} {l : List UInt8} {a : Int} {u : Nat} (h : cand ok l = some (a, u)) (k : ¬ (fracB a u = true ∧ txt a u = l)) : pfR ok l = none := by unfold pfR; rw [h]; exact if_neg k
theorem pfR_good {ok : List UInt8 → Bool} {l : List UInt8} {a : Int} {u : Nat} (h : cand ok l = some (a, u)) (k : fracB a u = true ∧ txt a u = l) : pfR ok l = some (a, u) := by unfold pfR; rw [h]; exact if_pos k

set_option maxRecDepth 100000 in
theorem ipf_ff_noH (l b H T : List UInt8) (w : World) (hl : l.length ≤ 1048576) (hm : MaxL w) (ht : Tab w) (hb : Lib.trimPrefix l [45] = b) (hn : Lib.hasPrefix l [45] = false) (hc : Lib.cut b [47] = (H, T, false)) (hH : rdB H = false) :
    Calls Tryd.prog 17 #[.string ⟨l.toArray⟩] w (PfAns (pfR rdB l) w) := by
  have R : Hid (pfR rdB l = none) := Lib.hid (pfR_none (by rw [cand_of hb hn hc, hH]; rfl))
  have HH := Lib.hid hH
  clear hH
  have HM := Lib.hid hm
  have HT := Lib.hid ht
  have BL := trim_len hb
  obtain ⟨HL, TL⟩ := cut_len hc
  have HB := Lib.hid hb
  have HN := Lib.hid hn
  have HC := Lib.hid hc
  clear hm ht hb hn hc
  go_enter Tryd.func17, Tryd.ntmps17
  go_wp2_with fail
  refine (cp_any l b false HB.out HN.out _).mono ?_
  rintro e w' ⟨rfl, rfl⟩
  go_wp2_with fail
  refine (ct_any b H T false HC.out (by omega) _ (MaxL.below HM.out (by repeat (first | exact Below.refl _ _ | apply below_drewN | apply Below.drew | (refine Below.setCell ?_ (by first | (simp; done) | (simp; omega) | omega) _) | (refine Below.alloc ?_ (by first | exact Nat.le_refl _ | (simp; done) | (simp; omega) | omega) _))))).mono ?_
  rintro e w' ⟨rfl, dn, rfl⟩
  go_wp2_with fail
  refine (rd_no H (by omega) HH.out _).mono ?_
  rintro e w' ⟨rfl, rfl⟩
  go_wp2_with fail
  exact bodyPost_ret (v := .tuple #[.agg #[.int .i64 0, .int .i64 0], .int .i64 6]) (by simp [results, Tryd.results17, go_sem, *]) rfl (PfAns.no R.out (by repeat (first | exact Below.refl _ _ | apply below_drewN | apply Below.drew | (refine Below.setCell ?_ (by first | (simp; done) | (simp; omega) | omega) _) | (refine Below.alloc ?_ (by first | exact Nat.le_refl _ | (simp; done) | (simp; omega) | omega) _))))

set_option maxRecDepth 100000 in
theorem ipf_ff_nf (l b H T : List UInt8) (w : World) (hl : l.length ≤ 1048576) (hm : MaxL w) (ht : Tab w) (hb : Lib.trimPrefix l [45] = b) (hn : Lib.hasPrefix l [45] = false) (hc : Lib.cut b [47] = (H, T, false)) (hH : rdB H = true) (hr : fracB (valL 0 H : Int) (1 : Nat) = false) :
    Calls Tryd.prog 17 #[.string ⟨l.toArray⟩] w (PfAns (pfR rdB l) w) := by
  have R : Hid (pfR rdB l = none) := Lib.hid (pfR_bad (show cand rdB l = some ((valL 0 H : Int), 1) by rw [cand_of hb hn hc, hH]; rfl) (fun k => by rw [hr] at k; cases k.1))
  have HH := Lib.hid hH
  have hv := val_rd hH
  have HR := Lib.hid hr
  clear hH hr
  have HM := Lib.hid hm
  have HT := Lib.hid ht
  have BL := trim_len hb
  obtain ⟨HL, TL⟩ := cut_len hc
  have HB := Lib.hid hb
  have HN := Lib.hid hn
  have HC := Lib.hid hc
  clear hm ht hb hn hc
  go_enter Tryd.func17, Tryd.ntmps17
  go_wp2_with fail
  refine (cp_any l b false HB.out HN.out _).mono ?_
  rintro e w' ⟨rfl, rfl⟩
  go_wp2_with fail
  refine (ct_any b H T false HC.out (by omega) _ (MaxL.below HM.out (by repeat (first | exact Below.refl _ _ | apply below_drewN | apply Below.drew | (refine Below.setCell ?_ (by first | (simp; done) | (simp; omega) | omega) _) | (refine Below.alloc ?_ (by first | exact Nat.le_refl _ | (simp; done) | (simp; omega) | omega) _))))).mono ?_
  rintro e w' ⟨rfl, dn, rfl⟩
  go_wp2_with fail
  refine (rd_yes H HH.out _).mono ?_
  rintro e w' ⟨rfl, rfl⟩
  go_wp2_with fail
  refine (isFraction_no (valL 0 H : Int) (1 : Nat) _ HR.out).mono ?_
  rintro e w1 ⟨rfl, hb1⟩
  have hs1 : w.heap.size < w.heap.size + 1 + 1 := by omega
  obtain ⟨hc1, hf1⟩ := bcell hb1; have hz1 := hb1.size; (try simp at hz1); (try have hk1_0 : w.heap.size < w1.heap.size := by omega); (try have hk1_1 : w.heap.size + 1 < w1.heap.size := by omega); (try have hk1_2 : w.heap.size + 2 < w1.heap.size := by omega)
  go_wp2_with fail
  exact bodyPost_ret (v := .tuple #[.agg #[.int .i64 0, .int .i64 0], .int .i64 6]) (by simp [results, Tryd.results17, go_sem, *]) rfl (PfAns.no R.out (by repeat (first | exact Below.refl _ _ | apply below_drewN | apply Below.drew | (refine Below.setCell ?_ (by first | (simp; done) | (simp; omega) | omega) _) | (refine Below.alloc ?_ (by first | exact Nat.le_refl _ | (simp; done) | (simp; omega) | omega) _) | (refine Below.trans ?_ (hb1.mono (by first | exact Nat.le_refl _ | (simp; done) | (simp; omega) | omega))))))

set_option maxRecDepth 100000 in
theorem ipf_ff_nt (l b H T : List UInt8) (w : World) (hl : l.length ≤ 1048576) (hm : MaxL w) (ht : Tab w) (hb : Lib.trimPrefix l [45] = b) (hn : Lib.hasPrefix l [45] = false) (hc : Lib.cut b [47] = (H, T, false)) (hH : rdB H = true) (hr : fracB (valL 0 H : Int) (1 : Nat) = true) (hx : txt (valL 0 H : Int) 1 ≠ l) :
    Calls Tryd.prog 17 #[.string ⟨l.toArray⟩] w (PfAns (pfR rdB l) w) := by
  have R : Hid (pfR rdB l = none) := Lib.hid (pfR_bad (show cand rdB l = some ((valL 0 H : Int), 1) by rw [cand_of hb hn hc, hH]; rfl) (fun k => hx k.2))
  have HH := Lib.hid hH
  have hv := val_rd hH
  have HR := Lib.hid hr
  have fa := (fracB_true.1 hr).1
  have fu := (fracB_true.1 hr).2.1
  have X1 : (txt (valL 0 H : Int) 1 == l) = false := by simpa using hx
  have X2 : (txt (valL 0 H : Int) 1 != l) = true := by simpa using hx
  obtain ⟨tt, htt⟩ : ∃ tt, tt = txt (valL 0 H : Int) 1 := ⟨_, rfl⟩
  rw [← htt] at X1 X2
  have HX := Lib.hid htt
  clear hx htt
  clear hH hr
  have HM := Lib.hid hm
  have HT := Lib.hid ht
  have BL := trim_len hb
  obtain ⟨HL, TL⟩ := cut_len hc
  have HB := Lib.hid hb
  have HN := Lib.hid hn
  have HC := Lib.hid hc
  clear hm ht hb hn hc
  go_enter Tryd.func17, Tryd.ntmps17
  go_wp2_with fail
  refine (cp_any l b false HB.out HN.out _).mono ?_
  rintro e w' ⟨rfl, rfl⟩
  go_wp2_with fail
  refine (ct_any b H T false HC.out (by omega) _ (MaxL.below HM.out (by repeat (first | exact Below.refl _ _ | apply below_drewN | apply Below.drew | (refine Below.setCell ?_ (by first | (simp; done) | (simp; omega) | omega) _) | (refine Below.alloc ?_ (by first | exact Nat.le_refl _ | (simp; done) | (simp; omega) | omega) _))))).mono ?_
  rintro e w' ⟨rfl, dn, rfl⟩
  go_wp2_with fail
  refine (rd_yes H HH.out _).mono ?_
  rintro e w' ⟨rfl, rfl⟩
  go_wp2_with fail
  refine (isFraction_yes (valL 0 H : Int) (1 : Nat) _ HR.out).mono ?_
  rintro e w1 ⟨rfl, hb1⟩
  have hs1 : w.heap.size < w.heap.size + 1 + 1 := by omega
  obtain ⟨hc1, hf1⟩ := bcell hb1; have hz1 := hb1.size; (try simp at hz1); (try have hk1_0 : w.heap.size < w1.heap.size := by omega); (try have hk1_1 : w.heap.size + 1 < w1.heap.size := by omega); (try have hk1_2 : w.heap.size + 2 < w1.heap.size := by omega)
  go_wp2_with fail
  refine (text_any (valL 0 H : Int) 1 _ (by omega) (by omega) (Tab.below HT.out (by repeat (first | exact Below.refl _ _ | apply below_drewN | apply Below.drew | (refine Below.setCell ?_ (by first | (simp; done) | (simp; omega) | omega) _) | (refine Below.alloc ?_ (by first | exact Nat.le_refl _ | (simp; done) | (simp; omega) | omega) _) | (refine Below.trans ?_ (hb1.mono (by first | exact Nat.le_refl _ | (simp; done) | (simp; omega) | omega))))))).mono ?_
  rintro e w2 ⟨rfl, hb2⟩
  rw [← HX.out]
  obtain ⟨hc2, hf2⟩ := bcell hb2; have hz2 := hb2.size; (try simp at hz2); (try have hk2_0 : w.heap.size < w2.heap.size := by omega); (try have hk2_1 : w.heap.size + 1 < w2.heap.size := by omega); (try have hk2_2 : w.heap.size + 2 < w2.heap.size := by omega)
  go_wp2_with fail
  exact bodyPost_ret (v := .tuple #[.agg #[.int .i64 0, .int .i64 0], .int .i64 6]) (by simp [results, Tryd.results17, go_sem, *]) rfl (PfAns.no R.out (by repeat (first | exact Below.refl _ _ | apply below_drewN | apply Below.drew | (refine Below.setCell ?_ (by first | (simp; done) | (simp; omega) | omega) _) | (refine Below.alloc ?_ (by first | exact Nat.le_refl _ | (simp; done) | (simp; omega) | omega) _) | (refine Below.trans ?_ (hb2.mono (by first | exact Nat.le_refl _ | (simp; done) | (simp; omega) | omega))) | (refine Below.trans ?_ (hb1.mono (by first | exact Nat.le_refl _ | (simp; done) | (simp; omega) | omega))))))

set_option maxRecDepth 100000 in
theorem ipf_ff_ok (l b H T : List UInt8) (w : World) (hl : l.length ≤ 1048576) (hm : MaxL w) (ht : Tab w) (hb : Lib.trimPrefix l [45] = b) (hn : Lib.hasPrefix l [45] = false) (hc : Lib.cut b [47] = (H, T, false)) (hH : rdB H = true) (hr : fracB (valL 0 H : Int) (1 : Nat) = true) (hx : txt (valL 0 H : Int) 1 = l) :
    Calls Tryd.prog 17 #[.string ⟨l.toArray⟩] w (PfAns (pfR rdB l) w) := by
  have R : Hid (pfR rdB l = some ((valL 0 H : Int), 1)) := Lib.hid (pfR_good (show cand rdB l = some ((valL 0 H : Int), 1) by rw [cand_of hb hn hc, hH]; rfl) ⟨hr, hx⟩)
  have HH := Lib.hid hH
  have hv := val_rd hH
  have HR := Lib.hid hr
  have fa := (fracB_true.1 hr).1
  have fu := (fracB_true.1 hr).2.1
  have X1 : (txt (valL 0 H : Int) 1 == l) = true := by simp [hx]
  have X2 : (txt (valL 0 H : Int) 1 != l) = false := by simp [hx]
  obtain ⟨tt, htt⟩ : ∃ tt, tt = txt (valL 0 H : Int) 1 := ⟨_, rfl⟩
  rw [← htt] at X1 X2
  have HX := Lib.hid htt
  clear hx htt
  clear hH hr
  have HM := Lib.hid hm
  have HT := Lib.hid ht
  have BL := trim_len hb
  obtain ⟨HL, TL⟩ := cut_len hc
  have HB := Lib.hid hb
  have HN := Lib.hid hn
  have HC := Lib.hid hc
  clear hm ht hb hn hc
  go_enter Tryd.func17, Tryd.ntmps17
  go_wp2_with fail
  refine (cp_any l b false HB.out HN.out _).mono ?_
  rintro e w' ⟨rfl, rfl⟩
  go_wp2_with fail
  refine (ct_any b H T false HC.out (by omega) _ (MaxL.below HM.out (by repeat (first | exact Below.refl _ _ | apply below_drewN | apply Below.drew | (refine Below.setCell ?_ (by first | (simp; done) | (simp; omega) | omega) _) | (refine Below.alloc ?_ (by first | exact Nat.le_refl _ | (simp; done) | (simp; omega) | omega) _))))).mono ?_
  rintro e w' ⟨rfl, dn, rfl⟩
  go_wp2_with fail
  refine (rd_yes H HH.out _).mono ?_
  rintro e w' ⟨rfl, rfl⟩
  go_wp2_with fail
  refine (isFraction_yes (valL 0 H : Int) (1 : Nat) _ HR.out).mono ?_
  rintro e w1 ⟨rfl, hb1⟩
  have hs1 : w.heap.size < w.heap.size + 1 + 1 := by omega
  obtain ⟨hc1, hf1⟩ := bcell hb1; have hz1 := hb1.size; (try simp at hz1); (try have hk1_0 : w.heap.size < w1.heap.size := by omega); (try have hk1_1 : w.heap.size + 1 < w1.heap.size := by omega); (try have hk1_2 : w.heap.size + 2 < w1.heap.size := by omega)
  go_wp2_with fail
  refine (text_any (valL 0 H : Int) 1 _ (by omega) (by omega) (Tab.below HT.out (by repeat (first | exact Below.refl _ _ | apply below_drewN | apply Below.drew | (refine Below.setCell ?_ (by first | (simp; done) | (simp; omega) | omega) _) | (refine Below.alloc ?_ (by first | exact Nat.le_refl _ | (simp; done) | (simp; omega) | omega) _) | (refine Below.trans ?_ (hb1.mono (by first | exact Nat.le_refl _ | (simp; done) | (simp; omega) | omega))))))).mono ?_
  rintro e w2 ⟨rfl, hb2⟩
  rw [← HX.out]
  obtain ⟨hc2, hf2⟩ := bcell hb2; have hz2 := hb2.size; (try simp at hz2); (try have hk2_0 : w.heap.size < w2.heap.size := by omega); (try have hk2_1 : w.heap.size + 1 < w2.heap.size := by omega); (try have hk2_2 : w.heap.size + 2 < w2.heap.size := by omega)
  go_wp2_with fail
  exact bodyPost_ret (v := .tuple #[.agg #[.int .i64 (valL 0 H : Int), .int .i64 (1 : Nat)], .int .i64 0]) (by simp [results, Tryd.results17, go_sem, *]) rfl (PfAns.yes R.out rfl (by repeat (first | exact Below.refl _ _ | apply below_drewN | apply Below.drew | (refine Below.setCell ?_ (by first | (simp; done) | (simp; omega) | omega) _) | (refine Below.alloc ?_ (by first | exact Nat.le_refl _ | (simp; done) | (simp; omega) | omega) _) | (refine Below.trans ?_ (hb2.mono (by first | exact Nat.le_refl _ | (simp; done) | (simp; omega) | omega))) | (refine Below.trans ?_ (hb1.mono (by first | exact Nat.le_refl _ | (simp; done) | (simp; omega) | omega))))))

set_option maxRecDepth 100000 in
theorem ipf_ft_noH (l b H T : List UInt8) (w : World) (hl : l.length ≤ 1048576) (hm : MaxL w) (ht : Tab w) (hb : Lib.trimPrefix l [45] = b) (hn : Lib.hasPrefix l [45] = false) (hc : Lib.cut b [47] = (H, T, true)) (hH : rdB H = false) :
    Calls Tryd.prog 17 #[.string ⟨l.toArray⟩] w (PfAns (pfR rdB l) w) := by
  have R : Hid (pfR rdB l = none) := Lib.hid (pfR_none (by rw [cand_of hb hn hc, hH]; rfl))
  have HH := Lib.hid hH
  clear hH
  have HM := Lib.hid hm
  have HT := Lib.hid ht
  have BL := trim_len hb
  obtain ⟨HL, TL⟩ := cut_len hc
  have HB := Lib.hid hb
  have HN := Lib.hid hn
  have HC := Lib.hid hc
  clear hm ht hb hn hc
  go_enter Tryd.func17, Tryd.ntmps17
  go_wp2_with fail
  refine (cp_any l b false HB.out HN.out _).mono ?_
  rintro e w' ⟨rfl, rfl⟩
  go_wp2_with fail
  refine (ct_any b H T true HC.out (by omega) _ (MaxL.below HM.out (by repeat (first | exact Below.refl _ _ | apply below_drewN | apply Below.drew | (refine Below.setCell ?_ (by first | (simp; done) | (simp; omega) | omega) _) | (refine Below.alloc ?_ (by first | exact Nat.le_refl _ | (simp; done) | (simp; omega) | omega) _))))).mono ?_
  rintro e w' ⟨rfl, dn, rfl⟩
  go_wp2_with fail
  refine (rd_no H (by omega) HH.out _).mono ?_
  rintro e w' ⟨rfl, rfl⟩
  go_wp2_with fail
  exact bodyPost_ret (v := .tuple #[.agg #[.int .i64 0, .int .i64 0], .int .i64 6]) (by simp [results, Tryd.results17, go_sem, *]) rfl (PfAns.no R.out (by repeat (first | exact Below.refl _ _ | apply below_drewN | apply Below.drew | (refine Below.setCell ?_ (by first | (simp; done) | (simp; omega) | omega) _) | (refine Below.alloc ?_ (by first | exact Nat.le_refl _ | (simp; done) | (simp; omega) | omega) _))))

set_option maxRecDepth 100000 in
theorem ipf_ft_noT (l b H T : List UInt8) (w : World) (hl : l.length ≤ 1048576) (hm : MaxL w) (ht : Tab w) (hb : Lib.trimPrefix l [45] = b) (hn : Lib.hasPrefix l [45] = false) (hc : Lib.cut b [47] = (H, T, true)) (hH : rdB H = true) (hT : rdB T = false) :
    Calls Tryd.prog 17 #[.string ⟨l.toArray⟩] w (PfAns (pfR rdB l) w) := by
  have R : Hid (pfR rdB l = none) := Lib.hid (pfR_none (by rw [cand_of hb hn hc, hH, hT]; rfl))
  have HH := Lib.hid hH
  have HTT := Lib.hid hT
  have hv := val_rd hH
  clear hH hT
  have HM := Lib.hid hm
  have HT := Lib.hid ht
  have BL := trim_len hb
  obtain ⟨HL, TL⟩ := cut_len hc
  have HB := Lib.hid hb
  have HN := Lib.hid hn
  have HC := Lib.hid hc
  clear hm ht hb hn hc
  go_enter Tryd.func17, Tryd.ntmps17
  go_wp2_with fail
  refine (cp_any l b false HB.out HN.out _).mono ?_
  rintro e w' ⟨rfl, rfl⟩
  go_wp2_with fail
  refine (ct_any b H T true HC.out (by omega) _ (MaxL.below HM.out (by repeat (first | exact Below.refl _ _ | apply below_drewN | apply Below.drew | (refine Below.setCell ?_ (by first | (simp; done) | (simp; omega) | omega) _) | (refine Below.alloc ?_ (by first | exact Nat.le_refl _ | (simp; done) | (simp; omega) | omega) _))))).mono ?_
  rintro e w' ⟨rfl, dn, rfl⟩
  go_wp2_with fail
  refine (rd_yes H HH.out _).mono ?_
  rintro e w' ⟨rfl, rfl⟩
  go_wp2_with fail
  refine (rd_no T (by omega) HTT.out _).mono ?_
  rintro e w' ⟨rfl, rfl⟩
  go_wp2_with fail
  exact bodyPost_ret (v := .tuple #[.agg #[.int .i64 0, .int .i64 0], .int .i64 6]) (by simp [results, Tryd.results17, go_sem, *]) rfl (PfAns.no R.out (by repeat (first | exact Below.refl _ _ | apply below_drewN | apply Below.drew | (refine Below.setCell ?_ (by first | (simp; done) | (simp; omega) | omega) _) | (refine Below.alloc ?_ (by first | exact Nat.le_refl _ | (simp; done) | (simp; omega) | omega) _))))

set_option maxRecDepth 100000 in
theorem ipf_ft_nf (l b H T : List UInt8) (w : World) (hl : l.length ≤ 1048576) (hm : MaxL w) (ht : Tab w) (hb : Lib.trimPrefix l [45] = b) (hn : Lib.hasPrefix l [45] = false) (hc : Lib.cut b [47] = (H, T, true)) (hH : rdB H = true) (hT : rdB T = true) (hr : fracB (valL 0 H : Int) ((valL 0 T) : Nat) = false) :
    Calls Tryd.prog 17 #[.string ⟨l.toArray⟩] w (PfAns (pfR rdB l) w) := by
  have R : Hid (pfR rdB l = none) := Lib.hid (pfR_bad (show cand rdB l = some ((valL 0 H : Int), (valL 0 T)) by rw [cand_of hb hn hc, hH, hT]; rfl) (fun k => by rw [hr] at k; cases k.1))
  have HH := Lib.hid hH
  have hv := val_rd hH
  have HTT := Lib.hid hT
  have hv2 := val_rd hT
  have HR := Lib.hid hr
  clear hH hr hT
  have HM := Lib.hid hm
  have HT := Lib.hid ht
  have BL := trim_len hb
  obtain ⟨HL, TL⟩ := cut_len hc
  have HB := Lib.hid hb
  have HN := Lib.hid hn
  have HC := Lib.hid hc
  clear hm ht hb hn hc
  go_enter Tryd.func17, Tryd.ntmps17
  go_wp2_with fail
  refine (cp_any l b false HB.out HN.out _).mono ?_
  rintro e w' ⟨rfl, rfl⟩
  go_wp2_with fail
  refine (ct_any b H T true HC.out (by omega) _ (MaxL.below HM.out (by repeat (first | exact Below.refl _ _ | apply below_drewN | apply Below.drew | (refine Below.setCell ?_ (by first | (simp; done) | (simp; omega) | omega) _) | (refine Below.alloc ?_ (by first | exact Nat.le_refl _ | (simp; done) | (simp; omega) | omega) _))))).mono ?_
  rintro e w' ⟨rfl, dn, rfl⟩
  go_wp2_with fail
  refine (rd_yes H HH.out _).mono ?_
  rintro e w' ⟨rfl, rfl⟩
  go_wp2_with fail
  refine (rd_yes T HTT.out _).mono ?_
  rintro e w' ⟨rfl, rfl⟩
  go_wp2_with fail
  refine (isFraction_no (valL 0 H : Int) ((valL 0 T) : Nat) _ HR.out).mono ?_
  rintro e w1 ⟨rfl, hb1⟩
  have hs1 : w.heap.size < w.heap.size + 1 + 1 := by omega
  obtain ⟨hc1, hf1⟩ := bcell hb1; have hz1 := hb1.size; (try simp at hz1); (try have hk1_0 : w.heap.size < w1.heap.size := by omega); (try have hk1_1 : w.heap.size + 1 < w1.heap.size := by omega); (try have hk1_2 : w.heap.size + 2 < w1.heap.size := by omega)
  go_wp2_with fail
  exact bodyPost_ret (v := .tuple #[.agg #[.int .i64 0, .int .i64 0], .int .i64 6]) (by simp [results, Tryd.results17, go_sem, *]) rfl (PfAns.no R.out (by repeat (first | exact Below.refl _ _ | apply below_drewN | apply Below.drew | (refine Below.setCell ?_ (by first | (simp; done) | (simp; omega) | omega) _) | (refine Below.alloc ?_ (by first | exact Nat.le_refl _ | (simp; done) | (simp; omega) | omega) _) | (refine Below.trans ?_ (hb1.mono (by first | exact Nat.le_refl _ | (simp; done) | (simp; omega) | omega))))))

set_option maxRecDepth 100000 in
theorem ipf_ft_nt (l b H T : List UInt8) (w : World) (hl : l.length ≤ 1048576) (hm : MaxL w) (ht : Tab w) (hb : Lib.trimPrefix l [45] = b) (hn : Lib.hasPrefix l [45] = false) (hc : Lib.cut b [47] = (H, T, true)) (hH : rdB H = true) (hT : rdB T = true) (hr : fracB (valL 0 H : Int) ((valL 0 T) : Nat) = true) (hx : txt (valL 0 H : Int) (valL 0 T) ≠ l) :
    Calls Tryd.prog 17 #[.string ⟨l.toArray⟩] w (PfAns (pfR rdB l) w) := by
  have R : Hid (pfR rdB l = none) := Lib.hid (pfR_bad (show cand rdB l = some ((valL 0 H : Int), (valL 0 T)) by rw [cand_of hb hn hc, hH, hT]; rfl) (fun k => hx k.2))
  have HH := Lib.hid hH
  have hv := val_rd hH
  have HTT := Lib.hid hT
  have hv2 := val_rd hT
  have HR := Lib.hid hr
  have fa := (fracB_true.1 hr).1
  have fu := (fracB_true.1 hr).2.1
  have X1 : (txt (valL 0 H : Int) (valL 0 T) == l) = false := by simpa using hx
  have X2 : (txt (valL 0 H : Int) (valL 0 T) != l) = true := by simpa using hx
  obtain ⟨tt, htt⟩ : ∃ tt, tt = txt (valL 0 H : Int) (valL 0 T) := ⟨_, rfl⟩
  rw [← htt] at X1 X2
  have HX := Lib.hid htt
  clear hx htt
  clear hH hr hT
  have HM := Lib.hid hm
  have HT := Lib.hid ht
  have BL := trim_len hb
  obtain ⟨HL, TL⟩ := cut_len hc
  have HB := Lib.hid hb
  have HN := Lib.hid hn
  have HC := Lib.hid hc
  clear hm ht hb hn hc
  go_enter Tryd.func17, Tryd.ntmps17
  go_wp2_with fail
  refine (cp_any l b false HB.out HN.out _).mono ?_
  rintro e w' ⟨rfl, rfl⟩
  go_wp2_with fail
  refine (ct_any b H T true HC.out (by omega) _ (MaxL.below HM.out (by repeat (first | exact Below.refl _ _ | apply below_drewN | apply Below.drew | (refine Below.setCell ?_ (by first | (simp; done) | (simp; omega) | omega) _) | (refine Below.alloc ?_ (by first | exact Nat.le_refl _ | (simp; done) | (simp; omega) | omega) _))))).mono ?_
  rintro e w' ⟨rfl, dn, rfl⟩
  go_wp2_with fail
  refine (rd_yes H HH.out _).mono ?_
  rintro e w' ⟨rfl, rfl⟩
  go_wp2_with fail
  refine (rd_yes T HTT.out _).mono ?_
  rintro e w' ⟨rfl, rfl⟩
  go_wp2_with fail
  refine (isFraction_yes (valL 0 H : Int) ((valL 0 T) : Nat) _ HR.out).mono ?_
  rintro e w1 ⟨rfl, hb1⟩
  have hs1 : w.heap.size < w.heap.size + 1 + 1 := by omega
  obtain ⟨hc1, hf1⟩ := bcell hb1; have hz1 := hb1.size; (try simp at hz1); (try have hk1_0 : w.heap.size < w1.heap.size := by omega); (try have hk1_1 : w.heap.size + 1 < w1.heap.size := by omega); (try have hk1_2 : w.heap.size + 2 < w1.heap.size := by omega)
  go_wp2_with fail
  refine (text_any (valL 0 H : Int) (valL 0 T) _ (by omega) (by omega) (Tab.below HT.out (by repeat (first | exact Below.refl _ _ | apply below_drewN | apply Below.drew | (refine Below.setCell ?_ (by first | (simp; done) | (simp; omega) | omega) _) | (refine Below.alloc ?_ (by first | exact Nat.le_refl _ | (simp; done) | (simp; omega) | omega) _) | (refine Below.trans ?_ (hb1.mono (by first | exact Nat.le_refl _ | (simp; done) | (simp; omega) | omega))))))).mono ?_
  rintro e w2 ⟨rfl, hb2⟩
  rw [← HX.out]
  obtain ⟨hc2, hf2⟩ := bcell hb2; have hz2 := hb2.size; (try simp at hz2); (try have hk2_0 : w.heap.size < w2.heap.size := by omega); (try have hk2_1 : w.heap.size + 1 < w2.heap.size := by omega); (try have hk2_2 : w.heap.size + 2 < w2.heap.size := by omega)
  go_wp2_with fail
  exact bodyPost_ret (v := .tuple #[.agg #[.int .i64 0, .int .i64 0], .int .i64 6]) (by simp [results, Tryd.results17, go_sem, *]) rfl (PfAns.no R.out (by repeat (first | exact Below.refl _ _ | apply below_drewN | apply Below.drew | (refine Below.setCell ?_ (by first | (simp; done) | (simp; omega) | omega) _) | (refine Below.alloc ?_ (by first | exact Nat.le_refl _ | (simp; done) | (simp; omega) | omega) _) | (refine Below.trans ?_ (hb2.mono (by first | exact Nat.le_refl _ | (simp; done) | (simp; omega) | omega))) | (refine Below.trans ?_ (hb1.mono (by first | exact Nat.le_refl _ | (simp; done) | (simp; omega) | omega))))))

set_option maxRecDepth 100000 in
theorem ipf_ft_ok (l b H T : List UInt8) (w : World) (hl : l.length ≤ 1048576) (hm : MaxL w) (ht : Tab w) (hb : Lib.trimPrefix l [45] = b) (hn : Lib.hasPrefix l [45] = false) (hc : Lib.cut b [47] = (H, T, true)) (hH : rdB H = true) (hT : rdB T = true) (hr : fracB (valL 0 H : Int) ((valL 0 T) : Nat) = true) (hx : txt (valL 0 H : Int) (valL 0 T) = l) :
    Calls Tryd.prog 17 #[.string ⟨l.toArray⟩] w (PfAns (pfR rdB l) w) := by
  have R : Hid (pfR rdB l = some ((valL 0 H : Int), (valL 0 T))) := Lib.hid (pfR_good (show cand rdB l = some ((valL 0 H : Int), (valL 0 T)) by rw [cand_of hb hn hc, hH, hT]; rfl) ⟨hr, hx⟩)
  have HH := Lib.hid hH
  have hv := val_rd hH
  have HTT := Lib.hid hT
  have hv2 := val_rd hT
  have HR := Lib.hid hr
  have fa := (fracB_true.1 hr).1
  have fu := (fracB_true.1 hr).2.1
  have X1 : (txt (valL 0 H : Int) (valL 0 T) == l) = true := by simp [hx]
  have X2 : (txt (valL 0 H : Int) (valL 0 T) != l) = false := by simp [hx]
  obtain ⟨tt, htt⟩ : ∃ tt, tt = txt (valL 0 H : Int) (valL 0 T) := ⟨_, rfl⟩
  rw [← htt] at X1 X2
  have HX := Lib.hid htt
  clear hx htt
  clear hH hr hT
  have HM := Lib.hid hm
  have HT := Lib.hid ht
  have BL := trim_len hb
  obtain ⟨HL, TL⟩ := cut_len hc
  have HB := Lib.hid hb
  have HN := Lib.hid hn
  have HC := Lib.hid hc
  clear hm ht hb hn hc
  go_enter Tryd.func17, Tryd.ntmps17
  go_wp2_with fail
  refine (cp_any l b false HB.out HN.out _).mono ?_
  rintro e w' ⟨rfl, rfl⟩
  go_wp2_with fail
  refine (ct_any b H T true HC.out (by omega) _ (MaxL.below HM.out (by repeat (first | exact Below.refl _ _ | apply below_drewN | apply Below.drew | (refine Below.setCell ?_ (by first | (simp; done) | (simp; omega) | omega) _) | (refine Below.alloc ?_ (by first | exact Nat.le_refl _ | (simp; done) | (simp; omega) | omega) _))))).mono ?_
  rintro e w' ⟨rfl, dn, rfl⟩
  go_wp2_with fail
  refine (rd_yes H HH.out _).mono ?_
  rintro e w' ⟨rfl, rfl⟩
  go_wp2_with fail
  refine (rd_yes T HTT.out _).mono ?_
  rintro e w' ⟨rfl, rfl⟩
  go_wp2_with fail
  refine (isFraction_yes (valL 0 H : Int) ((valL 0 T) : Nat) _ HR.out).mono ?_
  rintro e w1 ⟨rfl, hb1⟩
  have hs1 : w.heap.size < w.heap.size + 1 + 1 := by omega
  obtain ⟨hc1, hf1⟩ := bcell hb1; have hz1 := hb1.size; (try simp at hz1); (try have hk1_0 : w.heap.size < w1.heap.size := by omega); (try have hk1_1 : w.heap.size + 1 < w1.heap.size := by omega); (try have hk1_2 : w.heap.size + 2 < w1.heap.size := by omega)
  go_wp2_with fail
  refine (text_any (valL 0 H : Int) (valL 0 T) _ (by omega) (by omega) (Tab.below HT.out (by repeat (first | exact Below.refl _ _ | apply below_drewN | apply Below.drew | (refine Below.setCell ?_ (by first | (simp; done) | (simp; omega) | omega) _) | (refine Below.alloc ?_ (by first | exact Nat.le_refl _ | (simp; done) | (simp; omega) | omega) _) | (refine Below.trans ?_ (hb1.mono (by first | exact Nat.le_refl _ | (simp; done) | (simp; omega) | omega))))))).mono ?_
  rintro e w2 ⟨rfl, hb2⟩
  rw [← HX.out]
  obtain ⟨hc2, hf2⟩ := bcell hb2; have hz2 := hb2.size; (try simp at hz2); (try have hk2_0 : w.heap.size < w2.heap.size := by omega); (try have hk2_1 : w.heap.size + 1 < w2.heap.size := by omega); (try have hk2_2 : w.heap.size + 2 < w2.heap.size := by omega)
  go_wp2_with fail
  exact bodyPost_ret (v := .tuple #[.agg #[.int .i64 (valL 0 H : Int), .int .i64 ((valL 0 T) : Nat)], .int .i64 0]) (by simp [results, Tryd.results17, go_sem, *]) rfl (PfAns.yes R.out rfl (by repeat (first | exact Below.refl _ _ | apply below_drewN | apply Below.drew | (refine Below.setCell ?_ (by first | (simp; done) | (simp; omega) | omega) _) | (refine Below.alloc ?_ (by first | exact Nat.le_refl _ | (simp; done) | (simp; omega) | omega) _) | (refine Below.trans ?_ (hb2.mono (by first | exact Nat.le_refl _ | (simp; done) | (simp; omega) | omega))) | (refine Below.trans ?_ (hb1.mono (by first | exact Nat.le_refl _ | (simp; done) | (simp; omega) | omega))))))

set_option maxRecDepth 100000 in
theorem ipf_tf_noH (l b H T : List UInt8) (w : World) (hl : l.length ≤ 1048576) (hm : MaxL w) (ht : Tab w) (hb : Lib.trimPrefix l [45] = b) (hn : Lib.hasPrefix l [45] = true) (hc : Lib.cut b [47] = (H, T, false)) (hH : rdB H = false) :
    Calls Tryd.prog 17 #[.string ⟨l.toArray⟩] w (PfAns (pfR rdB l) w) := by
  have R : Hid (pfR rdB l = none) := Lib.hid (pfR_none (by rw [cand_of hb hn hc, hH]; rfl))
  have HH := Lib.hid hH
  clear hH
  have HM := Lib.hid hm
  have HT := Lib.hid ht
  have BL := trim_len hb
  obtain ⟨HL, TL⟩ := cut_len hc
  have HB := Lib.hid hb
  have HN := Lib.hid hn
  have HC := Lib.hid hc
  clear hm ht hb hn hc
  go_enter Tryd.func17, Tryd.ntmps17
  go_wp2_with fail
  refine (cp_any l b true HB.out HN.out _).mono ?_
  rintro e w' ⟨rfl, rfl⟩
  go_wp2_with fail
  refine (ct_any b H T false HC.out (by omega) _ (MaxL.below HM.out (by repeat (first | exact Below.refl _ _ | apply below_drewN | apply Below.drew | (refine Below.setCell ?_ (by first | (simp; done) | (simp; omega) | omega) _) | (refine Below.alloc ?_ (by first | exact Nat.le_refl _ | (simp; done) | (simp; omega) | omega) _))))).mono ?_
  rintro e w' ⟨rfl, dn, rfl⟩
  go_wp2_with fail
  refine (rd_no H (by omega) HH.out _).mono ?_
  rintro e w' ⟨rfl, rfl⟩
  go_wp2_with fail
  exact bodyPost_ret (v := .tuple #[.agg #[.int .i64 0, .int .i64 0], .int .i64 6]) (by simp [results, Tryd.results17, go_sem, *]) rfl (PfAns.no R.out (by repeat (first | exact Below.refl _ _ | apply below_drewN | apply Below.drew | (refine Below.setCell ?_ (by first | (simp; done) | (simp; omega) | omega) _) | (refine Below.alloc ?_ (by first | exact Nat.le_refl _ | (simp; done) | (simp; omega) | omega) _))))

set_option maxRecDepth 100000 in
theorem ipf_tf_nf (l b H T : List UInt8) (w : World) (hl : l.length ≤ 1048576) (hm : MaxL w) (ht : Tab w) (hb : Lib.trimPrefix l [45] = b) (hn : Lib.hasPrefix l [45] = true) (hc : Lib.cut b [47] = (H, T, false)) (hH : rdB H = true) (hr : fracB (-(valL 0 H : Int)) (1 : Nat) = false) :
    Calls Tryd.prog 17 #[.string ⟨l.toArray⟩] w (PfAns (pfR rdB l) w) := by
  have R : Hid (pfR rdB l = none) := Lib.hid (pfR_bad (show cand rdB l = some ((-(valL 0 H : Int)), 1) by rw [cand_of hb hn hc, hH]; rfl) (fun k => by rw [hr] at k; cases k.1))
  have HH := Lib.hid hH
  have hv := val_rd hH
  have HR := Lib.hid hr
  clear hH hr
  have HM := Lib.hid hm
  have HT := Lib.hid ht
  have BL := trim_len hb
  obtain ⟨HL, TL⟩ := cut_len hc
  have HB := Lib.hid hb
  have HN := Lib.hid hn
  have HC := Lib.hid hc
  clear hm ht hb hn hc
  go_enter Tryd.func17, Tryd.ntmps17
  go_wp2_with fail
  refine (cp_any l b true HB.out HN.out _).mono ?_
  rintro e w' ⟨rfl, rfl⟩
  go_wp2_with fail
  refine (ct_any b H T false HC.out (by omega) _ (MaxL.below HM.out (by repeat (first | exact Below.refl _ _ | apply below_drewN | apply Below.drew | (refine Below.setCell ?_ (by first | (simp; done) | (simp; omega) | omega) _) | (refine Below.alloc ?_ (by first | exact Nat.le_refl _ | (simp; done) | (simp; omega) | omega) _))))).mono ?_
  rintro e w' ⟨rfl, dn, rfl⟩
  go_wp2_with fail
  refine (rd_yes H HH.out _).mono ?_
  rintro e w' ⟨rfl, rfl⟩
  go_wp2_with fail
  refine (isFraction_no (-(valL 0 H : Int)) (1 : Nat) _ HR.out).mono ?_
  rintro e w1 ⟨rfl, hb1⟩
  have hs1 : w.heap.size < w.heap.size + 1 + 1 := by omega
  obtain ⟨hc1, hf1⟩ := bcell hb1; have hz1 := hb1.size; (try simp at hz1); (try have hk1_0 : w.heap.size < w1.heap.size := by omega); (try have hk1_1 : w.heap.size + 1 < w1.heap.size := by omega); (try have hk1_2 : w.heap.size + 2 < w1.heap.size := by omega)
  go_wp2_with fail
  exact bodyPost_ret (v := .tuple #[.agg #[.int .i64 0, .int .i64 0], .int .i64 6]) (by simp [results, Tryd.results17, go_sem, *]) rfl (PfAns.no R.out (by repeat (first | exact Below.refl _ _ | apply below_drewN | apply Below.drew | (refine Below.setCell ?_ (by first | (simp; done) | (simp; omega) | omega) _) | (refine Below.alloc ?_ (by first | exact Nat.le_refl _ | (simp; done) | (simp; omega) | omega) _) | (refine Below.trans ?_ (hb1.mono (by first | exact Nat.le_refl _ | (simp; done) | (simp; omega) | omega))))))

set_option maxRecDepth 100000 in
theorem ipf_tf_nt (l b H T : List UInt8) (w : World) (hl : l.length ≤ 1048576) (hm : MaxL w) (ht : Tab w) (hb : Lib.trimPrefix l [45] = b) (hn : Lib.hasPrefix l [45] = true) (hc : Lib.cut b [47] = (H, T, false)) (hH : rdB H = true) (hr : fracB (-(valL 0 H : Int)) (1 : Nat) = true) (hx : txt (-(valL 0 H : Int)) 1 ≠ l) :
    Calls Tryd.prog 17 #[.string ⟨l.toArray⟩] w (PfAns (pfR rdB l) w) := by
  have R : Hid (pfR rdB l = none) := Lib.hid (pfR_bad (show cand rdB l = some ((-(valL 0 H : Int)), 1) by rw [cand_of hb hn hc, hH]; rfl) (fun k => hx k.2))
  have HH := Lib.hid hH
  have hv := val_rd hH
  have HR := Lib.hid hr
  have fa := (fracB_true.1 hr).1
  have fu := (fracB_true.1 hr).2.1
  have X1 : (txt (-(valL 0 H : Int)) 1 == l) = false := by simpa using hx
  have X2 : (txt (-(valL 0 H : Int)) 1 != l) = true := by simpa using hx
  obtain ⟨tt, htt⟩ : ∃ tt, tt = txt (-(valL 0 H : Int)) 1 := ⟨_, rfl⟩
  rw [← htt] at X1 X2
  have HX := Lib.hid htt
  clear hx htt
  clear hH hr
  have HM := Lib.hid hm
  have HT := Lib.hid ht
  have BL := trim_len hb
  obtain ⟨HL, TL⟩ := cut_len hc
  have HB := Lib.hid hb
  have HN := Lib.hid hn
  have HC := Lib.hid hc
  clear hm ht hb hn hc
  go_enter Tryd.func17, Tryd.ntmps17
  go_wp2_with fail
  refine (cp_any l b true HB.out HN.out _).mono ?_
  rintro e w' ⟨rfl, rfl⟩
  go_wp2_with fail
  refine (ct_any b H T false HC.out (by omega) _ (MaxL.below HM.out (by repeat (first | exact Below.refl _ _ | apply below_drewN | apply Below.drew | (refine Below.setCell ?_ (by first | (simp; done) | (simp; omega) | omega) _) | (refine Below.alloc ?_ (by first | exact Nat.le_refl _ | (simp; done) | (simp; omega) | omega) _))))).mono ?_
  rintro e w' ⟨rfl, dn, rfl⟩
  go_wp2_with fail
  refine (rd_yes H HH.out _).mono ?_
  rintro e w' ⟨rfl, rfl⟩
  go_wp2_with fail
  refine (isFraction_yes (-(valL 0 H : Int)) (1 : Nat) _ HR.out).mono ?_
  rintro e w1 ⟨rfl, hb1⟩
  have hs1 : w.heap.size < w.heap.size + 1 + 1 := by omega
  obtain ⟨hc1, hf1⟩ := bcell hb1; have hz1 := hb1.size; (try simp at hz1); (try have hk1_0 : w.heap.size < w1.heap.size := by omega); (try have hk1_1 : w.heap.size + 1 < w1.heap.size := by omega); (try have hk1_2 : w.heap.size + 2 < w1.heap.size := by omega)
  go_wp2_with fail
  refine (text_any (-(valL 0 H : Int)) 1 _ (by omega) (by omega) (Tab.below HT.out (by repeat (first | exact Below.refl _ _ | apply below_drewN | apply Below.drew | (refine Below.setCell ?_ (by first | (simp; done) | (simp; omega) | omega) _) | (refine Below.alloc ?_ (by first | exact Nat.le_refl _ | (simp; done) | (simp; omega) | omega) _) | (refine Below.trans ?_ (hb1.mono (by first | exact Nat.le_refl _ | (simp; done) | (simp; omega) | omega))))))).mono ?_
  rintro e w2 ⟨rfl, hb2⟩
  rw [← HX.out]
  obtain ⟨hc2, hf2⟩ := bcell hb2; have hz2 := hb2.size; (try simp at hz2); (try have hk2_0 : w.heap.size < w2.heap.size := by omega); (try have hk2_1 : w.heap.size + 1 < w2.heap.size := by omega); (try have hk2_2 : w.heap.size + 2 < w2.heap.size := by omega)
  go_wp2_with fail
  exact bodyPost_ret (v := .tuple #[.agg #[.int .i64 0, .int .i64 0], .int .i64 6]) (by simp [results, Tryd.results17, go_sem, *]) rfl (PfAns.no R.out (by repeat (first | exact Below.refl _ _ | apply below_drewN | apply Below.drew | (refine Below.setCell ?_ (by first | (simp; done) | (simp; omega) | omega) _) | (refine Below.alloc ?_ (by first | exact Nat.le_refl _ | (simp; done) | (simp; omega) | omega) _) | (refine Below.trans ?_ (hb2.mono (by first | exact Nat.le_refl _ | (simp; done) | (simp; omega) | omega))) | (refine Below.trans ?_ (hb1.mono (by first | exact Nat.le_refl _ | (simp; done) | (simp; omega) | omega))))))

set_option maxRecDepth 100000 in
theorem ipf_tf_ok (l b H T : List UInt8) (w : World) (hl : l.length ≤ 1048576) (hm : MaxL w) (ht : Tab w) (hb : Lib.trimPrefix l [45] = b) (hn : Lib.hasPrefix l [45] = true) (hc : Lib.cut b [47] = (H, T, false)) (hH : rdB H = true) (hr : fracB (-(valL 0 H : Int)) (1 : Nat) = true) (hx : txt (-(valL 0 H : Int)) 1 = l) :
    Calls Tryd.prog 17 #[.string ⟨l.toArray⟩] w (PfAns (pfR rdB l) w) := by
  have R : Hid (pfR rdB l = some ((-(valL 0 H : Int)), 1)) := Lib.hid (pfR_good (show cand rdB l = some ((-(valL 0 H : Int)), 1) by rw [cand_of hb hn hc, hH]; rfl) ⟨hr, hx⟩)
  have HH := Lib.hid hH
  have hv := val_rd hH
  have HR := Lib.hid hr
  have fa := (fracB_true.1 hr).1
  have fu := (fracB_true.1 hr).2.1
  have X1 : (txt (-(valL 0 H : Int)) 1 == l) = true := by simp [hx]
  have X2 : (txt (-(valL 0 H : Int)) 1 != l) = false := by simp [hx]
  obtain ⟨tt, htt⟩ : ∃ tt, tt = txt (-(valL 0 H : Int)) 1 := ⟨_, rfl⟩
  rw [← htt] at X1 X2
  have HX := Lib.hid htt
  clear hx htt
  clear hH hr
  have HM := Lib.hid hm
  have HT := Lib.hid ht
  have BL := trim_len hb
  obtain ⟨HL, TL⟩ := cut_len hc
  have HB := Lib.hid hb
  have HN := Lib.hid hn
  have HC := Lib.hid hc
  clear hm ht hb hn hc
  go_enter Tryd.func17, Tryd.ntmps17
  go_wp2_with fail
  refine (cp_any l b true HB.out HN.out _).mono ?_
  rintro e w' ⟨rfl, rfl⟩
  go_wp2_with fail
  refine (ct_any b H T false HC.out (by omega) _ (MaxL.below HM.out (by repeat (first | exact Below.refl _ _ | apply below_drewN | apply Below.drew | (refine Below.setCell ?_ (by first | (simp; done) | (simp; omega) | omega) _) | (refine Below.alloc ?_ (by first | exact Nat.le_refl _ | (simp; done) | (simp; omega) | omega) _))))).mono ?_
  rintro e w' ⟨rfl, dn, rfl⟩
  go_wp2_with fail
  refine (rd_yes H HH.out _).mono ?_
  rintro e w' ⟨rfl, rfl⟩
  go_wp2_with fail
  refine (isFraction_yes (-(valL 0 H : Int)) (1 : Nat) _ HR.out).mono ?_
  rintro e w1 ⟨rfl, hb1⟩
  have hs1 : w.heap.size < w.heap.size + 1 + 1 := by omega
  obtain ⟨hc1, hf1⟩ := bcell hb1; have hz1 := hb1.size; (try simp at hz1); (try have hk1_0 : w.heap.size < w1.heap.size := by omega); (try have hk1_1 : w.heap.size + 1 < w1.heap.size := by omega); (try have hk1_2 : w.heap.size + 2 < w1.heap.size := by omega)
  go_wp2_with fail
  refine (text_any (-(valL 0 H : Int)) 1 _ (by omega) (by omega) (Tab.below HT.out (by repeat (first | exact Below.refl _ _ | apply below_drewN | apply Below.drew | (refine Below.setCell ?_ (by first | (simp; done) | (simp; omega) | omega) _) | (refine Below.alloc ?_ (by first | exact Nat.le_refl _ | (simp; done) | (simp; omega) | omega) _) | (refine Below.trans ?_ (hb1.mono (by first | exact Nat.le_refl _ | (simp; done) | (simp; omega) | omega))))))).mono ?_
  rintro e w2 ⟨rfl, hb2⟩
  rw [← HX.out]
  obtain ⟨hc2, hf2⟩ := bcell hb2; have hz2 := hb2.size; (try simp at hz2); (try have hk2_0 : w.heap.size < w2.heap.size := by omega); (try have hk2_1 : w.heap.size + 1 < w2.heap.size := by omega); (try have hk2_2 : w.heap.size + 2 < w2.heap.size := by omega)
  go_wp2_with fail
  exact bodyPost_ret (v := .tuple #[.agg #[.int .i64 (-(valL 0 H : Int)), .int .i64 (1 : Nat)], .int .i64 0]) (by simp [results, Tryd.results17, go_sem, *]) rfl (PfAns.yes R.out rfl (by repeat (first | exact Below.refl _ _ | apply below_drewN | apply Below.drew | (refine Below.setCell ?_ (by first | (simp; done) | (simp; omega) | omega) _) | (refine Below.alloc ?_ (by first | exact Nat.le_refl _ | (simp; done) | (simp; omega) | omega) _) | (refine Below.trans ?_ (hb2.mono (by first | exact Nat.le_refl _ | (simp; done) | (simp; omega) | omega))) | (refine Below.trans ?_ (hb1.mono (by first | exact Nat.le_refl _ | (simp; done) | (simp; omega) | omega))))))

set_option maxRecDepth 100000 in
theorem ipf_tt_noH (l b H T : List UInt8) (w : World) (hl : l.length ≤ 1048576) (hm : MaxL w) (ht : Tab w) (hb : Lib.trimPrefix l [45] = b) (hn : Lib.hasPrefix l [45] = true) (hc : Lib.cut b [47] = (H, T, true)) (hH : rdB H = false) :
    Calls Tryd.prog 17 #[.string ⟨l.toArray⟩] w (PfAns (pfR rdB l) w) := by
  have R : Hid (pfR rdB l = none) := Lib.hid (pfR_none (by rw [cand_of hb hn hc, hH]; rfl))
  have HH := Lib.hid hH
  clear hH
  have HM := Lib.hid hm
  have HT := Lib.hid ht
  have BL := trim_len hb
  obtain ⟨HL, TL⟩ := cut_len hc
  have HB := Lib.hid hb
  have HN := Lib.hid hn
  have HC := Lib.hid hc
  clear hm ht hb hn hc
  go_enter Tryd.func17, Tryd.ntmps17
  go_wp2_with fail
  refine (cp_any l b true HB.out HN.out _).mono ?_
  rintro e w' ⟨rfl, rfl⟩
  go_wp2_with fail
  refine (ct_any b H T true HC.out (by omega) _ (MaxL.below HM.out (by repeat (first | exact Below.refl _ _ | apply below_drewN | apply Below.drew | (refine Below.setCell ?_ (by first | (simp; done) | (simp; omega) | omega) _) | (refine Below.alloc ?_ (by first | exact Nat.le_refl _ | (simp; done) | (simp; omega) | omega) _))))).mono ?_
  rintro e w' ⟨rfl, dn, rfl⟩
  go_wp2_with fail
  refine (rd_no H (by omega) HH.out _).mono ?_
  rintro e w' ⟨rfl, rfl⟩
  go_wp2_with fail
  exact bodyPost_ret (v := .tuple #[.agg #[.int .i64 0, .int .i64 0], .int .i64 6]) (by simp [results, Tryd.results17, go_sem, *]) rfl (PfAns.no R.out (by repeat (first | exact Below.refl _ _ | apply below_drewN | apply Below.drew | (refine Below.setCell ?_ (by first | (simp; done) | (simp; omega) | omega) _) | (refine Below.alloc ?_ (by first | exact Nat.le_refl _ | (simp; done) | (simp; omega) | omega) _))))

set_option maxRecDepth 100000 in
theorem ipf_tt_noT (l b H T : List UInt8) (w : World) (hl : l.length ≤ 1048576) (hm : MaxL w) (ht : Tab w) (hb : Lib.trimPrefix l [45] = b) (hn : Lib.hasPrefix l [45] = true) (hc : Lib.cut b [47] = (H, T, true)) (hH : rdB H = true) (hT : rdB T = false) :
    Calls Tryd.prog 17 #[.string ⟨l.toArray⟩] w (PfAns (pfR rdB l) w) := by
  have R : Hid (pfR rdB l = none) := Lib.hid (pfR_none (by rw [cand_of hb hn hc, hH, hT]; rfl))
  have HH := Lib.hid hH
  have HTT := Lib.hid hT
  have hv := val_rd hH
  clear hH hT
  have HM := Lib.hid hm
  have HT := Lib.hid ht
  have BL := trim_len hb
  obtain ⟨HL, TL⟩ := cut_len hc
  have HB := Lib.hid hb
  have HN := Lib.hid hn
  have HC := Lib.hid hc
  clear hm ht hb hn hc
  go_enter Tryd.func17, Tryd.ntmps17
  go_wp2_with fail
  refine (cp_any l b true HB.out HN.out _).mono ?_
  rintro e w' ⟨rfl, rfl⟩
  go_wp2_with fail
  refine (ct_any b H T true HC.out (by omega) _ (MaxL.below HM.out (by repeat (first | exact Below.refl _ _ | apply below_drewN | apply Below.drew | (refine Below.setCell ?_ (by first | (simp; done) | (simp; omega) | omega) _) | (refine Below.alloc ?_ (by first | exact Nat.le_refl _ | (simp; done) | (simp; omega) | omega) _))))).mono ?_
  rintro e w' ⟨rfl, dn, rfl⟩
  go_wp2_with fail
  refine (rd_yes H HH.out _).mono ?_
  rintro e w' ⟨rfl, rfl⟩
  go_wp2_with fail
  refine (rd_no T (by omega) HTT.out _).mono ?_
  rintro e w' ⟨rfl, rfl⟩
  go_wp2_with fail
  exact bodyPost_ret (v := .tuple #[.agg #[.int .i64 0, .int .i64 0], .int .i64 6]) (by simp [results, Tryd.results17, go_sem, *]) rfl (PfAns.no R.out (by repeat (first | exact Below.refl _ _ | apply below_drewN | apply Below.drew | (refine Below.setCell ?_ (by first | (simp; done) | (simp; omega) | omega) _) | (refine Below.alloc ?_ (by first | exact Nat.le_refl _ | (simp; done) | (simp; omega) | omega) _))))

set_option maxRecDepth 100000 in
theorem ipf_tt_nf (l b H T : List UInt8) (w : World) (hl : l.length ≤ 1048576) (hm : MaxL w) (ht : Tab w) (hb : Lib.trimPrefix l [45] = b) (hn : Lib.hasPrefix l [45] = true) (hc : Lib.cut b [47] = (H, T, true)) (hH : rdB H = true) (hT : rdB T = true) (hr : fracB (-(valL 0 H : Int)) ((valL 0 T) : Nat) = false) :
    Calls Tryd.prog 17 #[.string ⟨l.toArray⟩] w (PfAns (pfR rdB l) w) := by
  have R : Hid (pfR rdB l = none) := Lib.hid (pfR_bad (show cand rdB l = some ((-(valL 0 H : Int)), (valL 0 T)) by rw [cand_of hb hn hc, hH, hT]; rfl) (fun k => by rw [hr] at k; cases k.1))
  have HH := Lib.hid hH
  have hv := val_rd hH
  have HTT := Lib.hid hT
  have hv2 := val_rd hT
  have HR := Lib.hid hr
  clear hH hr hT
  have HM := Lib.hid hm
  have HT := Lib.hid ht
  have BL := trim_len hb
  obtain ⟨HL, TL⟩ := cut_len hc
  have HB := Lib.hid hb
  have HN := Lib.hid hn
  have HC := Lib.hid hc
  clear hm ht hb hn hc
  go_enter Tryd.func17, Tryd.ntmps17
  go_wp2_with fail
  refine (cp_any l b true HB.out HN.out _).mono ?_
  rintro e w' ⟨rfl, rfl⟩
  go_wp2_with fail
  refine (ct_any b H T true HC.out (by omega) _ (MaxL.below HM.out (by repeat (first | exact Below.refl _ _ | apply below_drewN | apply Below.drew | (refine Below.setCell ?_ (by first | (simp; done) | (simp; omega) | omega) _) | (refine Below.alloc ?_ (by first | exact Nat.le_refl _ | (simp; done) | (simp; omega) | omega) _))))).mono ?_
  rintro e w' ⟨rfl, dn, rfl⟩
  go_wp2_with fail
  refine (rd_yes H HH.out _).mono ?_
  rintro e w' ⟨rfl, rfl⟩
  go_wp2_with fail
  refine (rd_yes T HTT.out _).mono ?_
  rintro e w' ⟨rfl, rfl⟩
  go_wp2_with fail
  refine (isFraction_no (-(valL 0 H : Int)) ((valL 0 T) : Nat) _ HR.out).mono ?_
  rintro e w1 ⟨rfl, hb1⟩
  have hs1 : w.heap.size < w.heap.size + 1 + 1 := by omega
  obtain ⟨hc1, hf1⟩ := bcell hb1; have hz1 := hb1.size; (try simp at hz1); (try have hk1_0 : w.heap.size < w1.heap.size := by omega); (try have hk1_1 : w.heap.size + 1 < w1.heap.size := by omega); (try have hk1_2 : w.heap.size + 2 < w1.heap.size := by omega)
  go_wp2_with fail
  exact bodyPost_ret (v := .tuple #[.agg #[.int .i64 0, .int .i64 0], .int .i64 6]) (by simp [results, Tryd.results17, go_sem, *]) rfl (PfAns.no R.out (by repeat (first | exact Below.refl _ _ | apply below_drewN | apply Below.drew | (refine Below.setCell ?_ (by first | (simp; done) | (simp; omega) | omega) _) | (refine Below.alloc ?_ (by first | exact Nat.le_refl _ | (simp; done) | (simp; omega) | omega) _) | (refine Below.trans ?_ (hb1.mono (by first | exact Nat.le_refl _ | (simp; done) | (simp; omega) | omega))))))

set_option maxRecDepth 100000 in
theorem ipf_tt_nt (l b H T : List UInt8) (w : World) (hl : l.length ≤ 1048576) (hm : MaxL w) (ht : Tab w) (hb : Lib.trimPrefix l [45] = b) (hn : Lib.hasPrefix l [45] = true) (hc : Lib.cut b [47] = (H, T, true)) (hH : rdB H = true) (hT : rdB T = true) (hr : fracB (-(valL 0 H : Int)) ((valL 0 T) : Nat) = true) (hx : txt (-(valL 0 H : Int)) (valL 0 T) ≠ l) :
    Calls Tryd.prog 17 #[.string ⟨l.toArray⟩] w (PfAns (pfR rdB l) w) := by
  have R : Hid (pfR rdB l = none) := Lib.hid (pfR_bad (show cand rdB l = some ((-(valL 0 H : Int)), (valL 0 T)) by rw [cand_of hb hn hc, hH, hT]; rfl) (fun k => hx k.2))
  have HH := Lib.hid hH
  have hv := val_rd hH
  have HTT := Lib.hid hT
  have hv2 := val_rd hT
  have HR := Lib.hid hr
  have fa := (fracB_true.1 hr).1
  have fu := (fracB_true.1 hr).2.1
  have X1 : (txt (-(valL 0 H : Int)) (valL 0 T) == l) = false := by simpa using hx
  have X2 : (txt (-(valL 0 H : Int)) (valL 0 T) != l) = true := by simpa using hx
  obtain ⟨tt, htt⟩ : ∃ tt, tt = txt (-(valL 0 H : Int)) (valL 0 T) := ⟨_, rfl⟩
  rw [← htt] at X1 X2
  have HX := Lib.hid htt
  clear hx htt
  clear hH hr hT
  have HM := Lib.hid hm
  have HT := Lib.hid ht
  have BL := trim_len hb
  obtain ⟨HL, TL⟩ := cut_len hc
  have HB := Lib.hid hb
  have HN := Lib.hid hn
  have HC := Lib.hid hc
  clear hm ht hb hn hc
  go_enter Tryd.func17, Tryd.ntmps17
  go_wp2_with fail
  refine (cp_any l b true HB.out HN.out _).mono ?_
  rintro e w' ⟨rfl, rfl⟩
  go_wp2_with fail
  refine (ct_any b H T true HC.out (by omega) _ (MaxL.below HM.out (by repeat (first | exact Below.refl _ _ | apply below_drewN | apply Below.drew | (refine Below.setCell ?_ (by first | (simp; done) | (simp; omega) | omega) _) | (refine Below.alloc ?_ (by first | exact Nat.le_refl _ | (simp; done) | (simp; omega) | omega) _))))).mono ?_
  rintro e w' ⟨rfl, dn, rfl⟩
  go_wp2_with fail
  refine (rd_yes H HH.out _).mono ?_
  rintro e w' ⟨rfl, rfl⟩
  go_wp2_with fail
  refine (rd_yes T HTT.out _).mono ?_
  rintro e w' ⟨rfl, rfl⟩
  go_wp2_with fail
  refine (isFraction_yes (-(valL 0 H : Int)) ((valL 0 T) : Nat) _ HR.out).mono ?_
  rintro e w1 ⟨rfl, hb1⟩
  have hs1 : w.heap.size < w.heap.size + 1 + 1 := by omega
  obtain ⟨hc1, hf1⟩ := bcell hb1; have hz1 := hb1.size; (try simp at hz1); (try have hk1_0 : w.heap.size < w1.heap.size := by omega); (try have hk1_1 : w.heap.size + 1 < w1.heap.size := by omega); (try have hk1_2 : w.heap.size + 2 < w1.heap.size := by omega)
  go_wp2_with fail
  refine (text_any (-(valL 0 H : Int)) (valL 0 T) _ (by omega) (by omega) (Tab.below HT.out (by repeat (first | exact Below.refl _ _ | apply below_drewN | apply Below.drew | (refine Below.setCell ?_ (by first | (simp; done) | (simp; omega) | omega) _) | (refine Below.alloc ?_ (by first | exact Nat.le_refl _ | (simp; done) | (simp; omega) | omega) _) | (refine Below.trans ?_ (hb1.mono (by first | exact Nat.le_refl _ | (simp; done) | (simp; omega) | omega))))))).mono ?_
  rintro e w2 ⟨rfl, hb2⟩
  rw [← HX.out]
  obtain ⟨hc2, hf2⟩ := bcell hb2; have hz2 := hb2.size; (try simp at hz2); (try have hk2_0 : w.heap.size < w2.heap.size := by omega); (try have hk2_1 : w.heap.size + 1 < w2.heap.size := by omega); (try have hk2_2 : w.heap.size + 2 < w2.heap.size := by omega)
  go_wp2_with fail
  exact bodyPost_ret (v := .tuple #[.agg #[.int .i64 0, .int .i64 0], .int .i64 6]) (by simp [results, Tryd.results17, go_sem, *]) rfl (PfAns.no R.out (by repeat (first | exact Below.refl _ _ | apply below_drewN | apply Below.drew | (refine Below.setCell ?_ (by first | (simp; done) | (simp; omega) | omega) _) | (refine Below.alloc ?_ (by first | exact Nat.le_refl _ | (simp; done) | (simp; omega) | omega) _) | (refine Below.trans ?_ (hb2.mono (by first | exact Nat.le_refl _ | (simp; done) | (simp; omega) | omega))) | (refine Below.trans ?_ (hb1.mono (by first | exact Nat.le_refl _ | (simp; done) | (simp; omega) | omega))))))

set_option maxRecDepth 100000 in
theorem ipf_tt_ok (l b H T : List UInt8) (w : World) (hl : l.length ≤ 1048576) (hm : MaxL w) (ht : Tab w) (hb : Lib.trimPrefix l [45] = b) (hn : Lib.hasPrefix l [45] = true) (hc : Lib.cut b [47] = (H, T, true)) (hH : rdB H = true) (hT : rdB T = true) (hr : fracB (-(valL 0 H : Int)) ((valL 0 T) : Nat) = true) (hx : txt (-(valL 0 H : Int)) (valL 0 T) = l) :
    Calls Tryd.prog 17 #[.string ⟨l.toArray⟩] w (PfAns (pfR rdB l) w) := by
  have R : Hid (pfR rdB l = some ((-(valL 0 H : Int)), (valL 0 T))) := Lib.hid (pfR_good (show cand rdB l = some ((-(valL 0 H : Int)), (valL 0 T)) by rw [cand_of hb hn hc, hH, hT]; rfl) ⟨hr, hx⟩)
  have HH := Lib.hid hH
  have hv := val_rd hH
  have HTT := Lib.hid hT
  have hv2 := val_rd hT
  have HR := Lib.hid hr
  have fa := (fracB_true.1 hr).1
  have fu := (fracB_true.1 hr).2.1
  have X1 : (txt (-(valL 0 H : Int)) (valL 0 T) == l) = true := by simp [hx]
  have X2 : (txt (-(valL 0 H : Int)) (valL 0 T) != l) = false := by simp [hx]
  obtain ⟨tt, htt⟩ : ∃ tt, tt = txt (-(valL 0 H : Int)) (valL 0 T) := ⟨_, rfl⟩
  rw [← htt] at X1 X2
  have HX := Lib.hid htt
  clear hx htt
  clear hH hr hT
  have HM := Lib.hid hm
  have HT := Lib.hid ht
  have BL := trim_len hb
  obtain ⟨HL, TL⟩ := cut_len hc
  have HB := Lib.hid hb
  have HN := Lib.hid hn
  have HC := Lib.hid hc
  clear hm ht hb hn hc
  go_enter Tryd.func17, Tryd.ntmps17
  go_wp2_with fail
  refine (cp_any l b true HB.out HN.out _).mono ?_
  rintro e w' ⟨rfl, rfl⟩
  go_wp2_with fail
  refine (ct_any b H T true HC.out (by omega) _ (MaxL.below HM.out (by repeat (first | exact Below.refl _ _ | apply below_drewN | apply Below.drew | (refine Below.setCell ?_ (by first | (simp; done) | (simp; omega) | omega) _) | (refine Below.alloc ?_ (by first | exact Nat.le_refl _ | (simp; done) | (simp; omega) | omega) _))))).mono ?_
  rintro e w' ⟨rfl, dn, rfl⟩
  go_wp2_with fail
  refine (rd_yes H HH.out _).mono ?_
  rintro e w' ⟨rfl, rfl⟩
  go_wp2_with fail
  refine (rd_yes T HTT.out _).mono ?_
  rintro e w' ⟨rfl, rfl⟩
  go_wp2_with fail
  refine (isFraction_yes (-(valL 0 H : Int)) ((valL 0 T) : Nat) _ HR.out).mono ?_
  rintro e w1 ⟨rfl, hb1⟩
  have hs1 : w.heap.size < w.heap.size + 1 + 1 := by omega
  obtain ⟨hc1, hf1⟩ := bcell hb1; have hz1 := hb1.size; (try simp at hz1); (try have hk1_0 : w.heap.size < w1.heap.size := by omega); (try have hk1_1 : w.heap.size + 1 < w1.heap.size := by omega); (try have hk1_2 : w.heap.size + 2 < w1.heap.size := by omega)
  go_wp2_with fail
  refine (text_any (-(valL 0 H : Int)) (valL 0 T) _ (by omega) (by omega) (Tab.below HT.out (by repeat (first | exact Below.refl _ _ | apply below_drewN | apply Below.drew | (refine Below.setCell ?_ (by first | (simp; done) | (simp; omega) | omega) _) | (refine Below.alloc ?_ (by first | exact Nat.le_refl _ | (simp; done) | (simp; omega) | omega) _) | (refine Below.trans ?_ (hb1.mono (by first | exact Nat.le_refl _ | (simp; done) | (simp; omega) | omega))))))).mono ?_
  rintro e w2 ⟨rfl, hb2⟩
  rw [← HX.out]
  obtain ⟨hc2, hf2⟩ := bcell hb2; have hz2 := hb2.size; (try simp at hz2); (try have hk2_0 : w.heap.size < w2.heap.size := by omega); (try have hk2_1 : w.heap.size + 1 < w2.heap.size := by omega); (try have hk2_2 : w.heap.size + 2 < w2.heap.size := by omega)
  go_wp2_with fail
  exact bodyPost_ret (v := .tuple #[.agg #[.int .i64 (-(valL 0 H : Int)), .int .i64 ((valL 0 T) : Nat)], .int .i64 0]) (by simp [results, Tryd.results17, go_sem, *]) rfl (PfAns.yes R.out rfl (by repeat (first | exact Below.refl _ _ | apply below_drewN | apply Below.drew | (refine Below.setCell ?_ (by first | (simp; done) | (simp; omega) | omega) _) | (refine Below.alloc ?_ (by first | exact Nat.le_refl _ | (simp; done) | (simp; omega) | omega) _) | (refine Below.trans ?_ (hb2.mono (by first | exact Nat.le_refl _ | (simp; done) | (simp; omega) | omega))) | (refine Below.trans ?_ (hb1.mono (by first | exact Nat.le_refl _ | (simp; done) | (simp; omega) | omega))))))

/-- The program's ParseFraction. -/
theorem implParseFraction_any (l : List UInt8) (w : World) (hl : l.length ≤ 1048576) (hm : MaxL w) (ht : Tab w) :
    Calls Tryd.prog 17 #[.string ⟨l.toArray⟩] w (PfAns (pfR rdB l) w) := by
  obtain ⟨b, hb⟩ : ∃ b, Lib.trimPrefix l [45] = b := ⟨_, rfl⟩
  obtain ⟨H, T, F, hc⟩ : ∃ H T F, Lib.cut b [47] = (H, T, F) := ⟨_, _, _, rfl⟩
  cases hn : Lib.hasPrefix l [45]
  · cases F
    · cases hH : rdB H
      · exact ipf_ff_noH l b H T w hl hm ht hb hn hc hH
      cases hr : fracB (valL 0 H : Int) (1 : Nat)
      · exact ipf_ff_nf l b H T w hl hm ht hb hn hc hH hr
      by_cases hx : txt (valL 0 H : Int) 1 = l
      · exact ipf_ff_ok l b H T w hl hm ht hb hn hc hH hr hx
      · exact ipf_ff_nt l b H T w hl hm ht hb hn hc hH hr hx
    · cases hH : rdB H
      · exact ipf_ft_noH l b H T w hl hm ht hb hn hc hH
      cases hT : rdB T
      · exact ipf_ft_noT l b H T w hl hm ht hb hn hc hH hT
      cases hr : fracB (valL 0 H : Int) ((valL 0 T) : Nat)
      · exact ipf_ft_nf l b H T w hl hm ht hb hn hc hH hT hr
      by_cases hx : txt (valL 0 H : Int) (valL 0 T) = l
      · exact ipf_ft_ok l b H T w hl hm ht hb hn hc hH hT hr hx
      · exact ipf_ft_nt l b H T w hl hm ht hb hn hc hH hT hr hx
  · cases F
    · cases hH : rdB H
      · exact ipf_tf_noH l b H T w hl hm ht hb hn hc hH
      cases hr : fracB (-(valL 0 H : Int)) (1 : Nat)
      · exact ipf_tf_nf l b H T w hl hm ht hb hn hc hH hr
      by_cases hx : txt (-(valL 0 H : Int)) 1 = l
      · exact ipf_tf_ok l b H T w hl hm ht hb hn hc hH hr hx
      · exact ipf_tf_nt l b H T w hl hm ht hb hn hc hH hr hx
    · cases hH : rdB H
      · exact ipf_tt_noH l b H T w hl hm ht hb hn hc hH
      cases hT : rdB T
      · exact ipf_tt_noT l b H T w hl hm ht hb hn hc hH hT
      cases hr : fracB (-(valL 0 H : Int)) ((valL 0 T) : Nat)
      · exact ipf_tt_nf l b H T w hl hm ht hb hn hc hH hT hr
      by_cases hx : txt (-(valL 0 H : Int)) (valL 0 T) = l
      · exact ipf_tt_ok l b H T w hl hm ht hb hn hc hH hT hr hx
      · exact ipf_tt_nt l b H T w hl hm ht hb hn hc hH hT hr hx
end Go.Proofs.YtbipihamkfifjaaDoor
