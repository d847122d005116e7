/- The model's ParseFraction: its ways without a sign. Conditions: stated at each theorem. -/
import Derived.Test.YtbipihamkfifjaaDoorPfS
namespace Go.Proofs.YtbipihamkfifjaaDoor
open Go.ChangeShapes Go.WideShapes Go.ChangeAt Go.RowKit
set_option linter.unusedVariables false

set_option maxRecDepth 100000 in
theorem spf_e1_no (s : ByteArray) (b : List UInt8) (w : World) (hl : s.size ≤ 1048576) (hb : Lib.trimPrefix s.data.toList [45] = b) (hn : Lib.hasPrefix s.data.toList [45] = false) (h0 : s.size = 0) (hL : spl 47 [] b = [b]) (hc : Lib.cut b [47] = (b, [], false)) (hH : svB b = false) :
    Calls Tryd.prog 23 #[.string s] w (PfAns (pfR svB s.data.toList) w) := by
  have R : Hid (pfR svB s.data.toList = none) := Lib.hid (pfR_none (by rw [cand_of hb hn hc, hH]; rfl))
  have HH := Lib.hid hH
  clear hH hc
  have BL : b.length ≤ 1048576 := by have := trim_len hb; rw [len_str] at this; omega
  have HE : Hid (s.data.toList = b) := Lib.hid (pos_same _ _ hn hb)
  have he : s = ByteArray.empty := ByteArray.size_eq_zero_iff.1 h0
  clear he
  have HL := Lib.hid hL
  clear hL hb hn
  go_enter Tryd.func23, Tryd.ntmps23
  go_wp2_with fail
  refine (sp_1 s b HE.out BL HL.out _).mono ?_
  rintro e w1 ⟨g, c, rfl, hg1, hg2, hb1, hp0⟩
  obtain ⟨hc1, hf1⟩ := bcell hb1; have hz1 := hb1.size; (try simp at hz1); (try have hk1_0w : w.heap.size < w1.heap.size := by omega); (try have hk1_1w : w.heap.size + 1 < w1.heap.size := by omega); (try have hk1_2w : w.heap.size + 2 < w1.heap.size := by omega)
  have hs1 : w.heap.size < w.heap.size + 1 := by omega
  (try simp at hg1)
  have hgw : g < w1.heap.size + 1 := by omega
  have hww : w.heap.size < w1.heap.size + 1 := by omega
  have hwn : w.heap.size ≠ w1.heap.size := by omega
  have hgn : g ≠ w1.heap.size := by omega
  have hgm : g ≠ w.heap.size := by omega
  go_wp2_with fail
  refine (sv_not b BL HH.out _).mono ?_
  rintro e w' ⟨rfl, rfl⟩
  go_wp2_with fail
  exact bodyPost_ret (v := .tuple #[.agg #[.int .i64 0, .int .i64 0], .int .i64 6]) (by simp [results, Tryd.results23, go_sem, *]) rfl (PfAns.no R.out (by repeat (first | exact Below.refl _ _ | apply below_drewN | apply Below.drew | (refine Below.setCell ?_ (by first | (simp; done) | (simp; omega) | omega) _) | (refine Below.alloc ?_ (by first | exact Nat.le_refl _ | (simp; done) | (simp; omega) | omega) _) | (refine Below.trans ?_ (hb1.mono (by first | exact Nat.le_refl _ | (simp; done) | (simp; omega) | omega))))))

set_option maxRecDepth 100000 in
theorem spf_p1_no (s : ByteArray) (b : List UInt8) (w : World) (hl : s.size ≤ 1048576) (hb : Lib.trimPrefix s.data.toList [45] = b) (hn : Lib.hasPrefix s.data.toList [45] = false) (h0 : 0 < s.size) (hL : spl 47 [] b = [b]) (hc : Lib.cut b [47] = (b, [], false)) (hH : svB b = false) :
    Calls Tryd.prog 23 #[.string s] w (PfAns (pfR svB s.data.toList) w) := by
  have R : Hid (pfR svB s.data.toList = none) := Lib.hid (pfR_none (by rw [cand_of hb hn hc, hH]; rfl))
  have HH := Lib.hid hH
  clear hH hc
  have BL : b.length ≤ 1048576 := by have := trim_len hb; rw [len_str] at this; omega
  have T0 := pos_facts s b hn hb h0
  have HE : Hid (s.data.toList = b) := Lib.hid (pos_same _ _ hn hb)
  have HL := Lib.hid hL
  clear hL hb hn
  go_enter Tryd.func23, Tryd.ntmps23
  go_wp2_with fail
  refine (sp_1 s b HE.out BL HL.out _).mono ?_
  rintro e w1 ⟨g, c, rfl, hg1, hg2, hb1, hp0⟩
  obtain ⟨hc1, hf1⟩ := bcell hb1; have hz1 := hb1.size; (try simp at hz1); (try have hk1_0w : w.heap.size < w1.heap.size := by omega); (try have hk1_1w : w.heap.size + 1 < w1.heap.size := by omega); (try have hk1_2w : w.heap.size + 2 < w1.heap.size := by omega)
  have hs1 : w.heap.size < w.heap.size + 1 := by omega
  (try simp at hg1)
  have hgw : g < w1.heap.size + 1 := by omega
  have hww : w.heap.size < w1.heap.size + 1 := by omega
  have hwn : w.heap.size ≠ w1.heap.size := by omega
  have hgn : g ≠ w1.heap.size := by omega
  have hgm : g ≠ w.heap.size := by omega
  go_wp2_with fail
  refine (sv_not b BL HH.out _).mono ?_
  rintro e w' ⟨rfl, rfl⟩
  go_wp2_with fail
  exact bodyPost_ret (v := .tuple #[.agg #[.int .i64 0, .int .i64 0], .int .i64 6]) (by simp [results, Tryd.results23, go_sem, *]) rfl (PfAns.no R.out (by repeat (first | exact Below.refl _ _ | apply below_drewN | apply Below.drew | (refine Below.setCell ?_ (by first | (simp; done) | (simp; omega) | omega) _) | (refine Below.alloc ?_ (by first | exact Nat.le_refl _ | (simp; done) | (simp; omega) | omega) _) | (refine Below.trans ?_ (hb1.mono (by first | exact Nat.le_refl _ | (simp; done) | (simp; omega) | omega))))))

set_option maxRecDepth 100000 in
theorem spf_p1_nf (s : ByteArray) (b : List UInt8) (w : World) (hl : s.size ≤ 1048576) (hb : Lib.trimPrefix s.data.toList [45] = b) (hn : Lib.hasPrefix s.data.toList [45] = false) (h0 : 0 < s.size) (hL : spl 47 [] b = [b]) (hc : Lib.cut b [47] = (b, [], false)) (hH : svB b = true) (hr : fracB (valL 0 b : Int) (1 : Nat) = false) :
    Calls Tryd.prog 23 #[.string s] w (PfAns (pfR svB s.data.toList) w) := by
  have R : Hid (pfR svB s.data.toList = none) := Lib.hid (pfR_bad (show cand svB s.data.toList = some ((valL 0 b : Int), 1) by rw [cand_of hb hn hc, hH]; rfl) (fun k => by rw [hr] at k; cases k.1))
  have hv := val_rd (rd_of_sv hH)
  have HH := Lib.hid hH
  have HR := Lib.hid hr
  clear hH hr hc
  have BL : b.length ≤ 1048576 := by have := trim_len hb; rw [len_str] at this; omega
  have T0 := pos_facts s b hn hb h0
  have HE : Hid (s.data.toList = b) := Lib.hid (pos_same _ _ hn hb)
  have HL := Lib.hid hL
  clear hL hb hn
  go_enter Tryd.func23, Tryd.ntmps23
  go_wp2_with fail
  refine (sp_1 s b HE.out BL HL.out _).mono ?_
  rintro e w1 ⟨g, c, rfl, hg1, hg2, hb1, hp0⟩
  obtain ⟨hc1, hf1⟩ := bcell hb1; have hz1 := hb1.size; (try simp at hz1); (try have hk1_0w : w.heap.size < w1.heap.size := by omega); (try have hk1_1w : w.heap.size + 1 < w1.heap.size := by omega); (try have hk1_2w : w.heap.size + 2 < w1.heap.size := by omega)
  have hs1 : w.heap.size < w.heap.size + 1 := by omega
  (try simp at hg1)
  have hgw : g < w1.heap.size + 1 := by omega
  have hww : w.heap.size < w1.heap.size + 1 := by omega
  have hwn : w.heap.size ≠ w1.heap.size := by omega
  have hgn : g ≠ w1.heap.size := by omega
  have hgm : g ≠ w.heap.size := by omega
  go_wp2_with fail
  refine (sv_yes b HH.out _).mono ?_
  rintro e w' ⟨rfl, rfl⟩
  go_wp2_with fail
  refine (l01Fraction_no (valL 0 b : Int) (1 : Nat) _ HR.out).mono ?_
  rintro e w2 ⟨rfl, hb2⟩
  obtain ⟨hc2, hf2⟩ := bcell hb2; have hz2 := hb2.size; (try simp at hz2); (try have hk2_0w : w.heap.size < w2.heap.size := by omega); (try have hk2_1w : w.heap.size + 1 < w2.heap.size := by omega); (try have hk2_2w : w.heap.size + 2 < w2.heap.size := by omega); 
  (try have hk2a := Nat.lt_of_succ_le hz2)
  go_wp2_with fail
  exact bodyPost_ret (v := .tuple #[.agg #[.int .i64 0, .int .i64 0], .int .i64 6]) (by simp [results, Tryd.results23, go_sem, *]) rfl (PfAns.no R.out (by repeat (first | exact Below.refl _ _ | apply below_drewN | apply Below.drew | (refine Below.setCell ?_ (by first | (simp; done) | (simp; omega) | omega) _) | (refine Below.alloc ?_ (by first | exact Nat.le_refl _ | (simp; done) | (simp; omega) | omega) _) | (refine Below.trans ?_ (hb2.mono (by first | exact Nat.le_refl _ | (simp; done) | (simp; omega) | omega))) | (refine Below.trans ?_ (hb1.mono (by first | exact Nat.le_refl _ | (simp; done) | (simp; omega) | omega))))))

set_option maxRecDepth 100000 in
theorem spf_p1_nt (s : ByteArray) (b : List UInt8) (w : World) (hl : s.size ≤ 1048576) (hb : Lib.trimPrefix s.data.toList [45] = b) (hn : Lib.hasPrefix s.data.toList [45] = false) (h0 : 0 < s.size) (hL : spl 47 [] b = [b]) (hc : Lib.cut b [47] = (b, [], false)) (hH : svB b = true) (hr : fracB (valL 0 b : Int) (1 : Nat) = true) (hx : txt (valL 0 b : Int) (1 : Nat) ≠ s.data.toList) :
    Calls Tryd.prog 23 #[.string s] w (PfAns (pfR svB s.data.toList) w) := by
  have R : Hid (pfR svB s.data.toList = none) := Lib.hid (pfR_bad (show cand svB s.data.toList = some ((valL 0 b : Int), 1) by rw [cand_of hb hn hc, hH]; rfl) (fun k => hx k.2))
  have hv := val_rd (rd_of_sv hH)
  have HH := Lib.hid hH
  have HR := Lib.hid hr
  have fa := (fracB_true.1 hr).1
  have fu := (fracB_true.1 hr).2.1
  have X1 : (txt (valL 0 b : Int) (1 : Nat) == s.toList) = false := by rw [ByteArray.toList_eq]; simpa using hx
  have X2 : (txt (valL 0 b : Int) (1 : Nat) != s.toList) = true := by rw [ByteArray.toList_eq]; simpa using hx
  obtain ⟨tt, htt⟩ : ∃ tt, tt = txt (valL 0 b : Int) (1 : Nat) := ⟨_, rfl⟩
  rw [← htt] at X1 X2
  have HX := Lib.hid htt
  clear hx htt
  clear hH hr hc
  have BL : b.length ≤ 1048576 := by have := trim_len hb; rw [len_str] at this; omega
  have T0 := pos_facts s b hn hb h0
  have HE : Hid (s.data.toList = b) := Lib.hid (pos_same _ _ hn hb)
  have HL := Lib.hid hL
  clear hL hb hn
  go_enter Tryd.func23, Tryd.ntmps23
  go_wp2_with fail
  refine (sp_1 s b HE.out BL HL.out _).mono ?_
  rintro e w1 ⟨g, c, rfl, hg1, hg2, hb1, hp0⟩
  obtain ⟨hc1, hf1⟩ := bcell hb1; have hz1 := hb1.size; (try simp at hz1); (try have hk1_0w : w.heap.size < w1.heap.size := by omega); (try have hk1_1w : w.heap.size + 1 < w1.heap.size := by omega); (try have hk1_2w : w.heap.size + 2 < w1.heap.size := by omega)
  have hs1 : w.heap.size < w.heap.size + 1 := by omega
  (try simp at hg1)
  have hgw : g < w1.heap.size + 1 := by omega
  have hww : w.heap.size < w1.heap.size + 1 := by omega
  have hwn : w.heap.size ≠ w1.heap.size := by omega
  have hgn : g ≠ w1.heap.size := by omega
  have hgm : g ≠ w.heap.size := by omega
  go_wp2_with fail
  refine (sv_yes b HH.out _).mono ?_
  rintro e w' ⟨rfl, rfl⟩
  go_wp2_with fail
  refine (l01Fraction_yes (valL 0 b : Int) (1 : Nat) _ HR.out).mono ?_
  rintro e w2 ⟨rfl, hb2⟩
  obtain ⟨hc2, hf2⟩ := bcell hb2; have hz2 := hb2.size; (try simp at hz2); (try have hk2_0w : w.heap.size < w2.heap.size := by omega); (try have hk2_1w : w.heap.size + 1 < w2.heap.size := by omega); (try have hk2_2w : w.heap.size + 2 < w2.heap.size := by omega)
  (try have hk2a := Nat.lt_of_succ_le hz2)
  go_wp2_with fail
  refine (l01Text_any (valL 0 b : Int) (1 : Nat) _ (by omega) (by omega)).mono ?_
  rintro e w3 ⟨rfl, hb3⟩
  rw [← HX.out]
  obtain ⟨hc3, hf3⟩ := bcell hb3; have hz3 := hb3.size; (try simp at hz3); (try have hk3_0w : w.heap.size < w3.heap.size := by omega); (try have hk3_1w : w.heap.size + 1 < w3.heap.size := by omega); (try have hk3_2w : w.heap.size + 2 < w3.heap.size := by omega)
  (try have hk3a := Nat.lt_of_lt_of_le hk2a hz3)
  go_wp2_with fail
  exact bodyPost_ret (v := .tuple #[.agg #[.int .i64 0, .int .i64 0], .int .i64 6]) (by simp [results, Tryd.results23, go_sem, *]) rfl (PfAns.no R.out (by repeat (first | exact Below.refl _ _ | apply below_drewN | apply Below.drew | (refine Below.setCell ?_ (by first | (simp; done) | (simp; omega) | omega) _) | (refine Below.alloc ?_ (by first | exact Nat.le_refl _ | (simp; done) | (simp; omega) | omega) _) | (refine Below.trans ?_ (hb3.mono (by first | exact Nat.le_refl _ | (simp; done) | (simp; omega) | omega))) | (refine Below.trans ?_ (hb2.mono (by first | exact Nat.le_refl _ | (simp; done) | (simp; omega) | omega))) | (refine Below.trans ?_ (hb1.mono (by first | exact Nat.le_refl _ | (simp; done) | (simp; omega) | omega))))))

set_option maxRecDepth 100000 in
theorem spf_p1_ok (s : ByteArray) (b : List UInt8) (w : World) (hl : s.size ≤ 1048576) (hb : Lib.trimPrefix s.data.toList [45] = b) (hn : Lib.hasPrefix s.data.toList [45] = false) (h0 : 0 < s.size) (hL : spl 47 [] b = [b]) (hc : Lib.cut b [47] = (b, [], false)) (hH : svB b = true) (hr : fracB (valL 0 b : Int) (1 : Nat) = true) (hx : txt (valL 0 b : Int) (1 : Nat) = s.data.toList) :
    Calls Tryd.prog 23 #[.string s] w (PfAns (pfR svB s.data.toList) w) := by
  have R : Hid (pfR svB s.data.toList = some ((valL 0 b : Int), (1 : Nat))) := Lib.hid (pfR_good (show cand svB s.data.toList = some ((valL 0 b : Int), 1) by rw [cand_of hb hn hc, hH]; rfl) ⟨hr, hx⟩)
  have hv := val_rd (rd_of_sv hH)
  have HH := Lib.hid hH
  have HR := Lib.hid hr
  have fa := (fracB_true.1 hr).1
  have fu := (fracB_true.1 hr).2.1
  have X1 : (txt (valL 0 b : Int) (1 : Nat) == s.toList) = true := by rw [ByteArray.toList_eq]; simp [hx]
  have X2 : (txt (valL 0 b : Int) (1 : Nat) != s.toList) = false := by rw [ByteArray.toList_eq]; simp [hx]
  obtain ⟨tt, htt⟩ : ∃ tt, tt = txt (valL 0 b : Int) (1 : Nat) := ⟨_, rfl⟩
  rw [← htt] at X1 X2
  have HX := Lib.hid htt
  clear hx htt
  clear hH hr hc
  have BL : b.length ≤ 1048576 := by have := trim_len hb; rw [len_str] at this; omega
  have T0 := pos_facts s b hn hb h0
  have HE : Hid (s.data.toList = b) := Lib.hid (pos_same _ _ hn hb)
  have HL := Lib.hid hL
  clear hL hb hn
  go_enter Tryd.func23, Tryd.ntmps23
  go_wp2_with fail
  refine (sp_1 s b HE.out BL HL.out _).mono ?_
  rintro e w1 ⟨g, c, rfl, hg1, hg2, hb1, hp0⟩
  obtain ⟨hc1, hf1⟩ := bcell hb1; have hz1 := hb1.size; (try simp at hz1); (try have hk1_0w : w.heap.size < w1.heap.size := by omega); (try have hk1_1w : w.heap.size + 1 < w1.heap.size := by omega); (try have hk1_2w : w.heap.size + 2 < w1.heap.size := by omega)
  have hs1 : w.heap.size < w.heap.size + 1 := by omega
  (try simp at hg1)
  have hgw : g < w1.heap.size + 1 := by omega
  have hww : w.heap.size < w1.heap.size + 1 := by omega
  have hwn : w.heap.size ≠ w1.heap.size := by omega
  have hgn : g ≠ w1.heap.size := by omega
  have hgm : g ≠ w.heap.size := by omega
  go_wp2_with fail
  refine (sv_yes b HH.out _).mono ?_
  rintro e w' ⟨rfl, rfl⟩
  go_wp2_with fail
  refine (l01Fraction_yes (valL 0 b : Int) (1 : Nat) _ HR.out).mono ?_
  rintro e w2 ⟨rfl, hb2⟩
  obtain ⟨hc2, hf2⟩ := bcell hb2; have hz2 := hb2.size; (try simp at hz2); (try have hk2_0w : w.heap.size < w2.heap.size := by omega); (try have hk2_1w : w.heap.size + 1 < w2.heap.size := by omega); (try have hk2_2w : w.heap.size + 2 < w2.heap.size := by omega)
  (try have hk2a := Nat.lt_of_succ_le hz2)
  go_wp2_with fail
  refine (l01Text_any (valL 0 b : Int) (1 : Nat) _ (by omega) (by omega)).mono ?_
  rintro e w3 ⟨rfl, hb3⟩
  rw [← HX.out]
  obtain ⟨hc3, hf3⟩ := bcell hb3; have hz3 := hb3.size; (try simp at hz3); (try have hk3_0w : w.heap.size < w3.heap.size := by omega); (try have hk3_1w : w.heap.size + 1 < w3.heap.size := by omega); (try have hk3_2w : w.heap.size + 2 < w3.heap.size := by omega)
  (try have hk3a := Nat.lt_of_lt_of_le hk2a hz3)
  go_wp2_with fail
  exact bodyPost_ret (v := .tuple #[.agg #[.int .i64 (valL 0 b : Int), .int .i64 (1 : Nat)], .int .i64 0]) (by simp [results, Tryd.results23, go_sem, *]) rfl (PfAns.yes R.out rfl (by repeat (first | exact Below.refl _ _ | apply below_drewN | apply Below.drew | (refine Below.setCell ?_ (by first | (simp; done) | (simp; omega) | omega) _) | (refine Below.alloc ?_ (by first | exact Nat.le_refl _ | (simp; done) | (simp; omega) | omega) _) | (refine Below.trans ?_ (hb3.mono (by first | exact Nat.le_refl _ | (simp; done) | (simp; omega) | omega))) | (refine Below.trans ?_ (hb2.mono (by first | exact Nat.le_refl _ | (simp; done) | (simp; omega) | omega))) | (refine Below.trans ?_ (hb1.mono (by first | exact Nat.le_refl _ | (simp; done) | (simp; omega) | omega))))))

set_option maxRecDepth 100000 in
theorem spf_p2_noH (s : ByteArray) (b : List UInt8) (w : World) (hl : s.size ≤ 1048576) (hb : Lib.trimPrefix s.data.toList [45] = b) (hn : Lib.hasPrefix s.data.toList [45] = false) (h0 : 0 < s.size) (H T : List UInt8) (hL : spl 47 [] b = [H, T]) (hc : Lib.cut b [47] = (H, T, true)) (hH : svB H = false) :
    Calls Tryd.prog 23 #[.string s] w (PfAns (pfR svB s.data.toList) w) := by
  have R : Hid (pfR svB s.data.toList = none) := Lib.hid (pfR_none (by rw [cand_of hb hn hc, hH]; rfl))
  obtain ⟨LH, LT⟩ := cut_len hc
  have BL0 : b.length ≤ 1048576 := by have := trim_len hb; rw [len_str] at this; omega
  have HH := Lib.hid hH
  clear hH hc
  have BL : b.length ≤ 1048576 := by have := trim_len hb; rw [len_str] at this; omega
  have T0 := pos_facts s b hn hb h0
  have HE : Hid (s.data.toList = b) := Lib.hid (pos_same _ _ hn hb)
  have HL := Lib.hid hL
  clear hL hb hn
  go_enter Tryd.func23, Tryd.ntmps23
  go_wp2_with fail
  refine (sp_2 s b H T HE.out BL HL.out _).mono ?_
  rintro e w1 ⟨g, c, rfl, hg1, hg2, hb1, hp0, hp1⟩
  obtain ⟨hc1, hf1⟩ := bcell hb1; have hz1 := hb1.size; (try simp at hz1); (try have hk1_0w : w.heap.size < w1.heap.size := by omega); (try have hk1_1w : w.heap.size + 1 < w1.heap.size := by omega); (try have hk1_2w : w.heap.size + 2 < w1.heap.size := by omega)
  have hs1 : w.heap.size < w.heap.size + 1 := by omega
  (try simp at hg1)
  have hgw : g < w1.heap.size + 1 := by omega
  have hww : w.heap.size < w1.heap.size + 1 := by omega
  have hwn : w.heap.size ≠ w1.heap.size := by omega
  have hgn : g ≠ w1.heap.size := by omega
  have hgm : g ≠ w.heap.size := by omega
  go_wp2_with fail
  refine (sv_not H (by omega) HH.out _).mono ?_
  rintro e w' ⟨rfl, rfl⟩
  go_wp2_with fail
  refine (sv_x T (by omega) _).mono ?_
  rintro e w' ⟨x, hx, rfl, rfl⟩
  go_wp2_with fail
  exact bodyPost_ret (v := .tuple #[.agg #[.int .i64 0, .int .i64 0], .int .i64 6]) (by simp [results, Tryd.results23, go_sem, *]) rfl (PfAns.no R.out (by repeat (first | exact Below.refl _ _ | apply below_drewN | apply Below.drew | (refine Below.setCell ?_ (by first | (simp; done) | (simp; omega) | omega) _) | (refine Below.alloc ?_ (by first | exact Nat.le_refl _ | (simp; done) | (simp; omega) | omega) _) | (refine Below.trans ?_ (hb1.mono (by first | exact Nat.le_refl _ | (simp; done) | (simp; omega) | omega))))))

set_option maxRecDepth 100000 in
theorem spf_p2_noT (s : ByteArray) (b : List UInt8) (w : World) (hl : s.size ≤ 1048576) (hb : Lib.trimPrefix s.data.toList [45] = b) (hn : Lib.hasPrefix s.data.toList [45] = false) (h0 : 0 < s.size) (H T : List UInt8) (hL : spl 47 [] b = [H, T]) (hc : Lib.cut b [47] = (H, T, true)) (hH : svB H = true) (hT : svB T = false) :
    Calls Tryd.prog 23 #[.string s] w (PfAns (pfR svB s.data.toList) w) := by
  have R : Hid (pfR svB s.data.toList = none) := Lib.hid (pfR_none (by rw [cand_of hb hn hc, hH, hT]; rfl))
  obtain ⟨LH, LT⟩ := cut_len hc
  have BL0 : b.length ≤ 1048576 := by have := trim_len hb; rw [len_str] at this; omega
  have hv := val_rd (rd_of_sv hH)
  have HH := Lib.hid hH
  have HTT := Lib.hid hT
  have HR : Hid (fracB (valL 0 H : Int) (-1) = false) := Lib.hid (by unfold fracB natB; simp)
  clear hH hT hc
  have BL : b.length ≤ 1048576 := by have := trim_len hb; rw [len_str] at this; omega
  have T0 := pos_facts s b hn hb h0
  have HE : Hid (s.data.toList = b) := Lib.hid (pos_same _ _ hn hb)
  have HL := Lib.hid hL
  clear hL hb hn
  go_enter Tryd.func23, Tryd.ntmps23
  go_wp2_with fail
  refine (sp_2 s b H T HE.out BL HL.out _).mono ?_
  rintro e w1 ⟨g, c, rfl, hg1, hg2, hb1, hp0, hp1⟩
  obtain ⟨hc1, hf1⟩ := bcell hb1; have hz1 := hb1.size; (try simp at hz1); (try have hk1_0w : w.heap.size < w1.heap.size := by omega); (try have hk1_1w : w.heap.size + 1 < w1.heap.size := by omega); (try have hk1_2w : w.heap.size + 2 < w1.heap.size := by omega)
  have hs1 : w.heap.size < w.heap.size + 1 := by omega
  (try simp at hg1)
  have hgw : g < w1.heap.size + 1 := by omega
  have hww : w.heap.size < w1.heap.size + 1 := by omega
  have hwn : w.heap.size ≠ w1.heap.size := by omega
  have hgn : g ≠ w1.heap.size := by omega
  have hgm : g ≠ w.heap.size := by omega
  go_wp2_with fail
  refine (sv_yes H HH.out _).mono ?_
  rintro e w' ⟨rfl, rfl⟩
  go_wp2_with fail
  refine (sv_not T (by omega) HTT.out _).mono ?_
  rintro e w' ⟨rfl, rfl⟩
  go_wp2_with fail
  refine (l01Fraction_no (valL 0 H : Int) (-1) _ HR.out).mono ?_
  rintro e w2 ⟨rfl, hb2⟩
  obtain ⟨hc2, hf2⟩ := bcell hb2; have hz2 := hb2.size; (try simp at hz2); (try have hk2_0w : w.heap.size < w2.heap.size := by omega); (try have hk2_1w : w.heap.size + 1 < w2.heap.size := by omega); (try have hk2_2w : w.heap.size + 2 < w2.heap.size := by omega); 
  (try have hk2a := Nat.lt_of_succ_le hz2)
  go_wp2_with fail
  exact bodyPost_ret (v := .tuple #[.agg #[.int .i64 0, .int .i64 0], .int .i64 6]) (by simp [results, Tryd.results23, go_sem, *]) rfl (PfAns.no R.out (by repeat (first | exact Below.refl _ _ | apply below_drewN | apply Below.drew | (refine Below.setCell ?_ (by first | (simp; done) | (simp; omega) | omega) _) | (refine Below.alloc ?_ (by first | exact Nat.le_refl _ | (simp; done) | (simp; omega) | omega) _) | (refine Below.trans ?_ (hb2.mono (by first | exact Nat.le_refl _ | (simp; done) | (simp; omega) | omega))) | (refine Below.trans ?_ (hb1.mono (by first | exact Nat.le_refl _ | (simp; done) | (simp; omega) | omega))))))

set_option maxRecDepth 100000 in
theorem spf_p2_nf (s : ByteArray) (b : List UInt8) (w : World) (hl : s.size ≤ 1048576) (hb : Lib.trimPrefix s.data.toList [45] = b) (hn : Lib.hasPrefix s.data.toList [45] = false) (h0 : 0 < s.size) (H T : List UInt8) (hL : spl 47 [] b = [H, T]) (hc : Lib.cut b [47] = (H, T, true)) (hH : svB H = true) (hT : svB T = true) (hr : fracB (valL 0 H : Int) (valL 0 T : Nat) = false) :
    Calls Tryd.prog 23 #[.string s] w (PfAns (pfR svB s.data.toList) w) := by
  have R : Hid (pfR svB s.data.toList = none) := Lib.hid (pfR_bad (show cand svB s.data.toList = some ((valL 0 H : Int), valL 0 T) by rw [cand_of hb hn hc, hH, hT]; rfl) (fun k => by rw [hr] at k; cases k.1))
  obtain ⟨LH, LT⟩ := cut_len hc
  have BL0 : b.length ≤ 1048576 := by have := trim_len hb; rw [len_str] at this; omega
  have hv := val_rd (rd_of_sv hH)
  have hv2 := val_rd (rd_of_sv hT)
  have HH := Lib.hid hH
  have HTT := Lib.hid hT
  have HR := Lib.hid hr
  clear hH hT hr hc
  have BL : b.length ≤ 1048576 := by have := trim_len hb; rw [len_str] at this; omega
  have T0 := pos_facts s b hn hb h0
  have HE : Hid (s.data.toList = b) := Lib.hid (pos_same _ _ hn hb)
  have HL := Lib.hid hL
  clear hL hb hn
  go_enter Tryd.func23, Tryd.ntmps23
  go_wp2_with fail
  refine (sp_2 s b H T HE.out BL HL.out _).mono ?_
  rintro e w1 ⟨g, c, rfl, hg1, hg2, hb1, hp0, hp1⟩
  obtain ⟨hc1, hf1⟩ := bcell hb1; have hz1 := hb1.size; (try simp at hz1); (try have hk1_0w : w.heap.size < w1.heap.size := by omega); (try have hk1_1w : w.heap.size + 1 < w1.heap.size := by omega); (try have hk1_2w : w.heap.size + 2 < w1.heap.size := by omega)
  have hs1 : w.heap.size < w.heap.size + 1 := by omega
  (try simp at hg1)
  have hgw : g < w1.heap.size + 1 := by omega
  have hww : w.heap.size < w1.heap.size + 1 := by omega
  have hwn : w.heap.size ≠ w1.heap.size := by omega
  have hgn : g ≠ w1.heap.size := by omega
  have hgm : g ≠ w.heap.size := by omega
  go_wp2_with fail
  refine (sv_yes H HH.out _).mono ?_
  rintro e w' ⟨rfl, rfl⟩
  go_wp2_with fail
  refine (sv_yes T HTT.out _).mono ?_
  rintro e w' ⟨rfl, rfl⟩
  go_wp2_with fail
  refine (l01Fraction_no (valL 0 H : Int) (valL 0 T : Nat) _ HR.out).mono ?_
  rintro e w2 ⟨rfl, hb2⟩
  obtain ⟨hc2, hf2⟩ := bcell hb2; have hz2 := hb2.size; (try simp at hz2); (try have hk2_0w : w.heap.size < w2.heap.size := by omega); (try have hk2_1w : w.heap.size + 1 < w2.heap.size := by omega); (try have hk2_2w : w.heap.size + 2 < w2.heap.size := by omega); 
  (try have hk2a := Nat.lt_of_succ_le hz2)
  go_wp2_with fail
  exact bodyPost_ret (v := .tuple #[.agg #[.int .i64 0, .int .i64 0], .int .i64 6]) (by simp [results, Tryd.results23, go_sem, *]) rfl (PfAns.no R.out (by repeat (first | exact Below.refl _ _ | apply below_drewN | apply Below.drew | (refine Below.setCell ?_ (by first | (simp; done) | (simp; omega) | omega) _) | (refine Below.alloc ?_ (by first | exact Nat.le_refl _ | (simp; done) | (simp; omega) | omega) _) | (refine Below.trans ?_ (hb2.mono (by first | exact Nat.le_refl _ | (simp; done) | (simp; omega) | omega))) | (refine Below.trans ?_ (hb1.mono (by first | exact Nat.le_refl _ | (simp; done) | (simp; omega) | omega))))))

set_option maxRecDepth 100000 in
theorem spf_p2_nt (s : ByteArray) (b : List UInt8) (w : World) (hl : s.size ≤ 1048576) (hb : Lib.trimPrefix s.data.toList [45] = b) (hn : Lib.hasPrefix s.data.toList [45] = false) (h0 : 0 < s.size) (H T : List UInt8) (hL : spl 47 [] b = [H, T]) (hc : Lib.cut b [47] = (H, T, true)) (hH : svB H = true) (hT : svB T = true) (hr : fracB (valL 0 H : Int) (valL 0 T : Nat) = true) (hx : txt (valL 0 H : Int) (valL 0 T : Nat) ≠ s.data.toList) :
    Calls Tryd.prog 23 #[.string s] w (PfAns (pfR svB s.data.toList) w) := by
  have R : Hid (pfR svB s.data.toList = none) := Lib.hid (pfR_bad (show cand svB s.data.toList = some ((valL 0 H : Int), valL 0 T) by rw [cand_of hb hn hc, hH, hT]; rfl) (fun k => hx k.2))
  obtain ⟨LH, LT⟩ := cut_len hc
  have BL0 : b.length ≤ 1048576 := by have := trim_len hb; rw [len_str] at this; omega
  have hv := val_rd (rd_of_sv hH)
  have hv2 := val_rd (rd_of_sv hT)
  have HH := Lib.hid hH
  have HTT := Lib.hid hT
  have HR := Lib.hid hr
  have fa := (fracB_true.1 hr).1
  have fu := (fracB_true.1 hr).2.1
  have X1 : (txt (valL 0 H : Int) (valL 0 T : Nat) == s.toList) = false := by rw [ByteArray.toList_eq]; simpa using hx
  have X2 : (txt (valL 0 H : Int) (valL 0 T : Nat) != s.toList) = true := by rw [ByteArray.toList_eq]; simpa using hx
  obtain ⟨tt, htt⟩ : ∃ tt, tt = txt (valL 0 H : Int) (valL 0 T : Nat) := ⟨_, rfl⟩
  rw [← htt] at X1 X2
  have HX := Lib.hid htt
  clear hx htt
  clear hH hT hr hc
  have BL : b.length ≤ 1048576 := by have := trim_len hb; rw [len_str] at this; omega
  have T0 := pos_facts s b hn hb h0
  have HE : Hid (s.data.toList = b) := Lib.hid (pos_same _ _ hn hb)
  have HL := Lib.hid hL
  clear hL hb hn
  go_enter Tryd.func23, Tryd.ntmps23
  go_wp2_with fail
  refine (sp_2 s b H T HE.out BL HL.out _).mono ?_
  rintro e w1 ⟨g, c, rfl, hg1, hg2, hb1, hp0, hp1⟩
  obtain ⟨hc1, hf1⟩ := bcell hb1; have hz1 := hb1.size; (try simp at hz1); (try have hk1_0w : w.heap.size < w1.heap.size := by omega); (try have hk1_1w : w.heap.size + 1 < w1.heap.size := by omega); (try have hk1_2w : w.heap.size + 2 < w1.heap.size := by omega)
  have hs1 : w.heap.size < w.heap.size + 1 := by omega
  (try simp at hg1)
  have hgw : g < w1.heap.size + 1 := by omega
  have hww : w.heap.size < w1.heap.size + 1 := by omega
  have hwn : w.heap.size ≠ w1.heap.size := by omega
  have hgn : g ≠ w1.heap.size := by omega
  have hgm : g ≠ w.heap.size := by omega
  go_wp2_with fail
  refine (sv_yes H HH.out _).mono ?_
  rintro e w' ⟨rfl, rfl⟩
  go_wp2_with fail
  refine (sv_yes T HTT.out _).mono ?_
  rintro e w' ⟨rfl, rfl⟩
  go_wp2_with fail
  refine (l01Fraction_yes (valL 0 H : Int) (valL 0 T : Nat) _ HR.out).mono ?_
  rintro e w2 ⟨rfl, hb2⟩
  obtain ⟨hc2, hf2⟩ := bcell hb2; have hz2 := hb2.size; (try simp at hz2); (try have hk2_0w : w.heap.size < w2.heap.size := by omega); (try have hk2_1w : w.heap.size + 1 < w2.heap.size := by omega); (try have hk2_2w : w.heap.size + 2 < w2.heap.size := by omega)
  (try have hk2a := Nat.lt_of_succ_le hz2)
  go_wp2_with fail
  refine (l01Text_any (valL 0 H : Int) (valL 0 T : Nat) _ (by omega) (by omega)).mono ?_
  rintro e w3 ⟨rfl, hb3⟩
  rw [← HX.out]
  obtain ⟨hc3, hf3⟩ := bcell hb3; have hz3 := hb3.size; (try simp at hz3); (try have hk3_0w : w.heap.size < w3.heap.size := by omega); (try have hk3_1w : w.heap.size + 1 < w3.heap.size := by omega); (try have hk3_2w : w.heap.size + 2 < w3.heap.size := by omega)
  (try have hk3a := Nat.lt_of_lt_of_le hk2a hz3)
  go_wp2_with fail
  exact bodyPost_ret (v := .tuple #[.agg #[.int .i64 0, .int .i64 0], .int .i64 6]) (by simp [results, Tryd.results23, go_sem, *]) rfl (PfAns.no R.out (by repeat (first | exact Below.refl _ _ | apply below_drewN | apply Below.drew | (refine Below.setCell ?_ (by first | (simp; done) | (simp; omega) | omega) _) | (refine Below.alloc ?_ (by first | exact Nat.le_refl _ | (simp; done) | (simp; omega) | omega) _) | (refine Below.trans ?_ (hb3.mono (by first | exact Nat.le_refl _ | (simp; done) | (simp; omega) | omega))) | (refine Below.trans ?_ (hb2.mono (by first | exact Nat.le_refl _ | (simp; done) | (simp; omega) | omega))) | (refine Below.trans ?_ (hb1.mono (by first | exact Nat.le_refl _ | (simp; done) | (simp; omega) | omega))))))

set_option maxRecDepth 100000 in
theorem spf_p2_ok (s : ByteArray) (b : List UInt8) (w : World) (hl : s.size ≤ 1048576) (hb : Lib.trimPrefix s.data.toList [45] = b) (hn : Lib.hasPrefix s.data.toList [45] = false) (h0 : 0 < s.size) (H T : List UInt8) (hL : spl 47 [] b = [H, T]) (hc : Lib.cut b [47] = (H, T, true)) (hH : svB H = true) (hT : svB T = true) (hr : fracB (valL 0 H : Int) (valL 0 T : Nat) = true) (hx : txt (valL 0 H : Int) (valL 0 T : Nat) = s.data.toList) :
    Calls Tryd.prog 23 #[.string s] w (PfAns (pfR svB s.data.toList) w) := by
  have R : Hid (pfR svB s.data.toList = some ((valL 0 H : Int), (valL 0 T : Nat))) := Lib.hid (pfR_good (show cand svB s.data.toList = some ((valL 0 H : Int), valL 0 T) by rw [cand_of hb hn hc, hH, hT]; rfl) ⟨hr, hx⟩)
  obtain ⟨LH, LT⟩ := cut_len hc
  have BL0 : b.length ≤ 1048576 := by have := trim_len hb; rw [len_str] at this; omega
  have hv := val_rd (rd_of_sv hH)
  have hv2 := val_rd (rd_of_sv hT)
  have HH := Lib.hid hH
  have HTT := Lib.hid hT
  have HR := Lib.hid hr
  have fa := (fracB_true.1 hr).1
  have fu := (fracB_true.1 hr).2.1
  have X1 : (txt (valL 0 H : Int) (valL 0 T : Nat) == s.toList) = true := by rw [ByteArray.toList_eq]; simp [hx]
  have X2 : (txt (valL 0 H : Int) (valL 0 T : Nat) != s.toList) = false := by rw [ByteArray.toList_eq]; simp [hx]
  obtain ⟨tt, htt⟩ : ∃ tt, tt = txt (valL 0 H : Int) (valL 0 T : Nat) := ⟨_, rfl⟩
  rw [← htt] at X1 X2
  have HX := Lib.hid htt
  clear hx htt
  clear hH hT hr hc
  have BL : b.length ≤ 1048576 := by have := trim_len hb; rw [len_str] at this; omega
  have T0 := pos_facts s b hn hb h0
  have HE : Hid (s.data.toList = b) := Lib.hid (pos_same _ _ hn hb)
  have HL := Lib.hid hL
  clear hL hb hn
  go_enter Tryd.func23, Tryd.ntmps23
  go_wp2_with fail
  refine (sp_2 s b H T HE.out BL HL.out _).mono ?_
  rintro e w1 ⟨g, c, rfl, hg1, hg2, hb1, hp0, hp1⟩
  obtain ⟨hc1, hf1⟩ := bcell hb1; have hz1 := hb1.size; (try simp at hz1); (try have hk1_0w : w.heap.size < w1.heap.size := by omega); (try have hk1_1w : w.heap.size + 1 < w1.heap.size := by omega); (try have hk1_2w : w.heap.size + 2 < w1.heap.size := by omega)
  have hs1 : w.heap.size < w.heap.size + 1 := by omega
  (try simp at hg1)
  have hgw : g < w1.heap.size + 1 := by omega
  have hww : w.heap.size < w1.heap.size + 1 := by omega
  have hwn : w.heap.size ≠ w1.heap.size := by omega
  have hgn : g ≠ w1.heap.size := by omega
  have hgm : g ≠ w.heap.size := by omega
  go_wp2_with fail
  refine (sv_yes H HH.out _).mono ?_
  rintro e w' ⟨rfl, rfl⟩
  go_wp2_with fail
  refine (sv_yes T HTT.out _).mono ?_
  rintro e w' ⟨rfl, rfl⟩
  go_wp2_with fail
  refine (l01Fraction_yes (valL 0 H : Int) (valL 0 T : Nat) _ HR.out).mono ?_
  rintro e w2 ⟨rfl, hb2⟩
  obtain ⟨hc2, hf2⟩ := bcell hb2; have hz2 := hb2.size; (try simp at hz2); (try have hk2_0w : w.heap.size < w2.heap.size := by omega); (try have hk2_1w : w.heap.size + 1 < w2.heap.size := by omega); (try have hk2_2w : w.heap.size + 2 < w2.heap.size := by omega)
  (try have hk2a := Nat.lt_of_succ_le hz2)
  go_wp2_with fail
  refine (l01Text_any (valL 0 H : Int) (valL 0 T : Nat) _ (by omega) (by omega)).mono ?_
  rintro e w3 ⟨rfl, hb3⟩
  rw [← HX.out]
  obtain ⟨hc3, hf3⟩ := bcell hb3; have hz3 := hb3.size; (try simp at hz3); (try have hk3_0w : w.heap.size < w3.heap.size := by omega); (try have hk3_1w : w.heap.size + 1 < w3.heap.size := by omega); (try have hk3_2w : w.heap.size + 2 < w3.heap.size := by omega)
  (try have hk3a := Nat.lt_of_lt_of_le hk2a hz3)
  go_wp2_with fail
  exact bodyPost_ret (v := .tuple #[.agg #[.int .i64 (valL 0 H : Int), .int .i64 (valL 0 T : Nat)], .int .i64 0]) (by simp [results, Tryd.results23, go_sem, *]) rfl (PfAns.yes R.out rfl (by repeat (first | exact Below.refl _ _ | apply below_drewN | apply Below.drew | (refine Below.setCell ?_ (by first | (simp; done) | (simp; omega) | omega) _) | (refine Below.alloc ?_ (by first | exact Nat.le_refl _ | (simp; done) | (simp; omega) | omega) _) | (refine Below.trans ?_ (hb3.mono (by first | exact Nat.le_refl _ | (simp; done) | (simp; omega) | omega))) | (refine Below.trans ?_ (hb2.mono (by first | exact Nat.le_refl _ | (simp; done) | (simp; omega) | omega))) | (refine Below.trans ?_ (hb1.mono (by first | exact Nat.le_refl _ | (simp; done) | (simp; omega) | omega))))))

set_option maxRecDepth 100000 in
theorem spf_p3 (s : ByteArray) (b : List UInt8) (w : World) (hl : s.size ≤ 1048576) (hb : Lib.trimPrefix s.data.toList [45] = b) (hn : Lib.hasPrefix s.data.toList [45] = false) (h0 : 0 < s.size) (H T : List UInt8) (k : Nat) (hkl : k ≤ 1048576) (hL : ∃ x y L, spl 47 [] b = H :: x :: y :: L ∧ L.length = k) (hc : Lib.cut b [47] = (H, T, true)) (hT : svB T = false) :
    Calls Tryd.prog 23 #[.string s] w (PfAns (pfR svB s.data.toList) w) := by
  have R : Hid (pfR svB s.data.toList = none) := Lib.hid (pfR_none (by rw [cand_of hb hn hc, hT]; simp))
  obtain ⟨LH, LT⟩ := cut_len hc
  have BL0 : b.length ≤ 1048576 := by have := trim_len hb; rw [len_str] at this; omega
  clear hT hc
  have BL : b.length ≤ 1048576 := by have := trim_len hb; rw [len_str] at this; omega
  have T0 := pos_facts s b hn hb h0
  have HE : Hid (s.data.toList = b) := Lib.hid (pos_same _ _ hn hb)
  have HL := Lib.hid hL
  clear hL hb hn
  go_enter Tryd.func23, Tryd.ntmps23
  go_wp2_with fail
  refine (sp_3 s b H k HE.out BL HL.out _).mono ?_
  rintro e w1 ⟨g, c, rfl, hg1, hg2, hb1, hp0⟩
  obtain ⟨hc1, hf1⟩ := bcell hb1; have hz1 := hb1.size; (try simp at hz1); (try have hk1_0w : w.heap.size < w1.heap.size := by omega); (try have hk1_1w : w.heap.size + 1 < w1.heap.size := by omega); (try have hk1_2w : w.heap.size + 2 < w1.heap.size := by omega)
  have hs1 : w.heap.size < w.heap.size + 1 := by omega
  (try simp at hg1)
  have hgw : g < w1.heap.size + 1 := by omega
  have hww : w.heap.size < w1.heap.size + 1 := by omega
  have hwn : w.heap.size ≠ w1.heap.size := by omega
  have hgn : g ≠ w1.heap.size := by omega
  have hgm : g ≠ w.heap.size := by omega
  go_wp2_with fail
  refine (sv_x H (by omega) _).mono ?_
  rintro e w' ⟨x, hx, rfl, rfl⟩
  go_wp2_with fail
  exact bodyPost_ret (v := .tuple #[.agg #[.int .i64 0, .int .i64 0], .int .i64 6]) (by simp [results, Tryd.results23, go_sem, *]) rfl (PfAns.no R.out (by repeat (first | exact Below.refl _ _ | apply below_drewN | apply Below.drew | (refine Below.setCell ?_ (by first | (simp; done) | (simp; omega) | omega) _) | (refine Below.alloc ?_ (by first | exact Nat.le_refl _ | (simp; done) | (simp; omega) | omega) _) | (refine Below.trans ?_ (hb1.mono (by first | exact Nat.le_refl _ | (simp; done) | (simp; omega) | omega))))))
end Go.Proofs.YtbipihamkfifjaaDoor
