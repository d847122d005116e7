/- The model's text of a polynomial: contract of spec.l02Text. Conditions: stated at the theorem. -/
import Derived.Test.YtbipihamkfifjabDoorTxM
import Derived.Test.YtbipihamkfifjabDoorPolyIs
import Derived.Laws.DeepStrings4
namespace Go.Proofs.YtbipihamkfifjabDoor
open Go.ChangeShapes Go.WideShapes Go.ChangeAt Go.RowKit
set_option linter.unusedVariables false

theorem addV (a b c : ByteArray) (x y : List UInt8) (ha : a = ⟨x.toArray⟩) (hb : b = ⟨y.toArray⟩) (hc : c = ⟨(x ++ y).toArray⟩) (hx : x.length ≤ 1000000) (hy : y.length ≤ 1000000) (W : World) :
    (Op.stringOp .add a b).run Tryd.prog W = .ok (.string c) W := by
  subst ha; subst hb; subst hc; exact add_lists x y hx hy W
theorem dec_v (u : Nat) (d : ByteArray) (hd : d = ⟨(Lib.decDigits u).toArray⟩) (w : World) (hu : u ≤ 2000) :
    Calls Tryd.prog 21 #[.int .i64 (u : Int)] w fun e w' => e = .returned (.string d) ∧ Below w.heap.size w w' := by
  subst hd; exact l01Dec_any (u + 1) u w (by omega) (by omega)
theorem dec_y (y : Int) (u : Nat) (d : ByteArray) (hd : d = ⟨(Lib.decDigits u).toArray⟩) (w : World) (hy : y = (u : Int)) (hu : u ≤ 2000) :
    Calls Tryd.prog 21 #[.int .i64 y] w fun e w' => e = .returned (.string d) ∧ Below w.heap.size w w' := by
  subst hy; exact dec_v u d hd w hu
theorem sg_v (n : Int) (d : ByteArray) (hd : d = ⟨(Lib.itoa n).toArray⟩) (w : World) (h : -1000000000000 ≤ n ∧ n ≤ 1000000000000) :
    Calls Tryd.prog 22 #[.int .i64 n] w fun e w' => e = .returned (.string d) ∧ Below w.heap.size w w' := by
  subst hd; exact l01Signed_any n w (by omega) (by omega)
theorem str_v {T : ByteArray} {l : List UInt8} (h : T.data.toList = l) : Ending.returned (.string T) = .returned (.string ⟨l.toArray⟩) := by subst h; rfl
theorem ba_list {T : ByteArray} {l : List UInt8} (h : T = ⟨l.toArray⟩) : T.data.toList = l := by subst h; simp
theorem ba_size {T : ByteArray} {l : List UInt8} (h : T = ⟨l.toArray⟩) : T.size = l.length := by subst h; show l.toArray.size = _; simp
theorem head_v {T : ByteArray} {d : UInt8} {l : List UInt8} (h : T = ⟨(d :: l).toArray⟩) : ∃ h0 : 0 < T.size, T[0].toNat = d.toNat := by
  subst h; exact ⟨by show 0 < (d :: l).toArray.size; simp, rfl⟩
/-- The first byte of a term. -/
theorem first_v {T : ByteArray} {z : Int} {j : Nat} (h : T = ⟨(termL z j).toArray⟩) (hz : z ≠ 0) :
    ∃ h0 : 0 < T.size, ((T[0].toNat : Int) != 45) = decide (0 < z) ∧ ((T[0].toNat : Int) == 45) = !decide (0 < z) := by
  obtain ⟨d, l, e, hd⟩ := termL_head z j hz
  rw [e] at h
  obtain ⟨h0, h1⟩ := head_v h
  refine ⟨h0, ?_⟩
  rw [h1]
  by_cases hp : 0 < z
  · have : d ≠ 45 := fun h => (hd.1 h) hp
    have h2 : d.toNat ≠ 45 := fun e => this (UInt8.toNat_inj.1 e)
    rw [decide_eq_true hp]
    exact ⟨by simp; omega, by simp; omega⟩
  · have : d = 45 := hd.2 hp
    subst this
    rw [decide_eq_false hp]
    exact ⟨rfl, rfl⟩
theorem emp_v {T : ByteArray} (h : T.size = 0) : T.toList = [] ∧ T.data.toList = [] := by
  have : T.data.toList = [] := List.length_eq_zero_iff.1 (by simpa using h)
  exact ⟨by rw [ByteArray.toList_eq]; exact this, this⟩
theorem nemp_v {T : ByteArray} (h : T.size ≠ 0) : T.toList ≠ [] ∧ T.data.toList ≠ [] := by
  have : T.data.toList ≠ [] := fun e => h (by have := congrArg List.length e; simpa using this)
  exact ⟨by rw [ByteArray.toList_eq]; exact this, this⟩
theorem add0 (a : Addr) : a.add 0 = a := by unfold Addr.add; split <;> simp_all
theorem trim_ne2 {p : List Int} {n : Nat} (hl : p.length = n + 1) (h : polyB p = true) : p[n]?.getD 0 ≠ 0 := by
  have h1 := polyB_end h
  rw [end_some hl (by omega)] at h1
  simpa using h1

set_option maxHeartbeats 1500000 in
set_option maxRecDepth 100000 in
theorem l02Text_any (v : Value) (p : List Int) (w : World) (h : ReadI w w.heap.size v p) (hn : p.length ≤ 2001) (hco : ∀ k, -1000000000000 ≤ p.getD k 0 ∧ p.getD k 0 ≤ 1000000000000) :
    Calls Tryd.prog 14 #[v] w fun e w' => e = .returned (.string ⟨(polyT p).toArray⟩) ∧ Below w.heap.size w w' := by
  obtain ⟨n, A, c, rfl, hr, HL⟩ := h.split
  rw [HL.out] at hn
  have PC := Lib.hid hco
  have HR := Lib.hid hr
  clear h hr hco
  go_enter Tryd.func14, Tryd.ntmps14
  go_wp2
  go_loopw [3, 4] (fun vs vi wr => ∃ (k : Nat) (T : ByteArray), k ≤ n ∧ vs = .string T ∧ vi = .int .i64 ((k : Int) - 1) ∧ Hid (txtL p n [] = txtL p k T.data.toList) ∧ Hid (T.size ≤ 43 * (n - k)) ∧ Below w.heap.size w wr) (fun _ vi _ => (intOf vi + 1).toNat)
  case atStart => exact ⟨n, ⟨#[]⟩, by omega, rfl, by first | rfl | go_num, Lib.hid rfl, Lib.hid (by show (0 : Nat) ≤ _; omega), Below.refl _ _⟩
  case round =>
    obtain ⟨k, T, hk, rfl, rfl, hg, hlen, hb⟩ := hrel
    have hsz := hb.size
    by_cases h0 : 0 < k
    rotate_left
    · obtain rfl : k = 0 := by omega
      by_cases hT : T.size = 0
      · have e := emp_v hT
        have R : Hid (polyT p = [48]) := Lib.hid (by unfold polyT; rw [HL.out, hg.out, txtL_zero, if_pos e.2])
        have X1 : (T.toList == []) = true := by rw [e.1]; rfl
        have X2 : (T.toList != []) = false := by rw [e.1]; rfl
        clear hg e hT
        go_wp2
        go_ret
        exact ⟨str_v (T := ⟨#[48]⟩) R.out.symm, hb⟩
      · have e := nemp_v hT
        have R : Hid (T.data.toList = polyT p) := Lib.hid (by unfold polyT; rw [HL.out, hg.out, txtL_zero, if_neg e.2])
        have X1 : (T.toList == []) = false := by simpa using e.1
        have X2 : (T.toList != []) = true := by simpa using e.1
        clear hg e hT
        go_wp2
        go_ret
        exact ⟨str_v R.out, hb⟩
    obtain ⟨j, rfl⟩ : ∃ j, k = j + 1 := ⟨k - 1, by omega⟩
    obtain ⟨a, rfl, _, hcell⟩ := (HR.out.below hb).2 j (by omega)
    rw [getD_opt] at hcell
    have hc := PC.out j
    rw [getD_opt] at hc
    have hj1 : (((j + 1 : Nat) : Int) - 1) = (j : Int) := by omega
    have hl1 := hlen.out
    have hl2 : T.size ≤ 90000 := by omega
    have hl3 : T.data.toList.length ≤ 90000 := by simpa using hl2
    rw [hj1]
    generalize hz : p[j]?.getD 0 = z at hcell hc
    have HZ := Lib.hid hz
    clear hz hj1 hl1
    by_cases hz0 : z = 0
    · have G : Hid (txtL p n [] = txtL p j T.data.toList) := Lib.hid (by rw [hg.out, txtL_succ, txtStep, HZ.out, if_pos hz0])
      have Z0 : (z == 0) = true := by simp [hz0]
      clear hz0 hg
      go_wp2
      go_roundw
      case rel => first | exact ⟨j, T, by omega, rfl, rfl, G, Lib.hid (by have := hlen.out; omega), hb⟩ | ((repeat apply Exists.intro); exact ⟨⟨j, T, by omega, rfl, rfl, G, Lib.hid (by have := hlen.out; omega), hb⟩, rfl⟩)
      case measure => first | (simp [intOf]; done) | (simp [intOf]; omega)
    have Z0 : (z == 0) = false := by simp [hz0]
    have tl := termL_len hc (show j ≤ 2000 by omega)
    have il : (Lib.itoa z).length ≤ 20 := itoa_len (by omega) (by omega)
    have dl : (Lib.decDigits j).length ≤ 20 := by have := dec_len20 (u := j) (by omega); omega
    obtain ⟨td, htd⟩ : ∃ td : ByteArray, td = ⟨(Lib.decDigits j).toArray⟩ := ⟨_, rfl⟩
    obtain ⟨ts0, hts0⟩ : ∃ ts0 : ByteArray, ts0 = ⟨(116 :: 94 :: Lib.decDigits j).toArray⟩ := ⟨_, rfl⟩
    have a0 := fun W => addV ⟨#[116, 94]⟩ td ts0 [116, 94] (Lib.decDigits j) rfl htd hts0 (by simp) (by omega) W
    have pw : j ≠ 1 → powL j = 116 :: 94 :: Lib.decDigits j := fun h => by rw [powL, if_neg h, Lib.itoa_nonneg]
    have HTD := Lib.hid htd
    clear htd
    by_cases hT : T.size = 0
    · by_cases hj0 : j = 0
      · have hj := hj0
        by_cases hp : 0 < z
        · have e := emp_v hT
          have X1 : (T.toList == []) = true := by rw [e.1]; rfl
          have X2 : (T.toList != []) = false := by rw [e.1]; rfl
          have X3 := e.1
          have hca : wr.cell? a = some (.int .i64 z) := by rw [hj, add0] at hcell; exact hcell
          have K0 : ((j : Int) == 0) = true := by simp [hj]
          have K1 : ((j : Int) == 1) = false := by simp [hj]
          obtain ⟨ts, hts⟩ : ∃ ts : ByteArray, ts = ⟨(Lib.itoa z).toArray⟩ := ⟨_, rfl⟩
          have hts2 : ts = ⟨(termL z j).toArray⟩ := by rw [hts, show termL z j = Lib.itoa z from by rw [termL, if_pos hj]]
          have HTS := Lib.hid hts
          obtain ⟨h00, N1, N2⟩ := first_v hts2 hz0
          rw [decide_eq_true (show 0 < z by omega)] at N1 N2
          obtain ⟨T2, hT2⟩ : ∃ T2 : ByteArray, T2 = ⟨(T.data.toList ++ termL z j).toArray⟩ := ⟨_, rfl⟩
          have a3 := fun W => addV T ts T2 T.data.toList (termL z j) rfl hts2 hT2 (by omega) (by omega) W
          have hS2 : T2.size ≤ T.size + 43 := by rw [ba_size hT2]; simp; omega
          have G : Hid (txtL p n [] = txtL p j T2.data.toList) := Lib.hid (by rw [hg.out, txtL_succ, txtStep, HZ.out, if_neg hz0, if_neg (fun h => h.2 e.2), ba_list hT2]; simp)
          have J0 := Lib.hid hj
          have HZ1 : True := trivial
          clear hts0 pw hts2 hT2 e hT hz0 hg hts hj
          go_wp2_with fail
          refine (dec_y _ j td HTD.out _ (by first | rfl | (have := J0.out; omega)) (by omega)).mono ?_
          rintro e w1 ⟨rfl, hb1⟩
          have hz1 := hb1.size
          have hb01 : Below w.heap.size w w1 := hb.trans (hb1.mono (by omega))
          obtain ⟨a1', ha1, _, hcell1⟩ := (HR.out.below hb01).2 j (by omega)
          obtain rfl := Option.some.inj ha1
          rw [getD_opt, HZ.out] at hcell1
          have hca1 : w1.cell? a = some (.int .i64 z) := by rw [J0.out, add0] at hcell1; exact hcell1
          clear ha1
          go_wp2_with fail
          refine (sg_v z ts HTS.out _ hc).mono ?_
          rintro e w2 ⟨rfl, hb2⟩
          have hz2 := hb2.size
          have hb02 : Below w.heap.size w w2 := hb01.trans (hb2.mono (by omega))
          go_wp2_with fail
          go_roundw
          case rel => first | exact ⟨j, T2, by omega, rfl, (by first | rfl | exact congrArg (Value.int .i64) (by have := J0.out; omega)), G, Lib.hid (by have := hlen.out; omega), hb02⟩ | ((repeat apply Exists.intro); exact ⟨⟨j, T2, by omega, rfl, (by first | rfl | exact congrArg (Value.int .i64) (by have := J0.out; omega)), G, Lib.hid (by have := hlen.out; omega), hb02⟩, rfl⟩)
          case measure => first | (simp [intOf]; done) | (simp [intOf]; omega)
        · have e := emp_v hT
          have X1 : (T.toList == []) = true := by rw [e.1]; rfl
          have X2 : (T.toList != []) = false := by rw [e.1]; rfl
          have X3 := e.1
          have hca : wr.cell? a = some (.int .i64 z) := by rw [hj, add0] at hcell; exact hcell
          have K0 : ((j : Int) == 0) = true := by simp [hj]
          have K1 : ((j : Int) == 1) = false := by simp [hj]
          obtain ⟨ts, hts⟩ : ∃ ts : ByteArray, ts = ⟨(Lib.itoa z).toArray⟩ := ⟨_, rfl⟩
          have hts2 : ts = ⟨(termL z j).toArray⟩ := by rw [hts, show termL z j = Lib.itoa z from by rw [termL, if_pos hj]]
          have HTS := Lib.hid hts
          obtain ⟨h00, N1, N2⟩ := first_v hts2 hz0
          rw [decide_eq_false (show ¬ 0 < z by omega)] at N1 N2
          obtain ⟨T2, hT2⟩ : ∃ T2 : ByteArray, T2 = ⟨(T.data.toList ++ termL z j).toArray⟩ := ⟨_, rfl⟩
          have a3 := fun W => addV T ts T2 T.data.toList (termL z j) rfl hts2 hT2 (by omega) (by omega) W
          have hS2 : T2.size ≤ T.size + 43 := by rw [ba_size hT2]; simp; omega
          have G : Hid (txtL p n [] = txtL p j T2.data.toList) := Lib.hid (by rw [hg.out, txtL_succ, txtStep, HZ.out, if_neg hz0, if_neg (fun h => h.2 e.2), ba_list hT2]; simp)
          have J0 := Lib.hid hj
          have HZ1 : True := trivial
          clear hts0 pw hts2 hT2 e hT hz0 hg hts hj
          go_wp2_with fail
          refine (dec_y _ j td HTD.out _ (by first | rfl | (have := J0.out; omega)) (by omega)).mono ?_
          rintro e w1 ⟨rfl, hb1⟩
          have hz1 := hb1.size
          have hb01 : Below w.heap.size w w1 := hb.trans (hb1.mono (by omega))
          obtain ⟨a1', ha1, _, hcell1⟩ := (HR.out.below hb01).2 j (by omega)
          obtain rfl := Option.some.inj ha1
          rw [getD_opt, HZ.out] at hcell1
          have hca1 : w1.cell? a = some (.int .i64 z) := by rw [J0.out, add0] at hcell1; exact hcell1
          clear ha1
          go_wp2_with fail
          refine (sg_v z ts HTS.out _ hc).mono ?_
          rintro e w2 ⟨rfl, hb2⟩
          have hz2 := hb2.size
          have hb02 : Below w.heap.size w w2 := hb01.trans (hb2.mono (by omega))
          go_wp2_with fail
          go_roundw
          case rel => first | exact ⟨j, T2, by omega, rfl, (by first | rfl | exact congrArg (Value.int .i64) (by have := J0.out; omega)), G, Lib.hid (by have := hlen.out; omega), hb02⟩ | ((repeat apply Exists.intro); exact ⟨⟨j, T2, by omega, rfl, (by first | rfl | exact congrArg (Value.int .i64) (by have := J0.out; omega)), G, Lib.hid (by have := hlen.out; omega), hb02⟩, rfl⟩)
          case measure => first | (simp [intOf]; done) | (simp [intOf]; omega)
      by_cases hj : j = 1
      · by_cases hz1 : z = 1
        · have e := emp_v hT
          have X1 : (T.toList == []) = true := by rw [e.1]; rfl
          have X2 : (T.toList != []) = false := by rw [e.1]; rfl
          have X3 := e.1
          have K0 : ((j : Int) == 0) = false := by simp; omega
          have K1 : ((j : Int) == 1) = true := by simp [hj]
          have C1 : (z == -1) = false := by simp [hz1]
          have C2 : (z != 1) = false := by simp [hz1]
          have C3 : (z == 1) = true := by simp [hz1]
          have hts2 : (⟨#[116]⟩ : ByteArray) = ⟨(termL z j).toArray⟩ := by rw [termL, if_neg (by omega), if_pos hz1, (show powL j = [116] by rw [powL, if_pos hj])]
          obtain ⟨h00, N1, N2⟩ := first_v hts2 hz0
          rw [decide_eq_true (show 0 < z by omega)] at N1 N2
          obtain ⟨T2, hT2⟩ : ∃ T2 : ByteArray, T2 = ⟨(T.data.toList ++ termL z j).toArray⟩ := ⟨_, rfl⟩
          have a3 := fun W => addV T ⟨#[116]⟩ T2 T.data.toList (termL z j) rfl hts2 hT2 (by omega) (by omega) W
          have hS2 : T2.size ≤ T.size + 43 := by rw [ba_size hT2]; simp; omega
          have G : Hid (txtL p n [] = txtL p j T2.data.toList) := Lib.hid (by rw [hg.out, txtL_succ, txtStep, HZ.out, if_neg hz0, if_neg (fun h => h.2 e.2), ba_list hT2]; simp)
          have J0 := Lib.hid hj
          have HZ1 : True := trivial
          clear hts0 pw hts2 hT2 e hT hz0 hg hj hz1
          go_wp2_with fail
          refine (dec_y _ j td HTD.out _ (by first | rfl | (have := J0.out; omega)) (by omega)).mono ?_
          rintro e w1 ⟨rfl, hb1⟩
          have hz1 := hb1.size
          have hb01 : Below w.heap.size w w1 := hb.trans (hb1.mono (by omega))
          obtain ⟨a1', ha1, _, hcell1⟩ := (HR.out.below hb01).2 j (by omega)
          obtain rfl := Option.some.inj ha1
          rw [getD_opt, HZ.out] at hcell1
          clear ha1
          go_wp2_with fail
          go_roundw
          case rel => first | exact ⟨j, T2, by omega, rfl, (by first | rfl | exact congrArg (Value.int .i64) (by have := J0.out; omega)), G, Lib.hid (by have := hlen.out; omega), hb01⟩ | ((repeat apply Exists.intro); exact ⟨⟨j, T2, by omega, rfl, (by first | rfl | exact congrArg (Value.int .i64) (by have := J0.out; omega)), G, Lib.hid (by have := hlen.out; omega), hb01⟩, rfl⟩)
          case measure => first | (simp [intOf]; done) | (simp [intOf]; omega)
        by_cases hz1 : z = -1
        · have e := emp_v hT
          have X1 : (T.toList == []) = true := by rw [e.1]; rfl
          have X2 : (T.toList != []) = false := by rw [e.1]; rfl
          have X3 := e.1
          have K0 : ((j : Int) == 0) = false := by simp; omega
          have K1 : ((j : Int) == 1) = true := by simp [hj]
          have C1 : (z == -1) = true := by simp [hz1]
          obtain ⟨ts, hts⟩ : ∃ ts : ByteArray, ts = ⟨(([45] : List UInt8) ++ [116]).toArray⟩ := ⟨_, rfl⟩
          have a1 := fun W => addV ⟨#[45]⟩ ⟨#[116]⟩ ts [45] [116] rfl rfl hts (by simp) (by simp; try omega) W
          have hts2 : ts = ⟨(termL z j).toArray⟩ := by rw [hts, termL, if_neg (by omega), if_neg (by omega), if_pos hz1, (show powL j = [116] by rw [powL, if_pos hj])]; rfl
          obtain ⟨h00, N1, N2⟩ := first_v hts2 hz0
          rw [decide_eq_false (show ¬ 0 < z by omega)] at N1 N2
          obtain ⟨T2, hT2⟩ : ∃ T2 : ByteArray, T2 = ⟨(T.data.toList ++ termL z j).toArray⟩ := ⟨_, rfl⟩
          have a3 := fun W => addV T ts T2 T.data.toList (termL z j) rfl hts2 hT2 (by omega) (by omega) W
          have hS2 : T2.size ≤ T.size + 43 := by rw [ba_size hT2]; simp; omega
          have G : Hid (txtL p n [] = txtL p j T2.data.toList) := Lib.hid (by rw [hg.out, txtL_succ, txtStep, HZ.out, if_neg hz0, if_neg (fun h => h.2 e.2), ba_list hT2]; simp)
          have J0 := Lib.hid hj
          have HZ1 : True := trivial
          clear hts0 pw hts2 hT2 e hT hz0 hg hts hj hz1
          go_wp2_with fail
          refine (dec_y _ j td HTD.out _ (by first | rfl | (have := J0.out; omega)) (by omega)).mono ?_
          rintro e w1 ⟨rfl, hb1⟩
          have hz1 := hb1.size
          have hb01 : Below w.heap.size w w1 := hb.trans (hb1.mono (by omega))
          obtain ⟨a1', ha1, _, hcell1⟩ := (HR.out.below hb01).2 j (by omega)
          obtain rfl := Option.some.inj ha1
          rw [getD_opt, HZ.out] at hcell1
          clear ha1
          go_wp2_with fail
          go_roundw
          case rel => first | exact ⟨j, T2, by omega, rfl, (by first | rfl | exact congrArg (Value.int .i64) (by have := J0.out; omega)), G, Lib.hid (by have := hlen.out; omega), hb01⟩ | ((repeat apply Exists.intro); exact ⟨⟨j, T2, by omega, rfl, (by first | rfl | exact congrArg (Value.int .i64) (by have := J0.out; omega)), G, Lib.hid (by have := hlen.out; omega), hb01⟩, rfl⟩)
          case measure => first | (simp [intOf]; done) | (simp [intOf]; omega)
        by_cases hp : 0 < z
        · have e := emp_v hT
          have X1 : (T.toList == []) = true := by rw [e.1]; rfl
          have X2 : (T.toList != []) = false := by rw [e.1]; rfl
          have X3 := e.1
          have K0 : ((j : Int) == 0) = false := by simp; omega
          have K1 : ((j : Int) == 1) = true := by simp [hj]
          have C1 : (z == -1) = false := by simp; omega
          have C2 : (z != 1) = true := by simp; omega
          have C3 : (z == 1) = false := by simp; omega
          obtain ⟨ti, hti⟩ : ∃ ti : ByteArray, ti = ⟨(Lib.itoa z).toArray⟩ := ⟨_, rfl⟩
          obtain ⟨ts, hts⟩ : ∃ ts : ByteArray, ts = ⟨(Lib.itoa z ++ [116]).toArray⟩ := ⟨_, rfl⟩
          have a1 := fun W => addV ti ⟨#[116]⟩ ts (Lib.itoa z) [116] hti rfl hts (by omega) (by simp; try omega) W
          have hts2 : ts = ⟨(termL z j).toArray⟩ := by rw [hts, termL, if_neg (by omega), if_neg (by omega), if_neg (by omega), (show powL j = [116] by rw [powL, if_pos hj])]
          have HTI := Lib.hid hti
          clear hti
          obtain ⟨h00, N1, N2⟩ := first_v hts2 hz0
          rw [decide_eq_true (show 0 < z by omega)] at N1 N2
          obtain ⟨T2, hT2⟩ : ∃ T2 : ByteArray, T2 = ⟨(T.data.toList ++ termL z j).toArray⟩ := ⟨_, rfl⟩
          have a3 := fun W => addV T ts T2 T.data.toList (termL z j) rfl hts2 hT2 (by omega) (by omega) W
          have hS2 : T2.size ≤ T.size + 43 := by rw [ba_size hT2]; simp; omega
          have G : Hid (txtL p n [] = txtL p j T2.data.toList) := Lib.hid (by rw [hg.out, txtL_succ, txtStep, HZ.out, if_neg hz0, if_neg (fun h => h.2 e.2), ba_list hT2]; simp)
          have J0 := Lib.hid hj
          have HZ1 : True := trivial
          clear hts0 pw hts2 hT2 e hT hz0 hg hts hj
          go_wp2_with fail
          refine (dec_y _ j td HTD.out _ (by first | rfl | (have := J0.out; omega)) (by omega)).mono ?_
          rintro e w1 ⟨rfl, hb1⟩
          have hz1 := hb1.size
          have hb01 : Below w.heap.size w w1 := hb.trans (hb1.mono (by omega))
          obtain ⟨a1', ha1, _, hcell1⟩ := (HR.out.below hb01).2 j (by omega)
          obtain rfl := Option.some.inj ha1
          rw [getD_opt, HZ.out] at hcell1
          clear ha1
          go_wp2_with fail
          refine (sg_v z ti HTI.out _ hc).mono ?_
          rintro e w2 ⟨rfl, hb2⟩
          have hz2 := hb2.size
          have hb02 : Below w.heap.size w w2 := hb01.trans (hb2.mono (by omega))
          go_wp2_with fail
          go_roundw
          case rel => first | exact ⟨j, T2, by omega, rfl, (by first | rfl | exact congrArg (Value.int .i64) (by have := J0.out; omega)), G, Lib.hid (by have := hlen.out; omega), hb02⟩ | ((repeat apply Exists.intro); exact ⟨⟨j, T2, by omega, rfl, (by first | rfl | exact congrArg (Value.int .i64) (by have := J0.out; omega)), G, Lib.hid (by have := hlen.out; omega), hb02⟩, rfl⟩)
          case measure => first | (simp [intOf]; done) | (simp [intOf]; omega)
        · have e := emp_v hT
          have X1 : (T.toList == []) = true := by rw [e.1]; rfl
          have X2 : (T.toList != []) = false := by rw [e.1]; rfl
          have X3 := e.1
          have K0 : ((j : Int) == 0) = false := by simp; omega
          have K1 : ((j : Int) == 1) = true := by simp [hj]
          have C1 : (z == -1) = false := by simp; omega
          have C2 : (z != 1) = true := by simp; omega
          have C3 : (z == 1) = false := by simp; omega
          obtain ⟨ti, hti⟩ : ∃ ti : ByteArray, ti = ⟨(Lib.itoa z).toArray⟩ := ⟨_, rfl⟩
          obtain ⟨ts, hts⟩ : ∃ ts : ByteArray, ts = ⟨(Lib.itoa z ++ [116]).toArray⟩ := ⟨_, rfl⟩
          have a1 := fun W => addV ti ⟨#[116]⟩ ts (Lib.itoa z) [116] hti rfl hts (by omega) (by simp; try omega) W
          have hts2 : ts = ⟨(termL z j).toArray⟩ := by rw [hts, termL, if_neg (by omega), if_neg (by omega), if_neg (by omega), (show powL j = [116] by rw [powL, if_pos hj])]
          have HTI := Lib.hid hti
          clear hti
          obtain ⟨h00, N1, N2⟩ := first_v hts2 hz0
          rw [decide_eq_false (show ¬ 0 < z by omega)] at N1 N2
          obtain ⟨T2, hT2⟩ : ∃ T2 : ByteArray, T2 = ⟨(T.data.toList ++ termL z j).toArray⟩ := ⟨_, rfl⟩
          have a3 := fun W => addV T ts T2 T.data.toList (termL z j) rfl hts2 hT2 (by omega) (by omega) W
          have hS2 : T2.size ≤ T.size + 43 := by rw [ba_size hT2]; simp; omega
          have G : Hid (txtL p n [] = txtL p j T2.data.toList) := Lib.hid (by rw [hg.out, txtL_succ, txtStep, HZ.out, if_neg hz0, if_neg (fun h => h.2 e.2), ba_list hT2]; simp)
          have J0 := Lib.hid hj
          have HZ1 : True := trivial
          clear hts0 pw hts2 hT2 e hT hz0 hg hts hj
          go_wp2_with fail
          refine (dec_y _ j td HTD.out _ (by first | rfl | (have := J0.out; omega)) (by omega)).mono ?_
          rintro e w1 ⟨rfl, hb1⟩
          have hz1 := hb1.size
          have hb01 : Below w.heap.size w w1 := hb.trans (hb1.mono (by omega))
          obtain ⟨a1', ha1, _, hcell1⟩ := (HR.out.below hb01).2 j (by omega)
          obtain rfl := Option.some.inj ha1
          rw [getD_opt, HZ.out] at hcell1
          clear ha1
          go_wp2_with fail
          refine (sg_v z ti HTI.out _ hc).mono ?_
          rintro e w2 ⟨rfl, hb2⟩
          have hz2 := hb2.size
          have hb02 : Below w.heap.size w w2 := hb01.trans (hb2.mono (by omega))
          go_wp2_with fail
          go_roundw
          case rel => first | exact ⟨j, T2, by omega, rfl, (by first | rfl | exact congrArg (Value.int .i64) (by have := J0.out; omega)), G, Lib.hid (by have := hlen.out; omega), hb02⟩ | ((repeat apply Exists.intro); exact ⟨⟨j, T2, by omega, rfl, (by first | rfl | exact congrArg (Value.int .i64) (by have := J0.out; omega)), G, Lib.hid (by have := hlen.out; omega), hb02⟩, rfl⟩)
          case measure => first | (simp [intOf]; done) | (simp [intOf]; omega)
      · by_cases hz1 : z = 1
        · have e := emp_v hT
          have X1 : (T.toList == []) = true := by rw [e.1]; rfl
          have X2 : (T.toList != []) = false := by rw [e.1]; rfl
          have X3 := e.1
          have K0 : ((j : Int) == 0) = false := by simp; omega
          have K1 : ((j : Int) == 1) = false := by simp; omega
          have C1 : (z == -1) = false := by simp [hz1]
          have C2 : (z != 1) = false := by simp [hz1]
          have C3 : (z == 1) = true := by simp [hz1]
          have hts2 : (ts0 : ByteArray) = ⟨(termL z j).toArray⟩ := by rw [termL, if_neg (by omega), if_pos hz1, (pw (by omega))]; exact hts0
          obtain ⟨h00, N1, N2⟩ := first_v hts2 hz0
          rw [decide_eq_true (show 0 < z by omega)] at N1 N2
          obtain ⟨T2, hT2⟩ : ∃ T2 : ByteArray, T2 = ⟨(T.data.toList ++ termL z j).toArray⟩ := ⟨_, rfl⟩
          have a3 := fun W => addV T ts0 T2 T.data.toList (termL z j) rfl hts2 hT2 (by omega) (by omega) W
          have hS2 : T2.size ≤ T.size + 43 := by rw [ba_size hT2]; simp; omega
          have G : Hid (txtL p n [] = txtL p j T2.data.toList) := Lib.hid (by rw [hg.out, txtL_succ, txtStep, HZ.out, if_neg hz0, if_neg (fun h => h.2 e.2), ba_list hT2]; simp)
          have HZ1 : True := trivial
          clear hts0 pw hts2 hT2 e hT hz0 hg hz1
          go_wp2_with fail
          refine (dec_y _ j td HTD.out _ (by first | rfl | (have := J0.out; omega)) (by omega)).mono ?_
          rintro e w1 ⟨rfl, hb1⟩
          have hz1 := hb1.size
          have hb01 : Below w.heap.size w w1 := hb.trans (hb1.mono (by omega))
          obtain ⟨a1', ha1, _, hcell1⟩ := (HR.out.below hb01).2 j (by omega)
          obtain rfl := Option.some.inj ha1
          rw [getD_opt, HZ.out] at hcell1
          clear ha1
          go_wp2_with fail
          go_roundw
          case rel => first | exact ⟨j, T2, by omega, rfl, rfl, G, Lib.hid (by have := hlen.out; omega), hb01⟩ | ((repeat apply Exists.intro); exact ⟨⟨j, T2, by omega, rfl, rfl, G, Lib.hid (by have := hlen.out; omega), hb01⟩, rfl⟩)
          case measure => first | (simp [intOf]; done) | (simp [intOf]; omega)
        by_cases hz1 : z = -1
        · have e := emp_v hT
          have X1 : (T.toList == []) = true := by rw [e.1]; rfl
          have X2 : (T.toList != []) = false := by rw [e.1]; rfl
          have X3 := e.1
          have K0 : ((j : Int) == 0) = false := by simp; omega
          have K1 : ((j : Int) == 1) = false := by simp; omega
          have C1 : (z == -1) = true := by simp [hz1]
          obtain ⟨ts, hts⟩ : ∃ ts : ByteArray, ts = ⟨(([45] : List UInt8) ++ (116 :: 94 :: Lib.decDigits j)).toArray⟩ := ⟨_, rfl⟩
          have a1 := fun W => addV ⟨#[45]⟩ ts0 ts [45] (116 :: 94 :: Lib.decDigits j) rfl hts0 hts (by simp) (by simp; try omega) W
          have hts2 : ts = ⟨(termL z j).toArray⟩ := by rw [hts, termL, if_neg (by omega), if_neg (by omega), if_pos hz1, (pw (by omega))]; rfl
          obtain ⟨h00, N1, N2⟩ := first_v hts2 hz0
          rw [decide_eq_false (show ¬ 0 < z by omega)] at N1 N2
          obtain ⟨T2, hT2⟩ : ∃ T2 : ByteArray, T2 = ⟨(T.data.toList ++ termL z j).toArray⟩ := ⟨_, rfl⟩
          have a3 := fun W => addV T ts T2 T.data.toList (termL z j) rfl hts2 hT2 (by omega) (by omega) W
          have hS2 : T2.size ≤ T.size + 43 := by rw [ba_size hT2]; simp; omega
          have G : Hid (txtL p n [] = txtL p j T2.data.toList) := Lib.hid (by rw [hg.out, txtL_succ, txtStep, HZ.out, if_neg hz0, if_neg (fun h => h.2 e.2), ba_list hT2]; simp)
          have HZ1 : True := trivial
          clear hts0 pw hts2 hT2 e hT hz0 hg hts hz1
          go_wp2_with fail
          refine (dec_y _ j td HTD.out _ (by first | rfl | (have := J0.out; omega)) (by omega)).mono ?_
          rintro e w1 ⟨rfl, hb1⟩
          have hz1 := hb1.size
          have hb01 : Below w.heap.size w w1 := hb.trans (hb1.mono (by omega))
          obtain ⟨a1', ha1, _, hcell1⟩ := (HR.out.below hb01).2 j (by omega)
          obtain rfl := Option.some.inj ha1
          rw [getD_opt, HZ.out] at hcell1
          clear ha1
          go_wp2_with fail
          go_roundw
          case rel => first | exact ⟨j, T2, by omega, rfl, rfl, G, Lib.hid (by have := hlen.out; omega), hb01⟩ | ((repeat apply Exists.intro); exact ⟨⟨j, T2, by omega, rfl, rfl, G, Lib.hid (by have := hlen.out; omega), hb01⟩, rfl⟩)
          case measure => first | (simp [intOf]; done) | (simp [intOf]; omega)
        by_cases hp : 0 < z
        · have e := emp_v hT
          have X1 : (T.toList == []) = true := by rw [e.1]; rfl
          have X2 : (T.toList != []) = false := by rw [e.1]; rfl
          have X3 := e.1
          have K0 : ((j : Int) == 0) = false := by simp; omega
          have K1 : ((j : Int) == 1) = false := by simp; omega
          have C1 : (z == -1) = false := by simp; omega
          have C2 : (z != 1) = true := by simp; omega
          have C3 : (z == 1) = false := by simp; omega
          obtain ⟨ti, hti⟩ : ∃ ti : ByteArray, ti = ⟨(Lib.itoa z).toArray⟩ := ⟨_, rfl⟩
          obtain ⟨ts, hts⟩ : ∃ ts : ByteArray, ts = ⟨(Lib.itoa z ++ (116 :: 94 :: Lib.decDigits j)).toArray⟩ := ⟨_, rfl⟩
          have a1 := fun W => addV ti ts0 ts (Lib.itoa z) (116 :: 94 :: Lib.decDigits j) hti hts0 hts (by omega) (by simp; try omega) W
          have hts2 : ts = ⟨(termL z j).toArray⟩ := by rw [hts, termL, if_neg (by omega), if_neg (by omega), if_neg (by omega), (pw (by omega))]
          have HTI := Lib.hid hti
          clear hti
          obtain ⟨h00, N1, N2⟩ := first_v hts2 hz0
          rw [decide_eq_true (show 0 < z by omega)] at N1 N2
          obtain ⟨T2, hT2⟩ : ∃ T2 : ByteArray, T2 = ⟨(T.data.toList ++ termL z j).toArray⟩ := ⟨_, rfl⟩
          have a3 := fun W => addV T ts T2 T.data.toList (termL z j) rfl hts2 hT2 (by omega) (by omega) W
          have hS2 : T2.size ≤ T.size + 43 := by rw [ba_size hT2]; simp; omega
          have G : Hid (txtL p n [] = txtL p j T2.data.toList) := Lib.hid (by rw [hg.out, txtL_succ, txtStep, HZ.out, if_neg hz0, if_neg (fun h => h.2 e.2), ba_list hT2]; simp)
          have HZ1 : True := trivial
          clear hts0 pw hts2 hT2 e hT hz0 hg hts
          go_wp2_with fail
          refine (dec_y _ j td HTD.out _ (by first | rfl | (have := J0.out; omega)) (by omega)).mono ?_
          rintro e w1 ⟨rfl, hb1⟩
          have hz1 := hb1.size
          have hb01 : Below w.heap.size w w1 := hb.trans (hb1.mono (by omega))
          obtain ⟨a1', ha1, _, hcell1⟩ := (HR.out.below hb01).2 j (by omega)
          obtain rfl := Option.some.inj ha1
          rw [getD_opt, HZ.out] at hcell1
          clear ha1
          go_wp2_with fail
          refine (sg_v z ti HTI.out _ hc).mono ?_
          rintro e w2 ⟨rfl, hb2⟩
          have hz2 := hb2.size
          have hb02 : Below w.heap.size w w2 := hb01.trans (hb2.mono (by omega))
          go_wp2_with fail
          go_roundw
          case rel => first | exact ⟨j, T2, by omega, rfl, rfl, G, Lib.hid (by have := hlen.out; omega), hb02⟩ | ((repeat apply Exists.intro); exact ⟨⟨j, T2, by omega, rfl, rfl, G, Lib.hid (by have := hlen.out; omega), hb02⟩, rfl⟩)
          case measure => first | (simp [intOf]; done) | (simp [intOf]; omega)
        · have e := emp_v hT
          have X1 : (T.toList == []) = true := by rw [e.1]; rfl
          have X2 : (T.toList != []) = false := by rw [e.1]; rfl
          have X3 := e.1
          have K0 : ((j : Int) == 0) = false := by simp; omega
          have K1 : ((j : Int) == 1) = false := by simp; omega
          have C1 : (z == -1) = false := by simp; omega
          have C2 : (z != 1) = true := by simp; omega
          have C3 : (z == 1) = false := by simp; omega
          obtain ⟨ti, hti⟩ : ∃ ti : ByteArray, ti = ⟨(Lib.itoa z).toArray⟩ := ⟨_, rfl⟩
          obtain ⟨ts, hts⟩ : ∃ ts : ByteArray, ts = ⟨(Lib.itoa z ++ (116 :: 94 :: Lib.decDigits j)).toArray⟩ := ⟨_, rfl⟩
          have a1 := fun W => addV ti ts0 ts (Lib.itoa z) (116 :: 94 :: Lib.decDigits j) hti hts0 hts (by omega) (by simp; try omega) W
          have hts2 : ts = ⟨(termL z j).toArray⟩ := by rw [hts, termL, if_neg (by omega), if_neg (by omega), if_neg (by omega), (pw (by omega))]
          have HTI := Lib.hid hti
          clear hti
          obtain ⟨h00, N1, N2⟩ := first_v hts2 hz0
          rw [decide_eq_false (show ¬ 0 < z by omega)] at N1 N2
          obtain ⟨T2, hT2⟩ : ∃ T2 : ByteArray, T2 = ⟨(T.data.toList ++ termL z j).toArray⟩ := ⟨_, rfl⟩
          have a3 := fun W => addV T ts T2 T.data.toList (termL z j) rfl hts2 hT2 (by omega) (by omega) W
          have hS2 : T2.size ≤ T.size + 43 := by rw [ba_size hT2]; simp; omega
          have G : Hid (txtL p n [] = txtL p j T2.data.toList) := Lib.hid (by rw [hg.out, txtL_succ, txtStep, HZ.out, if_neg hz0, if_neg (fun h => h.2 e.2), ba_list hT2]; simp)
          have HZ1 : True := trivial
          clear hts0 pw hts2 hT2 e hT hz0 hg hts
          go_wp2_with fail
          refine (dec_y _ j td HTD.out _ (by first | rfl | (have := J0.out; omega)) (by omega)).mono ?_
          rintro e w1 ⟨rfl, hb1⟩
          have hz1 := hb1.size
          have hb01 : Below w.heap.size w w1 := hb.trans (hb1.mono (by omega))
          obtain ⟨a1', ha1, _, hcell1⟩ := (HR.out.below hb01).2 j (by omega)
          obtain rfl := Option.some.inj ha1
          rw [getD_opt, HZ.out] at hcell1
          clear ha1
          go_wp2_with fail
          refine (sg_v z ti HTI.out _ hc).mono ?_
          rintro e w2 ⟨rfl, hb2⟩
          have hz2 := hb2.size
          have hb02 : Below w.heap.size w w2 := hb01.trans (hb2.mono (by omega))
          go_wp2_with fail
          go_roundw
          case rel => first | exact ⟨j, T2, by omega, rfl, rfl, G, Lib.hid (by have := hlen.out; omega), hb02⟩ | ((repeat apply Exists.intro); exact ⟨⟨j, T2, by omega, rfl, rfl, G, Lib.hid (by have := hlen.out; omega), hb02⟩, rfl⟩)
          case measure => first | (simp [intOf]; done) | (simp [intOf]; omega)
    · by_cases hj0 : j = 0
      · have hj := hj0
        by_cases hp : 0 < z
        · have e := nemp_v hT
          have X1 : (T.toList == []) = false := by simpa using e.1
          have X2 : (T.toList != []) = true := by simpa using e.1
          have hca : wr.cell? a = some (.int .i64 z) := by rw [hj, add0] at hcell; exact hcell
          have K0 : ((j : Int) == 0) = true := by simp [hj]
          have K1 : ((j : Int) == 1) = false := by simp [hj]
          obtain ⟨ts, hts⟩ : ∃ ts : ByteArray, ts = ⟨(Lib.itoa z).toArray⟩ := ⟨_, rfl⟩
          have hts2 : ts = ⟨(termL z j).toArray⟩ := by rw [hts, show termL z j = Lib.itoa z from by rw [termL, if_pos hj]]
          have HTS := Lib.hid hts
          obtain ⟨h00, N1, N2⟩ := first_v hts2 hz0
          rw [decide_eq_true (show 0 < z by omega)] at N1 N2
          obtain ⟨T1, hT1⟩ : ∃ T1 : ByteArray, T1 = ⟨(T.data.toList ++ [43]).toArray⟩ := ⟨_, rfl⟩
          have a2 := fun W => addV T ⟨#[43]⟩ T1 T.data.toList [43] rfl rfl hT1 (by omega) (by simp) W
          obtain ⟨T2, hT2⟩ : ∃ T2 : ByteArray, T2 = ⟨((T.data.toList ++ [43]) ++ termL z j).toArray⟩ := ⟨_, rfl⟩
          have a3 := fun W => addV T1 ts T2 (T.data.toList ++ [43]) (termL z j) hT1 hts2 hT2 (by simp; omega) (by omega) W
          have hS2 : T2.size ≤ T.size + 43 := by rw [ba_size hT2]; simp; omega
          have G : Hid (txtL p n [] = txtL p j T2.data.toList) := Lib.hid (by rw [hg.out, txtL_succ, txtStep, HZ.out, if_neg hz0, if_pos ⟨(by omega), e.2⟩, ba_list hT2])
          clear hT1
          have J0 := Lib.hid hj
          have HZ1 : True := trivial
          clear hts0 pw hts2 hT2 e hT hz0 hg hts hj
          go_wp2_with fail
          refine (dec_y _ j td HTD.out _ (by first | rfl | (have := J0.out; omega)) (by omega)).mono ?_
          rintro e w1 ⟨rfl, hb1⟩
          have hz1 := hb1.size
          have hb01 : Below w.heap.size w w1 := hb.trans (hb1.mono (by omega))
          obtain ⟨a1', ha1, _, hcell1⟩ := (HR.out.below hb01).2 j (by omega)
          obtain rfl := Option.some.inj ha1
          rw [getD_opt, HZ.out] at hcell1
          have hca1 : w1.cell? a = some (.int .i64 z) := by rw [J0.out, add0] at hcell1; exact hcell1
          clear ha1
          go_wp2_with fail
          refine (sg_v z ts HTS.out _ hc).mono ?_
          rintro e w2 ⟨rfl, hb2⟩
          have hz2 := hb2.size
          have hb02 : Below w.heap.size w w2 := hb01.trans (hb2.mono (by omega))
          go_wp2_with fail
          go_roundw
          case rel => first | exact ⟨j, T2, by omega, rfl, (by first | rfl | exact congrArg (Value.int .i64) (by have := J0.out; omega)), G, Lib.hid (by have := hlen.out; omega), hb02⟩ | ((repeat apply Exists.intro); exact ⟨⟨j, T2, by omega, rfl, (by first | rfl | exact congrArg (Value.int .i64) (by have := J0.out; omega)), G, Lib.hid (by have := hlen.out; omega), hb02⟩, rfl⟩)
          case measure => first | (simp [intOf]; done) | (simp [intOf]; omega)
        · have e := nemp_v hT
          have X1 : (T.toList == []) = false := by simpa using e.1
          have X2 : (T.toList != []) = true := by simpa using e.1
          have hca : wr.cell? a = some (.int .i64 z) := by rw [hj, add0] at hcell; exact hcell
          have K0 : ((j : Int) == 0) = true := by simp [hj]
          have K1 : ((j : Int) == 1) = false := by simp [hj]
          obtain ⟨ts, hts⟩ : ∃ ts : ByteArray, ts = ⟨(Lib.itoa z).toArray⟩ := ⟨_, rfl⟩
          have hts2 : ts = ⟨(termL z j).toArray⟩ := by rw [hts, show termL z j = Lib.itoa z from by rw [termL, if_pos hj]]
          have HTS := Lib.hid hts
          obtain ⟨h00, N1, N2⟩ := first_v hts2 hz0
          rw [decide_eq_false (show ¬ 0 < z by omega)] at N1 N2
          obtain ⟨T2, hT2⟩ : ∃ T2 : ByteArray, T2 = ⟨(T.data.toList ++ termL z j).toArray⟩ := ⟨_, rfl⟩
          have a3 := fun W => addV T ts T2 T.data.toList (termL z j) rfl hts2 hT2 (by omega) (by omega) W
          have hS2 : T2.size ≤ T.size + 43 := by rw [ba_size hT2]; simp; omega
          have G : Hid (txtL p n [] = txtL p j T2.data.toList) := Lib.hid (by rw [hg.out, txtL_succ, txtStep, HZ.out, if_neg hz0, if_neg (fun h => absurd h.1 (by omega)), ba_list hT2]; simp)
          have J0 := Lib.hid hj
          have HZ1 : True := trivial
          clear hts0 pw hts2 hT2 e hT hz0 hg hts hj
          go_wp2_with fail
          refine (dec_y _ j td HTD.out _ (by first | rfl | (have := J0.out; omega)) (by omega)).mono ?_
          rintro e w1 ⟨rfl, hb1⟩
          have hz1 := hb1.size
          have hb01 : Below w.heap.size w w1 := hb.trans (hb1.mono (by omega))
          obtain ⟨a1', ha1, _, hcell1⟩ := (HR.out.below hb01).2 j (by omega)
          obtain rfl := Option.some.inj ha1
          rw [getD_opt, HZ.out] at hcell1
          have hca1 : w1.cell? a = some (.int .i64 z) := by rw [J0.out, add0] at hcell1; exact hcell1
          clear ha1
          go_wp2_with fail
          refine (sg_v z ts HTS.out _ hc).mono ?_
          rintro e w2 ⟨rfl, hb2⟩
          have hz2 := hb2.size
          have hb02 : Below w.heap.size w w2 := hb01.trans (hb2.mono (by omega))
          go_wp2_with fail
          go_roundw
          case rel => first | exact ⟨j, T2, by omega, rfl, (by first | rfl | exact congrArg (Value.int .i64) (by have := J0.out; omega)), G, Lib.hid (by have := hlen.out; omega), hb02⟩ | ((repeat apply Exists.intro); exact ⟨⟨j, T2, by omega, rfl, (by first | rfl | exact congrArg (Value.int .i64) (by have := J0.out; omega)), G, Lib.hid (by have := hlen.out; omega), hb02⟩, rfl⟩)
          case measure => first | (simp [intOf]; done) | (simp [intOf]; omega)
      by_cases hj : j = 1
      · by_cases hz1 : z = 1
        · have e := nemp_v hT
          have X1 : (T.toList == []) = false := by simpa using e.1
          have X2 : (T.toList != []) = true := by simpa using e.1
          have K0 : ((j : Int) == 0) = false := by simp; omega
          have K1 : ((j : Int) == 1) = true := by simp [hj]
          have C1 : (z == -1) = false := by simp [hz1]
          have C2 : (z != 1) = false := by simp [hz1]
          have C3 : (z == 1) = true := by simp [hz1]
          have hts2 : (⟨#[116]⟩ : ByteArray) = ⟨(termL z j).toArray⟩ := by rw [termL, if_neg (by omega), if_pos hz1, (show powL j = [116] by rw [powL, if_pos hj])]
          obtain ⟨h00, N1, N2⟩ := first_v hts2 hz0
          rw [decide_eq_true (show 0 < z by omega)] at N1 N2
          obtain ⟨T1, hT1⟩ : ∃ T1 : ByteArray, T1 = ⟨(T.data.toList ++ [43]).toArray⟩ := ⟨_, rfl⟩
          have a2 := fun W => addV T ⟨#[43]⟩ T1 T.data.toList [43] rfl rfl hT1 (by omega) (by simp) W
          obtain ⟨T2, hT2⟩ : ∃ T2 : ByteArray, T2 = ⟨((T.data.toList ++ [43]) ++ termL z j).toArray⟩ := ⟨_, rfl⟩
          have a3 := fun W => addV T1 ⟨#[116]⟩ T2 (T.data.toList ++ [43]) (termL z j) hT1 hts2 hT2 (by simp; omega) (by omega) W
          have hS2 : T2.size ≤ T.size + 43 := by rw [ba_size hT2]; simp; omega
          have G : Hid (txtL p n [] = txtL p j T2.data.toList) := Lib.hid (by rw [hg.out, txtL_succ, txtStep, HZ.out, if_neg hz0, if_pos ⟨(by omega), e.2⟩, ba_list hT2])
          clear hT1
          have J0 := Lib.hid hj
          have HZ1 : True := trivial
          clear hts0 pw hts2 hT2 e hT hz0 hg hj hz1
          go_wp2_with fail
          refine (dec_y _ j td HTD.out _ (by first | rfl | (have := J0.out; omega)) (by omega)).mono ?_
          rintro e w1 ⟨rfl, hb1⟩
          have hz1 := hb1.size
          have hb01 : Below w.heap.size w w1 := hb.trans (hb1.mono (by omega))
          obtain ⟨a1', ha1, _, hcell1⟩ := (HR.out.below hb01).2 j (by omega)
          obtain rfl := Option.some.inj ha1
          rw [getD_opt, HZ.out] at hcell1
          clear ha1
          go_wp2_with fail
          go_roundw
          case rel => first | exact ⟨j, T2, by omega, rfl, (by first | rfl | exact congrArg (Value.int .i64) (by have := J0.out; omega)), G, Lib.hid (by have := hlen.out; omega), hb01⟩ | ((repeat apply Exists.intro); exact ⟨⟨j, T2, by omega, rfl, (by first | rfl | exact congrArg (Value.int .i64) (by have := J0.out; omega)), G, Lib.hid (by have := hlen.out; omega), hb01⟩, rfl⟩)
          case measure => first | (simp [intOf]; done) | (simp [intOf]; omega)
        by_cases hz1 : z = -1
        · have e := nemp_v hT
          have X1 : (T.toList == []) = false := by simpa using e.1
          have X2 : (T.toList != []) = true := by simpa using e.1
          have K0 : ((j : Int) == 0) = false := by simp; omega
          have K1 : ((j : Int) == 1) = true := by simp [hj]
          have C1 : (z == -1) = true := by simp [hz1]
          obtain ⟨ts, hts⟩ : ∃ ts : ByteArray, ts = ⟨(([45] : List UInt8) ++ [116]).toArray⟩ := ⟨_, rfl⟩
          have a1 := fun W => addV ⟨#[45]⟩ ⟨#[116]⟩ ts [45] [116] rfl rfl hts (by simp) (by simp; try omega) W
          have hts2 : ts = ⟨(termL z j).toArray⟩ := by rw [hts, termL, if_neg (by omega), if_neg (by omega), if_pos hz1, (show powL j = [116] by rw [powL, if_pos hj])]; rfl
          obtain ⟨h00, N1, N2⟩ := first_v hts2 hz0
          rw [decide_eq_false (show ¬ 0 < z by omega)] at N1 N2
          obtain ⟨T2, hT2⟩ : ∃ T2 : ByteArray, T2 = ⟨(T.data.toList ++ termL z j).toArray⟩ := ⟨_, rfl⟩
          have a3 := fun W => addV T ts T2 T.data.toList (termL z j) rfl hts2 hT2 (by omega) (by omega) W
          have hS2 : T2.size ≤ T.size + 43 := by rw [ba_size hT2]; simp; omega
          have G : Hid (txtL p n [] = txtL p j T2.data.toList) := Lib.hid (by rw [hg.out, txtL_succ, txtStep, HZ.out, if_neg hz0, if_neg (fun h => absurd h.1 (by omega)), ba_list hT2]; simp)
          have J0 := Lib.hid hj
          have HZ1 : True := trivial
          clear hts0 pw hts2 hT2 e hT hz0 hg hts hj hz1
          go_wp2_with fail
          refine (dec_y _ j td HTD.out _ (by first | rfl | (have := J0.out; omega)) (by omega)).mono ?_
          rintro e w1 ⟨rfl, hb1⟩
          have hz1 := hb1.size
          have hb01 : Below w.heap.size w w1 := hb.trans (hb1.mono (by omega))
          obtain ⟨a1', ha1, _, hcell1⟩ := (HR.out.below hb01).2 j (by omega)
          obtain rfl := Option.some.inj ha1
          rw [getD_opt, HZ.out] at hcell1
          clear ha1
          go_wp2_with fail
          go_roundw
          case rel => first | exact ⟨j, T2, by omega, rfl, (by first | rfl | exact congrArg (Value.int .i64) (by have := J0.out; omega)), G, Lib.hid (by have := hlen.out; omega), hb01⟩ | ((repeat apply Exists.intro); exact ⟨⟨j, T2, by omega, rfl, (by first | rfl | exact congrArg (Value.int .i64) (by have := J0.out; omega)), G, Lib.hid (by have := hlen.out; omega), hb01⟩, rfl⟩)
          case measure => first | (simp [intOf]; done) | (simp [intOf]; omega)
        by_cases hp : 0 < z
        · have e := nemp_v hT
          have X1 : (T.toList == []) = false := by simpa using e.1
          have X2 : (T.toList != []) = true := by simpa using e.1
          have K0 : ((j : Int) == 0) = false := by simp; omega
          have K1 : ((j : Int) == 1) = true := by simp [hj]
          have C1 : (z == -1) = false := by simp; omega
          have C2 : (z != 1) = true := by simp; omega
          have C3 : (z == 1) = false := by simp; omega
          obtain ⟨ti, hti⟩ : ∃ ti : ByteArray, ti = ⟨(Lib.itoa z).toArray⟩ := ⟨_, rfl⟩
          obtain ⟨ts, hts⟩ : ∃ ts : ByteArray, ts = ⟨(Lib.itoa z ++ [116]).toArray⟩ := ⟨_, rfl⟩
          have a1 := fun W => addV ti ⟨#[116]⟩ ts (Lib.itoa z) [116] hti rfl hts (by omega) (by simp; try omega) W
          have hts2 : ts = ⟨(termL z j).toArray⟩ := by rw [hts, termL, if_neg (by omega), if_neg (by omega), if_neg (by omega), (show powL j = [116] by rw [powL, if_pos hj])]
          have HTI := Lib.hid hti
          clear hti
          obtain ⟨h00, N1, N2⟩ := first_v hts2 hz0
          rw [decide_eq_true (show 0 < z by omega)] at N1 N2
          obtain ⟨T1, hT1⟩ : ∃ T1 : ByteArray, T1 = ⟨(T.data.toList ++ [43]).toArray⟩ := ⟨_, rfl⟩
          have a2 := fun W => addV T ⟨#[43]⟩ T1 T.data.toList [43] rfl rfl hT1 (by omega) (by simp) W
          obtain ⟨T2, hT2⟩ : ∃ T2 : ByteArray, T2 = ⟨((T.data.toList ++ [43]) ++ termL z j).toArray⟩ := ⟨_, rfl⟩
          have a3 := fun W => addV T1 ts T2 (T.data.toList ++ [43]) (termL z j) hT1 hts2 hT2 (by simp; omega) (by omega) W
          have hS2 : T2.size ≤ T.size + 43 := by rw [ba_size hT2]; simp; omega
          have G : Hid (txtL p n [] = txtL p j T2.data.toList) := Lib.hid (by rw [hg.out, txtL_succ, txtStep, HZ.out, if_neg hz0, if_pos ⟨(by omega), e.2⟩, ba_list hT2])
          clear hT1
          have J0 := Lib.hid hj
          have HZ1 : True := trivial
          clear hts0 pw hts2 hT2 e hT hz0 hg hts hj
          go_wp2_with fail
          refine (dec_y _ j td HTD.out _ (by first | rfl | (have := J0.out; omega)) (by omega)).mono ?_
          rintro e w1 ⟨rfl, hb1⟩
          have hz1 := hb1.size
          have hb01 : Below w.heap.size w w1 := hb.trans (hb1.mono (by omega))
          obtain ⟨a1', ha1, _, hcell1⟩ := (HR.out.below hb01).2 j (by omega)
          obtain rfl := Option.some.inj ha1
          rw [getD_opt, HZ.out] at hcell1
          clear ha1
          go_wp2_with fail
          refine (sg_v z ti HTI.out _ hc).mono ?_
          rintro e w2 ⟨rfl, hb2⟩
          have hz2 := hb2.size
          have hb02 : Below w.heap.size w w2 := hb01.trans (hb2.mono (by omega))
          go_wp2_with fail
          go_roundw
          case rel => first | exact ⟨j, T2, by omega, rfl, (by first | rfl | exact congrArg (Value.int .i64) (by have := J0.out; omega)), G, Lib.hid (by have := hlen.out; omega), hb02⟩ | ((repeat apply Exists.intro); exact ⟨⟨j, T2, by omega, rfl, (by first | rfl | exact congrArg (Value.int .i64) (by have := J0.out; omega)), G, Lib.hid (by have := hlen.out; omega), hb02⟩, rfl⟩)
          case measure => first | (simp [intOf]; done) | (simp [intOf]; omega)
        · have e := nemp_v hT
          have X1 : (T.toList == []) = false := by simpa using e.1
          have X2 : (T.toList != []) = true := by simpa using e.1
          have K0 : ((j : Int) == 0) = false := by simp; omega
          have K1 : ((j : Int) == 1) = true := by simp [hj]
          have C1 : (z == -1) = false := by simp; omega
          have C2 : (z != 1) = true := by simp; omega
          have C3 : (z == 1) = false := by simp; omega
          obtain ⟨ti, hti⟩ : ∃ ti : ByteArray, ti = ⟨(Lib.itoa z).toArray⟩ := ⟨_, rfl⟩
          obtain ⟨ts, hts⟩ : ∃ ts : ByteArray, ts = ⟨(Lib.itoa z ++ [116]).toArray⟩ := ⟨_, rfl⟩
          have a1 := fun W => addV ti ⟨#[116]⟩ ts (Lib.itoa z) [116] hti rfl hts (by omega) (by simp; try omega) W
          have hts2 : ts = ⟨(termL z j).toArray⟩ := by rw [hts, termL, if_neg (by omega), if_neg (by omega), if_neg (by omega), (show powL j = [116] by rw [powL, if_pos hj])]
          have HTI := Lib.hid hti
          clear hti
          obtain ⟨h00, N1, N2⟩ := first_v hts2 hz0
          rw [decide_eq_false (show ¬ 0 < z by omega)] at N1 N2
          obtain ⟨T2, hT2⟩ : ∃ T2 : ByteArray, T2 = ⟨(T.data.toList ++ termL z j).toArray⟩ := ⟨_, rfl⟩
          have a3 := fun W => addV T ts T2 T.data.toList (termL z j) rfl hts2 hT2 (by omega) (by omega) W
          have hS2 : T2.size ≤ T.size + 43 := by rw [ba_size hT2]; simp; omega
          have G : Hid (txtL p n [] = txtL p j T2.data.toList) := Lib.hid (by rw [hg.out, txtL_succ, txtStep, HZ.out, if_neg hz0, if_neg (fun h => absurd h.1 (by omega)), ba_list hT2]; simp)
          have J0 := Lib.hid hj
          have HZ1 : True := trivial
          clear hts0 pw hts2 hT2 e hT hz0 hg hts hj
          go_wp2_with fail
          refine (dec_y _ j td HTD.out _ (by first | rfl | (have := J0.out; omega)) (by omega)).mono ?_
          rintro e w1 ⟨rfl, hb1⟩
          have hz1 := hb1.size
          have hb01 : Below w.heap.size w w1 := hb.trans (hb1.mono (by omega))
          obtain ⟨a1', ha1, _, hcell1⟩ := (HR.out.below hb01).2 j (by omega)
          obtain rfl := Option.some.inj ha1
          rw [getD_opt, HZ.out] at hcell1
          clear ha1
          go_wp2_with fail
          refine (sg_v z ti HTI.out _ hc).mono ?_
          rintro e w2 ⟨rfl, hb2⟩
          have hz2 := hb2.size
          have hb02 : Below w.heap.size w w2 := hb01.trans (hb2.mono (by omega))
          go_wp2_with fail
          go_roundw
          case rel => first | exact ⟨j, T2, by omega, rfl, (by first | rfl | exact congrArg (Value.int .i64) (by have := J0.out; omega)), G, Lib.hid (by have := hlen.out; omega), hb02⟩ | ((repeat apply Exists.intro); exact ⟨⟨j, T2, by omega, rfl, (by first | rfl | exact congrArg (Value.int .i64) (by have := J0.out; omega)), G, Lib.hid (by have := hlen.out; omega), hb02⟩, rfl⟩)
          case measure => first | (simp [intOf]; done) | (simp [intOf]; omega)
      · by_cases hz1 : z = 1
        · have e := nemp_v hT
          have X1 : (T.toList == []) = false := by simpa using e.1
          have X2 : (T.toList != []) = true := by simpa using e.1
          have K0 : ((j : Int) == 0) = false := by simp; omega
          have K1 : ((j : Int) == 1) = false := by simp; omega
          have C1 : (z == -1) = false := by simp [hz1]
          have C2 : (z != 1) = false := by simp [hz1]
          have C3 : (z == 1) = true := by simp [hz1]
          have hts2 : (ts0 : ByteArray) = ⟨(termL z j).toArray⟩ := by rw [termL, if_neg (by omega), if_pos hz1, (pw (by omega))]; exact hts0
          obtain ⟨h00, N1, N2⟩ := first_v hts2 hz0
          rw [decide_eq_true (show 0 < z by omega)] at N1 N2
          obtain ⟨T1, hT1⟩ : ∃ T1 : ByteArray, T1 = ⟨(T.data.toList ++ [43]).toArray⟩ := ⟨_, rfl⟩
          have a2 := fun W => addV T ⟨#[43]⟩ T1 T.data.toList [43] rfl rfl hT1 (by omega) (by simp) W
          obtain ⟨T2, hT2⟩ : ∃ T2 : ByteArray, T2 = ⟨((T.data.toList ++ [43]) ++ termL z j).toArray⟩ := ⟨_, rfl⟩
          have a3 := fun W => addV T1 ts0 T2 (T.data.toList ++ [43]) (termL z j) hT1 hts2 hT2 (by simp; omega) (by omega) W
          have hS2 : T2.size ≤ T.size + 43 := by rw [ba_size hT2]; simp; omega
          have G : Hid (txtL p n [] = txtL p j T2.data.toList) := Lib.hid (by rw [hg.out, txtL_succ, txtStep, HZ.out, if_neg hz0, if_pos ⟨(by omega), e.2⟩, ba_list hT2])
          clear hT1
          have HZ1 : True := trivial
          clear hts0 pw hts2 hT2 e hT hz0 hg hz1
          go_wp2_with fail
          refine (dec_y _ j td HTD.out _ (by first | rfl | (have := J0.out; omega)) (by omega)).mono ?_
          rintro e w1 ⟨rfl, hb1⟩
          have hz1 := hb1.size
          have hb01 : Below w.heap.size w w1 := hb.trans (hb1.mono (by omega))
          obtain ⟨a1', ha1, _, hcell1⟩ := (HR.out.below hb01).2 j (by omega)
          obtain rfl := Option.some.inj ha1
          rw [getD_opt, HZ.out] at hcell1
          clear ha1
          go_wp2_with fail
          go_roundw
          case rel => first | exact ⟨j, T2, by omega, rfl, rfl, G, Lib.hid (by have := hlen.out; omega), hb01⟩ | ((repeat apply Exists.intro); exact ⟨⟨j, T2, by omega, rfl, rfl, G, Lib.hid (by have := hlen.out; omega), hb01⟩, rfl⟩)
          case measure => first | (simp [intOf]; done) | (simp [intOf]; omega)
        by_cases hz1 : z = -1
        · have e := nemp_v hT
          have X1 : (T.toList == []) = false := by simpa using e.1
          have X2 : (T.toList != []) = true := by simpa using e.1
          have K0 : ((j : Int) == 0) = false := by simp; omega
          have K1 : ((j : Int) == 1) = false := by simp; omega
          have C1 : (z == -1) = true := by simp [hz1]
          obtain ⟨ts, hts⟩ : ∃ ts : ByteArray, ts = ⟨(([45] : List UInt8) ++ (116 :: 94 :: Lib.decDigits j)).toArray⟩ := ⟨_, rfl⟩
          have a1 := fun W => addV ⟨#[45]⟩ ts0 ts [45] (116 :: 94 :: Lib.decDigits j) rfl hts0 hts (by simp) (by simp; try omega) W
          have hts2 : ts = ⟨(termL z j).toArray⟩ := by rw [hts, termL, if_neg (by omega), if_neg (by omega), if_pos hz1, (pw (by omega))]; rfl
          obtain ⟨h00, N1, N2⟩ := first_v hts2 hz0
          rw [decide_eq_false (show ¬ 0 < z by omega)] at N1 N2
          obtain ⟨T2, hT2⟩ : ∃ T2 : ByteArray, T2 = ⟨(T.data.toList ++ termL z j).toArray⟩ := ⟨_, rfl⟩
          have a3 := fun W => addV T ts T2 T.data.toList (termL z j) rfl hts2 hT2 (by omega) (by omega) W
          have hS2 : T2.size ≤ T.size + 43 := by rw [ba_size hT2]; simp; omega
          have G : Hid (txtL p n [] = txtL p j T2.data.toList) := Lib.hid (by rw [hg.out, txtL_succ, txtStep, HZ.out, if_neg hz0, if_neg (fun h => absurd h.1 (by omega)), ba_list hT2]; simp)
          have HZ1 : True := trivial
          clear hts0 pw hts2 hT2 e hT hz0 hg hts hz1
          go_wp2_with fail
          refine (dec_y _ j td HTD.out _ (by first | rfl | (have := J0.out; omega)) (by omega)).mono ?_
          rintro e w1 ⟨rfl, hb1⟩
          have hz1 := hb1.size
          have hb01 : Below w.heap.size w w1 := hb.trans (hb1.mono (by omega))
          obtain ⟨a1', ha1, _, hcell1⟩ := (HR.out.below hb01).2 j (by omega)
          obtain rfl := Option.some.inj ha1
          rw [getD_opt, HZ.out] at hcell1
          clear ha1
          go_wp2_with fail
          go_roundw
          case rel => first | exact ⟨j, T2, by omega, rfl, rfl, G, Lib.hid (by have := hlen.out; omega), hb01⟩ | ((repeat apply Exists.intro); exact ⟨⟨j, T2, by omega, rfl, rfl, G, Lib.hid (by have := hlen.out; omega), hb01⟩, rfl⟩)
          case measure => first | (simp [intOf]; done) | (simp [intOf]; omega)
        by_cases hp : 0 < z
        · have e := nemp_v hT
          have X1 : (T.toList == []) = false := by simpa using e.1
          have X2 : (T.toList != []) = true := by simpa using e.1
          have K0 : ((j : Int) == 0) = false := by simp; omega
          have K1 : ((j : Int) == 1) = false := by simp; omega
          have C1 : (z == -1) = false := by simp; omega
          have C2 : (z != 1) = true := by simp; omega
          have C3 : (z == 1) = false := by simp; omega
          obtain ⟨ti, hti⟩ : ∃ ti : ByteArray, ti = ⟨(Lib.itoa z).toArray⟩ := ⟨_, rfl⟩
          obtain ⟨ts, hts⟩ : ∃ ts : ByteArray, ts = ⟨(Lib.itoa z ++ (116 :: 94 :: Lib.decDigits j)).toArray⟩ := ⟨_, rfl⟩
          have a1 := fun W => addV ti ts0 ts (Lib.itoa z) (116 :: 94 :: Lib.decDigits j) hti hts0 hts (by omega) (by simp; try omega) W
          have hts2 : ts = ⟨(termL z j).toArray⟩ := by rw [hts, termL, if_neg (by omega), if_neg (by omega), if_neg (by omega), (pw (by omega))]
          have HTI := Lib.hid hti
          clear hti
          obtain ⟨h00, N1, N2⟩ := first_v hts2 hz0
          rw [decide_eq_true (show 0 < z by omega)] at N1 N2
          obtain ⟨T1, hT1⟩ : ∃ T1 : ByteArray, T1 = ⟨(T.data.toList ++ [43]).toArray⟩ := ⟨_, rfl⟩
          have a2 := fun W => addV T ⟨#[43]⟩ T1 T.data.toList [43] rfl rfl hT1 (by omega) (by simp) W
          obtain ⟨T2, hT2⟩ : ∃ T2 : ByteArray, T2 = ⟨((T.data.toList ++ [43]) ++ termL z j).toArray⟩ := ⟨_, rfl⟩
          have a3 := fun W => addV T1 ts T2 (T.data.toList ++ [43]) (termL z j) hT1 hts2 hT2 (by simp; omega) (by omega) W
          have hS2 : T2.size ≤ T.size + 43 := by rw [ba_size hT2]; simp; omega
          have G : Hid (txtL p n [] = txtL p j T2.data.toList) := Lib.hid (by rw [hg.out, txtL_succ, txtStep, HZ.out, if_neg hz0, if_pos ⟨(by omega), e.2⟩, ba_list hT2])
          clear hT1
          have HZ1 : True := trivial
          clear hts0 pw hts2 hT2 e hT hz0 hg hts
          go_wp2_with fail
          refine (dec_y _ j td HTD.out _ (by first | rfl | (have := J0.out; omega)) (by omega)).mono ?_
          rintro e w1 ⟨rfl, hb1⟩
          have hz1 := hb1.size
          have hb01 : Below w.heap.size w w1 := hb.trans (hb1.mono (by omega))
          obtain ⟨a1', ha1, _, hcell1⟩ := (HR.out.below hb01).2 j (by omega)
          obtain rfl := Option.some.inj ha1
          rw [getD_opt, HZ.out] at hcell1
          clear ha1
          go_wp2_with fail
          refine (sg_v z ti HTI.out _ hc).mono ?_
          rintro e w2 ⟨rfl, hb2⟩
          have hz2 := hb2.size
          have hb02 : Below w.heap.size w w2 := hb01.trans (hb2.mono (by omega))
          go_wp2_with fail
          go_roundw
          case rel => first | exact ⟨j, T2, by omega, rfl, rfl, G, Lib.hid (by have := hlen.out; omega), hb02⟩ | ((repeat apply Exists.intro); exact ⟨⟨j, T2, by omega, rfl, rfl, G, Lib.hid (by have := hlen.out; omega), hb02⟩, rfl⟩)
          case measure => first | (simp [intOf]; done) | (simp [intOf]; omega)
        · have e := nemp_v hT
          have X1 : (T.toList == []) = false := by simpa using e.1
          have X2 : (T.toList != []) = true := by simpa using e.1
          have K0 : ((j : Int) == 0) = false := by simp; omega
          have K1 : ((j : Int) == 1) = false := by simp; omega
          have C1 : (z == -1) = false := by simp; omega
          have C2 : (z != 1) = true := by simp; omega
          have C3 : (z == 1) = false := by simp; omega
          obtain ⟨ti, hti⟩ : ∃ ti : ByteArray, ti = ⟨(Lib.itoa z).toArray⟩ := ⟨_, rfl⟩
          obtain ⟨ts, hts⟩ : ∃ ts : ByteArray, ts = ⟨(Lib.itoa z ++ (116 :: 94 :: Lib.decDigits j)).toArray⟩ := ⟨_, rfl⟩
          have a1 := fun W => addV ti ts0 ts (Lib.itoa z) (116 :: 94 :: Lib.decDigits j) hti hts0 hts (by omega) (by simp; try omega) W
          have hts2 : ts = ⟨(termL z j).toArray⟩ := by rw [hts, termL, if_neg (by omega), if_neg (by omega), if_neg (by omega), (pw (by omega))]
          have HTI := Lib.hid hti
          clear hti
          obtain ⟨h00, N1, N2⟩ := first_v hts2 hz0
          rw [decide_eq_false (show ¬ 0 < z by omega)] at N1 N2
          obtain ⟨T2, hT2⟩ : ∃ T2 : ByteArray, T2 = ⟨(T.data.toList ++ termL z j).toArray⟩ := ⟨_, rfl⟩
          have a3 := fun W => addV T ts T2 T.data.toList (termL z j) rfl hts2 hT2 (by omega) (by omega) W
          have hS2 : T2.size ≤ T.size + 43 := by rw [ba_size hT2]; simp; omega
          have G : Hid (txtL p n [] = txtL p j T2.data.toList) := Lib.hid (by rw [hg.out, txtL_succ, txtStep, HZ.out, if_neg hz0, if_neg (fun h => absurd h.1 (by omega)), ba_list hT2]; simp)
          have HZ1 : True := trivial
          clear hts0 pw hts2 hT2 e hT hz0 hg hts
          go_wp2_with fail
          refine (dec_y _ j td HTD.out _ (by first | rfl | (have := J0.out; omega)) (by omega)).mono ?_
          rintro e w1 ⟨rfl, hb1⟩
          have hz1 := hb1.size
          have hb01 : Below w.heap.size w w1 := hb.trans (hb1.mono (by omega))
          obtain ⟨a1', ha1, _, hcell1⟩ := (HR.out.below hb01).2 j (by omega)
          obtain rfl := Option.some.inj ha1
          rw [getD_opt, HZ.out] at hcell1
          clear ha1
          go_wp2_with fail
          refine (sg_v z ti HTI.out _ hc).mono ?_
          rintro e w2 ⟨rfl, hb2⟩
          have hz2 := hb2.size
          have hb02 : Below w.heap.size w w2 := hb01.trans (hb2.mono (by omega))
          go_wp2_with fail
          go_roundw
          case rel => first | exact ⟨j, T2, by omega, rfl, rfl, G, Lib.hid (by have := hlen.out; omega), hb02⟩ | ((repeat apply Exists.intro); exact ⟨⟨j, T2, by omega, rfl, rfl, G, Lib.hid (by have := hlen.out; omega), hb02⟩, rfl⟩)
          case measure => first | (simp [intOf]; done) | (simp [intOf]; omega)
end Go.Proofs.YtbipihamkfifjabDoor
