/- Numerals that are read, the program's and the model's: contracts. Conditions: stated at each theorem. -/
import Derived.Test.YtbipihamkfifjaaDoorPfM
import Derived.Laws.DeepStrings4
namespace Go.Proofs.YtbipihamkfifjaaDoor
open Go.ChangeShapes Go.WideShapes Go.ChangeAt Go.RowKit
set_option linter.unusedVariables false

theorem len_str (s : ByteArray) : s.data.toList.length = s.size := by simp
theorem take_snoc (s : ByteArray) (k : Nat) (h : k < s.size) : s.data.toList.take (k + 1) = s.data.toList.take k ++ [s[k]] := by
  rw [List.take_succ_eq_append_getElem (by simpa using h)]; rfl
theorem all_snoc (l : List UInt8) (c : UInt8) : (l ++ [c]).all isDg = (l.all isDg && isDg c) := by simp
theorem val_snoc (l : List UInt8) (c : UInt8) (hc : isDg c = true) : (valL 0 (l ++ [c]) : Int) = (valL 0 l : Int) * 10 + ((c.toNat : Int) - 48) := by
  simp only [isDg, decide_eq_true_eq] at hc
  rw [valL_append, valL_cons, valL_nil]; unfold stp; omega
theorem val_all {l : List UInt8} (h : l.all isDg = true) (hl : l.length ≤ 9) : valL 0 l ≤ 999999999 := by
  have h1 := valL_lt l 0 1 h (by omega)
  have h2 : (10 : Nat) ^ l.length ≤ 10 ^ 9 := Nat.pow_le_pow_right (by omega) (by omega)
  have h3 : (10 : Nat) ^ 9 = 1000000000 := by decide
  omega
theorem not_all {l : List UInt8} {k : Nat} {c : UInt8} (h : l.take (k + 1) = l.take k ++ [c]) (hc : isDg c = false) : l.all isDg = false := by
  cases ha : l.all isDg with
  | false => rfl
  | true =>
    have : (l.take (k + 1)).all isDg = true := by rw [List.all_eq_true] at ha ⊢; exact fun x hx => ha x (List.mem_of_mem_take hx)
    rw [h, all_snoc, hc] at this; simp at this
theorem rdB_len {l : List UInt8} (h : ¬ (1 ≤ l.length ∧ l.length ≤ 9)) : rdB l = false := by unfold rdB; rw [decide_eq_false h]; rfl
theorem ret_rd {l : List UInt8} {a : Int} {b : Bool} (hb : rdB l = b) (ha : a = if b then (valL 0 l : Int) else 0) :
    Ending.returned (.tuple #[.int .i64 a, .bool b]) = .returned (.tuple #[.int .i64 (if rdB l then (valL 0 l : Int) else 0), .bool (rdB l)]) := by rw [hb, ha]

/-- What the reading of digits answers. -/
def RdAns (l : List UInt8) (w : World) : Ending → World → Prop := fun e w' => e = .returned (.tuple #[.int .i64 (if rdB l then (valL 0 l : Int) else 0), .bool (rdB l)]) ∧ w' = w
theorem RdAns.mk {l : List UInt8} {a : Int} {b : Bool} {w : World} (hb : rdB l = b) (ha : a = if b then (valL 0 l : Int) else 0) : RdAns l w (.returned (.tuple #[.int .i64 a, .bool b])) w := ⟨ret_rd hb ha, rfl⟩
set_option maxHeartbeats 1000000 in
/-- The program's reading of digits. -/
theorem readDigits_any (s : ByteArray) (w : World) (hs : s.size ≤ 1048576) :
    Calls Tryd.prog 54 #[.string s] w (RdAns s.data.toList w) := by
  have hL := len_str s
  by_cases h0 : s.size = 0
  · have E : Hid (rdB s.data.toList = false) := Lib.hid (rdB_len (by rw [hL]; omega))
    have T : ((s.size : Int) == 0) = true := by rw [h0]; rfl
    clear hL
    go_enter Tryd.func54, Tryd.ntmps54
    go_wp2
    go_ret2
    exact RdAns.mk E.out (by simp)
  have T : ((s.size : Int) == 0) = false := beq_false_of_ne (by omega)
  by_cases h9 : 9 < s.size
  · have E : Hid (rdB s.data.toList = false) := Lib.hid (rdB_len (by rw [hL]; omega))
    clear hL
    go_enter Tryd.func54, Tryd.ntmps54
    go_wp2
    go_ret2
    exact RdAns.mk E.out (by simp)
  have HL := Lib.hid hL
  clear hL
  go_enter Tryd.func54, Tryd.ntmps54
  go_wp2
  go_loop [4, 5] (fun n i => ∃ k : Nat, k ≤ s.size ∧ i = .int .i64 k ∧ n = .int .i64 (valL 0 (s.data.toList.take k)) ∧ Hid ((s.data.toList.take k).all isDg = true)) (fun _ i => s.size - (intOf i).toNat)
  case atStart => exact ⟨0, Nat.zero_le _, rfl, rfl, Lib.hid (by simp)⟩
  case round =>
    obtain ⟨k, hk, rfl, rfl, ha⟩ := hrel
    have hv := val_all ha.out (by rw [List.length_take]; omega)
    by_cases hlt : k < s.size
    · cases hd : isDg s[k]
      · have R : Hid (rdB s.data.toList = false) := Lib.hid (by unfold rdB; rw [not_all (take_snoc s k hlt) hd]; simp)
        have hd2 : (s[k].toNat : Int) < 48 ∨ 57 < (s[k].toNat : Int) := by simp only [isDg, decide_eq_false_iff_not] at hd; omega
        clear hd
        rcases hd2 with hd2 | hd2
        all_goals
          go_wp2
          go_ret2
          exact RdAns.mk R.out (by simp)
      · have HS : Hid ((valL 0 (s.data.toList.take (k + 1)) : Int) = (valL 0 (s.data.toList.take k) : Int) * 10 + ((s[k].toNat : Int) - 48)) := Lib.hid (by rw [take_snoc s k hlt]; exact val_snoc _ _ hd)
        have HA : Hid ((s.data.toList.take (k + 1)).all isDg = true) := Lib.hid (by rw [take_snoc s k hlt, all_snoc, ha.out, hd]; rfl)
        have hd1 : 48 ≤ (s[k].toNat : Int) := by simp only [isDg, decide_eq_true_eq] at hd; omega
        have hd2 : (s[k].toNat : Int) ≤ 57 := by simp only [isDg, decide_eq_true_eq] at hd; omega
        clear hd
        go_wp2
        go_round
        case rel => exact ⟨k + 1, by omega, by go_num, by rw [HS.out], HA⟩
        case measure => simp [intOf]; omega
    · have R : Hid (rdB s.data.toList = true) := Lib.hid (by
        have e : s.data.toList.take k = s.data.toList := List.take_of_length_le (by rw [HL.out]; omega)
        have := ha.out; rw [e] at this
        unfold rdB; rw [this, HL.out]; simp; omega)
      have e : Hid (s.data.toList.take k = s.data.toList) := Lib.hid (List.take_of_length_le (by rw [HL.out]; omega))
      go_wp2
      go_ret2
      exact RdAns.mk R.out (by rw [e.out]; simp)

/-- What the model's reading of digits answers. -/
def SvAns (l : List UInt8) (w : World) : Ending → World → Prop := fun e w' => e = .returned (.int .i64 (if svB l then (valL 0 l : Int) else -1)) ∧ w' = w
theorem SvAns.no {l : List UInt8} {w : World} (hb : svB l = false) : SvAns l w (.returned (.int .i64 (-1))) w := ⟨by rw [hb]; rfl, rfl⟩
theorem SvAns.yes {l : List UInt8} {w : World} {a : Int} (hb : svB l = true) (ha : a = (valL 0 l : Int)) : SvAns l w (.returned (.int .i64 a)) w := ⟨by rw [hb, ha]; rfl, rfl⟩
theorem sv_no {l : List UInt8} (h : rdB l = false) : svB l = false := by unfold svB; rw [h]; rfl
theorem head_str (s : ByteArray) (h : 0 < s.size) : s.data.toList.head? = some s[0] := by
  rw [List.head?_eq_getElem?, List.getElem?_eq_getElem (by simpa using h)]; rfl

set_option maxHeartbeats 1000000 in
theorem l01Value_any (s : ByteArray) (w : World) (hs : s.size ≤ 1048576) :
    Calls Tryd.prog 62 #[.string s] w (SvAns s.data.toList w) := by
  have hL := len_str s
  by_cases h0 : s.size = 0
  · have E : Hid (svB s.data.toList = false) := Lib.hid (sv_no (rdB_len (by rw [hL]; omega)))
    have T : ((s.size : Int) == 0) = true := by rw [h0]; rfl
    clear hL
    go_enter Tryd.func62, Tryd.ntmps62
    go_wp2
    go_ret
    exact SvAns.no E.out
  have T : ((s.size : Int) == 0) = false := beq_false_of_ne (by omega)
  by_cases h9 : 9 < s.size
  · have E : Hid (svB s.data.toList = false) := Lib.hid (sv_no (rdB_len (by rw [hL]; omega)))
    clear hL
    go_enter Tryd.func62, Tryd.ntmps62
    go_wp2
    go_ret
    exact SvAns.no E.out
  have hp : 0 < s.size := by omega
  have hh := head_str s hp
  by_cases hz : 1 < s.size ∧ s[0] = 48
  · have E : Hid (svB s.data.toList = false) := Lib.hid (by unfold svB; rw [decide_eq_false (by rw [hL, hh, hz.2]; simp; omega)]; simp)
    have hz1 := hz.1
    have Z : ((s[0].toNat : Int) == 48) = true := by rw [hz.2]; rfl
    clear hL hh hz
    go_enter Tryd.func62, Tryd.ntmps62
    go_wp2
    go_ret
    exact SvAns.no E.out
  have HZ : Hid (s.data.toList.length = 1 ∨ s.data.toList.head? ≠ some 48) := Lib.hid (by
    rw [hL, hh]
    by_cases h1 : s.size = 1
    · exact Or.inl h1
    · right; intro e; exact hz ⟨by omega, by simpa using e⟩)
  have Z : 1 < s.size → ((s[0].toNat : Int) == 48) = false := fun h => by
    have : s[0] ≠ 48 := fun e => hz ⟨h, e⟩
    have h2 : s[0].toNat ≠ 48 := fun e => this (by apply UInt8.toNat_inj.1; rw [e]; rfl)
    simp; omega
  have Z1 := Lib.hid Z
  have HL := Lib.hid hL
  clear hL hh hz Z
  have HB : ∀ b : Bool, True := fun _ => trivial
  clear HB
  rcases (show s.size = 1 ∨ 1 < s.size by omega) with h1 | h1
  all_goals
    first
    | (have hgt : ¬ (1 < s.size) := by omega
       clear hgt)
    | (have ZZ := Z1.out h1)
    (try have ZZ := Z1.out h1)
    clear Z1
    go_enter Tryd.func62, Tryd.ntmps62
    go_wp2
    go_loop [3, 4] (fun n i => ∃ k : Nat, k ≤ s.size ∧ i = .int .i64 k ∧ n = .int .i64 (valL 0 (s.data.toList.take k)) ∧ Hid ((s.data.toList.take k).all isDg = true)) (fun _ i => s.size - (intOf i).toNat)
    case atStart => exact ⟨0, Nat.zero_le _, rfl, rfl, Lib.hid (by simp)⟩
    case round =>
      obtain ⟨k, hk, rfl, rfl, ha⟩ := hrel
      have hv := val_all ha.out (by rw [List.length_take]; omega)
      by_cases hlt : k < s.size
      · cases hd : isDg s[k]
        · have R : Hid (svB s.data.toList = false) := Lib.hid (sv_no (by unfold rdB; rw [not_all (take_snoc s k hlt) hd]; simp))
          have hd2 : (s[k].toNat : Int) < 48 ∨ 57 < (s[k].toNat : Int) := by simp only [isDg, decide_eq_false_iff_not] at hd; omega
          clear hd
          rcases hd2 with hd2 | hd2
          all_goals
            go_wp2
            go_ret
            exact SvAns.no R.out
        · have HS : Hid ((valL 0 (s.data.toList.take (k + 1)) : Int) = (valL 0 (s.data.toList.take k) : Int) * 10 + ((s[k].toNat : Int) - 48)) := Lib.hid (by rw [take_snoc s k hlt]; exact val_snoc _ _ hd)
          have HA : Hid ((s.data.toList.take (k + 1)).all isDg = true) := Lib.hid (by rw [take_snoc s k hlt, all_snoc, ha.out, hd]; rfl)
          have hd1 : 48 ≤ (s[k].toNat : Int) := by simp only [isDg, decide_eq_true_eq] at hd; omega
          have hd2 : (s[k].toNat : Int) ≤ 57 := by simp only [isDg, decide_eq_true_eq] at hd; omega
          clear hd
          go_wp2
          go_round
          case rel => exact ⟨k + 1, by omega, by go_num, by rw [HS.out], HA⟩
          case measure => simp [intOf]; omega
      · have e : Hid (s.data.toList.take k = s.data.toList) := Lib.hid (List.take_of_length_le (by rw [HL.out]; omega))
        have R : Hid (svB s.data.toList = true) := Lib.hid (by
          have := ha.out; rw [e.out] at this
          unfold svB rdB; rw [this, decide_eq_true HZ.out, HL.out, decide_eq_true (by omega)]; rfl)
        go_wp2
        go_ret
        exact SvAns.yes R.out (by rw [e.out])
end Go.Proofs.YtbipihamkfifjaaDoor
