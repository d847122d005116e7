/- Slices of slices of int64: words, and contracts of laws.eqInt64SS, laws.markInt64SS and laws.heldInt64SS. Conditions: stated at each theorem. -/
import Derived.Test.YtaigcmhfhdapdaaOwn
namespace Go.Proofs.Ytaigcmhfhdapdaa
open Go.ChangeShapes Go.WideShapes Go.ChangeAt Go.RowKit
set_option linter.unusedVariables false

theorem vintS {a b : Int} (h : a = b) : Value.int .i64 a = Value.int .i64 b := by rw [h]
/-- The slice at A with n slices, below block B, reads as the lists zf 0, zf 1, .. -/
def RSS (w : World) (B : Nat) (A : Option Addr) (n : Nat) (zf : Nat → List Int) : Prop :=
  ∀ k, k < n → ∃ a A' c', A = some a ∧ a.block < B ∧ w.cell? (a.add k) = some (.slice A' (zf k).length c') ∧ RI w B A' (zf k).length (zf k)
theorem RSS.below {w w' : World} {B n : Nat} {A : Option Addr} {zf : Nat → List Int} (h : RSS w B A n zf) (hb : Below B w w') : RSS w' B A n zf := fun k hk => by
  obtain ⟨a, A', c', e, hlt, hc, hr⟩ := h k hk
  exact ⟨a, A', c', e, hlt, (hb.cell (by rw [add_block]; exact hlt)).trans hc, hr.below hb⟩
theorem RSS.more {w : World} {B B' n : Nat} {A : Option Addr} {zf : Nat → List Int} (h : RSS w B A n zf) (hB : B ≤ B') : RSS w B' A n zf := fun k hk => by
  obtain ⟨a, A', c', e, hlt, hc, hr⟩ := h k hk
  exact ⟨a, A', c', e, by omega, hc, hr.more hB⟩
theorem RSS.drewN {w : World} {B n : Nat} {A : Option Addr} {zf : Nat → List Int} (h : RSS w B A n zf) (m : Nat) : RSS (w.drewN m) B A n zf := h

/-- A slice of slices of the call's own, from block base on: the slices vf 0, vf 1, .. have ms 0, ms 1, .. numbers, hold xf 0, xf 1, .., and share no memory. -/
structure OwnSS (w : World) (base : Nat) (A : Option Addr) (n c : Nat) (vf : Nat → Value) (ms : Nat → Nat) (xf : Nat → List Value) : Prop where
  outer : w.ownsRow base 22 1 (.slice A n c) n ((List.range n).map vf)
  form : ∀ i, i < n → ∃ A' c', vf i = .slice A' (ms i) c'
  inner : ∀ i, i < n → Own w base (vf i) (ms i) (xf i)
  apart : ∀ i j, i < n → j < n → i ≠ j → (vf i).ownBlock = none ∨ (vf i).ownBlock ≠ (vf j).ownBlock

theorem block_type {w : World} {base base' n m : Nat} {v v' : Value} {xs ys : List Value} {t t' : TypeId} (h : w.ownsRow base t 1 v n xs) (h' : w.ownsRow base' t' 1 v' m ys) (hne : t ≠ t') : v.ownBlock = none ∨ v.ownBlock ≠ v'.ownBlock := by
  rcases h.2 with ⟨rfl, _⟩ | ⟨g, cap, cur, rfl, _, hg, _⟩
  · exact .inl rfl
  · rcases h'.2 with ⟨rfl, _⟩ | ⟨g', cap', cur', rfl, _, hg', _⟩
    · exact .inr (by simp [Value.ownBlock])
    · refine .inr fun e => ?_
      simp only [Value.ownBlock, Option.some.injEq] at e
      subst e
      rw [hg] at hg'
      simp only [Option.some.injEq, Obj.cells.injEq] at hg'
      exact hne hg'.2.1
theorem OwnSS.kept {w w' : World} {base n c : Nat} {A : Option Addr} {vf : Nat → Value} {ms : Nat → Nat} {xf : Nat → List Value} (h : OwnSS w base A n c vf ms xf) {row : Option Nat} (hg : w.grownBy w' row)
    (ho : (Value.slice A n c).ownBlock = none ∨ (Value.slice A n c).ownBlock ≠ row) (hi : ∀ i, i < n → (vf i).ownBlock = none ∨ (vf i).ownBlock ≠ row) : OwnSS w' base A n c vf ms xf :=
  ⟨h.outer.kept hg ho, h.form, fun i hin => (h.inner i hin).kept hg (hi i hin), h.apart⟩
theorem OwnSS.below {w w' : World} {base n c : Nat} {A : Option Addr} {vf : Nat → Value} {ms : Nat → Nat} {xf : Nat → List Value} (h : OwnSS w base A n c vf ms xf) (hb : Below w.heap.size w w') : OwnSS w' base A n c vf ms xf :=
  h.kept (grown_of_below hb none) (by cases (Value.slice A n c).ownBlock <;> simp) (fun i _ => by cases (vf i).ownBlock <;> simp)
theorem OwnSS.drewN {w : World} {base n c : Nat} {A : Option Addr} {vf : Nat → Value} {ms : Nat → Nat} {xf : Nat → List Value} (h : OwnSS w base A n c vf ms xf) (m : Nat) : OwnSS (w.drewN m) base A n c vf ms xf := ⟨h.outer, h.form, h.inner, h.apart⟩
theorem OwnSS.nil (w : World) (base : Nat) (vf : Nat → Value) (ms : Nat → Nat) (xf : Nat → List Value) : OwnSS w base none 0 0 vf ms xf :=
  ⟨World.ownsRow_nil w base _ _, fun i h => by omega, fun i h => by omega, fun i j h => by omega⟩
/-- The cell of the i-th slice. -/
theorem OwnSS.cell {w : World} {base n c : Nat} {A : Option Addr} {vf : Nat → Value} {ms : Nat → Nat} {xf : Nat → List Value} (h : OwnSS w base A n c vf ms xf) {i : Nat} (hi : i < n) :
    ∃ g, A = some ⟨g, 0, none⟩ ∧ g < w.heap.size ∧ w.cell? ⟨g, i, none⟩ = some (vf i) := by
  rcases h.outer.2 with ⟨e, e0⟩ | ⟨g, cap, cur, e, hb, hg, hnc, hcm, hcs, hcur⟩
  · omega
  · simp only [Value.slice.injEq] at e
    obtain ⟨rfl, _, rfl⟩ := e
    refine ⟨g, rfl, (Array.getElem?_eq_some_iff.1 hg).1, ?_⟩
    have h5 : ((List.range n).map vf)[i]? = some (vf i) := by simp [hi]
    rw [World.ownsRow.cellAt h.outer i (by omega), h5]
theorem OwnSS.reads {w : World} {base n c : Nat} {A : Option Addr} {vf : Nat → Value} {ms : Nat → Nat} {zf : Nat → List Int} (h : OwnSS w base A n c vf ms fun i => (zf i).map (.int .i64)) : RSS w w.heap.size A n zf := fun k hk => by
  obtain ⟨g, rfl, hlt, hc⟩ := h.cell hk
  obtain ⟨A', c', e⟩ := h.form k hk
  have ho := h.inner k hk
  have hl := ho.len
  simp only [List.length_map] at hl
  rw [e, ← hl] at ho
  rw [e, ← hl] at hc
  have h4 : (⟨g, 0, none⟩ : Addr).add k = ⟨g, k, none⟩ := by unfold Addr.add; split <;> simp_all
  rw [← h4] at hc
  exact ⟨_, A', c', rfl, hlt, hc, ho.reads⟩

/-- The sum of the first j numbers of ms. -/
def off (ms : Nat → Nat) : Nat → Nat
  | 0 => 0
  | j + 1 => off ms j + ms j
theorem off_le (ms : Nat → Nat) {i n : Nat} (h : i ≤ n) : off ms i ≤ off ms n := by
  induction n with
  | zero => obtain rfl : i = 0 := by omega
            exact Nat.le_refl _
  | succ n ih =>
    by_cases e : i = n + 1
    · subst e; exact Nat.le_refl _
    · have := ih (by omega); show off ms i ≤ off ms n + ms n; omega
def MarkedSS (k n : Nat) (ms : Nat → Nat) (xf : Nat → List Value) : Prop := ∀ i, i < n → Marked (k + off ms i) (ms i) (xf i)

theorem eqInt64SS_same (A A' : Option Addr) (n c c' : Nat) (zf : Nat → List Int) (w : World) (B : Nat) (hr : RSS w B A n zf) (hr' : RSS w B A' n zf) (hn : n ≤ 9223372036854775807) (hm : ∀ k, k < n → (zf k).length ≤ 9223372036854775807) :
    Calls Try.prog 45 #[.slice A n c, .slice A' n c'] w fun e w' => e = .returned (.bool true) ∧ ∃ m, w' = w.drewN m := by
  have H0 := Lib.hid hr
  have H1 := Lib.hid hr'
  have HM := Lib.hid hm
  clear hr hr' hm
  go_enter Try.func45, Try.ntmps45
  go_wp2
  go_loopw [5] (fun i wr => ∃ (k : Nat), k ≤ n ∧ i = .int .i64 k ∧ Hid (∃ m, wr = w.drewN m)) (fun i _ => n - (intOf i).toNat)
  case atStart => exact ⟨0, by omega, rfl, Lib.hid ⟨0, rfl⟩⟩
  case round =>
    obtain ⟨k, hk, rfl, hw⟩ := hrel
    by_cases hlt : k < n
    · obtain ⟨a, A1, c1, rfl, _, hcell, hri⟩ := H0.out k hlt
      obtain ⟨a', A1', c1', rfl, _, hcell', hri'⟩ := H1.out k hlt
      have hk0 : (0 : Int) ≤ (k : Int) := Int.natCast_nonneg _
      have hk1 : (k : Int) < (n : Int) := by omega
      have hx : wr.cell? (a.add k) = some (.slice A1 (zf k).length c1) := by obtain ⟨m, rfl⟩ := hw.out; exact hcell
      have hx' : wr.cell? (a'.add k) = some (.slice A1' (zf k).length c1') := by obtain ⟨m, rfl⟩ := hw.out; exact hcell'
      have HR : Hid (RI wr B A1 (zf k).length (zf k)) := Lib.hid (by obtain ⟨m, rfl⟩ := hw.out; exact hri)
      have HR' : Hid (RI wr B A1' (zf k).length (zf k)) := Lib.hid (by obtain ⟨m, rfl⟩ := hw.out; exact hri')
      have HL := HM.out k hlt
      clear hcell hcell' hri hri'
      go_wp2
      go_quiet ((go_at_call 20; exact Calls.quiet_of (eqInt64S_same A1 A1' _ c1 c1' (zf k) _ B HR.out HR'.out HL)))
      go_wp2
      go_roundw
      case rel => exact ⟨k + 1, by omega, by go_num, Lib.hid (by obtain ⟨m, rfl⟩ := hw.out; exact ⟨m + nq, World.drewN_drewN _ _ _⟩)⟩
      case measure => simp [intOf]; omega
    · obtain rfl : k = n := by omega
      go_wp2
      go_ret
      exact ⟨rfl, hw.out⟩

theorem markInt64SS_any (A : Option Addr) (n c base k : Nat) (vf : Nat → Value) (ms : Nat → Nat) (xf : Nat → List Value) (w : World) (hown : OwnSS w base A n c vf ms xf) (hn : n ≤ 1099511627776) (hk : k + off ms n ≤ 1099511627776) :
    Calls Try.prog 46 #[.slice A n c, .int .i64 k] w fun e w' => e = .returned (.int .i64 ((k + off ms n : Nat) : Int)) ∧ (∃ yf, OwnSS w' base A n c vf ms yf ∧ MarkedSS k n ms yf) ∧ Below base w w' := by
  have H := Lib.hid hown
  clear hown
  have hk0 : k ≤ 1099511627776 := by omega
  go_enter Try.func46, Try.ntmps46
  go_wp2
  go_loopw [1, 5] (fun vk vi wr => ∃ (j : Nat) (yf : Nat → List Value), j ≤ n ∧ vk = .int .i64 ((k + off ms j : Nat) : Int) ∧ vi = .int .i64 j ∧ Hid (OwnSS wr base A n c vf ms yf) ∧ Hid (MarkedSS k j ms yf) ∧ Hid (Below base w wr)) (fun _ vi _ => n - (intOf vi).toNat)
  case atStart => exact ⟨0, xf, by omega, by simp [off], rfl, H, fun i hi => by omega, Lib.hid (Below.refl _ _)⟩
  case round =>
    obtain ⟨j, yf, hj, rfl, rfl, ho, hm, hb⟩ := hrel
    by_cases hlt : j < n
    · obtain ⟨g, rfl, _, hcell⟩ := ho.out.cell hlt
      obtain ⟨A', c', hv⟩ := ho.out.form j hlt
      have hin := ho.out.inner j hlt
      rw [hv] at hcell hin
      have HI := Lib.hid hin
      have HV := Lib.hid hv
      have o1 : off ms (j + 1) ≤ off ms n := off_le ms hlt
      have o2 : off ms (j + 1) = off ms j + ms j := rfl
      have o3 : ms j ≤ 1099511627776 := by omega
      have o4 : k + off ms j ≤ 1099511627776 := by omega
      have O2 := Lib.hid o2
      clear hin hv o1 o2
      go_wp2_with (go_at_call 23; refine (markInt64S_any A' (ms j) c' base (k + off ms j) (yf j) _ HI.out o3 o4).mono ?_; rintro e w2 ⟨rfl, ⟨ys, hy, hym⟩, hg⟩; have HY := Lib.hid hy; have HM := Lib.hid hym; have HG := Lib.hid hg; clear hy hym hg)
      go_roundw
      case rel =>
        have hne : ∀ i, i < n → i ≠ j → (vf i).ownBlock = none ∨ (vf i).ownBlock ≠ (Value.slice A' (ms j) c').ownBlock := fun i hi hij => by rw [← HV.out]; exact ho.out.apart i j hi hlt hij
        refine ⟨j + 1, fun i => if i = j then ys else yf i, by omega, vintS (by have := O2.out; omega), by go_num, Lib.hid ⟨?_, ho.out.form, ?_, ho.out.apart⟩, Lib.hid ?_, Lib.hid ?_⟩
        · exact ho.out.outer.kept HG.out (block_type ho.out.outer HI.out (by decide))
        · intro i hi
          by_cases e : i = j
          · subst e
            rw [HV.out]; simpa using HY.out
          · simp only [if_neg e]
            exact (ho.out.inner i hi).kept HG.out (hne i hi e)
        · intro i hi
          by_cases e : i = j
          · subst e; simpa using HM.out
          · simp only [if_neg e]; exact hm.out i (by omega)
        · exact hb.out.grown HG.out (by have := World.ownsRow.lt ho.out.outer g rfl; omega) (fun k hk => (Own.lt HI.out k hk).1)
      case measure => simp [intOf]; omega
    · obtain rfl : j = n := by omega
      go_wp2
      go_ret
      exact ⟨rfl, ⟨yf, ho.out, hm.out⟩, hb.out⟩

theorem heldInt64SS_any (A : Option Addr) (n c base k : Nat) (vf : Nat → Value) (ms : Nat → Nat) (xf : Nat → List Value) (w : World) (hown : OwnSS w base A n c vf ms xf) (hm : MarkedSS k n ms xf) (hn : n ≤ 1099511627776) (hk : k + off ms n ≤ 1099511627776) :
    Calls Try.prog 47 #[.slice A n c, .int .i64 k] w fun e w' => e = .returned (.int .i64 ((k + off ms n : Nat) : Int)) ∧ w = w' := by
  have H := Lib.hid hown
  have M := Lib.hid hm
  clear hown hm
  have hk0 : k ≤ 1099511627776 := by omega
  go_enter Try.func47, Try.ntmps47
  go_wp2
  go_loop [1, 5] (fun vk vi => ∃ (j : Nat), j ≤ n ∧ vk = .int .i64 ((k + off ms j : Nat) : Int) ∧ vi = .int .i64 j) (fun _ vi => n - (intOf vi).toNat)
  case atStart => exact ⟨0, by omega, by simp [off], rfl⟩
  case round =>
    obtain ⟨j, hj, rfl, rfl⟩ := hrel
    by_cases hlt : j < n
    · obtain ⟨g, rfl, _, hcell⟩ := H.out.cell hlt
      obtain ⟨A', c', hv⟩ := H.out.form j hlt
      have hin := H.out.inner j hlt
      rw [hv] at hcell hin
      have HI := Lib.hid hin
      have o1 : off ms (j + 1) ≤ off ms n := off_le ms hlt
      have o2 : off ms (j + 1) = off ms j + ms j := rfl
      have o3 : ms j ≤ 1099511627776 := by omega
      have o4 : k + off ms j ≤ 1099511627776 := by omega
      have O2 := Lib.hid o2
      have MM := Lib.hid (M.out j hlt)
      clear hin hv o1 o2
      go_wp2_with (go_at_call 24; refine (heldInt64S_any A' (ms j) c' base (k + off ms j) (xf j) _ HI.out MM.out o3 o4).mono ?_; rintro e w2 ⟨rfl, rfl⟩)
      go_round
      case rel => exact ⟨j + 1, by omega, vintS (by have := O2.out; omega), by go_num⟩
      case measure => simp [intOf]; omega
    · obtain rfl : j = n := by omega
      go_wp2
      go_ret
      exact ⟨rfl, rfl⟩
end Go.Proofs.Ytaigcmhfhdapdaa
