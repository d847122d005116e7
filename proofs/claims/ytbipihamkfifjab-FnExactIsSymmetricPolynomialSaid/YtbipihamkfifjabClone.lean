/- slices.Clone and slices.Reverse on slices of int64: contracts. Conditions: stated at each theorem. -/
import Derived.Test.YtbipihamkfifjabTrim
import Derived.WalkSpells
import Derived.RegionTactic
import Derived.BigRegion
namespace Go.Proofs.Ytbipihamkfifjab
open Go.ChangeShapes Go.WideShapes Go.ChangeAt Go.RowKit
set_option linter.unusedVariables false

theorem clone_any (v : Value) (zs : List Int) (w : World) (B : Nat) (h : ReadI w B v zs) (hn : zs.length ≤ 1099511627776) (hB : B ≤ w.heap.size) :
    Calls Try.prog 37 #[v] w fun e w' => ∃ v', e = .returned v' ∧ OwnI w' w.heap.size w'.heap.size v' zs ∧ Below w.heap.size w w' := by
  obtain ⟨n, A, c, rfl, hr, HL, HN, hnc, HF, hcm⟩ := h.split2
  rw [HL.out] at hn
  have H0 := Lib.hid hr
  clear hr h
  obtain ⟨i0, hi0, hz0, hz1, hz2⟩ := info_parts int_info
  have hnil := fun (w : World) (A : Option Addr) (n c : Nat) => Lib.run_eql_slice_nil (P := Try.prog) w 22 2 A n c 0 0 Try.underlying22
  cases A with
  | none =>
    obtain rfl : c = 0 := HN.out rfl
    obtain rfl : n = 0 := by omega
    have Z : zs = [] := List.eq_nil_of_length_eq_zero HL.out
    subst Z
    go_enter Try.func37, Try.ntmps37
    go_wp2
    go_ret
    exact ⟨_, rfl, OwnI.nil _ _, Below.refl _ _⟩
  | some a =>
    go_enter Try.func37, Try.ntmps37
    go_wp2_with (at_builtin; refine wpList_append_own _ rfl _ _ 22 rfl w.heap.size 2 i0 (.int .i64 0) 1 8 Try.underlying22 hi0 hz0 hz1 hz2 rfl (by decide) _ 0 [] rfl (World.ownsRow_made w #[] 0 (Nat.le_refl _) (by unfold maxLen; omega) rfl) a n c (zs.map (.int .i64)) rfl ?_ ?_ ?_ ?_ ?_ ?_ ?_; (simp [HL.out]); (exact row_cells H0.out HL.out hB); (exact ints_oneCell _ _); (unfold maxLen; omega); (omega); (simp); intro v1 w1 hown1 hgrow _)
    go_ret
    refine ⟨_, rfl, OwnI.mk' (n := n) ?_, ?_⟩
    · simp only [Nat.zero_add, List.nil_append] at hown1
      exact hown1
    · exact ((Below.refl _ _).alloc (Nat.le_refl _) _).grown hgrow (by simp) (fun k hk => by cases hk; exact Nat.le_refl _)

/-- p with its first i numbers and its last i exchanged. -/
def revAt (p : List Int) (i : Nat) : List Int := (List.range p.length).map fun x => if x < i ∨ p.length - 1 - i < x then p.getD (p.length - 1 - x) 0 else p.getD x 0
theorem revAt_len (p : List Int) (i : Nat) : (revAt p i).length = p.length := by simp [revAt]
theorem revAt_zero (p : List Int) : revAt p 0 = p := by
  apply List.ext_getElem
  · simp [revAt]
  · intro i h1 h2
    simp only [revAt, List.getElem_map, List.getElem_range]
    rw [if_neg (by omega)]; simp [List.getD, h2]
theorem revAt_end (p : List Int) {i : Nat} (h : p.length ≤ 2 * i + 1) (h2 : 2 * i ≤ p.length) : revAt p i = p.reverse := by
  apply List.ext_getElem
  · simp [revAt]
  · intro x h1 h3
    simp only [revAt, List.getElem_map, List.getElem_range, List.getElem_reverse]
    have hx : x < p.length := by simpa using h3
    split
    · simp [List.getD, show p.length - 1 - x < p.length by omega]
    · have e : p.length - 1 - x = x := by omega
      simp only [e]; simp [List.getD, hx]
theorem revAt_at (p : List Int) {i x : Nat} (h : i ≤ x) (h2 : x ≤ p.length - 1 - i) (h3 : x < p.length) : (revAt p i)[x]? = some (p.getD x 0) := by
  simp only [revAt, List.getElem?_map, List.getElem?_range h3, Option.map_some]
  rw [if_neg (by omega)]
theorem revAt_set (p : List Int) {i : Nat} (h : i < p.length - 1 - i) : revAt p (i + 1) = ((revAt p i).set i (p.getD (p.length - 1 - i) 0)).set (p.length - 1 - i) (p.getD i 0) := by
  apply List.ext_getElem
  · simp [revAt]
  · intro x h1 h2
    have hx : x < p.length := by simpa [revAt] using h1
    simp only [revAt, List.getElem_map, List.getElem_range, List.getElem_set]
    by_cases e1 : p.length - 1 - i = x
    · rw [if_pos e1, if_pos (by omega)]
      congr 1; omega
    · rw [if_neg e1]
      by_cases e2 : i = x
      · subst e2; rw [if_pos rfl, if_pos (by omega)]
      · rw [if_neg e2]
        by_cases e3 : x < i ∨ p.length - 1 - i < x
        · rw [if_pos e3, if_pos (by omega)]
        · rw [if_neg e3, if_neg (by omega)]

theorem Only.drew {lo hi : Nat} {a w : World} (h : Only lo hi a w) : Only lo hi a w.drew := ⟨h.os, h.tape, h.output, h.size, h.block⟩
set_option maxRecDepth 100000 in
theorem reverse_any (A : Option Addr) (n c : Nat) (p : List Int) (w : World) (lo hi : Nat) (h : OwnI w lo hi (.slice A n c) p) (hl : p.length = n) (hn : n ≤ 1099511627776) :
    Calls Try.prog 38 #[.slice A n c] w fun e w' => e = .returned (.tuple #[]) ∧ OwnI w' lo hi (.slice A n c) p.reverse ∧ Only lo hi w w' := by
  have HO := Lib.hid h
  have HL := Lib.hid hl
  clear h hl
  go_enter Try.func38, Try.ntmps38
  go_wp2
  go_loopw [2, 3] (fun vi vj wr => ∃ (i : Nat) (y : Int), 2 * i ≤ n ∧ vi = .int .i64 i ∧ vj = .int .i64 y ∧ Hid (y = (n : Int) - 1 - i) ∧ (-1 ≤ y ∧ y ≤ n) ∧ Hid (OwnI wr lo hi (.slice A n c) (revAt p i)) ∧ Hid (Only lo hi w wr)) (fun _ vj _ => (intOf vj + 1).toNat)
  case atStart => exact ⟨0, (n : Int) - 1, by omega, rfl, rfl, Lib.hid (by omega), by omega, Lib.hid (by rw [revAt_zero]; exact HO.out), Lib.hid (Only.refl _ _ _)⟩
  case round =>
    obtain ⟨i, y, hi2, rfl, rfl, hy, hyb, ho, hb⟩ := hrel
    by_cases hlt : (i : Int) < y
    · obtain ⟨j, rfl⟩ : ∃ j : Nat, y = (j : Int) := ⟨y.toNat, by omega⟩
      have hj : j = n - 1 - i := by have := hy.out; omega
      have HJ := Lib.hid hj
      have hij : i < j := by omega
      have hjn : j < n := by have := HJ.out; omega
      have HRL : Hid ((revAt p i).length = n) := Lib.hid (by rw [revAt_len, HL.out])
      obtain ⟨g, rfl, hg1, hg2, hci, hfi⟩ := own_cell (j := i) ho.out HRL.out (by omega) (revAt_at p (Nat.le_refl _) (by rw [HL.out]; omega) (by rw [HL.out]; omega))
      obtain ⟨g', e, _, _, hcj, hfj⟩ := own_cell (j := j) ho.out HRL.out (by omega) (revAt_at p (by omega) (by rw [HL.out]; omega) (by rw [HL.out]; omega))
      simp only [Option.some.injEq, Addr.mk.injEq, and_true] at e
      subst e
      have HS : Hid (revAt p (i + 1) = ((revAt p i).set i (p[j]?.getD 0)).set j (p[i]?.getD 0)) := Lib.hid (by rw [revAt_set p (by rw [HL.out]; omega), HL.out, ← hj, getD_opt, getD_opt])
      rw [getD_opt] at hci hcj
      clear hj
      go_wp2
      go_region
      all_goals
        go_wp2
        go_roundw
        case rel => exact ⟨i + 1, (j : Int) - 1, by have := hy.out; omega, by go_num, rfl, Lib.hid (by have := hy.out; omega), by omega, Lib.hid (by rw [HS.out]; exact own_store (own_store ho.out HRL.out _) (by rw [List.length_set]; exact HRL.out) _), Lib.hid (((hb.out.setCell (p := ⟨g, i, none⟩) hg1 hg2 _).setCell (p := ⟨g, j, none⟩) hg1 hg2 _).drew)⟩
        case measure => simp [intOf] <;> omega
    · have HE : Hid (revAt p i = p.reverse) := Lib.hid (revAt_end p (by have := hy.out; rw [HL.out]; omega) (by rw [HL.out]; omega))
      go_wp2
      go_end0
      exact ⟨rfl, HE.out ▸ ho.out, hb.out⟩
end Go.Proofs.Ytbipihamkfifjab
