/- Slices of int64 that a call has made: words, and contracts of laws.markInt64S and laws.heldInt64S. Conditions: stated at each theorem. -/
import Derived.Test.YtncgkoanckefmaaSlice
namespace Go.Proofs.Ytncgkoanckefmaa
open Go.ChangeShapes Go.WideShapes Go.ChangeAt Go.RowKit
set_option linter.unusedVariables false

/-- The slice value v with n elements is the call's own from block base on, and holds xs. -/
def Own (w : World) (base : Nat) (v : Value) (n : Nat) (xs : List Value) : Prop := w.ownsRow base 2 1 v n xs
theorem Own.kept {w w' : World} {base n : Nat} {v : Value} {xs : List Value} {row : Option Nat} (h : Own w base v n xs) (hg : w.grownBy w' row) (hne : v.ownBlock = none ∨ v.ownBlock ≠ row) : Own w' base v n xs := World.ownsRow.kept h hg hne
theorem grown_of_below {w w' : World} (h : Below w.heap.size w w') (row : Option Nat) : w.grownBy w' row := ⟨h.os, h.tape, h.output, h.size, fun i hi _ => h.block i hi⟩
theorem grown_trans {a b c : World} {row : Option Nat} (h : a.grownBy b row) (k : b.grownBy c row) : a.grownBy c row :=
  ⟨k.os.trans h.os, k.tape.trans h.tape, k.output.trans h.output, Nat.le_trans h.size k.size, fun i hi hn => (k.block i (Nat.lt_of_lt_of_le hi h.size) hn).trans (h.block i hi hn)⟩
theorem grown_setCell {a w : World} {g : Nat} (h : a.grownBy w (some g)) {p : Addr} (hp : p.block = g) (u : Value) : a.grownBy (w.setCell p u) (some g) :=
  ⟨h.os, h.tape, h.output, by simpa [World.setCell] using h.size, fun i hi hne => (Below.heap_setCell w p u i (by
    rintro rfl
    exact hne (by rw [hp]))).trans (h.block i hi hne)⟩
theorem Own.below {w w' : World} {base n : Nat} {v : Value} {xs : List Value} (h : Own w base v n xs) (hb : Below w.heap.size w w') : Own w' base v n xs :=
  h.kept (grown_of_below hb none) (by cases v.ownBlock <;> simp)
theorem Own.drewN {w : World} {base n : Nat} {v : Value} {xs : List Value} (h : Own w base v n xs) (m : Nat) : Own (w.drewN m) base v n xs := h
theorem Own.nil (w : World) (base : Nat) : Own w base (.slice none 0 0) 0 [] := World.ownsRow_nil w base _ _
theorem Own.lt {w : World} {base n : Nat} {v : Value} {xs : List Value} (h : Own w base v n xs) : ∀ k, v.ownBlock = some k → base ≤ k ∧ k < w.heap.size := World.ownsRow.lt h
theorem Own.len {w : World} {base n : Nat} {v : Value} {xs : List Value} (h : Own w base v n xs) : xs.length = n := by have := h.1; omega
theorem Own.apart {w w' : World} {base base' n n' : Nat} {v v' : Value} {xs xs' : List Value} (h : Own w base v n xs) (h' : Own w' base' v' n' xs') (hlt : w.heap.size ≤ base') : v.ownBlock = none ∨ v.ownBlock ≠ v'.ownBlock := by
  cases e : v.ownBlock with
  | none => exact .inl rfl
  | some k =>
    refine .inr fun e' => ?_
    have h1 := h.lt k e
    have h2 := h'.lt k e'.symm
    omega
/-- An own slice of integers reads as them. -/
theorem Own.reads {w : World} {base n c : Nat} {A : Option Addr} {zs : List Int} (h : Own w base (.slice A n c) n (zs.map (.int .i64))) : RI w w.heap.size A n zs := by
  have hl := h.len
  refine ⟨by simpa using hl, fun k hk => ?_⟩
  rcases h.2 with ⟨e, e0⟩ | ⟨g, cap, cur, e, hb, hg, hnc, hcm, hcs, hcur⟩
  · omega
  · simp only [Value.slice.injEq] at e
    obtain ⟨rfl, _, rfl⟩ := e
    refine ⟨_, rfl, (Array.getElem?_eq_some_iff.1 hg).1, ?_⟩
    have h2 : w.ownsRow base 2 1 (.slice (some ⟨g, 0, none⟩) n c) n (zs.map (.int .i64)) := h
    have h3 := h2.cellAt k (by omega)
    have h4 : (⟨g, 0, none⟩ : Addr).add k = ⟨g, k, none⟩ := by unfold Addr.add; split <;> simp_all
    rw [h4, h3]
    have hk' : k < zs.length := by simpa using (show k < (zs.map (Value.int .i64)).length by omega)
    simp [hk']
/-- The numbers k, k + 1, .. -/
def Marked (k n : Nat) (xs : List Value) : Prop := ∀ i, i < n → xs[i]? = some (.int .i64 ((k + i : Nat) : Int))

theorem markInt64S_any (A : Option Addr) (n c base k : Nat) (xs : List Value) (w : World) (hown : Own w base (.slice A n c) n xs) (hn : n ≤ 1099511627776) (hk : k ≤ 1099511627776) :
    Calls Try.prog 24 #[.slice A n c, .int .i64 k] w fun e w' => e = .returned (.int .i64 ((k + n : Nat) : Int)) ∧ (∃ ys, Own w' base (.slice A n c) n ys ∧ Marked k n ys) ∧ w.grownBy w' (Value.slice A n c).ownBlock := by
  rcases hown.2 with ⟨e, e0⟩ | ⟨g, cap, cur, e, hb, hg, hnc, hcm, hcs, hcur⟩
  · subst e0
    simp only [Value.slice.injEq] at e
    obtain ⟨rfl, _, rfl⟩ := e
    have H := Lib.hid hown
    clear hown
    go_enter Try.func24, Try.ntmps24
    go_wp2
    go_loopw [1, 5] (fun vk vi wr => vk = .int .i64 k ∧ vi = .int .i64 0 ∧ wr = w) (fun _ _ _ => 0)
    case atStart => exact ⟨rfl, rfl, rfl⟩
    case round =>
      obtain ⟨rfl, rfl, rfl⟩ := hrel
      go_wp2
      go_ret
      exact ⟨rfl, ⟨xs, H.out, fun i hi => by omega⟩, World.grownBy.refl _ _⟩
  · simp only [Value.slice.injEq] at e
    obtain ⟨rfl, _, rfl⟩ := e
    have H := Lib.hid hown
    clear hown hg hcs hcur
    go_enter Try.func24, Try.ntmps24
    go_wp2
    go_loopw [1, 5] (fun vk vi wr => ∃ (j : Nat) (ys : List Value), j ≤ n ∧ vk = .int .i64 ((k + j : Nat) : Int) ∧ vi = .int .i64 j ∧ Hid (Own wr base (.slice (some ⟨g, 0, none⟩) n c) n ys) ∧ Hid (Marked k j ys) ∧ Hid (w.grownBy wr (some g))) (fun _ vi _ => n - (intOf vi).toNat)
    case atStart => exact ⟨0, xs, by omega, rfl, rfl, H, fun i hi => by omega, World.grownBy.refl _ _⟩
    case round =>
      obtain ⟨j, ys, hj, rfl, rfl, ho, hm, hgr⟩ := hrel
      by_cases hlt : j < n
      · have hlen : j < ys.length := by rw [ho.out.len]; exact hlt
        have hcell : wr.cell? ⟨g, j, none⟩ = some ys[j] := by
          rw [World.ownsRow.cellAt ho.out j (by omega), List.getElem?_eq_getElem hlen]
        have hfz := World.ownsRow.frozenAt ho.out j
        go_wp2
        go_roundw
        case rel =>
          refine ⟨j + 1, ys.set j (.int .i64 ((k + j : Nat) : Int)), by omega, by go_num, by go_num, Lib.hid ?_, Lib.hid ?_, Lib.hid (grown_setCell hgr.out rfl _)⟩
          · have e : (k : Int) + (j : Int) = ((k + j : Nat) : Int) := by omega
            rw [e]
            exact (World.ownsRow.stored ho.out j _).1
          · intro i hi
            rw [List.getElem?_set]
            by_cases h1 : j = i
            · subst h1; simp [hlen]
            · rw [if_neg h1]; exact hm.out i (by omega)
        case measure => simp [intOf]; omega
      · obtain rfl : j = n := by omega
        go_wp2
        go_ret
        exact ⟨rfl, ⟨ys, ho.out, hm.out⟩, hgr.out⟩

theorem heldInt64S_any (A : Option Addr) (n c base k : Nat) (xs : List Value) (w : World) (hown : Own w base (.slice A n c) n xs) (hm : Marked k n xs) (hn : n ≤ 1099511627776) (hk : k ≤ 1099511627776) :
    Calls Try.prog 25 #[.slice A n c, .int .i64 k] w fun e w' => e = .returned (.int .i64 ((k + n : Nat) : Int)) ∧ w = w' := by
  have hform : 0 < n → ∃ g, A = some ⟨g, 0, none⟩ := by
    intro h0
    rcases hown.2 with ⟨e, e0⟩ | ⟨g, cap, cur, e, _⟩
    · omega
    · simp only [Value.slice.injEq] at e
      exact ⟨g, e.1⟩
  have H := Lib.hid hown
  have M := Lib.hid hm
  clear hown hm
  go_enter Try.func25, Try.ntmps25
  go_wp2
  go_loop [1, 5] (fun vk vi => ∃ (j : Nat), j ≤ n ∧ vk = .int .i64 ((k + j : Nat) : Int) ∧ vi = .int .i64 j) (fun _ vi => n - (intOf vi).toNat)
  case atStart => exact ⟨0, by omega, rfl, rfl⟩
  case round =>
    obtain ⟨j, hj, rfl, rfl⟩ := hrel
    by_cases hlt : j < n
    · obtain ⟨g, rfl⟩ := hform (by omega)
      have hcell : w.cell? ⟨g, j, none⟩ = some (.int .i64 ((k + j : Nat) : Int)) := by
        rw [World.ownsRow.cellAt H.out j (by omega), M.out j hlt]
      have hcell' : w.cell? ((⟨g, 0, none⟩ : Addr).add j) = some (.int .i64 ((k + j : Nat) : Int)) := by
        have h4 : (⟨g, 0, none⟩ : Addr).add j = ⟨g, j, none⟩ := by unfold Addr.add; split <;> simp_all
        rw [h4]; exact hcell
      go_wp2
      go_round
      case rel => exact ⟨j + 1, by omega, by go_num, by go_num⟩
      case measure => simp [intOf]; omega
    · obtain rfl : j = n := by omega
      go_wp2
      go_ret
      exact ⟨rfl, rfl⟩
end Go.Proofs.Ytncgkoanckefmaa
