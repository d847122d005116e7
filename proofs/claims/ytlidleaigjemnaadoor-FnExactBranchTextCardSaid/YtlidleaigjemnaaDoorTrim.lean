/- Copies of lists, and lists without their zeros at the end: contracts of spec.l01Own, spec.l02Trim, impl.withoutEndZeros. Conditions: stated at each theorem. -/
import Derived.Test.YtlidleaigjemnaaDoorKeep
import Derived.Test.YtlidleaigjemnaaDoorPoly
import Derived.Test.YtlidleaigjemnaaDoorPolyIs
import Derived.Maps.AppendAt
import Derived.Deep.AppendLies
import Derived.Laws.AppendOwnNone
namespace Go.Proofs.YtlidleaigjemnaaDoor
open Go.ChangeShapes Go.WideShapes Go.ChangeAt Go.RowKit
set_option linter.unusedVariables false

/-- A slice cut at its end is read, and owned, as its first numbers. -/
theorem RI.cut {w : World} {B n : Nat} {A : Option Addr} {zs : List Int} (h : RI w B A n zs) {k : Nat} (hk : k ≤ n) : RI w B A k (zs.take k) :=
  ⟨by have := h.1; simp; omega, fun j hj => by
    obtain ⟨a, e, hlt, hc⟩ := h.2 j (by omega)
    exact ⟨a, e, hlt, by rw [hc]; simp [List.getD, hj]⟩⟩
theorem OwnI.cut {w : World} {lo hi n c : Nat} {A : Option Addr} {zs : List Int} (h : OwnI w lo hi (.slice A n c) zs) (hl : zs.length = n) {k : Nat} (hk : k ≤ n) : OwnI w lo hi (.slice A k c) (zs.take k) := by
  obtain ⟨h1, h2, h3⟩ := h
  have hlk : (zs.take k).length = k := by simp; omega
  refine ⟨?_, ?_, h3⟩
  · rw [hlk]
    refine ⟨by simp; omega, ?_⟩
    rcases h1.2 with ⟨e, e0⟩ | ⟨g, cap, cur, e, hb, hg, hnc, hcm, hcs, hcur⟩
    · simp only [Value.slice.injEq] at e
      obtain ⟨rfl, rfl, rfl⟩ := e
      obtain rfl : k = 0 := by omega
      exact .inl ⟨rfl, rfl⟩
    · simp only [Value.slice.injEq] at e
      obtain ⟨rfl, rfl, rfl⟩ := e
      refine .inr ⟨g, c, cur, rfl, hb, hg, by omega, hcm, hcs, ?_⟩
      simp only [Nat.mul_one] at hcur ⊢
      rw [List.map_take, ← hcur, List.take_take]
      congr 1; omega
  · intro j hj
    exact h2 j (by cases A with | none => cases hj | some a => exact hj)

theorem own_less {w : World} {lo lo' hi : Nat} {v : Value} {zs : List Int} (h : OwnI w lo hi v zs) (hl : lo' ≤ lo) : OwnI w lo' hi v zs := by
  obtain ⟨⟨h0, h1⟩, h2, h3⟩ := h
  refine ⟨⟨h0, ?_⟩, h2, h3⟩
  rcases h1 with hn | ⟨g, cap, cur, e, hb, rest⟩
  · exact .inl hn
  · exact .inr ⟨g, cap, cur, e, by omega, rest⟩
theorem only_alloc (w : World) (o : Obj) (lo hi : Nat) : Only lo hi w (w.alloc o) := ⟨rfl, rfl, rfl, by simp, fun b hb _ => Below.heap_alloc _ _ _ hb⟩
theorem Only.setCell {lo hi : Nat} {a w : World} (h : Only lo hi a w) {p : Addr} (h1 : lo ≤ p.block) (h2 : p.block < hi) (u : Value) : Only lo hi a (w.setCell p u) :=
  h.trans ⟨rfl, rfl, rfl, by simp [World.setCell], fun b hb hn => Below.heap_setCell _ _ _ _ (by rintro rfl; exact hn ⟨h1, h2⟩)⟩
theorem ReadI.ri {w : World} {B n c : Nat} {A : Option Addr} {zs : List Int} (h : ReadI w B (.slice A n c) zs) : RI w B A n zs := by
  obtain ⟨A', c', e, h, _⟩ := h
  simp only [Value.slice.injEq] at e
  obtain ⟨rfl, rfl, rfl⟩ := e
  exact h
theorem own_cell {w : World} {lo hi n c j : Nat} {A : Option Addr} {zs : List Int} {z : Int} (h : OwnI w lo hi (.slice A n c) zs) (hl : zs.length = n) (hj : j < n) (hz : zs[j]? = some z) :
    ∃ g, A = some ⟨g, 0, none⟩ ∧ lo ≤ g ∧ g < hi ∧ w.cell? ⟨g, j, none⟩ = some (.int .i64 z) ∧ w.frozen? ⟨g, j, none⟩ = false := by
  subst hl
  obtain ⟨h1, h2, h3⟩ := h
  rcases h1.2 with ⟨e, e0⟩ | ⟨g, cap, cur, e, hb, hg, hnc, hcm, hcs, hcur⟩
  · omega
  · have e2 := e
    simp only [Value.slice.injEq] at e
    obtain ⟨rfl, h0, rfl⟩ := e
    refine ⟨g, rfl, hb, h2 g rfl, ?_, World.ownsRow.frozenAt (h1 : w.ownsRow lo 2 1 (.slice (some ⟨g, 0, none⟩) zs.length c) zs.length _) j⟩
    rw [World.ownsRow.cellAt (h1 : w.ownsRow lo 2 1 (.slice (some ⟨g, 0, none⟩) zs.length c) zs.length _) j (by omega), List.getElem?_map, hz]
    rfl
theorem own_at {w : World} {lo hi n c j : Nat} {A : Option Addr} {zs : List Int} (h : OwnI w lo hi (.slice A n c) zs) (hl : zs.length = n) (hj : j < n) :
    ∃ g, A = some ⟨g, 0, none⟩ ∧ lo ≤ g ∧ g < hi ∧ w.cell? ⟨g, j, none⟩ = some (.int .i64 (zs[j]?.getD 0)) ∧ w.frozen? ⟨g, j, none⟩ = false :=
  own_cell h hl hj (by simp [show j < zs.length by omega])
theorem own_store {w : World} {lo hi n c j g : Nat} {zs : List Int} (h : OwnI w lo hi (.slice (some ⟨g, 0, none⟩) n c) zs) (hl : zs.length = n) (z : Int) :
    OwnI (w.setCell ⟨g, j, none⟩ (.int .i64 z)) lo hi (.slice (some ⟨g, 0, none⟩) n c) (zs.set j z) := by
  obtain ⟨h1, h2, h3⟩ := h
  subst hl
  refine ⟨?_, h2, by simpa [World.setCell] using h3⟩
  have := (World.ownsRow.stored (h1 : w.ownsRow lo 2 1 (.slice (some ⟨g, 0, none⟩) zs.length c) zs.length _) j (.int .i64 z)).1
  rw [List.length_set, List.map_set]
  exact this
theorem OwnI.raise {w : World} {lo hi hi' : Nat} {v : Value} {zs : List Int} (h : OwnI w lo hi v zs) (h1 : hi ≤ hi') (h2 : hi' ≤ w.heap.size) : OwnI w lo hi' v zs :=
  ⟨h.1, fun k hk => Nat.lt_of_lt_of_le (h.2.1 k hk) h1, h2⟩
theorem trim_as {L : List Int} {n : Nat} (h : L.length = n) : L.take (trimN L n) = trimL L := by subst h; rfl
theorem reads_as {w : World} {lo hi n c : Nat} {A : Option Addr} {zs : List Int} (h : OwnI w lo hi (.slice A n c) zs) (hl : zs.length = n) : RI w w.heap.size A n zs := by
  subst hl
  exact h.1.reads
theorem row_cells {w : World} {B n : Nat} {a : Addr} {zs : List Int} {o : Obj} (h : RI w B (some a) n zs) (hl : zs.length = n) (hB : B ≤ w.heap.size) : ∀ j u, (zs.map (Value.int .i64))[j]? = some u → (w.alloc o).cell? (a.add j) = some u := by
  intro j u hu
  have hj : j < n := by
    have := (List.getElem?_eq_some_iff.1 hu).1
    simpa [hl] using this
  obtain ⟨a', e, hlt, hc⟩ := h.2 j hj
  cases e
  rw [(Below.alloc (Below.refl w.heap.size w) (Nat.le_refl _) o).cell (by rw [add_block]; omega), hc]
  rw [List.getElem?_map] at hu
  have hj' : j < zs.length := by omega
  simp only [List.getElem?_eq_getElem hj', Option.map_some, Option.some.injEq] at hu
  rw [← hu]; simp [List.getD, hj']

theorem l01Own_any (v : Value) (zs : List Int) (w : World) (B : Nat) (h : ReadI w B v zs) (hn : zs.length ≤ 1099511627776) (hB : B ≤ w.heap.size) :
    Calls Tryd.prog 86 #[v] w fun e w' => ∃ v', e = .returned v' ∧ OwnI w' w.heap.size w'.heap.size v' zs ∧ Below w.heap.size w w' := by
  obtain ⟨n, A, c, rfl, hr, HL, HN, hnc, HF, hcm⟩ := h.split2
  rw [HL.out] at hn
  have H0 := Lib.hid hr
  clear hr h
  obtain ⟨i0, hi0, hz0, hz1, hz2⟩ := info_parts int_info
  cases A with
  | none =>
    obtain rfl : c = 0 := HN.out rfl
    obtain rfl : n = 0 := by omega
    have Z : zs = [] := List.eq_nil_of_length_eq_zero HL.out
    subst Z
    go_enter Tryd.func86, Tryd.ntmps86
    go_wp2_with (at_builtin; refine wpList_append_own_none rfl _ _ 37 rfl w.heap.size 2 i0 1 Tryd.underlying37 hi0 _ 0 [] rfl (World.ownsRow_made w #[] 0 (Nat.le_refl _) (by unfold maxLen; omega) rfl) rfl ?_)
    go_ret
    exact ⟨_, rfl, OwnI.mk' (n := 0) (World.ownsRow_made w #[] 0 (Nat.le_refl _) (by unfold maxLen; omega) rfl), (Below.refl _ _).alloc (Nat.le_refl _) _⟩
  | some a =>
    go_enter Tryd.func86, Tryd.ntmps86
    go_wp2_with (at_builtin; refine wpList_append_own _ rfl _ _ 37 rfl w.heap.size 2 i0 (.int .i64 0) 1 8 Tryd.underlying37 hi0 hz0 hz1 hz2 rfl (by decide) _ 0 [] rfl (World.ownsRow_made w #[] 0 (Nat.le_refl _) (by unfold maxLen; omega) rfl) a n c (zs.map (.int .i64)) rfl ?_ ?_ ?_ ?_ ?_ ?_ ?_; (simp [HL.out]); (exact row_cells H0.out HL.out hB); (exact ints_oneCell _ _); (unfold maxLen; omega); (omega); (simp); intro v1 w1 hown1 hgrow _)
    go_ret
    refine ⟨_, rfl, OwnI.mk' (n := n) ?_, ?_⟩
    · simp only [Nat.zero_add, List.nil_append] at hown1
      exact hown1
    · exact ((Below.refl _ _).alloc (Nat.le_refl _) _).grown hgrow (by simp) (fun k hk => by cases hk; exact Nat.le_refl _)

theorem trim_more {zs : List Int} {k : Nat} (h0 : 0 < k) (h : zs[k - 1]?.getD 0 = 0) : trimN zs k = trimN zs (k - 1) := by
  obtain ⟨j, rfl⟩ : ∃ j, k = j + 1 := ⟨k - 1, by omega⟩
  exact trimN_zero (by rw [getD_opt]; exact h)
theorem trim_here {zs : List Int} {k : Nat} (h0 : 0 < k) (h : ¬ zs[k - 1]?.getD 0 = 0) : trimN zs k = k := by
  obtain ⟨j, rfl⟩ : ∃ j, k = j + 1 := ⟨k - 1, by omega⟩
  exact trimN_stop (by rw [getD_opt]; exact h)
theorem trim_take {zs : List Int} {n k : Nat} (hl : zs.length = n) (h : trimN zs n = trimN zs k) (h2 : trimN zs k = k) : zs.take k = trimL zs := by
  subst hl; unfold trimL; rw [h, h2]

theorem l02Trim_any (v : Value) (zs : List Int) (w : World) (B : Nat) (h : ReadI w B v zs) (hn : zs.length ≤ 1099511627776) (hB : B ≤ w.heap.size) (hw : ∀ z ∈ zs, (Lit.int .i64 z).wf = true) :
    Calls Tryd.prog 64 #[v] w fun e w' => ∃ v', e = .returned v' ∧ OwnI w' w.heap.size w'.heap.size v' (trimL zs) ∧ Below w.heap.size w w' := by
  obtain ⟨n, A, c, rfl, hr, HL, HN, hnc, HF, hcm⟩ := h.split2
  rw [HL.out] at hn
  have H0 := Lib.hid hr
  have HW := Lib.hid hw
  clear hr h hw
  go_enter Tryd.func64, Tryd.ntmps64
  go_wp2
  go_loop [3] (fun i => ∃ k : Nat, k ≤ n ∧ i = .int .i64 k ∧ Hid (trimN zs n = trimN zs k)) (fun i => (intOf i).toNat)
  case atStart => exact ⟨n, by omega, rfl, Lib.hid rfl⟩
  case round =>
    obtain ⟨k, hk, rfl, ht⟩ := hrel
    have F1 : Hid (ReadI w B (.slice A k c) (zs.take k)) := Lib.hid (by
      have hlk : (zs.take k).length = k := by rw [List.length_take, HL.out]; omega
      exact ⟨A, c, by rw [hlk], by rw [hlk]; exact H0.out.cut hk, HN.out, by omega, HF.out, hcm⟩)
    by_cases h0 : 0 < k
    · obtain ⟨a, rfl, _, hcell⟩ := H0.out.2 (k - 1) (by omega)
      have hcell' : w.cell? (a.add (k - 1)) = some (.int .i64 (zs[k - 1]?.getD 0)) := by simpa using hcell
      clear hcell
      have hz := wf_at HW.out (k - 1)
      have h5 : (0 : Int) ≤ (k : Int) - 1 := by omega
      have h6 : (k : Int) - 1 < n := by omega
      by_cases hz0 : zs[k - 1]?.getD 0 = 0
      · have HT : Hid (trimN zs n = trimN zs (k - 1)) := Lib.hid (by rw [ht.out, trim_more h0 hz0])
        have T : ((zs[k - 1]?.getD 0 : Int) == 0) = true := by simp [hz0]
        clear hz0
        go_wp2
        go_round
        case rel => exact ⟨k - 1, by omega, by rw [show (k : Int) - 1 = ((k - 1 : Nat) : Int) by omega], HT⟩
        case measure => simp [intOf]; omega
      · have T : ((zs[k - 1]?.getD 0 : Int) == 0) = false := by simp [hz0]
        have F2 : Hid (zs.take k = trimL zs) := Lib.hid (trim_take HL.out ht.out (trim_here h0 hz0))
        clear hz0
        go_wp2_with (go_at_call 86; refine (l01Own_any _ (zs.take k) _ B F1.out (by rw [List.length_take]; omega) hB).mono ?_; rintro e w' ⟨v', rfl, ho, hb⟩)
        go_ret
        exact ⟨_, rfl, F2.out ▸ ho, hb⟩
    · obtain rfl : k = 0 := by omega
      have F2 : Hid (zs.take 0 = trimL zs) := Lib.hid (trim_take HL.out ht.out rfl)
      go_wp2_with (go_at_call 86; refine (l01Own_any _ (zs.take 0) _ B F1.out (by rw [List.length_take]; omega) hB).mono ?_; rintro e w' ⟨v', rfl, ho, hb⟩)
      go_ret
      exact ⟨_, rfl, F2.out ▸ ho, hb⟩

theorem ret_slice {A : Option Addr} {n m c : Nat} (h : n = m) : Ending.returned (.slice A n c) = .returned (.slice A m c) := by rw [h]
/-- The length of a slice value: for a loop's measure. -/
def lenOf : Value → Nat
  | .slice _ k _ => k
  | _ => 0
theorem without_any (n c : Nat) (A : Option Addr) (zs : List Int) (w : World) (B : Nat) (hr : RI w B A n zs) (hl : zs.length = n) (hn : n ≤ 1099511627776) (hnc : n ≤ c) (hcm : c ≤ 9223372036854775807) (hw : ∀ z ∈ zs, (Lit.int .i64 z).wf = true) :
    Calls Tryd.prog 88 #[.slice A n c] w fun e w' => e = .returned (.slice A (trimN zs n) c) ∧ w = w' := by
  have H0 := Lib.hid hr
  have HW := Lib.hid hw
  have HL := Lib.hid hl
  clear hr hw hl
  go_enter Tryd.func88, Tryd.ntmps88
  go_wp2
  go_loop [0] (fun i => ∃ k : Nat, k ≤ n ∧ i = .slice A k c ∧ Hid (trimN zs n = trimN zs k)) (fun i => lenOf i)
  case atStart => exact ⟨n, by omega, rfl, Lib.hid rfl⟩
  case round =>
    obtain ⟨k, hk, rfl, ht⟩ := hrel
    by_cases h0 : 0 < k
    · obtain ⟨a, rfl, _, hcell⟩ := H0.out.2 (k - 1) (by omega)
      have hcell' : w.cell? (a.add (k - 1)) = some (.int .i64 (zs[k - 1]?.getD 0)) := by simpa using hcell
      clear hcell
      have hz := wf_at HW.out (k - 1)
      have h5 : (0 : Int) ≤ (k : Int) - 1 := by omega
      by_cases hz0 : zs[k - 1]?.getD 0 = 0
      · have HT : Hid (trimN zs n = trimN zs (k - 1)) := Lib.hid (by rw [ht.out, trim_more h0 hz0])
        have T : ((zs[k - 1]?.getD 0 : Int) == 0) = true := by simp [hz0]
        clear hz0
        go_wp2
        go_round
        case rel => exact ⟨k - 1, by omega, rfl, HT⟩
        case measure => simp [lenOf]; omega
      · have T : ((zs[k - 1]?.getD 0 : Int) == 0) = false := by simp [hz0]
        have F : Hid (trimN zs n = k) := Lib.hid (by rw [ht.out, trim_here h0 hz0])
        clear hz0
        go_wp2
        go_ret
        exact ⟨ret_slice F.out.symm, rfl⟩
    · obtain rfl : k = 0 := by omega
      have F : Hid (trimN zs n = 0) := Lib.hid (by rw [ht.out]; rfl)
      go_wp2
      go_ret
      exact ⟨ret_slice F.out.symm, rfl⟩
end Go.Proofs.YtlidleaigjemnaaDoor
