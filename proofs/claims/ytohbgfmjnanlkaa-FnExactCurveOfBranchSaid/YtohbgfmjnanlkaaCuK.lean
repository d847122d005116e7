/- Curves in a law: lists of branches and a curve that comes in, contracts of the conversions, comparisons, marks and sizes. Conditions: stated at each theorem. -/
import Derived.Test.YtohbgfmjnanlkaaZA
import Derived.Test.YtohbgfmjnanlkaaZB
namespace Go.Proofs.Ytohbgfmjnanlkaa
open Go.ChangeShapes Go.WideShapes Go.ChangeAt Go.RowKit Go.Joins Go.Deep
set_option linter.unusedVariables false
set_option linter.unusedSimpArgs false

/-- A slice of n slices of the call's own: the i-th, of blocks from ls i on and below hs i, is as P says; they share no memory. -/
def RowsB (w : World) (lo hi : Nat) (v : Value) (n : Nat) (us : List Value) (ls hs : Nat → Nat) (P : Nat → Nat → Nat → Value → Prop) : Prop :=
  w.ownsRow lo 28 1 v n us ∧ (∀ k, v.ownBlock = some k → k < hi ∧ ∀ i, i < n → (k < ls i ∨ hs i ≤ k)) ∧ hi ≤ w.heap.size ∧
  (∀ i, i < n → lo ≤ ls i ∧ hs i ≤ hi ∧ P i (ls i) (hs i) (us.getD i undef)) ∧ (∀ i j, i < j → j < n → (hs i ≤ ls j ∨ hs j ≤ ls i))
def OwnBs (w : World) (lo hi : Nat) (v : Value) (zss : List (List Int)) : Prop := ∃ us ls hs, RowsB w lo hi v zss.length us ls hs fun i l h u => OwnI w l h u (zss.getD i [])
def MarkBs (w : World) (lo hi : Nat) (v : Value) (n : Nat) (ms : Nat → Nat) (k : Nat) : Prop := ∃ us ls hs, RowsB w lo hi v n us ls hs fun i l h u => MarkI w l h u (ms i) (k + sumTo ms i)
theorem RowsB.kept {w w' : World} {lo hi n : Nat} {v : Value} {us : List Value} {ls hs : Nat → Nat} {P P' : Nat → Nat → Nat → Value → Prop} (h : RowsB w lo hi v n us ls hs P) (k : Kept lo hi w w')
    (hP : ∀ i l h u, i < n → lo ≤ l → h ≤ hi → P i l h u → P' i l h u) : RowsB w' lo hi v n us ls hs P' :=
  ⟨row_of_kept h.1 (fun b hb => (h.2.1 b hb).1) k, h.2.1, Nat.le_trans h.2.2.1 k.size, fun i hi => ⟨(h.2.2.2.1 i hi).1, (h.2.2.2.1 i hi).2.1, hP i _ _ _ hi (h.2.2.2.1 i hi).1 (h.2.2.2.1 i hi).2.1 (h.2.2.2.1 i hi).2.2⟩, h.2.2.2.2⟩
theorem OwnBs.kept {w w' : World} {lo hi : Nat} {v : Value} {zss : List (List Int)} (h : OwnBs w lo hi v zss) (k : Kept lo hi w w') : OwnBs w' lo hi v zss := by
  obtain ⟨us, ls, hs, h⟩ := h
  exact ⟨us, ls, hs, h.kept k fun i l h' u _ h1 h2 hp => OwnI.kept hp (k.inner h1 h2)⟩
theorem MarkBs.kept {w w' : World} {lo hi n k : Nat} {v : Value} {ms : Nat → Nat} (h : MarkBs w lo hi v n ms k) (kk : Kept lo hi w w') : MarkBs w' lo hi v n ms k := by
  obtain ⟨us, ls, hs, h⟩ := h
  exact ⟨us, ls, hs, h.kept kk fun i l h' u _ h1 h2 hp => MarkI.kept hp (kk.inner h1 h2)⟩
/-- The cell of the i-th slice. -/
theorem RowsB.cell {w : World} {lo hi n c : Nat} {A : Option Addr} {us : List Value} {ls hs : Nat → Nat} {P : Nat → Nat → Nat → Value → Prop} (h : RowsB w lo hi (.slice A n c) n us ls hs P) {i : Nat} (hi' : i < n) :
    ∃ g, A = some ⟨g, 0, none⟩ ∧ lo ≤ g ∧ g < hi ∧ w.cell? ⟨g, i, none⟩ = some (us.getD i undef) ∧ w.frozen? ⟨g, i, none⟩ = false := by
  obtain ⟨h1, h2, h3, h4, h5⟩ := h
  have hl := h1.1
  rcases h1.2 with ⟨e, e0⟩ | ⟨g, cap, cur, e, hb, hg, hnc, hcm, hcs, hcur⟩
  · omega
  · simp only [Value.slice.injEq] at e
    obtain ⟨rfl, _, rfl⟩ := e
    refine ⟨g, rfl, hb, (h2 g rfl).1, ?_, World.ownsRow.frozenAt h1 i⟩
    have h6 : i < us.length := by omega
    rw [World.ownsRow.cellAt h1 i (by omega)]
    simp [List.getD, h6]
theorem OwnBs.reads {w : World} {lo hi : Nat} {v : Value} {zss : List (List Int)} (h : OwnBs w lo hi v zss) : ReadQ w w.heap.size v zss := by
  obtain ⟨us, ls, hs, h⟩ := h
  obtain ⟨A, c, rfl, h1, h2, h3, h4⟩ := row_form h.1
  refine ⟨A, c, rfl, fun k hk => ?_, h1, h2, h3, h4⟩
  obtain ⟨g, rfl, hg1, hg2, hc, _⟩ := h.cell hk
  have h5 : (⟨g, 0, none⟩ : Addr).add k = ⟨g, k, none⟩ := by unfold Addr.add; split <;> simp_all
  refine ⟨_, _, rfl, Nat.lt_of_lt_of_le hg2 h.2.2.1, by rw [h5]; exact hc, (h.2.2.2.1 k hk).2.2.reads⟩
theorem OwnBs.nil (w : World) (lo : Nat) : OwnBs w lo w.heap.size (.slice none 0 0) [] :=
  ⟨[], fun _ => 0, fun _ => 0, World.ownsRow_nil w lo _ _, (fun k h => by cases h), Nat.le_refl _, (fun i h => by simp at h), (fun i j _ h => by simp at h)⟩

theorem eqBs (v v' : Value) (zss : List (List Int)) (w : World) (hr : ReadQ w w.heap.size v zss) (hr' : ReadQ w w.heap.size v' zss) (hn : zss.length ≤ 1048576) (hm : ∀ k, lens zss k ≤ 1048576) :
    Calls Try.prog 95 #[v, v'] w fun e w' => e = .returned (.bool true) ∧ Below w.heap.size w w' := by
  obtain ⟨A, c, rfl, h0, _⟩ := hr
  obtain ⟨A', c', rfl, h1, _⟩ := hr'
  have H0 := Lib.hid h0
  have H1 := Lib.hid h1
  have HM := Lib.hid hm
  clear h0 h1 hm
  generalize hL : zss.length = n at *
  clear hL
  go_enter Try.func95, Try.ntmps95
  go_wp2
  go_loopw [5] (fun i wr => ∃ (k : Nat), k ≤ n ∧ i = .int .i64 k ∧ Hid (Below w.heap.size w wr)) (fun i _ => n - (intOf i).toNat)
  case atStart => exact ⟨0, by omega, rfl, Lib.hid (Below.refl _ _)⟩
  case round =>
    obtain ⟨k, hk, rfl, hw⟩ := hrel
    by_cases hlt : k < n
    · obtain ⟨a, u, rfl, ha, hcell, hri⟩ := H0.out k hlt
      obtain ⟨a', u', rfl, ha', hcell', hri'⟩ := H1.out k hlt
      have hx : wr.cell? (a.add k) = some u := by rw [hw.out.cell (by rw [add_block]; exact ha)]; exact hcell
      have hx' : wr.cell? (a'.add k) = some u' := by rw [hw.out.cell (by rw [add_block]; exact ha')]; exact hcell'
      have HR : Hid (ReadI wr wr.heap.size u (zss.getD k [])) := Lib.hid ((hri.below hw.out).more hw.out.size)
      have HR' : Hid (ReadI wr wr.heap.size u' (zss.getD k [])) := Lib.hid ((hri'.below hw.out).more hw.out.size)
      have HL : Hid ((zss.getD k []).length ≤ 9223372036854775807) := Lib.hid (by have : lens zss k ≤ _ := HM.out k; unfold lens at this; omega)
      clear hcell hcell' hri hri'
      go_wp2_with fail
      refine wp_region_held_drew (S := fun w' => w'.cell? (a.add k) = some (u) ∧ w'.cell? (a'.add k) = some (u')) (by kernel_rfl) ⟨hx, hx'⟩ (fun hHeld => ?_)
      refine takeY 0 _ (v := ?_) rfl rfl (by kernel_rfl) (by kernel_rfl) (by kernel_rfl) (fun _ _ _ h => h) (by kernel_rfl) ?_ (by assumption) ?_
      rotate_left 1
      · intro w hSw; (try dsimp only at hSw); go_simp; (try with_reducible rfl)
      try simp only [Act.put, List.setIfInBounds_toArray, List.set_cons_zero, List.set_cons_succ]
      refine takeY 1 _ (v := ?_) rfl rfl (by kernel_rfl) (by kernel_rfl) (by kernel_rfl) (fun _ _ _ h => h) (by kernel_rfl) ?_ (by assumption) ?_
      rotate_left 1
      · intro w hSw; (try dsimp only at hSw); go_simp; (try with_reducible rfl)
      try simp only [Act.put, List.setIfInBounds_toArray, List.set_cons_zero, List.set_cons_succ]
      refine takeY 2 _ (v := ?_) rfl rfl (by kernel_rfl) (by kernel_rfl) (by kernel_rfl) (fun _ _ _ h => h) (by kernel_rfl) ?_ (by assumption) ?_
      rotate_left 1
      · intro w hSw; (try dsimp only at hSw); go_simp; (try with_reducible rfl)
      try simp only [Act.put, List.setIfInBounds_toArray, List.set_cons_zero, List.set_cons_succ]
      refine takeY 3 _ (v := ?_) rfl rfl (by kernel_rfl) (by kernel_rfl) (by kernel_rfl) (fun _ _ _ h => h) (by kernel_rfl) ?_ (by assumption) ?_
      rotate_left 1
      · intro w hSw; (try dsimp only at hSw); go_simp; (try with_reducible rfl)
      try simp only [Act.put, List.setIfInBounds_toArray, List.set_cons_zero, List.set_cons_succ]
      refine takeY 4 _ (v := ?_) rfl rfl (by kernel_rfl) (by kernel_rfl) (by kernel_rfl) (fun _ _ _ h => h) (by kernel_rfl) ?_ (by assumption) ?_
      rotate_left 1
      · intro w hSw; (try dsimp only at hSw); go_simp; (try with_reducible rfl)
      try simp only [Act.put, List.setIfInBounds_toArray, List.set_cons_zero, List.set_cons_succ]
      refine takeY 5 _ (v := ?_) rfl rfl (by kernel_rfl) (by kernel_rfl) (by kernel_rfl) (fun _ _ _ h => h) (by kernel_rfl) ?_ (by assumption) ?_
      rotate_left 1
      · intro w hSw; (try dsimp only at hSw); go_simp; (try with_reducible rfl)
      try simp only [Act.put, List.setIfInBounds_toArray, List.set_cons_zero, List.set_cons_succ]
      refine takeY 6 _ (v := ?_) rfl rfl (by kernel_rfl) (by kernel_rfl) (by kernel_rfl) (fun _ _ _ h => h) (by kernel_rfl) ?_ (by assumption) ?_
      rotate_left 1
      · intro w hSw; (try dsimp only at hSw); go_simp; (try with_reducible rfl)
      try simp only [Act.put, List.setIfInBounds_toArray, List.set_cons_zero, List.set_cons_succ]
      refine takeY 7 _ (v := ?_) rfl rfl (by kernel_rfl) (by kernel_rfl) (by kernel_rfl) (fun _ _ _ h => h) (by kernel_rfl) ?_ (by assumption) ?_
      rotate_left 1
      · intro w hSw; (try dsimp only at hSw); go_simp; (try with_reducible rfl)
      try simp only [Act.put, List.setIfInBounds_toArray, List.set_cons_zero, List.set_cons_succ]
      refine wpAnyH_ready (rs := [8]) (by kernel_rfl) (by simp) ?_
      refine AllReadyH.cons rfl (fun K hK => ?_) AllReadyH.nil
      go_simp
      refine (eqB u u' (zss.getD k []) wr.drew HR.out HR'.out HL.out).mono ?_
      rintro e w2 ⟨rfl, hbd⟩
      have hb : Below wr.heap.size wr w2 := ⟨hbd.os, hbd.tape, hbd.output, hbd.size, hbd.block⟩
      have HB := Lib.hid hb
      have hy : w2.cell? (a.add k) = some u := by rw [hb.cell (by rw [add_block]; exact Nat.lt_of_lt_of_le ha hw.out.size)]; exact hx
      have hy' : w2.cell? (a'.add k) = some u' := by rw [hb.cell (by rw [add_block]; exact Nat.lt_of_lt_of_le ha' hw.out.size)]; exact hx'
      clear hb hbd
      refine hK.out _ w2 ⟨hy, hy'⟩ (fun hHeld => ?_)
      clear hK K
      try simp only [Act.put, List.setIfInBounds_toArray, List.set_cons_zero, List.set_cons_succ]
      refine takeY 9 _ (v := ?_) rfl rfl (by kernel_rfl) (by kernel_rfl) (by kernel_rfl) (fun _ _ _ h => h) (by kernel_rfl) ?_ (by assumption) ?_
      rotate_left 1
      · intro w hSw; (try dsimp only at hSw); go_simp; (try with_reducible rfl)
      try simp only [Act.put, List.setIfInBounds_toArray, List.set_cons_zero, List.set_cons_succ]
      refine wpAnyH_done (by kernel_rfl) ?_ _
      go_wp2_with fail
      go_roundw
      case rel => exact ⟨k + 1, by omega, by go_num, Lib.hid (hw.out.trans (HB.out.mono hw.out.size))⟩
      case measure => simp [intOf]; omega
    · obtain rfl : k = n := by omega
      go_wp2
      go_ret
      exact ⟨rfl, hw.out⟩

theorem RowsB.step2 {w w' : World} {lo hi n : Nat} {v : Value} {us : List Value} {ls hs : Nat → Nat} {P P' : Nat → Nat → Nat → Value → Prop} (h : RowsB w lo hi v n us ls hs P) {j : Nat} (hj : j < n)
    (ho : Only (ls j) (hs j) w w') (hP : ∀ i, i < n → i ≠ j → P i (ls i) (hs i) (us.getD i undef) → Kept (ls i) (hs i) w w' → P' i (ls i) (hs i) (us.getD i undef)) (hj' : P' j (ls j) (hs j) (us.getD j undef)) :
    RowsB w' lo hi v n us ls hs P' := by
  obtain ⟨h1, h2, h3, h4, h5⟩ := h
  refine ⟨?_, h2, Nat.le_trans h3 ho.size, ?_, h5⟩
  · refine ⟨h1.1, ?_⟩
    rcases h1.2 with hn | ⟨g, cap, cur, rfl, hb, hgg, rest⟩
    · exact .inl hn
    · refine .inr ⟨g, cap, cur, rfl, hb, ?_, rest⟩
      have h7 := (h2 g rfl).2 j hj
      rw [ho.block g (Array.getElem?_eq_some_iff.1 hgg).1 (by omega)]
      exact hgg
  · intro i hi'
    refine ⟨(h4 i hi').1, (h4 i hi').2.1, ?_⟩
    by_cases e : i = j
    · subst e; exact hj'
    · refine hP i hi' e (h4 i hi').2.2 (ho.kept ?_ (Nat.le_trans (h4 i hi').2.1 h3))
      by_cases h8 : i < j
      · have := h5 i j h8 hj; omega
      · have := h5 j i (by omega) hi'; omega
theorem markBs (v : Value) (lo hi : Nat) (zss : List (List Int)) (k : Int) (w : World) (h : OwnBs w lo hi v zss) (hn : zss.length ≤ 1099511627776) (hm : sumTo (lens zss) zss.length ≤ 549755813888) (hk : 0 ≤ k ∧ k ≤ 549755813888) :
    Calls Try.prog 101 #[v, .int .i64 k] w fun e w' => e = .returned (.int .i64 (k + (sumTo (lens zss) zss.length : Int))) ∧ MarkBs w' lo hi v zss.length (lens zss) k.toNat ∧ Only lo hi w w' := by
  obtain ⟨us, ls, hs, h⟩ := h
  obtain ⟨A, c, rfl, _⟩ := row_form h.1
  have HR := Lib.hid h
  have HM := Lib.hid hm
  clear h hm
  generalize hL : zss.length = n at *
  clear hL
  go_enter Try.func101, Try.ntmps101
  go_wp2
  go_loopw [1, 5] (fun vk vi wr => ∃ (j : Nat), j ≤ n ∧ vk = .int .i64 (k + (sumTo (lens zss) j : Int)) ∧ vi = .int .i64 j ∧ Hid (RowsB wr lo hi (.slice A n c) n us ls hs fun i l h u => if i < j then MarkI wr l h u (lens zss i) (k.toNat + sumTo (lens zss) i) else OwnI wr l h u (zss.getD i [])) ∧ Hid (Only lo hi w wr)) (fun _ vi _ => n - (intOf vi).toNat)
  case atStart => exact ⟨0, by omega, by simp [sumTo], rfl, Lib.hid (HR.out.kept (Kept.refl _ _ _) fun i l h u _ _ _ hp => by simpa using hp), Lib.hid (Only.refl _ _ _)⟩
  case round =>
    obtain ⟨j, hj, rfl, rfl, ho, hb⟩ := hrel
    by_cases hlt : j < n
    · obtain ⟨g, rfl, _, _, hcell, _⟩ := ho.out.cell hlt
      have hel := (ho.out.2.2.2.1 j hlt)
      have hin : OwnI wr (ls j) (hs j) (us.getD j undef) (zss.getD j []) := by
        have h4 := hel.2.2; dsimp only at h4; rw [if_neg (Nat.lt_irrefl j)] at h4; exact h4
      have s1 : sumTo (lens zss) (j + 1) = sumTo (lens zss) j + lens zss j := rfl
      have s2 := sumTo_le (lens zss) (show j + 1 ≤ n by omega)
      have hm := HM.out
      have hk2 : 0 ≤ k + (sumTo (lens zss) j : Int) ∧ k + (sumTo (lens zss) j : Int) ≤ 1099511627776 := by omega
      have hl3 : (zss.getD j []).length ≤ 1099511627776 := by show lens zss j ≤ _; omega
      have HI := Lib.hid hin
      have HB2 := Lib.hid (And.intro hel.1 hel.2.1)
      have S1 := Lib.hid s1
      clear hin hel s1 s2 hm
      go_wp2_with fail
      refine (markI' _ (ls j) (hs j) (zss.getD j []) _ wr HI.out hl3 hk2).mono ?_
      rintro e w2 ⟨rfl, hmk, hon⟩
      have HN : Hid (RowsB w2 lo hi (.slice (some ⟨g, 0, none⟩) n c) n us ls hs fun i l h u => if i < j + 1 then MarkI w2 l h u (lens zss i) (k.toNat + sumTo (lens zss) i) else OwnI w2 l h u (zss.getD i [])) := Lib.hid (by
        refine RowsB.step2 ho.out hlt hon (fun i hi' e hp kk => ?_) ?_
        · by_cases e2 : i < j
          · rw [if_pos e2] at hp; rw [if_pos (by omega)]; exact hp.kept kk
          · rw [if_neg e2] at hp; rw [if_neg (by omega)]; exact hp.kept kk
        · rw [if_pos (by omega)]
          have e3 : (k + (sumTo (lens zss) j : Int)).toNat = k.toNat + sumTo (lens zss) j := by omega
          rw [e3] at hmk
          exact hmk)
      have HO2 : Hid (Only lo hi w w2) := Lib.hid (hb.out.trans (hon.wider HB2.out.1 HB2.out.2))
      have e4 : k + (sumTo (lens zss) j : Int) + ((zss.getD j []).length : Int) = k + (sumTo (lens zss) (j + 1) : Int) := by have := S1.out; rw [this]; show _ = k + ((sumTo (lens zss) j + lens zss j : Nat) : Int); unfold lens; omega
      rw [e4]
      clear hmk hon e4
      go_wp2_with fail
      go_roundw
      case rel => exact ⟨j + 1, by omega, rfl, by go_num, HN, HO2⟩
      case measure => simp [intOf]; omega
    · obtain rfl : j = n := by omega
      go_wp2
      go_ret
      exact ⟨rfl, ⟨us, ls, hs, ho.out.kept (Kept.refl _ _ _) fun i l h u hi' _ _ hp => by rw [if_pos hi'] at hp; exact hp⟩, hb.out⟩

theorem heldBs (v : Value) (lo hi n : Nat) (ms : Nat → Nat) (k : Int) (w : World) (h : MarkBs w lo hi v n ms k.toNat) (hn : n ≤ 1099511627776) (hm : sumTo ms n ≤ 549755813888) (hk : 0 ≤ k ∧ k ≤ 549755813888) :
    Calls Try.prog 103 #[v, .int .i64 k] w fun e w' => e = .returned (.int .i64 (k + (sumTo ms n : Int))) ∧ w = w' := by
  obtain ⟨us, ls, hs, h⟩ := h
  obtain ⟨A, c, rfl, _⟩ := row_form h.1
  have HR := Lib.hid h
  have HM := Lib.hid hm
  clear h hm
  go_enter Try.func103, Try.ntmps103
  go_wp2
  go_loop [1, 5] (fun vk vi => ∃ (j : Nat), j ≤ n ∧ vk = .int .i64 (k + (sumTo ms j : Int)) ∧ vi = .int .i64 j) (fun _ vi => n - (intOf vi).toNat)
  case atStart => exact ⟨0, by omega, by simp [sumTo], rfl⟩
  case round =>
    obtain ⟨j, hj, rfl, rfl⟩ := hrel
    by_cases hlt : j < n
    · obtain ⟨g, rfl, _, _, hcell, _⟩ := HR.out.cell hlt
      have hin : MarkI w (ls j) (hs j) (us.getD j undef) (ms j) (k.toNat + sumTo ms j) := (HR.out.2.2.2.1 j hlt).2.2
      have s1 : sumTo ms (j + 1) = sumTo ms j + ms j := rfl
      have s2 := sumTo_le ms (show j + 1 ≤ n by omega)
      have hm := HM.out
      have hk2 : 0 ≤ k + (sumTo ms j : Int) ∧ k + (sumTo ms j : Int) ≤ 1099511627776 := by omega
      have hl3 : ms j ≤ 1099511627776 := by omega
      have e3 : (k + (sumTo ms j : Int)).toNat = k.toNat + sumTo ms j := by omega
      rw [← e3] at hin
      have HI := Lib.hid hin
      have e4 : k + (sumTo ms j : Int) + (ms j : Int) = k + (sumTo ms (j + 1) : Int) := by rw [s1]; omega
      have E4 := Lib.hid e4
      have hk3 : 0 ≤ k + (sumTo ms (j + 1) : Int) := by omega
      clear hin s1 s2 hm e3 e4
      go_wp2_with fail
      refine (heldI' _ (ls j) (hs j) (ms j) _ w HI.out hl3 hk2).mono ?_
      rintro e w' ⟨rfl, rfl⟩
      rw [E4.out]
      go_wp2_with fail
      go_round
      case rel => exact ⟨j + 1, by omega, rfl, by go_num⟩
      case measure => simp [intOf]; omega
    · obtain rfl : j = n := by omega
      go_wp2
      go_ret
      exact ⟨rfl, rfl⟩

theorem br_info : (Try.prog.info? 28).map (fun i => (i.zero, i.size, i.bytes)) = some (some (.agg #[.slice none 0 0]), 1, 24) := by kernel_rfl
theorem run_make_branches (n : Nat) (hn : n ≤ 1048576) (w : World) :
    (Instr.makeSlice 54 (.int .i64 (n : Int)) (.int .i64 (n : Int))).run Try.prog w = .ok (.slice (some ⟨w.heap.size, 0, none⟩) n n) (w.alloc (.cells (madeCells #[.slice none 0 0] n) 28)) := by
  obtain ⟨i, hi, hz, hs, hb⟩ := info_parts br_info
  have h := run_make (P := Try.prog) w 54 28 i _ Try.underlying54 hi hz .i64 .i64 (n : Int) (n : Int) (by omega) (by omega) (by rw [hb]; omega) (by omega)
  rw [hs, show (Value.agg #[.slice none 0 0]).cells = #[.slice none 0 0] from rfl] at h
  simpa using h

theorem toBs (v : Value) (zss : List (List Int)) (w : World) (hr : ReadQW w w.heap.size v zss) (hn : zss.length ≤ 1048576) (hm : ∀ i, lens zss i ≤ 1048576) :
    Calls Try.prog 92 #[v] w fun e w' => ∃ v', e = .returned v' ∧ OwnBs w' w.heap.size w'.heap.size v' zss ∧ Below w.heap.size w w' := by
  obtain ⟨A, c, rfl, hr⟩ := hr
  have H0 := Lib.hid hr
  have HM := Lib.hid hm
  clear hr hm
  obtain ⟨n, hL⟩ : ∃ n, n = zss.length := ⟨_, rfl⟩
  rw [← hL] at hn
  have H0' : Hid (∀ k, k < n → ∃ a u, A = some a ∧ a.block < w.heap.size ∧ w.cell? (a.add k) = some u ∧ ReadW w w.heap.size u (zss.getD k [])) := Lib.hid (by rw [hL]; exact H0.out)
  rw [← hL]
  have HL := Lib.hid hL
  have hmk := run_make_branches n hn
  clear hL H0
  go_enter Try.func92, Try.ntmps92
  go_wp2
  clear hmk
  go_loopw [4] (fun vi wr => ∃ (i : Nat) (ls hs : Nat → Nat) (uf : Nat → Value), i ≤ n ∧ vi = .int .i64 i ∧ Hid (wr.rowIs w.heap.size 28 n (fun j => if j < i then uf j else .slice none 0 0)) ∧ Hid (∀ j, j < i → w.heap.size + 1 ≤ ls j ∧ hs j ≤ wr.heap.size ∧ OwnI wr (ls j) (hs j) (uf j) (zss.getD j [])) ∧ Hid (∀ j k, j < k → k < i → hs j ≤ ls k) ∧ Hid (w.heap.size + 1 ≤ wr.heap.size) ∧ Hid (Below w.heap.size w wr)) (fun vi _ => n - (intOf vi).toNat)
  case atStart => exact ⟨0, fun _ => 0, fun _ => 0, fun _ => undef, by omega, rfl, Lib.hid ((World.rowIs_made w _ n _).congr (fun j hj => by simp)), Lib.hid (fun j hj => by omega), Lib.hid (fun j k _ hk => by omega), Lib.hid (by simp), Lib.hid ((Below.refl _ _).alloc (Nat.le_refl _) _)⟩
  case round =>
    obtain ⟨i, ls, hs, uf, hi, rfl, hrow, hel, hap, hsz, hb⟩ := hrel
    by_cases hlt : i < n
    · obtain ⟨a, u, rfl, hab, hcell, hrd⟩ := H0'.out i hlt
      have hx : wr.cell? (a.add i) = some u := by rw [hb.out.cell (by rw [add_block]; exact hab)]; exact hcell
      have HR : Hid (ReadW wr wr.heap.size u (zss.getD i [])) := Lib.hid ((hrd.below hb.out).more hb.out.size)
      have hlen : (zss.getD i []).length ≤ 1048576 := HM.out i
      clear hcell hrd
      go_wp2_with fail
      refine (toB _ (zss.getD i []) wr HR.out hlen).mono ?_
      rintro e w2 ⟨v2, rfl, ho2, hb2⟩
      obtain ⟨m2, hm2⟩ : ∃ m, (zss.getD i []).length = m := ⟨_, rfl⟩
      obtain ⟨A2, c2, rfl⟩ := ho2.form hm2
      have O2 := Lib.hid ho2
      have B2 := Lib.hid hb2
      have hrow2 : w2.rowIs w.heap.size 28 n (fun j => if j < i then uf j else .slice none 0 0) := hrow.out.of_block (hb2.block _ hrow.out.lt)
      have hdst := hrow2.cell hlt
      simp only [Nat.lt_irrefl, if_false] at hdst
      have hfz := hrow2.frozen i
      have HROW := Lib.hid hrow2
      clear ho2 hb2 hrow2 hm2
      go_wp2_with fail
      go_roundw
      case rel =>
        have hsz1 := hsz.out
        have hb2 := B2.out.size
        have hset : (w2.setCell ⟨w.heap.size, i, none⟩ (.slice A2 m2 c2)).heap.size = w2.heap.size := by simp [World.setCell]
        refine ⟨i + 1, (fun j => if j = i then wr.heap.size else ls j), (fun j => if j = i then w2.heap.size else hs j), (fun j => if j = i then .slice A2 m2 c2 else uf j), by omega, by go_num, Lib.hid ((HROW.out.set i _).congr fun j hj => ?_), Lib.hid (fun j hj => ?_), Lib.hid (fun j k hjk hk => ?_), Lib.hid ?_, Lib.hid ((hb.out.trans (B2.out.mono hb.out.size)).setCell (Nat.le_refl _) _)⟩
        · by_cases h1 : j = i
          · subst h1; simp
          · by_cases h2 : j < i
            · simp [h1, h2, show j < i + 1 by omega]
            · simp [h1, h2, show ¬ j < i + 1 by omega]
        · by_cases h1 : j = i
          · subst h1
            simp only [if_true, hset]
            exact ⟨hsz1, Nat.le_refl _, O2.out.kept (kept_set w2 (p := ⟨w.heap.size, j, none⟩) (Or.inl (show w.heap.size < wr.heap.size by omega)) _)⟩
          · have h2 := hel.out j (by omega)
            simp only [if_neg h1, hset]
            exact ⟨h2.1, by omega, (h2.2.2.kept (Kept.of_below B2.out h2.2.1)).kept (kept_set w2 (p := ⟨w.heap.size, i, none⟩) (Or.inl (show w.heap.size < ls j by omega)) _)⟩
        · by_cases h1 : k = i
          · subst h1
            simp only [if_true, if_neg (show ¬ j = k by omega)]
            exact (hel.out j hjk).2.1
          · simp only [if_neg h1, if_neg (show ¬ j = i by omega)]
            exact hap.out j k hjk (by omega)
        · rw [hset]; omega
      case measure => simp [intOf]; omega
    · obtain rfl : i = n := by omega
      go_wp2
      go_ret
      refine ⟨_, rfl, ?_, hb.out⟩
      obtain ⟨cs, hc1, hc2, hc3⟩ := hrow.out
      have hcl : cs.toList.length = i := by simpa using hc2
      rw [HL.out] at hcl
      refine ⟨cs.toList, ls, hs, ⟨by rw [hcl, Nat.mul_one], .inr ⟨w.heap.size, i, cs, slice_eq HL.out, Nat.le_refl _, hc1, Nat.le_of_eq HL.out.symm, by unfold maxLen; omega, by omega, ?_⟩⟩, (fun k hk => ?_), Nat.le_refl _, (fun j hj => ?_), (fun j k hjk hk => Or.inl (hap.out j k hjk (Nat.lt_of_lt_of_eq hk HL.out.symm)))⟩
      · rw [List.take_of_length_le (by rw [hcl]; omega)]
      · cases hk
        have hsz1 := hsz.out
        exact ⟨show w.heap.size < wr.heap.size by omega, fun j hj => Or.inl (show w.heap.size < ls j by have := (hel.out j (Nat.lt_of_lt_of_eq hj HL.out.symm)).1; omega)⟩
      · have hji : j < i := Nat.lt_of_lt_of_eq hj HL.out.symm
        have h2 := hel.out j hji
        have h3 := hc3 j hji
        simp only [hji, if_true] at h3
        have h4 : cs.toList.getD j undef = uf j := by simp [List.getD, h3]
        rw [h4]
        exact ⟨by omega, h2.2.1, h2.2.2⟩

end Go.Proofs.Ytohbgfmjnanlkaa
