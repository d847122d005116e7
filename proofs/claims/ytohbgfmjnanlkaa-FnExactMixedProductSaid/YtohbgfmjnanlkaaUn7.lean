/- Unloading, the program's: state, beginning. Conditions: stated at each theorem. -/
import Derived.Test.YtohbgfmjnanlkaaUn6
import Derived.Deep.DeepCutAuto
namespace Go.Proofs.Ytohbgfmjnanlkaa
open Go.ChangeShapes Go.WideShapes Go.ChangeAt Go.RowKit Go.Deep
set_option linter.unusedVariables false
set_option linter.unusedSimpArgs false

def Far (w : World) (lo ub bo bj x : Nat) : Prop := lo ≤ x ∧ x < w.heap.size ∧ x ≠ ub ∧ x ≠ bo ∧ x ≠ bj
/-- Writes into three blocks alone. -/
structure U3 (ub bo bj : Nat) (w w' : World) : Prop where
  os : w'.os = w.os
  tape : w'.tape = w.tape
  output : w'.output = w.output
  size : w.heap.size ≤ w'.heap.size
  block : ∀ b, b < w.heap.size → b ≠ ub → b ≠ bo → b ≠ bj → w'.heap[b]? = w.heap[b]?
theorem U3.refl (ub bo bj : Nat) (w : World) : U3 ub bo bj w w := ⟨rfl, rfl, rfl, Nat.le_refl _, fun _ _ _ _ _ => rfl⟩
theorem U3.trans {ub bo bj : Nat} {a b c : World} (h : U3 ub bo bj a b) (k : U3 ub bo bj b c) : U3 ub bo bj a c :=
  ⟨k.os.trans h.os, k.tape.trans h.tape, k.output.trans h.output, Nat.le_trans h.size k.size, fun x hx h1 h2 h3 => (k.block x (Nat.lt_of_lt_of_le hx h.size) h1 h2 h3).trans (h.block x hx h1 h2 h3)⟩
theorem U3.drewN (ub bo bj : Nat) (w : World) (k : Nat) : U3 ub bo bj w (w.drewN k) := by
  have h := drewN_below (B := w.heap.size) w k
  exact ⟨h.os, h.tape, h.output, h.size, fun b hb _ _ _ => h.block b hb⟩
theorem U3.ofBelow {ub bo bj : Nat} {w w' : World} (h : Below w.heap.size w w') : U3 ub bo bj w w' := ⟨h.os, h.tape, h.output, h.size, fun b hb _ _ _ => h.block b hb⟩
theorem U3.ofOnly {ub bo bj : Nat} {w w' : World} (h : Only ub (ub + 1) w w') : U3 ub bo bj w w' := ⟨h.os, h.tape, h.output, h.size, fun b hb h1 _ _ => h.block b hb (fun e => h1 (by omega))⟩
theorem U3.set2 {ub bo bj : Nat} (w : World) (j : Nat) (v : Value) : U3 ub bo bj w (w.setCell ⟨bo, j, none⟩ v) :=
  ⟨rfl, rfl, rfl, by rw [size_set]; exact Nat.le_refl _, fun b _ _ h2 _ => Below.heap_setCell _ _ _ _ (fun e => h2 e)⟩
theorem U3.set3 {ub bo bj : Nat} (w : World) (j : Nat) (v : Value) : U3 ub bo bj w (w.setCell ⟨bj, j, none⟩ v) :=
  ⟨rfl, rfl, rfl, by rw [size_set]; exact Nat.le_refl _, fun b _ _ _ h3 => Below.heap_setCell _ _ _ _ (fun e => h3 e)⟩
theorem U3.below {ub bo bj lo : Nat} {w w' : World} (h : U3 ub bo bj w w') (h1 : lo ≤ ub) (h2 : lo ≤ bo) (h3 : lo ≤ bj) (hs : lo ≤ w.heap.size) : Below lo w w' :=
  ⟨h.os, h.tape, h.output, h.size, fun b hb => h.block b (by omega) (by omega) (by omega) (by omega)⟩
theorem U3.cell {ub bo bj lo x o : Nat} {w w' : World} (h : U3 ub bo bj w w') (hf : Far w lo ub bo bj x) : w'.cell? ⟨x, o, none⟩ = w.cell? ⟨x, o, none⟩ := by
  have := h.block x hf.2.1 hf.2.2.1 hf.2.2.2.1 hf.2.2.2.2
  simp [World.cell?, this]
theorem Far.more {w w' : World} {lo ub bo bj x : Nat} (h : Far w lo ub bo bj x) (hs : w.heap.size ≤ w'.heap.size) : Far w' lo ub bo bj x := ⟨h.1, Nat.lt_of_lt_of_le h.2.1 hs, h.2.2⟩
/-- What stays: points, the intersection matrix, the numbers of the points. -/
structure UA (w : World) (lo ub bo bj g n mo bn : Nat) (P S : List Int) : Prop where
  glo : g < lo
  pts : PtsAt w g n n P S
  ulo : lo ≤ ub ∧ ub < w.heap.size
  olo : lo ≤ bo ∧ bo < w.heap.size
  jlo : lo ≤ bj ∧ bj < w.heap.size
  d1 : ub ≠ bo
  d2 : ub ≠ bj
  d3 : bo ≠ bj
  mof : Far w lo ub bo bj mo
  bnf : Far w lo ub bo bj bn
  mat : ∀ i, i < n → ∃ ri ci, w.cell? ⟨mo, i, none⟩ = some (.slice (some ⟨ri, 0, none⟩) n ci) ∧ Far w lo ub bo bj ri ∧ ∀ j, j < n → w.cell? ⟨ri, j, none⟩ = some (.int .i64 (meE P S n i j))
  num : ∀ j, j < n → w.cell? ⟨bn, j, none⟩ = some (.int .i64 (j : Int))
theorem UA.keep {w w' : World} {lo ub bo bj g n mo bn : Nat} {P S : List Int} (h : UA w lo ub bo bj g n mo bn P S) (k : U3 ub bo bj w w') : UA w' lo ub bo bj g n mo bn P S := by
  have hs := k.size
  refine ⟨h.glo, h.pts.of_block (k.block g (by have := h.ulo; have := h.glo; omega) (by have := h.ulo; have := h.glo; omega) (by have := h.olo; have := h.glo; omega) (by have := h.jlo; have := h.glo; omega)), ⟨h.ulo.1, by have := h.ulo.2; omega⟩, ⟨h.olo.1, by have := h.olo.2; omega⟩, ⟨h.jlo.1, by have := h.jlo.2; omega⟩, h.d1, h.d2, h.d3, h.mof.more hs, h.bnf.more hs, fun i hi => ?_, fun j hj => (k.cell h.bnf).trans (h.num j hj)⟩
  obtain ⟨ri, ci, h1, h2, h3⟩ := h.mat i hi
  exact ⟨ri, ci, (k.cell h.mof).trans h1, h2.more hs, fun j hj => (k.cell h2).trans (h3 j hj)⟩
/-- The state of an unloading: orders, weights, excesses, joined points. -/
structure US (w : World) (lo ub bo bj g n mo bn co cm cn : Nat) (P S : List Int) (O : Nat → Int) (J : Nat → Bool) : Prop where
  sta : UA w lo ub bo bj g n mo bn P S
  dyn : ∃ A1 c1 A4 c4 l1 h1 l4 h4, UBx w ub (.slice (some ⟨g, 0, none⟩) n n) (.slice A1 n c1) (.slice (some ⟨mo, 0, none⟩) n cm) (.slice (some ⟨bo, 0, none⟩) n co) (.slice A4 n c4) (.slice (some ⟨bn, 0, none⟩) n cn) (.slice (some ⟨bj, 0, none⟩) n n) ∧
    OwnI w l1 h1 (.slice A1 n c1) (woL P S (fnL O n) n) ∧ OwnI w l4 h4 (.slice A4 n c4) (ecL P S (woL P S (fnL O n) n) n) ∧ (lo ≤ l1 ∧ ub < l1 ∧ bo < l1 ∧ bj < l1) ∧ (ub < l4 ∧ bo < l4 ∧ bj < l4)
  ord : OwnI w bo (bo + 1) (.slice (some ⟨bo, 0, none⟩) n co) (fnL O n)
  joi : w.rowIs bj 4 n (fun x => .bool (J x))
theorem own_tightU {w : World} {lo hi g n c : Nat} {L : List Int} (h : OwnI w lo hi (.slice (some ⟨g, 0, none⟩) n c) L) (hg : g < w.heap.size) : OwnI w g (g + 1) (.slice (some ⟨g, 0, none⟩) n c) L := by
  obtain ⟨h1, h2, h3⟩ := h
  refine ⟨?_, fun k hk => by obtain rfl : g = k := by simpa [Value.ownBlock] using hk
                             omega, by omega⟩
  obtain ⟨a, b⟩ := h1
  refine ⟨a, ?_⟩
  rcases b with ⟨e, _⟩ | ⟨g', cap, cur, e, hb, rest⟩
  · cases e
  · cases e; exact .inr ⟨_, _, _, rfl, Nat.le_refl _, rest⟩
theorem inti_info : (Try.prog.info? 3).map (fun i => (i.zero, i.size, i.bytes)) = some (some (.int .i64 0), 1, 8) := by kernel_rfl
theorem bool_info : (Try.prog.info? 4).map (fun i => (i.zero, i.size, i.bytes)) = some (some (.bool false), 1, 1) := by kernel_rfl
def nmL (k : Nat) : List Value := (List.range k).map fun (x : Nat) => (Value.int .i64 (x : Int))
theorem nmL_len (k : Nat) : (nmL k).length = k := by simp [nmL]
theorem nmL_next (k : Nat) : nmL (k + 1) = nmL k ++ [.int .i64 (k : Int)] := by simp [nmL, List.range_succ]
theorem nmL_at {k j : Nat} (h : j < k) : (nmL k)[j]? = some (.int .i64 (j : Int)) := by simp [nmL, h]

set_option maxRecDepth 100000 in
set_option maxHeartbeats 4000000 in
theorem unloadingFrom2_any (g n lo bo co : Nat) (P S : List Int) (O : Nat → Int) (vw : Value) (w : World) (hpt : PtsAt w g n n P S) (hg : g < lo) (hlo : lo ≤ bo) (hbo : bo < w.heap.size) (hC : ClP P S n)
    (ho : OwnI w bo (bo + 1) (.slice (some ⟨bo, 0, none⟩) n co) (fnL O n)) (hB : ∀ x, x < n → -50000000000000000 ≤ O x ∧ O x ≤ 50000000000000000) :
    Calls Try.prog 144 #[.agg #[.slice (some ⟨g, 0, none⟩) n n, vw], .slice (some ⟨bo, 0, none⟩) n co] w fun e w' => ∃ ub bj mo bn cm cn, e = .returned (.pointer (some ⟨ub, 0, none⟩)) ∧ US w' lo ub bo bj g n mo bn co cm cn P S O (fun _ => false) ∧ Below w.heap.size w w' ∧ w.heap.size ≤ ub ∧ w.heap.size ≤ bj ∧ n ≤ cn := by
  have hn := hC.hi
  have hn1 := hC.lo
  have HC := Lib.hid hC
  obtain ⟨W0, HE⟩ : ∃ V, V = w.alloc (.cells #[.slice (some ⟨g, 0, none⟩) n n, vw] 93) := ⟨_, rfl⟩
  have hb0 : Below w.heap.size w W0 := by rw [HE]; exact below_box2 _ _
  have z0 : W0.cell? ⟨w.heap.size, 0, none⟩ = some (.slice (some ⟨g, 0, none⟩) n n) := by rw [HE]; go_simp
  have z1 : W0.cell? ⟨w.heap.size, 1, none⟩ = some vw := by rw [HE]; go_simp
  have hzl : w.heap.size < W0.heap.size := by rw [HE]; simp
  have hgw : g < w.heap.size := by omega
  have HPT0 : Hid (PtsAt W0 g n n P S) := Lib.hid (rowIs_below hpt hgw hb0)
  have hg0 : g < W0.heap.size := by omega
  have HOR := Lib.hid ho
  have HBO := Lib.hid hB
  have HB0 := Lib.hid hb0
  have HB0S : Hid (w.heap.size + 1 ≤ W0.heap.size) := Lib.hid (by omega)
  have HEQ := Lib.hid HE
  have hmk := fun (V : World) => run_make_row' (P := Try.prog) 145 4 (.bool false) 1 Try.underlying145 bool_info rfl .i64 .i64 n (by omega) (by omega) V
  obtain ⟨i0, hi0, hy0, hy1, hy2⟩ := info_parts inti_info
  clear hpt ho hB hb0 HE
  go_enter Try.func144, Try.ntmps144
  go_wp2_with fail
  rw [← HEQ.out]
  go_cut [5] (fun s5 wx => ∃ (ub mo cm bj : Nat), s5 = .pointer (some ⟨ub, 0, none⟩) ∧ Hid (UBx wx ub (.slice (some ⟨g, 0, none⟩) n n) vw (.slice (some ⟨mo, 0, none⟩) n cm) (.slice (some ⟨bo, 0, none⟩) n co) (.slice none 0 0) (.slice none 0 0) (.slice (some ⟨bj, 0, none⟩) n n)) ∧ Hid (∀ i, i < n → ∃ ri ci, wx.cell? ⟨mo, i, none⟩ = some (.slice (some ⟨ri, 0, none⟩) n ci) ∧ (W0.heap.size ≤ ri ∧ ri < wx.heap.size ∧ ri ≠ ub ∧ ri ≠ bj) ∧ ∀ j, j < n → wx.cell? ⟨ri, j, none⟩ = some (.int .i64 (meE P S n i j))) ∧ Hid (wx.rowIs bj 4 n (fun x => .bool false)) ∧ Hid (Below W0.heap.size W0 wx) ∧ Hid ((W0.heap.size ≤ ub ∧ W0.heap.size ≤ mo ∧ W0.heap.size ≤ bj) ∧ (ub < wx.heap.size ∧ mo < wx.heap.size ∧ bj < wx.heap.size) ∧ ub ≠ mo ∧ ub ≠ bj ∧ mo ≠ bj))
  case first =>
    refine wp_region_held_drew (S := fun w' => w'.cell? ⟨w.heap.size, 0, none⟩ = some (.slice (some ⟨g, 0, none⟩) n n) ∧ w'.cell? ⟨w.heap.size, 1, none⟩ = some (vw)) (by kernel_rfl) ⟨z0, z1⟩ (fun hHeld => ?_)
    refine takeY 0 _ (v := ?_) rfl rfl (by kernel_rfl) (by kernel_rfl) (by kernel_rfl) (fun _ _ _ h => h) (by kernel_rfl) ?_ (by assumption) ?_
    rotate_left 1
    · intro w hSw; (try dsimp only at hSw); go_simp; (try with_reducible rfl)
    try simp only [Act.put, List.setIfInBounds_toArray, List.set_cons_zero, List.set_cons_succ]
    refine takeY 1 _ (v := ?_) rfl rfl (by kernel_rfl) (by kernel_rfl) (by kernel_rfl) (fun _ _ _ h => h) (by kernel_rfl) ?_ (by assumption) ?_
    rotate_left 1
    · intro w hSw; (try dsimp only at hSw); go_simp; (try with_reducible rfl)
    try simp only [Act.put, List.setIfInBounds_toArray, List.set_cons_zero, List.set_cons_succ]
    refine takeY 2 _ (v := ?_) rfl rfl (by kernel_rfl) (by kernel_rfl) (by kernel_rfl) (fun _ _ _ h => h) (by kernel_rfl) ?_ (by assumption) ?_
    rotate_left 1
    · intro w hSw; (try dsimp only at hSw); go_simp; (try with_reducible rfl)
    try simp only [Act.put, List.setIfInBounds_toArray, List.set_cons_zero, List.set_cons_succ]
    refine takeY 4 _ (v := ?_) rfl rfl (by kernel_rfl) (by kernel_rfl) (by kernel_rfl) (fun _ _ _ h => h) (by kernel_rfl) ?_ (by assumption) ?_
    rotate_left 1
    · intro w hSw; (try dsimp only at hSw); go_simp; (try with_reducible rfl)
    try simp only [Act.put, List.setIfInBounds_toArray, List.set_cons_zero, List.set_cons_succ]
    refine takeY 5 _ (v := ?_) rfl rfl (by kernel_rfl) (by kernel_rfl) (by kernel_rfl) (fun _ _ _ h => h) (by kernel_rfl) ?_ (by assumption) ?_
    rotate_left 1
    · intro w hSw; (try dsimp only at hSw); go_simp; (try with_reducible rfl)
    try simp only [Act.put, List.setIfInBounds_toArray, List.set_cons_zero, List.set_cons_succ]
    refine takeY 6 _ (v := ?_) rfl rfl (by kernel_rfl) (by kernel_rfl) (by kernel_rfl) (fun _ _ _ h => h) (by kernel_rfl) ?_ (by assumption) ?_
    rotate_left 1
    · intro w hSw; (try dsimp only at hSw); go_simp; (try with_reducible rfl)
    try simp only [Act.put, List.setIfInBounds_toArray, List.set_cons_zero, List.set_cons_succ]
    refine wpAnyH_ready (rs := [3, 7]) (by kernel_rfl) (by simp) ?_
    refine AllReadyH.cons rfl (fun K hK => ?_) (AllReadyH.cons rfl (fun K hK => ?_) AllReadyH.nil)
    · go_simp
      refine (excM_any g n P S W0.drew HPT0.out hg0 HC.out).mono ?_
      rintro e w2 ⟨A1, c1, rfl, ho1, hb2d⟩
      have hb2 := below_un hb2d
      have HM : Hid (∀ i j, i < n → j < n → ∃ go gi ci, A1 = some ⟨go, 0, none⟩ ∧ W0.heap.size ≤ go ∧ go < w2.heap.size ∧ w2.cell? ⟨go, i, none⟩ = some (.slice (some ⟨gi, 0, none⟩) n ci) ∧ W0.heap.size ≤ gi ∧ gi < w2.heap.size ∧ w2.cell? ⟨gi, j, none⟩ = some (.int .i64 (meE P S n i j))) := Lib.hid (fun i j hi hj => by obtain ⟨go, gi, ci, e1, e2, e3, e4, e5, e6, e7⟩ := mat_at ho1 (meQ_len _ _ _) (fun i hi => by rw [meQ_at hi, meR_len]) hi hj; rw [meQ_at hi, meR_at hj] at e7; exact ⟨go, gi, ci, e1, e2, e3, e4, e5, e6, e7⟩)
      obtain ⟨mo, gi0, ci0, rfl, _⟩ := HM.out 0 0 (by omega) (by omega)
      have HMR : Hid (∀ i, i < n → (W0.heap.size ≤ mo ∧ mo < w2.heap.size) ∧ ∃ gi ci, w2.cell? ⟨mo, i, none⟩ = some (.slice (some ⟨gi, 0, none⟩) n ci) ∧ (W0.heap.size ≤ gi ∧ gi < w2.heap.size) ∧ ∀ j, j < n → w2.cell? ⟨gi, j, none⟩ = some (.int .i64 (meE P S n i j))) := Lib.hid (fun i hi => by obtain ⟨go', gi, ci, e1, e2, e3, e4, e5, e6, e7⟩ := HM.out i 0 hi (by omega); cases e1; refine ⟨⟨e2, e3⟩, gi, ci, e4, ⟨e5, e6⟩, fun j hj => ?_⟩; obtain ⟨go', gi', ci', f1, f2, f3, f4, f5, f6, f7⟩ := HM.out i j hi hj; cases f1; rw [e4] at f4; cases f4; exact f7)
      have HB2 := Lib.hid hb2
      clear HM ho1 hb2 hb2d
      refine hK.out _ _ ⟨(HB2.out.cell (p := ⟨w.heap.size, 0, none⟩) hzl).trans z0, (HB2.out.cell (p := ⟨w.heap.size, 1, none⟩) hzl).trans z1⟩ (fun hHeld => ?_)
      clear hK K
      try simp only [Act.put, List.setIfInBounds_toArray, List.set_cons_zero, List.set_cons_succ]
      refine wpAnyH_ready (rs := [7]) (by kernel_rfl) (by simp) ?_
      refine AllReadyH.cons rfl (fun K hK => ?_) AllReadyH.nil
      go_simp
      obtain ⟨w3, HE3⟩ : ∃ V, V = w2.alloc (.cells (madeCells #[.bool false] n) 4) := ⟨_, rfl⟩
      try rw [hmk w2]
      try simp only []
      rw [← HE3]
      have hb3 : Below w2.heap.size w2 w3 := by rw [HE3]; exact below_box2 _ _
      have hz3 : w3.heap.size = w2.heap.size + 1 := by rw [HE3]; simp
      have HJ3 : Hid (w3.rowIs w2.heap.size 4 n (fun x => .bool false)) := Lib.hid (by rw [HE3]; exact World.rowIs_made _ _ _ _)
      clear HE3
      have HB3 := Lib.hid (HB2.out.trans (hb3.mono HB2.out.size))
      have HM3 : Hid (∀ i, i < n → True ∧ ∃ gi ci, w3.cell? ⟨mo, i, none⟩ = some (.slice (some ⟨gi, 0, none⟩) n ci) ∧ (W0.heap.size ≤ gi ∧ gi < w3.heap.size ∧ gi ≠ w2.heap.size) ∧ ∀ j, j < n → w3.cell? ⟨gi, j, none⟩ = some (.int .i64 (meE P S n i j))) := Lib.hid (fun i hi => by obtain ⟨f0, gi, ci, f1, f2, f3⟩ := HMR.out i hi; exact ⟨trivial, gi, ci, (hb3.cell (p := ⟨mo, i, none⟩) f0.2).trans f1, ⟨f2.1, by omega, by omega⟩, fun j hj => (hb3.cell (p := ⟨gi, j, none⟩) f2.2).trans (f3 j hj)⟩)
      have HL3 : Hid ((W0.heap.size ≤ mo ∧ mo < w3.heap.size) ∧ (w2.heap.size < w3.heap.size ∧ W0.heap.size ≤ w2.heap.size ∧ mo ≠ w2.heap.size)) := Lib.hid (by have := (HMR.out 0 (by omega)).1; have := HB2.out.size; omega)
      refine hK.out _ _ ⟨(HB3.out.cell (p := ⟨w.heap.size, 0, none⟩) hzl).trans z0, (HB3.out.cell (p := ⟨w.heap.size, 1, none⟩) hzl).trans z1⟩ (fun hHeld => ?_)
      clear hK K
      try simp only [Act.put, List.setIfInBounds_toArray, List.set_cons_zero, List.set_cons_succ]
      refine takeY 8 _ (v := ?_) rfl rfl (by kernel_rfl) (by kernel_rfl) (by kernel_rfl) (fun _ _ _ h => h) (by kernel_rfl) ?_ (by assumption) ?_
      rotate_left 1
      · intro w hSw; (try dsimp only at hSw); go_simp; (try with_reducible rfl)
      try simp only [Act.put, List.setIfInBounds_toArray, List.set_cons_zero, List.set_cons_succ]
      refine wpAnyH_ready (rs := [9]) (by kernel_rfl) (by simp) ?_
      refine AllReadyH.cons rfl (fun K hK => ?_) AllReadyH.nil
      go_simp
      obtain ⟨w5, HE5⟩ : ∃ V, V = w3.alloc (.cells #[.slice (some ⟨g, 0, none⟩) n n, vw, .slice (some ⟨mo, 0, none⟩) n c1, .slice (some ⟨bo, 0, none⟩) n co, .slice none 0 0, .slice none 0 0, .slice (some ⟨w2.heap.size, 0, none⟩) n n] 147) := ⟨_, rfl⟩
      rw [← HE5]
      have hq5 : UBx w5 w3.heap.size (.slice (some ⟨g, 0, none⟩) n n) vw (.slice (some ⟨mo, 0, none⟩) n c1) (.slice (some ⟨bo, 0, none⟩) n co) (.slice none 0 0) (.slice none 0 0) (.slice (some ⟨w2.heap.size, 0, none⟩) n n) := by rw [HE5]; exact UBx.new _ _ _ _ _ _ _ _ _
      have hb5 : Below w3.heap.size w3 w5 := by rw [HE5]; exact below_box2 _ _
      have hz5 : w5.heap.size = w3.heap.size + 1 := by rw [HE5]; simp
      clear HE5
      have HB5 := Lib.hid (HB3.out.trans (hb5.mono HB3.out.size))
      refine hK.out _ _ ⟨(HB5.out.cell (p := ⟨w.heap.size, 0, none⟩) hzl).trans z0, (HB5.out.cell (p := ⟨w.heap.size, 1, none⟩) hzl).trans z1⟩ (fun hHeld => ?_)
      clear hK K
      try simp only [Act.put, List.setIfInBounds_toArray, List.set_cons_zero, List.set_cons_succ]
      refine takeY 10 _ (v := ?_) rfl rfl (by kernel_rfl) (by kernel_rfl) (by kernel_rfl) (fun _ _ _ h => h) (by kernel_rfl) ?_ (by assumption) ?_
      rotate_left 1
      · intro w hSw; (try dsimp only at hSw); go_simp; (try with_reducible rfl)
      try simp only [Act.put, List.setIfInBounds_toArray, List.set_cons_zero, List.set_cons_succ]
      refine wpAnyH_done (by kernel_rfl) ?_ _
      go_wp2_with fail
      go_meet
      exact ⟨w3.heap.size, mo, c1, w2.heap.size, (by first | rfl | rw [hz3]), Lib.hid hq5, Lib.hid (fun i hi => by obtain ⟨_, gi, ci, f1, f2, f3⟩ := HM3.out i hi; exact ⟨gi, ci, (hb5.cell (p := ⟨mo, i, none⟩) HL3.out.1.2).trans f1, ⟨by have := HB0S.out; omega, by omega, by omega, f2.2.2⟩, fun j hj => (hb5.cell (p := ⟨gi, j, none⟩) f2.2.1).trans (f3 j hj)⟩), Lib.hid (HJ3.out.of_block (hb5.block _ HL3.out.2.1)), HB5, Lib.hid (by have := HL3.out; have := HB0S.out; omega)⟩
    · go_simp
      obtain ⟨x1w, HE3⟩ : ∃ V, V = (W0.alloc (.cells (madeCells #[.bool false] n) 4)).drew := ⟨_, rfl⟩
      try rw [hmk W0.drew]
      try simp only []
      rw [← HE3]
      have hb1 : Below W0.heap.size W0 x1w := by rw [HE3]; exact (below_box2 W0 (.cells (madeCells #[.bool false] n) 4)).drew
      have hz1 : x1w.heap.size = W0.heap.size + 1 := by rw [HE3]; show (W0.alloc (.cells (madeCells #[.bool false] n) 4)).heap.size = _; simp
      have HJ1 : Hid (x1w.rowIs W0.heap.size 4 n (fun x => .bool false)) := Lib.hid (by have hj0 : (W0.alloc (.cells (madeCells #[.bool false] n) 4)).rowIs W0.heap.size 4 n (fun x => .bool false) := World.rowIs_made _ _ _ _; rw [HE3]; exact hj0.of_block rfl)
      clear HE3
      have HB1x := Lib.hid hb1
      refine hK.out _ _ ⟨(HB1x.out.cell (p := ⟨w.heap.size, 0, none⟩) hzl).trans z0, (HB1x.out.cell (p := ⟨w.heap.size, 1, none⟩) hzl).trans z1⟩ (fun hHeld => ?_)
      clear hK K
      try simp only [Act.put, List.setIfInBounds_toArray, List.set_cons_zero, List.set_cons_succ]
      refine wpAnyH_ready (rs := [3]) (by kernel_rfl) (by simp) ?_
      refine AllReadyH.cons rfl (fun K hK => ?_) AllReadyH.nil
      go_simp
      have HPT1 : Hid (PtsAt x1w g n n P S) := Lib.hid (rowIs_below HPT0.out hg0 HB1x.out)
      have hg1 : g < x1w.heap.size := by omega
      refine (excM_any g n P S x1w HPT1.out hg1 HC.out).mono ?_
      rintro e w2 ⟨A1, c1, rfl, ho1, hb2⟩
      have HM : Hid (∀ i j, i < n → j < n → ∃ go gi ci, A1 = some ⟨go, 0, none⟩ ∧ x1w.heap.size ≤ go ∧ go < w2.heap.size ∧ w2.cell? ⟨go, i, none⟩ = some (.slice (some ⟨gi, 0, none⟩) n ci) ∧ x1w.heap.size ≤ gi ∧ gi < w2.heap.size ∧ w2.cell? ⟨gi, j, none⟩ = some (.int .i64 (meE P S n i j))) := Lib.hid (fun i j hi hj => by obtain ⟨go, gi, ci, e1, e2, e3, e4, e5, e6, e7⟩ := mat_at ho1 (meQ_len _ _ _) (fun i hi => by rw [meQ_at hi, meR_len]) hi hj; rw [meQ_at hi, meR_at hj] at e7; exact ⟨go, gi, ci, e1, e2, e3, e4, e5, e6, e7⟩)
      obtain ⟨mo, gi0, ci0, rfl, _⟩ := HM.out 0 0 (by omega) (by omega)
      have HMR : Hid (∀ i, i < n → (x1w.heap.size ≤ mo ∧ mo < w2.heap.size) ∧ ∃ gi ci, w2.cell? ⟨mo, i, none⟩ = some (.slice (some ⟨gi, 0, none⟩) n ci) ∧ (x1w.heap.size ≤ gi ∧ gi < w2.heap.size) ∧ ∀ j, j < n → w2.cell? ⟨gi, j, none⟩ = some (.int .i64 (meE P S n i j))) := Lib.hid (fun i hi => by obtain ⟨go', gi, ci, e1, e2, e3, e4, e5, e6, e7⟩ := HM.out i 0 hi (by omega); cases e1; refine ⟨⟨e2, e3⟩, gi, ci, e4, ⟨e5, e6⟩, fun j hj => ?_⟩; obtain ⟨go', gi', ci', f1, f2, f3, f4, f5, f6, f7⟩ := HM.out i j hi hj; cases f1; rw [e4] at f4; cases f4; exact f7)
      have HB2 := Lib.hid (HB1x.out.trans (hb2.mono HB1x.out.size))
      have hz2 := hb2.size
      have HJ3 : Hid (w2.rowIs W0.heap.size 4 n (fun x => .bool false)) := Lib.hid (HJ1.out.of_block (hb2.block _ (by omega)))
      clear HM ho1 hb2
      refine hK.out _ _ ⟨(HB2.out.cell (p := ⟨w.heap.size, 0, none⟩) hzl).trans z0, (HB2.out.cell (p := ⟨w.heap.size, 1, none⟩) hzl).trans z1⟩ (fun hHeld => ?_)
      clear hK K
      try simp only [Act.put, List.setIfInBounds_toArray, List.set_cons_zero, List.set_cons_succ]
      refine takeY 8 _ (v := ?_) rfl rfl (by kernel_rfl) (by kernel_rfl) (by kernel_rfl) (fun _ _ _ h => h) (by kernel_rfl) ?_ (by assumption) ?_
      rotate_left 1
      · intro w hSw; (try dsimp only at hSw); go_simp; (try with_reducible rfl)
      try simp only [Act.put, List.setIfInBounds_toArray, List.set_cons_zero, List.set_cons_succ]
      obtain ⟨w3, rfl⟩ : ∃ V, V = w2 := ⟨_, rfl⟩
      have HB3 := HB2
      have HM3 : Hid (∀ i, i < n → True ∧ ∃ gi ci, w3.cell? ⟨mo, i, none⟩ = some (.slice (some ⟨gi, 0, none⟩) n ci) ∧ (W0.heap.size ≤ gi ∧ gi < w3.heap.size ∧ gi ≠ W0.heap.size) ∧ ∀ j, j < n → w3.cell? ⟨gi, j, none⟩ = some (.int .i64 (meE P S n i j))) := Lib.hid (fun i hi => by obtain ⟨f0, gi, ci, f1, f2, f3⟩ := HMR.out i hi; exact ⟨trivial, gi, ci, f1, ⟨by omega, f2.2, by omega⟩, f3⟩)
      have HL3 : Hid ((W0.heap.size ≤ mo ∧ mo < w3.heap.size) ∧ (W0.heap.size < w3.heap.size ∧ W0.heap.size ≤ W0.heap.size ∧ mo ≠ W0.heap.size)) := Lib.hid (by have := (HMR.out 0 (by omega)).1; omega)
      refine wpAnyH_ready (rs := [9]) (by kernel_rfl) (by simp) ?_
      refine AllReadyH.cons rfl (fun K hK => ?_) AllReadyH.nil
      go_simp
      obtain ⟨w5, HE5⟩ : ∃ V, V = w3.alloc (.cells #[.slice (some ⟨g, 0, none⟩) n n, vw, .slice (some ⟨mo, 0, none⟩) n c1, .slice (some ⟨bo, 0, none⟩) n co, .slice none 0 0, .slice none 0 0, .slice (some ⟨W0.heap.size, 0, none⟩) n n] 147) := ⟨_, rfl⟩
      rw [← HE5]
      have hq5 : UBx w5 w3.heap.size (.slice (some ⟨g, 0, none⟩) n n) vw (.slice (some ⟨mo, 0, none⟩) n c1) (.slice (some ⟨bo, 0, none⟩) n co) (.slice none 0 0) (.slice none 0 0) (.slice (some ⟨W0.heap.size, 0, none⟩) n n) := by rw [HE5]; exact UBx.new _ _ _ _ _ _ _ _ _
      have hb5 : Below w3.heap.size w3 w5 := by rw [HE5]; exact below_box2 _ _
      have hz5 : w5.heap.size = w3.heap.size + 1 := by rw [HE5]; simp
      clear HE5
      have HB5 := Lib.hid (HB3.out.trans (hb5.mono HB3.out.size))
      refine hK.out _ _ ⟨(HB5.out.cell (p := ⟨w.heap.size, 0, none⟩) hzl).trans z0, (HB5.out.cell (p := ⟨w.heap.size, 1, none⟩) hzl).trans z1⟩ (fun hHeld => ?_)
      clear hK K
      try simp only [Act.put, List.setIfInBounds_toArray, List.set_cons_zero, List.set_cons_succ]
      refine takeY 10 _ (v := ?_) rfl rfl (by kernel_rfl) (by kernel_rfl) (by kernel_rfl) (fun _ _ _ h => h) (by kernel_rfl) ?_ (by assumption) ?_
      rotate_left 1
      · intro w hSw; (try dsimp only at hSw); go_simp; (try with_reducible rfl)
      try simp only [Act.put, List.setIfInBounds_toArray, List.set_cons_zero, List.set_cons_succ]
      refine wpAnyH_done (by kernel_rfl) ?_ _
      go_wp2_with fail
      go_meet
      exact ⟨w3.heap.size, mo, c1, W0.heap.size, (by first | rfl | rw [hz3]), Lib.hid hq5, Lib.hid (fun i hi => by obtain ⟨_, gi, ci, f1, f2, f3⟩ := HM3.out i hi; exact ⟨gi, ci, (hb5.cell (p := ⟨mo, i, none⟩) HL3.out.1.2).trans f1, ⟨by have := HB0S.out; omega, by omega, by omega, f2.2.2⟩, fun j hj => (hb5.cell (p := ⟨gi, j, none⟩) f2.2.1).trans (f3 j hj)⟩), Lib.hid (HJ3.out.of_block (hb5.block _ HL3.out.2.1)), HB5, Lib.hid (by have := HL3.out; have := HB0S.out; omega)⟩
  case rest =>
    obtain ⟨ub, mo, cm, bj, rfl, HUX, HMX, HJX, HBX, HLX⟩ := hcut
    clear z0 z1 hmk
    obtain ⟨wx, rfl⟩ : ∃ V, V = wc := ⟨_, rfl⟩
    have hlx := HLX.out
    have HXL : Hid (ub < wx.heap.size) := Lib.hid hlx.2.1.1
    have HN0 : Hid (wx.ownsRow wx.heap.size 3 1 (.slice none 0 0) 0 (nmL 0)) := Lib.hid (World.ownsRow_nil _ _ _ _)
    have HK0 : Hid (Only ub (ub + 1) wx wx) := Lib.hid (Only.refl _ _ _)
    go_wp2_with fail
    go_loopw [19] (fun vi wr => ∃ (k : Nat) (A5 : Option Addr) (c5 : Nat), k ≤ n ∧ vi = .int .i64 k ∧ Hid (UBx wr ub (.slice (some ⟨g, 0, none⟩) n n) vw (.slice (some ⟨mo, 0, none⟩) n cm) (.slice (some ⟨bo, 0, none⟩) n co) (.slice none 0 0) (.slice A5 k c5) (.slice (some ⟨bj, 0, none⟩) n n)) ∧ Hid (wr.ownsRow wx.heap.size 3 1 (.slice A5 k c5) k (nmL k)) ∧ Hid (Only ub (ub + 1) wx wr)) (fun vi _ => n - (intOf vi).toNat)
    case atStart => exact ⟨0, none, 0, by omega, rfl, HUX, HN0, HK0⟩
    case round =>
      obtain ⟨k, A5, c5, hk, rfl, hux, how, hk1⟩ := hrel
      have hws := hk1.out.size
      have u5 := hux.out.c5; have uf := hux.out.f 5; have ul := hux.out.lt
      by_cases hkn : k < n
      · have hkn2 : (k : Int) < (n : Int) := by omega
        go_wp2_with (at_builtin; refine wpList_append_own _ rfl _ _ 142 rfl wx.heap.size 3 i0 (.int .i64 0) 1 8 Try.underlying142 hi0 hy0 hy1 hy2 rfl (by decide) (.slice A5 k c5) k (nmL k) rfl (World.ownsRow.alloc how.out _) ⟨wr.heap.size, 0, none⟩ 1 1 [.int .i64 k] rfl rfl (World.news_of_block (cs := #[.int .i64 k]) (t := 3) (fr := (0, 0)) (heap_alloc_new wr _)) (by simp [Value.oneCell']) (by simp only [maxLen]; omega) (by omega) (by simp; omega) ?_; intro v1 w4 hown1 hgrow _; have hf4 : ∃ A6 c6, v1 = .slice A6 (k + 1) c6 := (by (rcases hown1.2 with ⟨_, h9⟩ | ⟨g, cap, cur, e9, _⟩ <;> first | omega | exact ⟨_, _, e9⟩)); obtain ⟨A6, c6, rfl⟩ := hf4; have HO4 := Lib.hid hown1; have HK4 : Hid (Only ub (ub + 1) wx w4) := Lib.hid ⟨hgrow.os.trans hk1.out.os, hgrow.tape.trans hk1.out.tape, hgrow.output.trans hk1.out.output, (by (have h9 := hgrow.size; simp at h9; omega)), fun b hb hn => (hgrow.block b (by (simp; omega)) (fun e9 => (by (have h9 := (World.ownsRow.lt how.out b e9.symm).1; omega)))).trans ((Below.heap_alloc _ _ _ (by omega)).trans (hk1.out.block b hb hn))⟩; have HX4 : Hid (UBx w4 ub (.slice (some ⟨g, 0, none⟩) n n) vw (.slice (some ⟨mo, 0, none⟩) n cm) (.slice (some ⟨bo, 0, none⟩) n co) (.slice none 0 0) (.slice A5 k c5) (.slice (some ⟨bj, 0, none⟩) n n)) := Lib.hid (hux.out.of_block ((hgrow.block ub (by simp; omega) (fun e9 => (by (have h9 := (World.ownsRow.lt how.out ub e9.symm).1; have h8 := HXL.out; omega)))).trans (Below.heap_alloc _ _ _ ul)) (by (have h9 := hgrow.size; simp at h9; omega))); have e5 := HX4.out.c5; have ef := HX4.out.f 5; have el := HX4.out.lt; clear hown1 hgrow)
        go_roundw
        case rel => exact ⟨k + 1, A6, c6, by omega, by go_num, Lib.hid (HX4.out.set5 _), Lib.hid (by rw [nmL_next]; exact World.ownsRow.kept (row := some ub) HO4.out ⟨rfl, rfl, rfl, by rw [size_set]; exact Nat.le_refl _, fun b hb hne => Below.heap_setCell _ _ _ _ (fun e9 => hne (congrArg some e9))⟩ (by
          right; intro e9; have h9 := (World.ownsRow.lt HO4.out ub e9).1; have h8 := HXL.out; omega)), Lib.hid (HK4.out.trans (only_setU ub 5 _))⟩
        case measure => simp [intOf]; omega
      · obtain rfl : k = n := by omega
        obtain ⟨bn, cn, hA5, hkc⟩ : ∃ bn cn, Value.slice A5 k c5 = .slice (some ⟨bn, 0, none⟩) k cn ∧ k ≤ cn := by
          rcases how.out.2 with ⟨_, h9⟩ | ⟨gg, cap, cur, e9, _, _, hnc, _⟩
          · omega
          · exact ⟨gg, cap, e9, hnc⟩
        simp only [Value.slice.injEq, true_and] at hA5
        obtain ⟨rfl, rfl⟩ := hA5
        have HKC := Lib.hid hkc
        clear hkc
        have HBR : Hid (Below w.heap.size w wx) := Lib.hid (HB0.out.trans (HBX.out.mono HB0.out.size))
        have hb0s := HB0S.out
        have hsx := HBX.out.size
        have hgu : g ≠ ub := by omega
        have HPTR : Hid (PtsAt wr g k k P S) := Lib.hid ((rowIs_below HPT0.out hg0 HBX.out).of_block (hk1.out.block g (by omega) (by omega)))
        have HOW : Hid (OwnI wr bo (bo + 1) (.slice (some ⟨bo, 0, none⟩) k co) (fnL O k)) := Lib.hid ((HOR.out.stay HBR.out).kept (hk1.out.kept (.inl (by omega)) (by omega)))
        have hbn := World.ownsRow.lt how.out bn rfl
        have HNU := Lib.hid how.out
        have HUR := Lib.hid hux.out
        have HKR := Lib.hid hk1.out
        have HBN := Lib.hid hbn
        clear u5 uf ul hux how hk1 hbn
        go_wp2_with fail
        refine (update_any ub g k bo co bo (bo + 1) P S O vw _ _ _ _ wr HUR.out HPTR.out (by omega) hgu HC.out HOW.out HBO.out).mono ?_
        rintro e w' ⟨A1, c1, A4, c4, m, rfl, hux2, ho1, ho4, hon, hm1, hm2⟩
        have HX2 := Lib.hid hux2; have HO1 := Lib.hid ho1; have HO4 := Lib.hid ho4; have HON := Lib.hid hon; have HMM := Lib.hid (And.intro hm1 hm2)
        clear hux2 ho1 ho4 hon hm1 hm2
        go_wp2_with fail
        go_ret
        have hmm := HMM.out
        have hbn := HBN.out
        have hnr := HON.out.size
        have HT : Only ub (ub + 1) wx w' := HKR.out.trans HON.out
        have hsw := HT.size
        refine ⟨ub, bj, mo, bn, cm, c5, rfl, ⟨⟨hg, ?_, ⟨by omega, by omega⟩, ⟨hlo, by omega⟩, ⟨by omega, by omega⟩, by omega, by omega, by omega, ⟨by omega, by omega, by omega, by omega, by omega⟩, ⟨by omega, by omega, by omega, by omega, by omega⟩, ?_, ?_⟩, ⟨A1, c1, A4, c4, wr.heap.size, m, m, w'.heap.size, HX2.out, HO1.out, HO4.out, ⟨by omega, by omega, by omega, by omega⟩, ⟨by omega, by omega, by omega⟩⟩, ?_, ?_⟩, ?_, by omega, by omega, HKC.out⟩
        · exact (rowIs_below HPT0.out hg0 HBX.out).of_block (HT.block g (by omega) (by omega))
        · intro i hi
          obtain ⟨ri, ci, f1, f2, f3⟩ := HMX.out i hi
          exact ⟨ri, ci, (only_cell HT (by omega) (by omega)).trans f1, ⟨by omega, by omega, by omega, by omega, by omega⟩, fun j hj => (only_cell HT (by omega) (by omega)).trans (f3 j hj)⟩
        · intro j hj
          rw [only_cell HON.out (by omega) (by omega), World.ownsRow.cellAt HNU.out j (by omega)]
          exact nmL_at hj
        · exact HOW.out.kept (HON.out.kept (.inl (by omega)) (by omega))
        · exact HJX.out.of_block (HT.block bj (by omega) (by omega))
        · exact HBR.out.trans (Only.below HT (by omega) (by omega))

theorem unloadingFrom_any (g n lo bo co : Nat) (P S : List Int) (O : Nat → Int) (vw : Value) (w : World) (hpt : PtsAt w g n n P S) (hg : g < lo) (hlo : lo ≤ bo) (hbo : bo < w.heap.size) (hC : ClP P S n)
    (ho : OwnI w bo (bo + 1) (.slice (some ⟨bo, 0, none⟩) n co) (fnL O n)) (hB : ∀ x, x < n → -50000000000000000 ≤ O x ∧ O x ≤ 50000000000000000) :
    Calls Try.prog 144 #[.agg #[.slice (some ⟨g, 0, none⟩) n n, vw], .slice (some ⟨bo, 0, none⟩) n co] w fun e w' => ∃ ub bj mo bn cm cn, e = .returned (.pointer (some ⟨ub, 0, none⟩)) ∧ US w' lo ub bo bj g n mo bn co cm cn P S O (fun _ => false) ∧ Below w.heap.size w w' ∧ w.heap.size ≤ ub ∧ w.heap.size ≤ bj := by
  refine (unloadingFrom2_any g n lo bo co P S O vw w hpt hg hlo hbo hC ho hB).mono ?_
  rintro e w' ⟨ub, bj, mo, bn, cm, cn, h1, h2, h3, h4, h5, _⟩
  exact ⟨ub, bj, mo, bn, cm, cn, h1, h2, h3, h4, h5⟩
end Go.Proofs.Ytohbgfmjnanlkaa
