/- Clusters, the program's: rows of proximities, excesses: contracts. Conditions: stated at each theorem. -/
import Derived.Test.YtohbgfmjnanlkaaClX
namespace Go.Proofs.Ytohbgfmjnanlkaa
open Go.ChangeShapes Go.WideShapes Go.ChangeAt Go.RowKit Go.Deep
set_option linter.unusedVariables false
set_option linter.unusedSimpArgs false

/-- The list of the first n numbers of F. -/
def fnL (F : Nat → Int) (n : Nat) : List Int := (List.range n).map F
theorem fnL_len (F : Nat → Int) (n : Nat) : (fnL F n).length = n := by simp [fnL]
theorem fnL_at {F : Nat → Int} {n x : Nat} (h : x < n) : (fnL F n)[x]?.getD 0 = F x := by simp [fnL, h]
theorem fnL_self {L : List Int} {n : Nat} (h : L.length = n) : fnL (fun x => L[x]?.getD 0) n = L := by
  subst h
  apply List.ext_getElem (by simp [fnL])
  intro i h1 h2
  simp [fnL, h2]
theorem fnL_set {F : Nat → Int} {n j : Nat} (d : Int) (h : j < n) : (fnL F n).set j (F j + d) = fnL (updF F j d) n := by
  apply List.ext_getElem (by simp [fnL])
  intro i h1 h2
  simp only [List.getElem_set, fnL, List.getElem_map, List.getElem_range]
  by_cases e : j = i
  · subst e; simp [updF]
  · rw [if_neg e]; unfold updF; rw [if_neg (fun h => e h.symm)]
theorem fnL_congr {F G : Nat → Int} {n : Nat} (h : ∀ x, x < n → F x = G x) : fnL F n = fnL G n := by
  unfold fnL; exact List.map_congr_left fun x hx => h x (List.mem_range.1 hx)

/-- The list in block g has n rows of the call's own, apart from one another. -/
structure CRw (w : World) (g n : Nat) (uf : Nat → Value) (ls hs : Nat → Nat) (R : Nat → List Int) : Prop where
  row : w.rowIs g 22 n uf
  els : ∀ j, j < n → g + 1 ≤ ls j ∧ hs j ≤ w.heap.size ∧ OwnI w (ls j) (hs j) (uf j) (R j)
  apart : ∀ i j, i < n → j < n → i ≠ j → hs i ≤ ls j ∨ hs j ≤ ls i
  lt : g < w.heap.size
def CRows (w : World) (g n : Nat) (R : Nat → List Int) : Prop := ∃ uf ls hs, CRw w g n uf ls hs R
theorem CRows.congr {w : World} {g n : Nat} {R R' : Nat → List Int} (h : CRows w g n R) (e : ∀ j, j < n → R j = R' j) : CRows w g n R' := by
  obtain ⟨uf, ls, hs, h⟩ := h
  exact ⟨uf, ls, hs, h.row, fun j hj => by rw [← e j hj]; exact h.els j hj, h.apart, h.lt⟩
theorem CRows.start (w : World) (n : Nat) : CRows (w.alloc (.cells (madeCells #[.slice none 0 0] n) 22)) w.heap.size n (fun _ => []) :=
  ⟨fun _ => .slice none 0 0, fun _ => w.heap.size + 1, fun _ => w.heap.size + 1, World.rowIs_made _ _ _ _, fun j hj => ⟨Nat.le_refl _, by simp, Own.nil _ _, fun k hk => by simp [Value.ownBlock] at hk, by simp⟩, fun i j _ _ _ => .inl (Nat.le_refl _), by simp⟩
/-- A row is laid: one of the call's own, in new memory. -/
theorem CRows.put {w w3 : World} {g n j : Nat} {R : Nat → List Int} {v : Value} {L : List Int} (h : CRows w g n R) (hj : j < n) (hb : Below w.heap.size w w3) (ho : OwnI w3 w.heap.size w3.heap.size v L) :
    CRows (w3.setCell ⟨g, j, none⟩ v) g n (fun x => if x = j then L else R x) := by
  obtain ⟨uf, ls, hs, h⟩ := h
  have hss : (w3.setCell ⟨g, j, none⟩ v).heap.size = w3.heap.size := by simp [World.setCell]
  have hset : ∀ b, b ≠ g → (w3.setCell ⟨g, j, none⟩ v).heap[b]? = w3.heap[b]? := fun b hb => Below.heap_setCell _ _ _ _ (fun e => hb (by simpa using e))
  have hsz := hb.size
  have hgl := h.lt
  refine ⟨fun x => if x = j then v else uf x, fun x => if x = j then w.heap.size else ls x, fun x => if x = j then w3.heap.size else hs x, ?_, ?_, ?_, by rw [hss]; omega⟩
  · exact (h.row.of_block (hb.block g hgl)).set j v
  · intro x hx
    by_cases e : x = j
    · subst e
      simp only [if_true]
      exact ⟨by omega, by rw [hss]; exact Nat.le_refl _, ho.kept ⟨by rw [hss]; exact Nat.le_refl _, fun b h1 h2 => hset b (by omega)⟩⟩
    · simp only [if_neg e]
      obtain ⟨k1, k2, k3⟩ := h.els x hx
      refine ⟨k1, by omega, k3.kept ⟨by omega, fun b h1 h2 => ?_⟩⟩
      rw [hset b (by omega), hb.block b (by omega)]
  · intro a b ha hb' hab
    by_cases e1 : a = j
    · subst e1
      simp only [if_true, if_neg (show ¬ b = a from fun e => hab e.symm)]
      have := (h.els b hb').2.1
      omega
    · by_cases e2 : b = j
      · subst e2
        simp only [if_true, if_neg e1]
        have := (h.els a ha).2.1
        omega
      · simp only [if_neg e1, if_neg e2]
        exact h.apart a b ha hb' hab
theorem CRows.ownQ {w : World} {g n lo : Nat} {R : Nat → List Int} {L : List (List Int)} (h : CRows w g n R) (hl : L.length = n) (hR : ∀ j, j < n → R j = L.getD j []) (hlo : lo ≤ g) (hn : n ≤ 1048576) :
    OwnQ w lo w.heap.size (.slice (some ⟨g, 0, none⟩) n n) L := by
  obtain ⟨uf, ls, hs, hrow, hel, hap, hlt⟩ := h
  subst hl
  obtain ⟨cs, hc1, hc2, hc3⟩ := hrow
  have hcl : cs.toList.length = L.length := by simpa using hc2
  have hat : ∀ j, j < L.length → cs.toList.getD j undef = uf j := fun j hj => by
    have h3 := hc3 j hj
    simp [List.getD, h3]
  refine ⟨cs.toList, ls, hs, ⟨by rw [hcl, Nat.mul_one], .inr ⟨g, L.length, cs, rfl, hlo, hc1, Nat.le_refl _, by unfold maxLen; omega, by omega, ?_⟩⟩, (fun k hk => ?_), Nat.le_refl _, (fun j hj => ?_), (fun i j hij hj => hap i j (by omega) hj (by omega))⟩
  · rw [List.take_of_length_le (by rw [hcl]; omega)]
  · obtain rfl : g = k := by simpa [Value.ownBlock] using hk
    exact ⟨hlt, fun j hj => Or.inl (by have := (hel j hj).1; omega)⟩
  · obtain ⟨h1, h2, h3⟩ := hel j hj
    rw [hat j hj]
    refine ⟨by omega, h2, ?_⟩
    show OwnI w (ls j) (hs j) (uf j) (L.getD j [])
    rw [← hR j hj]; exact h3
/-- Rows of proximities in memory from block lo on. -/
structure RowsM (w : World) (lo g n : Nat) (P S : List Int) : Prop where
  low : lo ≤ g
  lt : g < w.heap.size
  row : ∀ i, i < n → ∃ A3 c3, w.cell? ⟨g, i, none⟩ = some (.slice A3 (nrC P S i).length c3) ∧ ∀ t, t < (nrC P S i).length → ∃ (g3 j : Nat), A3 = some ⟨g3, 0, none⟩ ∧ lo ≤ g3 ∧ g3 < w.heap.size ∧ (nrC P S i)[t]? = some (j : Int) ∧ j < i ∧ w.cell? ⟨g3, t, none⟩ = some (.int .i64 j)
theorem CRows.mem {w : World} {g n lo : Nat} {P S : List Int} (h : CRows w g n (fun x => nrC P S x)) (ho : okAll P S n = true) (hlo : lo ≤ g) : RowsM w lo g n P S := by
  obtain ⟨uf, ls, hs, h⟩ := h
  refine ⟨hlo, h.lt, fun i hi => ?_⟩
  have hc := h.row.cell hi
  obtain ⟨k1, k2, k3⟩ := h.els i hi
  obtain ⟨A3, c3, hu⟩ := k3.form rfl
  rw [hu] at hc k3
  refine ⟨A3, c3, hc, fun t ht => ?_⟩
  obtain ⟨g3, e, hg1, hg2, hct, _⟩ := own_at k3 rfl ht
  obtain ⟨j, hj1, hj2⟩ := nr_at ho hi ht
  exact ⟨g3, j, e, by omega, by omega, hj1, hj2, by rw [hct, hj1]; rfl⟩
theorem RowsM.kept {w w' : World} {lo g n : Nat} {P S : List Int} (h : RowsM w lo g n P S) (k : Kept lo w.heap.size w w') : RowsM w' lo g n P S := by
  have hc : ∀ b o, lo ≤ b → b < w.heap.size → w'.cell? ⟨b, o, none⟩ = w.cell? ⟨b, o, none⟩ := fun b o h1 h2 => by
    have := k.block b h1 h2; simp [World.cell?, this]
  refine ⟨h.low, Nat.lt_of_lt_of_le h.lt k.size, fun i hi => ?_⟩
  obtain ⟨A3, c3, h1, h2⟩ := h.row i hi
  refine ⟨A3, c3, by rw [hc _ _ h.low h.lt]; exact h1, fun t ht => ?_⟩
  obtain ⟨g3, j, e, a1, a2, a3, a4, a5⟩ := h2 t ht
  exact ⟨g3, j, e, a1, Nat.lt_of_lt_of_le a2 k.size, a3, a4, by rw [hc _ _ a1 a2]; exact a5⟩

set_option maxRecDepth 100000 in
set_option maxHeartbeats 4000000 in
theorem allProx_any (g n : Nat) (P S : List Int) (w : World) (h : PtsAt w g n n P S) (hg : g < w.heap.size) (ho : okAll P S n = true) (hn : n ≤ 24) :
    Calls Try.prog 141 #[.slice (some ⟨g, 0, none⟩) n n] w fun e w' => e = .returned (.slice (some ⟨w.heap.size, 0, none⟩) n n) ∧ CRows w' w.heap.size n (fun x => nrC P S x) ∧ Below w.heap.size w w' := by
  obtain ⟨W1, HE1⟩ : ∃ W, W = w.alloc (.cells (madeCells #[.slice none 0 0] n) 22) := ⟨_, rfl⟩
  have HB1 : Hid (Below w.heap.size w W1) := Lib.hid (by rw [HE1]; exact below_box2 _ _)
  have HR1 : Hid (CRows W1 w.heap.size n (fun x => if x < 0 then nrC P S x else [])) := Lib.hid (by rw [HE1]; exact (CRows.start w n).congr fun j hj => by simp)
  have HC := Lib.hid (h.cells (Nat.le_refl n) hg)
  have HEQ1 := Lib.hid HE1
  have HO := Lib.hid ho
  have hmk := fun (W : World) => run_make_row' (P := Try.prog) 49 22 (.slice none 0 0) 24 Try.underlying49 slice_info rfl .i64 .i64 n (by omega) (by omega) W
  clear h ho HE1
  go_enter Try.func141, Try.ntmps141
  go_wp2
  rw [← HEQ1.out]
  clear hmk
  go_loopw [10] (fun vi wr => ∃ (k : Nat), k ≤ n ∧ vi = .int .i64 k ∧ Hid (CRows wr w.heap.size n (fun x => if x < k then nrC P S x else [])) ∧ Hid (Below w.heap.size w wr)) (fun vi _ => n - (intOf vi).toNat)
  case atStart => exact ⟨0, by omega, rfl, HR1, HB1⟩
  case round =>
    obtain ⟨k, hk, rfl, hrow, hb⟩ := hrel
    by_cases hkn : k < n
    · have hkn2 : (k : Int) < (n : Int) := by omega
      have HCW := Lib.hid (HC.out.below hb.out)
      go_wp2_with fail
      refine (prox_any HCW.out HO.out hkn).mono ?_
      rintro e w3 ⟨A3, c3, rfl, ho3, hb3⟩
      have HR3 := Lib.hid (hrow.out.put (v := .slice A3 (nrC P S k).length c3) hkn hb3 ho3)
      have HB3 : Hid (Below w.heap.size w (w3.setCell ⟨w.heap.size, k, none⟩ (.slice A3 (nrC P S k).length c3))) := Lib.hid ((hb.out.trans (hb3.mono hb.out.size)).setCell (p := ⟨w.heap.size, k, none⟩) (Nat.le_refl _) _)
      have hq : w3.cell? ⟨w.heap.size, k, none⟩ ≠ none ∧ w3.frozen? ⟨w.heap.size, k, none⟩ = false := by
        obtain ⟨uf, ls, hs, hh⟩ := hrow.out
        have hr3 := hh.row.of_block (hb3.block w.heap.size hh.lt)
        exact ⟨by rw [hr3.cell hkn]; simp, hr3.frozen k⟩
      obtain ⟨u, hu⟩ := Option.ne_none_iff_exists'.1 hq.1
      have hfz := hq.2
      obtain ⟨N, hN⟩ : ∃ N, (nrC P S k).length = N := ⟨_, rfl⟩
      have HN := Lib.hid hN
      rw [hN] at HR3 HB3 ⊢
      clear hq hN ho3 hb3
      go_wp2_with fail
      go_roundw
      case rel => exact ⟨k + 1, by omega, by go_num, Lib.hid (HR3.out.congr fun x hx => by
        by_cases e : x = k
        · subst e; rw [if_pos rfl, if_pos (by omega)]
        · rw [if_neg e]
          by_cases e2 : x < k
          · rw [if_pos e2, if_pos (by omega)]
          · rw [if_neg e2, if_neg (by omega)]), HB3⟩
      case measure => simp [intOf]; omega
    · obtain rfl : k = n := by omega
      have HRX : Hid (CRows wr w.heap.size k (fun x => nrC P S x)) := Lib.hid (hrow.out.congr fun x hx => by rw [if_pos hx])
      go_wp2
      go_ret
      exact ⟨rfl, HRX.out, hb.out⟩

end Go.Proofs.Ytohbgfmjnanlkaa
