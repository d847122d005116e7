/- Points of a cluster: the program links them: contracts. Conditions: stated at each theorem. -/
import Derived.Test.YtohbgfmjnanlkaaClL
namespace Go.Proofs.Ytohbgfmjnanlkaa
open Go.ChangeShapes Go.WideShapes Go.ChangeAt Go.RowKit Go.Deep
set_option linter.unusedVariables false
set_option linter.unusedSimpArgs false

theorem only_set (g : Nat) (w : World) (o : Nat) (u : Value) : Only g (g + 1) w (w.setCell ⟨g, o, none⟩ u) :=
  ⟨rfl, rfl, rfl, by simp [World.setCell], fun b hb hn => Below.heap_setCell w ⟨g, o, none⟩ u b (by show b ≠ g; omega)⟩
theorem only_new (l h : Nat) (w : World) (o : Obj) : Only l h w (w.alloc o) := ⟨rfl, rfl, rfl, by simp, fun b hb hn => Below.heap_alloc w o b hb⟩
theorem only_below {l h : Nat} {w w' : World} (k : Below w.heap.size w w') : Only l h w w' := ⟨k.os, k.tape, k.output, k.size, fun b hb _ => k.block b hb⟩
theorem only_drew (l h : Nat) (w : World) : Only l h w w.drew := ⟨rfl, rfl, rfl, Nat.le_refl _, fun _ _ _ => rfl⟩
theorem rowIs_below {w w' : World} {g n : Nat} {T : TypeId} {F : Nat → Value} (h : w.rowIs g T n F) (hg : g < w.heap.size) (hb : Below w.heap.size w w') : w'.rowIs g T n F := h.of_block (hb.block g hg)
/-- The cells of the points before k. -/
structure CellM (w : World) (g k : Nat) (P S : List Int) : Prop where
  lt : g < w.heap.size
  num : ∀ i, i < k → w.cell? ⟨g, i * 3, none⟩ = some (.int .i64 i)
  par : ∀ i, i < k → w.cell? ⟨g, i * 3 + 1, none⟩ = some (.pointer (ptA g (P[i]?.getD 0)))
  sec : ∀ i, i < k → w.cell? ⟨g, i * 3 + 2, none⟩ = some (.pointer (ptA g (S[i]?.getD 0)))
theorem CellM.of_row {w : World} {g n k : Nat} {P S : List Int} {F : Nat → Value} (h : w.rowIs g 175 (n * 3) F) (hk : k ≤ n) (hg : g < w.heap.size) (hF : ∀ x, x < k * 3 → F x = ptV g P S k x) : CellM w g k P S :=
  ⟨hg, fun i hi => by rw [h.cell (i := i * 3) (by omega), hF _ (by omega), ptV_num hi], fun i hi => by rw [h.cell (i := i * 3 + 1) (by omega), hF _ (by omega), ptV_par hi], fun i hi => by rw [h.cell (i := i * 3 + 2) (by omega), hF _ (by omega), ptV_sec hi]⟩
theorem PtsAt.cells {w : World} {g n k : Nat} {P S : List Int} (h : PtsAt w g n k P S) (hk : k ≤ n) (hg : g < w.heap.size) : CellM w g k P S := CellM.of_row h hk hg fun x _ => rfl
theorem CellM.below {w w' : World} {g k : Nat} {P S : List Int} (h : CellM w g k P S) (hb : Below w.heap.size w w') : CellM w' g k P S := by
  have hc : ∀ o, w'.cell? ⟨g, o, none⟩ = w.cell? ⟨g, o, none⟩ := fun o => hb.cell (p := ⟨g, o, none⟩) h.lt
  exact ⟨Nat.lt_of_lt_of_le h.lt hb.size, fun i hi => by rw [hc]; exact h.num i hi, fun i hi => by rw [hc]; exact h.par i hi, fun i hi => by rw [hc]; exact h.sec i hi⟩
theorem prox_any {w : World} {g k q : Nat} {P S : List Int} (h : CellM w g k P S) (ho : okAll P S k = true) (hq : q < k) :
    Calls Try.prog 171 #[.pointer (some ⟨g, q * 3, none⟩)] w (LAns w (nrC P S q)) := by
  have h1 := h.par q hq
  have h2 := h.sec q hq
  by_cases h0 : q = 0
  · obtain ⟨e1, e2, e3⟩ := nr_zero ho (show 0 < k by omega)
    subst h0
    rw [e2, ptA_none] at h1
    rw [e3, ptA_none] at h2
    rw [e1]
    exact prox0_any g (0 * 3) w h1 h2
  · obtain ⟨p, hp, hpq, hs⟩ := nr_lt ho q hq (by omega)
    rw [hp, ptA_nat] at h1
    rcases hs with ⟨e1, e2⟩ | ⟨s, e1, hsp, e2⟩
    · rw [e1, ptA_none] at h2
      rw [e2]
      exact prox1_any g (q * 3) g (p * 3) p w h1 h2 (h.num p (by omega))
    · rw [e1, ptA_nat] at h2
      rw [e2]
      exact prox2_any g (q * 3) g (p * 3) g (s * 3) p s w h1 h2 (h.num p (by omega)) (h.num s (by omega)) h.lt h.lt

set_option maxRecDepth 100000 in
set_option maxHeartbeats 2000000 in
theorem link_neg (w : World) (g n k : Nat) (P S : List Int) (p s : Int) (h : PtsAt w g n k P S) (hk : 1 ≤ k ∧ k < n) (hn : n ≤ 24) (hg : g < w.heap.size) (hp : P[k]?.getD 0 = p) (hs : S[k]?.getD 0 = s) (ho : okAll P S k = true) (hx : p < 0) :
    Calls Try.prog 134 #[.slice (some ⟨g, 0, none⟩) n n, .int .i64 k, .int .i64 p, .int .i64 s] w fun e w' => e = .returned (.bool false) ∧ Only g (g + 1) w w' := by
  have HM := Lib.hid h
  have c0 := h.cell (i := k * 3) (by omega)
  have c1 := h.cell (i := k * 3 + 1) (by omega)
  have c2 := h.cell (i := k * 3 + 2) (by omega)
  rw [ptV_z0 (Nat.le_refl k)] at c0
  rw [ptV_z1 (Nat.le_refl k)] at c1
  rw [ptV_z2 (Nat.le_refl k)] at c2
  have f0 := h.frozen (k * 3)
  have hgn : g ≠ w.heap.size := by omega
  have hkn : (k : Int) < (n : Int) := by omega
  have hk0 : ((k : Int) == 0) = false := by simp; omega
  have HP := Lib.hid hp
  have HS := Lib.hid hs
  have HO := Lib.hid ho
  have E1 : Hid (Only g (g + 1) w ((w.setCell ⟨g, k * 3, none⟩ (.int .i64 k)).alloc (.cells #[.pointer (some ⟨g, k * 3, none⟩)] 173))) := Lib.hid (Only.trans (only_set g w _ _) (only_new _ _ _ _))
  have R1 : Hid (((w.setCell ⟨g, k * 3, none⟩ (.int .i64 k)).alloc (.cells #[.pointer (some ⟨g, k * 3, none⟩)] 173)).rowIs g 175 (n * 3) (fun x => if x = k * 3 then .int .i64 k else ptV g P S k x)) := Lib.hid ((HM.out.set (k * 3) _).of_block (Below.heap_alloc _ _ _ (by simpa [World.setCell] using hg)))
  have X1 : Hid (((w.setCell ⟨g, k * 3, none⟩ (.int .i64 k)).alloc (.cells #[.pointer (some ⟨g, k * 3, none⟩)] 173)).cell? ⟨w.heap.size, 0, none⟩ = some (.pointer (some ⟨g, k * 3, none⟩)) ∧ ((w.setCell ⟨g, k * 3, none⟩ (.int .i64 k)).alloc (.cells #[.pointer (some ⟨g, k * 3, none⟩)] 173)).heap.size = w.heap.size + 1) := Lib.hid ⟨by go_simp, by simp [World.setCell]⟩
  clear h hp hs ho c1 c2
  go_enter Try.func134, Try.ntmps134
  go_wp2_with fail
  go_ret
  exact ⟨rfl, E1.out⟩

set_option maxRecDepth 100000 in
set_option maxHeartbeats 2000000 in
theorem link_far (w : World) (g n k : Nat) (P S : List Int) (p s : Int) (h : PtsAt w g n k P S) (hk : 1 ≤ k ∧ k < n) (hn : n ≤ 24) (hg : g < w.heap.size) (hp : P[k]?.getD 0 = p) (hs : S[k]?.getD 0 = s) (ho : okAll P S k = true) (hx : 0 ≤ p ∧ (k : Int) ≤ p) :
    Calls Try.prog 134 #[.slice (some ⟨g, 0, none⟩) n n, .int .i64 k, .int .i64 p, .int .i64 s] w fun e w' => e = .returned (.bool false) ∧ Only g (g + 1) w w' := by
  have HM := Lib.hid h
  have c0 := h.cell (i := k * 3) (by omega)
  have c1 := h.cell (i := k * 3 + 1) (by omega)
  have c2 := h.cell (i := k * 3 + 2) (by omega)
  rw [ptV_z0 (Nat.le_refl k)] at c0
  rw [ptV_z1 (Nat.le_refl k)] at c1
  rw [ptV_z2 (Nat.le_refl k)] at c2
  have f0 := h.frozen (k * 3)
  have hgn : g ≠ w.heap.size := by omega
  have hkn : (k : Int) < (n : Int) := by omega
  have hk0 : ((k : Int) == 0) = false := by simp; omega
  have HP := Lib.hid hp
  have HS := Lib.hid hs
  have HO := Lib.hid ho
  have E1 : Hid (Only g (g + 1) w ((w.setCell ⟨g, k * 3, none⟩ (.int .i64 k)).alloc (.cells #[.pointer (some ⟨g, k * 3, none⟩)] 173))) := Lib.hid (Only.trans (only_set g w _ _) (only_new _ _ _ _))
  have R1 : Hid (((w.setCell ⟨g, k * 3, none⟩ (.int .i64 k)).alloc (.cells #[.pointer (some ⟨g, k * 3, none⟩)] 173)).rowIs g 175 (n * 3) (fun x => if x = k * 3 then .int .i64 k else ptV g P S k x)) := Lib.hid ((HM.out.set (k * 3) _).of_block (Below.heap_alloc _ _ _ (by simpa [World.setCell] using hg)))
  have X1 : Hid (((w.setCell ⟨g, k * 3, none⟩ (.int .i64 k)).alloc (.cells #[.pointer (some ⟨g, k * 3, none⟩)] 173)).cell? ⟨w.heap.size, 0, none⟩ = some (.pointer (some ⟨g, k * 3, none⟩)) ∧ ((w.setCell ⟨g, k * 3, none⟩ (.int .i64 k)).alloc (.cells #[.pointer (some ⟨g, k * 3, none⟩)] 173)).heap.size = w.heap.size + 1) := Lib.hid ⟨by go_simp, by simp [World.setCell]⟩
  clear h hp hs ho c1 c2
  obtain ⟨q, rfl⟩ : ∃ q : Nat, p = (q : Int) := ⟨p.toNat, by omega⟩
  have hx1 : ¬ (q : Int) < 0 := by omega
  have hx2 : k ≤ q := by omega
  go_enter Try.func134, Try.ntmps134
  go_wp2_with fail
  go_ret
  exact ⟨rfl, E1.out⟩

set_option maxRecDepth 100000 in
set_option maxHeartbeats 2000000 in
theorem link_free (w : World) (g n k : Nat) (P S : List Int) (p s : Int) (h : PtsAt w g n k P S) (hk : 1 ≤ k ∧ k < n) (hn : n ≤ 24) (hg : g < w.heap.size) (hp : P[k]?.getD 0 = p) (hs : S[k]?.getD 0 = s) (ho : okAll P S k = true) (hx : 0 ≤ p ∧ p < (k : Int)) (hs1 : s = -1) :
    Calls Try.prog 134 #[.slice (some ⟨g, 0, none⟩) n n, .int .i64 k, .int .i64 p, .int .i64 s] w fun e w' => e = .returned (.bool true) ∧ PtsAt w' g n (k + 1) P S ∧ Only g (g + 1) w w' := by
  subst hs1
  have HM := Lib.hid h
  have c0 := h.cell (i := k * 3) (by omega)
  have c1 := h.cell (i := k * 3 + 1) (by omega)
  have c2 := h.cell (i := k * 3 + 2) (by omega)
  rw [ptV_z0 (Nat.le_refl k)] at c0
  rw [ptV_z1 (Nat.le_refl k)] at c1
  rw [ptV_z2 (Nat.le_refl k)] at c2
  have f0 := h.frozen (k * 3)
  have hgn : g ≠ w.heap.size := by omega
  have hkn : (k : Int) < (n : Int) := by omega
  have hk0 : ((k : Int) == 0) = false := by simp; omega
  have HP := Lib.hid hp
  have HS := Lib.hid hs
  have HO := Lib.hid ho
  have E1 : Hid (Only g (g + 1) w ((w.setCell ⟨g, k * 3, none⟩ (.int .i64 k)).alloc (.cells #[.pointer (some ⟨g, k * 3, none⟩)] 173))) := Lib.hid (Only.trans (only_set g w _ _) (only_new _ _ _ _))
  have R1 : Hid (((w.setCell ⟨g, k * 3, none⟩ (.int .i64 k)).alloc (.cells #[.pointer (some ⟨g, k * 3, none⟩)] 173)).rowIs g 175 (n * 3) (fun x => if x = k * 3 then .int .i64 k else ptV g P S k x)) := Lib.hid ((HM.out.set (k * 3) _).of_block (Below.heap_alloc _ _ _ (by simpa [World.setCell] using hg)))
  have X1 : Hid (((w.setCell ⟨g, k * 3, none⟩ (.int .i64 k)).alloc (.cells #[.pointer (some ⟨g, k * 3, none⟩)] 173)).cell? ⟨w.heap.size, 0, none⟩ = some (.pointer (some ⟨g, k * 3, none⟩)) ∧ ((w.setCell ⟨g, k * 3, none⟩ (.int .i64 k)).alloc (.cells #[.pointer (some ⟨g, k * 3, none⟩)] 173)).heap.size = w.heap.size + 1) := Lib.hid ⟨by go_simp, by simp [World.setCell]⟩
  clear h hp hs ho c1 c2
  obtain ⟨q, rfl⟩ : ∃ q : Nat, p = (q : Int) := ⟨p.toNat, by omega⟩
  have hq : q < k := by omega
  have hqn : (q : Int) < (n : Int) := by omega
  have hx1 : ¬ (q : Int) < 0 := by omega
  have hx2 : ¬ k ≤ q := by omega
  go_enter Try.func134, Try.ntmps134
  go_wp2_with fail
  generalize ((w.setCell ⟨g, k * 3, none⟩ (.int .i64 k)).alloc (.cells #[.pointer (some ⟨g, k * 3, none⟩)] 173)) = W1 at *
  have hs1 : W1.heap.size = w.heap.size + 1 := X1.out.2
  have hgl1 : g < W1.heap.size := by omega
  have b1 := X1.out.1
  have c1 := R1.out.cell (i := k * 3 + 1) (by omega)
  rw [if_neg (by omega), ptV_z1 (Nat.le_refl k)] at c1
  have f1 := R1.out.frozen (k * 3 + 1)
  have hw1 : w.heap.size < W1.heap.size := by omega
  have E2 : Hid (Only g (g + 1) w ((W1.setCell ⟨g, k * 3 + 1, none⟩ (.pointer (some ⟨g, q * 3, none⟩))).drew)) := Lib.hid (Only.trans E1.out (Only.trans (only_set g W1 _ _) (only_drew _ _ _)))
  have R2 : Hid (((W1.setCell ⟨g, k * 3 + 1, none⟩ (.pointer (some ⟨g, q * 3, none⟩))).drew).rowIs g 175 (n * 3) (fun x => if x = k * 3 + 1 then .pointer (some ⟨g, q * 3, none⟩) else if x = k * 3 then .int .i64 k else ptV g P S k x)) := Lib.hid (R1.out.set (k * 3 + 1) _)
  have b2 : ((W1.setCell ⟨g, k * 3 + 1, none⟩ (.pointer (some ⟨g, q * 3, none⟩))).drew).cell? ⟨w.heap.size, 0, none⟩ = some (.pointer (some ⟨g, k * 3, none⟩)) := by go_simp
  have X2 : Hid (((W1.setCell ⟨g, k * 3 + 1, none⟩ (.pointer (some ⟨g, q * 3, none⟩))).drew).cell? ⟨w.heap.size, 0, none⟩ = some (.pointer (some ⟨g, k * 3, none⟩)) ∧ ((W1.setCell ⟨g, k * 3 + 1, none⟩ (.pointer (some ⟨g, q * 3, none⟩))).drew).heap.size = w.heap.size + 1) := Lib.hid ⟨b2, by simpa [World.setCell] using hs1⟩
  clear hs1 b2 f0 c0
  go_region
  all_goals
    go_wp2_with fail
    go_ret
    refine ⟨rfl, R2.out.congr fun x hx => ?_, E2.out⟩
    rw [← ptV_next, HP.out, HS.out, ptA_nat, ptA_none]
    by_cases e2 : x = k * 3 + 2
    · subst e2; rw [if_pos rfl, if_neg (by omega), if_neg (by omega), ptV_z2 (Nat.le_refl k)]
    · rw [if_neg e2]

set_option maxRecDepth 100000 in
set_option maxHeartbeats 2000000 in
theorem link_out (w : World) (g n k : Nat) (P S : List Int) (p s : Int) (h : PtsAt w g n k P S) (hk : 1 ≤ k ∧ k < n) (hn : n ≤ 24) (hg : g < w.heap.size) (hp : P[k]?.getD 0 = p) (hs : S[k]?.getD 0 = s) (ho : okAll P S k = true) (hx : 0 ≤ p ∧ p < (k : Int)) (hs1' : s ≠ -1) (hct : (nrC P S p.toNat).contains s = false) :
    Calls Try.prog 134 #[.slice (some ⟨g, 0, none⟩) n n, .int .i64 k, .int .i64 p, .int .i64 s] w fun e w' => e = .returned (.bool false) ∧ Only g (g + 1) w w' := by
  have HCT := Lib.hid hct
  clear hct
  have HM := Lib.hid h
  have c0 := h.cell (i := k * 3) (by omega)
  have c1 := h.cell (i := k * 3 + 1) (by omega)
  have c2 := h.cell (i := k * 3 + 2) (by omega)
  rw [ptV_z0 (Nat.le_refl k)] at c0
  rw [ptV_z1 (Nat.le_refl k)] at c1
  rw [ptV_z2 (Nat.le_refl k)] at c2
  have f0 := h.frozen (k * 3)
  have hgn : g ≠ w.heap.size := by omega
  have hkn : (k : Int) < (n : Int) := by omega
  have hk0 : ((k : Int) == 0) = false := by simp; omega
  have HP := Lib.hid hp
  have HS := Lib.hid hs
  have HO := Lib.hid ho
  have E1 : Hid (Only g (g + 1) w ((w.setCell ⟨g, k * 3, none⟩ (.int .i64 k)).alloc (.cells #[.pointer (some ⟨g, k * 3, none⟩)] 173))) := Lib.hid (Only.trans (only_set g w _ _) (only_new _ _ _ _))
  have R1 : Hid (((w.setCell ⟨g, k * 3, none⟩ (.int .i64 k)).alloc (.cells #[.pointer (some ⟨g, k * 3, none⟩)] 173)).rowIs g 175 (n * 3) (fun x => if x = k * 3 then .int .i64 k else ptV g P S k x)) := Lib.hid ((HM.out.set (k * 3) _).of_block (Below.heap_alloc _ _ _ (by simpa [World.setCell] using hg)))
  have X1 : Hid (((w.setCell ⟨g, k * 3, none⟩ (.int .i64 k)).alloc (.cells #[.pointer (some ⟨g, k * 3, none⟩)] 173)).cell? ⟨w.heap.size, 0, none⟩ = some (.pointer (some ⟨g, k * 3, none⟩)) ∧ ((w.setCell ⟨g, k * 3, none⟩ (.int .i64 k)).alloc (.cells #[.pointer (some ⟨g, k * 3, none⟩)] 173)).heap.size = w.heap.size + 1) := Lib.hid ⟨by go_simp, by simp [World.setCell]⟩
  clear h hp hs ho c1 c2
  obtain ⟨q, rfl⟩ : ∃ q : Nat, p = (q : Int) := ⟨p.toNat, by omega⟩
  have hq : q < k := by omega
  have hqn : (q : Int) < (n : Int) := by omega
  have hx1 : ¬ (q : Int) < 0 := by omega
  have hx2 : ¬ k ≤ q := by omega
  go_enter Try.func134, Try.ntmps134
  go_wp2_with fail
  generalize ((w.setCell ⟨g, k * 3, none⟩ (.int .i64 k)).alloc (.cells #[.pointer (some ⟨g, k * 3, none⟩)] 173)) = W1 at *
  have hs1 : W1.heap.size = w.heap.size + 1 := X1.out.2
  have hgl1 : g < W1.heap.size := by omega
  have b1 := X1.out.1
  have c1 := R1.out.cell (i := k * 3 + 1) (by omega)
  rw [if_neg (by omega), ptV_z1 (Nat.le_refl k)] at c1
  have f1 := R1.out.frozen (k * 3 + 1)
  have hw1 : w.heap.size < W1.heap.size := by omega
  have E2 : Hid (Only g (g + 1) w ((W1.setCell ⟨g, k * 3 + 1, none⟩ (.pointer (some ⟨g, q * 3, none⟩))).drew)) := Lib.hid (Only.trans E1.out (Only.trans (only_set g W1 _ _) (only_drew _ _ _)))
  have R2 : Hid (((W1.setCell ⟨g, k * 3 + 1, none⟩ (.pointer (some ⟨g, q * 3, none⟩))).drew).rowIs g 175 (n * 3) (fun x => if x = k * 3 + 1 then .pointer (some ⟨g, q * 3, none⟩) else if x = k * 3 then .int .i64 k else ptV g P S k x)) := Lib.hid (R1.out.set (k * 3 + 1) _)
  have b2 : ((W1.setCell ⟨g, k * 3 + 1, none⟩ (.pointer (some ⟨g, q * 3, none⟩))).drew).cell? ⟨w.heap.size, 0, none⟩ = some (.pointer (some ⟨g, k * 3, none⟩)) := by go_simp
  have X2 : Hid (((W1.setCell ⟨g, k * 3 + 1, none⟩ (.pointer (some ⟨g, q * 3, none⟩))).drew).cell? ⟨w.heap.size, 0, none⟩ = some (.pointer (some ⟨g, k * 3, none⟩)) ∧ ((W1.setCell ⟨g, k * 3 + 1, none⟩ (.pointer (some ⟨g, q * 3, none⟩))).drew).heap.size = w.heap.size + 1) := Lib.hid ⟨b2, by simpa [World.setCell] using hs1⟩
  clear hs1 b2 f0 c0
  have hsb : (s == -1) = false := by simpa using hs1'
  go_region
  all_goals
    go_wp2_with fail
    generalize (W1.setCell ⟨g, k * 3 + 1, none⟩ (.pointer (some ⟨g, q * 3, none⟩))).drew = W2 at *
    have hgl2 : g < W2.heap.size := by have := X2.out.2; omega
    have HC2 : Hid (CellM W2 g k P S) := Lib.hid (CellM.of_row R2.out (by omega) hgl2 fun x hx => by rw [if_neg (by omega), if_neg (by omega)])
    refine (prox_any HC2.out HO.out hq).mono ?_
    rintro e w3 ⟨A3, c3, rfl, ho3, hb3⟩
    have hd3 := ho3.reads
    have hl3 := nrC_len P S q
    have HBT := Lib.hid hb3
    have E3 : Hid (Only g (g + 1) w w3) := Lib.hid (Only.trans E2.out (only_below hb3))
    have R3 := Lib.hid (rowIs_below R2.out hgl2 hb3)
    have hs3 := hb3.size
    have X3 : Hid (w3.cell? ⟨w.heap.size, 0, none⟩ = some (.pointer (some ⟨g, k * 3, none⟩)) ∧ w.heap.size + 1 ≤ w3.heap.size) := Lib.hid ⟨by rw [hb3.cell (p := ⟨w.heap.size, 0, none⟩) (by show w.heap.size < _; have := X2.out.2; omega)]; exact X2.out.1, by have := X2.out.2; omega⟩
    clear ho3 hb3 hs3 b1 c1 f1 R1 E1 X1
    obtain ⟨N3, hN3⟩ : ∃ N, (nrC P S q).length = N := ⟨_, rfl⟩
    have HN3 := Lib.hid hN3
    have HD3 := Lib.hid hd3
    rw [hN3] at hl3 HD3
    rw [hN3]
    clear hN3 hd3
    go_wp2_with fail
    refine (has_anyC _ (nrC P S q) s false w3 w3.heap.size HD3.out (by rw [HN3.out]; omega) (by simpa using HCT.out)).mono ?_
    rintro e w' ⟨rfl, rfl⟩
    go_wp2_with fail
    go_ret
    exact ⟨rfl, E3.out⟩

set_option maxRecDepth 100000 in
set_option maxHeartbeats 2000000 in
theorem link_in (w : World) (g n k : Nat) (P S : List Int) (p s : Int) (b : Bool) (h : PtsAt w g n k P S) (hk : 1 ≤ k ∧ k < n) (hn : n ≤ 24) (hg : g < w.heap.size) (hp : P[k]?.getD 0 = p) (hs : S[k]?.getD 0 = s) (ho : okAll P S k = true) (hx : 0 ≤ p ∧ p < (k : Int)) (hs1' : s ≠ -1) (hct : (nrC P S p.toNat).contains s = true) (htw : twinB P S k k = b) :
    Calls Try.prog 134 #[.slice (some ⟨g, 0, none⟩) n n, .int .i64 k, .int .i64 p, .int .i64 s] w fun e w' => e = .returned (.bool (!b)) ∧ (b = false → PtsAt w' g n (k + 1) P S) ∧ Only g (g + 1) w w' := by
  have hsr : ∃ t : Nat, s = (t : Int) ∧ t < k := by
    have h1 : s ∈ nrC P S p.toNat := by simpa using hct
    have h2 := nr_mem ho (show p.toNat < k by omega) s h1
    exact ⟨s.toNat, by omega, by omega⟩
  obtain ⟨t, rfl, ht⟩ := hsr
  have HCT := Lib.hid hct
  have HTW := Lib.hid htw
  clear hct htw
  have HM := Lib.hid h
  have c0 := h.cell (i := k * 3) (by omega)
  have c1 := h.cell (i := k * 3 + 1) (by omega)
  have c2 := h.cell (i := k * 3 + 2) (by omega)
  rw [ptV_z0 (Nat.le_refl k)] at c0
  rw [ptV_z1 (Nat.le_refl k)] at c1
  rw [ptV_z2 (Nat.le_refl k)] at c2
  have f0 := h.frozen (k * 3)
  have hgn : g ≠ w.heap.size := by omega
  have hkn : (k : Int) < (n : Int) := by omega
  have hk0 : ((k : Int) == 0) = false := by simp; omega
  have HP := Lib.hid hp
  have HS := Lib.hid hs
  have HO := Lib.hid ho
  have E1 : Hid (Only g (g + 1) w ((w.setCell ⟨g, k * 3, none⟩ (.int .i64 k)).alloc (.cells #[.pointer (some ⟨g, k * 3, none⟩)] 173))) := Lib.hid (Only.trans (only_set g w _ _) (only_new _ _ _ _))
  have R1 : Hid (((w.setCell ⟨g, k * 3, none⟩ (.int .i64 k)).alloc (.cells #[.pointer (some ⟨g, k * 3, none⟩)] 173)).rowIs g 175 (n * 3) (fun x => if x = k * 3 then .int .i64 k else ptV g P S k x)) := Lib.hid ((HM.out.set (k * 3) _).of_block (Below.heap_alloc _ _ _ (by simpa [World.setCell] using hg)))
  have X1 : Hid (((w.setCell ⟨g, k * 3, none⟩ (.int .i64 k)).alloc (.cells #[.pointer (some ⟨g, k * 3, none⟩)] 173)).cell? ⟨w.heap.size, 0, none⟩ = some (.pointer (some ⟨g, k * 3, none⟩)) ∧ ((w.setCell ⟨g, k * 3, none⟩ (.int .i64 k)).alloc (.cells #[.pointer (some ⟨g, k * 3, none⟩)] 173)).heap.size = w.heap.size + 1) := Lib.hid ⟨by go_simp, by simp [World.setCell]⟩
  clear h hp hs ho c1 c2
  obtain ⟨q, rfl⟩ : ∃ q : Nat, p = (q : Int) := ⟨p.toNat, by omega⟩
  have hq : q < k := by omega
  have hqn : (q : Int) < (n : Int) := by omega
  have hx1 : ¬ (q : Int) < 0 := by omega
  have hx2 : ¬ k ≤ q := by omega
  go_enter Try.func134, Try.ntmps134
  go_wp2_with fail
  generalize ((w.setCell ⟨g, k * 3, none⟩ (.int .i64 k)).alloc (.cells #[.pointer (some ⟨g, k * 3, none⟩)] 173)) = W1 at *
  have hs1 : W1.heap.size = w.heap.size + 1 := X1.out.2
  have hgl1 : g < W1.heap.size := by omega
  have b1 := X1.out.1
  have c1 := R1.out.cell (i := k * 3 + 1) (by omega)
  rw [if_neg (by omega), ptV_z1 (Nat.le_refl k)] at c1
  have f1 := R1.out.frozen (k * 3 + 1)
  have hw1 : w.heap.size < W1.heap.size := by omega
  have E2 : Hid (Only g (g + 1) w ((W1.setCell ⟨g, k * 3 + 1, none⟩ (.pointer (some ⟨g, q * 3, none⟩))).drew)) := Lib.hid (Only.trans E1.out (Only.trans (only_set g W1 _ _) (only_drew _ _ _)))
  have R2 : Hid (((W1.setCell ⟨g, k * 3 + 1, none⟩ (.pointer (some ⟨g, q * 3, none⟩))).drew).rowIs g 175 (n * 3) (fun x => if x = k * 3 + 1 then .pointer (some ⟨g, q * 3, none⟩) else if x = k * 3 then .int .i64 k else ptV g P S k x)) := Lib.hid (R1.out.set (k * 3 + 1) _)
  have b2 : ((W1.setCell ⟨g, k * 3 + 1, none⟩ (.pointer (some ⟨g, q * 3, none⟩))).drew).cell? ⟨w.heap.size, 0, none⟩ = some (.pointer (some ⟨g, k * 3, none⟩)) := by go_simp
  have X2 : Hid (((W1.setCell ⟨g, k * 3 + 1, none⟩ (.pointer (some ⟨g, q * 3, none⟩))).drew).cell? ⟨w.heap.size, 0, none⟩ = some (.pointer (some ⟨g, k * 3, none⟩)) ∧ ((W1.setCell ⟨g, k * 3 + 1, none⟩ (.pointer (some ⟨g, q * 3, none⟩))).drew).heap.size = w.heap.size + 1) := Lib.hid ⟨b2, by simpa [World.setCell] using hs1⟩
  clear hs1 b2 f0 c0
  have hsb : ((t : Int) == -1) = false := by simp
  go_region
  all_goals
    go_wp2_with fail
    generalize (W1.setCell ⟨g, k * 3 + 1, none⟩ (.pointer (some ⟨g, q * 3, none⟩))).drew = W2 at *
    have hgl2 : g < W2.heap.size := by have := X2.out.2; omega
    have HC2 : Hid (CellM W2 g k P S) := Lib.hid (CellM.of_row R2.out (by omega) hgl2 fun x hx => by rw [if_neg (by omega), if_neg (by omega)])
    refine (prox_any HC2.out HO.out hq).mono ?_
    rintro e w3 ⟨A3, c3, rfl, ho3, hb3⟩
    have hd3 := ho3.reads
    have hl3 := nrC_len P S q
    have HBT := Lib.hid hb3
    have E3 : Hid (Only g (g + 1) w w3) := Lib.hid (Only.trans E2.out (only_below hb3))
    have R3 := Lib.hid (rowIs_below R2.out hgl2 hb3)
    have hs3 := hb3.size
    have X3 : Hid (w3.cell? ⟨w.heap.size, 0, none⟩ = some (.pointer (some ⟨g, k * 3, none⟩)) ∧ w.heap.size + 1 ≤ w3.heap.size) := Lib.hid ⟨by rw [hb3.cell (p := ⟨w.heap.size, 0, none⟩) (by show w.heap.size < _; have := X2.out.2; omega)]; exact X2.out.1, by have := X2.out.2; omega⟩
    clear ho3 hb3 hs3 b1 c1 f1 R1 E1 X1
    obtain ⟨N3, hN3⟩ : ∃ N, (nrC P S q).length = N := ⟨_, rfl⟩
    have HN3 := Lib.hid hN3
    have HD3 := Lib.hid hd3
    rw [hN3] at hl3 HD3
    rw [hN3]
    clear hN3 hd3
    go_wp2_with fail
    refine (has_anyC _ (nrC P S q) t true w3 w3.heap.size HD3.out (by rw [HN3.out]; omega) (by simpa using HCT.out)).mono ?_
    rintro e w' ⟨rfl, rfl⟩
    have htn : (t : Int) < (n : Int) := by omega
    have hgl3 : g < w3.heap.size := by have := X3.out.2; omega
    have b3 := X3.out.1
    have c3' := R3.out.cell (i := k * 3 + 2) (by omega)
    rw [if_neg (by omega), if_neg (by omega), ptV_z2 (Nat.le_refl k)] at c3'
    have f3 := R3.out.frozen (k * 3 + 2)
    have hw3 : w.heap.size < w3.heap.size := by have := X3.out.2; omega
    have E4 : Hid (Only g (g + 1) w ((w3.setCell ⟨g, k * 3 + 2, none⟩ (.pointer (some ⟨g, t * 3, none⟩))).drew)) := Lib.hid (Only.trans E3.out (Only.trans (only_set g w3 _ _) (only_drew _ _ _)))
    have R4 : Hid (((w3.setCell ⟨g, k * 3 + 2, none⟩ (.pointer (some ⟨g, t * 3, none⟩))).drew).rowIs g 175 (n * 3) (fun x => if x = k * 3 + 2 then .pointer (some ⟨g, t * 3, none⟩) else if x = k * 3 + 1 then .pointer (some ⟨g, q * 3, none⟩) else if x = k * 3 then .int .i64 k else ptV g P S k x)) := Lib.hid (R3.out.set (k * 3 + 2) _)
    have b4 : ((w3.setCell ⟨g, k * 3 + 2, none⟩ (.pointer (some ⟨g, t * 3, none⟩))).drew).cell? ⟨w.heap.size, 0, none⟩ = some (.pointer (some ⟨g, k * 3, none⟩)) := by go_simp
    have X4 : Hid (((w3.setCell ⟨g, k * 3 + 2, none⟩ (.pointer (some ⟨g, t * 3, none⟩))).drew).cell? ⟨w.heap.size, 0, none⟩ = some (.pointer (some ⟨g, k * 3, none⟩)) ∧ w.heap.size + 1 ≤ ((w3.setCell ⟨g, k * 3 + 2, none⟩ (.pointer (some ⟨g, t * 3, none⟩))).drew).heap.size) := Lib.hid ⟨b4, by simpa [World.setCell] using X3.out.2⟩
    have hkn3 : k ≤ n := by omega
    clear b4
    go_wp2_with fail
    go_region
    all_goals
      go_wp2_with fail
      generalize (w3.setCell ⟨g, k * 3 + 2, none⟩ (.pointer (some ⟨g, t * 3, none⟩))).drew = W4 at *
      have hgl4 : g < W4.heap.size := by have := X4.out.2; omega
      have HC4 : Hid (CellM W4 g k P S) := Lib.hid (CellM.of_row R4.out (by omega) hgl4 fun x hx => by rw [if_neg (by omega), if_neg (by omega), if_neg (by omega)])
      have HT4 : Hid (TwM W4 g k q t w.heap.size P S) := Lib.hid (by
        obtain ⟨X, hX, _⟩ := R4.out
        refine ⟨⟨X, _, hX⟩, hgl4, by have := X4.out.2; omega, X4.out.1, ?_, ?_, HC4.out.num, HC4.out.par, HC4.out.sec⟩
        · rw [R4.out.cell (i := k * 3 + 1) (by omega), if_neg (by omega), if_pos rfl]
        · rw [R4.out.cell (i := k * 3 + 2) (by omega), if_pos rfl])
      have HLE : Hid (∀ i, i < k → -1 ≤ P[i]?.getD 0 ∧ -1 ≤ S[i]?.getD 0) := Lib.hid fun i hi => by
        by_cases h0 : i = 0
        · subst h0; have := (nr_zero HO.out (show 0 < k by omega)).2; omega
        · obtain ⟨p, hp, _, hs⟩ := nr_lt HO.out i hi (by omega)
          rcases hs with ⟨e, _⟩ | ⟨s, e, _⟩ <;> omega
      refine (containsF_any W4 g k q t w.heap.size _ P S HT4.out (by omega) HP.out HS.out HLE.out b HTW.out).mono ?_
      rintro e w5 ⟨rfl, hb5⟩
      have E5 : Hid (Only g (g + 1) w w5) := Lib.hid (Only.trans E4.out (only_below hb5))
      have R5 := Lib.hid (rowIs_below R4.out hgl4 hb5)
      clear hb5
      go_wp2_with fail
      go_ret
      refine ⟨rfl, fun _ => R5.out.congr fun x hx => ?_, E5.out⟩
      rw [← ptV_next, HP.out, HS.out, ptA_nat, ptA_nat]

set_option maxRecDepth 100000 in
set_option maxHeartbeats 2000000 in
theorem link_zero (w : World) (g n : Nat) (P S : List Int) (p s : Int) (b : Bool) (h : PtsAt w g n 0 P S) (hn : 1 ≤ n ∧ n ≤ 24) (hg : g < w.heap.size) (hp : P[0]?.getD 0 = p) (hs : S[0]?.getD 0 = s) (hb : okQ P S 0 = b) :
    Calls Try.prog 134 #[.slice (some ⟨g, 0, none⟩) n n, .int .i64 0, .int .i64 p, .int .i64 s] w fun e w' => e = .returned (.bool b) ∧ (b = true → PtsAt w' g n 1 P S) ∧ Only g (g + 1) w w' := by
  have HM := Lib.hid h
  have c0 := h.cell (i := 0) (by omega)
  rw [show ptV g P S 0 0 = .int .i64 0 from rfl] at c0
  have f0 := h.frozen 0
  have hgn : g ≠ w.heap.size := by omega
  have h0n : 0 < n := by omega
  have h0n2 : (0 : Int) < (n : Int) := by omega
  have HP := Lib.hid hp
  have HS := Lib.hid hs
  have E1 : Hid (Only g (g + 1) w ((w.setCell ⟨g, 0, none⟩ (.int .i64 0)).alloc (.cells #[.pointer (some ⟨g, 0, none⟩)] 173))) := Lib.hid (Only.trans (only_set g w _ _) (only_new _ _ _ _))
  have R1 : Hid (((w.setCell ⟨g, 0, none⟩ (.int .i64 0)).alloc (.cells #[.pointer (some ⟨g, 0, none⟩)] 173)).rowIs g 175 (n * 3) (fun x => if x = 0 then .int .i64 0 else ptV g P S 0 x)) := Lib.hid ((HM.out.set 0 _).of_block (Below.heap_alloc _ _ _ (by simpa [World.setCell] using hg)))
  have RX : Hid (p = -1 → s = -1 → PtsAt ((w.setCell ⟨g, 0, none⟩ (.int .i64 0)).alloc (.cells #[.pointer (some ⟨g, 0, none⟩)] 173)) g n 1 P S) := Lib.hid fun e1 e2 => R1.out.congr fun x hx => by
    have h3 := ptV_next (g := g) (k := 0) (x := x) (P := P) (S := S)
    rw [HP.out, HS.out, e1, e2, ptA_none] at h3
    rw [← h3]
    by_cases x2 : x = 0 * 3 + 2
    · rw [if_pos x2, if_neg (by omega)]; subst x2; exact ptV_z2 (Nat.le_refl 0)
    · rw [if_neg x2]
      by_cases x1 : x = 0 * 3 + 1
      · rw [if_pos x1, if_neg (by omega)]; subst x1; exact ptV_z1 (Nat.le_refl 0)
      · rw [if_neg x1, Nat.zero_mul]; rfl
  have HB : Hid ((decide (p = -1) && decide (s = -1)) = b) := Lib.hid (by rw [← hb, okQ_zero, hp, hs])
  clear h hp hs hb
  by_cases h1 : p = -1
  · by_cases h2 : s = -1
    · have q1 : (p == -1) = true := by simpa using h1
      have q2 : (s == -1) = true := by simpa using h2
      have HBT : Hid (b = true) := Lib.hid (by rw [← HB.out]; simp [h1, h2])
      have RY := Lib.hid (RX.out h1 h2)
      clear h1 h2 RX
      go_enter Try.func134, Try.ntmps134
      go_wp2_with fail
      go_ret
      have hbt := HBT.out
      subst hbt
      exact ⟨rfl, fun _ => RY.out, E1.out⟩
    · have q1 : (p == -1) = true := by simpa using h1
      have q2 : (s == -1) = false := by simpa using h2
      have HBT : Hid (b = false) := Lib.hid (by rw [← HB.out]; simp [h2])
      clear h1 h2 RX
      go_enter Try.func134, Try.ntmps134
      go_wp2_with fail
      go_ret
      have hbt := HBT.out
      subst hbt
      exact ⟨rfl, fun e => (by cases e), E1.out⟩
  · have q1 : (p == -1) = false := by simpa using h1
    have HBT : Hid (b = false) := Lib.hid (by rw [← HB.out]; simp [h1])
    clear h1 RX
    go_enter Try.func134, Try.ntmps134
    go_wp2_with fail
    go_ret
    have hbt := HBT.out
    subst hbt
    exact ⟨rfl, fun e => (by cases e), E1.out⟩
theorem link_any (w : World) (g n k : Nat) (P S : List Int) (p s : Int) (b : Bool) (h : PtsAt w g n k P S) (hk : k < n) (hn : n ≤ 24) (hg : g < w.heap.size) (hp : P[k]?.getD 0 = p) (hs : S[k]?.getD 0 = s) (ho : okAll P S k = true) (hb : okQ P S k = b) :
    Calls Try.prog 134 #[.slice (some ⟨g, 0, none⟩) n n, .int .i64 k, .int .i64 p, .int .i64 s] w fun e w' => e = .returned (.bool b) ∧ (b = true → PtsAt w' g n (k + 1) P S) ∧ Only g (g + 1) w w' := by
  by_cases h0 : k = 0
  · subst h0; exact link_zero w g n P S p s b h ⟨by omega, hn⟩ hg hp hs hb
  have hq := hb
  rw [okQ_pos (by omega), hp, hs] at hq
  by_cases h1 : p < 0
  · have e : b = false := by rw [← hq]; simp; omega
    subst e
    exact (link_neg w g n k P S p s h ⟨by omega, hk⟩ hn hg hp hs ho h1).mono fun e w' ⟨a, c⟩ => ⟨a, fun e => (by cases e), c⟩
  by_cases h2 : (k : Int) ≤ p
  · have e : b = false := by rw [← hq]; simp; omega
    subst e
    exact (link_far w g n k P S p s h ⟨by omega, hk⟩ hn hg hp hs ho ⟨by omega, h2⟩).mono fun e w' ⟨a, c⟩ => ⟨a, fun e => (by cases e), c⟩
  have hx : 0 ≤ p ∧ p < (k : Int) := by omega
  have q1 : (decide (0 ≤ p) && decide (p < (k : Int))) = true := by simp; omega
  rw [q1, Bool.true_and] at hq
  by_cases h3 : s = -1
  · have e : b = true := by rw [← hq]; simp [h3]
    subst e
    exact (link_free w g n k P S p s h ⟨by omega, hk⟩ hn hg hp hs ho hx h3).mono fun e w' ⟨a, c, d⟩ => ⟨a, fun _ => c, d⟩
  have q2 : decide (s = -1) = false := by simpa using h3
  rw [q2, Bool.false_or] at hq
  cases hct : (nrC P S p.toNat).contains s with
  | false =>
    rw [hct] at hq
    have e : b = false := by rw [← hq]; rfl
    subst e
    exact (link_out w g n k P S p s h ⟨by omega, hk⟩ hn hg hp hs ho hx h3 hct).mono fun e w' ⟨a, c⟩ => ⟨a, fun e => (by cases e), c⟩
  | true =>
    rw [hct, Bool.true_and] at hq
    refine (link_in w g n k P S p s (twinB P S k k) h ⟨by omega, hk⟩ hn hg hp hs ho hx h3 hct rfl).mono ?_
    rintro e w' ⟨a, c, d⟩
    refine ⟨by rw [a, hq], fun e => c ?_, d⟩
    rw [e] at hq; simpa using hq

set_option maxRecDepth 100000 in
set_option maxHeartbeats 2000000 in
theorem areW_any (v : Value) (W : List Int) (b : Bool) (w : World) (B : Nat) (h : ReadI w B v W) (hn : W.length ≤ 1048576) (hb : wtOK W = b) :
    Calls Try.prog 135 #[v] w fun e w' => e = .returned (.bool b) ∧ w = w' := by
  obtain ⟨n, A, c, rfl, hr, HL, _, hnc, HF, hcm⟩ := h.split2
  rw [HL.out] at hn
  have HR := Lib.hid hr
  have HB := Lib.hid hb
  have HA0 : Hid (∀ i, i < 0 → -100000 ≤ W[i]?.getD 0 ∧ W[i]?.getD 0 ≤ 100000) := Lib.hid fun i hi => by omega
  clear h hr hb
  go_enter Try.func135, Try.ntmps135
  go_wp2
  go_loop [7] (fun vi => ∃ (j : Nat), j ≤ n ∧ vi = .int .i64 j ∧ Hid (∀ i, i < j → -100000 ≤ W[i]?.getD 0 ∧ W[i]?.getD 0 ≤ 100000)) (fun vi => n - (intOf vi).toNat)
  case atStart => exact ⟨0, by omega, rfl, HA0⟩
  case round =>
    obtain ⟨j, hj, rfl, HA⟩ := hrel
    by_cases hjn : j < n
    · obtain ⟨a, rfl, hal, hc0⟩ := HR.out.2 j hjn
      have d1 : w.cell? (a.add j) = some (.int .i64 (W[j]?.getD 0)) := by simpa using hc0
      obtain ⟨z, hz⟩ : ∃ z, W[j]?.getD 0 = z := ⟨_, rfl⟩
      have HZ := Lib.hid hz
      rw [hz] at d1
      have hjn2 : (j : Int) < (n : Int) := by omega
      clear hz hc0
      by_cases hzz : -100000 ≤ z ∧ z ≤ 100000
      · have HA1 : Hid (∀ i, i < j + 1 → -100000 ≤ W[i]?.getD 0 ∧ W[i]?.getD 0 ≤ 100000) := Lib.hid fun i hi => by
          by_cases e : i = j
          · subst e; rw [HZ.out]; exact hzz
          · exact HA.out i (by omega)
        go_wp2_with (go_at_call 174; refine (withinY z _ _ (by omega) (by omega) (by omega) (by omega)).mono ?_; rintro e w' ⟨rfl, rfl⟩)
        go_round
        case rel => exact ⟨j + 1, by omega, by go_num, HA1⟩
        case measure => simp [intOf]; omega
      · have HBT : Hid (b = false) := Lib.hid (by rw [← HB.out]; exact wtOK_bad (i := j) (by rw [HL.out]; exact hjn) (by rw [HZ.out]; exact hzz))
        go_wp2_with (go_at_call 174; refine (withinN z _ _ (by omega) (by omega) (by omega)).mono ?_; rintro e w' ⟨rfl, rfl⟩)
        go_ret
        have hbt := HBT.out
        subst hbt
        exact ⟨rfl, rfl⟩
    · obtain rfl : j = n := by omega
      have HBT : Hid (b = true) := Lib.hid (by
        rw [← HB.out, wtOK_iff HL.out, List.all_eq_true]
        intro i hi
        have := HA.out i (List.mem_range.1 hi)
        simp [this])
      go_wp2
      go_ret
      have hbt := HBT.out
      subst hbt
      exact ⟨rfl, rfl⟩

end Go.Proofs.Ytohbgfmjnanlkaa
