/- slices.Repeat of a slice of one number: contract. Conditions: stated at each theorem. -/
import Derived.Test.YtncgkoanckefmaaTrim
import Derived.Test.YtncgkoanckefmaaMan
import Derived.Test.YtncgkoanckefmaaBrW
import Derived.Test.YtncgkoanckefmaaBrS
import Derived.Shelf.Bits.Mul64
import Derived.Laws.CopyOwn
namespace Go.Proofs.Ytncgkoanckefmaa
open Go.ChangeShapes Go.WideShapes Go.ChangeAt Go.RowKit
set_option linter.unusedVariables false
set_option linter.unusedSimpArgs false

set_option maxHeartbeats 1000000 in
theorem mul64_any (y : Nat) (hy : y < 4294967296) (w : World) :
    Calls Try.prog 130 #[.int .u64 1, .int .u64 y] w fun e w' => e = .returned (.tuple #[.int .u64 0, .int .u64 y]) ∧ w' = w := by
  have hy2 : y < 18446744073709551616 := by omega
  go_enter Try.func130, Try.ntmps130
  go_wp2
  have m1 : bits .and .u64 1 4294967295 = 1 := by have h := Mul64.maskN 1 (by omega); simpa using h
  have m0 : bits .and .u64 0 4294967295 = 0 := by have h := Mul64.maskN 0 (by omega); simpa using h
  have my : bits .and .u64 (y : Int) 4294967295 = (y : Int) := by rw [Mul64.maskN y hy2, Nat.mod_eq_of_lt hy]
  have d0 : (y : Int) / 4294967296 = 0 := by omega
  have wy : IntKind.u64.wrap (y : Int) = (y : Int) := Mul64.wrapN y hy2
  have w0 : IntKind.u64.wrap 0 = 0 := by rw [IntKind.wrap_u64]; rfl
  have e0 : (0 : Int) / 4294967296 = 0 := by omega
  simp only [m1, m0, my, d0, wy, w0, e0, Int.one_mul, Int.mul_zero, Int.zero_mul, Int.add_zero, Int.zero_add]
  go_ret2
  exact ⟨rfl, rfl⟩
theorem mul_any (y : Nat) (hy : y < 4294967296) (w : World) :
    Calls Try.prog 121 #[.int .u64 1, .int .u64 y] w fun e w' => e = .returned (.tuple #[.int .u64 0, .int .u64 y]) ∧ w' = w := by
  go_enter Try.func121, Try.ntmps121
  go_wp2_with (go_at_call 130; refine (mul64_any y hy _).mono ?_; rintro e w' ⟨rfl, rfl⟩)
  go_ret2
  exact ⟨rfl, rfl⟩

/-- A row of q cells, the first m of which hold r. -/
def rpt (r : Int) (m q : Nat) : List Value := List.replicate m (.int .i64 r) ++ List.replicate (q - m) (.int .i64 0)
theorem rpt_len (r : Int) {m q : Nat} (h : m ≤ q) : (rpt r m q).length = q := by simp [rpt]; omega
theorem rpt_splice (r : Int) {m k q : Nat} (h : m + k ≤ q) : splice (rpt r m q) m (List.replicate k (.int .i64 r)) = rpt r (m + k) q := by
  unfold splice rpt
  have e1 : (List.replicate m (Value.int .i64 r) ++ List.replicate (q - m) (Value.int .i64 0)).take m = List.replicate m (.int .i64 r) := by
    rw [List.take_append_of_le_length (by simp)]; exact List.take_of_length_le (by simp)
  have e2 : (List.replicate m (Value.int .i64 r) ++ List.replicate (q - m) (Value.int .i64 0)).drop (m + k) = List.replicate (q - (m + k)) (.int .i64 0) := by
    rw [List.drop_append, List.drop_eq_nil_of_le (by simp)]
    simp only [List.length_replicate, List.nil_append, List.drop_replicate]
    congr 1; omega
  rw [e1, List.length_replicate, e2, ← List.append_assoc, List.replicate_append_replicate]
theorem rpt_at (r : Int) {m q j : Nat} (h : j < m) : (rpt r m q)[j]? = some (.int .i64 r) := by
  unfold rpt
  rw [List.getElem?_append_left (by simp; exact h)]; simp [h]
theorem rpt_full (r : Int) (q : Nat) : rpt r q q = List.replicate q (.int .i64 r) := by simp [rpt]
theorem row_cellR {W : World} {g : Nat} {cs : List Value} {t : TypeId} (h : W.heap[g]? = some (.cells cs.toArray t (0, 0))) (j : Nat) : W.cell? ⟨g, j, none⟩ = cs[j]? := by
  simp [World.cell?, h]

set_option maxRecDepth 100000 in
set_option maxHeartbeats 1000000 in
theorem repeat_any (r : Int) (q gx c : Nat) (w : World) (hx : w.cell? ⟨gx, 0, none⟩ = some (.int .i64 r)) (hq : q ≤ 1073741824) (hgx : gx < w.heap.size) :
    Calls Try.prog 101 #[.slice (some ⟨gx, 0, none⟩) 1 c, .int .i64 q] w fun e w' => e = .returned (.slice (some ⟨w.heap.size, 0, none⟩) q q) ∧ OwnI w' w.heap.size w'.heap.size (.slice (some ⟨w.heap.size, 0, none⟩) q q) (List.replicate q r) ∧ Below w.heap.size w w' := by
  have hmk := fun (W : World) => run_make_row' (P := Try.prog) 22 2 (.int .i64 0) 8 Try.underlying22 int_info rfl .i64 .i64 q (by omega) (by omega) W
  have hmul := fun W => mul_any q (by omega) W
  have hmul2 := Lib.hid hmul
  clear hmul
  have hqi : (q : Int) ≤ 1073741824 := by omega
  have hq0 : (0 : Int) ≤ (q : Int) := by omega
  go_enter Try.func101, Try.ntmps101
  obtain ⟨cs, hcs, hcz, hce⟩ := World.rowIs_made w (.int .i64 0) q 2
  have hg0 : (w.alloc (.cells (madeCells #[.int .i64 0] q) 2)).heap[w.heap.size]? = some (.cells (rpt r 0 q).toArray 2 (0, 0)) := by
    rw [hcs]
    congr 2
    apply Array.ext'
    apply List.ext_getElem?
    intro i
    by_cases hi : i < q
    · rw [Array.getElem?_toList, hce i hi]; simp [rpt, hi]
    · rw [List.getElem?_eq_none (by simp; omega), List.getElem?_eq_none (by simp [rpt]; omega)]
  have hb0 : Below w.heap.size w (w.alloc (.cells (madeCells #[.int .i64 0] q) 2)) := below_box2 _ _
  have hx0 : (w.alloc (.cells (madeCells #[.int .i64 0] q) 2)).cell? ⟨gx, 0, none⟩ = some (.int .i64 r) := by rw [hb0.cell (p := ⟨gx, 0, none⟩) hgx]; exact hx
  obtain ⟨k1, hk1⟩ : ∃ k1, k1 = Nat.min 1 q := ⟨_, rfl⟩
  have hka : k1 ≤ 1 := by rw [hk1]; exact Nat.min_le_left 1 q
  have hkb : k1 ≤ q := by rw [hk1]; exact Nat.min_le_right 1 q
  have hkc : 1 ≤ q → k1 = 1 := fun h => by rw [hk1]; exact Nat.min_eq_left h
  have hpos : 0 < (List.replicate k1 (Value.int .i64 r)).length → ∃ ad, some (⟨gx, 0, none⟩ : Addr) = some ad ∧ ∀ j v, (List.replicate k1 (Value.int .i64 r))[j]? = some v → (w.alloc (.cells (madeCells #[.int .i64 0] q) 2)).cell? (ad.add j) = some v := fun h0 => ⟨_, rfl, fun j u hj => by
    have hjl : j < k1 := by
      by_cases h5 : j < k1
      · exact h5
      · rw [List.getElem?_eq_none (by simp; omega)] at hj; cases hj
    have hj0 : j = 0 := by omega
    subst hj0
    rw [add_lit]
    have : u = .int .i64 r := by rw [List.getElem?_replicate] at hj; simp [hjl] at hj; exact hj.symm
    rw [this]; exact hx0⟩
  have HP := Lib.hid hpos
  have HG0 := Lib.hid hg0
  have HB0 := Lib.hid hb0
  have hfit : 0 + (List.replicate k1 (Value.int .i64 r)).length ≤ (rpt r 0 q).length := by rw [rpt_len r (by omega), List.length_replicate]; omega
  have HF := Lib.hid hfit
  have h1 : Hid (∀ u ∈ List.replicate k1 (Value.int .i64 r), u.oneCell' = true) := Lib.hid fun u hu => by rw [(List.mem_replicate.1 hu).2]; rfl
  have hsp : Hid (splice (rpt r 0 q) 0 (List.replicate k1 (.int .i64 r)) = rpt r k1 q) := Lib.hid (by have h5 := rpt_splice r (m := 0) (k := k1) (q := q) (by omega); rw [Nat.zero_add] at h5; exact h5)
  have hcl : (List.replicate k1 (Value.int .i64 r)).length = k1 := by simp
  clear hpos hg0 hb0 hx0 hfit hcs hcz hce hx
  obtain ⟨cs1, hcs1⟩ : ∃ cs1, cs1 = List.replicate k1 (Value.int .i64 r) := ⟨_, rfl⟩
  rw [← hcs1] at HP HF h1 hsp hcl
  clear hcs1 hka
  have HK1 := Lib.hid hk1
  clear hk1
  go_wp2_with (first | (go_at_call 121; refine (hmul2.out _).mono ?_; rintro e w' ⟨rfl, hww⟩; rw [hww]) | (refine wpList_copy_splice rfl _ _ 22 22 rfl 2 Try.underlying22 (by kernel_rfl) _ _ q q 1 c rfl rfl w.heap.size 0 (rpt r 0 q) 2 HG0.out cs1 (hcl.trans HK1.out) (fun h => ⟨rfl, HP.out h⟩) HF.out h1.out w.heap.size w HB0.out (Nat.le_refl _) ?_; intro w2 HG2 hB2; rw [hcl]))
  rw [hsp.out] at HG2
  have HB2 := Lib.hid hB2
  clear hB2 HP HF h1 hsp hcl HG0 HB0 hmk hmul2
  go_loopw [8] (fun vn wr => ∃ (m : Nat), (k1 ≤ m ∧ m ≤ q) ∧ vn = .int .i64 m ∧ Hid (wr.heap[w.heap.size]? = some (.cells (rpt r m q).toArray 2 (0, 0))) ∧ Hid (Below w.heap.size w wr)) (fun vn _ => q - (intOf vn).toNat)
  case atStart => exact ⟨k1, by omega, rfl, HG2, HB2⟩
  case round =>
    obtain ⟨m, hm, rfl, HG, hb⟩ := hrel
    by_cases hmq : m < q
    · have hm1 : 1 ≤ m := by have := hkc (by omega); omega
      have hmq2 : (m : Int) < (q : Int) := by omega
      have hmq3 : (m : Int) ≤ (q : Int) := by omega
      have hm0 : (0 : Int) ≤ (m : Int) := by omega
      obtain ⟨k, hk⟩ : ∃ k, k = Nat.min m (q - m) := ⟨_, rfl⟩
      have hka : k ≤ m := by rw [hk]; exact Nat.min_le_left _ _
      have hkb : k ≤ q - m := by rw [hk]; exact Nat.min_le_right _ _
      have hkp : 1 ≤ k := by rw [hk]; exact Nat.le_min.2 ⟨hm1, by omega⟩
      have HK := Lib.hid hk
      have hqm : ¬ q = m := by omega
      have HQ := Lib.hid hqm
      have hcl2 : Hid (∀ j v, (List.replicate k (Value.int .i64 r))[j]? = some v → wr.drew.cell? ((⟨w.heap.size, 0, none⟩ : Addr).add j) = some v) := Lib.hid fun j u hj => by
        have hjl : j < k := by
          by_cases h5 : j < k
          · exact h5
          · rw [List.getElem?_eq_none (by simp; omega)] at hj; cases hj
        have h6 : u = .int .i64 r := by rw [List.getElem?_replicate] at hj; simp [hjl] at hj; exact hj.symm
        rw [add_lit, Nat.zero_add, h6]
        show wr.cell? ⟨w.heap.size, j, none⟩ = _
        rw [row_cellR HG.out j]; exact rpt_at r (by omega)
      have hkq : m + k ≤ q := by omega
      have hw1 : IntKind.i64.wrap ((m : Int) + (k : Int)) = ((m + k : Nat) : Int) := by rw [IntWalk.i64_in _ (by omega)]; omega
      have HW1 := Lib.hid hw1
      clear hk hqm hw1
      go_wp2_with fail
      refine wp_region_held_drew (S := fun w' => True) (by kernel_rfl) trivial (fun hHeld => ?_)
      refine takeY 0 _ (v := ?_) rfl rfl (by kernel_rfl) (by kernel_rfl) (by kernel_rfl) (fun _ _ _ h => h) (by kernel_rfl) ?_ (by assumption) ?_
      rotate_left 1
      · intro w hSw; (try dsimp only at hSw); go_simp; (try with_reducible rfl)
      try simp only [Act.put, List.setIfInBounds_toArray, List.set_cons_zero, List.set_cons_succ]
      refine takeY 1 _ (v := ?_) rfl rfl (by kernel_rfl) (by kernel_rfl) (by kernel_rfl) (fun _ _ _ h => h) (by kernel_rfl) ?_ (by assumption) ?_
      rotate_left 1
      · intro w hSw; (try dsimp only at hSw); go_simp; (try with_reducible rfl)
      try simp only [Act.put, List.setIfInBounds_toArray, List.set_cons_zero, List.set_cons_succ]
      refine takeY 2 _ (v := ?_) rfl rfl (by kernel_rfl) (by kernel_rfl) (by kernel_rfl) (fun _ _ _ h => h) (by kernel_rfl) ?_ (by assumption) ?_
      rotate_left 1
      · intro w hSw; (try dsimp only at hSw); go_simp; (try with_reducible rfl)
      try simp only [Act.put, List.setIfInBounds_toArray, List.set_cons_zero, List.set_cons_succ]
      refine takeY 3 _ (v := ?_) rfl rfl (by kernel_rfl) (by kernel_rfl) (by kernel_rfl) (fun _ _ _ h => h) (by kernel_rfl) ?_ (by assumption) ?_
      rotate_left 1
      · intro w hSw; (try dsimp only at hSw); go_simp; (try with_reducible rfl)
      try simp only [Act.put, List.setIfInBounds_toArray, List.set_cons_zero, List.set_cons_succ]
      refine takeY 4 _ (v := ?_) rfl rfl (by kernel_rfl) (by kernel_rfl) (by kernel_rfl) (fun _ _ _ h => h) (by kernel_rfl) ?_ (by assumption) ?_
      rotate_left 1
      · intro w hSw; (try dsimp only at hSw); go_simp; (try with_reducible rfl)
      try simp only [Act.put, List.setIfInBounds_toArray, List.set_cons_zero, List.set_cons_succ]
      refine takeY 5 _ (v := ?_) rfl rfl (by kernel_rfl) (by kernel_rfl) (by kernel_rfl) (fun _ _ _ h => h) (by kernel_rfl) ?_ (by assumption) ?_
      rotate_left 1
      · intro w hSw; (try dsimp only at hSw); go_simp; (try with_reducible rfl)
      try simp only [Act.put, List.setIfInBounds_toArray, List.set_cons_zero, List.set_cons_succ]
      refine takeY 6 _ (v := ?_) rfl rfl (by kernel_rfl) (by kernel_rfl) (by kernel_rfl) (fun _ _ _ h => h) (by kernel_rfl) ?_ (by assumption) ?_
      rotate_left 1
      · intro w hSw; (try dsimp only at hSw); go_simp; (try with_reducible rfl)
      try simp only [Act.put, List.setIfInBounds_toArray, List.set_cons_zero, List.set_cons_succ]
      simp only [if_neg HQ.out]
      refine wpAnyH_ready (rs := [7]) (by kernel_rfl) (by simp) ?_
      refine AllReadyH.cons rfl (fun K hK => ?_) AllReadyH.nil
      refine step_copy_splice rfl (.tmp 41) (.tmp 44) 22 22 rfl 2 Try.underlying22 (by kernel_rfl) (some ⟨w.heap.size, m, none⟩) (some ⟨w.heap.size, 0, none⟩) (q - m) (q - m) m q rfl rfl w.heap.size m (rpt r m q) 2 HG.out (List.replicate k (.int .i64 r)) (by rw [List.length_replicate]; exact HK.out) (fun h => ⟨rfl, _, rfl, hcl2.out⟩) (by rw [rpt_len r (by omega), List.length_replicate]; omega) (fun u hu => by rw [(List.mem_replicate.1 hu).2]; rfl) w.heap.size w (below_drewN hb.out 1) (Nat.le_refl _) ?_
      intro w3 hg3 hb3
      rw [List.length_replicate]
      have HG3 : Hid (w3.heap[w.heap.size]? = some (.cells (rpt r (m + k) q).toArray 2 (0, 0))) := Lib.hid (by rw [← rpt_splice r (by omega)]; exact hg3.out)
      have HB3 := Lib.hid hb3
      clear hg3 hb3
      try simp only [List.getElem_toArray, List.getElem_cons_succ, List.getElem_cons_zero]
      refine hK.out _ w3 trivial (fun hHeld => ?_)
      clear hK K
      try simp only [Act.put, List.setIfInBounds_toArray, List.set_cons_zero, List.set_cons_succ]
      refine takeY 8 _ (v := ?_) rfl rfl (by kernel_rfl) (by kernel_rfl) (by kernel_rfl) (fun _ _ _ h => h) (by kernel_rfl) ?_ (by assumption) ?_
      rotate_left 1
      · intro w hSw; (try dsimp only at hSw); go_simp; (try with_reducible rfl)
      try simp only [Act.put, List.setIfInBounds_toArray, List.set_cons_zero, List.set_cons_succ]
      refine takeY 9 _ (v := ?_) rfl rfl (by kernel_rfl) (by kernel_rfl) (by kernel_rfl) (fun _ _ _ h => h) (by kernel_rfl) ?_ (by assumption) ?_
      rotate_left 1
      · intro w hSw; (try dsimp only at hSw); go_simp; (try with_reducible rfl)
      try simp only [Act.put, List.setIfInBounds_toArray, List.set_cons_zero, List.set_cons_succ]
      refine wpAnyH_done (by kernel_rfl) ?_ _
      go_wp2_with fail
      go_roundw
      case rel => exact ⟨m + k, by omega, by rw [HW1.out], HG3, HB3⟩
      case measure => simp only [intOf]; simp [HW1.out]; omega
    · obtain rfl : m = q := by omega
      have HO : Hid (OwnI wr w.heap.size wr.heap.size (.slice (some ⟨w.heap.size, 0, none⟩) m m) (List.replicate m r)) := Lib.hid (by
        refine OwnI.mk' (n := m) ⟨by simp, .inr ⟨w.heap.size, m, _, rfl, Nat.le_refl _, HG.out, Nat.le_refl _, by unfold maxLen; omega, by simp [rpt_len], ?_⟩⟩
        rw [rpt_full]; simp)
      go_wp2
      go_ret
      exact ⟨rfl, HO.out, hb.out⟩
end Go.Proofs.Ytncgkoanckefmaa
