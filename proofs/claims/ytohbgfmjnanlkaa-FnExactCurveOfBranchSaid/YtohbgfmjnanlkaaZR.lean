/- ZR: Rep SqS SqF SqG SqL BkO. Conditions: stated at each theorem. -/
import Derived.Test.YtohbgfmjnanlkaaZA
import Derived.Test.YtohbgfmjnanlkaaZB
import Derived.Shelf.Bits.Mul64
import Derived.Laws.CopyOwn
import Derived.Test.YtohbgfmjnanlkaaZD
import Derived.Deep.AppendLies
import Derived.Laws.OwnMore
import Derived.Laws.Small
/- slices.Repeat of a slice of one number: contract. Conditions: stated at each theorem. -/
namespace Go.Proofs.Ytohbgfmjnanlkaa
open Go.ChangeShapes Go.WideShapes Go.ChangeAt Go.RowKit
set_option linter.unusedVariables false
set_option linter.unusedSimpArgs false

set_option maxHeartbeats 1000000 in
theorem mul64_any (y : Nat) (hy : y < 4294967296) (w : World) :
    Calls Try.prog 190 #[.int .u64 1, .int .u64 y] w fun e w' => e = .returned (.tuple #[.int .u64 0, .int .u64 y]) ∧ w' = w := by
  have hy2 : y < 18446744073709551616 := by omega
  go_enter Try.func190, Try.ntmps190
  go_wp2
  have m1 : bits .and .u64 1 4294967295 = 1 := by have h := Mul64.maskN 1 (by omega); simpa using h
  have m0 : bits .and .u64 0 4294967295 = 0 := by have h := Mul64.maskN 0 (by omega); simpa using h
  have my : bits .and .u64 (y : Int) 4294967295 = (y : Int) := by rw [Mul64.maskN y hy2, Nat.mod_eq_of_lt hy]
  have d0 : (y : Int) / 4294967296 = 0 := by omega
  have wy : IntKind.u64.wrap (y : Int) = (y : Int) := Mul64.wrapN y hy2
  have w0 : IntKind.u64.wrap 0 = 0 := by rw [IntKind.wrap_u64]; rfl
  have e0 : (0 : Int) / 4294967296 = 0 := by omega
  simp only [m1, m0, my, d0, wy, w0, e0, Int.one_mul, Int.mul_zero, Int.zero_mul, Int.add_zero, Int.zero_add]
  go_ret2
  exact ⟨rfl, rfl⟩
theorem mul_any (y : Nat) (hy : y < 4294967296) (w : World) :
    Calls Try.prog 162 #[.int .u64 1, .int .u64 y] w fun e w' => e = .returned (.tuple #[.int .u64 0, .int .u64 y]) ∧ w' = w := by
  go_enter Try.func162, Try.ntmps162
  go_wp2_with (go_at_call 190; refine (mul64_any y hy _).mono ?_; rintro e w' ⟨rfl, rfl⟩)
  go_ret2
  exact ⟨rfl, rfl⟩

/-- A row of q cells, the first m of which hold r. -/
def rpt (r : Int) (m q : Nat) : List Value := List.replicate m (.int .i64 r) ++ List.replicate (q - m) (.int .i64 0)
theorem rpt_len (r : Int) {m q : Nat} (h : m ≤ q) : (rpt r m q).length = q := by simp [rpt]; omega
theorem rpt_splice (r : Int) {m k q : Nat} (h : m + k ≤ q) : splice (rpt r m q) m (List.replicate k (.int .i64 r)) = rpt r (m + k) q := by
  unfold splice rpt
  have e1 : (List.replicate m (Value.int .i64 r) ++ List.replicate (q - m) (Value.int .i64 0)).take m = List.replicate m (.int .i64 r) := by
    rw [List.take_append_of_le_length (by simp)]; exact List.take_of_length_le (by simp)
  have e2 : (List.replicate m (Value.int .i64 r) ++ List.replicate (q - m) (Value.int .i64 0)).drop (m + k) = List.replicate (q - (m + k)) (.int .i64 0) := by
    rw [List.drop_append, List.drop_eq_nil_of_le (by simp)]
    simp only [List.length_replicate, List.nil_append, List.drop_replicate]
    congr 1; omega
  rw [e1, List.length_replicate, e2, ← List.append_assoc, List.replicate_append_replicate]
theorem rpt_at (r : Int) {m q j : Nat} (h : j < m) : (rpt r m q)[j]? = some (.int .i64 r) := by
  unfold rpt
  rw [List.getElem?_append_left (by simp; exact h)]; simp [h]
theorem rpt_full (r : Int) (q : Nat) : rpt r q q = List.replicate q (.int .i64 r) := by simp [rpt]
theorem row_cellR {W : World} {g : Nat} {cs : List Value} {t : TypeId} (h : W.heap[g]? = some (.cells cs.toArray t (0, 0))) (j : Nat) : W.cell? ⟨g, j, none⟩ = cs[j]? := by
  simp [World.cell?, h]

set_option maxRecDepth 100000 in
set_option maxHeartbeats 1000000 in
theorem repeat_any (r : Int) (q gx c : Nat) (w : World) (hx : w.cell? ⟨gx, 0, none⟩ = some (.int .i64 r)) (hq : q ≤ 1073741824) (hgx : gx < w.heap.size) :
    Calls Try.prog 115 #[.slice (some ⟨gx, 0, none⟩) 1 c, .int .i64 q] w fun e w' => e = .returned (.slice (some ⟨w.heap.size, 0, none⟩) q q) ∧ OwnI w' w.heap.size w'.heap.size (.slice (some ⟨w.heap.size, 0, none⟩) q q) (List.replicate q r) ∧ Below w.heap.size w w' := by
  have hmk := fun (W : World) => run_make_row' (P := Try.prog) 22 2 (.int .i64 0) 8 Try.underlying22 int_info rfl .i64 .i64 q (by omega) (by omega) W
  have hmul := fun W => mul_any q (by omega) W
  have hmul2 := Lib.hid hmul
  clear hmul
  have hqi : (q : Int) ≤ 1073741824 := by omega
  have hq0 : (0 : Int) ≤ (q : Int) := by omega
  go_enter Try.func115, Try.ntmps115
  obtain ⟨cs, hcs, hcz, hce⟩ := World.rowIs_made w (.int .i64 0) q 2
  have hg0 : (w.alloc (.cells (madeCells #[.int .i64 0] q) 2)).heap[w.heap.size]? = some (.cells (rpt r 0 q).toArray 2 (0, 0)) := by
    rw [hcs]
    congr 2
    apply Array.ext'
    apply List.ext_getElem?
    intro i
    by_cases hi : i < q
    · rw [Array.getElem?_toList, hce i hi]; simp [rpt, hi]
    · rw [List.getElem?_eq_none (by simp; omega), List.getElem?_eq_none (by simp [rpt]; omega)]
  have hb0 : Below w.heap.size w (w.alloc (.cells (madeCells #[.int .i64 0] q) 2)) := below_box2 _ _
  have hx0 : (w.alloc (.cells (madeCells #[.int .i64 0] q) 2)).cell? ⟨gx, 0, none⟩ = some (.int .i64 r) := by rw [hb0.cell (p := ⟨gx, 0, none⟩) hgx]; exact hx
  obtain ⟨k1, hk1⟩ : ∃ k1, k1 = Nat.min 1 q := ⟨_, rfl⟩
  have hka : k1 ≤ 1 := by rw [hk1]; exact Nat.min_le_left 1 q
  have hkb : k1 ≤ q := by rw [hk1]; exact Nat.min_le_right 1 q
  have hkc : 1 ≤ q → k1 = 1 := fun h => by rw [hk1]; exact Nat.min_eq_left h
  have hpos : 0 < (List.replicate k1 (Value.int .i64 r)).length → ∃ ad, some (⟨gx, 0, none⟩ : Addr) = some ad ∧ ∀ j v, (List.replicate k1 (Value.int .i64 r))[j]? = some v → (w.alloc (.cells (madeCells #[.int .i64 0] q) 2)).cell? (ad.add j) = some v := fun h0 => ⟨_, rfl, fun j u hj => by
    have hjl : j < k1 := by
      by_cases h5 : j < k1
      · exact h5
      · rw [List.getElem?_eq_none (by simp; omega)] at hj; cases hj
    have hj0 : j = 0 := by omega
    subst hj0
    rw [add_lit]
    have : u = .int .i64 r := by rw [List.getElem?_replicate] at hj; simp [hjl] at hj; exact hj.symm
    rw [this]; exact hx0⟩
  have HP := Lib.hid hpos
  have HG0 := Lib.hid hg0
  have HB0 := Lib.hid hb0
  have hfit : 0 + (List.replicate k1 (Value.int .i64 r)).length ≤ (rpt r 0 q).length := by rw [rpt_len r (by omega), List.length_replicate]; omega
  have HF := Lib.hid hfit
  have h1 : Hid (∀ u ∈ List.replicate k1 (Value.int .i64 r), u.oneCell' = true) := Lib.hid fun u hu => by rw [(List.mem_replicate.1 hu).2]; rfl
  have hsp : Hid (splice (rpt r 0 q) 0 (List.replicate k1 (.int .i64 r)) = rpt r k1 q) := Lib.hid (by have h5 := rpt_splice r (m := 0) (k := k1) (q := q) (by omega); rw [Nat.zero_add] at h5; exact h5)
  have hcl : (List.replicate k1 (Value.int .i64 r)).length = k1 := by simp
  clear hpos hg0 hb0 hx0 hfit hcs hcz hce hx
  obtain ⟨cs1, hcs1⟩ : ∃ cs1, cs1 = List.replicate k1 (Value.int .i64 r) := ⟨_, rfl⟩
  rw [← hcs1] at HP HF h1 hsp hcl
  clear hcs1 hka
  have HK1 := Lib.hid hk1
  clear hk1
  go_wp2_with (first | (go_at_call 162; refine (hmul2.out _).mono ?_; rintro e w' ⟨rfl, hww⟩; rw [hww]) | (refine wpList_copy_splice rfl _ _ 22 22 rfl 2 Try.underlying22 (by kernel_rfl) _ _ q q 1 c rfl rfl w.heap.size 0 (rpt r 0 q) 2 HG0.out cs1 (hcl.trans HK1.out) (fun h => ⟨rfl, HP.out h⟩) HF.out h1.out w.heap.size w HB0.out (Nat.le_refl _) ?_; intro w2 HG2 hB2; rw [hcl]))
  rw [hsp.out] at HG2
  have HB2 := Lib.hid hB2
  clear hB2 HP HF h1 hsp hcl HG0 HB0 hmk hmul2
  go_loopw [8] (fun vn wr => ∃ (m : Nat), (k1 ≤ m ∧ m ≤ q) ∧ vn = .int .i64 m ∧ Hid (wr.heap[w.heap.size]? = some (.cells (rpt r m q).toArray 2 (0, 0))) ∧ Hid (Below w.heap.size w wr)) (fun vn _ => q - (intOf vn).toNat)
  case atStart => exact ⟨k1, by omega, rfl, HG2, HB2⟩
  case round =>
    obtain ⟨m, hm, rfl, HG, hb⟩ := hrel
    by_cases hmq : m < q
    · have hm1 : 1 ≤ m := by have := hkc (by omega); omega
      have hmq2 : (m : Int) < (q : Int) := by omega
      have hmq3 : (m : Int) ≤ (q : Int) := by omega
      have hm0 : (0 : Int) ≤ (m : Int) := by omega
      obtain ⟨k, hk⟩ : ∃ k, k = Nat.min m (q - m) := ⟨_, rfl⟩
      have hka : k ≤ m := by rw [hk]; exact Nat.min_le_left _ _
      have hkb : k ≤ q - m := by rw [hk]; exact Nat.min_le_right _ _
      have hkp : 1 ≤ k := by rw [hk]; exact Nat.le_min.2 ⟨hm1, by omega⟩
      have HK := Lib.hid hk
      have hqm : ¬ q = m := by omega
      have HQ := Lib.hid hqm
      have hcl2 : Hid (∀ j v, (List.replicate k (Value.int .i64 r))[j]? = some v → wr.drew.cell? ((⟨w.heap.size, 0, none⟩ : Addr).add j) = some v) := Lib.hid fun j u hj => by
        have hjl : j < k := by
          by_cases h5 : j < k
          · exact h5
          · rw [List.getElem?_eq_none (by simp; omega)] at hj; cases hj
        have h6 : u = .int .i64 r := by rw [List.getElem?_replicate] at hj; simp [hjl] at hj; exact hj.symm
        rw [add_lit, Nat.zero_add, h6]
        show wr.cell? ⟨w.heap.size, j, none⟩ = _
        rw [row_cellR HG.out j]; exact rpt_at r (by omega)
      have hkq : m + k ≤ q := by omega
      have hw1 : IntKind.i64.wrap ((m : Int) + (k : Int)) = ((m + k : Nat) : Int) := by rw [IntWalk.i64_in _ (by omega)]; omega
      have HW1 := Lib.hid hw1
      clear hk hqm hw1
      go_wp2_with fail
      refine wp_region_held_drew (S := fun w' => True) (by kernel_rfl) trivial (fun hHeld => ?_)
      refine takeY 0 _ (v := ?_) rfl rfl (by kernel_rfl) (by kernel_rfl) (by kernel_rfl) (fun _ _ _ h => h) (by kernel_rfl) ?_ (by assumption) ?_
      rotate_left 1
      · intro w hSw; (try dsimp only at hSw); go_simp; (try with_reducible rfl)
      try simp only [Act.put, List.setIfInBounds_toArray, List.set_cons_zero, List.set_cons_succ]
      refine takeY 1 _ (v := ?_) rfl rfl (by kernel_rfl) (by kernel_rfl) (by kernel_rfl) (fun _ _ _ h => h) (by kernel_rfl) ?_ (by assumption) ?_
      rotate_left 1
      · intro w hSw; (try dsimp only at hSw); go_simp; (try with_reducible rfl)
      try simp only [Act.put, List.setIfInBounds_toArray, List.set_cons_zero, List.set_cons_succ]
      refine takeY 2 _ (v := ?_) rfl rfl (by kernel_rfl) (by kernel_rfl) (by kernel_rfl) (fun _ _ _ h => h) (by kernel_rfl) ?_ (by assumption) ?_
      rotate_left 1
      · intro w hSw; (try dsimp only at hSw); go_simp; (try with_reducible rfl)
      try simp only [Act.put, List.setIfInBounds_toArray, List.set_cons_zero, List.set_cons_succ]
      refine takeY 3 _ (v := ?_) rfl rfl (by kernel_rfl) (by kernel_rfl) (by kernel_rfl) (fun _ _ _ h => h) (by kernel_rfl) ?_ (by assumption) ?_
      rotate_left 1
      · intro w hSw; (try dsimp only at hSw); go_simp; (try with_reducible rfl)
      try simp only [Act.put, List.setIfInBounds_toArray, List.set_cons_zero, List.set_cons_succ]
      refine takeY 4 _ (v := ?_) rfl rfl (by kernel_rfl) (by kernel_rfl) (by kernel_rfl) (fun _ _ _ h => h) (by kernel_rfl) ?_ (by assumption) ?_
      rotate_left 1
      · intro w hSw; (try dsimp only at hSw); go_simp; (try with_reducible rfl)
      try simp only [Act.put, List.setIfInBounds_toArray, List.set_cons_zero, List.set_cons_succ]
      refine takeY 5 _ (v := ?_) rfl rfl (by kernel_rfl) (by kernel_rfl) (by kernel_rfl) (fun _ _ _ h => h) (by kernel_rfl) ?_ (by assumption) ?_
      rotate_left 1
      · intro w hSw; (try dsimp only at hSw); go_simp; (try with_reducible rfl)
      try simp only [Act.put, List.setIfInBounds_toArray, List.set_cons_zero, List.set_cons_succ]
      refine takeY 6 _ (v := ?_) rfl rfl (by kernel_rfl) (by kernel_rfl) (by kernel_rfl) (fun _ _ _ h => h) (by kernel_rfl) ?_ (by assumption) ?_
      rotate_left 1
      · intro w hSw; (try dsimp only at hSw); go_simp; (try with_reducible rfl)
      try simp only [Act.put, List.setIfInBounds_toArray, List.set_cons_zero, List.set_cons_succ]
      simp only [if_neg HQ.out]
      refine wpAnyH_ready (rs := [7]) (by kernel_rfl) (by simp) ?_
      refine AllReadyH.cons rfl (fun K hK => ?_) AllReadyH.nil
      refine step_copy_splice rfl (.tmp 41) (.tmp 44) 22 22 rfl 2 Try.underlying22 (by kernel_rfl) (some ⟨w.heap.size, m, none⟩) (some ⟨w.heap.size, 0, none⟩) (q - m) (q - m) m q rfl rfl w.heap.size m (rpt r m q) 2 HG.out (List.replicate k (.int .i64 r)) (by rw [List.length_replicate]; exact HK.out) (fun h => ⟨rfl, _, rfl, hcl2.out⟩) (by rw [rpt_len r (by omega), List.length_replicate]; omega) (fun u hu => by rw [(List.mem_replicate.1 hu).2]; rfl) w.heap.size w (below_drewN hb.out 1) (Nat.le_refl _) ?_
      intro w3 hg3 hb3
      rw [List.length_replicate]
      have HG3 : Hid (w3.heap[w.heap.size]? = some (.cells (rpt r (m + k) q).toArray 2 (0, 0))) := Lib.hid (by rw [← rpt_splice r (by omega)]; exact hg3.out)
      have HB3 := Lib.hid hb3
      clear hg3 hb3
      try simp only [List.getElem_toArray, List.getElem_cons_succ, List.getElem_cons_zero]
      refine hK.out _ w3 trivial (fun hHeld => ?_)
      clear hK K
      try simp only [Act.put, List.setIfInBounds_toArray, List.set_cons_zero, List.set_cons_succ]
      refine takeY 8 _ (v := ?_) rfl rfl (by kernel_rfl) (by kernel_rfl) (by kernel_rfl) (fun _ _ _ h => h) (by kernel_rfl) ?_ (by assumption) ?_
      rotate_left 1
      · intro w hSw; (try dsimp only at hSw); go_simp; (try with_reducible rfl)
      try simp only [Act.put, List.setIfInBounds_toArray, List.set_cons_zero, List.set_cons_succ]
      refine takeY 9 _ (v := ?_) rfl rfl (by kernel_rfl) (by kernel_rfl) (by kernel_rfl) (fun _ _ _ h => h) (by kernel_rfl) ?_ (by assumption) ?_
      rotate_left 1
      · intro w hSw; (try dsimp only at hSw); go_simp; (try with_reducible rfl)
      try simp only [Act.put, List.setIfInBounds_toArray, List.set_cons_zero, List.set_cons_succ]
      refine wpAnyH_done (by kernel_rfl) ?_ _
      go_wp2_with fail
      go_roundw
      case rel => exact ⟨m + k, by omega, by rw [HW1.out], HG3, HB3⟩
      case measure => simp only [intOf]; simp [HW1.out]; omega
    · obtain rfl : m = q := by omega
      have HO : Hid (OwnI wr w.heap.size wr.heap.size (.slice (some ⟨w.heap.size, 0, none⟩) m m) (List.replicate m r)) := Lib.hid (by
        refine OwnI.mk' (n := m) ⟨by simp, .inr ⟨w.heap.size, m, _, rfl, Nat.le_refl _, HG.out, Nat.le_refl _, by unfold maxLen; omega, by simp [rpt_len], ?_⟩⟩
        rw [rpt_full]; simp)
      go_wp2
      go_ret
      exact ⟨rfl, HO.out, hb.out⟩
end Go.Proofs.Ytohbgfmjnanlkaa
/- The sequence of a branch, the program's: contract. Conditions: stated at each theorem. -/
namespace Go.Proofs.Ytohbgfmjnanlkaa
open Go.ChangeShapes Go.WideShapes Go.ChangeAt Go.RowKit Go.Shelf
set_option linter.unusedVariables false
set_option linter.unusedSimpArgs false
attribute [local go_sem] Oper.semAt_some

theorem run_append_emptyR {P : Program} {w : World} (base : Nat) (t ty e : TypeId) (i : TypeInfo) (size : Nat) (ht : P.underlying t = some (.slice e)) (hi : P.info? e = some i)
    (v : Value) (n : Nat) (xs : List Value) (hown : w.ownsRow base e size v n xs) (ad : Addr) (c : Nat) :
    (Builtin.append_ #[t, t] ty #[v, .slice (some ad) 0 c]).run P w = .ok v w := by
  rcases hown.2 with ⟨rfl, rfl⟩ | ⟨g, cap, cur, rfl, _, _, hnc, _⟩
  · simp [Builtin.append_, run_underlying ht, sizeOf, typeInfo, hi, Builtin.lenOf, Builtin.firstCells, loadCells, loadCellsFrom]
  · simp [Builtin.append_, run_underlying ht, sizeOf, typeInfo, hi, Builtin.lenOf, Builtin.firstCells, hnc, storeCells, loadCells, loadCellsFrom]
/-- append(s, x...) where s is the call's own and x is any slice of cells that read: the block of what comes is the old one or a new one. -/
theorem wp_append_whole {P : Program} {w : World} {o : Oper} {a : Act} {K : Act → World → Prop} {Q : Exit → Act → World → Prop} (s x : Operand) (t : TypeId)
    (ho : o.op = .call { callee := .builtin .append, args := #[s, x], argTypes := #[t, t] })
    (base : Nat) (e : TypeId) (i : TypeInfo) (z : Value) (bytes : Nat) (ht : P.underlying t = some (.slice e)) (hi : P.info? e = some i) (hz : i.zero = some z)
    (hsize : i.size = 1) (hby : i.bytes = bytes) (hzs : z.cells.size = 1)
    (v : Value) (n : Nat) (xs : List Value) (hs : a.eval s = v) (hown : w.ownsRow base e 1 v n xs)
    (ad : Addr) (m c : Nat) (news : List Value) (hx : a.eval x = .slice (some ad) m c) (hl : news.length = m) (hnews : ∀ j u, news[j]? = some u → w.cell? (ad.add j) = some u) (h1 : ∀ u ∈ news, u.oneCell' = true)
    (h63 : n + m ≤ maxLen) (hbytes : (n + m) * bytes ≤ 140737488355328) (hbase : base ≤ w.heap.size)
    (h : ∀ A cap w', w'.ownsRow base e 1 (.slice A (n + m) cap) (n + m) (xs ++ news) → w.grownBy w' v.ownBlock → (∀ k, (Value.slice A (n + m) cap).ownBlock = some k → v.ownBlock = some k ∨ k = w.heap.size) → K (a.put o.dst (.slice A (n + m) cap)) w') : o.wp P a w K Q := by
  by_cases hm : m = 0
  · subst hm
    obtain rfl : news = [] := List.eq_nil_of_length_eq_zero hl
    have hr := run_append_emptyR (P := P) (w := w) base t o.type e i 1 ht hi v n xs hown ad c
    unfold Oper.wp execOp
    simp only [ho, resolve, invoke, builtin, Sem.run_bind, Sem.run_pure, Result.andThen_ok, List.map_toArray, List.map_cons, List.map_nil, hs, hx, hr]
    obtain ⟨A, cap, rfl⟩ : ∃ A cap, v = .slice A n cap := by
      rcases hown.2 with ⟨rfl, rfl⟩ | ⟨g, cap, cur, rfl, _⟩
      · exact ⟨none, 0, rfl⟩
      · exact ⟨_, _, rfl⟩
    exact h A cap w (by rw [List.append_nil]; exact hown) ⟨rfl, rfl, rfl, Nat.le_refl _, fun _ _ _ => rfl⟩ (fun k hk => .inl hk)
  · refine wp_append_lies w s x t ho base e i z 1 bytes ht hi hz hsize hby hzs (by decide) v n xs hs hown ad m c news hx (by omega) hnews h1 (by omega) h63 hbytes hbase w.heap.size rfl ?_
    intro g cap w' h2 h3 h4 _
    exact h _ _ _ h2 h3 (fun k hk => by cases hk; exact h4)

/-- What a round of the loop has done: a call that turns nothing, an append, and the store of what came. -/
theorem seq_body {W wm w1 : World} {b0 n0 N M : Nat} {v v' : Value} {xs ys : List Value} (hbx : Boxed W b0 22 v) (hrow : W.ownsRow n0 2 1 v N xs) (hm : Below W.heap.size W wm) (hg : wm.grownBy w1 v.ownBlock)
    (hown : w1.ownsRow n0 2 1 v' M ys) (hfr : ∀ k, v'.ownBlock = some k → v.ownBlock = some k ∨ k = wm.heap.size) (hn0 : n0 ≤ W.heap.size) (hb0 : n0 ≤ b0) :
    Boxed w1 b0 22 v ∧ KeepsOthers W (w1.setCell ⟨b0, 0, none⟩ v') ∧ KpB b0 W (w1.setCell ⟨b0, 0, none⟩ v') ∧ Boxed (w1.setCell ⟨b0, 0, none⟩ v') b0 22 v' ∧ (w1.setCell ⟨b0, 0, none⟩ v').ownsRow n0 2 1 v' M ys ∧ Below n0 W (w1.setCell ⟨b0, 0, none⟩ v') := by
  have hlt := hbx.lt
  have hne : some b0 ≠ v.ownBlock := hbx.not_row (by decide) hrow
  have hbm : Boxed wm b0 22 v := (hm.block b0 hlt).trans hbx
  have hb1 : Boxed w1 b0 22 v := hbm.kept hg hne
  have hset : ∀ b, b ≠ b0 → (w1.setCell ⟨b0, 0, none⟩ v').heap[b]? = w1.heap[b]? := fun b hb => Below.heap_setCell _ _ _ _ (fun e => hb (by simpa using e))
  have hrw : ∀ k, v.ownBlock = some k → k < W.heap.size := fun k hk => (World.ownsRow.lt hrow k hk).2
  have hcell : ∀ j o, v.ownBlock = some j → W.heap[j]? = some o → o.isCells = true := fun j o hj ho => by
    rcases hrow.2 with ⟨rfl, _⟩ | ⟨g, cap, cur, rfl, _, hgb, _⟩
    · simp [Value.ownBlock] at hj
    · obtain rfl : g = j := by simpa [Value.ownBlock] using hj
      rw [hgb] at ho; cases ho; rfl
  have hkeep : ∀ b, b < W.heap.size → b ≠ b0 → v.ownBlock ≠ some b → (w1.setCell ⟨b0, 0, none⟩ v').heap[b]? = W.heap[b]? := fun b h1 h2 h3 => by
    rw [hset b h2, hg.block b (by have := hm.size; omega) (fun e => h3 e.symm), hm.block b h1]
  have hsz : W.heap.size ≤ (w1.setCell ⟨b0, 0, none⟩ v').heap.size := by
    have h1 := hm.size; have h2 := hg.size
    have h3 := (grownBy_setCell' w1 b0 v').size
    omega
  refine ⟨hb1, ⟨hsz, fun j o ho hc => ?_⟩, ⟨hsz, fun b hb => ⟨hkeep b ?_ hb.1 ?_, ?_⟩, fun hv k hk => ?_⟩, hb1.set v', hown.kept (grownBy_setCell' w1 b0 v') (.inr (hb1.not_row (by decide) hown).symm), ?_⟩
  · rw [hkeep j (Array.getElem?_eq_some_iff.1 ho).1 (fun e => by subst e; rw [show W.heap[j]? = _ from hbx] at ho; cases ho; cases hc) (fun e => by rw [hcell j o e ho] at hc; cases hc)]
    exact ho
  · obtain ⟨_, _, o, h1, _⟩ := hb; exact (Array.getElem?_eq_some_iff.1 h1).1
  · have := hb.2.1; rw [rb_boxed hbx] at this; exact this
  · rw [rb_boxed (hb1.set v')]
    intro e
    rcases hfr b e with h1 | h1
    · have := hb.2.1; rw [rb_boxed hbx] at this; exact this h1
    · obtain ⟨_, _, o, h2, _⟩ := hb
      have h3 := (Array.getElem?_eq_some_iff.1 h2).1
      have := hm.size
      omega
  · rw [rb_boxed (hb1.set v')] at hk
    have h1 := (World.ownsRow.lt hown k hk).2
    have h3 := (grownBy_setCell' w1 b0 v').size
    omega
  · refine ((hm.mono hn0).grown hg (by have := hm.size; omega) fun j ej => ?_).setCell (p := ⟨b0, 0, none⟩) hb0 v'
    exact (World.ownsRow.lt hrow j ej).1

set_option maxRecDepth 100000 in
set_option maxHeartbeats 4000000 in
theorem sequence_any (v : Value) (zs : List Int) (w : World) (h : ReadI w w.heap.size v zs) (hn : zs.length ≤ 1048576) (hp : brB zs = true) :
    Calls Try.prog 120 #[.agg #[v]] w fun e w' => ∃ A c, e = .returned (.slice A (seqL zs).length c) ∧ OwnI w' w.heap.size w'.heap.size (.slice A (seqL zs).length c) (seqL zs) ∧ Below w.heap.size w w' := by
  have HQ := Lib.hid h
  obtain ⟨n, A, c, rfl, hr, HL, HN, hnc, HF, hcm⟩ := h.split2
  have HNN := Lib.hid hn
  have hbb : Below w.heap.size w (((w.alloc (.cells #[.slice A n c] 28)).alloc (.cells #[.slice none 0 0] 22)).alloc (.cells #[.slice A n c] 28)) := (((Below.refl _ _).alloc (Nat.le_refl _) _).alloc (by simp) _).alloc (by simp; omega) _
  have bD := (Boxed.new (w.alloc (.cells #[.slice A n c] 28)) 22 (.slice none 0 0)).alloc (.cells #[.slice A n c] 28)
  have bN := Boxed.new ((w.alloc (.cells #[.slice A n c] 28)).alloc (.cells #[.slice none 0 0] 22)) 28 (.slice A n c)
  rw [World.size_alloc] at bD
  rw [World.size_alloc, World.size_alloc] at bN
  have hsW : (((w.alloc (.cells #[.slice A n c] 28)).alloc (.cells #[.slice none 0 0] 22)).alloc (.cells #[.slice A n c] 28)).heap.size = w.heap.size + 3 := by simp
  have HBB := Lib.hid hbb
  have HBD := Lib.hid bD
  have HBN := Lib.hid bN
  have HSW := Lib.hid hsW
  clear h hr HN HF hn hbb bD bN hsW
  refine (callsIn_wide (n := 9)).1 ?_
  refine callsIn_of_wp_marks Try.func120 rfl trivial ?_ rfl
  simp only [Try.ntmps120, List.size_toArray, List.length_cons, List.length_nil, Nat.reduceAdd, Nat.reduceSub, Array.replicate_succ, Array.replicate_zero, List.push_toArray, List.append_toArray, List.nil_append, List.cons_append]
  gi_wp2_with (refine ⟨trivial, ?_⟩; gi_at_call 158; refine (callsIn_wide.2 (runSteps_any _ _)).mono ?_; rintro e w' ⟨rfl, rfl⟩)
  have hl := HL.out
  have hbb := HBB.out
  have bD := HBD.out
  have bN := HBN.out
  have hsW := HSW.out
  clear HBB HBD HBN HSW
  generalize ((w.alloc (.cells #[.slice A n c] 28)).alloc (.cells #[.slice none 0 0] 22)).alloc (.cells #[.slice A n c] 28) = W4 at *
  have hrb : rb (w.heap.size + 1) W4 = none := rb_boxed bD
  obtain ⟨g, o, rfl, hnc', hcm', sG, cG⟩ := branch_mem HQ.out hp hl hbb (by omega) hrb
  have h0 : w.heap.size + 1 < W4.heap.size := by omega
  have sB : Safe (w.heap.size + 1) W4 (w.heap.size + 1 + 1) := ⟨by omega, by rw [hrb]; simp, _, bN, rfl⟩
  have hOK := rsI_ok hp
  obtain ⟨i0, hi0, hz0, hz1, hz2⟩ := info_parts int_info
  refine wpIn_rangeFunc_ownF rfl (by omega) (gf := 186) (lb := #[.pointer (some ⟨w.heap.size + 1 + 1, 0, none⟩)]) rfl trivial (enters_of Try.func186 (by kernel_rfl) rfl)
    (runIt_stops _ (w.heap.size + 1) (w.heap.size + 1 + 1) g o n c zs W4 (by omega) hp hl (fun b e => by rw [hrb] at e; cases e) h0 sB bN.cell hnc' hcm' sG cG) (fun h k => h.trans k) (kpB_b h0) (Below.refl _ _) (fun _ => rfl)
    (fun pre W => (∃ v, Boxed W (w.heap.size + 1) 22 v ∧ W.ownsRow w.heap.size 2 1 v (flL (vals pre)).length ((flL (vals pre)).map (.int .i64))) ∧ Below w.heap.size w W)
    (fun _ _ _ => False)
    (OwnFrom.and (Own.from (fun s X Y row hs hg hr => by
      obtain ⟨v, h1, h2⟩ := holdsRow_own w.heap.size (w.heap.size + 1) 22 2 1 (fun pre : List Stp => (flL (vals pre)).length) (fun pre => (flL (vals pre)).map (.int .i64)) (fun _ _ => True) s X Y row (by obtain ⟨v, h1, h2⟩ := hs; exact ⟨v, h1, h2, trivial⟩) hg hr
      exact ⟨v, h1, h2.1⟩) _) (ownFrom_below (Nat.le_refl _) (by omega)))
    (fun _ _ _ _ _ hs _ _ => hs)
    ⟨⟨_, bD, World.ownsRow_nil _ _ _ _⟩, hbb⟩
    (fun x => { tmps := #[.agg #[.slice (some ⟨g, o, none⟩) n c], .pointer (some ⟨w.heap.size, 0, none⟩), .slice none 0 0, .pointer (some ⟨w.heap.size + 1, 0, none⟩), .int .i64 x.1.1, .int .i64 x.1.2, .agg #[.slice (some ⟨g, o, none⟩) n c], .func (.func 186) #[] #[.pointer (some ⟨w.heap.size + 1 + 1, 0, none⟩)], .int .i64 x.1.1, .int .i64 x.1.2, undef, undef, undef, undef, undef, undef, undef], defers := [] }) ?assign ?body ?done ?stop
  case assign =>
    intro l x W K hK
    gi_wp2
    exact hK
  case body =>
    rintro l pre x W ⟨⟨v, hbx, hrow⟩, hB⟩ hlt
    have hc := hbx.cell
    obtain ⟨⟨q0, r⟩, hx⟩ := x
    have hok : ∀ p ∈ vals pre, StOK p := fun p hp => by obtain ⟨y, _, rfl⟩ := List.mem_map.1 hp; exact y.2
    have hlb := flL_len hok
    have hcb := cntL_bound hok
    have hvl : (vals pre).length = pre.length := by simp [vals]
    have hN : (flL (vals pre)).length ≤ 260000000 := by omega
    obtain ⟨⟨hx1, hx2⟩, hx3, hx4⟩ := hx
    dsimp only at *
    obtain ⟨q, rfl⟩ : ∃ q : Nat, q0 = (q : Int) := ⟨q0.toNat, by omega⟩
    obtain ⟨N, hNe⟩ : ∃ N, (flL (vals pre)).length = N := ⟨_, rfl⟩
    obtain ⟨xsv, hxe⟩ : ∃ X, X = (flL (vals pre)).map (Value.int .i64) := ⟨_, rfl⟩
    have HNL := Lib.hid hNe
    have HXV := Lib.hid hxe
    rw [hNe, ← hxe] at hrow
    rw [hNe] at hN
    have HROW := Lib.hid hrow
    have hfz := hbx.frozen
    clear hrow hNe hxe hlb hcb hok
    gi_wp2_with fail
    refine wpIn_region_any (by kernel_rfl) (wpAnyIn_plain ?_ ?_ _ _ _ _ ?_)
    · intro o ho c hc
      simp only [List.mem_toArray, List.mem_cons, List.not_mem_nil, or_false] at ho
      rcases ho with rfl | rfl | rfl | rfl | rfl | rfl | rfl <;> cases hc
    · rintro ⟨_, _, h⟩
      exact h
    try (change wpAny _ _ _ _ _ _ _ (World.drew _))
    refine wpAny_take (i := 1) (v := ?_) rfl (by kernel_rfl) (by kernel_rfl) (by kernel_rfl) (fun _ _ _ h => h) (Or.inl ⟨by rfl, ?_⟩) ?_
    rotate_left 1
    · intro w; go_simp; (try with_reducible rfl)
    try simp only [Act.put, List.setIfInBounds_toArray, List.set_cons_zero, List.set_cons_succ]
    refine wpAny_take (i := 3) (v := ?_) rfl (by kernel_rfl) (by kernel_rfl) (by kernel_rfl) (fun _ _ _ h => h) (Or.inl ⟨by rfl, ?_⟩) ?_
    rotate_left 1
    · intro w; go_simp; (try with_reducible rfl)
    try simp only [Act.put, List.setIfInBounds_toArray, List.set_cons_zero, List.set_cons_succ]
    refine wpAny_ready (rs := [0, 2]) (by kernel_rfl) (by simp) ?_
    refine (AllReady.cons rfl (fun K hK => ?_) (AllReady.cons rfl (fun K hK => ?_) AllReady.nil))
    · go_simp
      refine hK _ _ ?_
      clear hK K
      try simp only [Act.put, List.setIfInBounds_toArray, List.set_cons_zero, List.set_cons_succ]
      refine wpAny_ready (rs := [2]) (by kernel_rfl) (by simp) ?_
      refine (AllReady.cons rfl (fun K hK => ?_) AllReady.nil)
      go_simp
      refine hK _ _ ?_
      clear hK K
      try simp only [Act.put, List.setIfInBounds_toArray, List.set_cons_zero, List.set_cons_succ]
      obtain ⟨Wa, HWa⟩ : ∃ X, X = (W.alloc (.cells #[.int .i64 r] 2)).drew := ⟨_, rfl⟩
      rw [← HWa]
      have hBa : Below W.heap.size W Wa := by rw [HWa]; exact below_drewN ((Below.refl _ _).alloc (Nat.le_refl _) _) 1
      have hsa : W.heap.size < Wa.heap.size := by rw [HWa]; simp
      have hca : Wa.cell? ⟨w.heap.size + 1, 0, none⟩ = some v := by rw [hBa.cell (p := ⟨w.heap.size + 1, 0, none⟩) hbx.lt]; exact hc
      have hcr : Wa.cell? ⟨W.heap.size, 0, none⟩ = some (.int .i64 r) := by rw [HWa]; go_simp
      clear HWa
      refine wpAny_ready (rs := [4]) (by kernel_rfl) (by simp) ?_
      refine (AllReady.cons rfl (fun K hK => ?_) AllReady.nil)
      go_simp
      refine (repeat_any r q W.heap.size 1 Wa hcr (by omega) hsa).mono ?_
      rintro e9 wm ⟨rfl, hom, hbm⟩
      have hBm : Below W.heap.size W wm := hBa.trans (hbm.mono hBa.size)
      have hcm2 : wm.cell? ⟨w.heap.size + 1, 0, none⟩ = some v := by rw [hBm.cell (p := ⟨w.heap.size + 1, 0, none⟩) hbx.lt]; exact hc
      refine hK _ _ ?_
      clear hK K
      try simp only [Act.put, List.setIfInBounds_toArray, List.set_cons_zero, List.set_cons_succ]
      refine wpAny_ready (rs := [5]) (by kernel_rfl) (by simp) ?_
      refine (AllReady.cons rfl (fun K hK => ?_) AllReady.nil)
      try simp only [List.getElem_toArray, List.getElem_cons_succ, List.getElem_cons_zero]
      rw [if_pos (by kernel_rfl)]
      refine wp_append_whole (.tmp 10) (.tmp 14) 22 rfl w.heap.size 2 i0 (.int .i64 0) 8 Try.underlying22 hi0 hz0 hz1 hz2 rfl v N xsv rfl (HROW.out.kept (grown_of_below hBm none) (by cases v.ownBlock <;> simp)) ⟨Wa.heap.size, 0, none⟩ q q (List.replicate q (.int .i64 r)) rfl (by simp) ?_ (fun u hu => by rw [(List.mem_replicate.1 hu).2]; rfl) (by simp only [maxLen]; omega) (by omega) (by have := hBm.size; have := hB.size; omega) ?_
      · intro j u hj
        have hjl : j < q := by
          by_cases h5 : j < q
          · exact h5
          · rw [List.getElem?_eq_none (by simp; omega)] at hj; cases hj
        have h6 : u = .int .i64 r := by rw [List.getElem?_replicate] at hj; simp [hjl] at hj; exact hj.symm
        obtain ⟨g', e1, _, _, h7, _⟩ := own_at hom (by simp) hjl
        cases e1
        rw [add_lit, Nat.zero_add, h7, h6]
        simp [hjl]
      intro A1 cap1 w1 hown1 hgrow hfr
      obtain ⟨hv1, hko, hkp, hv2, hr2, hb2⟩ := seq_body hbx HROW.out hBm hgrow hown1 hfr hB.size (by omega)
      have hc1 := hv1.cell
      have hf1 := hv1.frozen
      refine hK _ _ ?_
      clear hK K
      try simp only [Act.put, List.setIfInBounds_toArray, List.set_cons_zero, List.set_cons_succ]
      refine wpAny_ready (rs := [6]) (by kernel_rfl) (by simp) ?_
      refine (AllReady.cons rfl (fun K hK => ?_) AllReady.nil)
      go_simp
      refine hK _ _ ?_
      clear hK K
      try simp only [Act.put, List.setIfInBounds_toArray, List.set_cons_zero, List.set_cons_succ]
      refine wpAny_done (by kernel_rfl) ?_ _
      refine ⟨hko, hkp, ⟨_, hv2, ?_⟩, hB.trans hb2⟩
      rw [vals_snoc, flL_snoc, List.length_append, List.length_replicate, List.map_append, List.map_replicate, Int.toNat_natCast, HNL.out, ← HXV.out]
      exact hr2
    · go_simp
      refine hK _ _ ?_
      clear hK K
      try simp only [Act.put, List.setIfInBounds_toArray, List.set_cons_zero, List.set_cons_succ]
      obtain ⟨Wa, HWa⟩ : ∃ X, X = (W.alloc (.cells #[.int .i64 r] 2)).drew := ⟨_, rfl⟩
      rw [← HWa]
      have hBa : Below W.heap.size W Wa := by rw [HWa]; exact below_drewN ((Below.refl _ _).alloc (Nat.le_refl _) _) 1
      have hsa : W.heap.size < Wa.heap.size := by rw [HWa]; simp
      have hca : Wa.cell? ⟨w.heap.size + 1, 0, none⟩ = some v := by rw [hBa.cell (p := ⟨w.heap.size + 1, 0, none⟩) hbx.lt]; exact hc
      have hcr : Wa.cell? ⟨W.heap.size, 0, none⟩ = some (.int .i64 r) := by rw [HWa]; go_simp
      clear HWa
      refine wpAny_ready (rs := [0, 4]) (by kernel_rfl) (by simp) ?_
      refine (AllReady.cons rfl (fun K hK => ?_) (AllReady.cons rfl (fun K hK => ?_) AllReady.nil))
      · go_simp
        refine hK _ _ ?_
        clear hK K
        try simp only [Act.put, List.setIfInBounds_toArray, List.set_cons_zero, List.set_cons_succ]
        refine wpAny_ready (rs := [4]) (by kernel_rfl) (by simp) ?_
        refine (AllReady.cons rfl (fun K hK => ?_) AllReady.nil)
        go_simp
        refine (repeat_any r q W.heap.size 1 Wa hcr (by omega) hsa).mono ?_
        rintro e9 wm ⟨rfl, hom, hbm⟩
        have hBm : Below W.heap.size W wm := hBa.trans (hbm.mono hBa.size)
        have hcm2 : wm.cell? ⟨w.heap.size + 1, 0, none⟩ = some v := by rw [hBm.cell (p := ⟨w.heap.size + 1, 0, none⟩) hbx.lt]; exact hc
        refine hK _ _ ?_
        clear hK K
        try simp only [Act.put, List.setIfInBounds_toArray, List.set_cons_zero, List.set_cons_succ]
        refine wpAny_ready (rs := [5]) (by kernel_rfl) (by simp) ?_
        refine (AllReady.cons rfl (fun K hK => ?_) AllReady.nil)
        try simp only [List.getElem_toArray, List.getElem_cons_succ, List.getElem_cons_zero]
        rw [if_pos (by kernel_rfl)]
        refine wp_append_whole (.tmp 10) (.tmp 14) 22 rfl w.heap.size 2 i0 (.int .i64 0) 8 Try.underlying22 hi0 hz0 hz1 hz2 rfl v N xsv rfl (HROW.out.kept (grown_of_below hBm none) (by cases v.ownBlock <;> simp)) ⟨Wa.heap.size, 0, none⟩ q q (List.replicate q (.int .i64 r)) rfl (by simp) ?_ (fun u hu => by rw [(List.mem_replicate.1 hu).2]; rfl) (by simp only [maxLen]; omega) (by omega) (by have := hBm.size; have := hB.size; omega) ?_
        · intro j u hj
          have hjl : j < q := by
            by_cases h5 : j < q
            · exact h5
            · rw [List.getElem?_eq_none (by simp; omega)] at hj; cases hj
          have h6 : u = .int .i64 r := by rw [List.getElem?_replicate] at hj; simp [hjl] at hj; exact hj.symm
          obtain ⟨g', e1, _, _, h7, _⟩ := own_at hom (by simp) hjl
          cases e1
          rw [add_lit, Nat.zero_add, h7, h6]
          simp [hjl]
        intro A1 cap1 w1 hown1 hgrow hfr
        obtain ⟨hv1, hko, hkp, hv2, hr2, hb2⟩ := seq_body hbx HROW.out hBm hgrow hown1 hfr hB.size (by omega)
        have hc1 := hv1.cell
        have hf1 := hv1.frozen
        refine hK _ _ ?_
        clear hK K
        try simp only [Act.put, List.setIfInBounds_toArray, List.set_cons_zero, List.set_cons_succ]
        refine wpAny_ready (rs := [6]) (by kernel_rfl) (by simp) ?_
        refine (AllReady.cons rfl (fun K hK => ?_) AllReady.nil)
        go_simp
        refine hK _ _ ?_
        clear hK K
        try simp only [Act.put, List.setIfInBounds_toArray, List.set_cons_zero, List.set_cons_succ]
        refine wpAny_done (by kernel_rfl) ?_ _
        refine ⟨hko, hkp, ⟨_, hv2, ?_⟩, hB.trans hb2⟩
        rw [vals_snoc, flL_snoc, List.length_append, List.length_replicate, List.map_append, List.map_replicate, Int.toNat_natCast, HNL.out, ← HXV.out]
        exact hr2
      · go_simp
        refine (repeat_any r q W.heap.size 1 Wa hcr (by omega) hsa).mono ?_
        rintro e9 wm ⟨rfl, hom, hbm⟩
        have hBm : Below W.heap.size W wm := hBa.trans (hbm.mono hBa.size)
        have hcm2 : wm.cell? ⟨w.heap.size + 1, 0, none⟩ = some v := by rw [hBm.cell (p := ⟨w.heap.size + 1, 0, none⟩) hbx.lt]; exact hc
        refine hK _ _ ?_
        clear hK K
        try simp only [Act.put, List.setIfInBounds_toArray, List.set_cons_zero, List.set_cons_succ]
        refine wpAny_ready (rs := [0]) (by kernel_rfl) (by simp) ?_
        refine (AllReady.cons rfl (fun K hK => ?_) AllReady.nil)
        go_simp
        refine hK _ _ ?_
        clear hK K
        try simp only [Act.put, List.setIfInBounds_toArray, List.set_cons_zero, List.set_cons_succ]
        refine wpAny_ready (rs := [5]) (by kernel_rfl) (by simp) ?_
        refine (AllReady.cons rfl (fun K hK => ?_) AllReady.nil)
        try simp only [List.getElem_toArray, List.getElem_cons_succ, List.getElem_cons_zero]
        rw [if_pos (by kernel_rfl)]
        refine wp_append_whole (.tmp 10) (.tmp 14) 22 rfl w.heap.size 2 i0 (.int .i64 0) 8 Try.underlying22 hi0 hz0 hz1 hz2 rfl v N xsv rfl (HROW.out.kept (grown_of_below hBm none) (by cases v.ownBlock <;> simp)) ⟨Wa.heap.size, 0, none⟩ q q (List.replicate q (.int .i64 r)) rfl (by simp) ?_ (fun u hu => by rw [(List.mem_replicate.1 hu).2]; rfl) (by simp only [maxLen]; omega) (by omega) (by have := hBm.size; have := hB.size; omega) ?_
        · intro j u hj
          have hjl : j < q := by
            by_cases h5 : j < q
            · exact h5
            · rw [List.getElem?_eq_none (by simp; omega)] at hj; cases hj
          have h6 : u = .int .i64 r := by rw [List.getElem?_replicate] at hj; simp [hjl] at hj; exact hj.symm
          obtain ⟨g', e1, _, _, h7, _⟩ := own_at hom (by simp) hjl
          cases e1
          rw [add_lit, Nat.zero_add, h7, h6]
          simp [hjl]
        intro A1 cap1 w1 hown1 hgrow hfr
        obtain ⟨hv1, hko, hkp, hv2, hr2, hb2⟩ := seq_body hbx HROW.out hBm hgrow hown1 hfr hB.size (by omega)
        have hc1 := hv1.cell
        have hf1 := hv1.frozen
        refine hK _ _ ?_
        clear hK K
        try simp only [Act.put, List.setIfInBounds_toArray, List.set_cons_zero, List.set_cons_succ]
        refine wpAny_ready (rs := [6]) (by kernel_rfl) (by simp) ?_
        refine (AllReady.cons rfl (fun K hK => ?_) AllReady.nil)
        go_simp
        refine hK _ _ ?_
        clear hK K
        try simp only [Act.put, List.setIfInBounds_toArray, List.set_cons_zero, List.set_cons_succ]
        refine wpAny_done (by kernel_rfl) ?_ _
        refine ⟨hko, hkp, ⟨_, hv2, ?_⟩, hB.trans hb2⟩
        rw [vals_snoc, flL_snoc, List.length_append, List.length_replicate, List.map_append, List.map_replicate, Int.toNat_natCast, HNL.out, ← HXV.out]
        exact hr2
  case done =>
    rintro D xs W hD hxs ⟨⟨v, hbx, hrow⟩, hB⟩ hK
    have hc := hbx.cell
    rw [hxs] at hrow
    obtain ⟨A5, c5, rfl⟩ : ∃ A c, v = .slice A (flL (rsI zs)).length c := by
      rcases hrow.2 with ⟨rfl, h1⟩ | ⟨g, cap, cur, rfl, _⟩
      · exact ⟨none, 0, by rw [h1]⟩
      · exact ⟨_, _, rfl⟩
    have HROW := Lib.hid hrow
    clear hrow
    gi_wp2
    refine ⟨by simp, .inl ⟨_, _, rfl, run_takeDeferred hK, ?_⟩⟩
    refine ⟨_, results_tmp rfl _ _ _, A5, c5, rfl, OwnI.mk' (n := (flL (rsI zs)).length) (ownsRow_putObj HROW.out _ hK rfl), hB.trans (belowK_b (w := w) (Nat.le_refl _) W D _ _ (by omega) hK rfl rfl)⟩
  case stop =>
    rintro D c pre W _ _ h _
    exact h.elim
end Go.Proofs.Ytohbgfmjnanlkaa
/- The length of a sequence and the sequence, the model's: contracts. Conditions: stated at each theorem. -/
namespace Go.Proofs.Ytohbgfmjnanlkaa
open Go.ChangeShapes Go.WideShapes Go.ChangeAt Go.RowKit Go.Deep
set_option linter.unusedVariables false
set_option linter.unusedSimpArgs false

set_option maxHeartbeats 1000000 in
theorem l04Count_any (v : Value) (zs : List Int) (w : World) (h : ReadI w w.heap.size v zs) (hn : zs.length ≤ 1048576) (hp : brB zs = true) :
    Calls Try.prog 159 #[.agg #[v]] w fun e w' => e = .returned (.int .i64 (cntL (rsI zs))) ∧ Below w.heap.size w w' := by
  obtain ⟨n, A, c, rfl, hr, HL, _, hnc, HF, hcm⟩ := h.split2
  obtain ⟨W0, HE⟩ : ∃ W, W = w.alloc (.cells #[.slice A n c] 28) := ⟨_, rfl⟩
  have hb0 : Below w.heap.size w W0 := by rw [HE]; exact below_box _ _
  have H0 := Lib.hid ((h.below hb0).more hb0.size)
  have HNN := Lib.hid hn
  have HP := Lib.hid hp
  have HEQ := Lib.hid HE
  have HOK := Lib.hid (rsS_ok hp).1
  have HLN := (rsS_ok hp).2
  have HCE := Lib.hid (cnt_eq hp)
  clear h hr HE HF hn hp
  go_enter Try.func159, Try.ntmps159
  go_wp2_with fail
  rw [← HEQ.out]
  refine (l04Runs_any _ zs _ H0.out HNN.out HP.out).mono ?_
  rintro e w2 ⟨A2, c2, vf, rfl, ho, hb2⟩
  obtain ⟨N, HN⟩ : ∃ N, (rsS zs).length = N := ⟨_, rfl⟩
  have HQ := Lib.hid HN
  rw [HN] at ho HLN ⊢
  have HR := Lib.hid (steps_read HN ho)
  have HB := Lib.hid (hb0.trans (hb2.mono hb0.size))
  clear HN ho hb2 hb0 HEQ
  go_wp2_with fail
  go_loopw [4, 5] (fun vs vi wr => ∃ (j : Nat) (s : Int), j ≤ N ∧ vs = .int .i64 s ∧ vi = .int .i64 j ∧ Hid (cntL ((rsS zs).take j) = s) ∧ Hid (Below w2.heap.size w2 wr)) (fun _ vi _ => N - (intOf vi).toNat)
  case atStart => exact ⟨0, 0, by omega, rfl, rfl, Lib.hid rfl, Lib.hid (Below.refl _ _)⟩
  case round =>
    obtain ⟨j, s, hj, rfl, rfl, HS, hb⟩ := hrel
    have hsb : 0 ≤ s ∧ s ≤ 2000 * 130000 := by
      have h5 := cntL_bound (take_ok HOK.out j)
      rw [HS.out] at h5
      have h6 : ((rsS zs).take j).length ≤ 130000 := by rw [List.length_take]; omega
      omega
    by_cases hjn : j < N
    · obtain ⟨go, gi, ci, rfl, h1, c1, h2, c3, c4⟩ := HR.out j hjn
      have d1 := (hb.out.cell (p := ⟨go, j, none⟩) h1).trans c1
      have d2 := (hb.out.cell (p := ⟨gi, 0, none⟩) h2).trans c3
      have hx := at_ok HOK.out HQ.out hjn
      have HS2 : Hid (cntL ((rsS zs).take (j + 1)) = s + ((rsS zs)[j]?.getD (0, 0)).1) := Lib.hid (by rw [take_next HQ.out hjn, cntL_snoc, HS.out])
      clear c4
      generalize (rsS zs)[j]?.getD (0, 0) = x at d2 hx HS2 c3
      obtain ⟨q, r⟩ := x
      obtain ⟨⟨hx1, hx2⟩, hx3, hx4⟩ := hx
      dsimp only at *
      have hjq2 : (j : Int) < (N : Int) := by omega
      clear c1 c3 HS
      go_wp2_with fail
      go_roundw
      case rel => exact ⟨j + 1, _, by omega, rfl, by go_num, HS2, hb⟩
      case measure => simp [intOf]; omega
    · obtain rfl : j = N := by omega
      have hmx := @run_max_int2 Try.prog
      by_cases hs1 : s < 1
      · have E : Hid (cntL (rsI zs) = 1) := Lib.hid (by rw [HCE.out, ← take_all HQ.out, HS.out]; omega)
        clear HS
        go_wp2
        go_ret
        exact ⟨by rw [E.out]; rfl, HB.out.trans (hb.out.mono HB.out.size)⟩
      · have E : Hid (cntL (rsI zs) = s) := Lib.hid (by rw [HCE.out, ← take_all HQ.out, HS.out]; omega)
        clear HS
        go_wp2
        go_ret
        exact ⟨by rw [E.out]; rfl, HB.out.trans (hb.out.mono HB.out.size)⟩

theorem flL_take {L : List (Int × Int)} {n j : Nat} (hl : L.length = n) (h : j < n) : flL (L.take (j + 1)) = flL (L.take j) ++ List.replicate ((L[j]?.getD (0, 0)).1).toNat (L[j]?.getD (0, 0)).2 := by
  rw [take_next hl h, flL_snoc]
theorem rep_snoc (k : Nat) (r : Int) (X : List Int) : (X ++ List.replicate k r) ++ [r] = X ++ List.replicate (k + 1) r := by
  rw [List.append_assoc]; congr 1
  exact (List.replicate_succ' (n := k) (a := r)).symm
theorem flL_bound {L : List (Int × Int)} (h : ∀ p ∈ L, StOK p) (hl : L.length ≤ 130000) : (flL L).length ≤ 260000000 := by
  have h1 := flL_len h
  have h2 := cntL_bound h
  omega

end Go.Proofs.Ytohbgfmjnanlkaa
/- Codes and lists of long sequences, the model's and the program's: contracts. Conditions: stated at each theorem. -/
namespace Go.Proofs.Ytohbgfmjnanlkaa
open Go.ChangeShapes Go.WideShapes Go.ChangeAt Go.RowKit Go.Deep
set_option linter.unusedVariables false
set_option linter.unusedSimpArgs false

def lqC (zs : List Int) (m : Int) : Int := if brB zs then (if 0 ≤ m ∧ m ≤ 400 then (if 400 < cntL (rsI zs) + m then 3 else 0) else 2) else 1
def lqA (zs : List Int) (m : Int) : List Int := if lqC zs m = 0 then seqL zs ++ List.replicate m.toNat 1 else []
theorem lq_no {zs : List Int} {m : Int} (h : brB zs = false) : lqC zs m = 1 ∧ lqA zs m = [] := by simp [lqC, lqA, h]
theorem lq_out {zs : List Int} {m : Int} (h : brB zs = true) (h2 : ¬(0 ≤ m ∧ m ≤ 400)) : lqC zs m = 2 ∧ lqA zs m = [] := by simp only [lqC, lqA, h, if_true, if_neg h2]; simp
theorem lq_big {zs : List Int} {m : Int} (h : brB zs = true) (h2 : 0 ≤ m ∧ m ≤ 400) (h3 : 400 < cntL (rsI zs) + m) : lqC zs m = 3 ∧ lqA zs m = [] := by simp only [lqC, lqA, h, if_true, if_pos h2, if_pos h3]; simp
theorem lq_yes {zs : List Int} {m : Int} (h : brB zs = true) (h2 : 0 ≤ m ∧ m ≤ 400) (h3 : ¬ 400 < cntL (rsI zs) + m) : lqC zs m = 0 ∧ lqA zs m = seqL zs ++ List.replicate m.toNat 1 := by simp only [lqC, lqA, h, if_true, if_pos h2, if_neg h3]; simp
theorem lqA_len (zs : List Int) (m : Int) : (lqA zs m).length ≤ 400 := by
  unfold lqA
  split
  · rename_i h
    unfold lqC at h
    split at h
    · rename_i hp
      split at h
      · rename_i h2
        split at h
        · cases h
        · rename_i h3
          have h4 := (seq_len hp).1
          rw [List.length_append, List.length_replicate]
          omega
      · cases h
    · cases h
  · simp

end Go.Proofs.Ytohbgfmjnanlkaa
/- Long sequences and numbers of points, the model's and the program's: contracts. Conditions: stated at each theorem. -/
namespace Go.Proofs.Ytohbgfmjnanlkaa
open Go.ChangeShapes Go.WideShapes Go.ChangeAt Go.RowKit Go.Deep
set_option linter.unusedVariables false
set_option linter.unusedSimpArgs false

def cbA (zs : List Int) : Int := if brB zs then cntL (rsI zs) else 0
set_option maxRecDepth 100000 in
set_option maxHeartbeats 1000000 in
theorem implCountBranchPoints_any (v : Value) (zs : List Int) (w : World) (h : ReadI w w.heap.size v zs) (hn : zs.length ≤ 1048576) (hw : ∀ z ∈ zs, (Lit.int .i64 z).wf = true) :
    Calls Try.prog 160 #[.agg #[v]] w (AnsII w (cbA zs) (sqC zs)) := by
  obtain ⟨n, A, c, rfl, hr, HL, _, hnc, HF, hcm⟩ := h.split2
  obtain ⟨W0, HE⟩ : ∃ W, W = w.alloc (.cells #[.slice A n c] 28) := ⟨_, rfl⟩
  have hb0 : Below w.heap.size w W0 := by rw [HE]; exact below_box _ _
  have hq0 : BoxI W0 w.heap.size (.slice A n c) := by rw [HE]; exact BoxI.new _ _ _
  have H0 := Lib.hid ((h.below hb0).more hb0.size)
  have HNN := Lib.hid hn
  have HWW := Lib.hid hw
  have HEQ := Lib.hid HE
  clear h hr HE HF hn hw
  rcases bool_fs (brB zs) with hp | hp
  · have e1 : Hid (cbA zs = 0) := Lib.hid (by simp [cbA, hp])
    have e2 : Hid (sqC zs = 1) := Lib.hid (by simp [sqC, hp])
    have HP := Lib.hid hp
    clear hp
    go_enter Try.func160, Try.ntmps160
    go_wp2_with fail
    rw [← HEQ.out]
    refine (implIsBranch_if _ zs _ false H0.out HNN.out HWW.out HP.out).mono ?_
    rintro e w1 ⟨rfl, hb1⟩
    go_wp2_with fail
    go_ret2
    exact ⟨by rw [e1.out, e2.out]; rfl, hb0.trans (hb1.mono hb0.size)⟩
  · have e1 : Hid (cbA zs = cntL (rsI zs)) := Lib.hid (by simp [cbA, hp])
    have e2 : Hid (sqC zs = 0) := Lib.hid (by simp [sqC, hp])
    have HP := Lib.hid hp
    have hlen := Lib.hid (seq_len hp).1
    clear hp
    go_enter Try.func160, Try.ntmps160
    go_wp2_with fail
    rw [← HEQ.out]
    refine (implIsBranch_if _ zs _ true H0.out HNN.out HWW.out HP.out).mono ?_
    rintro e w1 ⟨rfl, hb1⟩
    have cb1 : w1.cell? ⟨w.heap.size, 0, none⟩ = some (.slice A n c) := by rw [hb1.cell (p := ⟨w.heap.size, 0, none⟩) hq0.2]; exact hq0.1
    have H1 := Lib.hid ((H0.out.below hb1).more hb1.size)
    have B1 := Lib.hid (hb0.trans (hb1.mono hb0.size))
    clear hb1 hb0 HEQ
    go_wp2_with fail
    refine (sequence_any _ zs _ H1.out HNN.out HP.out).mono ?_
    rintro e w2 ⟨A2, c2, rfl, ho2, hb2⟩
    go_wp2_with fail
    go_ret2
    exact ⟨by rw [e1.out, e2.out, ← hlen.out]; rfl, B1.out.trans (hb2.mono B1.out.size)⟩

end Go.Proofs.Ytohbgfmjnanlkaa
/- Blocks of the sequence of a branch, the model's and the program's: contracts. Conditions: stated at each theorem. -/
namespace Go.Proofs.Ytohbgfmjnanlkaa
open Go.ChangeShapes Go.WideShapes Go.ChangeAt Go.RowKit Go.Deep
set_option linter.unusedVariables false
set_option linter.unusedSimpArgs false

/-- A list of lists of the call's own behind a call that turns nothing. -/
theorem ownQ_more {w w' : World} {lo : Nat} {v : Value} {L : List (List Int)} (h : OwnQ w lo w.heap.size v L) (hb : Below w.heap.size w w') : OwnQ w' lo w'.heap.size v L := by
  obtain ⟨us, ls, hs, r1, r2, r3, r4, r5⟩ := h.kept (Kept.of_below hb (Nat.le_refl _))
  exact ⟨us, ls, hs, r1, fun k hk => ⟨by have := (r2 k hk).1; omega, (r2 k hk).2⟩, Nat.le_refl _, fun i hi => ⟨(r4 i hi).1, by have := (r4 i hi).2.1; omega, (r4 i hi).2.2⟩, r5⟩
def blA (zs : List Int) : List (List Int) := if lqC zs 0 = 0 then bkQ (seqL zs) else []
theorem ownQ_nil (w : World) (lo : Nat) : OwnQ w lo w.heap.size (.slice none 0 0) [] :=
  ⟨[], fun _ => 0, fun _ => 0, World.ownsRow_nil _ _ _ _, fun k hk => (by cases hk), Nat.le_refl _, fun i hi => (by simp at hi), fun i j _ hj => (by simp at hj)⟩
theorem AnsQC.none' {w w' : World} {L : List (List Int)} {C D : Int} (h1 : [] = L) (h2 : D = C) (hb : Below w.heap.size w w') : AnsQC w L C (.returned (.tuple #[.slice none 0 0, .int .i64 D])) w' := by
  subst h1; subst h2; exact ⟨_, rfl, ownQ_nil _ _, hb⟩
theorem AnsQC.some' {w w' : World} {L M : List (List Int)} {C D : Int} {v : Value} (h1 : M = L) (h2 : D = C) (ho : OwnQ w' w.heap.size w'.heap.size v M) (hb : Below w.heap.size w w') : AnsQC w L C (.returned (.tuple #[v, .int .i64 D])) w' := by
  subst h1; subst h2; exact ⟨_, rfl, ho, hb⟩
theorem rows_lessR {w : World} {lo lo' hi : Nat} {v : Value} {L : List (List Int)} (h : OwnQ w lo hi v L) (hl : lo' ≤ lo) : OwnQ w lo' hi v L := by
  obtain ⟨us, ls, hs, r1, r2, r3, r4, r5⟩ := h
  exact ⟨us, ls, hs, own_lessR r1 hl, r2, r3, fun i hi => ⟨by have := (r4 i hi).1; omega, (r4 i hi).2⟩, r5⟩
theorem lq0_yes {zs : List Int} (h : lqC zs 0 = 0) : brB zs = true ∧ lqA zs 0 = seqL zs ∧ (seqL zs).length ≤ 400 ∧ 0 < (seqL zs).length := by
  have hp : brB zs = true := by
    rcases bool_fs (brB zs) with hp | hp
    · rw [(lq_no hp).1] at h; cases h
    · exact hp
  have e1 : lqA zs 0 = seqL zs := by rw [lqA, if_pos h]; simp
  have h2 := lqA_len zs 0
  rw [e1] at h2
  have h3 := (seq_len hp).1
  rw [cnt_eq hp] at h3
  exact ⟨hp, e1, h2, by omega⟩
theorem bkQ_lead (z : Int) (r : List Int) : bkQ (z :: r) = [[z, ((lead z (z :: r) : Nat) : Int)]] ++ bkQ ((z :: r).drop (lead z (z :: r))) := by
  have e : lead z (z :: r) = lead z r + 1 := by simp [lead]
  rw [e, List.drop_succ_cons, bkQ, bk_lead r z]
  simp [bkQ]

theorem sumTo_two (f : Nat → Nat) (h : ∀ i, f i ≤ 2) : ∀ n, sumTo f n ≤ 2 * n
  | 0 => by simp [sumTo]
  | n + 1 => by have := sumTo_two f h n; have := h n; simp only [sumTo]; omega
theorem blA_sz (zs : List Int) : szTot (blA zs) ≤ 549755813888 := by
  unfold blA
  split
  · rename_i h
    have h1 := (lq0_yes h).2.2.1
    have h2 := (bk_bound (seqL zs)).1
    have h3 : (bkQ (seqL zs)).length ≤ 400 := by rw [bkQ, List.length_map]; omega
    have h4 := sumTo_two (lens (bkQ (seqL zs))) (fun i => lens_all (B := 2) (fun l hl => by obtain ⟨p, _, rfl⟩ := List.mem_map.1 hl; simp) i) (bkQ (seqL zs)).length
    unfold szTot; omega
  · simp [szTot, sumTo]
end Go.Proofs.Ytohbgfmjnanlkaa
