/- t^k in place of t, the model's and the program's way: contracts of spec.l02Spread and impl.withPower. Conditions: stated at each theorem. -/
import Derived.Test.YtbipihamkfifjaaTrim
namespace Go.Proofs.Ytbipihamkfifjaa
open Go.ChangeShapes Go.WideShapes Go.ChangeAt Go.RowKit
set_option linter.unusedVariables false

theorem row_own {w : World} {g n lo : Nat} {f : Nat → Value} {zs : List Int} (h : w.rowIs g 2 n f) (hl : zs.length = n) (hf : ∀ i, i < n → f i = .int .i64 (zs.getD i 0)) (hlo : lo ≤ g) (hn : n ≤ 9223372036854775807) :
    OwnI w lo w.heap.size (.slice (some ⟨g, 0, none⟩) n n) zs := by
  obtain ⟨cs, h1, h2, h3⟩ := h
  refine OwnI.mk' (n := n) ⟨by simp [hl], .inr ⟨g, n, cs, rfl, hlo, h1, Nat.le_refl _, by unfold maxLen; omega, by omega, ?_⟩⟩
  apply List.ext_getElem?
  intro i
  by_cases hi : i < n
  · have := h3 i hi
    simp only [Nat.mul_one, List.getElem?_take, hi, if_true, Array.getElem?_toList, this, hf i hi]
    simp [hl, hi]
  · rw [List.getElem?_eq_none (by simp; omega), List.getElem?_eq_none (by simp; omega)]
theorem spread_len {p : List Int} {n k : Nat} (hl : p.length = n) (h0 : 0 < n) : (spreadL p k).length = (n - 1) * k + 1 := by
  subst hl
  unfold spreadL
  rw [if_neg (by rintro rfl; simp at h0)]; simp
theorem spread_nil {p : List Int} (k : Nat) (h : p.length = 0) : spreadL p k = [] := by
  rw [List.eq_nil_of_length_eq_zero h]; simp [spreadL]
theorem spread_at {p : List Int} {n k x : Nat} (hl : p.length = n) (h0 : 0 < n) (hx : x < (n - 1) * k + 1) : (spreadL p k).getD x 0 = if x % k = 0 then p.getD (x / k) 0 else 0 := by
  subst hl
  unfold spreadL
  rw [if_neg (by rintro rfl; simp at h0)]; simp [List.getD, hx]
theorem spread_val {p : List Int} {n k x : Nat} (hl : p.length = n) (h0 : 0 < n) (hx : x < (n - 1) * k + 1) :
    (if x % k = 0 ∧ x / k < n then Value.int .i64 (p.getD (x / k) 0) else .int .i64 0) = .int .i64 ((spreadL p k).getD x 0) := by
  rw [spread_at hl h0 hx]
  by_cases h1 : x % k = 0
  · by_cases h2 : x / k < n
    · rw [if_pos ⟨h1, h2⟩, if_pos h1]
    · rw [if_neg (fun h => h2 h.2), if_pos h1, getD_opt, List.getElem?_eq_none (by omega)]; rfl
  · rw [if_neg (fun h => h1 h.1), if_neg h1]
theorem spread_step {k i x : Nat} (hk : 0 < k) (h : x ≠ i * k) : (x % k = 0 ∧ x / k < i + 1) ↔ (x % k = 0 ∧ x / k < i) := by
  constructor
  · rintro ⟨h1, h2⟩
    refine ⟨h1, ?_⟩
    have h3 := Nat.div_add_mod x k
    by_cases e : x / k = i
    · exfalso; apply h; rw [h1, e, Nat.mul_comm] at h3; omega
    · omega
  · rintro ⟨h1, h2⟩; exact ⟨h1, by omega⟩
theorem spread_in {n k i : Nat} (hi : i < n) : i * k < (n - 1) * k + 1 := by
  have : i * k ≤ (n - 1) * k := Nat.mul_le_mul_right k (by omega)
  omega
theorem spread_size {n k : Nat} (h0 : 0 < n) : (((n - 1) * k + 1 : Nat) : Int) = ((n : Int) - 1) * (k : Int) + 1 := by
  rw [Int.natCast_add, Int.natCast_mul, Int.natCast_sub (by omega)]; rfl

set_option maxRecDepth 100000 in
theorem l02Spread_any (v : Value) (p : List Int) (k : Nat) (w : World) (B : Nat) (h : ReadI w B v p) (hn : p.length ≤ 1048576) (hB : B ≤ w.heap.size) (hk : 1 ≤ k) (hk2 : k ≤ 1048576) (hN : (p.length - 1) * k + 1 ≤ 1099511627776) :
    Calls Try.prog 99 #[v, .int .i64 (k : Int)] w fun e w' => ∃ v', e = .returned v' ∧ OwnI w' w.heap.size w'.heap.size v' (spreadL p k) ∧ Below w.heap.size w w' := by
  obtain ⟨n, A, c, rfl, hr, HL⟩ := h.split
  rw [HL.out] at hn hN
  have H0 := Lib.hid hr
  have S0 := Lib.hid hB
  clear hr h hB
  by_cases h0 : n = 0
  · subst h0
    have Z := Lib.hid (spread_nil k HL.out)
    clear hN
    go_enter Try.func99, Try.ntmps99
    go_wp2
    go_ret
    exact ⟨_, rfl, by rw [Z.out]; exact OwnI.mk' (n := 0) (World.ownsRow_made w #[] 0 (Nat.le_refl _) (by unfold maxLen; omega) rfl), (Below.refl _ _).alloc (Nat.le_refl _) _⟩
  obtain ⟨N, hNe⟩ : ∃ N, N = (n - 1) * k + 1 := ⟨_, rfl⟩
  have HN := Lib.hid hNe
  have hsz := spread_size (k := k) (show 0 < n by omega)
  rw [← hNe] at hN hsz
  have hN1 : (N : Int) ≤ 1099511627776 := by omega
  have hmk := fun (W : World) => run_make_row' (P := Try.prog) 29 2 (.int .i64 0) 8 Try.underlying29 int_info rfl .i64 .i64 N (by omega) (by omega) W
  have hb1 : 0 ≤ ((n : Int) - 1) * (k : Int) ∧ ((n : Int) - 1) * (k : Int) + 1 ≤ 1099511627776 := by
    rw [← hsz]; exact ⟨by omega, hN1⟩
  simp only [hsz] at hmk
  have T : ((n : Int) == 0) = false := by simp; omega
  have hn1 : (1 : Int) ≤ (n : Int) := by omega
  have HSZ := Lib.hid hsz
  have hn0 : 0 < n := by omega
  clear hNe hsz hN hN1 h0
  go_enter Try.func99, Try.ntmps99
  go_wp2
  clear hmk
  go_loopw [6] (fun vi wr => ∃ i : Nat, i ≤ n ∧ vi = .int .i64 i ∧ Hid (wr.rowIs w.heap.size 2 N (fun x => if x % k = 0 ∧ x / k < i then .int .i64 (p.getD (x / k) 0) else .int .i64 0)) ∧ Hid (Below w.heap.size w wr)) (fun vi _ => n - (intOf vi).toNat)
  case atStart => exact ⟨0, by omega, rfl, Lib.hid ((World.rowIs_made w _ N _).congr (fun i hi => by simp)), Lib.hid ((Below.refl _ _).alloc (Nat.le_refl _) _)⟩
  case round =>
    obtain ⟨i, hi, rfl, hrow, hb⟩ := hrel
    by_cases hlt : i < n
    · obtain ⟨a, rfl, hab, hcell⟩ := H0.out.2 i hlt
      have hcell' : wr.cell? (a.add i) = some (.int .i64 (p[i]?.getD 0)) := by rw [hb.out.cell (by rw [add_block]; have := S0.out; omega)]; simpa using hcell
      have hx : i * k < N := by rw [HN.out]; exact spread_in hlt
      have hdst := hrow.out.cell hx
      have hdiv : i * k / k = i := Nat.mul_div_cancel i (by omega)
      simp only [hdiv, Nat.lt_irrefl, and_false, if_false] at hdst
      have hfz := hrow.out.frozen (i * k)
      have hx0 : (0 : Int) ≤ (i : Int) * (k : Int) := Int.mul_nonneg (by omega) (by omega)
      have hx1 : (i : Int) * (k : Int) < (N : Int) := by rw [← Int.natCast_mul]; omega
      have hx3 : (N : Int) ≤ 1099511627776 := by have := HSZ.out; omega
      have hx2 : ((i : Int) * (k : Int)).toNat = i * k := by rw [← Int.natCast_mul]; rfl
      have HD := Lib.hid hdiv
      clear hcell hdiv
      have HX : (i : Int) * (k : Int) < ((n : Int) - 1) * (k : Int) + 1 := by rw [← HSZ.out]; exact hx1
      go_wp2
      go_roundw
      case rel =>
        refine ⟨i + 1, by omega, by go_num, Lib.hid ((hrow.out.set (i * k) _).congr fun x hx => ?_), Lib.hid (hb.out.setCell (Nat.le_refl _) _)⟩
        by_cases e : x = i * k
        · subst e; rw [if_pos rfl, if_pos ⟨Nat.mul_mod_left i k, by rw [HD.out]; omega⟩, HD.out, getD_opt]
        · rw [if_neg e]
          by_cases e2 : x % k = 0 ∧ x / k < i
          · rw [if_pos e2, if_pos ((spread_step (by omega) e).2 e2)]
          · rw [if_neg e2, if_neg (fun h => e2 ((spread_step (by omega) e).1 h))]
      case measure => simp [intOf]; omega
    · obtain rfl : i = n := by omega
      have HNL : Hid ((spreadL p k).length = N) := Lib.hid (by rw [spread_len HL.out hn0, HN.out])
      go_wp2
      go_ret
      exact ⟨_, rfl, row_own hrow.out HNL.out (fun x hx => spread_val HL.out hn0 (by rw [← HN.out]; exact hx)) (Nat.le_refl _) (by have := HSZ.out; omega), hb.out⟩

set_option maxRecDepth 100000 in
theorem withPower_any (v : Value) (p : List Int) (k : Nat) (w : World) (B : Nat) (h : ReadI w B v p) (hn : p.length ≤ 1048576) (hB : B ≤ w.heap.size) (hk : 1 ≤ k) (hk2 : k ≤ 1048576) (hN : (p.length - 1) * k + 1 ≤ 1099511627776) :
    Calls Try.prog 100 #[v, .int .i64 (k : Int)] w fun e w' => ∃ v', e = .returned v' ∧ OwnI w' w.heap.size w'.heap.size v' (spreadL p k) ∧ Below w.heap.size w w' := by
  obtain ⟨n, A, c, rfl, hr, HL⟩ := h.split
  rw [HL.out] at hn hN
  have H0 := Lib.hid hr
  have S0 := Lib.hid hB
  clear hr h hB
  by_cases h0 : n = 0
  · subst h0
    have Z := Lib.hid (spread_nil k HL.out)
    clear hN
    go_enter Try.func100, Try.ntmps100
    go_wp2
    go_ret
    exact ⟨_, rfl, by rw [Z.out]; exact OwnI.nil _ _, Below.refl _ _⟩
  obtain ⟨N, hNe⟩ : ∃ N, N = (n - 1) * k + 1 := ⟨_, rfl⟩
  have HN := Lib.hid hNe
  have hsz := spread_size (k := k) (show 0 < n by omega)
  rw [← hNe] at hN hsz
  have hN1 : (N : Int) ≤ 1099511627776 := by omega
  have hmk := fun (W : World) => run_make_row' (P := Try.prog) 29 2 (.int .i64 0) 8 Try.underlying29 int_info rfl .i64 .i64 N (by omega) (by omega) W
  have hb1 : 0 ≤ ((n : Int) - 1) * (k : Int) ∧ ((n : Int) - 1) * (k : Int) + 1 ≤ 1099511627776 := by
    rw [← hsz]; exact ⟨by omega, hN1⟩
  simp only [hsz] at hmk
  have T : ((n : Int) == 0) = false := by simp; omega
  have hn1 : (1 : Int) ≤ (n : Int) := by omega
  have HSZ := Lib.hid hsz
  have hn0 : 0 < n := by omega
  clear hNe hsz hN hN1 h0
  go_enter Try.func100, Try.ntmps100
  go_wp2
  clear hmk
  go_loopw [20] (fun vi wr => ∃ i : Nat, i ≤ n ∧ vi = .int .i64 i ∧ Hid (wr.rowIs w.heap.size 2 N (fun x => if x % k = 0 ∧ x / k < i then .int .i64 (p.getD (x / k) 0) else .int .i64 0)) ∧ Hid (Below w.heap.size w wr)) (fun vi _ => n - (intOf vi).toNat)
  case atStart => exact ⟨0, by omega, rfl, Lib.hid ((World.rowIs_made w _ N _).congr (fun i hi => by simp)), Lib.hid ((Below.refl _ _).alloc (Nat.le_refl _) _)⟩
  case round =>
    obtain ⟨i, hi, rfl, hrow, hb⟩ := hrel
    by_cases hlt : i < n
    · obtain ⟨a, rfl, hab, hcell⟩ := H0.out.2 i hlt
      have hcell' : wr.cell? (a.add i) = some (.int .i64 (p[i]?.getD 0)) := by rw [hb.out.cell (by rw [add_block]; have := S0.out; omega)]; simpa using hcell
      have hx : i * k < N := by rw [HN.out]; exact spread_in hlt
      have hdst := hrow.out.cell hx
      have hdiv : i * k / k = i := Nat.mul_div_cancel i (by omega)
      simp only [hdiv, Nat.lt_irrefl, and_false, if_false] at hdst
      have hfz := hrow.out.frozen (i * k)
      have hx0 : (0 : Int) ≤ (i : Int) * (k : Int) := Int.mul_nonneg (by omega) (by omega)
      have hx1 : (i : Int) * (k : Int) < (N : Int) := by rw [← Int.natCast_mul]; omega
      have hx3 : (N : Int) ≤ 1099511627776 := by have := HSZ.out; omega
      have hx2 : ((i : Int) * (k : Int)).toNat = i * k := by rw [← Int.natCast_mul]; rfl
      have HD := Lib.hid hdiv
      clear hcell hdiv
      have HX : (i : Int) * (k : Int) < ((n : Int) - 1) * (k : Int) + 1 := by rw [← HSZ.out]; exact hx1
      go_wp2
      go_roundw
      case rel =>
        refine ⟨i + 1, by omega, by go_num, Lib.hid ((hrow.out.set (i * k) _).congr fun x hx => ?_), Lib.hid (hb.out.setCell (Nat.le_refl _) _)⟩
        by_cases e : x = i * k
        · subst e; rw [if_pos rfl, if_pos ⟨Nat.mul_mod_left i k, by rw [HD.out]; omega⟩, HD.out, getD_opt]
        · rw [if_neg e]
          by_cases e2 : x % k = 0 ∧ x / k < i
          · rw [if_pos e2, if_pos ((spread_step (by omega) e).2 e2)]
          · rw [if_neg e2, if_neg (fun h => e2 ((spread_step (by omega) e).1 h))]
      case measure => simp [intOf]; omega
    · obtain rfl : i = n := by omega
      have HNL : Hid ((spreadL p k).length = N) := Lib.hid (by rw [spread_len HL.out hn0, HN.out])
      go_wp2
      go_ret
      exact ⟨_, rfl, row_own hrow.out HNL.out (fun x hx => spread_val HL.out hn0 (by rw [← HN.out]; exact hx)) (Nat.le_refl _) (by have := HSZ.out; omega), hb.out⟩
end Go.Proofs.Ytbipihamkfifjaa
