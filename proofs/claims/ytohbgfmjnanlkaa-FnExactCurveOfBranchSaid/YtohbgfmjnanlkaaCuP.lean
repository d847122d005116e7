/- The greatest number of a list, equality of lists, sums of products: contracts. Conditions: stated at each theorem. -/
import Derived.Test.YtohbgfmjnanlkaaCuM
import Derived.Test.YtohbgfmjnanlkaaZC
import Derived.Test.YtohbgfmjnanlkaaPtW
namespace Go.Proofs.Ytohbgfmjnanlkaa
open Go.ChangeShapes Go.WideShapes Go.ChangeAt Go.RowKit Go.Deep
set_option linter.unusedVariables false
set_option linter.unusedSimpArgs false

set_option maxRecDepth 100000 in
set_option maxHeartbeats 1000000 in
theorem equalU_any (v u : Value) (p q : List Int) (w : World) (B B' : Nat) (hp : ReadI w B v p) (hq : ReadI w B' u q) (hn : p.length ≤ 1048576) (hm : q.length ≤ 1048576) (hwp : ∀ z ∈ p, (Lit.int .i64 z).wf = true) (hwq : ∀ z ∈ q, (Lit.int .i64 z).wf = true) :
    Calls Try.prog 126 #[v, u] w fun e w' => e = .returned (.bool (decide (p = q))) ∧ ∃ m, w' = w.drewN m := by
  obtain ⟨n, A, c, rfl, hr, HL⟩ := hp.split
  obtain ⟨m, A1, c1, rfl, hr1, HL1⟩ := hq.split
  rw [HL.out] at hn
  rw [HL1.out] at hm
  have H0 := Lib.hid hr
  have H1 := Lib.hid hr1
  have W0 := Lib.hid hwp
  have W1 := Lib.hid hwq
  clear hr hr1 hp hq hwp hwq
  obtain ⟨b, hb⟩ : ∃ b, b = decide (p = q) := ⟨_, rfl⟩
  rw [← hb]
  have HB := Lib.hid hb
  clear hb
  by_cases hnm : n = m
  rotate_left
  · have R : Hid (false = b) := Lib.hid (by rw [HB.out, same_len HL.out HL1.out hnm])
    have T : ((n : Int) == (m : Int)) = false := by simp; omega
    have T2 : ((n : Int) != (m : Int)) = true := by simp; omega
    clear hnm
    go_enter Try.func126, Try.ntmps126
    go_wp2
    go_ret
    exact ⟨ret_bool R.out, 0, rfl⟩
  subst hnm
  go_enter Try.func126, Try.ntmps126
  go_wp2
  go_loopw [13] (fun i wr => ∃ (k d : Nat), k ≤ n ∧ i = .int .i64 k ∧ wr = w.drewN d ∧ Hid (p.take k = q.take k)) (fun i _ => n - (intOf i).toNat)
  case atStart => exact ⟨0, 0, by omega, rfl, rfl, Lib.hid rfl⟩
  case round =>
    obtain ⟨k, d, hk, rfl, rfl, ht⟩ := hrel
    by_cases hlt : k < n
    · obtain ⟨a, rfl, _, hcell⟩ := H0.out.2 k hlt
      obtain ⟨a', rfl, _, hcell'⟩ := H1.out.2 k hlt
      rw [getD_opt] at hcell hcell'
      have hk0 : (0 : Int) ≤ (k : Int) := Int.natCast_nonneg _
      have hk1 : (k : Int) < (n : Int) := by omega
      by_cases he : p[k]?.getD 0 = q[k]?.getD 0
      · have HT : Hid (p.take (k + 1) = q.take (k + 1)) := Lib.hid (take_nextS HL.out HL1.out hlt ht.out he)
        have T : ((p[k]?.getD 0 : Int) != q[k]?.getD 0) = false := by simp [he]
        rw [he] at hcell
        clear he T
        go_wp2
        go_quiet (fail)
        go_wp2
        go_roundw
        case rel => exact ⟨k + 1, d + nq, by omega, by go_num, rfl, HT⟩
        case measure => simp [intOf]; omega
      · have R : Hid (false = b) := Lib.hid (by rw [HB.out, same_not he])
        have T : ((p[k]?.getD 0 : Int) != q[k]?.getD 0) = true := by simp [he]
        clear he
        go_wp2
        go_quiet (fail)
        go_wp2
        go_ret
        exact ⟨ret_bool R.out, d + nq, World.drewN_drewN _ _ _⟩
    · obtain rfl : k = n := by omega
      have R : Hid (true = b) := Lib.hid (by rw [HB.out, same_all HL.out HL1.out ht.out])
      go_wp2
      go_ret
      exact ⟨ret_bool R.out, d, rfl⟩

/-- The sum of the first n products. -/
def dotN (V W : List Int) : Nat → Int
  | 0 => 0
  | n + 1 => dotN V W n + V[n]?.getD 0 * W[n]?.getD 0
theorem mul_rngN {x y : Int} (hx : 1 ≤ x ∧ x ≤ 64) (hy : 1 ≤ y ∧ y ≤ 64) : 0 ≤ x * y ∧ x * y ≤ 4096 := by
  have h1 := Int.mul_nonneg (show 0 ≤ x by omega) (show 0 ≤ y by omega)
  have h2 := Int.mul_le_mul_of_nonneg_right hx.2 (show 0 ≤ y by omega)
  omega
theorem dot_rng {V W : List Int} {n : Nat} (h : ∀ i, i < n → (1 ≤ V[i]?.getD 0 ∧ V[i]?.getD 0 ≤ 64) ∧ (1 ≤ W[i]?.getD 0 ∧ W[i]?.getD 0 ≤ 64)) : ∀ t, t ≤ n → 0 ≤ dotN V W t ∧ dotN V W t ≤ 4096 * t
  | 0, _ => by simp [dotN]
  | t + 1, ht => by
    have h1 := dot_rng h t (by omega)
    have h2 := mul_rngN (h t (by omega)).1 (h t (by omega)).2
    show 0 ≤ dotN V W t + V[t]?.getD 0 * W[t]?.getD 0 ∧ dotN V W t + V[t]?.getD 0 * W[t]?.getD 0 ≤ 4096 * ((t + 1 : Nat) : Int)
    push_cast; omega
theorem dotN_comm (V W : List Int) : ∀ n, dotN V W n = dotN W V n
  | 0 => rfl
  | n + 1 => by show dotN V W n + V[n]?.getD 0 * W[n]?.getD 0 = dotN W V n + W[n]?.getD 0 * V[n]?.getD 0; rw [dotN_comm V W n, Int.mul_comm]
theorem dotN_congr {V W V' W' : List Int} : ∀ n, (∀ i, i < n → V[i]?.getD 0 = V'[i]?.getD 0 ∧ W[i]?.getD 0 = W'[i]?.getD 0) → dotN V W n = dotN V' W' n
  | 0, _ => rfl
  | n + 1, h => by show dotN V W n + V[n]?.getD 0 * W[n]?.getD 0 = dotN V' W' n + V'[n]?.getD 0 * W'[n]?.getD 0; rw [dotN_congr n (fun i hi => h i (by omega)), (h n (by omega)).1, (h n (by omega)).2]
theorem cells_ofU {w : World} {B n c : Nat} {A : Option Addr} {zs : List Int} (h : ReadI w B (.slice A n c) zs) (hl : zs.length = n) (hn : 1 ≤ n) : ∃ g o, A = some ⟨g, o, none⟩ ∧ Hid (∀ k, k < n → w.cell? ⟨g, o + k, none⟩ = some (.int .i64 (zs[k]?.getD 0))) ∧ g < B := by
  subst hl
  obtain ⟨A', c', e, h1, h2, h3, h4, h5⟩ := h
  cases e
  obtain ⟨a, ea, hlt, hc0⟩ := h1.2 0 (by omega)
  obtain ⟨g, o, e2⟩ := h4 a ea
  subst e2; subst ea
  refine ⟨g, o, rfl, Lib.hid fun k hk => ?_, hlt⟩
  obtain ⟨a', e3, _, hck⟩ := h1.2 k hk
  cases e3
  rw [add_lit] at hck
  simpa using hck

set_option maxRecDepth 100000 in
set_option maxHeartbeats 4000000 in
theorem implDot_any (v u : Value) (V W : List Int) (n : Nat) (w : World) (B B' : Nat) (hv : ReadI w B v V) (hu : ReadI w B' u W) (hl : V.length = n) (hm : W.length = n) (hn1 : 1 ≤ n) (hn : n ≤ 400) (hb : ∀ i, i < n → (1 ≤ V[i]?.getD 0 ∧ V[i]?.getD 0 ≤ 64) ∧ (1 ≤ W[i]?.getD 0 ∧ W[i]?.getD 0 ≤ 64)) :
    Calls Try.prog 68 #[v, u] w fun e w' => e = .returned (.int .i64 (dotN V W n)) ∧ ∃ m, w' = w.drewN m := by
  obtain ⟨A, c, rfl, _⟩ := id hv
  obtain ⟨A', c', rfl, _⟩ := id hu
  rw [hl] at hv ⊢
  rw [hm] at hu ⊢
  obtain ⟨g, o, rfl, H, _⟩ := cells_ofU hv hl hn1
  obtain ⟨g', o', rfl, H', _⟩ := cells_ofU hu hm hn1
  have HR := Lib.hid (dot_rng hb)
  have HV := Lib.hid hb
  clear hv hu hl hm hb
  go_enter Try.func68, Try.ntmps68
  go_wp2_with fail
  go_loopw [5, 10] (fun vs vi wr => ∃ (k d : Nat), k ≤ n ∧ vs = .int .i64 (dotN V W k) ∧ vi = .int .i64 k ∧ wr = w.drewN d) (fun _ vi _ => n - (intOf vi).toNat)
  case atStart => exact ⟨0, 0, by omega, rfl, rfl, rfl⟩
  case round =>
    obtain ⟨k, d, hk, rfl, rfl, rfl⟩ := hrel
    by_cases hkn : k < n
    · have hkn2 : (k : Int) < (n : Int) := by omega
      have d1 := H.out k hkn
      have d2 := H'.out k hkn
      have hr := HR.out k hk
      have hp := mul_rngN (HV.out k hkn).1 (HV.out k hkn).2
      have HNX : Hid (dotN V W (k + 1) = dotN V W k + V[k]?.getD 0 * W[k]?.getD 0) := Lib.hid rfl
      obtain ⟨s, hs⟩ : ∃ s, dotN V W k = s := ⟨_, rfl⟩
      obtain ⟨x, hx⟩ : ∃ s, V[k]?.getD 0 = s := ⟨_, rfl⟩
      obtain ⟨y, hy⟩ : ∃ s, W[k]?.getD 0 = s := ⟨_, rfl⟩
      rw [hs] at hr HNX ⊢
      rw [hx] at d1 hp HNX
      rw [hy] at d2 hp HNX
      have p1 : IntKind.i64.wrap (x * y) = x * y := IntWalk.i64_in _ (by omega)
      have p2 : IntKind.i64.wrap (s + x * y) = s + x * y := IntWalk.i64_in _ (by omega)
      clear hs hx hy hr hp
      go_wp2_with fail
      go_roundw
      case rel => exact ⟨k + 1, _, by omega, by rw [HNX.out], by go_num, rfl⟩
      case measure => simp [intOf]; omega
    · obtain rfl : k = n := by omega
      go_wp2_with fail
      go_ret
      exact ⟨rfl, _, rfl⟩

set_option maxRecDepth 100000 in
set_option maxHeartbeats 4000000 in
theorem specDot_any (v u : Value) (V W : List Int) (n : Nat) (w : World) (B B' : Nat) (hv : ReadI w B v V) (hu : ReadI w B' u W) (hl : V.length = n) (hm : W.length = n) (hn1 : 1 ≤ n) (hn : n ≤ 400) (hb : ∀ i, i < n → (1 ≤ V[i]?.getD 0 ∧ V[i]?.getD 0 ≤ 64) ∧ (1 ≤ W[i]?.getD 0 ∧ W[i]?.getD 0 ≤ 64)) :
    Calls Try.prog 71 #[v, u] w fun e w' => e = .returned (.int .i64 (dotN V W n)) ∧ ∃ m, w' = w.drewN m := by
  obtain ⟨A, c, rfl, _⟩ := id hv
  obtain ⟨A', c', rfl, _⟩ := id hu
  rw [hl] at hv ⊢
  rw [hm] at hu ⊢
  obtain ⟨g, o, rfl, H, _⟩ := cells_ofU hv hl hn1
  obtain ⟨g', o', rfl, H', _⟩ := cells_ofU hu hm hn1
  have HR := Lib.hid (dot_rng hb)
  have HV := Lib.hid hb
  clear hv hu hl hm hb
  go_enter Try.func71, Try.ntmps71
  go_wp2_with fail
  go_loopw [5, 6] (fun vs vi wr => ∃ (k d : Nat), k ≤ n ∧ vs = .int .i64 (dotN V W k) ∧ vi = .int .i64 k ∧ wr = w.drewN d) (fun _ vi _ => n - (intOf vi).toNat)
  case atStart => exact ⟨0, 0, by omega, rfl, rfl, rfl⟩
  case round =>
    obtain ⟨k, d, hk, rfl, rfl, rfl⟩ := hrel
    by_cases hkn : k < n
    · have hkn2 : (k : Int) < (n : Int) := by omega
      have d1 := H.out k hkn
      have d2 := H'.out k hkn
      have hr := HR.out k hk
      have hp := mul_rngN (HV.out k hkn).1 (HV.out k hkn).2
      have HNX : Hid (dotN V W (k + 1) = dotN V W k + V[k]?.getD 0 * W[k]?.getD 0) := Lib.hid rfl
      obtain ⟨s, hs⟩ : ∃ s, dotN V W k = s := ⟨_, rfl⟩
      obtain ⟨x, hx⟩ : ∃ s, V[k]?.getD 0 = s := ⟨_, rfl⟩
      obtain ⟨y, hy⟩ : ∃ s, W[k]?.getD 0 = s := ⟨_, rfl⟩
      rw [hs] at hr HNX ⊢
      rw [hx] at d1 hp HNX
      rw [hy] at d2 hp HNX
      have p1 : IntKind.i64.wrap (x * y) = x * y := IntWalk.i64_in _ (by omega)
      have p2 : IntKind.i64.wrap (s + x * y) = s + x * y := IntWalk.i64_in _ (by omega)
      clear hs hx hy hr hp
      go_wp2_with fail
      go_quiet (fail)
      go_wp2_with fail
      go_roundw
      case rel => exact ⟨k + 1, _, by omega, by rw [HNX.out], by go_num, rfl⟩
      case measure => simp [intOf]; omega
    · obtain rfl : k = n := by omega
      go_wp2_with fail
      go_ret
      exact ⟨rfl, _, rfl⟩

set_option maxRecDepth 100000 in
theorem maxE_any (v : Value) (L : List Int) (w : World) (B : Nat) (h : ReadI w B v L) (h0 : 0 < L.length) (hn : L.length ≤ 1048576) (hb : ∀ j, j < L.length → -1000000 ≤ L[j]?.getD 0 ∧ L[j]?.getD 0 ≤ 1000000) :
    Calls Try.prog 82 #[v] w fun e w' => ∃ x, e = .returned (.int .i64 x) ∧ ((∃ j, j < L.length ∧ x = L[j]?.getD 0) ∧ ∀ j, j < L.length → L[j]?.getD 0 ≤ x) ∧ w = w' := by
  obtain ⟨n, A, c, rfl, hr, HL, _, hnc, HF, hcm⟩ := h.split2
  have HB : Hid (∀ j, j < n → -1000000 ≤ L[j]?.getD 0 ∧ L[j]?.getD 0 ≤ 1000000) := Lib.hid (by rw [← HL.out]; exact hb)
  rw [HL.out] at h0 hn ⊢
  have HR := Lib.hid hr
  obtain ⟨a, rfl, hal, hc0⟩ := hr.2 0 h0
  obtain ⟨g, o, rfl⟩ := HF.out a rfl
  have HC : Hid (∀ j, j < n → w.cell? ⟨g, o + j, none⟩ = some (.int .i64 (L[j]?.getD 0))) := Lib.hid fun j hj => by
    obtain ⟨a', e', _, hc'⟩ := HR.out.2 j hj
    cases e'
    rw [add_lit] at hc'
    simpa using hc'
  have d0 := HC.out 0 h0
  have hb0 := HB.out 0 h0
  rw [Nat.add_zero] at d0
  obtain ⟨z0, hz0⟩ : ∃ z, L[0]?.getD 0 = z := ⟨_, rfl⟩
  have HZ0 := Lib.hid hz0
  rw [hz0] at d0 hb0
  have h0i : ¬ (n : Int) < 1 := by omega
  have hmx := @run_max_int2 Try.prog
  clear h hr hc0 hal hb hz0
  go_enter Try.func82, Try.ntmps82
  go_wp2
  go_loop [3, 4] (fun vm vi => ∃ (j : Nat) (x : Int), j ≤ n ∧ (-1000000 ≤ x ∧ x ≤ 1000000) ∧ vm = .int .i64 x ∧ vi = .int .i64 j ∧ Hid ((∃ t, t < n ∧ x = L[t]?.getD 0) ∧ ∀ t, t < j → L[t]?.getD 0 ≤ x)) (fun _ vi => n - (intOf vi).toNat)
  case atStart => exact ⟨1, z0, by omega, by omega, rfl, rfl, Lib.hid ⟨⟨0, h0, HZ0.out.symm⟩, fun t ht => by obtain rfl : t = 0 := (by omega); rw [HZ0.out]; omega⟩⟩
  case round =>
    obtain ⟨j, x, hj, hx, rfl, rfl, hxm⟩ := hrel
    by_cases hjn : j < n
    · have d1 := HC.out j hjn
      have hb1 := HB.out j hjn
      obtain ⟨z, hz⟩ : ∃ z, L[j]?.getD 0 = z := ⟨_, rfl⟩
      have HZ := Lib.hid hz
      rw [hz] at d1 hb1
      have hjn2 : (j : Int) < (n : Int) := by omega
      clear hz
      by_cases hxz : x < z
      · go_wp2
        go_round
        case rel => exact ⟨j + 1, z, by omega, by omega, rfl, by go_num, Lib.hid ⟨⟨j, hjn, HZ.out.symm⟩, fun t ht => by
          by_cases e : t = j
          · subst e; rw [HZ.out]; omega
          · have := hxm.out.2 t (by omega); omega⟩⟩
        case measure => simp [intOf]; omega
      · go_wp2
        go_round
        case rel => exact ⟨j + 1, x, by omega, by omega, rfl, by go_num, Lib.hid ⟨hxm.out.1, fun t ht => by
          by_cases e : t = j
          · subst e; rw [HZ.out]; omega
          · exact hxm.out.2 t (by omega)⟩⟩
        case measure => simp [intOf]; omega
    · obtain rfl : j = n := by omega
      go_wp2
      go_ret
      exact ⟨x, rfl, hxm.out, rfl⟩
end Go.Proofs.Ytohbgfmjnanlkaa
