/- Intersection numbers: contracts, the program's and the model's. Conditions: stated at each theorem. -/
import Derived.Test.YtohbgfmjnanlkaaCuV
namespace Go.Proofs.Ytohbgfmjnanlkaa
open Go.ChangeShapes Go.WideShapes Go.ChangeAt Go.RowKit Go.Deep
set_option linter.unusedVariables false
set_option linter.unusedSimpArgs false

theorem fld_mt1 (x y : Int) (w : World) : (Instr.field 118 (.agg #[.int .i64 x, .int .i64 y]) 1).run Try.prog w = .ok (.int .i64 y) w := by
  simp [Instr.field, run_underlying (P := Try.prog) Try.underlying118, part, asAgg]
def inV (Z M : List (List Int)) (i k : Nat) : Int := dotN (mqL (bt Z i) (mt M i k).toNat) (mqL (bt Z k) (mt M i k).toNat) (mt M i k).toNat
open Classical in
noncomputable def inC (Z M : List (List Int)) (i k : Int) : Int := if cuB Z M then (if (0 ≤ i ∧ i < Z.length) ∧ (0 ≤ k ∧ k < Z.length) ∧ i ≠ k then 0 else 2) else 1
open Classical in
noncomputable def inA (Z M : List (List Int)) (i k : Int) : Int := if inC Z M i k = 0 then inV Z M i.toNat k.toNat else 0
theorem inC_no {Z M : List (List Int)} {i k : Int} (h : cuB Z M = false) : inC Z M i k = 1 ∧ inA Z M i k = 0 := by unfold inA inC; rw [h]; simp
theorem inC_out {Z M : List (List Int)} {i k : Int} (h : cuB Z M = true) (h2 : ¬ ((0 ≤ i ∧ i < Z.length) ∧ (0 ≤ k ∧ k < Z.length) ∧ i ≠ k)) : inC Z M i k = 2 ∧ inA Z M i k = 0 := by
  have e : inC Z M i k = 2 := by unfold inC; rw [h, if_pos rfl, if_neg h2]
  exact ⟨e, by unfold inA; rw [e, if_neg (by decide)]⟩
theorem inC_yes {Z M : List (List Int)} {i k r : Nat} (h : cuB Z M = true) (hr : Z.length = r) (hi : i < r) (hk : k < r) (hik : i ≠ k) : inC Z M i k = 0 ∧ inA Z M i k = inV Z M i k := by
  have e : inC Z M i k = 0 := by unfold inC; rw [h, if_pos rfl, if_pos ⟨⟨by omega, by omega⟩, ⟨by omega, by omega⟩, by omega⟩]
  exact ⟨e, by unfold inA; rw [e, if_pos rfl]; simp⟩
theorem inV_tN {Z M : List (List Int)} {r i k : Nat} (h : CuOK Z M) (hr : Z.length = r) (hik : i < k) (hk : k < r) : tN Z M i k = inV Z M i k ∧ tN Z M i k = inV Z M k i := by
  have hp := h.pair i k hik (by rw [hr]; exact hk)
  have hs := h.com.sym i k (by rw [hr]; omega) (by rw [hr]; exact hk)
  unfold tN
  rw [mN_yes hp]
  refine ⟨rfl, ?_⟩
  unfold inV
  rw [← hs, dotN_comm]
set_option maxRecDepth 100000 in
set_option maxHeartbeats 1200000 in
theorem hasBranch_any (A : Option Addr) (r c : Nat) (b : Value) (i : Int) (bb : Bool) (w : World) (hr : r ≤ 6) (hb : (decide (0 ≤ i) && decide (i < (r : Int))) = bb) :
    Calls Try.prog 106 #[.agg #[.slice A r c, b], .int .i64 i] w fun e w' => e = .returned (.bool bb) ∧ Below w.heap.size w w' := by
  cases bb with
  | false =>
    rcases (show i < 0 ∨ (0 ≤ i ∧ ¬ i < (r : Int)) by simp at hb; omega) with h1 | ⟨h1, h2⟩
    · have h3 : ¬ 0 ≤ i := by omega
      clear hb
      go_enter Try.func106, Try.ntmps106
      go_wp2_with fail
      go_ret
      exact ⟨rfl, below_box2 _ _⟩
    · clear hb
      go_enter Try.func106, Try.ntmps106
      go_wp2_with fail
      go_ret
      exact ⟨rfl, below_box2 _ _⟩
  | true =>
    have h1 : 0 ≤ i ∧ i < (r : Int) := by simp at hb; omega
    obtain ⟨h1, h2⟩ := h1
    clear hb
    go_enter Try.func106, Try.ntmps106
    go_wp2_with fail
    go_ret
    exact ⟨rfl, below_box2 _ _⟩

set_option maxRecDepth 100000 in
set_option maxHeartbeats 1200000 in
theorem l09Meet_any (u v : Value) (xs ys : List Int) (n : Nat) (w : World) (hu : ReadI w w.heap.size u xs) (hv : ReadI w w.heap.size v ys) (hnx : xs.length ≤ 1048576) (hny : ys.length ≤ 1048576) (hx : brB xs = true) (hy : brB ys = true) (hn1 : 1 ≤ n) (hn : n ≤ 200) :
    Calls Try.prog 105 #[.agg #[u], .agg #[v], .int .i64 (n : Int)] w fun e w' => e = .returned (.int .i64 (dotN (mqL xs n) (mqL ys n) n)) ∧ Below w.heap.size w w' := by
  obtain ⟨A1, n1, c1, e1⟩ : ∃ A n c, u = .slice A n c := by obtain ⟨A, c, rfl, _⟩ := hu; exact ⟨A, _, c, rfl⟩
  obtain ⟨A2, n2, c2, e2⟩ : ∃ A n c, v = .slice A n c := by obtain ⟨A, c, rfl, _⟩ := hv; exact ⟨A, _, c, rfl⟩
  subst e1; subst e2
  obtain ⟨W0, HE⟩ : ∃ V, V = (w.alloc (.cells #[.slice A1 n1 c1] 28)).alloc (.cells #[.slice A2 n2 c2] 28) := ⟨_, rfl⟩
  have hb0 : Below w.heap.size w W0 := by rw [HE]; exact (below_box2 _ _).alloc (by simp) _
  have hz : BoxI W0 w.heap.size (.slice A1 n1 c1) := by rw [HE]; exact (BoxI.new w _ _).stayU (below_box2 _ _)
  have hy2 : BoxI W0 (w.heap.size + 1) (.slice A2 n2 c2) := by
    have := BoxI.new (w.alloc (.cells #[.slice A1 n1 c1] 28)) (.slice A2 n2 c2) 28
    rw [HE]; simpa using this
  have HB := Lib.hid hb0; have HEQ := Lib.hid HE; have HZ := Lib.hid hz; have HY := Lib.hid hy2
  have HU := Lib.hid ((hu.below hb0).more hb0.size); have HV := Lib.hid ((hv.below hb0).more hb0.size)
  have HUD : Hid (ReadI W0.drew W0.drew.heap.size (.slice A1 n1 c1) xs) := Lib.hid HU.out
  have HNX := Lib.hid hnx; have HNY := Lib.hid hny; have HX := Lib.hid hx; have HYB := Lib.hid hy
  have HBD : Hid (∀ i, i < n → (1 ≤ (mqL xs n)[i]?.getD 0 ∧ (mqL xs n)[i]?.getD 0 ≤ 64) ∧ (1 ≤ (mqL ys n)[i]?.getD 0 ∧ (mqL ys n)[i]?.getD 0 ≤ 64)) := Lib.hid (fun i hi => ⟨mq_at hx hi, mq_at hy hi⟩)
  have hn4 : n ≤ 400 := by omega
  have z0 := hz.1; have z1 := hz.2; have y0 := hy2.1; have y1 := hy2.2
  clear hu hv hb0 hz hy2 HE hnx hny hx hy
  go_enter Try.func105, Try.ntmps105
  go_wp2_with fail
  rw [← HEQ.out]
  refine wp_region_held_drew (S := fun w' => w'.cell? ⟨w.heap.size, 0, none⟩ = some (.slice A1 n1 c1) ∧ w'.cell? ⟨w.heap.size + 1, 0, none⟩ = some (.slice A2 n2 c2)) (by kernel_rfl) ⟨z0, y0⟩ (fun hHeld => ?_)
  refine takeY 0 _ (v := ?_) rfl rfl (by kernel_rfl) (by kernel_rfl) (by kernel_rfl) (fun _ _ _ h => h) (by kernel_rfl) ?_ (by assumption) ?_
  rotate_left 1
  · intro w hSw; (try dsimp only at hSw); go_simp; (try with_reducible rfl)
  try simp only [Act.put, List.setIfInBounds_toArray, List.set_cons_zero, List.set_cons_succ]
  refine takeY 1 _ (v := ?_) rfl rfl (by kernel_rfl) (by kernel_rfl) (by kernel_rfl) (fun _ _ _ h => h) (by kernel_rfl) ?_ (by assumption) ?_
  rotate_left 1
  · intro w hSw; (try dsimp only at hSw); go_simp; (try with_reducible rfl)
  try simp only [Act.put, List.setIfInBounds_toArray, List.set_cons_zero, List.set_cons_succ]
  refine takeY 3 _ (v := ?_) rfl rfl (by kernel_rfl) (by kernel_rfl) (by kernel_rfl) (fun _ _ _ h => h) (by kernel_rfl) ?_ (by assumption) ?_
  rotate_left 1
  · intro w hSw; (try dsimp only at hSw); go_simp; (try with_reducible rfl)
  try simp only [Act.put, List.setIfInBounds_toArray, List.set_cons_zero, List.set_cons_succ]
  refine takeY 4 _ (v := ?_) rfl rfl (by kernel_rfl) (by kernel_rfl) (by kernel_rfl) (fun _ _ _ h => h) (by kernel_rfl) ?_ (by assumption) ?_
  rotate_left 1
  · intro w hSw; (try dsimp only at hSw); go_simp; (try with_reducible rfl)
  try simp only [Act.put, List.setIfInBounds_toArray, List.set_cons_zero, List.set_cons_succ]
  refine wpAnyH_ready (rs := [2]) (by kernel_rfl) (by simp) ?_
  refine AllReadyH.cons rfl (fun K hK => ?_) AllReadyH.nil
  go_simp
  (with_reducible refine (l06Sequence_any (.slice A1 n1 c1) xs n W0.drew HUD.out HNX.out HX.out hn4).mono ?_)
  rintro e w2 ⟨A3, c3, rfl, ho3, hb3⟩
  have HB2 : Hid (Below W0.heap.size W0 w2) := Lib.hid ((drewN_below W0 1).trans (by exact hb3))
  have HO3 := Lib.hid (ho3.reads)
  clear ho3 hb3
  refine hK.out _ w2 ⟨(HZ.out.stayU HB2.out).1, (HY.out.stayU HB2.out).1⟩ (fun hHeld => ?_)
  clear hK K
  try simp only [Act.put, List.setIfInBounds_toArray, List.set_cons_zero, List.set_cons_succ]
  refine wpAnyH_ready (rs := [5]) (by kernel_rfl) (by simp) ?_
  refine AllReadyH.cons rfl (fun K hK => ?_) AllReadyH.nil
  go_simp
  (with_reducible refine (l06Sequence_any (.slice A2 n2 c2) ys n w2 ((HV.out.below HB2.out).more HB2.out.size) HNY.out HYB.out hn4).mono ?_)
  rintro e w3 ⟨A4, c4, rfl, ho4, hb4⟩
  have HB3 : Hid (Below W0.heap.size W0 w3) := Lib.hid (HB2.out.trans (hb4.mono HB2.out.size))
  have HO4 := Lib.hid (ho4.reads)
  replace HO3 := Lib.hid ((HO3.out.below hb4).more hb4.size)
  clear ho4 hb4
  refine hK.out _ w3 ⟨(HZ.out.stayU HB3.out).1, (HY.out.stayU HB3.out).1⟩ (fun hHeld => ?_)
  clear hK K
  try simp only [Act.put, List.setIfInBounds_toArray, List.set_cons_zero, List.set_cons_succ]
  refine wpAnyH_ready (rs := [6]) (by kernel_rfl) (by simp) ?_
  refine AllReadyH.cons rfl (fun K hK => ?_) AllReadyH.nil
  go_simp
  (with_reducible refine (specDot_any (.slice A3 n c3) (.slice A4 n c4) (mqL xs n) (mqL ys n) n w3 w3.heap.size w3.heap.size HO3.out HO4.out (mq_len _ _) (mq_len _ _) hn1 hn4 HBD.out).mono ?_)
  rintro e w4 ⟨rfl, d, rfl⟩
  refine hK.out _ (w3.drewN d) ⟨(HZ.out.stayU HB3.out).1, (HY.out.stayU HB3.out).1⟩ (fun hHeld => ?_)
  clear hK K
  try simp only [Act.put, List.setIfInBounds_toArray, List.set_cons_zero, List.set_cons_succ]
  refine takeY 7 _ (v := ?_) rfl rfl (by kernel_rfl) (by kernel_rfl) (by kernel_rfl) (fun _ _ _ h => h) (by kernel_rfl) ?_ (by assumption) ?_
  rotate_left 1
  · intro w hSw; (try dsimp only at hSw); go_simp; (try with_reducible rfl)
  try simp only [Act.put, List.setIfInBounds_toArray, List.set_cons_zero, List.set_cons_succ]
  refine wpAnyH_done (by kernel_rfl) ?_ _
  clear hHeld z0 z1 y0 y1
  go_wp2_with fail
  go_ret
  exact ⟨rfl, HB.out.trans ((HB3.out.trans (drewN_below w3 d)).mono HB.out.size)⟩

set_option maxRecDepth 100000 in
set_option maxHeartbeats 1200000 in
theorem implIntersectionNumber_any (a b : Value) (Z M : List (List Int)) (i k : Int) (w : World) (h : ReadU w w.heap.size a b Z M) (hi : CuIn Z M) (hwi : (Lit.int .i64 i).wf = true) (hwk : (Lit.int .i64 k).wf = true) :
    Calls Try.prog 43 #[.agg #[a, b], .int .i64 i, .int .i64 k] w (AnsII w (inA Z M i k) (inC Z M i k)) := by
  obtain ⟨W0, HE⟩ : ∃ V, V = w.alloc (.cells #[a, b] 56) := ⟨_, rfl⟩
  have hb0 : Below w.heap.size w W0 := by rw [HE]; exact below_box2 _ _
  have hx : UBox W0 w.heap.size a b := by rw [HE]; exact UBox.new _ _ _ _
  have HEQ := Lib.hid HE; have B := Lib.hid hb0; have HI := Lib.hid hi; have H := Lib.hid h; have HX := Lib.hid hx
  have HU := Lib.hid ((h.below hb0).more hb0.size)
  have x0 := hx.c0; have x1 := hx.c1; have x4 := hx.lt
  clear hx HE hb0 hi h hwi hwk
  go_enter Try.func43, Try.ntmps43
  go_wp2_with fail
  rw [← HEQ.out]
  refine (meetings_any a b Z M Z.length W0 HU.out HI.out rfl).mono ?_
  rintro e w1 ⟨(⟨hc, rfl⟩ | ⟨hc, A, c, rfl, htb⟩), hb1⟩
  · have E := Lib.hid (inC_no (i := i) (k := k) hc)
    have HB1 := Lib.hid (B.out.trans (hb1.mono B.out.size))
    clear hc hb1 x0 x1 x4
    go_wp2_with fail
    go_ret2
    exact ⟨by rw [E.out.1, E.out.2]; rfl, HB1.out.alloc (by have := HB1.out.size; omega) _⟩
  · have HQ := Lib.hid hc
    have HB1 := Lib.hid (B.out.trans (hb1.mono B.out.size)); have HX1 := Lib.hid (HX.out.stay hb1)
    clear hc x0 x1 x4 hb1
    have HOK := Lib.hid (cuB_true.1 HQ.out)
    obtain ⟨⟨A0, c0, ea, _⟩, ⟨A1, c1, eb, _⟩⟩ := id H.out
    obtain ⟨r, hr⟩ : ∃ r, Z.length = r := ⟨_, rfl⟩
    have HR := Lib.hid hr
    have hml : M.length = r := by rw [HOK.out.parts.ml, hr]
    rw [hr] at ea; rw [hml] at eb
    subst ea; subst eb
    have hlo : 1 ≤ r := by rw [← hr]; exact HOK.out.parts.lo
    have hhi : r ≤ 6 := by rw [← hr]; exact HOK.out.parts.hi
    rw [hr] at htb
    obtain ⟨W2, HE2⟩ : ∃ V, V = w1.alloc (.cells #[.int .i64 r, .slice A (tO r r) c] 107) := ⟨_, rfl⟩
    have hb2 : Below w1.heap.size w1 W2 := by rw [HE2]; exact below_box2 _ _
    have hq2 : UBox W2 w1.heap.size (.int .i64 r) (.slice A (tO r r) c) := by rw [HE2]; exact UBox.new _ _ _ _
    have HB2 := Lib.hid (HB1.out.trans (hb2.mono HB1.out.size)); have HX2 := Lib.hid (HX1.out.stay hb2); have HT2 := Lib.hid ((htb.below hb2).more hb2.size); have HQ2 := Lib.hid hq2; have HEQ2 := Lib.hid HE2
    have x0 := HX2.out.c0; have x1 := HX2.out.c1; have x4 := HX2.out.lt; have q0 := hq2.c0; have q1 := hq2.c1; have q4 := hq2.lt
    have x0L := x0; have x1L := x1
    rw [HEQ2.out] at x0L x1L
    have hf1 := fun (x y : Int) (w : World) => fld_mt1 x y w
    have HTT : Hid (tO r r = r * (r - 1) / 2) := Lib.hid (tO_end hhi)
    rw [hr]
    clear htb hb2 hq2 HE2 hr
    by_cases k1 : 0 ≤ i ∧ i < (r : Int)
    rotate_left
    · have E := Lib.hid (inC_out (i := i) (k := k) HQ.out (by rw [HR.out]; intro hh; exact k1 hh.1))
      go_wp2_with fail
      rw [← HEQ2.out]
      have hbv : (decide (0 ≤ i) && decide (i < (r : Int))) = false := by simp; omega
      (with_reducible refine (hasBranch_any A0 r c0 (.slice A1 r c1) i false W2 hhi hbv).mono ?_)
      clear hbv
      rintro e w3 ⟨rfl, hb3⟩
      have HB3 := Lib.hid (HB2.out.trans (hb3.mono HB2.out.size)); have HX3 := Lib.hid (HX2.out.stay hb3); have HT3 := Lib.hid ((HT2.out.below hb3).more hb3.size); have HQ3 := Lib.hid (HQ2.out.stay hb3)
      clear hb3 x0 x1 x4 q0 q1 q4
      have x0 := HX3.out.c0; have x1 := HX3.out.c1; have x4 := HX3.out.lt; have q0 := HQ3.out.c0; have q1 := HQ3.out.c1; have q4 := HQ3.out.lt
      go_wp2_with fail
      go_ret2
      exact ⟨by rw [E.out.1, E.out.2]; rfl, HB3.out⟩
    by_cases k2 : 0 ≤ k ∧ k < (r : Int)
    rotate_left
    · have E := Lib.hid (inC_out (i := i) (k := k) HQ.out (by rw [HR.out]; intro hh; exact k2 hh.2.1))
      go_wp2_with fail
      rw [← HEQ2.out]
      have hbv : (decide (0 ≤ i) && decide (i < (r : Int))) = true := by simp; omega
      (with_reducible refine (hasBranch_any A0 r c0 (.slice A1 r c1) i true W2 hhi hbv).mono ?_)
      clear hbv
      rintro e w3 ⟨rfl, hb3⟩
      have HB3 := Lib.hid (HB2.out.trans (hb3.mono HB2.out.size)); have HX3 := Lib.hid (HX2.out.stay hb3); have HT3 := Lib.hid ((HT2.out.below hb3).more hb3.size); have HQ3 := Lib.hid (HQ2.out.stay hb3)
      clear hb3 x0 x1 x4 q0 q1 q4
      have x0 := HX3.out.c0; have x1 := HX3.out.c1; have x4 := HX3.out.lt; have q0 := HQ3.out.c0; have q1 := HQ3.out.c1; have q4 := HQ3.out.lt
      go_wp2_with fail
      have hbv : (decide (0 ≤ k) && decide (k < (r : Int))) = false := by simp; omega
      (with_reducible refine (hasBranch_any A0 r c0 (.slice A1 r c1) k false w3 hhi hbv).mono ?_)
      clear hbv
      rintro e w4 ⟨rfl, hb4⟩
      have HB4 := Lib.hid (HB3.out.trans (hb4.mono HB3.out.size)); have HX4 := Lib.hid (HX3.out.stay hb4); have HT4 := Lib.hid ((HT3.out.below hb4).more hb4.size); have HQ4 := Lib.hid (HQ3.out.stay hb4)
      clear hb4 x0 x1 x4 q0 q1 q4
      have x0 := HX4.out.c0; have x1 := HX4.out.c1; have x4 := HX4.out.lt; have q0 := HQ4.out.c0; have q1 := HQ4.out.c1; have q4 := HQ4.out.lt
      go_wp2_with fail
      go_ret2
      exact ⟨by rw [E.out.1, E.out.2]; rfl, HB4.out⟩
    by_cases k3 : i = k
    · have E := Lib.hid (inC_out (i := i) (k := k) HQ.out (by rw [HR.out]; intro hh; exact hh.2.2 k3))
      subst k3
      have t3 : (i == i) = true := by simp
      go_wp2_with fail
      rw [← HEQ2.out]
      have hbv : (decide (0 ≤ i) && decide (i < (r : Int))) = true := by simp; omega
      (with_reducible refine (hasBranch_any A0 r c0 (.slice A1 r c1) i true W2 hhi hbv).mono ?_)
      clear hbv
      rintro e w3 ⟨rfl, hb3⟩
      have HB3 := Lib.hid (HB2.out.trans (hb3.mono HB2.out.size)); have HX3 := Lib.hid (HX2.out.stay hb3); have HT3 := Lib.hid ((HT2.out.below hb3).more hb3.size); have HQ3 := Lib.hid (HQ2.out.stay hb3)
      clear hb3 x0 x1 x4 q0 q1 q4
      have x0 := HX3.out.c0; have x1 := HX3.out.c1; have x4 := HX3.out.lt; have q0 := HQ3.out.c0; have q1 := HQ3.out.c1; have q4 := HQ3.out.lt
      go_wp2_with fail
      have hbv : (decide (0 ≤ i) && decide (i < (r : Int))) = true := by simp; omega
      (with_reducible refine (hasBranch_any A0 r c0 (.slice A1 r c1) i true w3 hhi hbv).mono ?_)
      clear hbv
      rintro e w4 ⟨rfl, hb4⟩
      have HB4 := Lib.hid (HB3.out.trans (hb4.mono HB3.out.size)); have HX4 := Lib.hid (HX3.out.stay hb4); have HT4 := Lib.hid ((HT3.out.below hb4).more hb4.size); have HQ4 := Lib.hid (HQ3.out.stay hb4)
      clear hb4 x0 x1 x4 q0 q1 q4
      have x0 := HX4.out.c0; have x1 := HX4.out.c1; have x4 := HX4.out.lt; have q0 := HQ4.out.c0; have q1 := HQ4.out.c1; have q4 := HQ4.out.lt
      go_wp2_with fail
      go_ret2
      exact ⟨by rw [E.out.1, E.out.2]; rfl, HB4.out⟩
    · have t3 : (i == k) = false := by simp [k3]
      go_wp2_with fail
      rw [← HEQ2.out]
      have hbv : (decide (0 ≤ i) && decide (i < (r : Int))) = true := by simp; omega
      (with_reducible refine (hasBranch_any A0 r c0 (.slice A1 r c1) i true W2 hhi hbv).mono ?_)
      clear hbv
      rintro e w3 ⟨rfl, hb3⟩
      have HB3 := Lib.hid (HB2.out.trans (hb3.mono HB2.out.size)); have HX3 := Lib.hid (HX2.out.stay hb3); have HT3 := Lib.hid ((HT2.out.below hb3).more hb3.size); have HQ3 := Lib.hid (HQ2.out.stay hb3)
      clear hb3 x0 x1 x4 q0 q1 q4
      have x0 := HX3.out.c0; have x1 := HX3.out.c1; have x4 := HX3.out.lt; have q0 := HQ3.out.c0; have q1 := HQ3.out.c1; have q4 := HQ3.out.lt
      go_wp2_with fail
      have hbv : (decide (0 ≤ k) && decide (k < (r : Int))) = true := by simp; omega
      (with_reducible refine (hasBranch_any A0 r c0 (.slice A1 r c1) k true w3 hhi hbv).mono ?_)
      clear hbv
      rintro e w4 ⟨rfl, hb4⟩
      have HB4 := Lib.hid (HB3.out.trans (hb4.mono HB3.out.size)); have HX4 := Lib.hid (HX3.out.stay hb4); have HT4 := Lib.hid ((HT3.out.below hb4).more hb4.size); have HQ4 := Lib.hid (HQ3.out.stay hb4)
      clear hb4 x0 x1 x4 q0 q1 q4
      have x0 := HX4.out.c0; have x1 := HX4.out.c1; have x4 := HX4.out.lt; have q0 := HQ4.out.c0; have q1 := HQ4.out.c1; have q4 := HQ4.out.lt
      obtain ⟨p, hp⟩ : ∃ p : Nat, i = (p : Int) := ⟨i.toNat, by omega⟩
      obtain ⟨q, hq⟩ : ∃ q : Nat, k = (q : Int) := ⟨k.toNat, by omega⟩
      subst hp; subst hq
      have hpq : p ≠ q := by omega
      have hpr : p < r := by omega
      have hqr : q < r := by omega
      have E := Lib.hid (inC_yes (M := M) HQ.out HR.out hpr hqr hpq)
      have HAT : Hid (∃ x, Calls Try.prog 107 #[.agg #[.int .i64 r, .slice A (tO r r) c], .int .i64 p, .int .i64 q] w4 fun e w' => e = .returned (.agg #[.int .i64 x, .int .i64 (inV Z M p q)]) ∧ Below w4.heap.size w4 w') := Lib.hid (by
        rcases Nat.lt_or_gt_of_ne hpq with h1 | h1
        · exact ⟨_, at_le A (tO r r) c r p q (cP Z M r) (cN Z M r) _ _ w4 HT4.out HTT.out hhi h1 hqr p q (Or.inl ⟨rfl, rfl⟩) rfl (by rw [cN_at hhi h1 hqr, (inV_tN HOK.out HR.out h1 hqr).1])⟩
        · exact ⟨_, at_le A (tO r r) c r q p (cP Z M r) (cN Z M r) _ _ w4 HT4.out HTT.out hhi h1 hpr p q (Or.inr ⟨rfl, rfl⟩) rfl (by rw [cN_at hhi h1 hpr, (inV_tN HOK.out HR.out h1 hpr).2])⟩)
      obtain ⟨xx, hat⟩ := HAT.out
      have HAT2 := Lib.hid hat
      clear HAT hat
      go_wp2_with fail
      refine HAT2.out.mono ?_
      rintro e w5 ⟨rfl, hb5⟩
      have HB5 := Lib.hid (HB4.out.trans (hb5.mono HB4.out.size))
      clear hb5 x0 x1 x4 q0 q1 q4
      go_wp2_with fail
      go_ret2
      exact ⟨by rw [E.out.1, E.out.2]; rfl, HB5.out⟩

set_option maxRecDepth 100000 in
set_option maxHeartbeats 1200000 in
theorem specIntersectionNumber_any (a b : Value) (Z M : List (List Int)) (i k : Int) (w : World) (h : ReadU w w.heap.size a b Z M) (hi : CuIn Z M) (hwi : (Lit.int .i64 i).wf = true) (hwk : (Lit.int .i64 k).wf = true) :
    Calls Try.prog 42 #[.agg #[a, b], .int .i64 i, .int .i64 k] w (AnsII w (inA Z M i k) (inC Z M i k)) := by
  obtain ⟨W0, HE⟩ : ∃ V, V = w.alloc (.cells #[a, b] 56) := ⟨_, rfl⟩
  have hb0 : Below w.heap.size w W0 := by rw [HE]; exact below_box2 _ _
  have hx : UBox W0 w.heap.size a b := by rw [HE]; exact UBox.new _ _ _ _
  have HEQ := Lib.hid HE; have B := Lib.hid hb0; have HI := Lib.hid hi; have H := Lib.hid h; have HX := Lib.hid hx
  have HU := Lib.hid ((h.below hb0).more hb0.size)
  have x0 := hx.c0; have x1 := hx.c1; have x4 := hx.lt
  obtain ⟨q, hq⟩ : ∃ q, cuB Z M = q := ⟨_, rfl⟩
  have HQ := Lib.hid hq
  clear hx HE hb0 hi h hwi hwk
  go_enter Try.func42, Try.ntmps42
  go_wp2_with fail
  rw [← HEQ.out]
  refine (l09Is_any a b Z M W0 HU.out HI.out).mono ?_
  rintro e w1 ⟨rfl, hb1⟩
  rw [hq]
  clear hq x0 x1 x4
  have HB1 := Lib.hid (B.out.trans (hb1.mono B.out.size)); have HX1 := Lib.hid (HX.out.stay hb1)
  clear hb1
  cases q with
  | false =>
    have E := Lib.hid (inC_no (i := i) (k := k) HQ.out)
    go_wp2_with fail
    go_ret2
    exact ⟨by rw [E.out.1, E.out.2]; rfl, HB1.out⟩
  | true =>
    have HOK := Lib.hid (cuB_true.1 HQ.out)
    obtain ⟨⟨A0, c0, ea, _⟩, ⟨A1, c1, eb, _⟩⟩ := id H.out
    obtain ⟨r, hr⟩ : ∃ r, Z.length = r := ⟨_, rfl⟩
    have HR := Lib.hid hr
    have hml : M.length = r := by rw [HOK.out.parts.ml, hr]
    rw [hr] at ea; rw [hml] at eb
    subst ea; subst eb
    have hlo : 1 ≤ r := by rw [← hr]; exact HOK.out.parts.lo
    have hhi : r ≤ 6 := by rw [← hr]; exact HOK.out.parts.hi
    obtain ⟨g0, o0, rfl, hg0, hzr⟩ := rows_cellsU H.out.1 hr hlo
    obtain ⟨g1, o1, rfl, hg1, hmr⟩ := rows_cellsU H.out.2 hml hlo
    have HZ := Lib.hid hzr; have HM := Lib.hid hmr
    have x0 := HX1.out.c0; have x1 := HX1.out.c1; have x4 := HX1.out.lt
    have p1 : IntKind.i64.wrap ((r : Int) - 1) = (r : Int) - 1 := IntWalk.i64_in _ (by omega)
    clear hzr hmr hr
    by_cases k1 : 0 ≤ i ∧ i < (r : Int)
    rotate_left
    · have E := Lib.hid (inC_out (i := i) (k := k) HQ.out (by rw [HR.out]; intro hh; exact k1 hh.1))
      have hh : ¬ (0 ≤ i ∧ i ≤ (r : Int) - 1) := fun hh => k1 ⟨hh.1, by omega⟩
      go_wp2_with (go_at_call 60; (with_reducible refine (inN i 0 ((r : Int) - 1) _ hh).mono ?_); rintro e w' ⟨rfl, rfl⟩)
      go_ret2
      exact ⟨by rw [E.out.1, E.out.2]; rfl, HB1.out⟩
    obtain ⟨k1a, k1b⟩ := k1
    have k1c : i ≤ (r : Int) - 1 := by omega
    by_cases k2 : 0 ≤ k ∧ k < (r : Int)
    rotate_left
    · have E := Lib.hid (inC_out (i := i) (k := k) HQ.out (by rw [HR.out]; intro hh; exact k2 hh.2.1))
      have hh : ¬ (0 ≤ k ∧ k ≤ (r : Int) - 1) := fun hh => k2 ⟨hh.1, by omega⟩
      have hik : i ≠ k := fun e => k2 ⟨by omega, by omega⟩
      go_wp2_with (first | (go_at_call 60; (with_reducible refine (inY i 0 ((r : Int) - 1) _ k1a k1c).mono ?_); rintro e w' ⟨rfl, rfl⟩) | (go_at_call 60; (with_reducible refine (inN k 0 ((r : Int) - 1) _ hh).mono ?_); rintro e w' ⟨rfl, rfl⟩))
      go_ret2
      exact ⟨by rw [E.out.1, E.out.2]; rfl, HB1.out⟩
    obtain ⟨k2a, k2b⟩ := k2
    have k2c : k ≤ (r : Int) - 1 := by omega
    by_cases k3 : i = k
    · have E := Lib.hid (inC_out (i := i) (k := k) HQ.out (by rw [HR.out]; intro hh; exact hh.2.2 k3))
      subst k3
      have t3 : (i == i) = true := by simp
      go_wp2_with (go_at_call 60; (with_reducible refine (inY i 0 ((r : Int) - 1) _ k1a k1c).mono ?_); rintro e w' ⟨rfl, rfl⟩)
      go_ret2
      exact ⟨by rw [E.out.1, E.out.2]; rfl, HB1.out⟩
    · obtain ⟨p, hp⟩ : ∃ p : Nat, i = (p : Int) := ⟨i.toNat, by omega⟩
      obtain ⟨q, hq⟩ : ∃ q : Nat, k = (q : Int) := ⟨k.toNat, by omega⟩
      subst hp; subst hq
      have t3 : ((p : Int) == (q : Int)) = false := by simp; omega
      have hpq : p ≠ q := by omega
      have hpr : p < r := by omega
      have hqr : q < r := by omega
      have E := Lib.hid (inC_yes (M := M) HQ.out HR.out hpr hqr hpq)
      obtain ⟨u3, hcu3, hru3⟩ := HZ.out p hpr
      obtain ⟨u4, hcu4, hru4⟩ := HZ.out q hqr
      obtain ⟨A3, n3, c3, ee3⟩ : ∃ A n c, u3 = .slice A n c := by obtain ⟨A, c, rfl, _⟩ := hru3; exact ⟨A, _, c, rfl⟩
      obtain ⟨A4, n4, c4, ee4⟩ : ∃ A n c, u4 = .slice A n c := by obtain ⟨A, c, rfl, _⟩ := hru4; exact ⟨A, _, c, rfl⟩
      subst ee3; subst ee4
      obtain ⟨um, hcm, hrm⟩ := HM.out p hpr
      have hrowl : (M.getD p []).length = r := by rw [HOK.out.parts.row p (by rw [HR.out]; exact hpr), HR.out]
      obtain ⟨gi, oi, ci, rfl, hgi, hkm⟩ := row_cellsU hrm hrowl hlo
      have hof := HOK.out.com.off p q (by rw [HR.out]; exact hpr) (by rw [HR.out]; exact hqr) hpq
      obtain ⟨n, hn⟩ : ∃ n : Nat, mt M p q = (n : Int) := ⟨(mt M p q).toNat, by omega⟩
      have hn1 : 1 ≤ n := by omega
      have hn2 : n ≤ 200 := by omega
      have HV : Hid (inV Z M p q = dotN (mqL (bt Z p) n) (mqL (bt Z q) n) n) := Lib.hid (by unfold inV; rw [hn]; simp)
      have b3w := hkm q hqr
      rw [show (M.getD p []).getD q 0 = (n : Int) from hn] at b3w
      have b0 : w1.cell? ⟨g0, o0 + p, none⟩ = some (.slice A3 n3 c3) := by rw [HB1.out.cell (p := ⟨g0, o0 + p, none⟩) hg0]; exact hcu3
      have b1 : w1.cell? ⟨g0, o0 + q, none⟩ = some (.slice A4 n4 c4) := by rw [HB1.out.cell (p := ⟨g0, o0 + q, none⟩) hg0]; exact hcu4
      have b2 : w1.cell? ⟨g1, o1 + p, none⟩ = some (.slice (some ⟨gi, oi, none⟩) r ci) := by rw [HB1.out.cell (p := ⟨g1, o1 + p, none⟩) hg1]; exact hcm
      have b3 : w1.cell? ⟨gi, oi + q, none⟩ = some (.int .i64 (n : Int)) := by rw [HB1.out.cell (p := ⟨gi, oi + q, none⟩) hgi]; exact b3w
      have HRP : Hid (ReadI w1.drew w1.drew.heap.size (.slice A3 n3 c3) (bt Z p)) := Lib.hid ((hru3.below HB1.out).more HB1.out.size)
      have HRQ : Hid (ReadI w1.drew w1.drew.heap.size (.slice A4 n4 c4) (bt Z q)) := Lib.hid ((hru4.below HB1.out).more HB1.out.size)
      have HBP := Lib.hid (HOK.out.parts.br p (by rw [HR.out]; exact hpr)); have HBQ := Lib.hid (HOK.out.parts.br q (by rw [HR.out]; exact hqr))
      have hg0 : g0 < w1.heap.size := Nat.lt_of_lt_of_le hg0 HB1.out.size
      have hg1 : g1 < w1.heap.size := Nat.lt_of_lt_of_le hg1 HB1.out.size
      have hgi : gi < w1.heap.size := Nat.lt_of_lt_of_le hgi HB1.out.size
      clear hcu3 hcu4 hru3 hru4 hcm hrm hrowl hkm hof hn b3w
      go_wp2_with (first | (go_at_call 60; (with_reducible refine (inY (p : Int) 0 ((r : Int) - 1) _ k1a k1c).mono ?_); rintro e w' ⟨rfl, rfl⟩) | (go_at_call 60; (with_reducible refine (inY (q : Int) 0 ((r : Int) - 1) _ k2a k2c).mono ?_); rintro e w' ⟨rfl, rfl⟩))
      refine wp_region_held_drew (S := fun w' => w'.cell? ⟨w.heap.size, 0, none⟩ = some (.slice (some ⟨g0, o0, none⟩) r c0) ∧ w'.cell? ⟨w.heap.size, 1, none⟩ = some (.slice (some ⟨g1, o1, none⟩) r c1) ∧ w'.cell? ⟨g0, o0 + p, none⟩ = some (.slice A3 n3 c3) ∧ w'.cell? ⟨g0, o0 + q, none⟩ = some (.slice A4 n4 c4) ∧ w'.cell? ⟨g1, o1 + p, none⟩ = some (.slice (some ⟨gi, oi, none⟩) r ci) ∧ w'.cell? ⟨gi, oi + q, none⟩ = some (.int .i64 (n : Int))) (by kernel_rfl) ⟨x0, x1, b0, b1, b2, b3⟩ (fun hHeld => ?_)
      refine takeY 0 _ (v := ?_) rfl rfl (by kernel_rfl) (by kernel_rfl) (by kernel_rfl) (fun _ _ _ h => h) (by kernel_rfl) ?_ (by assumption) ?_
      rotate_left 1
      · intro w hSw; (try dsimp only at hSw); go_simp; (try with_reducible rfl)
      try simp only [Act.put, List.setIfInBounds_toArray, List.set_cons_zero, List.set_cons_succ]
      refine takeY 1 _ (v := ?_) rfl rfl (by kernel_rfl) (by kernel_rfl) (by kernel_rfl) (fun _ _ _ h => h) (by kernel_rfl) ?_ (by assumption) ?_
      rotate_left 1
      · intro w hSw; (try dsimp only at hSw); go_simp; (try with_reducible rfl)
      try simp only [Act.put, List.setIfInBounds_toArray, List.set_cons_zero, List.set_cons_succ]
      refine takeY 2 _ (v := ?_) rfl rfl (by kernel_rfl) (by kernel_rfl) (by kernel_rfl) (fun _ _ _ h => h) (by kernel_rfl) ?_ (by assumption) ?_
      rotate_left 1
      · intro w hSw; (try dsimp only at hSw); go_simp; (try with_reducible rfl)
      try simp only [Act.put, List.setIfInBounds_toArray, List.set_cons_zero, List.set_cons_succ]
      refine takeY 3 _ (v := ?_) rfl rfl (by kernel_rfl) (by kernel_rfl) (by kernel_rfl) (fun _ _ _ h => h) (by kernel_rfl) ?_ (by assumption) ?_
      rotate_left 1
      · intro w hSw; (try dsimp only at hSw); go_simp; (try with_reducible rfl)
      try simp only [Act.put, List.setIfInBounds_toArray, List.set_cons_zero, List.set_cons_succ]
      refine takeY 4 _ (v := ?_) rfl rfl (by kernel_rfl) (by kernel_rfl) (by kernel_rfl) (fun _ _ _ h => h) (by kernel_rfl) ?_ (by assumption) ?_
      rotate_left 1
      · intro w hSw; (try dsimp only at hSw); go_simp; (try with_reducible rfl)
      try simp only [Act.put, List.setIfInBounds_toArray, List.set_cons_zero, List.set_cons_succ]
      refine takeY 5 _ (v := ?_) rfl rfl (by kernel_rfl) (by kernel_rfl) (by kernel_rfl) (fun _ _ _ h => h) (by kernel_rfl) ?_ (by assumption) ?_
      rotate_left 1
      · intro w hSw; (try dsimp only at hSw); go_simp; (try with_reducible rfl)
      try simp only [Act.put, List.setIfInBounds_toArray, List.set_cons_zero, List.set_cons_succ]
      refine takeY 6 _ (v := ?_) rfl rfl (by kernel_rfl) (by kernel_rfl) (by kernel_rfl) (fun _ _ _ h => h) (by kernel_rfl) ?_ (by assumption) ?_
      rotate_left 1
      · intro w hSw; (try dsimp only at hSw); go_simp; (try with_reducible rfl)
      try simp only [Act.put, List.setIfInBounds_toArray, List.set_cons_zero, List.set_cons_succ]
      refine takeY 7 _ (v := ?_) rfl rfl (by kernel_rfl) (by kernel_rfl) (by kernel_rfl) (fun _ _ _ h => h) (by kernel_rfl) ?_ (by assumption) ?_
      rotate_left 1
      · intro w hSw; (try dsimp only at hSw); go_simp; (try with_reducible rfl)
      try simp only [Act.put, List.setIfInBounds_toArray, List.set_cons_zero, List.set_cons_succ]
      refine takeY 8 _ (v := ?_) rfl rfl (by kernel_rfl) (by kernel_rfl) (by kernel_rfl) (fun _ _ _ h => h) (by kernel_rfl) ?_ (by assumption) ?_
      rotate_left 1
      · intro w hSw; (try dsimp only at hSw); go_simp; (try with_reducible rfl)
      try simp only [Act.put, List.setIfInBounds_toArray, List.set_cons_zero, List.set_cons_succ]
      refine takeY 9 _ (v := ?_) rfl rfl (by kernel_rfl) (by kernel_rfl) (by kernel_rfl) (fun _ _ _ h => h) (by kernel_rfl) ?_ (by assumption) ?_
      rotate_left 1
      · intro w hSw; (try dsimp only at hSw); go_simp; (try with_reducible rfl)
      try simp only [Act.put, List.setIfInBounds_toArray, List.set_cons_zero, List.set_cons_succ]
      refine takeY 10 _ (v := ?_) rfl rfl (by kernel_rfl) (by kernel_rfl) (by kernel_rfl) (fun _ _ _ h => h) (by kernel_rfl) ?_ (by assumption) ?_
      rotate_left 1
      · intro w hSw; (try dsimp only at hSw); go_simp; (try with_reducible rfl)
      try simp only [Act.put, List.setIfInBounds_toArray, List.set_cons_zero, List.set_cons_succ]
      refine takeY 11 _ (v := ?_) rfl rfl (by kernel_rfl) (by kernel_rfl) (by kernel_rfl) (fun _ _ _ h => h) (by kernel_rfl) ?_ (by assumption) ?_
      rotate_left 1
      · intro w hSw; (try dsimp only at hSw); go_simp; (try with_reducible rfl)
      try simp only [Act.put, List.setIfInBounds_toArray, List.set_cons_zero, List.set_cons_succ]
      refine takeY 12 _ (v := ?_) rfl rfl (by kernel_rfl) (by kernel_rfl) (by kernel_rfl) (fun _ _ _ h => h) (by kernel_rfl) ?_ (by assumption) ?_
      rotate_left 1
      · intro w hSw; (try dsimp only at hSw); go_simp; (try with_reducible rfl)
      try simp only [Act.put, List.setIfInBounds_toArray, List.set_cons_zero, List.set_cons_succ]
      refine takeY 13 _ (v := ?_) rfl rfl (by kernel_rfl) (by kernel_rfl) (by kernel_rfl) (fun _ _ _ h => h) (by kernel_rfl) ?_ (by assumption) ?_
      rotate_left 1
      · intro w hSw; (try dsimp only at hSw); go_simp; (try with_reducible rfl)
      try simp only [Act.put, List.setIfInBounds_toArray, List.set_cons_zero, List.set_cons_succ]
      refine takeY 14 _ (v := ?_) rfl rfl (by kernel_rfl) (by kernel_rfl) (by kernel_rfl) (fun _ _ _ h => h) (by kernel_rfl) ?_ (by assumption) ?_
      rotate_left 1
      · intro w hSw; (try dsimp only at hSw); go_simp; (try with_reducible rfl)
      try simp only [Act.put, List.setIfInBounds_toArray, List.set_cons_zero, List.set_cons_succ]
      refine takeY 15 _ (v := ?_) rfl rfl (by kernel_rfl) (by kernel_rfl) (by kernel_rfl) (fun _ _ _ h => h) (by kernel_rfl) ?_ (by assumption) ?_
      rotate_left 1
      · intro w hSw; (try dsimp only at hSw); go_simp; (try with_reducible rfl)
      try simp only [Act.put, List.setIfInBounds_toArray, List.set_cons_zero, List.set_cons_succ]
      refine takeY 16 _ (v := ?_) rfl rfl (by kernel_rfl) (by kernel_rfl) (by kernel_rfl) (fun _ _ _ h => h) (by kernel_rfl) ?_ (by assumption) ?_
      rotate_left 1
      · intro w hSw; (try dsimp only at hSw); go_simp; (try with_reducible rfl)
      try simp only [Act.put, List.setIfInBounds_toArray, List.set_cons_zero, List.set_cons_succ]
      refine takeY 17 _ (v := ?_) rfl rfl (by kernel_rfl) (by kernel_rfl) (by kernel_rfl) (fun _ _ _ h => h) (by kernel_rfl) ?_ (by assumption) ?_
      rotate_left 1
      · intro w hSw; (try dsimp only at hSw); go_simp; (try with_reducible rfl)
      try simp only [Act.put, List.setIfInBounds_toArray, List.set_cons_zero, List.set_cons_succ]
      refine wpAnyH_ready (rs := [18]) (by kernel_rfl) (by simp) ?_
      refine AllReadyH.cons rfl (fun K hK => ?_) AllReadyH.nil
      go_simp
      (with_reducible refine (l09Meet_any (.slice A3 n3 c3) (.slice A4 n4 c4) (bt Z p) (bt Z q) n w1.drew HRP.out HRQ.out (HI.out.bl p) (HI.out.bl q) HBP.out HBQ.out hn1 hn2).mono ?_)
      rintro e w2 ⟨rfl, hbb⟩
      have HB2 : Hid (Below w1.heap.size w1 w2) := Lib.hid ((drewN_below w1 1).trans (by exact hbb))
      clear hbb
      refine hK.out _ w2 ⟨by rw [HB2.out.cell (p := ⟨w.heap.size, 0, none⟩) x4]; exact x0, by rw [HB2.out.cell (p := ⟨w.heap.size, 1, none⟩) x4]; exact x1, by rw [HB2.out.cell (p := ⟨g0, o0 + p, none⟩) hg0]; exact b0, by rw [HB2.out.cell (p := ⟨g0, o0 + q, none⟩) hg0]; exact b1, by rw [HB2.out.cell (p := ⟨g1, o1 + p, none⟩) hg1]; exact b2, by rw [HB2.out.cell (p := ⟨gi, oi + q, none⟩) hgi]; exact b3⟩ (fun hHeld => ?_)
      clear hK K
      try simp only [Act.put, List.setIfInBounds_toArray, List.set_cons_zero, List.set_cons_succ]
      refine takeY 19 _ (v := ?_) rfl rfl (by kernel_rfl) (by kernel_rfl) (by kernel_rfl) (fun _ _ _ h => h) (by kernel_rfl) ?_ (by assumption) ?_
      rotate_left 1
      · intro w hSw; (try dsimp only at hSw); go_simp; (try with_reducible rfl)
      try simp only [Act.put, List.setIfInBounds_toArray, List.set_cons_zero, List.set_cons_succ]
      refine takeY 20 _ (v := ?_) rfl rfl (by kernel_rfl) (by kernel_rfl) (by kernel_rfl) (fun _ _ _ h => h) (by kernel_rfl) ?_ (by assumption) ?_
      rotate_left 1
      · intro w hSw; (try dsimp only at hSw); go_simp; (try with_reducible rfl)
      try simp only [Act.put, List.setIfInBounds_toArray, List.set_cons_zero, List.set_cons_succ]
      refine wpAnyH_done (by kernel_rfl) ?_ _
      go_wp2_with fail
      go_ret2
      exact ⟨by rw [E.out.1, E.out.2, HV.out]; rfl, HB1.out.trans (HB2.out.mono HB1.out.size)⟩

end Go.Proofs.Ytohbgfmjnanlkaa
