/- Two clusters: are they alike; sums of products: contracts. Conditions: stated at each theorem. -/
import Derived.Test.YtohbgfmjnanlkaaClG
import Derived.Test.YtohbgfmjnanlkaaZC
namespace Go.Proofs.Ytohbgfmjnanlkaa
open Go.ChangeShapes Go.WideShapes Go.ChangeAt Go.RowKit Go.Deep
set_option linter.unusedVariables false
set_option linter.unusedSimpArgs false

set_option maxRecDepth 100000 in
theorem equalI_any (v u : Value) (p q : List Int) (w : World) (B B' : Nat) (hp : ReadI w B v p) (hq : ReadI w B' u q) (hn : p.length ≤ 1048576) (hm : q.length ≤ 1048576) (hwp : ∀ z ∈ p, (Lit.int .i64 z).wf = true) (hwq : ∀ z ∈ q, (Lit.int .i64 z).wf = true) :
    Calls Try.prog 126 #[v, u] w fun e w' => e = .returned (.bool (decide (p = q))) ∧ ∃ m, w' = w.drewN m := by
  obtain ⟨n, A, c, rfl, hr, HL⟩ := hp.split
  obtain ⟨m, A1, c1, rfl, hr1, HL1⟩ := hq.split
  rw [HL.out] at hn
  rw [HL1.out] at hm
  have H0 := Lib.hid hr
  have H1 := Lib.hid hr1
  have W0 := Lib.hid hwp
  have W1 := Lib.hid hwq
  clear hr hr1 hp hq hwp hwq
  obtain ⟨b, hb⟩ : ∃ b, b = decide (p = q) := ⟨_, rfl⟩
  rw [← hb]
  have HB := Lib.hid hb
  clear hb
  by_cases hnm : n = m
  rotate_left
  · have R : Hid (false = b) := Lib.hid (by rw [HB.out, same_len HL.out HL1.out hnm])
    have T : ((n : Int) == (m : Int)) = false := by simp; omega
    have T2 : ((n : Int) != (m : Int)) = true := by simp; omega
    clear hnm
    go_enter Try.func126, Try.ntmps126
    go_wp2
    go_ret
    exact ⟨ret_bool R.out, 0, rfl⟩
  subst hnm
  go_enter Try.func126, Try.ntmps126
  go_wp2
  go_loopw [13] (fun i wr => ∃ (k d : Nat), k ≤ n ∧ i = .int .i64 k ∧ wr = w.drewN d ∧ Hid (p.take k = q.take k)) (fun i _ => n - (intOf i).toNat)
  case atStart => exact ⟨0, 0, by omega, rfl, rfl, Lib.hid rfl⟩
  case round =>
    obtain ⟨k, d, hk, rfl, rfl, ht⟩ := hrel
    by_cases hlt : k < n
    · obtain ⟨a, rfl, _, hcell⟩ := H0.out.2 k hlt
      obtain ⟨a', rfl, _, hcell'⟩ := H1.out.2 k hlt
      rw [getD_opt] at hcell hcell'
      have hk0 : (0 : Int) ≤ (k : Int) := Int.natCast_nonneg _
      have hk1 : (k : Int) < (n : Int) := by omega
      by_cases he : p[k]?.getD 0 = q[k]?.getD 0
      · have HT : Hid (p.take (k + 1) = q.take (k + 1)) := Lib.hid (take_nextS HL.out HL1.out hlt ht.out he)
        have T : ((p[k]?.getD 0 : Int) != q[k]?.getD 0) = false := by simp [he]
        rw [he] at hcell
        clear he T
        go_wp2
        go_quiet (fail)
        go_wp2
        go_roundw
        case rel => exact ⟨k + 1, d + nq, by omega, by go_num, rfl, HT⟩
        case measure => simp [intOf]; omega
      · have R : Hid (false = b) := Lib.hid (by rw [HB.out, same_not he])
        have T : ((p[k]?.getD 0 : Int) != q[k]?.getD 0) = true := by simp [he]
        clear he
        go_wp2
        go_quiet (fail)
        go_wp2
        go_ret
        exact ⟨ret_bool R.out, d + nq, World.drewN_drewN _ _ _⟩
    · obtain rfl : k = n := by omega
      have R : Hid (true = b) := Lib.hid (by rw [HB.out, same_all HL.out HL1.out ht.out])
      go_wp2
      go_ret
      exact ⟨ret_bool R.out, d, rfl⟩

/-- The sum of the first n products. -/
def pdN (V W : List Int) : Nat → Int
  | 0 => 0
  | n + 1 => pdN V W n + V[n]?.getD 0 * W[n]?.getD 0
theorem mul_rngW {x y : Int} (hx : -100000 ≤ x ∧ x ≤ 100000) (hy : -100000 ≤ y ∧ y ≤ 100000) : -10000000000 ≤ x * y ∧ x * y ≤ 10000000000 := by
  rcases Int.le_total 0 y with h | h
  · have h1 := Int.mul_le_mul_of_nonneg_right hx.1 h
    have h2 := Int.mul_le_mul_of_nonneg_right hx.2 h
    omega
  · have h1 := Int.mul_le_mul_of_nonpos_right hx.1 h
    have h2 := Int.mul_le_mul_of_nonpos_right hx.2 h
    omega
theorem pd_rng {V W : List Int} (hV : wtOK V = true) (hW : wtOK W = true) : ∀ n : Nat, -(10000000000 * n) ≤ pdN V W n ∧ pdN V W n ≤ 10000000000 * n
  | 0 => by simp [pdN]
  | n + 1 => by
    have h1 := pd_rng hV hW n
    have h2 := mul_rngW (wtOK_at (i := n) hV) (wtOK_at (i := n) hW)
    show -(10000000000 * ((n + 1 : Nat) : Int)) ≤ pdN V W n + V[n]?.getD 0 * W[n]?.getD 0 ∧ pdN V W n + V[n]?.getD 0 * W[n]?.getD 0 ≤ 10000000000 * ((n + 1 : Nat) : Int)
    push_cast; omega
set_option maxRecDepth 100000 in
set_option maxHeartbeats 4000000 in
theorem implProduct_any (v u : Value) (V W : List Int) (n : Nat) (w : World) (B B' : Nat) (hv : ReadI w B v V) (hu : ReadI w B' u W) (hl : V.length = n) (hm : W.length = n) (hn1 : 1 ≤ n) (hn : n ≤ 24) (wV : wtOK V = true) (wW : wtOK W = true) :
    Calls Try.prog 68 #[v, u] w fun e w' => e = .returned (.int .i64 (pdN V W n)) ∧ ∃ m, w' = w.drewN m := by
  obtain ⟨A, c, rfl, _⟩ := id hv
  obtain ⟨A', c', rfl, _⟩ := id hu
  rw [hl] at hv ⊢
  rw [hm] at hu ⊢
  obtain ⟨g, o, rfl, H, _⟩ := cells_of hv hl hn1
  obtain ⟨g', o', rfl, H', _⟩ := cells_of hu hm hn1
  have HR := Lib.hid (pd_rng wV wW)
  have HV := Lib.hid wV
  have HW := Lib.hid wW
  clear hv hu hl hm wV wW
  go_enter Try.func68, Try.ntmps68
  go_wp2_with fail
  go_loopw [5, 10] (fun vs vi wr => ∃ (k d : Nat), k ≤ n ∧ vs = .int .i64 (pdN V W k) ∧ vi = .int .i64 k ∧ wr = w.drewN d) (fun _ vi _ => n - (intOf vi).toNat)
  case atStart => exact ⟨0, 0, by omega, rfl, rfl, rfl⟩
  case round =>
    obtain ⟨k, d, hk, rfl, rfl, rfl⟩ := hrel
    by_cases hkn : k < n
    · have hkn2 : (k : Int) < (n : Int) := by omega
      have d1 := H.out k hkn
      have d2 := H'.out k hkn
      have hr := HR.out k
      have hp := mul_rngW (wtOK_at (i := k) HV.out) (wtOK_at (i := k) HW.out)
      have HNX : Hid (pdN V W (k + 1) = pdN V W k + V[k]?.getD 0 * W[k]?.getD 0) := Lib.hid rfl
      obtain ⟨s, hs⟩ : ∃ s, pdN V W k = s := ⟨_, rfl⟩
      obtain ⟨x, hx⟩ : ∃ s, V[k]?.getD 0 = s := ⟨_, rfl⟩
      obtain ⟨y, hy⟩ : ∃ s, W[k]?.getD 0 = s := ⟨_, rfl⟩
      rw [hs] at hr HNX ⊢
      rw [hx] at d1 hp HNX
      rw [hy] at d2 hp HNX
      have p1 : IntKind.i64.wrap (x * y) = x * y := IntWalk.i64_in _ (by omega)
      have p2 : IntKind.i64.wrap (s + x * y) = s + x * y := IntWalk.i64_in _ (by omega)
      clear hs hx hy hr hp
      go_wp2_with fail
      go_roundw
      case rel => exact ⟨k + 1, _, by omega, by rw [HNX.out], by go_num, rfl⟩
      case measure => simp [intOf]; omega
    · obtain rfl : k = n := by omega
      go_wp2_with fail
      go_ret
      exact ⟨rfl, _, rfl⟩

set_option maxRecDepth 100000 in
set_option maxHeartbeats 4000000 in
theorem specProduct_any (v u : Value) (V W : List Int) (n : Nat) (w : World) (B B' : Nat) (hv : ReadI w B v V) (hu : ReadI w B' u W) (hl : V.length = n) (hm : W.length = n) (hn1 : 1 ≤ n) (hn : n ≤ 24) (wV : wtOK V = true) (wW : wtOK W = true) :
    Calls Try.prog 71 #[v, u] w fun e w' => e = .returned (.int .i64 (pdN V W n)) ∧ ∃ m, w' = w.drewN m := by
  obtain ⟨A, c, rfl, _⟩ := id hv
  obtain ⟨A', c', rfl, _⟩ := id hu
  rw [hl] at hv ⊢
  rw [hm] at hu ⊢
  obtain ⟨g, o, rfl, H, _⟩ := cells_of hv hl hn1
  obtain ⟨g', o', rfl, H', _⟩ := cells_of hu hm hn1
  have HR := Lib.hid (pd_rng wV wW)
  have HV := Lib.hid wV
  have HW := Lib.hid wW
  clear hv hu hl hm wV wW
  go_enter Try.func71, Try.ntmps71
  go_wp2_with fail
  go_loopw [5, 6] (fun vs vi wr => ∃ (k d : Nat), k ≤ n ∧ vs = .int .i64 (pdN V W k) ∧ vi = .int .i64 k ∧ wr = w.drewN d) (fun _ vi _ => n - (intOf vi).toNat)
  case atStart => exact ⟨0, 0, by omega, rfl, rfl, rfl⟩
  case round =>
    obtain ⟨k, d, hk, rfl, rfl, rfl⟩ := hrel
    by_cases hkn : k < n
    · have hkn2 : (k : Int) < (n : Int) := by omega
      have d1 := H.out k hkn
      have d2 := H'.out k hkn
      have hr := HR.out k
      have hp := mul_rngW (wtOK_at (i := k) HV.out) (wtOK_at (i := k) HW.out)
      have HNX : Hid (pdN V W (k + 1) = pdN V W k + V[k]?.getD 0 * W[k]?.getD 0) := Lib.hid rfl
      obtain ⟨s, hs⟩ : ∃ s, pdN V W k = s := ⟨_, rfl⟩
      obtain ⟨x, hx⟩ : ∃ s, V[k]?.getD 0 = s := ⟨_, rfl⟩
      obtain ⟨y, hy⟩ : ∃ s, W[k]?.getD 0 = s := ⟨_, rfl⟩
      rw [hs] at hr HNX ⊢
      rw [hx] at d1 hp HNX
      rw [hy] at d2 hp HNX
      have p1 : IntKind.i64.wrap (x * y) = x * y := IntWalk.i64_in _ (by omega)
      have p2 : IntKind.i64.wrap (s + x * y) = s + x * y := IntWalk.i64_in _ (by omega)
      clear hs hx hy hr hp
      go_wp2_with fail
      go_quiet (fail)
      go_wp2_with fail
      go_roundw
      case rel => exact ⟨k + 1, _, by omega, by rw [HNX.out], by go_num, rfl⟩
      case measure => simp [intOf]; omega
    · obtain rfl : k = n := by omega
      go_wp2_with fail
      go_ret
      exact ⟨rfl, _, rfl⟩

def alC (P S W P' S' W' : List Int) : Int := if clB P S W && clB P' S' W' then (if P = P' ∧ S = S' then 0 else 2) else 1
set_option maxRecDepth 100000 in
set_option maxHeartbeats 4000000 in
theorem checkAlike_any (a b c a' b' c' : Value) (P S W P' S' W' : List Int) (w : World) (h : ReadC w w.heap.size a b c P S W) (h' : ReadC w w.heap.size a' b' c' P' S' W') (hP : P.length ≤ 1048576) (hS : S.length ≤ 1048576) (hW : W.length ≤ 1048576) (hP' : P'.length ≤ 1048576) (hS' : S'.length ≤ 1048576) (hW' : W'.length ≤ 1048576) (hwp : ∀ z ∈ P, (Lit.int .i64 z).wf = true) (hws : ∀ z ∈ S, (Lit.int .i64 z).wf = true) (hwp' : ∀ z ∈ P', (Lit.int .i64 z).wf = true) (hws' : ∀ z ∈ S', (Lit.int .i64 z).wf = true) :
    Calls Try.prog 72 #[.agg #[a, b, c], .agg #[a', b', c']] w fun e w' => e = .returned (.int .i64 (alC P S W P' S' W')) ∧ Below w.heap.size w w' := by
  obtain ⟨W0, HE⟩ : ∃ V, V = (w.alloc (.cells #[a, b, c] 36)).alloc (.cells #[a', b', c'] 36) := ⟨_, rfl⟩
  have hb0 : Below w.heap.size w W0 := by rw [HE]; exact (below_box2 _ _).alloc (by simp) _
  have hx : CBox W0 w.heap.size a b c := by rw [HE]; exact (CBox.new w a b c 36).alloc _
  have hy : CBox W0 (w.heap.size + 1) a' b' c' := by
    have := CBox.new (w.alloc (.cells #[a, b, c] 36)) a' b' c' 36
    rw [World.size_alloc] at this
    rw [HE]; exact this
  have HR := Lib.hid ((h.below hb0).more hb0.size)
  have HR' := Lib.hid ((h'.below hb0).more hb0.size)
  have HB := Lib.hid hb0
  have HEQ := Lib.hid HE
  have HX := Lib.hid hx
  have HY := Lib.hid hy
  have HWP := Lib.hid hwp; have HWS := Lib.hid hws; have HWP' := Lib.hid hwp'; have HWS' := Lib.hid hws'
  have x0 := hx.c0; have x1 := hx.c1; have x2 := hx.c2; have x6 := hx.lt
  have y0 := hy.c0; have y1 := hy.c1; have y2 := hy.c2; have y6 := hy.lt
  clear h h' hb0 hx hy HE hwp hws hwp' hws'
  rcases bool_fs (clB P S W) with hp | hp
  · have HK : Hid (alC P S W P' S' W' = 1) := Lib.hid (by simp [alC, hp])
    have HP := Lib.hid hp
    rw [HK.out]
    clear hp
    go_enter Try.func72, Try.ntmps72
    go_wp2_with fail
    rw [← HEQ.out]
    refine (implIsCluster_if a b c P S W W0 HR.out hP hS hW false HP.out).mono ?_
    rintro e w1 ⟨rfl, hb1⟩
    have hX1 := HX.out.below hb1; have hY1 := HY.out.below hb1
    have u0 := hX1.c0; have u1 := hX1.c1; have u2 := hX1.c2; have u6 := hX1.lt
    have v0 := hY1.c0; have v1 := hY1.c1; have v2 := hY1.c2; have v6 := hY1.lt
    have HB1 := Lib.hid (HB.out.trans (hb1.mono HB.out.size))
    have HR1 := Lib.hid ((HR.out.below hb1).more hb1.size); have HR1' := Lib.hid ((HR'.out.below hb1).more hb1.size)
    have HX1 := Lib.hid hX1; have HY1 := Lib.hid hY1
    clear hb1 hX1 hY1 x0 x1 x2 x6 y0 y1 y2 y6
    go_wp2_with fail
    go_ret
    exact ⟨rfl, HB1.out⟩
  rcases bool_fs (clB P' S' W') with hq | hq
  · have HK : Hid (alC P S W P' S' W' = 1) := Lib.hid (by simp [alC, hq])
    have HP := Lib.hid hp
    have HQ := Lib.hid hq
    rw [HK.out]
    clear hp hq
    go_enter Try.func72, Try.ntmps72
    go_wp2_with fail
    rw [← HEQ.out]
    refine (implIsCluster_if a b c P S W W0 HR.out hP hS hW true HP.out).mono ?_
    rintro e w1 ⟨rfl, hb1⟩
    have hX1 := HX.out.below hb1; have hY1 := HY.out.below hb1
    have u0 := hX1.c0; have u1 := hX1.c1; have u2 := hX1.c2; have u6 := hX1.lt
    have v0 := hY1.c0; have v1 := hY1.c1; have v2 := hY1.c2; have v6 := hY1.lt
    have HB1 := Lib.hid (HB.out.trans (hb1.mono HB.out.size))
    have HR1 := Lib.hid ((HR.out.below hb1).more hb1.size); have HR1' := Lib.hid ((HR'.out.below hb1).more hb1.size)
    have HX1 := Lib.hid hX1; have HY1 := Lib.hid hY1
    clear hb1 hX1 hY1 x0 x1 x2 x6 y0 y1 y2 y6
    go_wp2_with fail
    refine (implIsCluster_if a' b' c' P' S' W' w1 HR1'.out hP' hS' hW' false HQ.out).mono ?_
    rintro e w2 ⟨rfl, hb2⟩
    have HB2 := Lib.hid (HB1.out.trans (hb2.mono HB1.out.size))
    clear hb2
    go_wp2_with fail
    go_ret
    exact ⟨rfl, HB2.out⟩
  have HK : Hid (alC P S W P' S' W' = if decide (P = P') = true then (if decide (S = S') = true then 0 else 2) else 2) := Lib.hid (by
    unfold alC
    rw [hp, hq]
    by_cases h1 : P = P'
    · by_cases h2 : S = S'
      · simp [h1, h2]
      · simp [h1, h2]
    · simp [h1])
  have HP := Lib.hid hp
  have HQ := Lib.hid hq
  rw [HK.out]
  obtain ⟨b1, e1⟩ : ∃ x, decide (P = P') = x := ⟨_, rfl⟩
  obtain ⟨b2, e2⟩ : ∃ x, decide (S = S') = x := ⟨_, rfl⟩
  rw [e1, e2]
  have HE1 := Lib.hid e1
  have HE2 := Lib.hid e2
  clear e1 e2 hp hq HK
  go_enter Try.func72, Try.ntmps72
  go_wp2_with fail
  rw [← HEQ.out]
  refine (implIsCluster_if a b c P S W W0 HR.out hP hS hW true HP.out).mono ?_
  rintro e w1 ⟨rfl, hb1⟩
  have hX1 := HX.out.below hb1; have hY1 := HY.out.below hb1
  have u0 := hX1.c0; have u1 := hX1.c1; have u2 := hX1.c2; have u6 := hX1.lt
  have v0 := hY1.c0; have v1 := hY1.c1; have v2 := hY1.c2; have v6 := hY1.lt
  have HB1 := Lib.hid (HB.out.trans (hb1.mono HB.out.size))
  have HR1 := Lib.hid ((HR.out.below hb1).more hb1.size); have HR1' := Lib.hid ((HR'.out.below hb1).more hb1.size)
  have HX1 := Lib.hid hX1; have HY1 := Lib.hid hY1
  clear hb1 hX1 hY1 x0 x1 x2 x6 y0 y1 y2 y6
  go_wp2_with fail
  refine (implIsCluster_if a' b' c' P' S' W' w1 HR1'.out hP' hS' hW' true HQ.out).mono ?_
  rintro e w2 ⟨rfl, hb2⟩
  have hX2 := HX1.out.below hb2; have hY2 := HY1.out.below hb2
  have p0 := hX2.c0; have p1 := hX2.c1; have p2 := hX2.c2; have p6 := hX2.lt
  have q0 := hY2.c0; have q1 := hY2.c1; have q2 := hY2.c2; have q6 := hY2.lt
  have HB2 := Lib.hid (HB1.out.trans (hb2.mono HB1.out.size))
  have HR2 := Lib.hid ((HR1.out.below hb2).more hb2.size); have HR2' := Lib.hid ((HR1'.out.below hb2).more hb2.size)
  clear hb2 hX2 hY2 u0 u1 u2 u6 v0 v1 v2 v6
  go_wp2_with fail
  refine (equalI_any a a' P P' w2 w2.heap.size w2.heap.size HR2.out.1 HR2'.out.1 hP hP' HWP.out HWP'.out).mono ?_
  rintro e w3 ⟨rfl, m1, rfl⟩
  rw [HE1.out]
  cases b1
  · go_wp2_with fail
    go_ret
    exact ⟨rfl, below_drewN HB2.out m1⟩
  · go_wp2_with fail
    refine (equalI_any b b' S S' (w2.drewN m1) w2.heap.size w2.heap.size HR2.out.2.1 HR2'.out.2.1 hS hS' HWS.out HWS'.out).mono ?_
    rintro e w3 ⟨rfl, m2, rfl⟩
    rw [HE2.out]
    cases b2
    · go_wp2_with fail
      go_ret
      exact ⟨rfl, below_drewN HB2.out _⟩
    · go_wp2_with fail
      go_ret
      exact ⟨rfl, below_drewN HB2.out _⟩

set_option maxRecDepth 100000 in
set_option maxHeartbeats 4000000 in
theorem l07Alike_any (a b c a' b' c' : Value) (P S W P' S' W' : List Int) (w : World) (h : ReadC w w.heap.size a b c P S W) (h' : ReadC w w.heap.size a' b' c' P' S' W') (hP : P.length ≤ 1048576) (hS : S.length ≤ 1048576) (hW : W.length ≤ 1048576) (hP' : P'.length ≤ 1048576) (hS' : S'.length ≤ 1048576) (hW' : W'.length ≤ 1048576) (hwp : ∀ z ∈ P, (Lit.int .i64 z).wf = true) (hws : ∀ z ∈ S, (Lit.int .i64 z).wf = true) (hwp' : ∀ z ∈ P', (Lit.int .i64 z).wf = true) (hws' : ∀ z ∈ S', (Lit.int .i64 z).wf = true) :
    Calls Try.prog 69 #[.agg #[a, b, c], .agg #[a', b', c']] w fun e w' => e = .returned (.int .i64 (alC P S W P' S' W')) ∧ Below w.heap.size w w' := by
  obtain ⟨W0, HE⟩ : ∃ V, V = (w.alloc (.cells #[a, b, c] 36)).alloc (.cells #[a', b', c'] 36) := ⟨_, rfl⟩
  have hb0 : Below w.heap.size w W0 := by rw [HE]; exact (below_box2 _ _).alloc (by simp) _
  have hx : CBox W0 w.heap.size a b c := by rw [HE]; exact (CBox.new w a b c 36).alloc _
  have hy : CBox W0 (w.heap.size + 1) a' b' c' := by
    have := CBox.new (w.alloc (.cells #[a, b, c] 36)) a' b' c' 36
    rw [World.size_alloc] at this
    rw [HE]; exact this
  have HR := Lib.hid ((h.below hb0).more hb0.size)
  have HR' := Lib.hid ((h'.below hb0).more hb0.size)
  have HB := Lib.hid hb0
  have HEQ := Lib.hid HE
  have HX := Lib.hid hx
  have HY := Lib.hid hy
  have HWP := Lib.hid hwp; have HWS := Lib.hid hws; have HWP' := Lib.hid hwp'; have HWS' := Lib.hid hws'
  have x0 := hx.c0; have x1 := hx.c1; have x2 := hx.c2; have x6 := hx.lt
  have y0 := hy.c0; have y1 := hy.c1; have y2 := hy.c2; have y6 := hy.lt
  clear h h' hb0 hx hy HE hwp hws hwp' hws'
  rcases bool_fs (clB P S W) with hp | hp
  · have HK : Hid (alC P S W P' S' W' = 1) := Lib.hid (by simp [alC, hp])
    have HP := Lib.hid hp
    rw [HK.out]
    clear hp
    go_enter Try.func69, Try.ntmps69
    go_wp2_with fail
    rw [← HEQ.out]
    refine (l07Is_if a b c P S W W0 HR.out hP hS hW false HP.out).mono ?_
    rintro e w1 ⟨rfl, hb1⟩
    have hX1 := HX.out.below hb1; have hY1 := HY.out.below hb1
    have u0 := hX1.c0; have u1 := hX1.c1; have u2 := hX1.c2; have u6 := hX1.lt
    have v0 := hY1.c0; have v1 := hY1.c1; have v2 := hY1.c2; have v6 := hY1.lt
    have HB1 := Lib.hid (HB.out.trans (hb1.mono HB.out.size))
    have HR1 := Lib.hid ((HR.out.below hb1).more hb1.size); have HR1' := Lib.hid ((HR'.out.below hb1).more hb1.size)
    have HX1 := Lib.hid hX1; have HY1 := Lib.hid hY1
    clear hb1 hX1 hY1 x0 x1 x2 x6 y0 y1 y2 y6
    go_wp2_with fail
    go_ret
    exact ⟨rfl, HB1.out⟩
  rcases bool_fs (clB P' S' W') with hq | hq
  · have HK : Hid (alC P S W P' S' W' = 1) := Lib.hid (by simp [alC, hq])
    have HP := Lib.hid hp
    have HQ := Lib.hid hq
    rw [HK.out]
    clear hp hq
    go_enter Try.func69, Try.ntmps69
    go_wp2_with fail
    rw [← HEQ.out]
    refine (l07Is_if a b c P S W W0 HR.out hP hS hW true HP.out).mono ?_
    rintro e w1 ⟨rfl, hb1⟩
    have hX1 := HX.out.below hb1; have hY1 := HY.out.below hb1
    have u0 := hX1.c0; have u1 := hX1.c1; have u2 := hX1.c2; have u6 := hX1.lt
    have v0 := hY1.c0; have v1 := hY1.c1; have v2 := hY1.c2; have v6 := hY1.lt
    have HB1 := Lib.hid (HB.out.trans (hb1.mono HB.out.size))
    have HR1 := Lib.hid ((HR.out.below hb1).more hb1.size); have HR1' := Lib.hid ((HR'.out.below hb1).more hb1.size)
    have HX1 := Lib.hid hX1; have HY1 := Lib.hid hY1
    clear hb1 hX1 hY1 x0 x1 x2 x6 y0 y1 y2 y6
    go_wp2_with fail
    refine (l07Is_if a' b' c' P' S' W' w1 HR1'.out hP' hS' hW' false HQ.out).mono ?_
    rintro e w2 ⟨rfl, hb2⟩
    have HB2 := Lib.hid (HB1.out.trans (hb2.mono HB1.out.size))
    clear hb2
    go_wp2_with fail
    go_ret
    exact ⟨rfl, HB2.out⟩
  have HK : Hid (alC P S W P' S' W' = if decide (P = P') = true then (if decide (S = S') = true then 0 else 2) else 2) := Lib.hid (by
    unfold alC
    rw [hp, hq]
    by_cases h1 : P = P'
    · by_cases h2 : S = S'
      · simp [h1, h2]
      · simp [h1, h2]
    · simp [h1])
  have HP := Lib.hid hp
  have HQ := Lib.hid hq
  rw [HK.out]
  obtain ⟨b1, e1⟩ : ∃ x, decide (P = P') = x := ⟨_, rfl⟩
  obtain ⟨b2, e2⟩ : ∃ x, decide (S = S') = x := ⟨_, rfl⟩
  rw [e1, e2]
  have HE1 := Lib.hid e1
  have HE2 := Lib.hid e2
  clear e1 e2 hp hq HK
  go_enter Try.func69, Try.ntmps69
  go_wp2_with fail
  rw [← HEQ.out]
  refine (l07Is_if a b c P S W W0 HR.out hP hS hW true HP.out).mono ?_
  rintro e w1 ⟨rfl, hb1⟩
  have hX1 := HX.out.below hb1; have hY1 := HY.out.below hb1
  have u0 := hX1.c0; have u1 := hX1.c1; have u2 := hX1.c2; have u6 := hX1.lt
  have v0 := hY1.c0; have v1 := hY1.c1; have v2 := hY1.c2; have v6 := hY1.lt
  have HB1 := Lib.hid (HB.out.trans (hb1.mono HB.out.size))
  have HR1 := Lib.hid ((HR.out.below hb1).more hb1.size); have HR1' := Lib.hid ((HR'.out.below hb1).more hb1.size)
  have HX1 := Lib.hid hX1; have HY1 := Lib.hid hY1
  clear hb1 hX1 hY1 x0 x1 x2 x6 y0 y1 y2 y6
  go_wp2_with fail
  refine (l07Is_if a' b' c' P' S' W' w1 HR1'.out hP' hS' hW' true HQ.out).mono ?_
  rintro e w2 ⟨rfl, hb2⟩
  have hX2 := HX1.out.below hb2; have hY2 := HY1.out.below hb2
  have p0 := hX2.c0; have p1 := hX2.c1; have p2 := hX2.c2; have p6 := hX2.lt
  have q0 := hY2.c0; have q1 := hY2.c1; have q2 := hY2.c2; have q6 := hY2.lt
  have HB2 := Lib.hid (HB1.out.trans (hb2.mono HB1.out.size))
  have HR2 := Lib.hid ((HR1.out.below hb2).more hb2.size); have HR2' := Lib.hid ((HR1'.out.below hb2).more hb2.size)
  clear hb2 hX2 hY2 u0 u1 u2 u6 v0 v1 v2 v6
  go_wp2_with fail
  refine (l01Same_any a a' P P' w2 w2.heap.size w2.heap.size HR2.out.1 HR2'.out.1 hP hP' HWP.out HWP'.out).mono ?_
  rintro e w3 ⟨rfl, m1, rfl⟩
  rw [HE1.out]
  cases b1
  · go_wp2_with fail
    go_ret
    exact ⟨rfl, below_drewN HB2.out m1⟩
  · go_wp2_with fail
    refine (l01Same_any b b' S S' (w2.drewN m1) w2.heap.size w2.heap.size HR2.out.2.1 HR2'.out.2.1 hS hS' HWS.out HWS'.out).mono ?_
    rintro e w3 ⟨rfl, m2, rfl⟩
    rw [HE2.out]
    cases b2
    · go_wp2_with fail
      go_ret
      exact ⟨rfl, below_drewN HB2.out _⟩
    · go_wp2_with fail
      go_ret
      exact ⟨rfl, below_drewN HB2.out _⟩

end Go.Proofs.Ytohbgfmjnanlkaa
