/- The program's function that tells values, and lists of numbers that it chooses: contracts. Conditions: stated at each theorem. -/
import Derived.Test.YtncgkoanckefmaaVuM
import Derived.Test.YtncgkoanckefmaaApS
namespace Go.Proofs.Ytncgkoanckefmaa
open Go.ChangeShapes Go.WideShapes Go.ChangeAt Go.RowKit Go.Deep
set_option linter.unusedVariables false
set_option linter.unusedSimpArgs false

theorem cell_kept {lo hi : Nat} {w w' : World} (k : Kept lo hi w w') {p : Addr} (h1 : lo ≤ p.block) (h2 : p.block < hi) : w'.cell? p = w.cell? p := by
  unfold World.cell?; rw [k.block _ h1 h2]
/-- What the function that tells values holds on to. -/
def VT (w : World) (lo hi : Nat) (zs : List Int) (p3 p4 : Nat) : Prop :=
  ∃ gl N : Nat, (N : Int) = dvA zs 0 ∧ (lo ≤ gl ∧ gl < hi) ∧ (lo ≤ p3 ∧ p3 < hi) ∧ (lo ≤ p4 ∧ p4 < hi) ∧ OwnI w gl (gl + 1) (.slice (some ⟨gl, 0, none⟩) N N) (apL zs) ∧
    w.cell? ⟨p3, 0, none⟩ = some (.slice (some ⟨gl, 0, none⟩) N N) ∧ w.cell? ⟨p4, 0, none⟩ = some (.int .i64 (N : Int))
theorem VT.kept {w w' : World} {lo hi : Nat} {zs : List Int} {p3 p4 : Nat} (h : VT w lo hi zs p3 p4) (k : Kept lo hi w w') : VT w' lo hi zs p3 p4 := by
  obtain ⟨gl, N, h1, h2, h3, h4, h5, h6, h7⟩ := h
  exact ⟨gl, N, h1, h2, h3, h4, h5.kept ⟨k.size, fun b hb1 hb2 => k.block b (by omega) (by omega)⟩, (cell_kept k (p := ⟨p3, 0, none⟩) h3.1 h3.2).trans h6, (cell_kept k (p := ⟨p4, 0, none⟩) h4.1 h4.2).trans h7⟩
theorem VT.wide {w : World} {lo hi lo' hi' : Nat} {zs : List Int} {p3 p4 : Nat} (h : VT w lo hi zs p3 p4) (h1 : lo' ≤ lo) (h2 : hi ≤ hi') : VT w lo' hi' zs p3 p4 := by
  obtain ⟨gl, N, a, b, c, d, e⟩ := h
  exact ⟨gl, N, a, ⟨by omega, by omega⟩, ⟨by omega, by omega⟩, ⟨by omega, by omega⟩, e⟩
set_option maxRecDepth 100000 in
set_option maxHeartbeats 1000000 in
theorem test1_any (zs : List Int) (x : Int) (lo hi p3 p4 : Nat) (w : World) (hp : brB zs = true) (hv : VT w lo hi zs p3 p4) (hx : 0 ≤ x ∧ x ≤ 1000000) :
    Calls Try.prog 116 #[.int .i64 x, .pointer (some ⟨p3, 0, none⟩), .pointer (some ⟨p4, 0, none⟩)] w fun e w' => e = .returned (.bool (reB zs x)) ∧ ∃ n, w' = w.drewN n := by
  obtain ⟨gl, N, hN, _, _, _, ho, c3, c4⟩ := hv
  have hd := dvA_pos hp (i := 0) (brB_pos hp)
  obtain ⟨q, hqN, hqt, hqe, hqn⟩ := mod_nat (x := x) (N := N) hx.1 (by omega)
  obtain ⟨g', e1, _, _, ca, _⟩ := own_at ho (by rw [apL_len]; omega) hqN
  cases e1
  rw [apL_at (by omega)] at ca
  have hr := apA_range hp (q : Int)
  have HA : Hid (apA zs x = apA zs (q : Int)) := Lib.hid (by rw [← apA_mod hp x, ← hN, hqe])
  have HRE := Lib.hid (reB_ap hp x)
  have hNz : ((N : Int) == 0) = false := by simp; omega
  have hNz2 : ¬ (N : Int) = 0 := by omega
  have hNz3 : ¬ N = 0 := by omega
  have p2 : IntKind.i64.wrap (q : Int) = (q : Int) := IntWalk.i64_in _ (by omega)
  have hqi : (q : Int) < (N : Int) := by omega
  have HD : Hid (decide (x ≥ apA zs (q : Int)) = reB zs x) := Lib.hid (by
    by_cases h : reB zs x = true
    · have h2 := HRE.out.1 h
      rw [HA.out] at h2
      rw [h, decide_eq_true h2]
    · have h2 : ¬ apA zs x ≤ x := fun h3 => h (HRE.out.2 h3)
      rw [HA.out] at h2
      rw [decide_eq_false h2]
      cases h4 : reB zs x
      · rfl
      · exact absurd h4 h)
  have HD2 : Hid (decide (apA zs (q : Int) ≤ x) = reB zs x) := Lib.hid HD.out
  clear hN hqe hqn ho hd
  go_enter Try.func116, Try.ntmps116
  go_upto_region 1 with fail
  refine wp_region_held_drew (S := fun w' => w'.cell? ⟨p3, 0, none⟩ = some (.slice (some ⟨gl, 0, none⟩) N N) ∧ w'.cell? ⟨p4, 0, none⟩ = some (.int .i64 (N : Int)) ∧ w'.cell? ⟨gl, q, none⟩ = some (.int .i64 (apA zs (q : Int)))) (by kernel_rfl) ⟨c3, c4, ca⟩ (fun hHeld => ?_)
  refine takeY 0 _ (v := ?_) rfl rfl (by kernel_rfl) (by kernel_rfl) (by kernel_rfl) (fun _ _ _ h => h) (by kernel_rfl) ?_ (by assumption) ?_
  rotate_left 1
  · intro w hSw; (try dsimp only at hSw); go_simp; (try with_reducible rfl)
  try simp only [Act.put, List.setIfInBounds_toArray, List.set_cons_zero, List.set_cons_succ]
  refine takeY 1 _ (v := ?_) rfl rfl (by kernel_rfl) (by kernel_rfl) (by kernel_rfl) (fun _ _ _ h => h) (by kernel_rfl) ?_ (by assumption) ?_
  rotate_left 1
  · intro w hSw; (try dsimp only at hSw); go_simp; (try with_reducible rfl)
  try simp only [Act.put, List.setIfInBounds_toArray, List.set_cons_zero, List.set_cons_succ]
  refine takeY 2 _ (v := ?_) rfl rfl (by kernel_rfl) (by kernel_rfl) (by kernel_rfl) (fun _ _ _ h => h) (by kernel_rfl) ?_ (by assumption) ?_
  rotate_left 1
  · intro w hSw; (try dsimp only at hSw); go_simp; (try with_reducible rfl)
  try simp only [Act.put, List.setIfInBounds_toArray, List.set_cons_zero, List.set_cons_succ]
  refine takeY 3 _ (v := ?_) rfl rfl (by kernel_rfl) (by kernel_rfl) (by kernel_rfl) (fun _ _ _ h => h) (by kernel_rfl) ?_ (by assumption) ?_
  rotate_left 1
  · intro w hSw; (try dsimp only at hSw); go_simp; (try with_reducible rfl)
  try simp only [Act.put, List.setIfInBounds_toArray, List.set_cons_zero, List.set_cons_succ]
  refine takeY 4 _ (v := ?_) rfl rfl (by kernel_rfl) (by kernel_rfl) (by kernel_rfl) (fun _ _ _ h => h) (by kernel_rfl) ?_ (by assumption) ?_
  rotate_left 1
  · intro w hSw; (try dsimp only at hSw); go_simp; (try with_reducible rfl)
  try simp only [Act.put, List.setIfInBounds_toArray, List.set_cons_zero, List.set_cons_succ]
  refine takeY 5 _ (v := ?_) rfl rfl (by kernel_rfl) (by kernel_rfl) (by kernel_rfl) (fun _ _ _ h => h) (by kernel_rfl) ?_ (by assumption) ?_
  rotate_left 1
  · intro w hSw; (try dsimp only at hSw); go_simp; (try with_reducible rfl)
  try simp only [Act.put, List.setIfInBounds_toArray, List.set_cons_zero, List.set_cons_succ]
  refine takeY 6 _ (v := ?_) rfl rfl (by kernel_rfl) (by kernel_rfl) (by kernel_rfl) (fun _ _ _ h => h) (by kernel_rfl) ?_ (by assumption) ?_
  rotate_left 1
  · intro w hSw; (try dsimp only at hSw); go_simp; (try with_reducible rfl)
  try simp only [Act.put, List.setIfInBounds_toArray, List.set_cons_zero, List.set_cons_succ]
  refine takeY 7 _ (v := ?_) rfl rfl (by kernel_rfl) (by kernel_rfl) (by kernel_rfl) (fun _ _ _ h => h) (by kernel_rfl) ?_ (by assumption) ?_
  rotate_left 1
  · intro w hSw; (try dsimp only at hSw); go_simp; (try with_reducible rfl)
  try simp only [Act.put, List.setIfInBounds_toArray, List.set_cons_zero, List.set_cons_succ]
  refine takeY 8 _ (v := ?_) rfl rfl (by kernel_rfl) (by kernel_rfl) (by kernel_rfl) (fun _ _ _ h => h) (by kernel_rfl) ?_ (by assumption) ?_
  rotate_left 1
  · intro w hSw; (try dsimp only at hSw); go_simp; (try with_reducible rfl)
  try simp only [Act.put, List.setIfInBounds_toArray, List.set_cons_zero, List.set_cons_succ]
  refine wpAnyH_done (by kernel_rfl) ?_ _
  go_wp2_with fail
  go_ret
  exact ⟨by rw [HD2.out]; rfl, 1, rfl⟩

set_option maxRecDepth 100000 in
set_option maxHeartbeats 1000000 in
theorem valueTest_any (v : Value) (zs : List Int) (w : World) (h : ReadI w w.heap.size v zs) (hn : zs.length ≤ 1048576) (hp : brB zs = true) :
    Calls Try.prog 81 #[.agg #[v]] w fun e w' => ∃ p3 p4, e = .returned (.func (.func 116) #[] #[.pointer (some ⟨p3, 0, none⟩), .pointer (some ⟨p4, 0, none⟩)]) ∧ VT w' w.heap.size w'.heap.size zs p3 p4 ∧ Below w.heap.size w w' := by
  have hmf : ∀ (fn : Fn) (first cap : Array Value) (w : World), (Instr.makeFunc fn first cap).run Try.prog w = .ok (.func fn first cap) w := fun _ _ _ _ => rfl
  have HP := Lib.hid hp
  obtain ⟨n, A, c, rfl, hr, HL, _, hnc, HF, hcm⟩ := h.split2
  obtain ⟨W0, HE⟩ : ∃ W, W = w.alloc (.cells #[.slice A n c] 28) := ⟨_, rfl⟩
  have hb0 : Below w.heap.size w W0 := by rw [HE]; exact below_box _ _
  have H0 := Lib.hid ((h.below hb0).more hb0.size)
  have HNN := Lib.hid hn
  have hd := dvA_pos hp (i := 0) (brB_pos hp)
  have HEQ := Lib.hid HE
  obtain ⟨N, hN⟩ : ∃ N : Nat, (N : Int) = dvA zs 0 := ⟨(dvA zs 0).toNat, by omega⟩
  clear h hr HE HF hn hp
  go_enter Try.func81, Try.ntmps81
  go_wp2_with fail
  rw [← HEQ.out]
  refine (apery_any _ zs N W0 H0.out HNN.out HP.out hN).mono ?_
  rintro e W1 ⟨gl, rfl, ho, hb1⟩
  have hgl := (ho.1 : Own W1 W0.heap.size _ _ _).lt gl rfl
  have HT := Lib.hid (own_tight ho hgl.2)
  have HB := Lib.hid (hb0.trans (hb1.mono hb0.size))
  have HNI := Lib.hid hN
  have hs0 := hb0.size
  clear hb1 hb0 ho hN
  go_wp2_with fail
  go_ret
  have k1 : Below W1.heap.size W1 (W1.alloc (.cells #[.slice (some ⟨gl, 0, none⟩) N N] 22)) := below_box2 _ _
  have k2 := below_box2 (W1.alloc (.cells #[.slice (some ⟨gl, 0, none⟩) N N] 22)) (.cells #[.int .i64 (N : Int)] 2)
  have z1 : (W1.alloc (.cells #[.slice (some ⟨gl, 0, none⟩) N N] 22)).heap.size = W1.heap.size + 1 := by simp
  have z2 : ((W1.alloc (.cells #[.slice (some ⟨gl, 0, none⟩) N N] 22)).alloc (.cells #[.int .i64 (N : Int)] 2)).heap.size = W1.heap.size + 2 := by simp
  refine ⟨W1.heap.size, W1.heap.size + 1, rfl, ⟨gl, N, HNI.out, ⟨by omega, by omega⟩, ⟨by omega, by omega⟩, ⟨by omega, by omega⟩, HT.out.kept (Kept.of_below (k1.trans (k2.mono (by omega))) (by omega)), ?_, ?_⟩, HB.out.trans ((k1.trans (k2.mono (by omega))).mono (by omega))⟩
  · exact (k2.cell (p := ⟨W1.heap.size, 0, none⟩) (by show W1.heap.size < _; omega)).trans (BoxI.new W1 _ _).1
  · have := (BoxI.new (W1.alloc (.cells #[.slice (some ⟨gl, 0, none⟩) N N] 22)) (.int .i64 (N : Int)) 2).1
    rwa [z1] at this
/-- The function that tells gaps holds on to the function that tells values. -/
def GT (w : World) (lo hi : Nat) (zs : List Int) (p5 : Nat) : Prop :=
  (lo ≤ p5 ∧ p5 < hi) ∧ ∃ p3 p4, w.cell? ⟨p5, 0, none⟩ = some (.func (.func 116) #[] #[.pointer (some ⟨p3, 0, none⟩), .pointer (some ⟨p4, 0, none⟩)]) ∧ VT w lo hi zs p3 p4
theorem GT.kept {w w' : World} {lo hi : Nat} {zs : List Int} {p5 : Nat} (h : GT w lo hi zs p5) (k : Kept lo hi w w') : GT w' lo hi zs p5 := by
  obtain ⟨h1, p3, p4, h2, h3⟩ := h
  exact ⟨h1, p3, p4, (cell_kept k (p := ⟨p5, 0, none⟩) h1.1 h1.2).trans h2, h3.kept k⟩
theorem gap1_any (zs : List Int) (x : Int) (lo hi p5 : Nat) (w : World) (hp : brB zs = true) (hv : GT w lo hi zs p5) (hx : 0 ≤ x ∧ x ≤ 1000000) :
    Calls Try.prog 84 #[.int .i64 x, .pointer (some ⟨p5, 0, none⟩)] w fun e w' => e = .returned (.bool (!reB zs x)) ∧ ∃ n, w' = w.drewN n := by
  obtain ⟨_, p3, p4, hc, hvt⟩ := hv
  go_enter Try.func84, Try.ntmps84
  go_wp2_with fail
  refine (test1_any zs x lo hi p3 p4 w hp hvt hx).mono ?_
  rintro e w' ⟨rfl, nd, rfl⟩
  go_wp2_with fail
  go_ret
  exact ⟨rfl, nd, rfl⟩

set_option maxRecDepth 100000 in
set_option maxHeartbeats 2000000 in
theorem below_values (zs : List Int) (en lo hi : Nat) (p3 p4 : Nat) (w : World) (hp : brB zs = true) (hv : VT w lo hi zs p3 p4) (hhi : hi ≤ w.heap.size) (hen : en ≤ 1000000) :
    Calls Try.prog 80 #[.int .i64 (en : Int), .func (.func 116) #[] #[.pointer (some ⟨p3, 0, none⟩), .pointer (some ⟨p4, 0, none⟩)]] w fun e w' => ∃ v', e = .returned v' ∧ OwnI w' w.heap.size w'.heap.size v' (vlL zs true en) ∧ Below w.heap.size w w' := by
  have HP := Lib.hid hp
  have HV := Lib.hid hv
  clear hp hv
  obtain ⟨i0, hi0, hz0, hz1, hz2⟩ := info_parts int_info
  have HO : Hid (Own w w.heap.size (.slice none 0 0) 0 ((vlL zs true 0).map (.int .i64))) := Lib.hid (Own.nil _ _)
  have HB : Hid (Below w.heap.size w w) := Lib.hid (Below.refl _ _)
  go_enter Try.func80, Try.ntmps80
  go_wp2_with fail
  go_loopw [5, 8] (fun vo vk wr => ∃ (k j : Nat) (A : Option Addr) (c : Nat), k ≤ en ∧ vk = .int .i64 (k : Int) ∧ vo = .slice A j c ∧ Hid ((vlL zs true k).length = j) ∧ Hid (Own wr w.heap.size (.slice A j c) j ((vlL zs true k).map (.int .i64))) ∧ Hid (Below w.heap.size w wr)) (fun _ vk _ => en - (intOf vk).toNat)
  case atStart => exact ⟨0, 0, none, 0, Nat.zero_le _, rfl, rfl, Lib.hid rfl, HO, HB⟩
  case round =>
    clear HO HB
    obtain ⟨k, j, A, c, hk, rfl, rfl, hj, ho, hb⟩ := hrel
    have hsz := hb.out.size
    by_cases hlt : k < en
    · have hki : (k : Int) < (en : Int) := by omega
      have hjk := vlL_len zs true k
      rw [hj.out] at hjk
      have HV1 := Lib.hid (HV.out.kept (Kept.of_below hb.out hhi))
      go_wp2_with fail
      refine (test1_any zs (k : Int) lo hi p3 p4 wr HP.out HV1.out (by omega)).mono ?_
      rintro e w' ⟨rfl, nd, rfl⟩
      have HO2 : Hid (Own (wr.drewN nd) w.heap.size (.slice A j c) j ((vlL zs true k).map (.int .i64))) := Lib.hid (Own.drewN ho.out nd)
      have HB2 : Hid (Below w.heap.size w (wr.drewN nd)) := Lib.hid (below_drewN hb.out nd)
      have hsz2 : w.heap.size ≤ (wr.drewN nd).heap.size := hsz
      clear ho hb
      generalize wr.drewN nd = wr at *
      rcases bool_fs (reB zs (k : Int)) with hre | hre
      · have HVL := Lib.hid (vlL_no (b := true) (by rw [hre]; decide))
        have HJ2 : Hid ((vlL zs true (k + 1)).length = j) := Lib.hid (by rw [HVL.out, hj.out])
        rw [hre]
        clear hre
        go_wp2_with fail
        go_roundw
        case rel => exact ⟨k + 1, j, A, c, by omega, by go_num, rfl, HJ2, Lib.hid (by rw [HVL.out]; exact HO2.out), HB2⟩
        case measure => first | (simp [intOf]; done) | (simp [intOf]; omega)
      · have HVL := Lib.hid (vlL_yes hre)
        have HJ2 : Hid ((vlL zs true (k + 1)).length = j + 1) := Lib.hid (by rw [HVL.out, List.length_append, hj.out]; rfl)
        rw [hre]
        clear hre
        go_wp2_with (at_builtin; refine wpList_append_own _ rfl _ _ 22 rfl w.heap.size 2 i0 (.int .i64 0) 1 8 Try.underlying22 hi0 hz0 hz1 hz2 rfl ?_ _ j ((vlL zs true k).map (.int .i64)) rfl (World.ownsRow.alloc HO2.out _) ⟨wr.heap.size, 0, none⟩ 1 1 [.int .i64 (k : Int)] rfl rfl ?_ ?_ ?_ ?_ ?_ ?_; (decide); (exact World.news_of_block (cs := #[.int .i64 (k : Int)]) (t := 2) (fr := (0, 0)) (heap_alloc_new wr _)); (simp [Value.oneCell']); (simp [maxLen]; omega); (omega); (simp; omega); intro v1 w1 hown1 hgrow _; obtain ⟨A1, c1, rfl⟩ := own_form (n := j + 1) hown1; have HO1 : Hid (Own w1 w.heap.size (.slice A1 (j + 1) c1) (j + 1) ((vlL zs true (k + 1)).map (.int .i64))) := Lib.hid (by rw [HVL.out, List.map_append]; exact hown1); have hb1 : Hid (Below w.heap.size w w1) := Lib.hid ((HB2.out.alloc HB2.out.size _).grown hgrow (by simp; omega) (fun k hk => (Own.lt HO2.out k hk).1)); clear hown1 hgrow)
        go_roundw
        case rel => exact ⟨k + 1, j + 1, A1, c1, by omega, by go_num, rfl, HJ2, HO1, hb1⟩
        case measure => first | (simp [intOf]; done) | (simp [intOf]; omega)
    · obtain rfl : k = en := by omega
      go_wp2_with fail
      go_ret
      exact ⟨_, rfl, OwnI.mk' ho.out, hb.out⟩

set_option maxRecDepth 100000 in
set_option maxHeartbeats 2000000 in
theorem below_gaps (zs : List Int) (en lo hi : Nat) (p5 : Nat) (w : World) (hp : brB zs = true) (hv : GT w lo hi zs p5) (hhi : hi ≤ w.heap.size) (hen : en ≤ 1000000) :
    Calls Try.prog 80 #[.int .i64 (en : Int), .func (.func 84) #[] #[.pointer (some ⟨p5, 0, none⟩)]] w fun e w' => ∃ v', e = .returned v' ∧ OwnI w' w.heap.size w'.heap.size v' (vlL zs false en) ∧ Below w.heap.size w w' := by
  have HP := Lib.hid hp
  have HV := Lib.hid hv
  clear hp hv
  obtain ⟨i0, hi0, hz0, hz1, hz2⟩ := info_parts int_info
  have HO : Hid (Own w w.heap.size (.slice none 0 0) 0 ((vlL zs false 0).map (.int .i64))) := Lib.hid (Own.nil _ _)
  have HB : Hid (Below w.heap.size w w) := Lib.hid (Below.refl _ _)
  go_enter Try.func80, Try.ntmps80
  go_wp2_with fail
  go_loopw [5, 8] (fun vo vk wr => ∃ (k j : Nat) (A : Option Addr) (c : Nat), k ≤ en ∧ vk = .int .i64 (k : Int) ∧ vo = .slice A j c ∧ Hid ((vlL zs false k).length = j) ∧ Hid (Own wr w.heap.size (.slice A j c) j ((vlL zs false k).map (.int .i64))) ∧ Hid (Below w.heap.size w wr)) (fun _ vk _ => en - (intOf vk).toNat)
  case atStart => exact ⟨0, 0, none, 0, Nat.zero_le _, rfl, rfl, Lib.hid rfl, HO, HB⟩
  case round =>
    clear HO HB
    obtain ⟨k, j, A, c, hk, rfl, rfl, hj, ho, hb⟩ := hrel
    have hsz := hb.out.size
    by_cases hlt : k < en
    · have hki : (k : Int) < (en : Int) := by omega
      have hjk := vlL_len zs false k
      rw [hj.out] at hjk
      have HV1 := Lib.hid (HV.out.kept (Kept.of_below hb.out hhi))
      go_wp2_with fail
      refine (gap1_any zs (k : Int) lo hi p5 wr HP.out HV1.out (by omega)).mono ?_
      rintro e w' ⟨rfl, nd, rfl⟩
      have HO2 : Hid (Own (wr.drewN nd) w.heap.size (.slice A j c) j ((vlL zs false k).map (.int .i64))) := Lib.hid (Own.drewN ho.out nd)
      have HB2 : Hid (Below w.heap.size w (wr.drewN nd)) := Lib.hid (below_drewN hb.out nd)
      have hsz2 : w.heap.size ≤ (wr.drewN nd).heap.size := hsz
      clear ho hb
      generalize wr.drewN nd = wr at *
      rcases bool_fs (reB zs (k : Int)) with hre | hre
      · have HVL := Lib.hid (vlL_yes hre)
        have HJ2 : Hid ((vlL zs false (k + 1)).length = j + 1) := Lib.hid (by rw [HVL.out, List.length_append, hj.out]; rfl)
        rw [hre]
        clear hre
        go_wp2_with (at_builtin; refine wpList_append_own _ rfl _ _ 22 rfl w.heap.size 2 i0 (.int .i64 0) 1 8 Try.underlying22 hi0 hz0 hz1 hz2 rfl ?_ _ j ((vlL zs false k).map (.int .i64)) rfl (World.ownsRow.alloc HO2.out _) ⟨wr.heap.size, 0, none⟩ 1 1 [.int .i64 (k : Int)] rfl rfl ?_ ?_ ?_ ?_ ?_ ?_; (decide); (exact World.news_of_block (cs := #[.int .i64 (k : Int)]) (t := 2) (fr := (0, 0)) (heap_alloc_new wr _)); (simp [Value.oneCell']); (simp [maxLen]; omega); (omega); (simp; omega); intro v1 w1 hown1 hgrow _; obtain ⟨A1, c1, rfl⟩ := own_form (n := j + 1) hown1; have HO1 : Hid (Own w1 w.heap.size (.slice A1 (j + 1) c1) (j + 1) ((vlL zs false (k + 1)).map (.int .i64))) := Lib.hid (by rw [HVL.out, List.map_append]; exact hown1); have hb1 : Hid (Below w.heap.size w w1) := Lib.hid ((HB2.out.alloc HB2.out.size _).grown hgrow (by simp; omega) (fun k hk => (Own.lt HO2.out k hk).1)); clear hown1 hgrow)
        go_roundw
        case rel => exact ⟨k + 1, j + 1, A1, c1, by omega, by go_num, rfl, HJ2, HO1, hb1⟩
        case measure => first | (simp [intOf]; done) | (simp [intOf]; omega)
      · have HVL := Lib.hid (vlL_no (b := false) (by rw [hre]; decide))
        have HJ2 : Hid ((vlL zs false (k + 1)).length = j) := Lib.hid (by rw [HVL.out, hj.out])
        rw [hre]
        clear hre
        go_wp2_with fail
        go_roundw
        case rel => exact ⟨k + 1, j, A, c, by omega, by go_num, rfl, HJ2, Lib.hid (by rw [HVL.out]; exact HO2.out), HB2⟩
        case measure => first | (simp [intOf]; done) | (simp [intOf]; omega)
    · obtain rfl : k = en := by omega
      go_wp2_with fail
      go_ret
      exact ⟨_, rfl, OwnI.mk' ho.out, hb.out⟩
end Go.Proofs.Ytncgkoanckefmaa
