/- Two branches of a curve, the model's. Conditions: stated at each theorem. -/
import Derived.Test.YtohbgfmjnanlkaaCuN
namespace Go.Proofs.Ytohbgfmjnanlkaa
open Go.ChangeShapes Go.WideShapes Go.ChangeAt Go.RowKit Go.Deep
set_option linter.unusedVariables false
set_option linter.unusedSimpArgs false

theorem BoxI.stayU {w w' : World} {b : Nat} {v : Value} (h : BoxI w b v) (hb : Below w.heap.size w w') : BoxI w' b v := h.kept (Kept.of_below hb h.2)
set_option maxRecDepth 100000 in
set_option maxHeartbeats 1000000 in
theorem l09Pair_any (u v : Value) (xs ys : List Int) (l : Nat) (bb : Bool) (w : World) (hu : ReadI w w.heap.size u xs) (hv : ReadI w w.heap.size v ys) (hnx : xs.length ≤ 1048576) (hny : ys.length ≤ 1048576) (hx : brB xs = true) (hy : brB ys = true) (hl : l ≤ 199) (hbb : bb = true ↔ CuPair xs ys (l + 1)) :
    Calls Try.prog 148 #[.agg #[u], .agg #[v], .int .i64 ((l : Int) + 1)] w fun e w' => e = .returned (.bool bb) ∧ Below w.heap.size w w' := by
  obtain ⟨A1, n1, c1, e1⟩ : ∃ A n c, u = .slice A n c := by obtain ⟨A, c, rfl, _⟩ := hu; exact ⟨A, _, c, rfl⟩
  obtain ⟨A2, n2, c2, e2⟩ : ∃ A n c, v = .slice A n c := by obtain ⟨A, c, rfl, _⟩ := hv; exact ⟨A, _, c, rfl⟩
  subst e1; subst e2
  obtain ⟨W0, HE⟩ : ∃ V, V = (w.alloc (.cells #[.slice A1 n1 c1] 28)).alloc (.cells #[.slice A2 n2 c2] 28) := ⟨_, rfl⟩
  have hb0 : Below w.heap.size w W0 := by rw [HE]; exact (below_box2 _ _).alloc (by simp) _
  have hz : BoxI W0 w.heap.size (.slice A1 n1 c1) := by rw [HE]; exact (BoxI.new w _ _).stayU (below_box2 _ _)
  have hy2 : BoxI W0 (w.heap.size + 1) (.slice A2 n2 c2) := by
    have := BoxI.new (w.alloc (.cells #[.slice A1 n1 c1] 28)) (.slice A2 n2 c2) 28
    rw [HE]; simpa using this
  have HB := Lib.hid hb0; have HEQ := Lib.hid HE; have HZ := Lib.hid hz; have HY := Lib.hid hy2
  have HU := Lib.hid ((hu.below hb0).more hb0.size); have HV := Lib.hid ((hv.below hb0).more hb0.size)
  have HNX := Lib.hid hnx; have HNY := Lib.hid hny; have HX := Lib.hid hx; have HYB := Lib.hid hy; have HBB := Lib.hid hbb
  obtain ⟨n, hn⟩ : ∃ n, n = l + 2 := ⟨_, rfl⟩
  have hn1 : 1 ≤ n := by omega
  have hn4 : n ≤ 400 := by omega
  have HUD : Hid (ReadI W0.drew W0.drew.heap.size (.slice A1 n1 c1) xs) := Lib.hid HU.out
  have p1 : IntKind.i64.wrap ((l : Int) + 1 + 1) = (n : Int) := by rw [IntWalk.i64_in _ (by omega)]; omega
  have p2 : IntKind.i64.wrap ((l : Int) + 1 - 1) = (l : Int) := by rw [IntWalk.i64_in _ (by omega)]; omega
  have z0 := hz.1; have z1 := hz.2; have y0 := hy2.1; have y1 := hy2.2
  have HWX := Lib.hid (cd_wf (mq_ok hx n) (by omega)); have HWY := Lib.hid (cd_wf (mq_ok hy n) (by omega))
  have hrx := cuD_rng hx l; have hry := cuD_rng hy l
  have HNL := Lib.hid hn
  clear hu hv hb0 hz hy2 HE hnx hny hx hy hbb hn
  go_enter Try.func148, Try.ntmps148
  go_wp2_with fail
  rw [← HEQ.out]
  refine wp_region_held_drew (S := fun w' => w'.cell? ⟨w.heap.size, 0, none⟩ = some (.slice A1 n1 c1) ∧ w'.cell? ⟨w.heap.size + 1, 0, none⟩ = some (.slice A2 n2 c2)) (by kernel_rfl) ⟨z0, y0⟩ (fun hHeld => ?_)
  refine takeY 0 _ (v := ?_) rfl rfl (by kernel_rfl) (by kernel_rfl) (by kernel_rfl) (fun _ _ _ h => h) (by kernel_rfl) ?_ (by assumption) ?_
  rotate_left 1
  · intro w hSw; (try dsimp only at hSw); go_simp; (try with_reducible rfl)
  try simp only [Act.put, List.setIfInBounds_toArray, List.set_cons_zero, List.set_cons_succ]
  refine takeY 1 _ (v := ?_) rfl rfl (by kernel_rfl) (by kernel_rfl) (by kernel_rfl) (fun _ _ _ h => h) (by kernel_rfl) ?_ (by assumption) ?_
  rotate_left 1
  · intro w hSw; (try dsimp only at hSw); go_simp; (try with_reducible rfl)
  try simp only [Act.put, List.setIfInBounds_toArray, List.set_cons_zero, List.set_cons_succ]
  refine takeY 2 _ (v := .int .i64 (n : Int)) rfl rfl (by kernel_rfl) (by kernel_rfl) (by kernel_rfl) (fun _ _ _ h => h) (by kernel_rfl) ?_ (by assumption) ?_
  · intro w hSw; (try dsimp only at hSw); go_simp; (try with_reducible rfl)
  try simp only [Act.put, List.setIfInBounds_toArray, List.set_cons_zero, List.set_cons_succ]
  refine takeY 4 _ (v := ?_) rfl rfl (by kernel_rfl) (by kernel_rfl) (by kernel_rfl) (fun _ _ _ h => h) (by kernel_rfl) ?_ (by assumption) ?_
  rotate_left 1
  · intro w hSw; (try dsimp only at hSw); go_simp; (try with_reducible rfl)
  try simp only [Act.put, List.setIfInBounds_toArray, List.set_cons_zero, List.set_cons_succ]
  refine takeY 5 _ (v := ?_) rfl rfl (by kernel_rfl) (by kernel_rfl) (by kernel_rfl) (fun _ _ _ h => h) (by kernel_rfl) ?_ (by assumption) ?_
  rotate_left 1
  · intro w hSw; (try dsimp only at hSw); go_simp; (try with_reducible rfl)
  try simp only [Act.put, List.setIfInBounds_toArray, List.set_cons_zero, List.set_cons_succ]
  refine takeY 6 _ (v := .int .i64 (n : Int)) rfl rfl (by kernel_rfl) (by kernel_rfl) (by kernel_rfl) (fun _ _ _ h => h) (by kernel_rfl) ?_ (by assumption) ?_
  · intro w hSw; (try dsimp only at hSw); go_simp; (try with_reducible rfl)
  try simp only [Act.put, List.setIfInBounds_toArray, List.set_cons_zero, List.set_cons_succ]
  refine wpAnyH_ready (rs := [3]) (by kernel_rfl) (by simp) ?_
  refine AllReadyH.cons rfl (fun K hK => ?_) AllReadyH.nil
  go_simp
  (with_reducible refine (l06Code_any (.slice A1 n1 c1) xs n W0.drew HUD.out HNX.out HX.out hn1 hn4).mono ?_)
  rintro e w2 ⟨A3, c3, rfl, ho3, hb3⟩
  have HB2 : Hid (Below W0.heap.size W0 w2) := Lib.hid ((drewN_below W0 1).trans (by exact hb3))
  have HO3 := Lib.hid (ho3.reads)
  clear ho3 hb3
  refine hK.out _ w2 ⟨(HZ.out.stayU HB2.out).1, (HY.out.stayU HB2.out).1⟩ (fun hHeld => ?_)
  clear hK K
  try simp only [Act.put, List.setIfInBounds_toArray, List.set_cons_zero, List.set_cons_succ]
  refine wpAnyH_ready (rs := [7]) (by kernel_rfl) (by simp) ?_
  refine AllReadyH.cons rfl (fun K hK => ?_) AllReadyH.nil
  go_simp
  (with_reducible refine (l06Code_any (.slice A2 n2 c2) ys n w2 ((HV.out.below HB2.out).more HB2.out.size) HNY.out HYB.out hn1 hn4).mono ?_)
  rintro e w3 ⟨A4, c4, rfl, ho4, hb4⟩
  have HB3 : Hid (Below W0.heap.size W0 w3) := Lib.hid (HB2.out.trans (hb4.mono HB2.out.size))
  have HO4 := Lib.hid (ho4.reads)
  replace HO3 := Lib.hid ((HO3.out.below hb4).more hb4.size)
  clear ho4 hb4
  refine hK.out _ w3 ⟨(HZ.out.stayU HB3.out).1, (HY.out.stayU HB3.out).1⟩ (fun hHeld => ?_)
  clear hK K
  try simp only [Act.put, List.setIfInBounds_toArray, List.set_cons_zero, List.set_cons_succ]
  refine takeY 8 _ (v := ?_) rfl rfl (by kernel_rfl) (by kernel_rfl) (by kernel_rfl) (fun _ _ _ h => h) (by kernel_rfl) ?_ (by assumption) ?_
  rotate_left 1
  · intro w hSw; (try dsimp only at hSw); go_simp; (try with_reducible rfl)
  try simp only [Act.put, List.setIfInBounds_toArray, List.set_cons_zero, List.set_cons_succ]
  refine takeY 9 _ (v := ?_) rfl rfl (by kernel_rfl) (by kernel_rfl) (by kernel_rfl) (fun _ _ _ h => h) (by kernel_rfl) ?_ (by assumption) ?_
  rotate_left 1
  · intro w hSw; (try dsimp only at hSw); go_simp; (try with_reducible rfl)
  try simp only [Act.put, List.setIfInBounds_toArray, List.set_cons_zero, List.set_cons_succ]
  refine wpAnyH_done (by kernel_rfl) ?_ _
  clear hHeld z0 z1 y0 y1
  have hn := HNL.out
  obtain ⟨x, hxe⟩ : ∃ x, cuD xs l = x := ⟨_, rfl⟩
  obtain ⟨y, hye⟩ : ∃ y, cuD ys l = y := ⟨_, rfl⟩
  have L3 : (cdL (mqL xs n) n).length = n - 1 := cdL_len _ _
  have L4 : (cdL (mqL ys n) n).length = n - 1 := cdL_len _ _
  obtain ⟨g3, o3, e3, ee3, hg3, k3⟩ := row_cellsU HO3.out L3 (by omega)
  obtain ⟨g4, o4, e4, ee4, hg4, k4⟩ := row_cellsU HO4.out L4 (by omega)
  simp only [Value.slice.injEq] at ee3 ee4
  obtain ⟨rfl, _, rfl⟩ := ee3
  obtain ⟨rfl, _, rfl⟩ := ee4
  have q3 := k3 l (by omega)
  have q4 := k4 l (by omega)
  rw [List.getD_eq_getElem?_getD, cdL_cuD (by omega)] at q3 q4
  have HCP : Hid (CuPair xs ys (l + 1) ↔ (∀ j, j < l → cuD xs j = cuD ys j) ∧ (x ≠ y ∨ x = 0)) := Lib.hid (by
    unfold CuPair
    rw [show l + 1 - 1 = l by omega, hxe, hye]
    constructor
    · rintro ⟨a, b⟩; exact ⟨fun j hj => a j (by omega), b⟩
    · rintro ⟨a, b⟩; exact ⟨fun j hj => a j (by omega), b⟩)
  have HT := Lib.hid (cd_take (xs := xs) (ys := ys) (N := n) (K := n) (l := l) (by omega) (by omega))
  have cc3 : l ≤ c3 := by have := HO3.out.capU; omega
  have cc4 : l ≤ c4 := by have := HO4.out.capU; omega
  have RT3 := Lib.hid (HO3.out.takeU L3 (show l ≤ n - 1 by omega))
  have RT4 := Lib.hid (HO4.out.takeU L4 (show l ≤ n - 1 by omega))
  obtain ⟨q1, hq1⟩ : ∃ b, decide ((cdL (mqL xs n) n).take l = (cdL (mqL ys n) n).take l) = b := ⟨_, rfl⟩
  have HEC : Hid (∀ (m : Nat) (V : World), V = w3.drewN m → Calls Try.prog 122 #[.slice (some ⟨g3, o3, none⟩) l c3, .slice (some ⟨g4, o4, none⟩) l c4] V fun e w' => e = .returned (.bool q1) ∧ ∃ m, w' = V.drewN m) := Lib.hid (fun m V hV => by
    subst hV
    rw [← hq1]
    exact l01Same_any _ _ ((cdL (mqL xs n) n).take l) ((cdL (mqL ys n) n).take l) (w3.drewN m) w3.heap.size w3.heap.size RT3.out RT4.out (by rw [List.length_take, L3]; omega) (by rw [List.length_take, L4]; omega) (fun z hz => HWX.out z (List.mem_of_mem_take hz)) (fun z hz => HWY.out z (List.mem_of_mem_take hz)))
  have HQ1 := Lib.hid hq1
  rw [hxe] at q3 hrx
  rw [hye] at q4 hry
  have hln : (l : Int) < ((n - 1 : Nat) : Int) := by omega
  clear k3 k4 hxe hye hq1 L3 L4 hn
  go_wp2_with fail
  cases q1 with
  | false =>
    have HNO : Hid (¬ CuPair xs ys (l + 1)) := Lib.hid (fun h => by
      have h1 := HT.out.2 (HCP.out.1 h).1
      have h2 := HQ1.out
      rw [decide_eq_true h1] at h2
      cases h2)
    have R : Hid (false = bb) := Lib.hid (by
      cases e : bb with
      | false => rfl
      | true => exact absurd (HBB.out.1 e) HNO.out)
    go_quiet ((go_at_call 122; first | exact Calls.quiet_of (HEC.out 0 _ rfl) | exact Calls.quiet_of (HEC.out _ _ rfl)))
    go_wp2_with fail
    go_ret
    exact ⟨ret_bool R.out, HB.out.trans ((HB3.out.trans (drewN_below _ _)).mono HB.out.size)⟩
  | true =>
    have HALL := Lib.hid (HT.out.1 (of_decide_eq_true HQ1.out))
    by_cases hxy : x = y
    · subst hxy
      have t1 : (x != x) = false := by simp
      by_cases hx0 : x = 0
      · subst hx0
        have R : Hid (true = bb) := Lib.hid (HBB.out.2 (HCP.out.2 ⟨HALL.out, Or.inr rfl⟩)).symm
        go_quiet ((go_at_call 122; first | exact Calls.quiet_of (HEC.out 0 _ rfl) | exact Calls.quiet_of (HEC.out _ _ rfl)))
        go_wp2_with fail
        go_quiet (fail)
        go_wp2_with fail
        go_ret
        exact ⟨ret_bool R.out, HB.out.trans ((HB3.out.trans ((drewN_below _ _).trans (drewN_below _ _))).mono HB.out.size)⟩
      · have HNO : Hid (¬ CuPair xs ys (l + 1)) := Lib.hid (fun h => by
          rcases (HCP.out.1 h).2 with h1 | h1
          · exact h1 rfl
          · exact hx0 h1)
        have t2 : (x == 0) = false := by simp [hx0]
        have R : Hid (false = bb) := Lib.hid (by
          cases e : bb with
          | false => rfl
          | true => exact absurd (HBB.out.1 e) HNO.out)
        go_quiet ((go_at_call 122; first | exact Calls.quiet_of (HEC.out 0 _ rfl) | exact Calls.quiet_of (HEC.out _ _ rfl)))
        go_wp2_with fail
        go_quiet (fail)
        go_wp2_with fail
        go_ret
        exact ⟨ret_bool R.out, HB.out.trans ((HB3.out.trans ((drewN_below _ _).trans (drewN_below _ _))).mono HB.out.size)⟩
    · have t1 : (x != y) = true := by simp [hxy]
      have R : Hid (true = bb) := Lib.hid (HBB.out.2 (HCP.out.2 ⟨HALL.out, Or.inl hxy⟩)).symm
      go_quiet ((go_at_call 122; first | exact Calls.quiet_of (HEC.out 0 _ rfl) | exact Calls.quiet_of (HEC.out _ _ rfl)))
      go_wp2_with fail
      go_quiet (fail)
      go_wp2_with fail
      go_ret
      exact ⟨ret_bool R.out, HB.out.trans ((HB3.out.trans ((drewN_below _ _).trans (drewN_below _ _))).mono HB.out.size)⟩

def TR3 (M : List (List Int)) (i k j : Nat) : Prop := i ≠ k → i ≠ j → j ≠ k → ¬ (mt M i k < if mt M j k < mt M i j then mt M j k else mt M i j)
end Go.Proofs.Ytohbgfmjnanlkaa
