/- The length of a sequence and the sequence, the model's: contracts. Conditions: stated at each theorem. -/
import Derived.Test.YtncgkoanckefmaaSqT
import Derived.Test.YtncgkoanckefmaaRep
import Derived.Laws.Small
namespace Go.Proofs.Ytncgkoanckefmaa
open Go.ChangeShapes Go.WideShapes Go.ChangeAt Go.RowKit Go.Deep
set_option linter.unusedVariables false
set_option linter.unusedSimpArgs false

set_option maxHeartbeats 1000000 in
theorem l04Count_any (v : Value) (zs : List Int) (w : World) (h : ReadI w w.heap.size v zs) (hn : zs.length ≤ 1048576) (hp : brB zs = true) :
    Calls Try.prog 120 #[.agg #[v]] w fun e w' => e = .returned (.int .i64 (cntL (rsI zs))) ∧ Below w.heap.size w w' := by
  obtain ⟨n, A, c, rfl, hr, HL, _, hnc, HF, hcm⟩ := h.split2
  obtain ⟨W0, HE⟩ : ∃ W, W = w.alloc (.cells #[.slice A n c] 28) := ⟨_, rfl⟩
  have hb0 : Below w.heap.size w W0 := by rw [HE]; exact below_box _ _
  have H0 := Lib.hid ((h.below hb0).more hb0.size)
  have HNN := Lib.hid hn
  have HP := Lib.hid hp
  have HEQ := Lib.hid HE
  have HOK := Lib.hid (rsS_ok hp).1
  have HLN := (rsS_ok hp).2
  have HCE := Lib.hid (cnt_eq hp)
  clear h hr HE HF hn hp
  go_enter Try.func120, Try.ntmps120
  go_wp2_with fail
  rw [← HEQ.out]
  refine (l04Runs_any _ zs _ H0.out HNN.out HP.out).mono ?_
  rintro e w2 ⟨A2, c2, vf, rfl, ho, hb2⟩
  obtain ⟨N, HN⟩ : ∃ N, (rsS zs).length = N := ⟨_, rfl⟩
  have HQ := Lib.hid HN
  rw [HN] at ho HLN ⊢
  have HR := Lib.hid (steps_read HN ho)
  have HB := Lib.hid (hb0.trans (hb2.mono hb0.size))
  clear HN ho hb2 hb0 HEQ
  go_wp2_with fail
  go_loopw [4, 5] (fun vs vi wr => ∃ (j : Nat) (s : Int), j ≤ N ∧ vs = .int .i64 s ∧ vi = .int .i64 j ∧ Hid (cntL ((rsS zs).take j) = s) ∧ Hid (Below w2.heap.size w2 wr)) (fun _ vi _ => N - (intOf vi).toNat)
  case atStart => exact ⟨0, 0, by omega, rfl, rfl, Lib.hid rfl, Lib.hid (Below.refl _ _)⟩
  case round =>
    obtain ⟨j, s, hj, rfl, rfl, HS, hb⟩ := hrel
    have hsb : 0 ≤ s ∧ s ≤ 2000 * 130000 := by
      have h5 := cntL_bound (take_ok HOK.out j)
      rw [HS.out] at h5
      have h6 : ((rsS zs).take j).length ≤ 130000 := by rw [List.length_take]; omega
      omega
    by_cases hjn : j < N
    · obtain ⟨go, gi, ci, rfl, h1, c1, h2, c3, c4⟩ := HR.out j hjn
      have d1 := (hb.out.cell (p := ⟨go, j, none⟩) h1).trans c1
      have d2 := (hb.out.cell (p := ⟨gi, 0, none⟩) h2).trans c3
      have hx := at_ok HOK.out HQ.out hjn
      have HS2 : Hid (cntL ((rsS zs).take (j + 1)) = s + ((rsS zs)[j]?.getD (0, 0)).1) := Lib.hid (by rw [take_next HQ.out hjn, cntL_snoc, HS.out])
      clear c4
      generalize (rsS zs)[j]?.getD (0, 0) = x at d2 hx HS2 c3
      obtain ⟨q, r⟩ := x
      obtain ⟨⟨hx1, hx2⟩, hx3, hx4⟩ := hx
      dsimp only at *
      have hjq2 : (j : Int) < (N : Int) := by omega
      clear c1 c3 HS
      go_wp2_with fail
      go_roundw
      case rel => exact ⟨j + 1, _, by omega, rfl, by go_num, HS2, hb⟩
      case measure => simp [intOf]; omega
    · obtain rfl : j = N := by omega
      have hmx := @run_max_int2 Try.prog
      by_cases hs1 : s < 1
      · have E : Hid (cntL (rsI zs) = 1) := Lib.hid (by rw [HCE.out, ← take_all HQ.out, HS.out]; omega)
        clear HS
        go_wp2
        go_ret
        exact ⟨by rw [E.out]; rfl, HB.out.trans (hb.out.mono HB.out.size)⟩
      · have E : Hid (cntL (rsI zs) = s) := Lib.hid (by rw [HCE.out, ← take_all HQ.out, HS.out]; omega)
        clear HS
        go_wp2
        go_ret
        exact ⟨by rw [E.out]; rfl, HB.out.trans (hb.out.mono HB.out.size)⟩

theorem flL_take {L : List (Int × Int)} {n j : Nat} (hl : L.length = n) (h : j < n) : flL (L.take (j + 1)) = flL (L.take j) ++ List.replicate ((L[j]?.getD (0, 0)).1).toNat (L[j]?.getD (0, 0)).2 := by
  rw [take_next hl h, flL_snoc]
theorem rep_snoc (k : Nat) (r : Int) (X : List Int) : (X ++ List.replicate k r) ++ [r] = X ++ List.replicate (k + 1) r := by
  rw [List.append_assoc]; congr 1
  exact (List.replicate_succ' (n := k) (a := r)).symm
theorem flL_bound {L : List (Int × Int)} (h : ∀ p ∈ L, StOK p) (hl : L.length ≤ 130000) : (flL L).length ≤ 260000000 := by
  have h1 := flL_len h
  have h2 := cntL_bound h
  omega

set_option maxRecDepth 100000 in
set_option maxHeartbeats 2000000 in
theorem l04Full_any (v : Value) (zs : List Int) (k : Nat) (w : World) (h : ReadI w w.heap.size v zs) (hn : zs.length ≤ 1048576) (hp : brB zs = true) (hk : k ≤ 400) :
    Calls Try.prog 95 #[.agg #[v], .int .i64 k] w fun e w' => ∃ A c, e = .returned (.slice A (seqL zs ++ List.replicate k 1).length c) ∧ OwnI w' w.heap.size w'.heap.size (.slice A (seqL zs ++ List.replicate k 1).length c) (seqL zs ++ List.replicate k 1) ∧ Below w.heap.size w w' := by
  obtain ⟨n, A, c, rfl, hr, HL, _, hnc, HF, hcm⟩ := h.split2
  obtain ⟨W0, HE⟩ : ∃ W, W = w.alloc (.cells #[.slice A n c] 28) := ⟨_, rfl⟩
  have hb0 : Below w.heap.size w W0 := by rw [HE]; exact below_box _ _
  have H0 := Lib.hid ((h.below hb0).more hb0.size)
  have HNN := Lib.hid hn
  have HP := Lib.hid hp
  have HEQ := Lib.hid HE
  have HOK := Lib.hid (rsS_ok hp).1
  have HLN := (rsS_ok hp).2
  have HSE := Lib.hid (seq_eq hp)
  clear h hr HE HF hn hp
  go_enter Try.func95, Try.ntmps95
  go_wp2_with fail
  rw [← HEQ.out]
  refine (l04Runs_any _ zs _ H0.out HNN.out HP.out).mono ?_
  rintro e w2 ⟨A2, c2, vf, rfl, ho, hb2⟩
  obtain ⟨N, HN⟩ : ∃ N, (rsS zs).length = N := ⟨_, rfl⟩
  have HQ := Lib.hid HN
  rw [HN] at ho HLN ⊢
  have HR := Lib.hid (steps_read HN ho)
  have HB := Lib.hid (hb0.trans (hb2.mono hb0.size))
  clear HN ho hb2 hb0 HEQ
  have HO : Hid (OwnI (w2.alloc (.cells #[] 2)) w2.heap.size (w2.alloc (.cells #[] 2)).heap.size (.slice (some ⟨w2.heap.size, 0, none⟩) 0 0) []) := Lib.hid (OwnI.mk' (n := 0) (World.ownsRow_lit w2 #[] 0 (Nat.le_refl _) (by simp [maxLen]) rfl))
  have HB2 : Hid (Below w2.heap.size w2 (w2.alloc (.cells #[] 2))) := Lib.hid (below_box _ _)
  obtain ⟨i0, hi0, hz0, hz1, hz2⟩ := info_parts int_info
  go_wp2_with fail
  go_loopw [6, 7] (fun vo vi wr => ∃ (j M : Nat) (A : Option Addr) (c' : Nat), j ≤ N ∧ M ≤ 260000000 ∧ vo = .slice A M c' ∧ vi = .int .i64 j ∧ Hid ((flL ((rsS zs).take j)).length = M) ∧ Hid (OwnI wr w2.heap.size wr.heap.size (.slice A M c') (flL ((rsS zs).take j))) ∧ Hid (Below w2.heap.size w2 wr)) (fun _ vi _ => N - (intOf vi).toNat)
  case atStart => exact ⟨0, 0, _, _, by omega, by omega, rfl, rfl, Lib.hid rfl, HO, HB2⟩
  case round =>
    obtain ⟨j, M, A, c', hj, hM, rfl, rfl, HM, ho, hb⟩ := hrel
    by_cases hjn : j < N
    · obtain ⟨go, gi, ci, rfl, h1, c1, h2, c3, c4⟩ := HR.out j hjn
      have d1 := (hb.out.cell (p := ⟨go, j, none⟩) h1).trans c1
      have d2 := (hb.out.cell (p := ⟨gi, 0, none⟩) h2).trans c3
      have hx := at_ok HOK.out HQ.out hjn
      have HS2 := Lib.hid (flL_take HQ.out hjn)
      have hfb := flL_bound (take_ok HOK.out (j + 1)) (by rw [List.length_take]; omega)
      generalize (rsS zs)[j]?.getD (0, 0) = x at d2 c3 c4 hx HS2
      obtain ⟨q0, r⟩ := x
      obtain ⟨⟨hx1, hx2⟩, hx3, hx4⟩ := hx
      dsimp only at *
      obtain ⟨q, rfl⟩ : ∃ q : Nat, q0 = (q : Int) := ⟨q0.toNat, by omega⟩
      have hjq2 : (j : Int) < (N : Int) := by omega
      have C1 := Lib.hid c1
      have C4 := Lib.hid c4
      have hMq : M + q ≤ 260000000 := by rw [HS2.out, List.length_append, List.length_replicate, HM.out, Int.toNat_natCast] at hfb; exact hfb
      clear c1 c3 c4 hfb
      go_wp2_with fail
      go_loopw [6, 8] (fun vo vq wr => ∃ (t M2 : Nat) (A : Option Addr) (c' : Nat), t ≤ q ∧ M2 = M + t ∧ vo = .slice A M2 c' ∧ vq = .int .i64 ((q : Int) - (t : Int)) ∧ Hid (OwnI wr w2.heap.size wr.heap.size (.slice A M2 c') (flL ((rsS zs).take j) ++ List.replicate t r)) ∧ Hid (Below w2.heap.size w2 wr)) (fun _ vq _ => (intOf vq).toNat)
      case atStart => exact ⟨0, M, A, c', by omega, by omega, rfl, by simp, Lib.hid (by simpa using ho.out), hb⟩
      case round =>
        obtain ⟨t, M2, A, c', ht, hM2, rfl, rfl, ho2, hb2⟩ := hrel
        by_cases htq : t < q
        · have d1 := (hb2.out.cell (p := ⟨go, j, none⟩) h1).trans C1.out
          have d3 := (hb2.out.cell (p := ⟨gi, 1, none⟩) h2).trans C4.out
          have hq1 : (0 : Int) < (q : Int) - (t : Int) := by omega
          have hw1 : IntKind.i64.wrap ((q : Int) - (t : Int) - 1) = (q : Int) - ((t + 1 : Nat) : Int) := by rw [IntWalk.i64_in _ (by omega)]; omega
          have HW := Lib.hid hw1
          have HX : Hid ((flL ((rsS zs).take j) ++ List.replicate t r) ++ [r] = flL ((rsS zs).take j) ++ List.replicate (t + 1) r) := Lib.hid (rep_snoc _ _ _)
          obtain ⟨X, HXe⟩ : ∃ X, X = (flL ((rsS zs).take j) ++ List.replicate t r).map (Value.int .i64) := ⟨_, rfl⟩
          have hown := ho2.out.1
          have hXl : (flL ((rsS zs).take j) ++ List.replicate t r).length = M2 := by rw [List.length_append, List.length_replicate, HM.out, hM2]
          rw [hXl, ← HXe] at hown
          have HME := Lib.hid hM2
          have hM2b : M2 ≤ 260000000 := by omega
          have HOW := Lib.hid hown
          have HXE := Lib.hid HXe
          have hbs := hb2.out.size
          clear hown HXe hw1 hXl hM2
          go_wp2_with (at_builtin; refine wpList_append_own _ rfl _ _ 22 rfl w2.heap.size 2 i0 (.int .i64 0) 1 8 Try.underlying22 hi0 hz0 hz1 hz2 rfl (by decide) _ M2 X rfl (World.ownsRow.alloc HOW.out _) ⟨wr.heap.size, 0, none⟩ 1 1 [.int .i64 r] rfl rfl (World.news_of_block (cs := #[.int .i64 r]) (t := 2) (fr := (0, 0)) (heap_alloc_new wr _)) (by simp [Value.oneCell']) (by simp only [maxLen]; omega) (by omega) (by simp; omega) ?_; intro v1 w3 hown1 hgrow _; obtain ⟨A1, c1, rfl⟩ := own_form hown1; have HO3 := Lib.hid hown1; have HB3 := Lib.hid ((hb2.out.alloc hb2.out.size _).grown hgrow (by simp; omega) (fun k hk => (World.ownsRow.lt HOW.out k hk).1)); clear hown1 hgrow)
          go_roundw
          case rel =>
            refine ⟨t + 1, M2 + 1, A1, c1, by omega, (by have := HME.out; omega), rfl, ?_, Lib.hid (OwnI.mk' (n := M2 + 1) ?_), HB3⟩
            · exact vintS (by omega)
            · rw [← HX.out, List.map_append, ← HXE.out]; exact HO3.out
          case measure => simp [intOf]; omega
        · obtain rfl : t = q := by omega
          have HM2 : Hid ((flL ((rsS zs).take (j + 1))).length = M2) := Lib.hid (by rw [HS2.out, List.length_append, List.length_replicate, HM.out, hM2]; simp)
          have HO2 : Hid (OwnI wr w2.heap.size wr.heap.size (.slice A M2 c') (flL ((rsS zs).take (j + 1)))) := Lib.hid (by rw [HS2.out]; simpa using ho2.out)
          go_wp2_with fail
          go_roundw
          case rel => exact ⟨j + 1, M2, A, c', by omega, by omega, rfl, by go_num, HM2, HO2, hb2⟩
          case measure => simp [intOf]; omega
    · obtain rfl : j = N := by omega
      have HT : Hid ((rsS zs).take j = rsS zs) := Lib.hid (take_all HQ.out)
      rw [HT.out] at HM ho
      by_cases hM0 : M = 0
      · subst hM0
        have HSQ : Hid (seqL zs = [1]) := Lib.hid (by rw [HSE.out, HM.out, if_pos rfl])
        have hown := ho.out.1
        have HNIL : Hid (flL (rsS zs) = []) := Lib.hid (List.eq_nil_of_length_eq_zero HM.out)
        rw [HNIL.out] at hown
        have HOW : Hid (Own wr w2.heap.size (.slice A 0 c') 0 []) := Lib.hid hown
        have hbs := hb.out.size
        clear hown
        go_wp2_with (at_builtin; refine wpList_append_own _ rfl _ _ 22 rfl w2.heap.size 2 i0 (.int .i64 0) 1 8 Try.underlying22 hi0 hz0 hz1 hz2 rfl (by decide) _ 0 [] rfl (World.ownsRow.alloc HOW.out _) ⟨wr.heap.size, 0, none⟩ 1 1 [.int .i64 1] rfl rfl (World.news_of_block (cs := #[.int .i64 1]) (t := 2) (fr := (0, 0)) (heap_alloc_new wr _)) (by simp [Value.oneCell']) (by simp only [maxLen]; omega) (by omega) (by simp; omega) ?_; intro v1 ws hown1 hgrow _; obtain ⟨A1, c1, rfl⟩ := own_form hown1; have HO3 := Lib.hid hown1; have HB3 := Lib.hid ((hb.out.alloc hb.out.size _).grown hgrow (by simp; omega) (fun k hk => (World.ownsRow.lt HOW.out k hk).1)); clear hown1 hgrow)
        have HS0 : Hid (OwnI ws w2.heap.size ws.heap.size (.slice A1 1 c1) (seqL zs)) := Lib.hid (by rw [HSQ.out]; exact OwnI.mk' (n := 1) HO3.out)
        have HM0 : Hid ((seqL zs).length = 1) := Lib.hid (by rw [HSQ.out]; rfl)
        have HBs := HB3
        clear HO3 HB3
        go_loopw [1, 6] (fun vm vo wr => ∃ (t M2 : Nat) (A : Option Addr) (c' : Nat), t ≤ k ∧ M2 = 1 + t ∧ vo = .slice A M2 c' ∧ vm = .int .i64 ((k : Int) - (t : Int)) ∧ Hid (OwnI wr w2.heap.size wr.heap.size (.slice A M2 c') (seqL zs ++ List.replicate t 1)) ∧ Hid (Below w2.heap.size w2 wr)) (fun vm _ _ => (intOf vm).toNat)
        case atStart => exact ⟨0, 1, _, _, by omega, by omega, rfl, by simp, Lib.hid (by simpa using HS0.out), HBs⟩
        case round =>
          obtain ⟨t, M2, A, c', ht, hM2, rfl, rfl, ho2, hb2⟩ := hrel
          have HXL : Hid ((seqL zs ++ List.replicate t 1).length = M2) := Lib.hid (by rw [List.length_append, List.length_replicate, HM0.out, hM2])
          by_cases htq : t < k
          · have hq1 : (0 : Int) < (k : Int) - (t : Int) := by omega
            have hw1 : IntKind.i64.wrap ((k : Int) - (t : Int) - 1) = (k : Int) - ((t + 1 : Nat) : Int) := by rw [IntWalk.i64_in _ (by omega)]; omega
            have HW := Lib.hid hw1
            have HX : Hid ((seqL zs ++ List.replicate t 1) ++ [1] = seqL zs ++ List.replicate (t + 1) 1) := Lib.hid (rep_snoc _ _ _)
            obtain ⟨X, HXe⟩ : ∃ X, X = (seqL zs ++ List.replicate t 1).map (Value.int .i64) := ⟨_, rfl⟩
            have hown := ho2.out.1
            rw [HXL.out, ← HXe] at hown
            have HOW := Lib.hid hown
            have HXE := Lib.hid HXe
            have hbs := hb2.out.size
            have HME := Lib.hid hM2
            have hM2b : M2 ≤ 260000401 := by omega
            clear hown HXe hw1 hM2
            go_wp2_with (at_builtin; refine wpList_append_own _ rfl _ _ 22 rfl w2.heap.size 2 i0 (.int .i64 0) 1 8 Try.underlying22 hi0 hz0 hz1 hz2 rfl (by decide) _ M2 X rfl (World.ownsRow.alloc HOW.out _) ⟨wr.heap.size, 0, none⟩ 1 1 [.int .i64 1] rfl rfl (World.news_of_block (cs := #[.int .i64 1]) (t := 2) (fr := (0, 0)) (heap_alloc_new wr _)) (by simp [Value.oneCell']) (by simp only [maxLen]; omega) (by omega) (by simp; omega) ?_; intro v1 w3 hown1 hgrow _; obtain ⟨A1, c1, rfl⟩ := own_form hown1; have HO3 := Lib.hid hown1; have HB3 := Lib.hid ((hb2.out.alloc hb2.out.size _).grown hgrow (by simp; omega) (fun k hk => (World.ownsRow.lt HOW.out k hk).1)); clear hown1 hgrow)
            go_roundw
            case rel =>
              refine ⟨t + 1, M2 + 1, A1, c1, by omega, (by have := HME.out; omega), rfl, ?_, Lib.hid (OwnI.mk' (n := M2 + 1) ?_), HB3⟩
              · exact vintS (by omega)
              · rw [← HX.out, List.map_append, ← HXE.out]; exact HO3.out
            case measure => simp [intOf]; omega
          · obtain rfl : t = k := by omega
            have HO2 := Lib.hid (own_lessB ho2.out (lo' := w.heap.size) HB.out.size)
            clear hM2
            go_wp2
            go_ret
            exact ⟨A, c', by rw [HXL.out]; rfl, by rw [HXL.out]; exact HO2.out, HB.out.trans (hb2.out.mono HB.out.size)⟩
      · have HSQ : Hid (seqL zs = flL (rsS zs)) := Lib.hid (by rw [HSE.out, HM.out, if_neg hM0])
        have HM0 : Hid ((seqL zs).length = M) := Lib.hid (by rw [HSQ.out]; exact HM.out)
        have HS0 : Hid (OwnI wr w2.heap.size wr.heap.size (.slice A M c') (seqL zs)) := Lib.hid (by rw [HSQ.out]; exact ho.out)
        have HBs := hb
        have hMi : (M : Int) ≠ 0 := by omega
        have hMb : ((M : Int) == 0) = false := by simpa using hMi
        go_wp2_with fail
        try simp only [hMb]
        clear hMb
        go_loopw [1, 6] (fun vm vo wr => ∃ (t M2 : Nat) (A : Option Addr) (c' : Nat), t ≤ k ∧ M2 = M + t ∧ vo = .slice A M2 c' ∧ vm = .int .i64 ((k : Int) - (t : Int)) ∧ Hid (OwnI wr w2.heap.size wr.heap.size (.slice A M2 c') (seqL zs ++ List.replicate t 1)) ∧ Hid (Below w2.heap.size w2 wr)) (fun vm _ _ => (intOf vm).toNat)
        case atStart => exact ⟨0, M, _, _, by omega, by omega, rfl, by simp, Lib.hid (by simpa using HS0.out), HBs⟩
        case round =>
          obtain ⟨t, M2, A, c', ht, hM2, rfl, rfl, ho2, hb2⟩ := hrel
          have HXL : Hid ((seqL zs ++ List.replicate t 1).length = M2) := Lib.hid (by rw [List.length_append, List.length_replicate, HM0.out, hM2])
          by_cases htq : t < k
          · have hq1 : (0 : Int) < (k : Int) - (t : Int) := by omega
            have hw1 : IntKind.i64.wrap ((k : Int) - (t : Int) - 1) = (k : Int) - ((t + 1 : Nat) : Int) := by rw [IntWalk.i64_in _ (by omega)]; omega
            have HW := Lib.hid hw1
            have HX : Hid ((seqL zs ++ List.replicate t 1) ++ [1] = seqL zs ++ List.replicate (t + 1) 1) := Lib.hid (rep_snoc _ _ _)
            obtain ⟨X, HXe⟩ : ∃ X, X = (seqL zs ++ List.replicate t 1).map (Value.int .i64) := ⟨_, rfl⟩
            have hown := ho2.out.1
            rw [HXL.out, ← HXe] at hown
            have HOW := Lib.hid hown
            have HXE := Lib.hid HXe
            have hbs := hb2.out.size
            have HME := Lib.hid hM2
            have hM2b : M2 ≤ 260000401 := by omega
            clear hown HXe hw1 hM2
            go_wp2_with (at_builtin; refine wpList_append_own _ rfl _ _ 22 rfl w2.heap.size 2 i0 (.int .i64 0) 1 8 Try.underlying22 hi0 hz0 hz1 hz2 rfl (by decide) _ M2 X rfl (World.ownsRow.alloc HOW.out _) ⟨wr.heap.size, 0, none⟩ 1 1 [.int .i64 1] rfl rfl (World.news_of_block (cs := #[.int .i64 1]) (t := 2) (fr := (0, 0)) (heap_alloc_new wr _)) (by simp [Value.oneCell']) (by simp only [maxLen]; omega) (by omega) (by simp; omega) ?_; intro v1 w3 hown1 hgrow _; obtain ⟨A1, c1, rfl⟩ := own_form hown1; have HO3 := Lib.hid hown1; have HB3 := Lib.hid ((hb2.out.alloc hb2.out.size _).grown hgrow (by simp; omega) (fun k hk => (World.ownsRow.lt HOW.out k hk).1)); clear hown1 hgrow)
            go_roundw
            case rel =>
              refine ⟨t + 1, M2 + 1, A1, c1, by omega, (by have := HME.out; omega), rfl, ?_, Lib.hid (OwnI.mk' (n := M2 + 1) ?_), HB3⟩
              · exact vintS (by omega)
              · rw [← HX.out, List.map_append, ← HXE.out]; exact HO3.out
            case measure => simp [intOf]; omega
          · obtain rfl : t = k := by omega
            have HO2 := Lib.hid (own_lessB ho2.out (lo' := w.heap.size) HB.out.size)
            clear hM2
            go_wp2
            go_ret
            exact ⟨A, c', by rw [HXL.out]; rfl, by rw [HXL.out]; exact HO2.out, HB.out.trans (hb2.out.mono HB.out.size)⟩
end Go.Proofs.Ytncgkoanckefmaa
