/- The steps of a branch's runs as an iterator: its contract. Conditions: stated at each theorem. -/
import Derived.Test.YtncgkoanckefmaaSqB
import Derived.Test.YtncgkoanckefmaaSqM
import Derived.Test.YtncgkoanckefmaaBrA
import Derived.Test.YtncgkoanckefmaaMan
namespace Go.Proofs.Ytncgkoanckefmaa
open Go.ChangeShapes Go.WideShapes Go.ChangeAt Go.RowKit Go.Shelf
set_option linter.unusedVariables false
set_option linter.unusedSimpArgs false
attribute [local go_sem] Oper.semAt_some

theorem cell_obj {W : World} {g o : Nat} {v : Value} (h : W.cell? ⟨g, o, none⟩ = some v) : ∃ x, W.heap[g]? = some x ∧ x.isCells = true := by
  unfold World.cell? at h
  cases e : W.heap[g]? with
  | none => simp [e] at h
  | some x =>
    refine ⟨x, rfl, ?_⟩
    cases x <;> simp_all [Obj.isCells]
/-- A step of a run, with its bounds. -/
abbrev Stp := { p : Int × Int // StOK p }
abbrev encStp (x : Stp) : Array Value := #[.int .i64 x.1.1, .int .i64 x.1.2]
def vals (xs : List Stp) : List (Int × Int) := xs.map (·.1)
theorem vals_snoc (xs : List Stp) (x : Stp) : vals (xs ++ [x]) = vals xs ++ [x.1] := by simp [vals]

/-- The memory of new steps. -/
theorem steps_mem {b0 : Nat} {wr w2 : World} {L : List (Int × Int)} {A : Option Addr} {c : Nat} {vf : Nat → Value} (h0 : b0 < wr.heap.size) (hv : RV b0 wr)
    (ho : OwnSS w2 wr.heap.size A L.length c vf two (fun i => (stF L i).map (.int .i64))) (hb : Below wr.heap.size wr w2) : ∀ i, i < L.length →
    ∃ go gi ci, A = some ⟨go, 0, none⟩ ∧ Safe b0 w2 go ∧ w2.cell? ⟨go, i, none⟩ = some (.slice (some ⟨gi, 0, none⟩) 2 ci) ∧ Safe b0 w2 gi ∧ w2.cell? ⟨gi, 0, none⟩ = some (.int .i64 (L[i]?.getD (0, 0)).1) ∧ w2.cell? ⟨gi, 1, none⟩ = some (.int .i64 (L[i]?.getD (0, 0)).2) := by
  intro i hi
  obtain ⟨go, rfl, _, hc⟩ := ho.cell hi
  have hgo := (World.ownsRow.lt ho.outer go rfl).1
  have hin := ho.inner i hi
  rcases hin.2 with ⟨_, e0⟩ | ⟨gi, ci, cur, e, hbi, hgi, _⟩
  · cases e0
  · rw [e] at hc hin
    have hi2 : two i = 2 := rfl
    rw [hi2] at hc hin
    have c0 := World.ownsRow.cellAt hin 0 (by omega)
    have c1 := World.ownsRow.cellAt hin 1 (by omega)
    obtain ⟨x, hx, hxc⟩ := cell_obj hc
    obtain ⟨y, hy, hyc⟩ := cell_obj c0
    exact ⟨go, gi, ci, rfl, safe_new h0 hv hb hgo hx hxc, hc, safe_new h0 hv hb hbi hy hyc, c0, c1⟩
theorem drew_kp (b0 : Nat) (w : World) : KpB b0 w w.drew := ⟨Nat.le_refl _, fun b hb => ⟨rfl, hb.2.1⟩, id⟩
theorem grown_drew (w : World) : w.grownBy w.drew none := ⟨rfl, rfl, rfl, Nat.le_refl _, fun _ _ _ => rfl⟩
theorem rnL_at {zs : List Int} {n k : Nat} (p e : Int) (hl : zs.length = n) (h : k < n) : rnL p e (zs.drop k) = steps (zs[k]?.getD 0 - p) e ++ rnL (zs[k]?.getD 0) (Int.gcd e (zs[k]?.getD 0) : Int) (zs.drop (k + 1)) := by
  rw [drop_at hl h]; rfl
theorem natB_in {x : Int} (h : 1 ≤ x ∧ x ≤ 2000) : natB x = true := natB_true.2 (by omega)

set_option maxRecDepth 100000 in
set_option maxHeartbeats 1000000 in
theorem runIt_stops (m b0 Bn g o n c : Nat) (zs : List Int) (w : World) (hm : 1 ≤ m) (hp : brB zs = true) (hl : zs.length = n) (hv : RV b0 w) (h0 : b0 < w.heap.size) (sB : Safe b0 w Bn)
    (cB : w.cell? ⟨Bn, 0, none⟩ = some (.slice (some ⟨g, o, none⟩) n c)) (hc : n ≤ c) (hcm : c ≤ 9223372036854775807) (sG : Safe b0 w g) (cG : ∀ k, k < n → w.cell? ⟨g, o + k, none⟩ = some (.int .i64 (zs[k]?.getD 0))) :
    SeqStopsK Fence.wide m Try.prog 122 #[.pointer (some ⟨Bn, 0, none⟩)] encStp (KpB b0) (fun xs => vals xs = rsI zs) (fun _ => True) (rsI zs).length w := fun l J Jx W hW hJ hJx hY hJ0 => by
  refine callsIn_of_wp Try.func122 rfl trivial ?_ rfl
  simp only [Try.ntmps122, List.size_toArray, List.length_cons, List.length_nil, Nat.reduceAdd, Nat.reduceSub, Array.replicate_succ, Array.replicate_zero, List.push_toArray, List.append_toArray, List.nil_append, List.cons_append]
  have cBW : W.cell? ⟨Bn, 0, none⟩ = some (.slice (some ⟨g, o, none⟩) n c) := by
    obtain ⟨_, _, x, hx, _⟩ := sB
    rw [hW.cell (p := ⟨Bn, 0, none⟩) (Array.getElem?_eq_some_iff.1 hx).1]; exact cB
  by_cases h1 : n = 1
  · subst h1
    have E : Hid (rsI zs = [(1, 1)]) := Lib.hid (by rw [rsI, if_pos hl])
    obtain ⟨f1, t1, a1, b1, hy1, hR1⟩ := hY [] ⟨(1, 1), by simp [StOK]⟩ W hJ0 (by rw [E.out]; simp)
    dsimp only [encStp] at hy1
    gi_wp2
    refine hR1.mono ?_
    rintro e W1 (⟨rfl, hJ1, _⟩ | ⟨rfl, hx1⟩)
    · gi_wp2
      refine bodyPost_ret (results_none rfl _ _ _) rfl ?_
      exact ⟨⟨_, rfl⟩, .inl ⟨_, by rw [E.out]; rfl, hJ1⟩⟩
    · gi_wp2
      refine bodyPost_ret (results_none rfl _ _ _) rfl ?_
      exact ⟨⟨_, rfl⟩, .inr ⟨_, trivial, hx1⟩⟩
  · have hn1 : (n : Int) ≠ 1 := by omega
    have hn2 : 2 ≤ n := by
      have := brB_pos hp; omega
    have hc2 : 1 < c := by omega
    have hlen : zs.length ≤ 1048576 := by
      obtain ⟨n', r, e, _, _, h3⟩ := br_cons hp
      rw [e]; simp only [List.length_cons]; omega
    have HZ := Lib.hid (dcB_range (brB_dcB hp))
    have hRd : ReadI W W.heap.size (.slice (some ⟨g, o, none⟩) n c) zs := by
      subst hl
      refine ⟨_, _, rfl, ⟨rfl, fun k hk => ⟨_, rfl, ?_, ?_⟩⟩, by simp, hc, fun a e => by cases e; exact ⟨_, _, rfl⟩, hcm⟩
      · obtain ⟨_, _, x, hx, _⟩ := sG
        exact Nat.lt_of_lt_of_le (Array.getElem?_eq_some_iff.1 hx).1 hW.size
      · obtain ⟨_, _, x, hx, _⟩ := sG
        rw [add_lit, hW.cell (p := ⟨g, o + k, none⟩) (Array.getElem?_eq_some_iff.1 hx).1]
        simpa using cG k hk
    have HR := Lib.hid hRd
    clear hRd
    gi_wp2_with fail
    refine ⟨trivial, ?_⟩
    gi_at_call 114
    refine (callsIn_wide.2 (divisors_any _ zs W W.heap.size HR.out hlen (Nat.le_refl _) HZ.out)).mono ?_
    rintro e W1 ⟨v1, rfl, hv1, ho1, hb1⟩
    subst hv1
    have h0W : b0 < W.heap.size := Nat.lt_of_lt_of_le h0 hW.size
    have kW : ∀ b, Safe b0 w b → Safe b0 W b := fun b hb => (KpB.of_below h0 hW).keeps hb
    have hvW : RV b0 W := (KpB.of_below h0 hW).rv hv
    have k1 := KpB.of_below h0W hb1
    have kw1 := (KpB.of_below h0 hW).trans k1
    have sB1 := Lib.hid (kw1.keeps sB)
    have sG1 := Lib.hid (kw1.keeps sG)
    have hv1 := Lib.hid (kw1.rv hv)
    have cB1 : W1.cell? ⟨Bn, 0, none⟩ = some (.slice (some ⟨g, o, none⟩) n c) := by rw [kw1.cell sB]; exact cB
    have cG1 : Hid (∀ k, k < n → W1.cell? ⟨g, o + k, none⟩ = some (.int .i64 (zs[k]?.getD 0))) := Lib.hid fun k hk => by rw [kw1.cell sG]; exact cG k hk
    have cD1 : Hid (∀ k, k < n → W1.cell? ⟨W.heap.size, k, none⟩ = some (.int .i64 ((dvL 0 zs)[k]?.getD 0))) := Lib.hid fun k hk => by
      obtain ⟨g', e1, _, _, h5, _⟩ := own_at (by have := ho1; rw [hl] at this; exact this) (by rw [dvL_len, hl]) hk
      cases e1; exact h5
    have sD1 : Hid (Safe b0 W1 W.heap.size) := Lib.hid (by
      obtain ⟨x, hx, hxc⟩ := cell_obj (cD1.out 0 (by omega))
      exact safe_new h0W hvW hb1 (Nat.le_refl _) hx hxc)
    have hs1 : W.heap.size ≤ W1.heap.size := hb1.size
    have HL := Lib.hid hl
    have J1 : Hid (J [] W1) := Lib.hid (hJ _ _ _ none hJ0 (grown_of_below hb1 none) (fun r e => by cases e))
    have hr0 : Hid (vals [] ++ rnL 0 ((dvL 0 zs)[0]?.getD 0) (zs.drop 1) = rsI zs) := Lib.hid (by
      obtain ⟨n', r, e, h3, _⟩ := br_cons hp
      have h5 := HL.out
      subst e
      rw [dvL_first h3.1, rsI, if_neg (by omega)]; rfl)
    have he0 : Hid ((1 : Int) ≤ (dvL 0 zs)[0]?.getD 0 ∧ (dvL 0 zs)[0]?.getD 0 ≤ 64) := Lib.hid (by
      obtain ⟨n', r, e, h3, _⟩ := br_cons hp
      subst e
      rw [dvL_first h3.1]; exact h3)
    have ha0 : Hid (ascB 0 (zs.drop 1) = true) := Lib.hid (by
      obtain ⟨n', r, e, h3, h4, _⟩ := br_cons hp
      subst e; exact h4)
    have HOK := Lib.hid (rsI_ok hp).1
    rw [hl]
    clear k1 kw1 kW sB cB sG cG ho1 hJ0 hvW hv cBW hW h0 HR hl hp
    gi_wp2_with fail
    gi_loopw [4, 24] (fun v4 v24 wr => ∃ (k : Nat) (p e : Int) (pre : List Stp), k ≤ n - 1 ∧ 0 ≤ p ∧ v4 = .int .i64 p ∧ v24 = .int .i64 k ∧ Hid ((dvL 0 zs)[k]?.getD 0 = e) ∧ (1 ≤ e ∧ e ≤ 64) ∧ Hid (ascB p (zs.drop (k + 1)) = true) ∧ Hid (vals pre ++ rnL p e (zs.drop (k + 1)) = rsI zs) ∧ Hid (J pre wr) ∧ Hid (KpB b0 W1 wr)) (fun _ v24 _ => n - (intOf v24).toNat)
    case atStart => exact ⟨0, 0, _, [], by omega, by omega, rfl, rfl, Lib.hid rfl, he0.out, ha0, hr0, J1, Lib.hid (KpB.refl _ _)⟩
    case round =>
      obtain ⟨k, p, e, pre, hk, hp0, rfl, rfl, HE, he, HA, HRn, HJ, HK⟩ := hrel
      by_cases hkn : k < n - 1
      · have hz := ascB_all HA.out (zs[k + 1]?.getD 0) (by rw [drop_at HL.out (by omega)]; simp)
        have HA2 : Hid (ascB (zs[k + 1]?.getD 0) (zs.drop (k + 1 + 1)) = true) := Lib.hid (by
          have := HA.out; rw [drop_at HL.out (show k + 1 < n by omega)] at this
          simp only [ascB, Bool.and_eq_true] at this; exact this.2)
        have HR2 := Lib.hid (HRn.out.symm.trans (by rw [rnL_at p e HL.out (show k + 1 < n by omega)]))
        have HE2 : Hid ((dvL 0 zs)[k + 1]?.getD 0 = (Int.gcd e (zs[k + 1]?.getD 0) : Int)) := Lib.hid (by rw [dvL_next zs 0 k (by rw [HL.out]; omega), HE.out])
        have cz : wr.cell? ⟨g, o + 1 + k, none⟩ = some (.int .i64 (zs[k + 1]?.getD 0)) := by
          have h5 := cG1.out (k + 1) (by omega)
          rw [HK.out.cell sG1.out, show o + 1 + k = o + (k + 1) by omega]; exact h5
        have ce : wr.cell? ⟨W.heap.size, k, none⟩ = some (.int .i64 e) := by
          rw [HK.out.cell sD1.out, cD1.out k (by omega), HE.out]
        generalize zs[k + 1]?.getD 0 = z at *
        have hge := gcd_le_left (e := e) (z := z) he.1
        have E1 : Hid (esA (z - p) e = steps (z - p) e) := Lib.hid (by simp [esA, natB_in (x := z - p) (by omega), natB_in (x := e) (by omega)])
        have hkn2 : (k : Int) < ((n - 1 : Nat) : Int) := by omega
        have hkn3 : (k : Int) < (n : Int) := by omega
        have hwp : IntKind.i64.wrap (z - p) = z - p := IntWalk.i64_in _ (by omega)
        have h0r : b0 < wr.heap.size := by have := HK.out.size; omega
        gi_wp2_with fail
        refine ⟨trivial, ?_⟩
        gi_at_call 119
        refine (callsIn_wide.2 (implEuclidSteps_any (z - p) e wr)).mono ?_
        rintro e9 w2 ⟨A, c2, vf, rfl, hos, hb2⟩
        rw [E1.out] at hos ⊢
        have HM := Lib.hid (steps_mem h0r (HK.out.rv hv1.out) hos hb2)
        have HK2 := Lib.hid (HK.out.trans (KpB.of_below h0r hb2))
        have HJ2 : Hid (J pre w2) := Lib.hid (hJ _ _ _ none HJ.out (grown_of_below hb2 none) (fun r e => by cases e))
        have HS2 := hb2.size
        obtain ⟨L2, HL2⟩ : ∃ L2, steps (z - p) e = L2 := ⟨_, rfl⟩
        have hq65 : L2.length ≤ 65 := by rw [← HL2]; exact steps_len (by omega)
        rw [HL2] at HM ⊢
        have HR3 : Hid (rsI zs = vals pre ++ (L2 ++ rnL z (Int.gcd e z : Int) (zs.drop (k + 1 + 1)))) := Lib.hid (by rw [← HL2]; exact HR2.out)
        obtain ⟨q, HQ⟩ : ∃ q, L2.length = q := ⟨_, rfl⟩
        rw [HQ] at HM hq65 ⊢
        have HQ' := Lib.hid HQ
        clear HQ HL2 hos hb2 HR2 HRn HJ cz ce HK HE E1
        gi_wp2_with fail
        gi_loopw [42] (fun v42 wr2 => ∃ (j : Nat) (pre2 : List Stp), j ≤ q ∧ v42 = .int .i64 j ∧ Hid (rsI zs = vals pre2 ++ (L2.drop j ++ rnL z (Int.gcd e z : Int) (zs.drop (k + 1 + 1)))) ∧ Hid (J pre2 wr2) ∧ Hid (KpB b0 w2 wr2)) (fun v42 _ => q - (intOf v42).toNat)
        case atStart => exact ⟨0, pre, by omega, rfl, HR3, HJ2, Lib.hid (KpB.refl _ _)⟩
        case round =>
          obtain ⟨j, pre2, hj, rfl, HR4, HJ4, HK4⟩ := hrel
          by_cases hjq : j < q
          · obtain ⟨go, gi, ci, rfl, s1, c1, s2, c3, c4⟩ := HM.out j hjq
            have d1 := (HK4.out.cell s1).trans c1
            have d2 := (HK4.out.cell s2).trans c3
            have d3 := (HK4.out.cell s2).trans c4
            have HX : Hid (rsI zs = vals pre2 ++ ((L2[j]?.getD (0, 0)) :: (L2.drop (j + 1) ++ rnL z (Int.gcd e z : Int) (zs.drop (k + 1 + 1))))) := Lib.hid (by
              rw [HR4.out]
              have h5 : L2.drop j = (L2[j]?.getD (0, 0)) :: L2.drop (j + 1) := by
                have h6 : j < L2.length := by rw [HQ'.out]; exact hjq
                rw [List.drop_eq_getElem_cons h6]; simp [h6]
              rw [h5]; rfl)
            generalize L2[j]?.getD (0, 0) = x at *
            have hx : StOK x := HOK.out x (by rw [HX.out]; simp)
            have hlt : pre2.length < (rsI zs).length := by rw [HX.out]; simp [vals]
            have hjq2 : (j : Int) < (q : Int) := by omega
            have HJd : J pre2 wr.drew := hJ _ _ _ none HJ4.out (grown_drew _) (fun r e => by cases e)
            obtain ⟨f1, t1, a1, y1, hy1, hR1⟩ := hY pre2 ⟨x, hx⟩ wr.drew HJd hlt
            dsimp only [encStp] at hy1
            obtain ⟨x1, x2⟩ := x
            dsimp only at *
            clear c1 c3 c4 HJd
            gi_wp2_with fail
            refine wpIn_region_any (by kernel_rfl) ?_
            try (change wpAnyIn _ _ _ _ _ _ _ _ _ (World.drew _))
            refine wpAnyIn_take (i := 0) (v := ?_) rfl rfl (by kernel_rfl) (by kernel_rfl) (by kernel_rfl) (fun _ _ _ h => h) ⟨Or.inl ⟨by rfl, ?_⟩, fun _ => rfl⟩ ?_
            rotate_left 1
            · intro w; go_simp; (try with_reducible rfl)
            try simp only [Act.put, List.setIfInBounds_toArray, List.set_cons_zero, List.set_cons_succ]
            refine wpAnyIn_take (i := 1) (v := ?_) rfl rfl (by kernel_rfl) (by kernel_rfl) (by kernel_rfl) (fun _ _ _ h => h) ⟨Or.inl ⟨by rfl, ?_⟩, fun _ => rfl⟩ ?_
            rotate_left 1
            · intro w; go_simp; (try with_reducible rfl)
            try simp only [Act.put, List.setIfInBounds_toArray, List.set_cons_zero, List.set_cons_succ]
            refine wpAnyIn_take (i := 2) (v := ?_) rfl rfl (by kernel_rfl) (by kernel_rfl) (by kernel_rfl) (fun _ _ _ h => h) ⟨Or.inl ⟨by rfl, ?_⟩, fun _ => rfl⟩ ?_
            rotate_left 1
            · intro w; go_simp; (try with_reducible rfl)
            try simp only [Act.put, List.setIfInBounds_toArray, List.set_cons_zero, List.set_cons_succ]
            refine wpAnyIn_take (i := 4) (v := ?_) rfl rfl (by kernel_rfl) (by kernel_rfl) (by kernel_rfl) (fun _ _ _ h => h) ⟨Or.inl ⟨by rfl, ?_⟩, fun _ => rfl⟩ ?_
            rotate_left 1
            · intro w; go_simp; (try with_reducible rfl)
            try simp only [Act.put, List.setIfInBounds_toArray, List.set_cons_zero, List.set_cons_succ]
            refine wpAnyIn_take (i := 5) (v := ?_) rfl rfl (by kernel_rfl) (by kernel_rfl) (by kernel_rfl) (fun _ _ _ h => h) ⟨Or.inl ⟨by rfl, ?_⟩, fun _ => rfl⟩ ?_
            rotate_left 1
            · intro w; go_simp; (try with_reducible rfl)
            try simp only [Act.put, List.setIfInBounds_toArray, List.set_cons_zero, List.set_cons_succ]
            refine wpAnyIn_ready (rs := [3, 6]) (by kernel_rfl) (by simp) ?_
            refine (AllReadyIn.cons rfl (fun K hK => ?_) (AllReadyIn.cons rfl (fun K hK => ?_) AllReadyIn.nil))
            · go_simp
              refine hK _ _ ?_
              clear hK K
              try simp only [Act.put, List.setIfInBounds_toArray, List.set_cons_zero, List.set_cons_succ]
              refine wpAnyIn_ready (rs := [6]) (by kernel_rfl) (by simp) ?_
              refine (AllReadyIn.cons rfl (fun K hK => ?_) AllReadyIn.nil)
              go_simp
              refine hK _ _ ?_
              clear hK K
              try simp only [Act.put, List.setIfInBounds_toArray, List.set_cons_zero, List.set_cons_succ]
              refine wpAnyIn_ready (rs := [7]) (by kernel_rfl) (by simp) ?_
              refine (AllReadyIn.cons rfl (fun K hK => ?_) AllReadyIn.nil)
              go_simp
              refine hR1.mono ?_
              rintro e8 W8 (⟨rfl, hJ8, hK8⟩ | ⟨rfl, hJx8⟩)
              · refine hK _ _ ?_
                clear hK K
                try simp only [Act.put, List.setIfInBounds_toArray, List.set_cons_zero, List.set_cons_succ]
                refine wpAnyIn_take (i := 8) (v := ?_) rfl rfl (by kernel_rfl) (by kernel_rfl) (by kernel_rfl) (fun _ _ _ h => h) ⟨Or.inl ⟨by rfl, ?_⟩, fun _ => rfl⟩ ?_
                rotate_left 1
                · intro w; go_simp; (try with_reducible rfl)
                try simp only [Act.put, List.setIfInBounds_toArray, List.set_cons_zero, List.set_cons_succ]
                refine wpAnyIn_done (by kernel_rfl) ?_ _
                gi_wp2_with fail
                go_roundw
                case rel => exact ⟨j + 1, pre2 ++ [⟨(x1, x2), hx⟩], by omega, by go_num, Lib.hid (by rw [HX.out, vals_snoc]; simp), Lib.hid hJ8, Lib.hid (HK4.out.trans ((drew_kp _ _).trans hK8))⟩
                case measure => simp [intOf]; omega
              · refine hK _ _ ?_
                clear hK K
                try simp only [Act.put, List.setIfInBounds_toArray, List.set_cons_zero, List.set_cons_succ]
                refine wpAnyIn_take (i := 8) (v := ?_) rfl rfl (by kernel_rfl) (by kernel_rfl) (by kernel_rfl) (fun _ _ _ h => h) ⟨Or.inl ⟨by rfl, ?_⟩, fun _ => rfl⟩ ?_
                rotate_left 1
                · intro w; go_simp; (try with_reducible rfl)
                try simp only [Act.put, List.setIfInBounds_toArray, List.set_cons_zero, List.set_cons_succ]
                refine wpAnyIn_done (by kernel_rfl) ?_ _
                gi_wp2_with fail
                refine bodyPost_ret (results_none rfl _ _ _) rfl ?_
                exact ⟨⟨_, rfl⟩, .inr ⟨_, trivial, hJx8⟩⟩
            · go_simp
              refine hK _ _ ?_
              clear hK K
              try simp only [Act.put, List.setIfInBounds_toArray, List.set_cons_zero, List.set_cons_succ]
              refine wpAnyIn_ready (rs := [3]) (by kernel_rfl) (by simp) ?_
              refine (AllReadyIn.cons rfl (fun K hK => ?_) AllReadyIn.nil)
              go_simp
              refine hK _ _ ?_
              clear hK K
              try simp only [Act.put, List.setIfInBounds_toArray, List.set_cons_zero, List.set_cons_succ]
              refine wpAnyIn_ready (rs := [7]) (by kernel_rfl) (by simp) ?_
              refine (AllReadyIn.cons rfl (fun K hK => ?_) AllReadyIn.nil)
              go_simp
              refine hR1.mono ?_
              rintro e8 W8 (⟨rfl, hJ8, hK8⟩ | ⟨rfl, hJx8⟩)
              · refine hK _ _ ?_
                clear hK K
                try simp only [Act.put, List.setIfInBounds_toArray, List.set_cons_zero, List.set_cons_succ]
                refine wpAnyIn_take (i := 8) (v := ?_) rfl rfl (by kernel_rfl) (by kernel_rfl) (by kernel_rfl) (fun _ _ _ h => h) ⟨Or.inl ⟨by rfl, ?_⟩, fun _ => rfl⟩ ?_
                rotate_left 1
                · intro w; go_simp; (try with_reducible rfl)
                try simp only [Act.put, List.setIfInBounds_toArray, List.set_cons_zero, List.set_cons_succ]
                refine wpAnyIn_done (by kernel_rfl) ?_ _
                gi_wp2_with fail
                go_roundw
                case rel => exact ⟨j + 1, pre2 ++ [⟨(x1, x2), hx⟩], by omega, by go_num, Lib.hid (by rw [HX.out, vals_snoc]; simp), Lib.hid hJ8, Lib.hid (HK4.out.trans ((drew_kp _ _).trans hK8))⟩
                case measure => simp [intOf]; omega
              · refine hK _ _ ?_
                clear hK K
                try simp only [Act.put, List.setIfInBounds_toArray, List.set_cons_zero, List.set_cons_succ]
                refine wpAnyIn_take (i := 8) (v := ?_) rfl rfl (by kernel_rfl) (by kernel_rfl) (by kernel_rfl) (fun _ _ _ h => h) ⟨Or.inl ⟨by rfl, ?_⟩, fun _ => rfl⟩ ?_
                rotate_left 1
                · intro w; go_simp; (try with_reducible rfl)
                try simp only [Act.put, List.setIfInBounds_toArray, List.set_cons_zero, List.set_cons_succ]
                refine wpAnyIn_done (by kernel_rfl) ?_ _
                gi_wp2_with fail
                refine bodyPost_ret (results_none rfl _ _ _) rfl ?_
                exact ⟨⟨_, rfl⟩, .inr ⟨_, trivial, hJx8⟩⟩
          · obtain rfl : j = q := by omega
            have HR5 : Hid (vals pre2 ++ rnL z (Int.gcd e z : Int) (zs.drop (k + 1 + 1)) = rsI zs) := Lib.hid (by
              have h6 : L2.drop j = [] := List.drop_eq_nil_of_le (by rw [HQ'.out]; exact Nat.le_refl _)
              rw [HR4.out, h6]; rfl)
            gi_wp2_with fail
            go_roundw
            case rel => exact ⟨k + 1, z, (Int.gcd e z : Int), pre2, by omega, by omega, rfl, by go_num, HE2, by omega, HA2, HR5, HJ4, Lib.hid (HK2.out.trans HK4.out)⟩
            case measure => simp [intOf]; omega
      · have hke : k = n - 1 := by omega
        subst hke
        have HX : Hid (vals pre = rsI zs) := Lib.hid (by
          have := HRn.out; rw [drop_end HL.out (by omega)] at this
          simpa [rnL] using this)
        clear HRn HA HE
        gi_wp2
        go_end0
        exact ⟨⟨_, rfl⟩, .inl ⟨pre, HX.out, HJ.out⟩⟩
end Go.Proofs.Ytncgkoanckefmaa
