/- Clusters: weights of simple clusters, the inverse of the proximity matrix: contracts. Conditions: stated at each theorem. -/
import Derived.Test.YtbempmbnhfnlbaaClB
namespace Go.Proofs.Ytbempmbnhfnlbaa
open Go.ChangeShapes Go.WideShapes Go.ChangeAt Go.RowKit Go.Deep
set_option linter.unusedVariables false
set_option linter.unusedSimpArgs false

theorem un_at {i n : Nat} (hi : i < n) (x : Nat) : (fnL (unF i) n)[x]?.getD 0 = unF i x := by
  by_cases h : x < n
  · exact fnL_at h
  · unfold unF
    rw [if_neg (by omega), List.getElem?_eq_none (by rw [fnL_len]; omega)]; rfl
theorem wt_un (P S : List Int) {i n : Nat} (hi : i < n) : wtL P S (fnL (unF i) n) n = smL P S n i := by
  unfold wtL smL smF1
  rw [show (fun x => (fnL (unF i) n)[x]?.getD 0) = unF i from funext fun x => un_at hi x]
theorem un_made {w : World} {g n i : Nat} (h : w.rowIs g 2 n (fun _ => .int .i64 0)) (hg : g < w.heap.size) (hi : i < n) (hn : n ≤ 1048576) : OwnI (w.setCell ⟨g, i, none⟩ (.int .i64 1)) g (g + 1) (.slice (some ⟨g, 0, none⟩) n n) (fnL (unF i) n) :=
  row_ownC ((h.set i (.int .i64 1)).congr fun x hx => by
    unfold unF
    by_cases e : x = i
    · rw [if_pos e, if_pos e]
    · rw [if_neg e, if_neg e]) (by simpa [World.setCell] using hg) hn
theorem un_rng (i x : Nat) : 0 ≤ unF i x ∧ unF i x ≤ 1 := by unfold unF; split <;> decide
def ivA (P S W : List Int) : List (List Int) := if clB P S W then ivQ P S P.length else []
theorem ivA_no {P S W : List Int} (h : clB P S W = false) : ivA P S W = [] := by simp [ivA, h]
theorem ivA_yes {P S W : List Int} {n : Nat} (h : ClOK P S W n) : ivA P S W = ivQ P S n := by simp [ivA, h.b, h.p]
theorem ivA_len (P S W : List Int) : szTot (ivA P S W) ≤ 549755813888 := by
  cases h : clB P S W with
  | false => rw [ivA_no h]; exact szTot_cl (by simp) (by simp)
  | true =>
    obtain ⟨n, hC⟩ := clB_true h
    have hn := hC.hi
    rw [ivA_yes hC]
    refine szTot_cl (by rw [ivQ_len]; exact hn) fun i => ?_
    by_cases hi : i < n
    · rw [ivQ_at hi, smL_len]; exact hn
    · rw [List.getD, List.getElem?_eq_none (by rw [ivQ_len]; omega)]; simp

set_option maxRecDepth 100000 in
set_option maxHeartbeats 4000000 in
theorem simpleW_any (g n i : Nat) (P S : List Int) (w : World) (h : PtsAt w g n n P S) (hg : g < w.heap.size) (ho : okAll P S n = true) (hi : i < n) (hn : n ≤ 24) :
    Calls Try.prog 79 #[.slice (some ⟨g, 0, none⟩) n n, .int .i64 i] w (LAns w (smL P S n i)) := by
  have hi2 : (i : Int) < (n : Int) := by omega
  have hr1 := World.rowIs_made w (.int .i64 0) n 2
  have hl1 : w.heap.size < (w.alloc (.cells (madeCells #[.int .i64 0] n) 2)).heap.size := by simp
  have c1 := hr1.cell hi
  have f1 := hr1.frozen i
  obtain ⟨W1, HL1⟩ : ∃ V, V = w.alloc (.cells ((madeCells #[.int .i64 0] n).setIfInBounds i (.int .i64 1)) 2) := ⟨_, rfl⟩
  have HE1 : W1 = (w.alloc (.cells (madeCells #[.int .i64 0] n) 2)).setCell ⟨w.heap.size, i, none⟩ (.int .i64 1) := by rw [HL1]; symm; go_simp
  have hb1 : Below w.heap.size w W1 := by rw [HE1]; exact (below_box2 _ _).setCell (p := ⟨w.heap.size, i, none⟩) (Nat.le_refl _) _
  have ho1 : OwnI W1 w.heap.size (w.heap.size + 1) (.slice (some ⟨w.heap.size, 0, none⟩) n n) (fnL (unF i) n) := by rw [HE1]; exact un_made hr1 hl1 hi (by omega)
  have HB1 := Lib.hid hb1
  have HO1 := Lib.hid ho1
  have HP1 : Hid (PtsAt W1 g n n P S) := Lib.hid (rowIs_below h hg hb1)
  have hg1 : g < W1.heap.size := Nat.lt_of_lt_of_le hg hb1.size
  have HO := Lib.hid ho
  have HEQ1 := Lib.hid HL1
  have hmk2 := fun (W : World) => run_make_row' (P := Try.prog) 24 2 (.int .i64 0) 8 Try.underlying24 int_info rfl .i64 .i64 n (by omega) (by omega) W
  clear h hg ho hb1 ho1 HE1 HL1 hr1
  go_enter Try.func79, Try.ntmps79
  go_wp2_with fail
  rw [← HEQ1.out]
  refine (weightsOf_any g n P S (fnL (unF i) n) _ W1 HP1.out hg1 HO.out (by omega) hn (fnL_len _ _) (fun x => by rw [un_at hi]; have := un_rng i x; omega) HO1.out.reads).mono ?_
  rintro e w2 ⟨A2, c2, rfl, ho2, hb2⟩
  rw [wt_un P S hi, smL_len] at *
  have HO2 := Lib.hid (own_less ho2 HB1.out.size)
  have HB2 := Lib.hid (HB1.out.trans (hb2.mono HB1.out.size))
  clear ho2 hb2
  go_wp2_with fail
  go_ret
  exact LAns.of (smL_len _ _ _ _) HO2.out HB2.out

set_option maxRecDepth 100000 in
set_option maxHeartbeats 4000000 in
theorem implInverseProximity_any (a b c : Value) (P S W : List Int) (w : World) (h : ReadC w w.heap.size a b c P S W) (hP : P.length ≤ 1048576) (hS : S.length ≤ 1048576) (hW : W.length ≤ 1048576) (hwp : ∀ z ∈ P, (Lit.int .i64 z).wf = true) (hws : ∀ z ∈ S, (Lit.int .i64 z).wf = true) (hww : ∀ z ∈ W, (Lit.int .i64 z).wf = true) :
    Calls Try.prog 22 #[.agg #[a, b, c]] w (AnsQC w (ivA P S W) (clC P S W)) := by
  obtain ⟨W0, HE⟩ : ∃ V, V = w.alloc (.cells #[a, b, c] 26) := ⟨_, rfl⟩
  have hb0 : Below w.heap.size w W0 := by rw [HE]; exact below_box2 _ _
  have hx : CBox W0 w.heap.size a b c := by rw [HE]; exact CBox.new _ _ _ _ _
  have HR := Lib.hid ((h.below hb0).more hb0.size)
  have HB := Lib.hid hb0
  have HEQ := Lib.hid HE
  have HX := Lib.hid hx
  have x0 := hx.c0; have x1 := hx.c1; have x2 := hx.c2; have hxl := hx.lt
  clear h hb0 hx HE hwp hws hww
  rcases bool_fs (clB P S W) with hp | hp
  · have HA := Lib.hid (ivA_no (P := P) (S := S) (W := W) hp); have HK := Lib.hid (clC_no hp)
    have HP := Lib.hid hp
    clear hp
    go_enter Try.func22, Try.ntmps22
    go_wp2_with fail
    rw [← HEQ.out]
    refine (linked_if a b c P S W W0 HR.out hP hS hW false HP.out).mono ?_
    rintro e w1 ⟨g, A, na, ca, D, nd, cd, rfl, hb1, _⟩
    have HB1 := Lib.hid ((HB.out.trans (hb1.mono HB.out.size)).alloc (by have := HB.out.size; have := hb1.size; omega) (.cells #[.slice A na ca, .slice D nd cd] 78))
    clear hb1
    go_wp2_with fail
    go_ret2
    exact AnsQC.noneC HA.out.symm HK.out.symm HB1.out
  · obtain ⟨n, hC⟩ := clB_true hp
    have hpn := hC.p
    have hn1 := hC.lo
    have hn := hC.hi
    have HC := Lib.hid hC
    have HP := Lib.hid hp
    clear hp hC
    go_enter Try.func22, Try.ntmps22
    go_wp2_with fail
    rw [← HEQ.out]
    refine (linked_if a b c P S W W0 HR.out hP hS hW true HP.out).mono ?_
    rintro e w1 ⟨g, A, na, ca, D, nd, cd, rfl, hb1, hyes⟩
    obtain ⟨e1, rfl, hg0, hg1, hpt⟩ := hyes rfl
    rw [hpn] at e1 hpt
    simp only [Value.slice.injEq] at e1
    obtain ⟨rfl, e1b, e1c⟩ := e1
    replace e1b := e1b.symm
    replace e1c := e1c.symm
    subst e1b
    subst e1c
    have hB1 := HB.out.trans (hb1.mono HB.out.size)
    have hR1 := (HR.out.below hb1).more hb1.size
    have hX1 := HX.out.below hb1
    obtain ⟨W1, HE1⟩ : ∃ V, V = w1.alloc (.cells #[.slice (some ⟨g, 0, none⟩) n n, .slice D nd cd] 78) := ⟨_, rfl⟩
    have hb2 : Below w1.heap.size w1 W1 := by rw [HE1]; exact below_box2 _ _
    have z0 : W1.cell? ⟨w1.heap.size, 0, none⟩ = some (.slice (some ⟨g, 0, none⟩) n n) := by rw [HE1]; go_simp
    have z1 : W1.cell? ⟨w1.heap.size, 1, none⟩ = some (.slice D nd cd) := by rw [HE1]; go_simp
    have hzl : w1.heap.size < W1.heap.size := by rw [HE1]; simp
    have HB1 := Lib.hid (hB1.trans (hb2.mono hB1.size))
    have HR1 := Lib.hid ((hR1.below hb2).more hb2.size)
    have HPT : Hid (PtsAt W1 g n n P S) := Lib.hid (rowIs_below hpt hg1 hb2)
    have hX2 := hX1.below hb2
    have y0 := hX2.c0; have y1 := hX2.c1; have y2 := hX2.c2; have hyl := hX2.lt
    have HX1 := Lib.hid hX2
    have HEQ1 := Lib.hid HE1
    have hgl : g < W1.heap.size := by omega
    have q0 := hX1.c0; have q1 := hX1.c1; have q2 := hX1.c2; have ql := hX1.lt
    clear hb1 hb2 hX1 hX2 hB1 hR1 hpt hyes HE1 hg1
    go_wp2_with fail
    rw [← HEQ1.out]
    clear q0 q1 q2 ql x0 x1 x2
    have HA : Hid (ivA P S W = ivQ P S n) := Lib.hid (ivA_yes HC.out)
    have HK : Hid (clC P S W = 0) := Lib.hid (clC_yes HP.out)
    obtain ⟨W2, HE2⟩ : ∃ V, V = W1.alloc (.cells (madeCells #[.slice none 0 0] n) 24) := ⟨_, rfl⟩
    have HB2 : Hid (Below W1.heap.size W1 W2) := Lib.hid (by rw [HE2]; exact below_box2 _ _)
    have HR2 : Hid (CRows W2 W1.heap.size n (fun x => if x < 0 then smL P S n x else [])) := Lib.hid (by rw [HE2]; exact (CRows.start W1 n).congr fun j hj => by simp)
    have HEQ2 := Lib.hid HE2
    have HZ0 := Lib.hid z0
    have hmk := fun (V : World) => run_make_row' (P := Try.prog) 28 24 (.slice none 0 0) 24 Try.underlying28 slice_info rfl .i64 .i64 n (by omega) (by omega) V
    clear HE2 HEQ1 HEQ y0 y1 y2 z1
    go_simp
    go_wp2_with fail
    rw [← HEQ2.out]
    clear hmk HEQ2
    go_loopw [21] (fun vi wr => ∃ (k : Nat), k ≤ n ∧ vi = .int .i64 k ∧ Hid (CRows wr W1.heap.size n (fun x => if x < k then smL P S n x else [])) ∧ Hid (Below W1.heap.size W1 wr)) (fun vi _ => n - (intOf vi).toNat)
    case atStart => exact ⟨0, by omega, rfl, HR2, HB2⟩
    case round =>
      obtain ⟨k, hk, rfl, hrow, hb⟩ := hrel
      by_cases hkn : k < n
      · have hkn2 : (k : Int) < (n : Int) := by omega
        have dz := (hb.out.cell (p := ⟨w1.heap.size, 0, none⟩) hzl).trans HZ0.out
        have HPK : Hid (PtsAt wr g n n P S) := Lib.hid (rowIs_below HPT.out hgl hb.out)
        have hgk : g < wr.heap.size := Nat.lt_of_lt_of_le hgl hb.out.size
        go_wp2_with fail
        refine (simpleW_any g n k P S wr HPK.out hgk HC.out.ok hkn hn).mono ?_
        rintro e w3 ⟨A3, c3, rfl, ho3, hb3⟩
        have HR3 := Lib.hid (hrow.out.put (v := .slice A3 (smL P S n k).length c3) hkn hb3 ho3)
        have HB3 : Hid (Below W1.heap.size W1 (w3.setCell ⟨W1.heap.size, k, none⟩ (.slice A3 (smL P S n k).length c3))) := Lib.hid ((hb.out.trans (hb3.mono hb.out.size)).setCell (p := ⟨W1.heap.size, k, none⟩) (Nat.le_refl _) _)
        have hq : w3.cell? ⟨W1.heap.size, k, none⟩ ≠ none ∧ w3.frozen? ⟨W1.heap.size, k, none⟩ = false := by
          obtain ⟨uf, ls, hs, hh⟩ := hrow.out
          have hr3 := hh.row.of_block (hb3.block W1.heap.size hh.lt)
          exact ⟨by rw [hr3.cell hkn]; simp, hr3.frozen k⟩
        obtain ⟨u, hu⟩ := Option.ne_none_iff_exists'.1 hq.1
        have hfz := hq.2
        rw [smL_len] at HR3 HB3 ⊢
        clear hq ho3 hb3
        go_wp2_with fail
        go_roundw
        case rel => exact ⟨k + 1, by omega, by go_num, Lib.hid (HR3.out.congr fun x hx => by
          by_cases e : x = k
          · subst e; rw [if_pos rfl, if_pos (by omega)]
          · rw [if_neg e]
            by_cases e2 : x < k
            · rw [if_pos e2, if_pos (by omega)]
            · rw [if_neg e2, if_neg (by omega)]), HB3⟩
        case measure => simp [intOf]; omega
      · obtain rfl : k = n := by omega
        have HQX : Hid (OwnQ wr w.heap.size wr.heap.size (.slice (some ⟨W1.heap.size, 0, none⟩) k k) (ivQ P S k)) := Lib.hid ((hrow.out.congr (R' := fun x => smL P S k x) fun x hx => by rw [if_pos hx]).ownQ (ivQ_len _ _ _) (fun j hj => by rw [ivQ_at hj]) HB1.out.size (by omega))
        have HBX := Lib.hid (HB1.out.trans (hb.out.mono HB1.out.size))
        go_wp2_with fail
        go_ret2
        exact AnsQC.someC HA.out.symm HK.out.symm HQX.out HBX.out
end Go.Proofs.Ytbempmbnhfnlbaa
