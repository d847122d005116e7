/- BranchOfSequence, the program's: contract. Conditions: stated at each theorem. -/
import Derived.Test.YtncgkoanckefmaaRdI
import Derived.Test.YtncgkoanckefmaaBrX
import Derived.Test.YtncgkoanckefmaaBrY
import Derived.Test.YtncgkoanckefmaaBrA
namespace Go.Proofs.Ytncgkoanckefmaa
open Go.ChangeShapes Go.WideShapes Go.ChangeAt Go.RowKit Go.Deep
set_option linter.unusedVariables false
set_option linter.unusedSimpArgs false

theorem sq_no1 {L : List Int} (h : ¬ (1 ≤ L.length ∧ L.length ≤ 400)) : sqlB L = false := by unfold sqlB; rw [decide_eq_false h]; rfl
theorem sq_all {L : List Int} (h : 1 ≤ L.length ∧ L.length ≤ 400) : sqlB L = L.all mulB := by unfold sqlB; rw [decide_eq_true h]; rfl
theorem areMul_any (A : Option Addr) (n c : Nat) (zs : List Int) (w : World) (B : Nat) (hr : RI w B A n zs) (hl : zs.length = n) (hn : n ≤ 9223372036854775807) :
    Calls Try.prog 90 #[.slice A n c] w fun e w' => e = .returned (.bool (sqlB zs)) ∧ w = w' := by
  have H0 := Lib.hid hr
  have HL := Lib.hid hl
  clear hr hl
  by_cases h0 : n = 0
  · have E : Hid (sqlB zs = false) := Lib.hid (sq_no1 (by have := HL.out; omega))
    subst h0
    go_enter Try.func90, Try.ntmps90
    go_wp2
    go_ret
    exact ⟨by rw [E.out]; rfl, rfl⟩
  by_cases h8 : 400 < n
  · have E : Hid (sqlB zs = false) := Lib.hid (sq_no1 (by have := HL.out; omega))
    have g1 : ((n : Int) == 0) = false := by simp; omega
    have g2 : (400 : Int) < (n : Int) := by omega
    have g3 : ¬ (n : Int) = 0 := by omega
    go_enter Try.func90, Try.ntmps90
    go_wp2
    go_ret
    exact ⟨by rw [E.out]; rfl, rfl⟩
  have E : Hid (sqlB zs = zs.all mulB) := Lib.hid (sq_all (by have := HL.out; omega))
  have g1 : ((n : Int) == 0) = false := by simp; omega
  have g2 : ¬ (400 : Int) < (n : Int) := by omega
  have g3 : ¬ (n : Int) = 0 := by omega
  go_enter Try.func90, Try.ntmps90
  go_wp2
  go_loop [15] (fun vi => ∃ k : Nat, k ≤ n ∧ vi = .int .i64 k ∧ Hid (zs.all mulB = (zs.drop k).all mulB)) (fun vi => n - (intOf vi).toNat)
  case atStart => exact ⟨0, by omega, rfl, Lib.hid (by simp)⟩
  case round =>
    obtain ⟨k, hk, rfl, hg⟩ := hrel
    by_cases hlt : k < n
    · obtain ⟨a, rfl, hal, hcell0⟩ := H0.out.2 k hlt
      have HD := Lib.hid (drop_at HL.out hlt)
      have hcell : w.cell? (a.add k) = some (.int .i64 (zs[k]?.getD 0)) := by simpa using hcell0
      generalize zs[k]?.getD 0 = z at *
      have hin : (k : Int) < (n : Int) := by omega
      clear hcell0
      rcases bool_fs (mulB z) with hm | hm
      · have HF : Hid (zs.all mulB = false) := Lib.hid (by rw [hg.out, HD.out, List.all_cons, hm]; rfl)
        have HM := Lib.hid hm
        clear hm
        go_wp2_with (go_at_call 118; refine (isMul_no z w HM.out).mono ?_; rintro e w' ⟨rfl, rfl⟩)
        go_ret
        exact ⟨by rw [E.out, HF.out]; rfl, rfl⟩
      · have HG : Hid (zs.all mulB = (zs.drop (k + 1)).all mulB) := Lib.hid (by rw [hg.out, HD.out, List.all_cons, hm]; rfl)
        have HM := Lib.hid hm
        clear hm
        go_wp2_with (go_at_call 118; refine (isMul_yes z w HM.out).mono ?_; rintro e w' ⟨rfl, rfl⟩)
        go_round
        case rel => exact ⟨k + 1, by omega, by go_num, HG⟩
        case measure => simp [intOf]; omega
    · obtain rfl : k = n := by omega
      have HT : Hid (zs.all mulB = true) := Lib.hid (by rw [hg.out, drop_end HL.out (Nat.le_refl _)]; rfl)
      go_wp2
      go_ret
      exact ⟨by rw [E.out, HT.out]; rfl, rfl⟩
theorem areMul_if (A : Option Addr) (n c : Nat) (zs : List Int) (w : World) (B : Nat) (b : Bool) (hr : RI w B A n zs) (hl : zs.length = n) (hn : n ≤ 9223372036854775807) (hb : sqlB zs = b) :
    Calls Try.prog 90 #[.slice A n c] w fun e w' => e = .returned (.bool b) ∧ w = w' := by
  subst hb; exact areMul_any A n c zs w B hr hl hn

set_option maxRecDepth 100000 in
set_option maxHeartbeats 2000000 in
theorem implBranchOfSequence_any (v : Value) (zs : List Int) (w : World) (h : ReadI w w.heap.size v zs) (hn : zs.length ≤ 1048576) (hw : ∀ z ∈ zs, (Lit.int .i64 z).wf = true) :
    Calls Try.prog 34 #[v] w (AnsRC w (bsA zs) (bsC zs)) := by
  obtain ⟨n, A, c, rfl, hr, HL, HN, hnc, HF, hcm⟩ := h.split2
  rw [HL.out] at hn
  obtain ⟨W0, HE⟩ : ∃ W, W = w.alloc (.cells #[.slice none 0 0] 28) := ⟨_, rfl⟩
  have hS0 : Start1 w W0 := by rw [HE]; exact Start1.new _
  have hb0 := hS0.below
  have H0 := Lib.hid (hr.below hb0)
  have HRD := Lib.hid ((h.below hb0).more hb0.size)
  have S0 := Lib.hid hS0
  have HEQ := Lib.hid HE
  rcases bool_fs (sqlB zs) with hok | hok
  · have E := Lib.hid (bs_no hok)
    have OK := Lib.hid hok
    clear h hr hb0 hS0 hw HE hok
    go_enter Try.func34, Try.ntmps34
    go_wp2_with fail
    rw [← HEQ.out]
    obtain ⟨l2, l3, l4⟩ := S0.out.later (Below.refl _ _)
    refine (areMul_if _ _ _ zs _ _ false H0.out HL.out (by omega) OK.out).mono ?_
    rintro e w1 ⟨rfl, rfl⟩
    go_wp2_with fail
    have cr : (W0.setCell ⟨w.heap.size, 0, none⟩ (.slice none 0 0)).cell? ⟨w.heap.size, 0, none⟩ = some (.slice none 0 0) := by go_simp
    refine bodyPost_ret (v := .tuple #[.agg #[.slice none 0 0], .int .i64 2]) (by simp [results, Try.results34, go_sem, cr]) rfl ?_
    exact ansR_endG _ (Nat.le_refl _) E.out.1.symm E.out.2.symm (OwnI.nil _ _) (by intro h; cases h) S0.out.below _
  have OK := Lib.hid hok
  obtain ⟨⟨hn1, hn2⟩, hz⟩ := sql_yes hok
  rw [HL.out] at hn1 hn2
  obtain ⟨a, rfl, hlt0, hc0⟩ := hr.2 0 hn1
  obtain ⟨g, o, rfl⟩ := HF.out a rfl
  have hgw : g < w.heap.size := hlt0
  have HC0 : Hid (w.cell? ⟨g, o, none⟩ = some (.int .i64 (zs[0]?.getD 0))) := Lib.hid (by
    have h2 : (⟨g, o, none⟩ : Addr).add 0 = ⟨g, o, none⟩ := by rw [add_lit]; rfl
    rw [h2] at hc0; simpa using hc0)
  have hz0 : (1 : Int) ≤ zs[0]?.getD 0 ∧ zs[0]?.getD 0 ≤ 64 := by
    have h9 : 0 < zs.length := by rw [HL.out]; omega
    have := hz zs[0] (List.getElem_mem h9); simpa [h9] using this
  have hsS := hS0.size
  have hgW0 : g < W0.heap.size := by omega
  clear h hr hb0 hS0 hw HE hok hc0 hlt0 hz
  go_enter Try.func34, Try.ntmps34
  go_wp2_with fail
  rw [← HEQ.out]
  refine (areMul_if _ _ _ zs _ _ true H0.out HL.out (by omega) OK.out).mono ?_
  rintro e w1 ⟨rfl, rfl⟩
  go_wp2_with fail
  refine (readRuns_any _ zs W0 HRD.out OK.out).mono ?_
  rintro e W1 ⟨vT, T, R, A', M, c', rfl, hoT, ⟨hRI, hMc, hcm', hR64⟩, hTl, hTB, hbs, hb1⟩
  obtain ⟨AT, cT, rfl⟩ := own_form hoT.1
  have hs1 := hb1.size
  have cg : W1.cell? ⟨g, o, none⟩ = some (.int .i64 (zs[0]?.getD 0)) := by rw [hb1.cell (p := ⟨g, o, none⟩) hgW0, S0.out.below.cell (p := ⟨g, o, none⟩) hgw]; exact HC0.out
  have HRT := Lib.hid hoT.reads
  have HRI := Lib.hid hRI
  have HB1 := Lib.hid hb1
  have HBS := Lib.hid hbs
  have HTB : Hid (∀ z ∈ zs[0]?.getD 0 :: T, (Lit.int .i64 z).wf = true) := Lib.hid (fun z hz => by
    rcases List.mem_cons.1 hz with h5 | h5
    · exact WalkArith.wf_i64 (by omega)
    · have := hTB z h5; exact WalkArith.wf_i64 (by omega))
  have HRW : Hid (∀ z ∈ R, (Lit.int .i64 z).wf = true) := Lib.hid (fun z hz => by have := hR64 z hz; exact WalkArith.wf_i64 (by omega))
  obtain ⟨z0, hz00⟩ : ∃ z, zs[0]?.getD 0 = z := ⟨_, rfl⟩
  have HZ0 := Lib.hid hz00
  rw [hz00] at cg HTB HBS
  clear hoT hRI hb1 hbs hR64 hTB hz00
  go_wp2_with fail
  clear cg
  refine (branchWith_any z0 _ T W1 HRT.out (by omega)).mono ?_
  rintro e W2 ⟨vb, rfl, hob, hb2⟩
  obtain ⟨Ab, cb, rfl⟩ := own_form hob.1
  have hs2 := hb2.size
  have HB2 := Lib.hid (HB1.out.trans (hb2.mono hs1))
  have hzTl : (z0 :: T).length = T.length + 1 := rfl
  obtain ⟨nb, hnb⟩ : ∃ nb, (z0 :: T).length = nb := ⟨_, rfl⟩
  rw [hnb] at hob ⊢
  obtain ⟨W3, HE3⟩ : ∃ W, W = W2.alloc (.cells #[.slice Ab nb cb] 28) := ⟨_, rfl⟩
  have hb3 : Below W2.heap.size W2 W3 := by rw [HE3]; exact below_box _ _
  have hq3 : BoxI W3 W2.heap.size (.slice Ab nb cb) := by rw [HE3]; exact BoxI.new _ _ _
  have HE3' := Lib.hid HE3
  have hq30 := hq3.1
  have hlt3 := hq3.2
  have hs3 := hb3.size
  have HB3 := Lib.hid (HB2.out.trans (hb3.mono (by omega)))
  have hob3 := hob.kept (Kept.of_below hb3 (Nat.le_refl _))
  have O3 := Lib.hid hob3
  have R3 : Hid (ReadI W3 W3.heap.size (.slice Ab nb cb) (z0 :: T)) := Lib.hid (hob3.raise (hi' := W3.heap.size) hs3 (Nat.le_refl _)).reads
  have HRI3 : Hid (RI W3 W0.heap.size A' M R) := Lib.hid ⟨HRI.out.1, fun k hk => by
    obtain ⟨a', e1, h2, h3⟩ := HRI.out.2 k hk
    have hbl : (a'.add k).block = a'.block := add_block _ _
    exact ⟨a', e1, h2, (hb3.cell (by rw [hbl]; omega)).trans ((hb2.cell (by rw [hbl]; omega)).trans h3)⟩⟩
  clear hob hob3 hb2 hb3 hq3 HE3
  go_wp2_with fail
  rw [← HE3'.out]
  cases hp : brB (z0 :: T)
  · have HBB : Hid (bsB zs = false) := Lib.hid (by
      rcases HBS.out with h5 | h5
      · simp only [bsB, h5, HZ0.out, hp]; rfl
      · simp only [bsB, h5.1])
    have E := Lib.hid (bs_out OK.out HBB.out)
    refine (implIsBranch_if _ (z0 :: T) W3 false R3.out (by rw [hnb]; omega) HTB.out hp).mono ?_
    rintro e w6 ⟨rfl, hb6⟩
    obtain ⟨l2, l3, l4⟩ := S0.out.later (HB3.out.trans (hb6.mono (by omega)))
    have B6 := Lib.hid (S0.out.below.trans ((HB3.out.trans (hb6.mono (by omega))).mono (by omega)))
    clear hb6 hp
    go_wp2_with fail
    have cr : (w6.setCell ⟨w.heap.size, 0, none⟩ (.slice none 0 0)).cell? ⟨w.heap.size, 0, none⟩ = some (.slice none 0 0) := by go_simp
    refine bodyPost_ret (v := .tuple #[.agg #[.slice none 0 0], .int .i64 5]) (by simp [results, Try.results34, go_sem, cr]) rfl ?_
    exact ansR_endG _ (Nat.le_refl _) E.out.1.symm E.out.2.symm (OwnI.nil _ _) (by intro h; cases h) B6.out _
  · have HSR : Hid (bsR zs = some (T, R)) := Lib.hid (by
      rcases HBS.out with h5 | h5
      · exact h5
      · have h6 := br_gcF (n := z0) (T := T) h5.2
        rw [hp] at h6; cases h6)
    have HP := Lib.hid hp
    refine (implIsBranch_if _ (z0 :: T) W3 true R3.out (by rw [hnb]; omega) HTB.out hp).mono ?_
    rintro e w6 ⟨rfl, hb6⟩
    have hs6 := hb6.size
    have hq6 := (hb6.cell (p := ⟨W2.heap.size, 0, none⟩) hlt3).trans hq30
    have HB6 := Lib.hid (HB3.out.trans (hb6.mono (by omega)))
    have O6 := Lib.hid (O3.out.kept (Kept.of_below hb6 (by omega)))
    have HRI6 : Hid (RI w6 W0.heap.size A' M R) := Lib.hid ⟨HRI3.out.1, fun k hk => by
      obtain ⟨a', e1, h2, h3⟩ := HRI3.out.2 k hk
      have hbl : (a'.add k).block = a'.block := add_block _ _
      exact ⟨a', e1, h2, (hb6.cell (by rw [hbl]; omega)).trans h3⟩⟩
    have hRl := HRI.out.1
    have hlk := lead_le 1 R
    clear hb6 hp hq30
    have HCL := fun W (h : RI W W0.heap.size A' M R) (h2 : W0.heap.size ≤ W.heap.size) => hid_in (countLeading_any A' M c' R 1 W W0.heap.size h h2 (by omega) HRW.out)
    have HLM : Hid (lead 1 R = M → bsB zs = true) := Lib.hid (fun h5 => by simp only [bsB, HSR.out, HZ0.out, HP.out, Bool.true_and, decide_eq_true_eq]; rw [h5, hRl])
    have HLN : Hid (¬ lead 1 R = M → bsB zs = false) := Lib.hid (fun h5 => by simp only [bsB, HSR.out, HZ0.out, HP.out, Bool.true_and, decide_eq_false_iff_not]; rw [hRl]; exact h5)
    have HBT : Hid (bsT zs = z0 :: T) := Lib.hid (by simp only [bsT, HSR.out, HZ0.out])
    generalize lead 1 R = k at *
    go_wp2_with fail
    refine (HCL w6 HRI6.out (by omega)).out.mono ?_
    rintro e w7 ⟨rfl, hb7⟩
    have hs7 := hb7.size
    have hq7 := (hb7.cell (p := ⟨W2.heap.size, 0, none⟩) (show W2.heap.size < w6.heap.size by omega)).trans hq6
    have O7 := Lib.hid (O6.out.kept (Kept.of_below hb7 (by omega)))
    obtain ⟨l2, l3, l4⟩ := S0.out.later (HB6.out.trans (hb7.mono (by omega)))
    have B7 := Lib.hid (S0.out.below.trans ((HB6.out.trans (hb7.mono (by omega))).mono (by omega)))
    clear hb7 HCL hq6
    by_cases hkM : k = M
    · have hki : ¬ (k : Int) < (M : Int) := by omega
      have E := Lib.hid (bs_yes OK.out (HLM.out hkM))
      clear hkM
      go_wp2_with fail
      have cr : (w7.setCell ⟨w.heap.size, 0, none⟩ (.slice Ab nb cb)).cell? ⟨w.heap.size, 0, none⟩ = some (.slice Ab nb cb) := by go_simp
      refine bodyPost_ret (v := .tuple #[.agg #[.slice Ab nb cb], .int .i64 0]) (by simp [results, Try.results34, go_sem, cr]) rfl ?_
      have hne : (Value.slice Ab nb cb).ownBlock ≠ some w.heap.size := fun h5 => by
        have := (O7.out.1 : Own w7 W1.heap.size _ _ _).lt w.heap.size h5
        omega
      exact ansR_endG _ (Nat.le_refl _) (by rw [E.out.1, HBT.out]) E.out.2.symm ((own_lessB O7.out (by omega)).raise (by omega) (Nat.le_refl _)) hne B7.out _
    · have hki : (k : Int) < (M : Int) := by omega
      have E := Lib.hid (bs_out OK.out (HLN.out hkM))
      clear hkM
      go_wp2_with fail
      have cr : (w7.setCell ⟨w.heap.size, 0, none⟩ (.slice none 0 0)).cell? ⟨w.heap.size, 0, none⟩ = some (.slice none 0 0) := by go_simp
      refine bodyPost_ret (v := .tuple #[.agg #[.slice none 0 0], .int .i64 5]) (by simp [results, Try.results34, go_sem, cr]) rfl ?_
      exact ansR_endG _ (Nat.le_refl _) E.out.1.symm E.out.2.symm (OwnI.nil _ _) (by intro h; cases h) B7.out _
end Go.Proofs.Ytncgkoanckefmaa
