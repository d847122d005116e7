/- BranchOfSequence, the model's, and IsSequence, the model's and the program's: contracts. Conditions: stated at each theorem. -/
import Derived.Test.YtncgkoanckefmaaRdT
namespace Go.Proofs.Ytncgkoanckefmaa
open Go.ChangeShapes Go.WideShapes Go.ChangeAt Go.RowKit Go.Deep
set_option linter.unusedVariables false
set_option linter.unusedSimpArgs false

theorem l04List_any (A : Option Addr) (n c : Nat) (zs : List Int) (w : World) (B : Nat) (hr : RI w B A n zs) (hl : zs.length = n) (hn : n ≤ 1048576) :
    Calls Try.prog 88 #[.slice A n c] w fun e w' => e = .returned (.bool (sqlB zs)) ∧ w = w' := by
  have H0 := Lib.hid hr
  have HL := Lib.hid hl
  clear hr hl
  go_enter Try.func88, Try.ntmps88
  go_wp2
  go_loop [3] (fun vi => ∃ k : Nat, k ≤ n ∧ vi = .int .i64 k ∧ Hid (zs.all mulB = (zs.drop k).all mulB)) (fun vi => n - (intOf vi).toNat)
  case atStart => exact ⟨0, by omega, rfl, Lib.hid (by simp)⟩
  case round =>
    obtain ⟨k, hk, rfl, hg⟩ := hrel
    by_cases hlt : k < n
    · obtain ⟨a, rfl, hal, hcell0⟩ := H0.out.2 k hlt
      have HD := Lib.hid (drop_at HL.out hlt)
      have hcell : w.cell? (a.add k) = some (.int .i64 (zs[k]?.getD 0)) := by simpa using hcell0
      generalize zs[k]?.getD 0 = z at *
      have hin : (k : Int) < (n : Int) := by omega
      clear hcell0
      rcases bool_fs (mulB z) with hm | hm
      · have HF : Hid (sqlB zs = false) := Lib.hid (by unfold sqlB; rw [hg.out, HD.out, List.all_cons, hm]; simp)
        have HM := Lib.hid (mulB_false.1 hm)
        clear hm
        go_wp2_with (go_at_call 75; refine (in_no z 1 64 w HM.out).mono ?_; rintro e w' ⟨rfl, rfl⟩)
        go_ret
        exact ⟨by rw [HF.out]; rfl, rfl⟩
      · have HG : Hid (zs.all mulB = (zs.drop (k + 1)).all mulB) := Lib.hid (by rw [hg.out, HD.out, List.all_cons, hm]; rfl)
        have HM := Lib.hid (mulB_true.1 hm)
        clear hm
        go_wp2_with (go_at_call 75; refine (in_yes z 1 64 w HM.out.1 HM.out.2).mono ?_; rintro e w' ⟨rfl, rfl⟩)
        go_round
        case rel => exact ⟨k + 1, by omega, by go_num, HG⟩
        case measure => simp [intOf]; omega
    · obtain rfl : k = n := by omega
      have HT : Hid (zs.all mulB = true) := Lib.hid (by rw [hg.out, drop_end HL.out (Nat.le_refl _)]; rfl)
      by_cases hb : 1 ≤ k ∧ k ≤ 400
      · have E : Hid (sqlB zs = true) := Lib.hid (by rw [sq_all (by rw [HL.out]; exact hb), HT.out])
        go_wp2_with (go_at_call 75; refine (in_yes (k : Int) 1 400 w (by omega) (by omega)).mono ?_; rintro e w' ⟨rfl, rfl⟩)
        go_ret
        exact ⟨by rw [E.out]; rfl, rfl⟩
      · have E : Hid (sqlB zs = false) := Lib.hid (sq_no1 (by rw [HL.out]; exact hb))
        go_wp2_with (go_at_call 75; refine (in_no (k : Int) 1 400 w (by omega)).mono ?_; rintro e w' ⟨rfl, rfl⟩)
        go_ret
        exact ⟨by rw [E.out]; rfl, rfl⟩
theorem l04List_if (A : Option Addr) (n c : Nat) (zs : List Int) (w : World) (B : Nat) (b : Bool) (hr : RI w B A n zs) (hl : zs.length = n) (hn : n ≤ 1048576) (hb : sqlB zs = b) :
    Calls Try.prog 88 #[.slice A n c] w fun e w' => e = .returned (.bool b) ∧ w = w' := by
  subst hb; exact l04List_any A n c zs w B hr hl hn

set_option maxRecDepth 100000 in
set_option maxHeartbeats 1000000 in
theorem specBranchOfSequence_any (v : Value) (zs : List Int) (w : World) (h : ReadI w w.heap.size v zs) (hn : zs.length ≤ 1048576) (hw : ∀ z ∈ zs, (Lit.int .i64 z).wf = true) :
    Calls Try.prog 32 #[v] w (AnsRC w (bsA zs) (bsC zs)) := by
  obtain ⟨n, A, c, rfl, hr, HL, HN, hnc, HF, hcm⟩ := h.split2
  rw [HL.out] at hn
  obtain ⟨W0, HE⟩ : ∃ W, W = w.alloc (.cells #[.slice none 0 0] 28) := ⟨_, rfl⟩
  have hS0 : Start1 w W0 := by rw [HE]; exact Start1.new _
  have hb0 := hS0.below
  have H0 := Lib.hid (hr.below hb0)
  have HRD := Lib.hid ((h.below hb0).more hb0.size)
  have S0 := Lib.hid hS0
  have HEQ := Lib.hid HE
  rcases bool_fs (sqlB zs) with hok | hok
  · have E := Lib.hid (bs_no hok)
    have OK := Lib.hid hok
    clear h hr hb0 hS0 hw HE hok
    go_enter Try.func32, Try.ntmps32
    go_wp2_with fail
    rw [← HEQ.out]
    obtain ⟨l2, l3, l4⟩ := S0.out.later (Below.refl _ _)
    refine (l04List_if _ _ _ zs _ _ false H0.out HL.out (by omega) OK.out).mono ?_
    rintro e w1 ⟨rfl, rfl⟩
    go_wp2_with fail
    have cr : (W0.setCell ⟨w.heap.size, 0, none⟩ (.slice none 0 0)).cell? ⟨w.heap.size, 0, none⟩ = some (.slice none 0 0) := by go_simp
    refine bodyPost_ret (v := .tuple #[.agg #[.slice none 0 0], .int .i64 2]) (by simp [results, Try.results32, go_sem, cr]) rfl ?_
    exact ansR_endG _ (Nat.le_refl _) E.out.1.symm E.out.2.symm (OwnI.nil _ _) (by intro h; cases h) S0.out.below _
  have OK := Lib.hid hok
  have hsS := hS0.size
  clear h hr hb0 hS0 hw HE hok
  go_enter Try.func32, Try.ntmps32
  go_wp2_with fail
  rw [← HEQ.out]
  refine (l04List_if _ _ _ zs _ _ true H0.out HL.out (by omega) OK.out).mono ?_
  rintro e w1 ⟨rfl, rfl⟩
  go_wp2_with fail
  refine (l04Branch_any _ zs W0 HRD.out OK.out).mono ?_
  rintro e W1 ⟨vb, rfl, hob, hb1⟩
  obtain ⟨Ab, cb, rfl⟩ := own_form hob.1
  have hs1 := hb1.size
  obtain ⟨nb, hnb⟩ : ∃ nb, (bsL zs).length = nb := ⟨_, rfl⟩
  rw [hnb] at hob ⊢
  obtain ⟨W3, HE3⟩ : ∃ W, W = W1.alloc (.cells #[.slice Ab nb cb] 28) := ⟨_, rfl⟩
  have hb3 : Below W1.heap.size W1 W3 := by rw [HE3]; exact below_box _ _
  have hq3 : BoxI W3 W1.heap.size (.slice Ab nb cb) := by rw [HE3]; exact BoxI.new _ _ _
  have HE3' := Lib.hid HE3
  have hq30 := hq3.1
  have hlt3 := hq3.2
  have hs3 := hb3.size
  have HB3 := Lib.hid (hb1.trans (hb3.mono hs1))
  have O3 := Lib.hid (hob.kept (Kept.of_below hb3 (Nat.le_refl _)))
  obtain ⟨l2, l3, l4⟩ := S0.out.later HB3.out
  have hne : (Value.slice Ab nb cb).ownBlock ≠ some w.heap.size := fun h5 => by
    have := (O3.out.1 : Own W3 W0.heap.size _ _ _).lt w.heap.size h5
    omega
  have B3 := Lib.hid (S0.out.below.trans (HB3.out.mono (by omega)))
  have HNE := Lib.hid hne
  have hs4 := HB3.out.size
  have hsz3 : W3.heap.size = W1.heap.size + 1 := by rw [HE3]; simp
  clear hob hb1 hb3 hq3 hne
  rcases bool_fs (bsB zs) with hbb | hbb
  · have E := Lib.hid (bs_out OK.out hbb)
    rw [hbb]
    clear hbb
    rw [HE3'.out] at l2 l3 hq30
    clear HE3
    go_wp2_with fail
    rw [← HE3'.out]
    have cr : (W3.setCell ⟨w.heap.size, 0, none⟩ (.slice none 0 0)).cell? ⟨w.heap.size, 0, none⟩ = some (.slice none 0 0) := by rw [HE3'.out]; go_simp
    refine bodyPost_ret (v := .tuple #[.agg #[.slice none 0 0], .int .i64 5]) (by simp [results, Try.results32, go_sem, cr]) rfl ?_
    exact ansR_endG _ (Nat.le_refl _) E.out.1.symm E.out.2.symm (OwnI.nil _ _) (by intro h; cases h) B3.out _
  · have E := Lib.hid (bs_yes OK.out hbb)
    have HLL : Hid (bsL zs = bsT zs) := Lib.hid (by rw [bsL, hbb]; rfl)
    rw [hbb]
    clear hbb
    rw [HE3'.out] at l2 l3 hq30
    clear HE3
    go_wp2_with fail
    rw [← HE3'.out]
    have cr : (W3.setCell ⟨w.heap.size, 0, none⟩ (.slice Ab nb cb)).cell? ⟨w.heap.size, 0, none⟩ = some (.slice Ab nb cb) := by rw [HE3'.out]; go_simp
    refine bodyPost_ret (v := .tuple #[.agg #[.slice Ab nb cb], .int .i64 0]) (by simp [results, Try.results32, go_sem, cr]) rfl ?_
    exact ansR_endG _ (Nat.le_refl _) (by rw [E.out.1, HLL.out]) E.out.2.symm ((own_lessB O3.out (by omega)).raise (by omega) (Nat.le_refl _)) HNE.out B3.out _

def isqB (zs : List Int) : Bool := sqlB zs && bsB zs
set_option maxRecDepth 100000 in
set_option maxHeartbeats 1000000 in
theorem specIsSequence_any (v : Value) (zs : List Int) (w : World) (h : ReadI w w.heap.size v zs) (hn : zs.length ≤ 1048576) (hw : ∀ z ∈ zs, (Lit.int .i64 z).wf = true) :
    Calls Try.prog 36 #[v] w (AnsB w (isqB zs)) := by
  have HRD := Lib.hid h
  obtain ⟨n, A, c, rfl, hr, HL, HN, hnc, HF, hcm⟩ := h.split2
  rw [HL.out] at hn
  have H0 := Lib.hid hr
  rcases bool_fs (sqlB zs) with hok | hok
  · have OK := Lib.hid hok
    clear h hr hw hok
    go_enter Try.func36, Try.ntmps36
    go_wp2_with fail
    refine (l04List_if _ _ _ zs _ _ false H0.out HL.out (by omega) OK.out).mono ?_
    rintro e w1 ⟨rfl, rfl⟩
    go_wp2_with fail
    go_ret
    exact ⟨by rw [isqB, OK.out]; rfl, Below.refl _ _⟩
  · have OK := Lib.hid hok
    clear h hr hw hok
    go_enter Try.func36, Try.ntmps36
    go_wp2_with fail
    refine (l04List_if _ _ _ zs _ _ true H0.out HL.out (by omega) OK.out).mono ?_
    rintro e w1 ⟨rfl, rfl⟩
    go_wp2_with fail
    refine (l04Branch_any _ zs w HRD.out OK.out).mono ?_
    rintro e W1 ⟨vb, rfl, hob, hb1⟩
    obtain ⟨Ab, cb, rfl⟩ := own_form hob.1
    have HB1 := Lib.hid hb1
    have hs1 := hb1.size
    clear hob hb1
    generalize hbb : bsB zs = bb
    have HBB := Lib.hid hbb
    clear hbb
    go_wp2_with fail
    go_ret
    exact ⟨by rw [isqB, OK.out, HBB.out]; rfl, HB1.out.alloc (by omega) _⟩
set_option maxRecDepth 100000 in
set_option maxHeartbeats 1000000 in
theorem implIsSequence_any (v : Value) (zs : List Int) (w : World) (h : ReadI w w.heap.size v zs) (hn : zs.length ≤ 1048576) (hw : ∀ z ∈ zs, (Lit.int .i64 z).wf = true) :
    Calls Try.prog 37 #[v] w (AnsB w (isqB zs)) := by
  have HRD := Lib.hid h
  have HNN := Lib.hid hn
  have HW := Lib.hid hw
  have HQ : Hid (decide (bsC zs = 0) = isqB zs) := Lib.hid (by unfold bsC isqB; cases sqlB zs <;> cases bsB zs <;> decide)
  clear h hn hw
  go_enter Try.func37, Try.ntmps37
  go_wp2_with fail
  refine (implBranchOfSequence_any _ zs w HRD.out HNN.out HW.out).mono ?_
  rintro e W1 ⟨vb, rfl, hob, hb1⟩
  obtain ⟨Ab, cb, rfl⟩ := own_form hob.1
  have HB1 := Lib.hid hb1
  have hs1 := hb1.size
  clear hob hb1
  generalize bsC zs = cc at *
  by_cases h0 : cc = 0
  · have HT : Hid (isqB zs = true) := Lib.hid (by rw [← HQ.out, decide_eq_true h0])
    subst h0
    go_wp2_with fail
    go_ret
    exact ⟨by rw [HT.out]; rfl, HB1.out.alloc (by omega) _⟩
  · have HT : Hid (isqB zs = false) := Lib.hid (by rw [← HQ.out, decide_eq_false h0])
    have h1 : (cc == 0) = false := by simp [h0]
    go_wp2_with fail
    go_ret
    exact ⟨by rw [HT.out]; rfl, HB1.out.alloc (by omega) _⟩
end Go.Proofs.Ytncgkoanckefmaa
