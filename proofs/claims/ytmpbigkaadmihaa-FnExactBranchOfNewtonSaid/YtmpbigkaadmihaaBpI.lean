/- BranchOfPuiseux, the program's: contract. Conditions: stated at the theorem. -/
import Derived.Test.YtmpbigkaadmihaaBpL
import Derived.Test.YtmpbigkaadmihaaBpP
namespace Go.Proofs.Ytmpbigkaadmihaa
open Go.ChangeShapes Go.WideShapes Go.ChangeAt Go.RowKit
set_option linter.unusedVariables false
set_option linter.unusedSimpArgs false

theorem PsOK.more {M N : Int} {ps : List (Int × Int)} (h : PsOK M ps) (hM : M ≤ N) : PsOK N ps := ⟨fun p hp => by have := h.first p hp; omega, h.second, h.prod⟩
set_option maxHeartbeats 2000000 in
theorem implBranchOfPuiseux_any (v : Value) (zs : List (List Int)) (w : World) (h : ReadQ w w.heap.size v zs) (hsz : szTot zs ≤ 1048576) (hw' : ∀ x ∈ zs, x.length ≤ 9223372036854775807 ∧ ∀ z ∈ x, (Lit.int .i64 z).wf = true) :
    Calls Try.prog 17 #[v] w (AnsRC w (bpA zs) (bpC zs)) := by
  have hw : ∀ x ∈ zs, ∀ z ∈ x, (Lit.int .i64 z).wf = true := fun x hx => (hw' x hx).2
  clear hw'
  obtain ⟨W0, HE⟩ : ∃ W, W = w.alloc (.cells #[.slice none 0 0] 26) := ⟨_, rfl⟩
  have hS0 : Start1 w W0 := by rw [HE]; exact Start1.new _
  have hb0 := hS0.below
  have HR := Lib.hid ((h.below hb0).more hb0.size)
  have S0 := Lib.hid hS0
  have HEQ := Lib.hid HE
  have HW := Lib.hid hw
  have hsw : w.heap.size < W0.heap.size := hS0.res.2
  clear h hw hb0 hS0 HE hsz
  cases hp : bpB zs
  · have E := Lib.hid (bp_no hp)
    have HP := Lib.hid hp
    clear hp
    go_enter Try.func17, Try.ntmps17
    go_wp2_with fail
    rw [← HEQ.out]
    refine (pairsOfLists_any v zs W0 HR.out HW.out).mono ?_
    rintro e w1 ⟨v1, b, rfl, hb, _, hno, hbl⟩
    rw [HP.out] at hb
    subst hb
    rw [hno rfl]
    obtain ⟨l2, l3, l4⟩ := S0.out.later hbl
    have B1 := Lib.hid (S0.out.below.trans (hbl.mono (by omega)))
    clear hbl hno
    go_wp2_with fail
    have cr : (w1.setCell ⟨w.heap.size, 0, none⟩ (.slice none 0 0)).cell? ⟨w.heap.size, 0, none⟩ = some (.slice none 0 0) := by go_simp
    refine bodyPost_ret (v := .tuple #[.agg #[.slice none 0 0], .int .i64 2]) (by simp [results, Try.results17, go_sem, cr]) rfl ?_
    exact ansR_endG _ (Nat.le_refl _) E.out.1.symm E.out.2.symm (OwnI.nil _ _) (by intro h; cases h) B1.out _
  · have E := Lib.hid (bp_yes hp)
    have HP := Lib.hid hp
    clear hp
    go_enter Try.func17, Try.ntmps17
    go_wp2_with fail
    rw [← HEQ.out]
    refine (pairsOfLists_any v zs W0 HR.out HW.out).mono ?_
    rintro e w1 ⟨v1, b, rfl, hb, hyes, _, hbl⟩
    rw [HP.out] at hb
    subst hb
    obtain ⟨rfl, hrow⟩ := hyes rfl
    have BL := Lib.hid hbl
    have OKB := Lib.hid (bpB_ok HP.out)
    have ROW := Lib.hid hrow
    have hs1 := hbl.size
    clear hbl hyes hrow
    go_wp2_with fail
    refine (branchOfPairs_any W0.heap.size zs.length (psOf zs) w1 ROW.out (psOf_len zs) (by have := OKB.out.2; omega) (OKB.out.1.more (by omega))).mono ?_
    rintro e w2 ⟨v2, rfl, ho2, hb2⟩
    obtain ⟨A2, n2, c2, rfl⟩ : ∃ A n c, v2 = .slice A n c := by obtain ⟨A, c, e⟩ := ho2.form rfl; exact ⟨A, _, c, e⟩
    obtain ⟨l2, l3, l4⟩ := S0.out.later (BL.out.trans (hb2.mono (by omega)))
    have B2 := Lib.hid (S0.out.below.trans ((BL.out.trans (hb2.mono (by omega))).mono (by omega)))
    have O2 := Lib.hid ho2
    have hs2 := hb2.size
    obtain ⟨C, hC⟩ : ∃ C, C = bqC (psOf zs) := ⟨_, rfl⟩
    rw [← hC]
    have HC : Hid (bpC zs = C) := Lib.hid (by rw [E.out.2, hC])
    clear hb2 ho2 hC
    go_wp2_with fail
    have cr : (w2.setCell ⟨w.heap.size, 0, none⟩ (.slice A2 n2 c2)).cell? ⟨w.heap.size, 0, none⟩ = some (.slice A2 n2 c2) := by go_simp
    refine bodyPost_ret (v := .tuple #[.agg #[.slice A2 n2 c2], .int .i64 C]) (by simp [results, Try.results17, go_sem, cr]) rfl ?_
    have hne2 : (Value.slice A2 n2 c2).ownBlock ≠ some w.heap.size := by
      intro h
      have h2 := (O2.out.1.lt w.heap.size h).1
      omega
    exact ansR_endG _ (Nat.le_refl _) E.out.1.symm HC.out.symm (own_lessB O2.out (by omega)) hne2 B2.out _
end Go.Proofs.Ytmpbigkaadmihaa
