/- Blocks of the sequence of a branch, the model's and the program's: contracts. Conditions: stated at each theorem. -/
import Derived.Test.YtimpjongnceimaaSqL
import Derived.Test.YtimpjongnceimaaBkS
import Derived.Test.YtimpjongnceimaaBrX
namespace Go.Proofs.Ytimpjongnceimaa
open Go.ChangeShapes Go.WideShapes Go.ChangeAt Go.RowKit Go.Deep
set_option linter.unusedVariables false
set_option linter.unusedSimpArgs false

/-- A list of lists of the call's own behind a call that turns nothing. -/
theorem ownQ_more {w w' : World} {lo : Nat} {v : Value} {L : List (List Int)} (h : OwnQ w lo w.heap.size v L) (hb : Below w.heap.size w w') : OwnQ w' lo w'.heap.size v L := by
  obtain ⟨us, ls, hs, r1, r2, r3, r4, r5⟩ := h.kept (Kept.of_below hb (Nat.le_refl _))
  exact ⟨us, ls, hs, r1, fun k hk => ⟨by have := (r2 k hk).1; omega, (r2 k hk).2⟩, Nat.le_refl _, fun i hi => ⟨(r4 i hi).1, by have := (r4 i hi).2.1; omega, (r4 i hi).2.2⟩, r5⟩
def blA (zs : List Int) : List (List Int) := if lqC zs 0 = 0 then bkQ (seqL zs) else []
theorem ownQ_nil (w : World) (lo : Nat) : OwnQ w lo w.heap.size (.slice none 0 0) [] :=
  ⟨[], fun _ => 0, fun _ => 0, World.ownsRow_nil _ _ _ _, fun k hk => (by cases hk), Nat.le_refl _, fun i hi => (by simp at hi), fun i j _ hj => (by simp at hj)⟩
theorem AnsQC.none' {w w' : World} {L : List (List Int)} {C D : Int} (h1 : [] = L) (h2 : D = C) (hb : Below w.heap.size w w') : AnsQC w L C (.returned (.tuple #[.slice none 0 0, .int .i64 D])) w' := by
  subst h1; subst h2; exact ⟨_, rfl, ownQ_nil _ _, hb⟩
theorem AnsQC.some' {w w' : World} {L M : List (List Int)} {C D : Int} {v : Value} (h1 : M = L) (h2 : D = C) (ho : OwnQ w' w.heap.size w'.heap.size v M) (hb : Below w.heap.size w w') : AnsQC w L C (.returned (.tuple #[v, .int .i64 D])) w' := by
  subst h1; subst h2; exact ⟨_, rfl, ho, hb⟩
theorem rows_lessR {w : World} {lo lo' hi : Nat} {v : Value} {L : List (List Int)} (h : OwnQ w lo hi v L) (hl : lo' ≤ lo) : OwnQ w lo' hi v L := by
  obtain ⟨us, ls, hs, r1, r2, r3, r4, r5⟩ := h
  exact ⟨us, ls, hs, own_lessR r1 hl, r2, r3, fun i hi => ⟨by have := (r4 i hi).1; omega, (r4 i hi).2⟩, r5⟩
theorem lq0_yes {zs : List Int} (h : lqC zs 0 = 0) : brB zs = true ∧ lqA zs 0 = seqL zs ∧ (seqL zs).length ≤ 400 ∧ 0 < (seqL zs).length := by
  have hp : brB zs = true := by
    rcases bool_fs (brB zs) with hp | hp
    · rw [(lq_no hp).1] at h; cases h
    · exact hp
  have e1 : lqA zs 0 = seqL zs := by rw [lqA, if_pos h]; simp
  have h2 := lqA_len zs 0
  rw [e1] at h2
  have h3 := (seq_len hp).1
  rw [cnt_eq hp] at h3
  exact ⟨hp, e1, h2, by omega⟩
theorem bkQ_lead (z : Int) (r : List Int) : bkQ (z :: r) = [[z, ((lead z (z :: r) : Nat) : Int)]] ++ bkQ ((z :: r).drop (lead z (z :: r))) := by
  have e : lead z (z :: r) = lead z r + 1 := by simp [lead]
  rw [e, List.drop_succ_cons, bkQ, bk_lead r z]
  simp [bkQ]

set_option maxHeartbeats 1000000 in
theorem specBlocksOf_any (v : Value) (zs : List Int) (w : World) (h : ReadI w w.heap.size v zs) (hn : zs.length ≤ 1048576) (hw : ∀ z ∈ zs, (Lit.int .i64 z).wf = true) :
    Calls Try.prog 32 #[.agg #[v]] w (AnsQC w (blA zs) (lqC zs 0)) := by
  obtain ⟨n, A, c, rfl, hr, HL, _, hnc, HF, hcm⟩ := h.split2
  obtain ⟨W0, HE⟩ : ∃ W, W = w.alloc (.cells #[.slice A n c] 26) := ⟨_, rfl⟩
  have hb0 : Below w.heap.size w W0 := by rw [HE]; exact below_box _ _
  have hq0 : BoxI W0 w.heap.size (.slice A n c) := by rw [HE]; exact BoxI.new _ _ _
  have H0 := Lib.hid ((h.below hb0).more hb0.size)
  have HNN := Lib.hid hn
  have HWW := Lib.hid hw
  have HEQ := Lib.hid HE
  clear h hr HE HF hn hw
  by_cases h0 : lqC zs 0 = 0
  · obtain ⟨hp, e1, hl4, hl0⟩ := lq0_yes h0
    have e2 : Hid (blA zs = bkQ (seqL zs)) := Lib.hid (by rw [blA, if_pos h0])
    have HP := Lib.hid hp
    have H00 := Lib.hid h0
    clear h0 hp e1
    go_enter Try.func32, Try.ntmps32
    go_wp2_with fail
    rw [← HEQ.out]
    refine (l04Long_any _ zs 0 _ H0.out HNN.out HWW.out).mono ?_
    rintro e w1 ⟨rfl, hb1⟩
    have cb1 : w1.cell? ⟨w.heap.size, 0, none⟩ = some (.slice A n c) := by rw [hb1.cell (p := ⟨w.heap.size, 0, none⟩) hq0.2]; exact hq0.1
    have H1 := Lib.hid ((H0.out.below hb1).more hb1.size)
    have B1 := Lib.hid (hb0.trans (hb1.mono hb0.size))
    clear hb1 hb0 HEQ
    rw [H00.out]
    go_wp2_with fail
    refine (l04Full_any _ zs 0 _ H1.out HNN.out HP.out (by omega)).mono ?_
    rintro e w2 ⟨A2, c2, rfl, ho2, hb2⟩
    have e9 : seqL zs ++ List.replicate 0 1 = seqL zs := by simp
    rw [e9] at ho2 ⊢
    have R2 := Lib.hid ho2.reads
    have hbs2 := hb2.size
    clear e9
    go_wp2_with fail
    refine (l04Blocks_any _ (seqL zs) _ R2.out (by omega)).mono ?_
    rintro e w3 ⟨A3, c3, rfl, ho3, hb3⟩
    have HO3 := Lib.hid (rows_lessR ho3 (lo' := w.heap.size) (by have := B1.out.size; omega))
    clear ho3
    go_wp2_with fail
    go_ret2
    exact AnsQC.some' e2.out.symm H00.out.symm HO3.out ((B1.out.trans (hb2.mono B1.out.size)).trans (hb3.mono (by have := B1.out.size; omega)))
  · have e1 : Hid (blA zs = []) := Lib.hid (by rw [blA, if_neg h0])
    have hcb : 0 ≤ lqC zs 0 ∧ lqC zs 0 ≤ 3 := by unfold lqC; split <;> (try split) <;> (try split) <;> omega
    go_enter Try.func32, Try.ntmps32
    go_wp2_with fail
    rw [← HEQ.out]
    refine (l04Long_any _ zs 0 _ H0.out HNN.out HWW.out).mono ?_
    rintro e w1 ⟨rfl, hb1⟩
    have B1 := Lib.hid (hb0.trans (hb1.mono hb0.size))
    clear hb1 hb0 HEQ
    generalize lqC zs 0 = C at *
    go_wp2_with fail
    go_ret2
    exact AnsQC.none' e1.out.symm rfl B1.out

set_option maxRecDepth 100000 in
set_option maxHeartbeats 2000000 in
theorem implBlocksOf_any (v : Value) (zs : List Int) (w : World) (h : ReadI w w.heap.size v zs) (hn : zs.length ≤ 1048576) (hw : ∀ z ∈ zs, (Lit.int .i64 z).wf = true) :
    Calls Try.prog 31 #[.agg #[v]] w (AnsQC w (blA zs) (lqC zs 0)) := by
  obtain ⟨n, A, c, rfl, hr, HL, _, hnc, HF, hcm⟩ := h.split2
  obtain ⟨W0, HE⟩ : ∃ W, W = w.alloc (.cells #[.slice A n c] 26) := ⟨_, rfl⟩
  have hb0 : Below w.heap.size w W0 := by rw [HE]; exact below_box _ _
  have hq0 : BoxI W0 w.heap.size (.slice A n c) := by rw [HE]; exact BoxI.new _ _ _
  have H0 := Lib.hid ((h.below hb0).more hb0.size)
  have HNN := Lib.hid hn
  have HWW := Lib.hid hw
  have HEQ := Lib.hid HE
  clear h hr HE HF hn hw
  by_cases h0 : lqC zs 0 = 0
  · obtain ⟨hp, e1, hl4, hl0⟩ := lq0_yes h0
    have e2 : Hid (blA zs = bkQ (seqL zs)) := Lib.hid (by rw [blA, if_pos h0])
    have H00 := Lib.hid h0
    have E1 := Lib.hid e1
    have HSOK : Hid (∀ z ∈ seqL zs, (Lit.int .i64 z).wf = true) := Lib.hid fun z hz => by
      obtain ⟨p, hp1, hp2⟩ := List.mem_flatMap.1 hz
      have h5 := (rsI_ok hp).1 p hp1
      have h6 := (List.mem_replicate.1 hp2).2
      subst h6
      exact i64_wf (by have := h5.2; omega) (by have := h5.2; omega)
    clear h0 hp e1
    go_enter Try.func31, Try.ntmps31
    go_wp2_with fail
    rw [← HEQ.out]
    refine (implSequenceOf_any _ zs _ H0.out HNN.out HWW.out).mono ?_
    rintro e w1 ⟨v1, rfl, ho1, hb1⟩
    rw [E1.out] at ho1
    generalize seqL zs = L at *
    obtain ⟨A1, c1, rfl⟩ := own_form ho1.1
    obtain ⟨T, HT⟩ : ∃ T, L.length = T := ⟨_, rfl⟩
    rw [HT] at ho1 hl4 hl0 ⊢
    have HTL := Lib.hid HT
    obtain ⟨g, e8, _, hg8, _, _⟩ := own_at ho1 HT hl0
    subst e8
    have HC : Hid (∀ k, k < T → w1.cell? ⟨g, k, none⟩ = some (.int .i64 (L[k]?.getD 0))) := Lib.hid fun k hk => by
      obtain ⟨g', e1, _, _, h5, _⟩ := own_at ho1 HT hk
      cases e1; exact h5
    have hc1 : T ≤ c1 := by
      obtain ⟨A', c', e7, _, _, h5, _⟩ := ho1.reads
      rw [HT] at e7 h5
      cases e7; exact h5
    have hc2 : c1 ≤ 9223372036854775807 := by
      obtain ⟨A', c', e7, _, _, _, _, h5⟩ := ho1.reads
      rw [HT] at e7
      cases e7; exact h5
    have B1 := Lib.hid (hb0.trans (hb1.mono hb0.size))
    have hbs1 := B1.out.size
    rw [H00.out]
    clear ho1 hb1 hb0 HEQ HT
    obtain ⟨i0, hi0, hz0, hz1, hz2⟩ := info_parts ints_infoR
    go_wp2_with fail
    go_loopw [4, 6] (fun vl vo wr => ∃ (M x c' N : Nat) (A' : Option Addr) (c2 : Nat) (D : List (List Int)), M ≤ T ∧ N ≤ T - M ∧ (M ≤ c' ∧ c' ≤ 9223372036854775807) ∧ vl = .slice (some ⟨g, x, none⟩) M c' ∧ vo = .slice A' N c2 ∧ Hid (M = 0 ∨ x = T - M) ∧ Hid (D.length = N) ∧ Hid (bkQ L = D ++ bkQ (L.drop (T - M))) ∧ Hid (OwnQ wr w1.heap.size wr.heap.size (.slice A' N c2) D) ∧ Hid (Below w1.heap.size w1 wr)) (fun vl _ _ => lenOf vl)
    case atStart => exact ⟨T, 0, c1, 0, _, _, [], by omega, by omega, by omega, rfl, rfl, Lib.hid (.inr (by omega)), Lib.hid rfl, Lib.hid (by rw [Nat.sub_self]; simp), Lib.hid (ownQ_nil _ _), Lib.hid (Below.refl _ _)⟩
    case round =>
      obtain ⟨M, x, c', N, A', c2, D, hM, hN, hc', rfl, rfl, HX0, HN, HBK, ho, hb⟩ := hrel
      by_cases hM0 : 0 < M
      rotate_left
      · obtain rfl : M = 0 := by omega
        have HE : Hid (bkQ L = D) := Lib.hid (by rw [HBK.out, List.drop_eq_nil_of_le (by rw [HTL.out]; omega)]; simp [bkQ, bkL])
        have HO2 := Lib.hid (rows_lessR ho.out hbs1)
        clear HBK
        go_wp2
        go_ret2
        exact AnsQC.some' (HE.out.symm.trans e2.out.symm) H00.out.symm HO2.out (B1.out.trans (hb.out.mono hbs1))
      obtain rfl : x = T - M := by
        rcases HX0.out with h5 | h5
        · omega
        · exact h5
      have hdl : Hid (L.drop (T - M) = (L[T - M]?.getD 0) :: L.drop (T - M + 1)) := Lib.hid (drop_at HTL.out (by omega))
      have HR : Hid (RI wr w1.heap.size (some ⟨g, T - M, none⟩) M (L.drop (T - M))) := Lib.hid ⟨by rw [List.length_drop, HTL.out]; omega, fun j hj => ⟨_, rfl, hg8, by
        rw [add_lit, hb.out.cell (p := ⟨g, T - M + j, none⟩) hg8, HC.out (T - M + j) (by omega)]
        simp [List.getD]⟩⟩
      have HWF : Hid (∀ z ∈ L.drop (T - M), (Lit.int .i64 z).wf = true) := Lib.hid fun z hz => HSOK.out z (List.mem_of_mem_drop hz)
      have d1 : wr.cell? ⟨g, T - M, none⟩ = some (.int .i64 (L[T - M]?.getD 0)) := by rw [hb.out.cell (p := ⟨g, T - M, none⟩) hg8]; exact HC.out _ (by omega)
      have hlk : lead (L[T - M]?.getD 0) (L.drop (T - M)) ≤ M := by have := lead_le (L[T - M]?.getD 0) (L.drop (T - M)); rw [List.length_drop, HTL.out] at this; omega
      have hlk1 : 1 ≤ lead (L[T - M]?.getD 0) (L.drop (T - M)) := by rw [hdl.out]; simp [lead]
      have HXX : Hid (bkQ L = (D ++ [[L[T - M]?.getD 0, ((lead (L[T - M]?.getD 0) (L.drop (T - M)) : Nat) : Int)]]) ++ bkQ (L.drop (T - M + lead (L[T - M]?.getD 0) (L.drop (T - M))))) := Lib.hid (by
        rw [HBK.out, List.append_assoc]
        congr 1
        have h6 := bkQ_lead (L[T - M]?.getD 0) (L.drop (T - M + 1))
        rw [← hdl.out, List.drop_drop] at h6
        exact h6)
      have HCL := Lib.hid (fun W (h : RI W w1.heap.size (some ⟨g, T - M, none⟩) M (L.drop (T - M))) (h2 : w1.heap.size ≤ W.heap.size) => countLeading_any (some ⟨g, T - M, none⟩) M c' (L.drop (T - M)) (L[T - M]?.getD 0) W w1.heap.size h h2 (by omega) HWF.out)
      generalize lead (L[T - M]?.getD 0) (L.drop (T - M)) = k at *
      generalize L[T - M]?.getD 0 = z at *
      have hMi : (0 : Int) < (M : Int) := by omega
      have hwb := hb.out.size
      clear hdl HBK
      go_wp2_with fail
      refine (HCL.out wr HR.out hwb).mono ?_
      rintro e WR ⟨rfl, hbW⟩
      have d2 : WR.cell? ⟨g, T - M, none⟩ = some (.int .i64 z) := by rw [hbW.cell (p := ⟨g, T - M, none⟩) (show g < wr.heap.size by omega)]; exact d1
      have HBW := Lib.hid (hb.out.trans (hbW.mono hwb))
      obtain ⟨us0, ls0, hs0, hrows0⟩ := ho.out
      rw [HN.out] at hrows0
      have HOW : Hid (OwnQ WR w1.heap.size WR.heap.size (.slice A' N c2) D) := Lib.hid (ownQ_more ho.out hbW)
      obtain ⟨us, ls, hs, hrows⟩ := HOW.out
      rw [HN.out] at hrows
      have HROW := Lib.hid hrows
      have hbs := HBW.out.size
      have hk3 : (k : Int) ≤ (M : Int) := by omega
      have hk4 : (0 : Int) ≤ (k : Int) := by omega
      clear hrows hrows0 hbW d1 ho hb
      by_cases hck : k = c'
      · obtain rfl : c' = k := hck.symm
        obtain rfl : M = c' := by omega
        have HX := Lib.hid HXX.out
        go_wp2_with (at_builtin; refine wpList_append_lies rfl _ _ 40 rfl w1.heap.size 24 i0 (.slice none 0 0) 1 24 Try.underlying40 hi0 hz0 hz1 hz2 rfl (by decide) _ N us rfl (World.ownsRow.alloc (World.ownsRow.alloc HROW.out.1 _) _) ⟨WR.heap.size + 1, 0, none⟩ 1 1 [.slice (some ⟨WR.heap.size, 0, none⟩) 2 2] rfl rfl (World.news_of_block (cs := #[.slice (some ⟨WR.heap.size, 0, none⟩) 2 2]) (t := 24) (fr := (0, 0)) (heap_alloc2_new WR _ _)) (by simp [Value.oneCell']) (by decide) (by simp only [maxLen]; omega) (by omega) (by simp; omega) ?_; intro g2 cap2 w3 hown3 hgrow3 hg3 hlt3; have HQ3 := Lib.hid (rows_push2 HROW.out HN.out hbs z (M : Int) hown3 hgrow3 hg3 hlt3); have HB3 := Lib.hid (((HBW.out.alloc hbs _).alloc (by simp; omega) _).grown hgrow3 (by simp; omega) (fun k hk => (World.ownsRow.lt HROW.out.1 k hk).1)); clear hown3 hgrow3 hg3 hlt3)
        go_roundw
        case rel => exact ⟨0, _, 0, N + 1, _, _, D ++ [[z, (M : Int)]], by omega, by omega, by omega, rfl, rfl, Lib.hid (.inl rfl), Lib.hid (by rw [List.length_append, HN.out]; rfl), Lib.hid (by rw [HX.out, show T - M + M = T - 0 by omega]), HQ3, HB3⟩
        case measure => simp [lenOf]; omega
      · have HX := Lib.hid HXX.out
        have hck2 : k < c' := by omega
        go_wp2_with (at_builtin; refine wpList_append_lies rfl _ _ 40 rfl w1.heap.size 24 i0 (.slice none 0 0) 1 24 Try.underlying40 hi0 hz0 hz1 hz2 rfl (by decide) _ N us rfl (World.ownsRow.alloc (World.ownsRow.alloc HROW.out.1 _) _) ⟨WR.heap.size + 1, 0, none⟩ 1 1 [.slice (some ⟨WR.heap.size, 0, none⟩) 2 2] rfl rfl (World.news_of_block (cs := #[.slice (some ⟨WR.heap.size, 0, none⟩) 2 2]) (t := 24) (fr := (0, 0)) (heap_alloc2_new WR _ _)) (by simp [Value.oneCell']) (by decide) (by simp only [maxLen]; omega) (by omega) (by simp; omega) ?_; intro g2 cap2 w3 hown3 hgrow3 hg3 hlt3; have HQ3 := Lib.hid (rows_push2 HROW.out HN.out hbs z (k : Int) hown3 hgrow3 hg3 hlt3); have HB3 := Lib.hid (((HBW.out.alloc hbs _).alloc (by simp; omega) _).grown hgrow3 (by simp; omega) (fun k hk => (World.ownsRow.lt HROW.out.1 k hk).1)); clear hown3 hgrow3 hg3 hlt3)
        go_roundw
        case rel => exact ⟨M - k, T - (M - k), c' - k, N + 1, _, _, D ++ [[z, (k : Int)]], by omega, by omega, by omega, (by rw [show T - M + k = T - (M - k) by omega]), rfl, Lib.hid (.inr rfl), Lib.hid (by rw [List.length_append, HN.out]; rfl), Lib.hid (by rw [HX.out, show T - M + k = T - (M - k) by omega]), HQ3, HB3⟩
        case measure => simp [lenOf]; omega
  · have e1 : Hid (blA zs = []) := Lib.hid (by rw [blA, if_neg h0])
    have hcb : 0 ≤ lqC zs 0 ∧ lqC zs 0 ≤ 3 := by unfold lqC; split <;> (try split) <;> (try split) <;> omega
    have E1 : Hid (lqA zs 0 = []) := Lib.hid (by rw [lqA, if_neg h0])
    go_enter Try.func31, Try.ntmps31
    go_wp2_with fail
    rw [← HEQ.out]
    refine (implSequenceOf_any _ zs _ H0.out HNN.out HWW.out).mono ?_
    rintro e w1 ⟨v1, rfl, ho1, hb1⟩
    obtain ⟨A1, c1, rfl⟩ := own_form ho1.1
    have B1 := Lib.hid (hb0.trans (hb1.mono hb0.size))
    clear hb1 hb0 HEQ ho1
    generalize lqC zs 0 = C at *
    go_wp2_with fail
    go_ret2
    exact AnsQC.none' e1.out.symm rfl B1.out

theorem sumTo_two (f : Nat → Nat) (h : ∀ i, f i ≤ 2) : ∀ n, sumTo f n ≤ 2 * n
  | 0 => by simp [sumTo]
  | n + 1 => by have := sumTo_two f h n; have := h n; simp only [sumTo]; omega
theorem blA_sz (zs : List Int) : szTot (blA zs) ≤ 549755813888 := by
  unfold blA
  split
  · rename_i h
    have h1 := (lq0_yes h).2.2.1
    have h2 := (bk_bound (seqL zs)).1
    have h3 : (bkQ (seqL zs)).length ≤ 400 := by rw [bkQ, List.length_map]; omega
    have h4 := sumTo_two (lens (bkQ (seqL zs))) (fun i => lens_all (B := 2) (fun l hl => by obtain ⟨p, _, rfl⟩ := List.mem_map.1 hl; simp) i) (bkQ (seqL zs)).length
    unfold szTot; omega
  · simp [szTot, sumTo]
end Go.Proofs.Ytimpjongnceimaa
