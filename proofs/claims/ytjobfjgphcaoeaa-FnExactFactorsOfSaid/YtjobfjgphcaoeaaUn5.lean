/- Factors of clusters: contracts. Conditions: stated at each theorem. -/
import Derived.Test.YtjobfjgphcaoeaaUn1
import Derived.Test.YtjobfjgphcaoeaaZD
import Derived.Deep.DeepCutAuto
namespace Go.Proofs.Ytjobfjgphcaoeaa
open Go.ChangeShapes Go.WideShapes Go.ChangeAt Go.RowKit Go.Deep
set_option linter.unusedVariables false
set_option linter.unusedSimpArgs false

/-- The points before k with a positive excess, with their excesses. -/
def fcT (E : List Int) : Nat → List (List Int)
  | 0 => []
  | k + 1 => fcT E k ++ if 0 < E[k]?.getD 0 then [[(k : Int), E[k]?.getD 0]] else []
theorem fcT_yes {E : List Int} {k : Nat} (h : 0 < E[k]?.getD 0) : fcT E (k + 1) = fcT E k ++ [[(k : Int), E[k]?.getD 0]] := by show fcT E k ++ _ = _; rw [if_pos h]
theorem fcT_no {E : List Int} {k : Nat} (h : ¬ 0 < E[k]?.getD 0) : fcT E (k + 1) = fcT E k := by show fcT E k ++ _ = _; rw [if_neg h, List.append_nil]
theorem fcT_len (E : List Int) : ∀ k, (fcT E k).length ≤ k
  | 0 => Nat.le_refl _
  | k + 1 => by
    have := fcT_len E k
    show (fcT E k ++ _).length ≤ k + 1
    rw [List.length_append]; split <;> simp <;> omega
theorem fcT_two (E : List Int) : ∀ k, ∀ r ∈ fcT E k, r.length = 2
  | 0, r, h => by cases h
  | k + 1, r, h => by
    have h' : r ∈ fcT E k ++ (if 0 < E[k]?.getD 0 then [[(k : Int), E[k]?.getD 0]] else []) := h
    rw [List.mem_append] at h'
    rcases h' with h' | h'
    · exact fcT_two E k r h'
    · split at h'
      · simp at h'; rw [h']; rfl
      · cases h'
theorem ownQ_raiseC {w : World} {lo hi hi' : Nat} {v : Value} {L : List (List Int)} (h : OwnQ w lo hi v L) (h1 : hi ≤ hi') (h2 : hi' ≤ w.heap.size) : OwnQ w lo hi' v L := by
  obtain ⟨us, ls, hs, r1, r2, r3, r4, r5⟩ := h
  exact ⟨us, ls, hs, r1, fun k hk => ⟨by have := (r2 k hk).1; omega, (r2 k hk).2⟩, h2, fun i hi => ⟨(r4 i hi).1, by have := (r4 i hi).2.1; omega, (r4 i hi).2.2⟩, r5⟩
def fcC (P S W : List Int) : Int := if clB P S W then (if cnA P S W then 0 else 5) else 1
def fcA (P S W : List Int) : List (List Int) := if fcC P S W = 0 then fcT (ecL P S W P.length) P.length else []
theorem fcC_no {P S W : List Int} (h : clB P S W = false) : fcC P S W = 1 := by simp [fcC, h]
theorem fcC_bad {P S W : List Int} (h : clB P S W = true) (h2 : cnA P S W = false) : fcC P S W = 5 := by simp [fcC, h, h2]
theorem fcC_ok {P S W : List Int} (h : clB P S W = true) (h2 : cnA P S W = true) : fcC P S W = 0 := by simp [fcC, h, h2]
theorem fcA_no {P S W : List Int} (h : fcC P S W ≠ 0) : fcA P S W = [] := if_neg h
theorem fcA_yes {P S W : List Int} {n : Nat} (hC : ClOK P S W n) (h2 : cnA P S W = true) : fcA P S W = fcT (ecL P S W n) n := by
  unfold fcA; rw [if_pos (fcC_ok hC.b h2), hC.p]
theorem fcA_sz (P S W : List Int) : szTot (fcA P S W) ≤ 549755813888 := by
  by_cases h : fcC P S W = 0
  · have hb : clB P S W = true := by
      cases hb : clB P S W with
      | true => rfl
      | false => simp [fcC, hb] at h
    obtain ⟨n, hC⟩ := clB_true hb
    have hn := hC.hi
    unfold fcA
    rw [if_pos h, hC.p]
    have hl := fcT_len (ecL P S W n) n
    refine szTot_cl (by omega) fun i => ?_
    by_cases hi : i < (fcT (ecL P S W n) n).length
    · have h2 := fcT_two (ecL P S W n) n _ (List.getElem_mem hi)
      have h3 : (fcT (ecL P S W n) n).getD i [] = (fcT (ecL P S W n) n)[i] := by simp [List.getD, hi]
      rw [h3, h2]; omega
    · rw [List.getD, List.getElem?_eq_none (by omega)]; simp
  · rw [fcA_no h]; exact szTot_cl (by simp) (by simp)

set_option maxRecDepth 100000 in
set_option maxHeartbeats 4000000 in
theorem chk_any (a b c : Value) (P S W : List Int) (w : World) (h : ReadC w w.heap.size a b c P S W) (hP : P.length ≤ 1048576) (hS : S.length ≤ 1048576) (hW : W.length ≤ 1048576) (hwp : ∀ z ∈ P, (Lit.int .i64 z).wf = true) (hws : ∀ z ∈ S, (Lit.int .i64 z).wf = true) (hww : ∀ z ∈ W, (Lit.int .i64 z).wf = true) :
    Calls Try.prog 96 #[.agg #[a, b, c]] w fun e w' => e = .returned (.int .i64 (fcC P S W)) ∧ Below w.heap.size w w' := by
  have HWP := Lib.hid hwp; have HWS := Lib.hid hws; have HWW := Lib.hid hww
  obtain ⟨W0, HE⟩ : ∃ V, V = w.alloc (.cells #[a, b, c] 28) := ⟨_, rfl⟩
  have hb0 : Below w.heap.size w W0 := by rw [HE]; exact below_box2 _ _
  have hx : CBox W0 w.heap.size a b c := by rw [HE]; exact CBox.new _ _ _ _ _
  have HR := Lib.hid ((h.below hb0).more hb0.size)
  have HB := Lib.hid hb0
  have HEQ := Lib.hid HE
  have HX := Lib.hid hx
  have x0 := hx.c0; have x1 := hx.c1; have x2 := hx.c2; have hxl := hx.lt
  clear h hb0 hx HE hwp hws hww
  have HCC := Lib.hid (implIsConsistent_any a b c P S W W0 HR.out hP hS hW HWP.out HWS.out HWW.out)
  rcases bool_fs (clB P S W) with hp | hp
  · have HK := Lib.hid (fcC_no hp)
    rw [cnA_no hp, clC_no hp] at HCC
    clear hp
    go_enter Try.func96, Try.ntmps96
    go_wp2_with fail
    rw [← HEQ.out]
    refine HCC.out.mono ?_
    rintro e w1 ⟨rfl, hb1⟩
    have HB1 := Lib.hid (HB.out.trans (hb1.mono HB.out.size))
    clear hb1
    go_wp2_with fail
    go_ret
    exact ⟨by rw [HK.out]; rfl, HB1.out⟩
  · rw [clC_yes hp] at HCC
    rcases bool_fs (cnA P S W) with h2 | h2
    · have HK := Lib.hid (fcC_bad hp h2)
      rw [h2] at HCC
      clear hp h2
      go_enter Try.func96, Try.ntmps96
      go_wp2_with fail
      rw [← HEQ.out]
      refine HCC.out.mono ?_
      rintro e w1 ⟨rfl, hb1⟩
      have HB1 := Lib.hid (HB.out.trans (hb1.mono HB.out.size))
      clear hb1
      go_wp2_with fail
      go_ret
      exact ⟨by rw [HK.out]; rfl, HB1.out⟩
    · have HK := Lib.hid (fcC_ok hp h2)
      rw [h2] at HCC
      clear hp h2
      go_enter Try.func96, Try.ntmps96
      go_wp2_with fail
      rw [← HEQ.out]
      refine HCC.out.mono ?_
      rintro e w1 ⟨rfl, hb1⟩
      have HB1 := Lib.hid (HB.out.trans (hb1.mono HB.out.size))
      clear hb1
      go_wp2_with fail
      go_ret
      exact ⟨by rw [HK.out]; rfl, HB1.out⟩

set_option maxRecDepth 100000 in
set_option maxHeartbeats 4000000 in
theorem implFactorsOf_any (a b c : Value) (P S W : List Int) (w : World) (h : ReadC w w.heap.size a b c P S W) (hP : P.length ≤ 1048576) (hS : S.length ≤ 1048576) (hW : W.length ≤ 1048576) (hwp : ∀ z ∈ P, (Lit.int .i64 z).wf = true) (hws : ∀ z ∈ S, (Lit.int .i64 z).wf = true) (hww : ∀ z ∈ W, (Lit.int .i64 z).wf = true) :
    Calls Try.prog 51 #[.agg #[a, b, c]] w (AnsQC w (fcA P S W) (fcC P S W)) := by
  have HWP := Lib.hid hwp; have HWS := Lib.hid hws; have HWW := Lib.hid hww
  obtain ⟨W0, HE⟩ : ∃ V, V = w.alloc (.cells #[a, b, c] 28) := ⟨_, rfl⟩
  have hb0 : Below w.heap.size w W0 := by rw [HE]; exact below_box2 _ _
  have hx : CBox W0 w.heap.size a b c := by rw [HE]; exact CBox.new _ _ _ _ _
  have HR := Lib.hid ((h.below hb0).more hb0.size)
  have HB := Lib.hid hb0
  have HEQ := Lib.hid HE
  have HX := Lib.hid hx
  have x0 := hx.c0; have x1 := hx.c1; have x2 := hx.c2; have hxl := hx.lt
  clear h hb0 hx HE hwp hws hww
  have HCC := Lib.hid (chk_any a b c P S W W0 HR.out hP hS hW HWP.out HWS.out HWW.out)
  by_cases hk : fcC P S W = 0
  · have hb : clB P S W = true := by
      cases hb : clB P S W with
      | true => rfl
      | false => simp [fcC, hb] at hk
    have h2 : cnA P S W = true := by
      cases h2 : cnA P S W with
      | true => rfl
      | false => simp [fcC, hb, h2] at hk
    obtain ⟨n, hC⟩ := clB_true hb
    have HA := Lib.hid (fcA_yes hC h2)
    have HK := Lib.hid hk
    have HC := Lib.hid hC
    have hn := hC.hi
    have hn1 := hC.lo
    rw [hk] at HCC
    clear hk hb h2 hC
    go_enter Try.func51, Try.ntmps51
    go_wp2_with fail
    rw [← HEQ.out]
    refine HCC.out.mono ?_
    rintro e w1 ⟨rfl, hb1⟩
    have HB1 := Lib.hid (HB.out.trans (hb1.mono HB.out.size))
    have HR1 := Lib.hid ((HR.out.below hb1).more hb1.size)
    have hX1 := HX.out.below hb1
    have y0 := hX1.c0; have y1 := hX1.c1; have y2 := hX1.c2; have hyl := hX1.lt
    clear hb1 hX1 x0 x1 x2 hxl
    go_wp2_with fail
    have HCE := Lib.hid (implExcessesOf_any a b c P S W w1 HR1.out hP hS hW HWP.out HWS.out HWW.out)
    rw [clC_yes HC.out.b, exA_yes HC.out] at HCE
    refine HCE.out.mono ?_
    rintro e w2 ⟨v2, rfl, ho2, hb2⟩
    obtain ⟨A2, c2, rfl⟩ := ho2.form (ecL_len _ _ _ _)
    have HO2 := Lib.hid ho2
    have HL : Hid ((ecL P S W n).length = n) := Lib.hid (ecL_len _ _ _ _)
    obtain ⟨E, hE⟩ : ∃ E, ecL P S W n = E := ⟨_, rfl⟩
    rw [hE] at HO2 HL HA
    have HB2 := Lib.hid (HB1.out.trans (hb2.mono HB1.out.size))
    have HQ0 : Hid (OwnQ w2 w2.heap.size w2.heap.size (.slice none 0 0) (fcT E 0)) := Lib.hid (OwnQ.nil _ _)
    have HBB0 : Hid (Below w2.heap.size w2 w2) := Lib.hid (Below.refl _ _)
    obtain ⟨j0, hj0, hz0, hz1, hz2⟩ := info_parts ints_infoR
    clear ho2 hb2 hE y0 y1 y2
    go_wp2_with fail
    go_loopw [7, 22] (fun vo vi wr => ∃ (k N : Nat) (A' : Option Addr) (c' : Nat), k ≤ n ∧ N ≤ k ∧ vo = .slice A' N c' ∧ vi = .int .i64 k ∧ Hid ((fcT E k).length = N) ∧ Hid (OwnQ wr w2.heap.size wr.heap.size (.slice A' N c') (fcT E k)) ∧ Hid (Below w2.heap.size w2 wr)) (fun _ vi _ => n - (intOf vi).toNat)
    case atStart => exact ⟨0, 0, none, 0, by omega, by omega, rfl, rfl, Lib.hid rfl, HQ0, HBB0⟩
    case round =>
      obtain ⟨k, N, A', c', hk, hNk, rfl, rfl, HN, how, hb⟩ := hrel
      by_cases hkn : k < n
      · have hkn2 : (k : Int) < (n : Int) := by omega
        obtain ⟨d, rfl, hd1, hd2, hcd, _⟩ := own_at HO2.out HL.out hkn
        have d1 := (hb.out.cell (p := ⟨d, k, none⟩) hd2).trans hcd
        obtain ⟨z, hz⟩ : ∃ z, E[k]?.getD 0 = z := ⟨_, rfl⟩
        have HZ := Lib.hid hz
        rw [hz] at d1
        have hbs := hb.out.size
        clear hz hcd
        by_cases hzp : 0 < z
        · have HX2 : Hid (fcT E (k + 1) = fcT E k ++ [[(k : Int), z]]) := Lib.hid (by rw [fcT_yes (by rw [HZ.out]; exact hzp), HZ.out])
          obtain ⟨us, ls, hs, hrows⟩ := how.out
          rw [HN.out] at hrows
          have HROW := Lib.hid hrows
          clear hrows how
          go_wp2_with (at_builtin; refine wpList_append_liesR rfl _ _ 40 rfl w2.heap.size 22 j0 (.slice none 0 0) 1 24 Try.underlying40 hj0 hz0 hz1 hz2 rfl (by decide) _ N us rfl (World.ownsRow.alloc (World.ownsRow.alloc HROW.out.1 _) _) ⟨wr.heap.size + 1, 0, none⟩ 1 1 [.slice (some ⟨wr.heap.size, 0, none⟩) 2 2] rfl rfl (World.news_of_block (cs := #[.slice (some ⟨wr.heap.size, 0, none⟩) 2 2]) (t := 22) (fr := (0, 0)) (heap_alloc2_new wr _ _)) (by simp [Value.oneCell']) (by decide) (by simp only [maxLen]; omega) (by omega) (by simp; omega) ?_; intro g2 cap2 w3 hown3 hgrow3 hg3 hlt3; have HQ3 := Lib.hid (rows_push2 HROW.out HN.out hbs ((k : Int)) (z) hown3 hgrow3 hg3 hlt3); have HB3 := Lib.hid (((hb.out.alloc hbs _).alloc (by simp; omega) _).grown hgrow3 (by simp; omega) (fun k hk => (World.ownsRow.lt HROW.out.1 k hk).1)); clear hown3 hgrow3 hg3 hlt3)
          go_roundw
          case rel => exact ⟨k + 1, N + 1, _, _, by omega, by omega, rfl, by go_num, Lib.hid (by rw [HX2.out, List.length_append, HN.out]; rfl), Lib.hid (by rw [HX2.out]; exact HQ3.out), HB3⟩
          case measure => simp [intOf]; omega
        · have HX2 : Hid (fcT E (k + 1) = fcT E k) := Lib.hid (fcT_no (by rw [HZ.out]; exact hzp))
          go_wp2_with fail
          go_roundw
          case rel => exact ⟨k + 1, N, A', c', by omega, by omega, rfl, by go_num, Lib.hid (by rw [HX2.out]; exact HN.out), Lib.hid (by rw [HX2.out]; exact how.out), hb⟩
          case measure => simp [intOf]; omega
      · obtain rfl : k = n := by omega
        have hbs2 := HB2.out.size
        go_wp2_with fail
        go_ret2
        exact AnsQC.someC HA.out.symm HK.out.symm (ownQ_lessC how.out hbs2) (HB2.out.trans (hb.out.mono hbs2))
  · have HA := Lib.hid (fcA_no hk)
    have HK := Lib.hid hk
    obtain ⟨C, hC⟩ : ∃ C, fcC P S W = C := ⟨_, rfl⟩
    have HCQ := Lib.hid hC
    rw [hC] at HCC
    have hCn : C ≠ 0 := by rw [← hC]; exact hk
    clear hk hC
    go_enter Try.func51, Try.ntmps51
    go_wp2_with fail
    rw [← HEQ.out]
    refine HCC.out.mono ?_
    rintro e w1 ⟨rfl, hb1⟩
    have HB1 := Lib.hid (HB.out.trans (hb1.mono HB.out.size))
    clear hb1
    go_wp2_with fail
    go_ret2
    exact AnsQC.noneC HA.out.symm HCQ.out.symm HB1.out

set_option maxRecDepth 100000 in
set_option maxHeartbeats 4000000 in
theorem l08Factors_any (a b c : Value) (P S W : List Int) (n : Nat) (w : World) (h : ReadC w w.heap.size a b c P S W) (hC : ClOK P S W n) :
    Calls Try.prog 95 #[.agg #[a, b, c]] w fun e w' => ∃ A N cc, e = .returned (.slice A N cc) ∧ (fcT (ecL P S W n) n).length = N ∧ OwnQ w' w.heap.size w'.heap.size (.slice A N cc) (fcT (ecL P S W n) n) ∧ Below w.heap.size w w' := by
  have hn := hC.hi
  have hn1 := hC.lo
  have HC := Lib.hid hC
  obtain ⟨W0, HE⟩ : ∃ V, V = w.alloc (.cells #[a, b, c] 28) := ⟨_, rfl⟩
  have hb0 : Below w.heap.size w W0 := by rw [HE]; exact below_box2 _ _
  have hx : CBox W0 w.heap.size a b c := by rw [HE]; exact CBox.new _ _ _ _ _
  have HR := Lib.hid ((h.below hb0).more hb0.size)
  have HB := Lib.hid hb0
  have HEQ := Lib.hid HE
  have HX := Lib.hid hx
  have x0 := hx.c0; have x1 := hx.c1; have x2 := hx.c2; have hxl := hx.lt
  have HL : Hid ((ecL P S W n).length = n) := Lib.hid (ecL_len _ _ _ _)
  obtain ⟨E, hE⟩ : ∃ E, ecL P S W n = E := ⟨_, rfl⟩
  have HEE := Lib.hid hE
  obtain ⟨j0, hj0, hz0, hz1, hz2⟩ := info_parts ints_infoR
  rw [hE] at HL ⊢
  clear h hb0 hx HE hC hE
  go_enter Try.func95, Try.ntmps95
  go_wp2_with fail
  rw [← HEQ.out]
  refine (l07Excess_any a b c c P S W W n W0 HR.out HR.out.2.2 HC.out.toClP HC.out.w HC.out.wt).mono ?_
  rintro e w2 kk
  obtain ⟨A2, c2, rfl, ho2, hb2⟩ := kk.len (ecL_len _ _ _ _)
  rw [HEE.out] at ho2
  obtain ⟨d, rfl, hd1, hd2, _⟩ := own_at ho2 HL.out (show 0 < n by omega)
  have HO2 := Lib.hid ho2
  have HBW := Lib.hid hb2
  have HB5 : Hid (Below w2.heap.size w2 (w2.alloc (.cells #[] 22))) := Lib.hid (below_box2 _ _)
  have HE2 : Hid (∀ k, k < n → (w2.alloc (.cells #[] 22)).cell? ⟨d, k, none⟩ = some (.int .i64 (E[k]?.getD 0))) := Lib.hid (fun k hk => by rw [HB5.out.cell (p := ⟨d, k, none⟩) hd2]; obtain ⟨d', e', _, _, h9, _⟩ := own_at HO2.out HL.out hk; cases e'; exact h9)
  have HQ2 : Hid (OwnQ (w2.alloc (.cells #[] 22)) W0.heap.size (w2.alloc (.cells #[] 22)).heap.size (.slice (some ⟨w2.heap.size, 0, none⟩) 0 0) (fcT E 0)) := Lib.hid (ownQ_newR w2 W0.heap.size HBW.out.size)
  have HB2 : Hid (Below W0.heap.size W0 (w2.alloc (.cells #[] 22))) := Lib.hid (HBW.out.trans (HB5.out.mono HBW.out.size))
  have hdg : d ≠ w2.heap.size := by omega
  have hdl : d < (w2.alloc (.cells #[] 22)).heap.size := by simp; omega
  clear ho2 hb2 kk
  clear x0 x1 x2 hxl
  go_wp2_with fail
  go_loopw [4, 5] (fun vo vi wr => ∃ (k N g' c' : Nat), k ≤ n ∧ N ≤ k ∧ vo = .slice (some ⟨g', 0, none⟩) N c' ∧ vi = .int .i64 k ∧ g' ≠ d ∧ d < wr.heap.size ∧ Hid ((fcT E k).length = N) ∧ Hid (∀ k, k < n → wr.cell? ⟨d, k, none⟩ = some (.int .i64 (E[k]?.getD 0))) ∧ Hid (OwnQ wr W0.heap.size wr.heap.size (.slice (some ⟨g', 0, none⟩) N c') (fcT E k)) ∧ Hid (Below W0.heap.size W0 wr)) (fun _ vi _ => n - (intOf vi).toNat)
  case atStart => exact ⟨0, 0, w2.heap.size, 0, by omega, by omega, rfl, rfl, fun e => hdg e.symm, hdl, Lib.hid rfl, HE2, HQ2, HB2⟩
  case round =>
    obtain ⟨k, N, g', c', hk, hNk, rfl, rfl, hgd, hdw, HN, hce, how, hb⟩ := hrel
    by_cases hkn : k < n
    · have hkn2 : (k : Int) < (n : Int) := by omega
      have d1 := hce.out k hkn
      obtain ⟨z, hz⟩ : ∃ z, E[k]?.getD 0 = z := ⟨_, rfl⟩
      have HZ := Lib.hid hz
      rw [hz] at d1
      have hbs := hb.out.size
      clear hz
      by_cases hzp : 0 < z
      · have HX2 : Hid (fcT E (k + 1) = fcT E k ++ [[(k : Int), z]]) := Lib.hid (by rw [fcT_yes (by rw [HZ.out]; exact hzp), HZ.out])
        obtain ⟨us, ls, hs, hrows⟩ := how.out
        rw [HN.out] at hrows
        have HROW := Lib.hid hrows
        clear hrows how
        go_wp2_with (at_builtin; refine wpList_append_liesR rfl _ _ 40 rfl W0.heap.size 22 j0 (.slice none 0 0) 1 24 Try.underlying40 hj0 hz0 hz1 hz2 rfl (by decide) (.slice (some ⟨g', 0, none⟩) N c') N us rfl (World.ownsRow.alloc (World.ownsRow.alloc HROW.out.1 _) _) ⟨wr.heap.size + 1, 0, none⟩ 1 1 [.slice (some ⟨wr.heap.size, 0, none⟩) 2 2] rfl rfl (World.news_of_block (cs := #[.slice (some ⟨wr.heap.size, 0, none⟩) 2 2]) (t := 22) (fr := (0, 0)) (heap_alloc2_new wr _ _)) (by simp [Value.oneCell']) (by decide) (by simp only [maxLen]; omega) (by omega) (by simp; omega) ?_; intro g2 cap2 w3 hown3 hgrow3 hg3 hlt3; have HQ3 := Lib.hid (rows_push2 HROW.out HN.out hbs ((k : Int)) (z) hown3 hgrow3 hg3 hlt3); have HB3 := Lib.hid (((hb.out.alloc hbs _).alloc (by simp; omega) _).grown hgrow3 (by simp; omega) (fun k hk => (World.ownsRow.lt HROW.out.1 k hk).1)); have HG3 : Hid (g2 ≠ d) := Lib.hid (by (rcases hg3 with h9 | h9 <;> first | (simp [Value.ownBlock] at h9; omega) | (rw [h9]; simp; omega))); have HD3 : Hid (d < w3.heap.size) := Lib.hid (by (have h9 := hgrow3.size; simp at h9; omega)); have HC3 : Hid (∀ k, k < n → w3.cell? ⟨d, k, none⟩ = some (.int .i64 (E[k]?.getD 0))) := Lib.hid (fun k hk => World.grownBy.cell hgrow3 (by (rw [(((Below.refl wr.heap.size wr).alloc (Nat.le_refl _) _).alloc (by simp) _).cell (p := ⟨d, k, none⟩) hdw]; exact hce.out k hk)) (by (intro h9; exact hgd (by (simpa [Value.ownBlock] using h9.symm))))); clear hown3 hgrow3 hg3 hlt3)
        go_roundw
        case rel => exact ⟨k + 1, N + 1, _, _, by omega, by omega, rfl, by go_num, HG3.out, HD3.out, Lib.hid (by rw [HX2.out, List.length_append, HN.out]; rfl), HC3, Lib.hid (by rw [HX2.out]; exact HQ3.out), HB3⟩
        case measure => simp [intOf]; omega
      · have HX2 : Hid (fcT E (k + 1) = fcT E k) := Lib.hid (fcT_no (by rw [HZ.out]; exact hzp))
        go_wp2_with fail
        go_roundw
        case rel => exact ⟨k + 1, N, g', c', by omega, by omega, rfl, by go_num, hgd, hdw, Lib.hid (by rw [HX2.out]; exact HN.out), hce, Lib.hid (by rw [HX2.out]; exact how.out), hb⟩
        case measure => simp [intOf]; omega
    · obtain rfl : k = n := by omega
      have hbs2 := HB.out.size
      go_wp2_with fail
      go_ret
      exact ⟨_, N, c', rfl, HN.out, ownQ_lessC how.out hbs2, HB.out.trans (hb.out.mono hbs2)⟩

set_option maxRecDepth 100000 in
set_option maxHeartbeats 4000000 in
theorem specFactorsOf_any (a b c : Value) (P S W : List Int) (w : World) (h : ReadC w w.heap.size a b c P S W) (hP : P.length ≤ 1048576) (hS : S.length ≤ 1048576) (hW : W.length ≤ 1048576) (hwp : ∀ z ∈ P, (Lit.int .i64 z).wf = true) (hws : ∀ z ∈ S, (Lit.int .i64 z).wf = true) (hww : ∀ z ∈ W, (Lit.int .i64 z).wf = true) :
    Calls Try.prog 50 #[.agg #[a, b, c]] w (AnsQC w (fcA P S W) (fcC P S W)) := by
  obtain ⟨W0, HE⟩ : ∃ V, V = w.alloc (.cells #[a, b, c] 28) := ⟨_, rfl⟩
  have hb0 : Below w.heap.size w W0 := by rw [HE]; exact below_box2 _ _
  have hx : CBox W0 w.heap.size a b c := by rw [HE]; exact CBox.new _ _ _ _ _
  have HR := Lib.hid ((h.below hb0).more hb0.size)
  have HB := Lib.hid hb0
  have HEQ := Lib.hid HE
  have HX := Lib.hid hx
  have x0 := hx.c0; have x1 := hx.c1; have x2 := hx.c2; have hxl := hx.lt
  clear h hb0 hx HE hwp hws hww
  rcases bool_fs (clB P S W) with hp | hp
  · have HK := Lib.hid (fcC_no hp)
    have HA := Lib.hid (fcA_no (P := P) (S := S) (W := W) (by rw [HK.out]; decide))
    have HP := Lib.hid hp
    clear hp
    go_enter Try.func50, Try.ntmps50
    go_wp2_with fail
    rw [← HEQ.out]
    refine (l07Is_if a b c P S W W0 HR.out hP hS hW false HP.out).mono ?_
    rintro e w1 ⟨rfl, hb1⟩
    have HB1 := Lib.hid (HB.out.trans (hb1.mono HB.out.size))
    clear hb1
    go_wp2_with fail
    go_ret2
    exact AnsQC.noneC HA.out.symm HK.out.symm HB1.out
  · obtain ⟨n, hC⟩ := clB_true hp
    have HC := Lib.hid hC
    have HP := Lib.hid hp
    obtain ⟨bb, hbb⟩ : ∃ x, (ecL P S W n).all (fun z => decide (0 ≤ z)) = x := ⟨_, rfl⟩
    have HBB := Lib.hid hbb
    have hcn : cnA P S W = bb := by rw [cnA_yes hC, hbb]
    have HK : Hid (fcC P S W = if bb then 0 else 5) := Lib.hid (by unfold fcC; rw [if_pos hp, hcn])
    have HA : Hid (bb = true → fcA P S W = fcT (ecL P S W n) n) := Lib.hid (fun h => fcA_yes hC (hcn.trans h))
    have HA0 : Hid (bb = false → fcA P S W = []) := Lib.hid (fun h => fcA_no (by rw [HK.out, h]; decide))
    clear hp hC hbb hcn
    go_enter Try.func50, Try.ntmps50
    go_wp2_with fail
    rw [← HEQ.out]
    refine (l07Is_if a b c P S W W0 HR.out hP hS hW true HP.out).mono ?_
    rintro e w1 ⟨rfl, hb1⟩
    have HB1 := Lib.hid (HB.out.trans (hb1.mono HB.out.size))
    have HR1 := Lib.hid ((HR.out.below hb1).more hb1.size)
    have hX1 := HX.out.below hb1
    have y0 := hX1.c0; have y1 := hX1.c1; have y2 := hX1.c2; have hyl := hX1.lt
    have HX1 := Lib.hid hX1
    clear hb1 hX1 x0 x1 x2 hxl
    go_wp2_with fail
    refine (l07Consistent_any a b c P S W n w1 HR1.out HC.out bb HBB.out).mono ?_
    rintro e w2 ⟨rfl, hb2⟩
    have HB2 := Lib.hid (HB1.out.trans (hb2.mono HB1.out.size))
    have HR2 := Lib.hid ((HR1.out.below hb2).more hb2.size)
    have hX2 := HX1.out.below hb2
    have z0 := hX2.c0; have z1 := hX2.c1; have z2 := hX2.c2; have hzl := hX2.lt
    clear hb2 hX2 y0 y1 y2
    cases bb
    · go_wp2_with fail
      go_ret2
      exact AnsQC.noneC (HA0.out (by first | exact rfl | trivial)).symm (by rw [HK.out]; rfl) HB2.out
    · go_wp2_with fail
      refine (l08Factors_any a b c P S W n w2 HR2.out HC.out).mono ?_
      rintro e w3 ⟨A3, N3, c3, rfl, hN3, ho3, hb3⟩
      have HB3 := Lib.hid (HB2.out.trans (hb3.mono HB2.out.size))
      have HO3 := Lib.hid ho3
      have hbs := HB2.out.size
      clear ho3 hb3
      go_wp2_with fail
      go_ret2
      exact AnsQC.someC (HA.out (by first | exact rfl | trivial)).symm (by rw [HK.out]; rfl) (ownQ_lessC HO3.out hbs) HB3.out

end Go.Proofs.Ytjobfjgphcaoeaa
