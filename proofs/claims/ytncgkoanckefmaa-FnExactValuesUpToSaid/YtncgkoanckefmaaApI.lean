/- Apery lists, the program's: contract of impl.Branch.apery. Conditions: stated at each theorem. -/
import Derived.Test.YtncgkoanckefmaaApL
import Derived.Test.YtncgkoanckefmaaGnO
import Derived.Test.YtncgkoanckefmaaRep
import Derived.Deep.LoopGhost
namespace Go.Proofs.Ytncgkoanckefmaa
open Go.ChangeShapes Go.WideShapes Go.ChangeAt Go.RowKit Go.Deep Go.Maps
set_option linter.unusedVariables false
set_option linter.unusedSimpArgs false

theorem keptS2 {lo hi : Nat} (w : World) {p : Addr} (h : ¬ (lo ≤ p.block ∧ p.block < hi)) (u : Value) : Kept lo hi w (w.setCell p u) :=
  ⟨by simp [World.setCell], fun b h1 h2 => Below.heap_setCell w p u b (fun e => h ⟨by omega, by omega⟩)⟩
/-- The generators behind the first one. -/
def tailA (gg m : Nat) : Option Addr := if m = 0 then some ⟨gg, 0, none⟩ else some ⟨gg, 1, none⟩
def ApCut (W0 : World) (zs : List Int) (m N : Nat) (wc : World) (s3 s4 : Value) : Prop :=
  ∃ gg, s3 = .int .i64 (N : Int) ∧ s4 = .slice (tailA gg m) m m ∧ OwnI wc gg (gg + 1) (.slice (some ⟨gg, 0, none⟩) (m + 1) (m + 1)) (gnB zs) ∧ W0.heap.size ≤ gg ∧ gg < wc.heap.size ∧ Below W0.heap.size W0 wc
theorem ap_cut {W0 W1 : World} {zs : List Int} {m N gg : Nat} {A4 : Option Addr} (hA : A4 = if m = 0 then some ⟨gg, 0, none⟩ else some ⟨gg, 1, none⟩) (ho : OwnI W1 W0.heap.size W1.heap.size (.slice (some ⟨gg, 0, none⟩) (m + 1) (m + 1)) (gnB zs)) (hb : Below W0.heap.size W0 W1) :
    ApCut W0 zs m N W1 (.int .i64 (N : Int)) (.slice A4 m m) := by
  subst hA
  have h := (ho.1 : Own W1 W0.heap.size _ _ _).lt gg rfl
  exact ⟨gg, rfl, rfl, own_tight ho h.2, h.1, h.2, hb⟩

set_option maxRecDepth 100000 in
set_option maxHeartbeats 4000000 in
theorem apery_any (v : Value) (zs : List Int) (N : Nat) (w : World) (h : ReadI w w.heap.size v zs) (hn : zs.length ≤ 1048576) (hp : brB zs = true) (hN : (N : Int) = dvA zs 0) :
    Calls Try.prog 87 #[.agg #[v]] w fun e w' => ∃ gl, e = .returned (.slice (some ⟨gl, 0, none⟩) N N) ∧ OwnI w' w.heap.size w'.heap.size (.slice (some ⟨gl, 0, none⟩) N N) (apL zs) ∧ Below w.heap.size w w' := by
  have HP := Lib.hid hp
  obtain ⟨n, A, c, rfl, hr, HL, _, hnc, HF, hcm⟩ := h.split2
  have hn0 : 0 < n := by have := brB_pos hp; rw [HL.out] at this; exact this
  have HN1 := Lib.hid hn
  rw [HL.out] at hn
  obtain ⟨a, rfl, hlt, hc0⟩ := hr.2 0 hn0
  obtain ⟨g, o, rfl⟩ := HF.out a rfl
  have hgw : g < w.heap.size := hlt
  obtain ⟨W0, HE⟩ : ∃ W, W = w.alloc (.cells #[.slice (some ⟨g, o, none⟩) n c] 28) := ⟨_, rfl⟩
  have hb0 : Below w.heap.size w W0 := by rw [HE]; exact below_box2 _ _
  have hq0 : BoxI W0 w.heap.size (.slice (some ⟨g, o, none⟩) n c) := by rw [HE]; exact BoxI.new _ _ _
  have hs0 : w.heap.size < W0.heap.size := hq0.2
  have HR : Hid (ReadI W0.drew W0.drew.heap.size (.slice (some ⟨g, o, none⟩) n c) zs) := Lib.hid ((h.below hb0).more hb0.size)
  have B0 := Lib.hid hb0
  have HEQ := Lib.hid HE
  have q0 := hq0.1
  have hgW0 : g < W0.heap.size := by omega
  have hzN : zs[0]?.getD 0 = (N : Int) := by rw [hN, dvA_first hp]
  have HNN := Lib.hid hN
  have hNb := br_first hp
  rw [hzN] at hNb
  have cz : W0.cell? ⟨g, o, none⟩ = some (.int .i64 (N : Int)) := by
    have h2 : (⟨g, o, none⟩ : Addr).add 0 = ⟨g, o, none⟩ := by rw [add_lit]; rfl
    rw [h2] at hc0
    rw [hb0.cell (p := ⟨g, o, none⟩) hgw, hc0, ← hzN]; simp
  have HLG : Hid ((gnB zs).length = n) := Lib.hid (by rw [gnB_len, HL.out])
  obtain ⟨m, rfl⟩ : ∃ m, n = m + 1 := ⟨n - 1, by omega⟩
  have HGA := Lib.hid (fun i (hi : i < zs.length) => gnA_pos hp hi)
  have HST := Lib.hid (apInv_start hp hN)
  have hph := apL0_phi (n := N) (by omega)
  clear h hr hp hb0 hq0 HE hc0 hlt hN hzN
  have h1m : (1 : Int) ≤ (m : Int) + 1 := by omega
  go_enter Try.func87, Try.ntmps87
  go_upto_region 1 with fail
  rw [← HEQ.out]
  go_cut [3, 4] (fun s3 s4 wx => Hid (ApCut W0 zs m N wx s3 s4))
  case first =>
    obtain ⟨A4, hA4⟩ : ∃ A, (if m = 0 then some (⟨W0.heap.size + 1, 0, none⟩ : Addr) else some ⟨W0.heap.size + 1, 1, none⟩) = A := ⟨_, rfl⟩
    have HA4 := Lib.hid hA4
    refine wp_region_held_drew (S := fun w' => w'.cell? ⟨w.heap.size, 0, none⟩ = some (.slice (some ⟨g, o, none⟩) (m + 1) c) ∧ w'.cell? ⟨g, o, none⟩ = some (.int .i64 (N : Int))) (by kernel_rfl) ⟨q0, cz⟩ (fun hHeld => ?_)
    refine takeY 0 _ (v := ?_) rfl rfl (by kernel_rfl) (by kernel_rfl) (by kernel_rfl) (fun _ _ _ h => h) (by kernel_rfl) ?_ (by assumption) ?_
    rotate_left 1
    · intro w hSw; (try dsimp only at hSw); go_simp; (try with_reducible rfl)
    try simp only [Act.put, List.setIfInBounds_toArray, List.set_cons_zero, List.set_cons_succ]
    refine takeY 1 _ (v := ?_) rfl rfl (by kernel_rfl) (by kernel_rfl) (by kernel_rfl) (fun _ _ _ h => h) (by kernel_rfl) ?_ (by assumption) ?_
    rotate_left 1
    · intro w hSw; (try dsimp only at hSw); go_simp; (try with_reducible rfl)
    try simp only [Act.put, List.setIfInBounds_toArray, List.set_cons_zero, List.set_cons_succ]
    refine takeY 2 _ (v := ?_) rfl rfl (by kernel_rfl) (by kernel_rfl) (by kernel_rfl) (fun _ _ _ h => h) (by kernel_rfl) ?_ (by assumption) ?_
    rotate_left 1
    · intro w hSw; (try dsimp only at hSw); go_simp; (try with_reducible rfl)
    try simp only [Act.put, List.setIfInBounds_toArray, List.set_cons_zero, List.set_cons_succ]
    refine takeY 3 _ (v := ?_) rfl rfl (by kernel_rfl) (by kernel_rfl) (by kernel_rfl) (fun _ _ _ h => h) (by kernel_rfl) ?_ (by assumption) ?_
    rotate_left 1
    · intro w hSw; (try dsimp only at hSw); go_simp; (try with_reducible rfl)
    try simp only [Act.put, List.setIfInBounds_toArray, List.set_cons_zero, List.set_cons_succ]
    refine takeY 4 _ (v := ?_) rfl rfl (by kernel_rfl) (by kernel_rfl) (by kernel_rfl) (fun _ _ _ h => h) (by kernel_rfl) ?_ (by assumption) ?_
    rotate_left 1
    · intro w hSw; (try dsimp only at hSw); go_simp; (try with_reducible rfl)
    try simp only [Act.put, List.setIfInBounds_toArray, List.set_cons_zero, List.set_cons_succ]
    refine wpAnyH_ready (rs := [5]) (by kernel_rfl) (by simp) ?_
    refine AllReadyH.cons rfl (fun K hK => ?_) AllReadyH.nil
    go_simp
    refine (generators_any _ zs W0.drew HR.out HN1.out HP.out).mono ?_
    rintro e W1 ⟨v1, rfl, rfl, ho1, hb1⟩
    replace hb1 : Below W0.heap.size W0 W1 := ⟨hb1.os, hb1.tape, hb1.output, hb1.size, hb1.block⟩
    have q1 := (hb1.cell (p := ⟨w.heap.size, 0, none⟩) hs0).trans q0
    have cz1 := (hb1.cell (p := ⟨g, o, none⟩) hgW0).trans cz
    rw [HL.out] at ho1 ⊢
    refine hK.out _ (W1) ⟨q1, cz1⟩ (fun hHeld => ?_)
    clear hK K
    try simp only [Act.put, List.setIfInBounds_toArray, List.set_cons_zero, List.set_cons_succ]
    refine takeY 6 _ (v := ?_) rfl rfl (by kernel_rfl) (by kernel_rfl) (by kernel_rfl) (fun _ _ _ h => h) (by kernel_rfl) ?_ (by assumption) ?_
    rotate_left 1
    · intro w hSw; (try dsimp only at hSw); go_simp; (try with_reducible rfl)
    try simp only [Act.put, List.setIfInBounds_toArray, List.set_cons_zero, List.set_cons_succ]
    clear hA4
    refine takeY 7 _ (v := ?_) rfl rfl (by kernel_rfl) (by kernel_rfl) (by kernel_rfl) (fun _ _ _ h => h) (by kernel_rfl) ?_ (by assumption) ?_
    rotate_left 1
    · intro w hSw; (try dsimp only at hSw); go_simp; (try with_reducible rfl)
    try simp only [Act.put, List.setIfInBounds_toArray, List.set_cons_zero, List.set_cons_succ]
    refine takeY 8 _ (v := ?_) rfl rfl (by kernel_rfl) (by kernel_rfl) (by kernel_rfl) (fun _ _ _ h => h) (by kernel_rfl) ?_ (by assumption) ?_
    rotate_left 1
    · intro w hSw; (try dsimp only at hSw); go_simp; (try with_reducible rfl)
    try simp only [Act.put, List.setIfInBounds_toArray, List.set_cons_zero, List.set_cons_succ]
    refine wpAnyH_done (by kernel_rfl) ?_ _
    go_wp2_with fail
    go_meet
    exact Lib.hid (ap_cut (W0 := W0) HA4.out.symm ho1 hb1)
  case rest =>
    clear q0 cz h1m
    obtain ⟨gg, rfl, rfl, hog, hg1, hg2, hbc⟩ := hcut.out
    have HTA : Hid (m ≠ 0 → tailA gg m = some ⟨gg, 1, none⟩) := Lib.hid (fun h => by unfold tailA; rw [if_neg h])
    generalize tailA gg m = A4 at *
    obtain ⟨WA, HWA⟩ : ∃ W, W = wc.alloc (.cells #[.int .i64 9223372036854775807] 2) := ⟨_, rfl⟩
    have hcA : WA.cell? ⟨wc.heap.size, 0, none⟩ = some (.int .i64 9223372036854775807) := by rw [HWA]; exact (BoxI.new _ _ _).1
    have hsA : WA.heap.size = wc.heap.size + 1 := by rw [HWA]; simp
    have hbA : Below wc.heap.size wc WA := by rw [HWA]; exact below_box2 _ _
    have OG := Lib.hid (hog.kept (Kept.of_below hbA (by omega)))
    have BA := Lib.hid (B0.out.trans ((hbc.trans (hbA.mono hbc.size)).mono (by omega)))
    have hsz1 := hbc.size
    have HWE := Lib.hid HWA
    clear hog hbA HWA hbc hcut
    go_wp2_with fail
    rw [← HWE.out]
    refine (repeat_any 9223372036854775807 N wc.heap.size 1 WA hcA (by omega) (by omega)).mono ?_
    rintro e W1 ⟨rfl, hol, hb1⟩
    obtain ⟨gl, hgl⟩ : ∃ gl, WA.heap.size = gl := ⟨_, rfl⟩
    rw [hgl] at hol hb1 ⊢
    have OG1 := Lib.hid (OG.out.kept (Kept.of_below hb1 (by omega)))
    have B1 := Lib.hid (BA.out.trans (hb1.mono (by omega)))
    have hgl1 := (hol.1 : Own W1 gl _ _ _).lt gl rfl
    have hot := own_tight hol hgl1.2
    have hrl : (List.replicate N (9223372036854775807 : Int)).length = N := by simp
    obtain ⟨g', e1, _, _, hcl, hfl⟩ := own_at hot hrl (show 0 < N by omega)
    cases e1
    have hN0 : 0 < N := by omega
    have OL := Lib.hid (own_store (j := 0) hot hrl 0)
    have OG2 := Lib.hid (OG1.out.kept (keptS2 W1 (p := ⟨gl, 0, none⟩) (show ¬ (gg ≤ gl ∧ gl < gg + 1) by omega) (.int .i64 0)))
    have B2 := Lib.hid (B1.out.setCell (p := ⟨gl, 0, none⟩) (by show w.heap.size ≤ gl; omega) (.int .i64 0))
    have hs2 : (W1.setCell ⟨gl, 0, none⟩ (.int .i64 0)).heap.size = W1.heap.size := by simp [World.setCell]
    clear hol hot hb1 OG1 OG BA hcA HWE
    have hmm := @run_makeMap Try.prog
    go_upto_region 4 with fail
    clear hcl hfl hrl
    generalize W1.setCell ⟨gl, 0, none⟩ (.int .i64 0) = WS at *
    obtain ⟨B, hB⟩ : ∃ B, WS.heap.size = B := ⟨_, rfl⟩
    have hglB : gl < B := by omega
    have hggB : gg < gl := by omega
    have hwgg : w.heap.size ≤ gg := by omega
    have hsm1 : (WS.alloc (.map #[] 0)).heap.size = B + 1 := by rw [← hB]; simp
    clear hgl hgl1 hs2 hsA
    have HMD : Hid ((WS.alloc (.map #[] 0)).ownsMap Try.prog 2 (plainElem (H := Unit) Try.prog 4) B 0 (.map [])) := Lib.hid (by have := World.ownsMap_made WS Try.prog 2 (plainElem (H := Unit) Try.prog 4); rwa [hB] at this)
    go_wp2_with (refine wpList_insert_own _ rfl _ _ _ 102 rfl 2 4 law64 Try.underlying102 (plainElem (H := Unit) Try.prog 4) B 0 (.map []) rfl HMD.out (by unfold maxLen; omega) (.int .i64 0) (.bool true) (.int .i64 0) rfl rfl (keyOf_int_mk Try.underlying2 (by decide)) (.lit (.bool true)) [] pb_true ?_; intro w3 hm3 hg3)
    have hs3 := hg3.size
    rw [hsm1] at hs3
    have k1 : Below B WS (WS.alloc (.map #[] 0)) := (Below.refl _ _).alloc (by omega) _
    have k2 : Below B (WS.alloc (.map #[] 0)) w3 := below_grown1 hg3 (by omega) (by omega)
    have k3 : Below B w3 (w3.alloc (.map #[] 0)) := (Below.refl _ _).alloc (by omega) _
    have k4 := (k1.trans k2).trans k3
    have HM1 := Lib.hid (hm3.alloc (.map #[] 0))
    have HM2 : Hid ((w3.alloc (.map #[] 0)).ownsMap Try.prog 2 (plainElem (H := Unit) Try.prog 4) w3.heap.size 0 (.map [])) := Lib.hid (World.ownsMap_made _ _ _ _)
    have OL2 := Lib.hid (OL.out.kept (Kept.of_below k4 (by omega)))
    have OG3 := Lib.hid (OG2.out.kept (Kept.of_below k4 (by omega)))
    have B3 := Lib.hid (B2.out.trans (k4.mono (by omega)))
    have HAI := Lib.hid (HST.out.iff (S' := hasI ((DataW.map []).put (.int .i64 0) (.lit (.bool true)))) (fun x => by
      rw [hasI_put ⟨[], rfl⟩]
      exact ⟨fun h => h.elim (fun h => absurd h hasI_none) id, .inr⟩))
    have HL0 : Hid ((apL0 N).length = N) := Lib.hid (by simp [apL0])
    have hs4 : (w3.alloc (.map #[] 0)).heap.size = w3.heap.size + 1 := by simp
    obtain ⟨b2, hb2⟩ : ∃ b, w3.heap.size = b := ⟨_, rfl⟩
    rw [hb2] at HM2 hs4 hs3 ⊢
    clear hm3 hg3 k1 k2 k3 k4 OL OG2 B2 HST hsm1 hmm hb2
    generalize w3.alloc (.map #[] 0) = WC at *
    generalize (DataW.map []).put (.int .i64 0) (.lit (.bool true)) = D1 at *
    have HKP : Hid (Kept gg (gg + 1) WC WC) := Lib.hid (Kept.refl _ _ _)
    have hBW : B ≤ WC.heap.size := by omega
    have hNz : ((N : Int) == 0) = false := by simp; omega
    have hNz2 : ¬ (N : Int) = 0 := by omega
    go_loopg [6, 7] (2 * 524288064 + 1) (fun k s6 s7 wr => ∃ (bf bn : Nat) (L : List Int) (D : DataW Unit) (kf : Nat), s6 = .map (some bf) ∧ s7 = .map (some bn) ∧ (bf ≠ bn ∧ B ≤ bf ∧ B ≤ bn) ∧ Hid (OwnI wr gl (gl + 1) (.slice (some ⟨gl, 0, none⟩) N N) L) ∧ Hid (L.length = N) ∧ Hid (wr.ownsMap Try.prog 2 (plainElem (H := Unit) Try.prog 4) bf kf D) ∧ Hid (wr.ownsMap Try.prog 2 (plainElem (H := Unit) Try.prog 4) bn 0 (.map [])) ∧ Hid (ApInv zs L (hasI D)) ∧ phi L ≤ 524288064 ∧ 2 * phi L + (if Maps.size D = 0 then 0 else 1) ≤ k ∧ Hid (Below w.heap.size w wr) ∧ Hid (Kept gg (gg + 1) WC wr) ∧ B ≤ wr.heap.size)
    case atStart => exact ⟨B, b2, apL0 N, D1, 1, rfl, rfl, ⟨by omega, Nat.le_refl _, by omega⟩, OL2, HL0, HM1, HM2, HAI, hph, by (split <;> omega), B3, HKP, hBW⟩
    case round =>
      clear OL2 HM1 HM2 HAI HL0 HKP B3
      obtain ⟨bf, bn, L, D, kf, rfl, rfl, ⟨hne, hbf, hbn⟩, hol, hL, hmf, hmn, hinv, hph1, hk, hb, hkp, hBs⟩ := hrel
      by_cases hsz : Maps.size D = 0
      · have hszi : ¬ (0 : Int) < ((Maps.size D : Nat) : Int) := by omega
        have HE : Hid (L = apL zs) := Lib.hid (apInv_end HP.out (hinv.out.iff (fun x => ⟨fun h => h.elim, fun h => hasI_size hmf.out.isMap hsz h⟩)))
        have HOL := Lib.hid ((own_lessB hol.out (show w.heap.size ≤ gl by omega)).raise (show gl + 1 ≤ wr.heap.size by omega) (Nat.le_refl _))
        clear hinv hk hsz
        go_wp2_with (at_len; refine wpList_len_own _ rfl _ 102 rfl 2 4 Try.underlying102 (plainElem (H := Unit) Try.prog 4) bf kf D rfl hmf.out ?_)
        go_ret
        exact ⟨gl, rfl, by rw [← HE.out]; exact HOL.out, hb.out⟩
      · have hszi : (0 : Int) < ((Maps.size D : Nat) : Int) := by omega
        obtain ⟨r, hr⟩ : ∃ r, wr.heap.size = r := ⟨_, rfl⟩
        have hmnl := hmn.out.lt
        go_wp2_with (first
          | (at_len; refine wpList_len_own _ rfl _ 102 rfl 2 4 Try.underlying102 (plainElem (H := Unit) Try.prog 4) bf kf D rfl hmf.out ?_)
          | (at_range; refine wpList_range_own _ rfl _ 102 rfl 2 4 law64 Try.underlying102 (plainElem (H := Unit) Try.prog 4) bf kf D rfl hmf.out ?_; intro w0 hrg0 hg0 hs0))
        go_frame
        rw [hr] at hrg0 hs0 ⊢
        have hszn : 0 < Maps.size D := by omega
        simp only [hszi, hszn, decide_true]
        have HRG := Lib.hid hrg0
        have HMN := Lib.hid (hmn.out.kept hg0 (by simp))
        have HOL := Lib.hid (hol.out.kept (kept_grown0 hg0 (by omega)))
        have HB := Lib.hid (hb.out.trans (below_grown0 hg0 (by have := hb.out.size; omega)))
        have HKP := Lib.hid (hkp.out.trans (kept_grown0 hg0 (by omega)))
        have HIN : Hid (ApInv zs L (fun x => hasI (.map []) x ∨ Maps.has D (.int .i64 x) = true)) := Lib.hid (hinv.out.iff (fun x => ⟨fun h => h.elim (fun h => absurd h hasI_none) id, .inr⟩))
        have hrB : B ≤ r := by omega
        have hBw0 : B ≤ w0.heap.size := by omega
        have hbnr : bn ≠ r := by omega
        have HNE := Lib.hid hne
        clear hrg0 hg0 hs0 hol hmf hmn hinv hb hkp hne
        go_loopg [8] (Maps.size D) (fun k s8 wi => ∃ (left : Lit → Bool) (cnt : Nat) (L2 : List Int) (D2 : DataW Unit) (kn : Nat), cnt ≤ k ∧ Hid (wi.ranges Try.prog 2 (plainElem (H := Unit) Try.prog 4) bf r kf D left cnt) ∧ Hid (wi.ownsMap Try.prog 2 (plainElem (H := Unit) Try.prog 4) bn kn D2) ∧ Hid (OwnI wi gl (gl + 1) (.slice (some ⟨gl, 0, none⟩) N N) L2) ∧ Hid (L2.length = N) ∧ Hid (ApInv zs L2 (fun x => hasI D2 x ∨ left (.int .i64 x) = true)) ∧ kn + phi L2 ≤ phi L ∧ Hid (Below w.heap.size w wi) ∧ Hid (Kept gg (gg + 1) WC wi) ∧ B ≤ wi.heap.size)
        case atStart => exact ⟨_, _, L, .map [], 0, Nat.le_refl _, HRG, HMN, HOL, hL, HIN, by omega, HB, HKP, hBw0⟩
        case round =>
          clear HRG HMN HOL HIN HB HKP hBw0 hBs
          obtain ⟨left, cnt, L2, D2, kn, hck, hrg, hm2, hol2, hL2, hi2, hph2, hbw, hkp2, hB2⟩ := hrel
          go_wp2_with (first
            | (at_next; refine wpList_next_ranges_ib _ rfl _ rfl 2 4 law64 Try.underlying2 Try.underlying4 bf r kf D left cnt rfl hrg.out ?_ ?_)
            | fail)
          · intro hl0
            have HI2 := Lib.hid (hi2.out.iff (S' := hasI D2) (fun x => ⟨.inl, fun h => h.elim id (fun h => by rw [hl0] at h; cases h)⟩))
            have hsd := hm2.out.size_le
            clear hl0 hi2
            go_wp2_with (refine wpList_clear_own _ rfl _ 102 rfl 2 4 Try.underlying102 (plainElem (H := Unit) Try.prog 4) bf kf D rfl hrg.out.owns ?_; intro w5 hm5 hg5)
            go_roundg (2 * phi L2 + (if Maps.size D2 = 0 then 0 else 1))
            case measure =>
              rw [if_neg hsz] at hk
              split <;> omega
            case rel =>
              exact ⟨bn, bf, L2, D2, kn, rfl, rfl, ⟨fun e => HNE.out e.symm, hbn, hbf⟩, Lib.hid (hol2.out.kept (kept_grown1 hg5 (by omega) (by omega))), hL2, Lib.hid (hm2.out.kept hg5 (fun e => HNE.out (by cases e; rfl))), Lib.hid hm5, HI2, by omega, Nat.le_refl _,
                Lib.hid (hbw.out.trans (below_grown1 hg5 (by have := hbw.out.size; omega) (by omega))), Lib.hid (hkp2.out.trans (kept_grown1 hg5 (by omega) (by omega))), by have := hg5.size; omega⟩
          · intro x cx w1 cnt1 hlx hrg1 hlt hg1 hen
            have HV := Lib.hid (hi2.out.take (S' := fun y => hasI D2 y ∨ (left (.int .i64 y) && !(Lit.int .i64 y).sameKey (.int .i64 x)) = true) (v := x) (.inr hlx)
              (fun y h => h.elim .inl (fun h => .inr (left_strike h))) (fun y h => h.elim (fun h => .inl (.inl h)) (fun h => (left_strike2 h).elim (fun h => .inl (.inr h)) .inr)))
            have HRG1 := Lib.hid hrg1
            have HM1 := Lib.hid (hm2.out.kept hg1 (fun e => hbnr (by cases e; rfl)))
            have HOL1 := Lib.hid (hol2.out.kept (kept_grown1 hg1 (by omega) (by omega)))
            have HB1 := Lib.hid (hbw.out.trans (below_grown1 hg1 (by have := hbw.out.size; omega) (by omega)))
            have HKP1 := Lib.hid (hkp2.out.trans (kept_grown1 hg1 (by omega) (by omega)))
            have hBw1 : B ≤ w1.heap.size := by have := hg1.size; omega
            clear hi2 hlx hrg1 hg1 hrg hm2 hol2 hbw hkp2
            go_wp2_with fail
            clear hen
            go_loopw [38] (fun vi wj => ∃ (j : Nat) (L3 : List Int) (D3 : DataW Unit) (kn : Nat), j ≤ m ∧ vi = .int .i64 j ∧ Hid (wj.ranges Try.prog 2 (plainElem (H := Unit) Try.prog 4) bf r kf D (fun z => left z && !z.sameKey (.int .i64 x)) cnt1) ∧ Hid (wj.ownsMap Try.prog 2 (plainElem (H := Unit) Try.prog 4) bn kn D3) ∧ Hid (OwnI wj gl (gl + 1) (.slice (some ⟨gl, 0, none⟩) N N) L3) ∧ Hid (L3.length = N) ∧ Hid (ApInvV zs L3 (fun y => hasI D3 y ∨ (left (.int .i64 y) && !(Lit.int .i64 y).sameKey (.int .i64 x)) = true) x j) ∧ kn + phi L3 ≤ phi L ∧ Hid (Below w.heap.size w wj) ∧ Hid (Kept gg (gg + 1) WC wj) ∧ B ≤ wj.heap.size) (fun vi _ => m - (intOf vi).toNat)
            case atStart => exact ⟨0, L2, D2, kn, Nat.zero_le _, rfl, HRG1, HM1, HOL1, hL2, HV, hph2, HB1, HKP1, hBw1⟩
            case round =>
              clear HRG1 HM1 HOL1 hL2 HV hph2 HB1 HKP1 hBw1
              obtain ⟨j, L3, D3, kn3, hj, rfl, hrj, hmj, holj, hL3, hv3, hph3, hbj, hkpj, hBj⟩ := hrel
              by_cases hjm : j < m
              · obtain rfl := HTA.out (by omega)
                have hjmi : (j : Int) < (m : Int) := by omega
                obtain ⟨g', e1, _, _, hcg, _⟩ := own_at (OG3.out.kept hkpj.out) HLG.out (show j + 1 < m + 1 by omega)
                cases e1
                have hgp := HGA.out (j + 1) (by have := HL.out; omega)
                obtain ⟨gy, hgy⟩ : ∃ c, gnA zs (j + 1) = c := ⟨_, rfl⟩
                rw [show (gnB zs)[j + 1]?.getD 0 = gy from hgy, Nat.add_comm j 1] at hcg
                rw [hgy] at hgp
                have hx1 := hv3.out.goodv.1
                have hx2 := hv3.out.goodv.2.2.1
                have hx3 := fins_le L3
                rw [hL3.out] at hx3
                obtain ⟨q, hqN, hqt, hqe, hqn⟩ := mod_nat (x := x + gy) (N := N) (by omega) (by omega)
                obtain ⟨g', e1, _, _, hcl, hfl⟩ := own_at holj.out hL3.out hqN
                cases e1
                obtain ⟨lv, hlv⟩ : ∃ c, L3[q]?.getD 0 = c := ⟨_, rfl⟩
                rw [hlv] at hcl
                have HLQ : Hid (lq L3 L3.length (x + gy) = lv) := Lib.hid (by unfold lq; rw [hL3.out, hqn, hlv])
                have p1 : IntKind.i64.wrap (x + gy) = x + gy := IntWalk.i64_in _ (by omega)
                have p2 : IntKind.i64.wrap (q : Int) = (q : Int) := IntWalk.i64_in _ (by omega)
                have hqi : (q : Int) < (N : Int) := by omega
                have HGY := Lib.hid hgy
                have HQN := Lib.hid hqn
                have hsb : 0 ≤ x + gy ∧ x + gy ≤ 8192000 := by omega
                by_cases hls : x + gy < lv
                · have HY := Lib.hid (hv3.out.yes HP.out (by rw [HL.out]; omega) (s := x + gy) (by rw [hgy]) (by rw [HLQ.out]; exact hls) (S' := fun y => hasI (D3.put (.int .i64 (x + gy)) (.lit (.bool true))) y ∨ (left (.int .i64 y) && !(Lit.int .i64 y).sameKey (.int .i64 x)) = true) (fun y => by
                    rw [hasI_put hmj.out.isMap]
                    exact ⟨fun h => h.elim (fun h => h.elim (fun h => .inl (.inl h)) .inr) (fun h => .inl (.inr h)), fun h => h.elim (fun h => h.elim (fun h => .inl (.inl h)) .inr) (fun h => .inl (.inr h))⟩))
                  rw [hL3.out, HQN.out] at HY
                  have hphy := HY.out.2
                  have HMS := Lib.hid (hmj.out.setCell (a := ⟨gl, q, none⟩) (show bn ≠ gl by omega) (.int .i64 (x + gy)))
                  have HRS := Lib.hid (hrj.out.kept (grown_cell1 _ ⟨gl, q, none⟩ (.int .i64 (x + gy))) (fun e => by have h9 : bf = gl := Option.some.inj e; omega) (fun e => by have h9 : r = gl := Option.some.inj e; omega))
                  have HOS := Lib.hid (own_store (j := q) holj.out hL3.out (x + gy))
                  have HBS := Lib.hid (hbj.out.setCell (p := ⟨gl, q, none⟩) (show w.heap.size ≤ gl by omega) (.int .i64 (x + gy)))
                  have HKS := Lib.hid (hkpj.out.trans (keptS2 _ (p := ⟨gl, q, none⟩) (show ¬ (gg ≤ gl ∧ gl < gg + 1) by omega) (.int .i64 (x + gy))))
                  have HLS : Hid ((L3.set q (x + gy)).length = N) := Lib.hid (by rw [List.length_set, hL3.out])
                  clear hlv hgy hqn hqe hgp hx2 hx3 hv3
                  go_wp2_with (at_mapUpdate; refine wpList_mapUpdate_own _ rfl _ _ _ 102 rfl 2 4 law64 Try.underlying102 (plainElem (H := Unit) Try.prog 4) bn kn3 D3 rfl HMS.out (by unfold maxLen; omega) (.int .i64 (x + gy)) (.bool true) (.int .i64 (x + gy)) rfl rfl (keyOf_int_mk Try.underlying2 (WalkArith.wf_i64 (by omega))) (.lit (.bool true)) [] pb_true ?_; intro w6 hm6 hg6)
                  have hsw : (World.setCell wr ⟨gl, q, none⟩ (.int .i64 (x + gy))).heap.size = wr.heap.size := by simp [World.setCell]
                  go_roundw
                  case rel =>
                    exact ⟨j + 1, L3.set q (x + gy), _, kn3 + 1, by omega, by go_num, Lib.hid (HRS.out.kept hg6 (fun e => HNE.out (by cases e; rfl)) (fun e => hbnr (by cases e; rfl))), Lib.hid hm6, Lib.hid (HOS.out.kept (kept_grown1 hg6 (by rw [hsw]; omega) (by omega))), HLS, Lib.hid HY.out.1, by omega,
                      Lib.hid (HBS.out.trans (below_grown1 hg6 (by have := HBS.out.size; omega) (by omega))), Lib.hid (HKS.out.trans (kept_grown1 hg6 (by rw [hsw]; omega) (by omega))), by have := hg6.size; rw [hsw] at this; omega⟩
                  case measure => first | (simp [intOf]; done) | (simp [intOf]; omega)
                · have HY := Lib.hid (hv3.out.no (by rw [HGY.out, HLQ.out]; omega))
                  clear hlv hgy hqn hqe hgp hx2 hx3 hv3
                  go_wp2_with fail
                  go_roundw
                  case rel => exact ⟨j + 1, L3, D3, kn3, by omega, by go_num, hrj, hmj, holj, hL3, HY, hph3, hbj, hkpj, hBj⟩
                  case measure => first | (simp [intOf]; done) | (simp [intOf]; omega)
              · obtain rfl : m = j := by omega
                have HG := Lib.hid (hv3.out.give (by rw [HL.out]; omega))
                clear hv3
                go_wp2_with fail
                go_roundg cnt1
                case measure => omega
                case rel => exact ⟨_, cnt1, L3, D3, kn3, Nat.le_refl _, hrj, hmj, holj, hL3, HG, hph3, hbj, hkpj, hBj⟩
end Go.Proofs.Ytncgkoanckefmaa
