/- Binomials of semigroups, the program's: contract. Conditions: stated at each theorem. -/
import Derived.Test.YtaigcmhfhdapdaaSbM
namespace Go.Proofs.Ytaigcmhfhdapdaa
open Go.ChangeShapes Go.WideShapes Go.ChangeAt Go.RowKit Go.Deep
set_option linter.unusedVariables false
set_option linter.unusedSimpArgs false


theorem sb_no {zs : List Int} (h : brB zs = false) : sbA zs = [] ∧ goC zs = 1 := by simp [sbA, goC, h]
theorem sb_one {zs : List Int} (h : brB zs = true) (h1 : zs.length = 1) : sbA zs = [] ∧ goC zs = 0 := by simp [sbA, goC, h, sbB, h1]
theorem sb_more {zs : List Int} (h : brB zs = true) (h1 : ¬ zs.length = 1) : sbA zs = sbL zs (zs.length - 1) ++ [[zs[0]?.getD 0, -1], [1, 1]] ∧ goC zs = 0 := by simp [sbA, goC, h, sbB, h1]

set_option maxRecDepth 100000 in
set_option maxHeartbeats 2000000 in
theorem implSemigroupBinomials_any (v : Value) (zs : List Int) (w : World) (h : ReadI w w.heap.size v zs) (hn : zs.length ≤ 1048576) (hw : ∀ z ∈ zs, (Lit.int .i64 z).wf = true) :
    Calls Try.prog 44 #[.agg #[v]] w (AnsQC w (sbA zs) (goC zs)) := by
  obtain ⟨n, A, c, rfl, hr, HL, _, hnc, HF, hcm⟩ := h.split2
  rw [HL.out] at hn
  obtain ⟨W0, HE⟩ : ∃ W, W = w.alloc (.cells #[.slice A n c] 28) := ⟨_, rfl⟩
  have hb0 : Below w.heap.size w W0 := by rw [HE]; exact below_box2 _ _
  have hq0 : BoxI W0 w.heap.size (.slice A n c) := by rw [HE]; exact BoxI.new _ _ _
  have hs0 : w.heap.size < W0.heap.size := hq0.2
  have H0 := Lib.hid ((h.below hb0).more hb0.size)
  have HW := Lib.hid hw
  have HEQ := Lib.hid HE
  have B0 := Lib.hid hb0
  have Q0 := Lib.hid hq0.1
  have HN1 : Hid (zs.length ≤ 1048576) := Lib.hid (by rw [HL.out]; exact hn)
  rcases bool_fs (brB zs) with hp | hp
  · have E := Lib.hid (sb_no hp)
    have HP := Lib.hid hp
    clear h hr hp hb0 hq0 HE hw
    go_enter Try.func44, Try.ntmps44
    go_wp2_with fail
    rw [← HEQ.out]
    refine (implIsBranch_if _ zs _ false H0.out HN1.out HW.out HP.out).mono ?_
    rintro e w1 ⟨rfl, hb1⟩
    go_wp2
    go_ret2
    exact ansQ_end (zss := []) E.out.1.symm (by rw [E.out.2]) (OwnQ.nil _ _) (B0.out.trans (hb1.mono (by omega)))
  have HP := Lib.hid hp
  have HZF := Lib.hid (br_first hp)
  have hn0 : 0 < n := by have := brB_pos hp; rw [HL.out] at this; exact this
  obtain ⟨a, rfl, hlt, hc0⟩ := hr.2 0 hn0
  obtain ⟨g, o, rfl⟩ := HF.out a rfl
  have hgw : g < w.heap.size := hlt
  have CZ : Hid (w.cell? ⟨g, o, none⟩ = some (.int .i64 (zs[0]?.getD 0))) := Lib.hid (by
    have h2 : (⟨g, o, none⟩ : Addr).add 0 = ⟨g, o, none⟩ := by rw [add_lit]; rfl
    rw [h2] at hc0; simpa using hc0)
  by_cases h1 : n = 1
  · subst h1
    have E := Lib.hid (sb_one hp HL.out)
    clear h hr hp hb0 hq0 HE hw hc0
    go_enter Try.func44, Try.ntmps44
    go_wp2_with fail
    rw [← HEQ.out]
    refine (implIsBranch_if _ zs _ true H0.out HN1.out HW.out HP.out).mono ?_
    rintro e w1 ⟨rfl, hb1⟩
    have q1 := (hb1.cell (p := ⟨w.heap.size, 0, none⟩) hs0).trans Q0.out
    have B1 := Lib.hid (B0.out.trans (hb1.mono (by omega)))
    clear hb1
    go_wp2
    go_ret2
    exact ansQ_end (zss := []) E.out.1.symm (by rw [E.out.2]) (OwnQ.nil _ _) B1.out
  have E := Lib.hid (sb_more hp (by rw [HL.out]; exact h1))
  obtain ⟨m, rfl⟩ : ∃ m, n = m + 1 := ⟨n - 1, by omega⟩
  have hm1 : 1 ≤ m := by omega
  have hLm : zs.length - 1 = m := by have := HL.out; omega
  rw [hLm] at E
  have HLG : Hid ((gnB zs).length = m + 1) := Lib.hid (by rw [gnB_len, HL.out])
  have hne1 : (((m : Int) + 1) == 1) = false := by simp; omega
  have hne2 : ¬ ((m : Int) + 1) = 1 := by omega
  have hzf := HZF.out
  obtain ⟨j0, hj0, hj1, hj2, hj3⟩ := info_parts slice_infoP
  clear h hr hp hb0 hq0 HE hw hc0 hlt h1
  go_enter Try.func44, Try.ntmps44
  go_wp2_with fail
  rw [← HEQ.out]
  refine (implIsBranch_if _ zs _ true H0.out HN1.out HW.out HP.out).mono ?_
  rintro e W1 ⟨rfl, hb1⟩
  have hs1 := hb1.size
  have q1 := (hb1.cell (p := ⟨w.heap.size, 0, none⟩) hs0).trans Q0.out
  have Q1 := Lib.hid q1
  have HR1 := Lib.hid ((H0.out.below hb1).more hs1)
  have B1 := Lib.hid (B0.out.trans (hb1.mono (by omega)))
  clear hb1
  go_wp2_with fail
  refine (generators_any _ zs W1 HR1.out HN1.out HP.out).mono ?_
  rintro e W2 ⟨v1, rfl, hv1, ho2, hb2⟩
  clear hv1
  obtain ⟨A1, c1, rfl⟩ := ho2.form HLG.out
  obtain ⟨gg, e1, hg1, hg2, _, _⟩ := own_at ho2 HLG.out hn0
  subst e1
  have hs2 := hb2.size
  have q2 := (hb2.cell (p := ⟨w.heap.size, 0, none⟩) (by show w.heap.size < _; omega)).trans Q1.out
  have Q2 := Lib.hid q2
  have HR2 := Lib.hid ((HR1.out.below hb2).more hs2)
  have OG2 := Lib.hid (own_tight ho2 hg2)
  have B2 := Lib.hid (B1.out.trans (hb2.mono (by omega)))
  clear ho2 hb2 q1
  go_wp2_with fail
  refine (puiseux_any _ zs W2 HR2.out HN1.out HP.out).mono ?_
  rw [hLm]
  rintro e W3 ⟨gp, rfl, hgp, hpr, hb3⟩
  have hs3 := hb3.size
  have hgpl : gp < W3.heap.size := World.rowIs.lt hpr
  have PR := Lib.hid hpr
  have OG3 := Lib.hid (OG2.out.kept (Kept.of_below hb3 (by omega)))
  have Q3 := Lib.hid ((hb3.cell (p := ⟨w.heap.size, 0, none⟩) (by show w.heap.size < _; omega)).trans Q2.out)
  have B3 := Lib.hid (B2.out.trans (hb3.mono (by omega)))
  have HL0 : Hid (([] : List (List Int)) = sbL zs 0) := Lib.hid rfl
  obtain ⟨lo, hlo⟩ : ∃ lo, lo = W3.heap.size := ⟨_, rfl⟩
  have HLO := Lib.hid hlo
  clear hpr hb3 q2 hlo
  go_wp2_with fail
  go_loopw [5, 21] (fun vo vi wr => ∃ (i k : Nat) (L : List (List Int)) (A' : Option Addr) (c' : Nat), i ≤ m ∧ k = 2 * i ∧ vi = .int .i64 i ∧ vo = .slice A' k c' ∧ Hid (L.length = k) ∧ Hid (L = sbL zs i) ∧ Hid (OwnQ wr lo wr.heap.size (.slice A' k c') L) ∧ lo ≤ wr.heap.size ∧ Hid (Below lo W3 wr)) (fun _ vi _ => m - (intOf vi).toNat)
  case atStart => exact ⟨0, 0, [], none, 0, by omega, rfl, rfl, rfl, Lib.hid rfl, HL0, Lib.hid (OwnQ.nil _ _), by rw [HLO.out]; exact Nat.le_refl _, Lib.hid (Below.refl _ _)⟩
  case round =>
    obtain ⟨i, k, L, A', c', hi, hki, rfl, rfl, hL, hLn, hq, hlow, hb⟩ := hrel
    have hszw := hb.out.size
    have hloe := HLO.out
    by_cases hlt : i < m
    · obtain ⟨q1, q2, q3, q4⟩ := PR.out.cells hlt
      have e1 : wr.cell? ⟨gp, i * 2, none⟩ = some (.int .i64 (ppF zs i).1) := (hb.out.cell (p := ⟨gp, i * 2, none⟩) (by show gp < _; omega)).trans q1
      have e2 : wr.cell? ⟨gp, i * 2 + 1, none⟩ = some (.int .i64 (ppF zs i).2) := (hb.out.cell (p := ⟨gp, i * 2 + 1, none⟩) (by show gp < _; omega)).trans q2
      obtain ⟨gg', e3, _, hg3, hx, _⟩ := own_at OG3.out HLG.out (show i + 1 < m + 1 by omega)
      cases e3
      have hxr : wr.cell? ⟨gg, i + 1, none⟩ = some (.int .i64 ((gnB zs)[i + 1]?.getD 0)) := (hb.out.cell (p := ⟨gg, i + 1, none⟩) (by show gg < _; omega)).trans hx
      have htm := cd_term HP.out (k := i) (by rw [HL.out]; omega)
      have HST := Lib.hid (sbL_step zs i)
      have hP2 : (ppF zs i).2 = ((dvL 0 zs)[i]?.getD 0).tdiv ((dvL 0 zs)[i + 1]?.getD 0) := rfl
      rw [← hP2] at htm HST
      obtain ⟨a, ha⟩ : ∃ a, (ppF zs i).1 = a := ⟨_, rfl⟩
      obtain ⟨b, hbb⟩ : ∃ a, (ppF zs i).2 = a := ⟨_, rfl⟩
      obtain ⟨x, hxx⟩ : ∃ a, (gnB zs)[i + 1]?.getD 0 = a := ⟨_, rfl⟩
      rw [ha] at e1
      rw [hbb] at e2 htm HST
      rw [hxx] at hxr htm HST
      have hmu := mul_range (A := 2000) (B := 128000) (a := b) (b := x) htm.2.2.1 (by omega)
      have hin : (i : Int) < (m : Int) := by omega
      have h6 : (0 : Int) ≤ (i : Int) := by omega
      have h7 : ((i : Int) + 1).toNat = i + 1 := by omega
      have h8 : (i : Int) + 1 < (m : Int) + 1 := by omega
      have h9 : (0 : Int) ≤ (i : Int) + 1 := by omega
      have h12 : i + 1 < m + 1 := by omega
      have p1 : IntKind.i64.wrap ((i : Int) + 1) = (i : Int) + 1 := IntWalk.i64_in _ (by omega)
      have p2 : IntKind.i64.wrap (b * x) = b * x := IntWalk.i64_in _ (by omega)
      have hgr : gg < wr.heap.size := by omega
      obtain ⟨us, ls, hs, hrows⟩ := hq.out
      rw [hL.out] at hrows
      have hbX : Below wr.heap.size wr (wr.alloc (.cells #[.int .i64 a, .int .i64 b] 69)) := below_box2 _ _
      have HROW : Hid (Rows2 (wr.alloc (.cells #[.int .i64 a, .int .i64 b] 69)) lo (wr.alloc (.cells #[.int .i64 a, .int .i64 b] 69)).heap.size (.slice A' k c') k us ls hs (fun i l h u => OwnI (wr.alloc (.cells #[.int .i64 a, .int .i64 b] 69)) l h u (L.getD i []))) := Lib.hid (rows_box hrows _)
      have hloX : lo ≤ (wr.alloc (.cells #[.int .i64 a, .int .i64 b] 69)).heap.size := by simp; omega
      have HBX := Lib.hid (hb.out.alloc hlow (.cells #[.int .i64 a, .int .i64 b] 69))
      have hkn : k ≤ 2097152 := by omega
      have HKI := Lib.hid hki
      clear q1 q2 q3 q4 hx ha hbb hxx htm hP2 hrows hbX hki
      go_wp2_with (at_builtin; go_loud (refine Go.wpList_append_lies _ rfl _ _ 45 rfl lo 22 j0 (.slice none 0 0) 1 24 Try.underlying45 hj0 hj1 hj2 hj3 rfl (by decide) _ (k) us rfl (World.ownsRow.alloc (World.ownsRow.alloc (World.ownsRow.alloc HROW.out.1 _) _) _) ⟨(wr.heap.size + 1) + 1 + 1, 0, none⟩ 2 2 [.slice (some ⟨(wr.heap.size + 1), 0, none⟩) 2 2, .slice (some ⟨(wr.heap.size + 1) + 1, 0, none⟩) 2 2] rfl rfl (news3 (wr.alloc (.cells #[.int .i64 a, .int .i64 b] 69)) _ _ _ (World.size_alloc _ _).symm) (by simp [Value.oneCell']) (by decide) (by simp only [maxLen]; omega) (by omega) (by simp; omega) _ rfl ?_; intro g2 cap2 w3 hown3 hgrow3 hg3 hlt3; (have HQ3 := Lib.hid (rows_push22 HROW.out hL.out hloX (World.size_alloc _ _) (b * x) 1 x (-1) hown3 hgrow3 hg3 hlt3)); (have HB3 := Lib.hid ((((HBX.out.alloc hloX _).alloc (by (simp; omega)) _).alloc (by (simp; omega)) _).grown hgrow3 (by (simp; omega)) (fun k hk => (World.ownsRow.lt HROW.out.1 k hk).1))); clear hown3 hgrow3 hg3 hlt3))
      go_roundw
      case rel => exact ⟨i + 1, k + 2, _, some ⟨g2, 0, none⟩, cap2, by omega, by have := HKI.out; omega, by go_num, rfl, Lib.hid (by rw [List.length_append, hL.out]; rfl), Lib.hid (by rw [HST.out, hLn.out]), HQ3, by have := HB3.out.size; have := HLO.out; omega, HB3⟩
      case measure => simp [intOf]; omega
    · obtain rfl : i = m := by omega
      have qr : wr.cell? ⟨w.heap.size, 0, none⟩ = some (.slice (some ⟨g, o, none⟩) (i + 1) c) := (hb.out.cell (p := ⟨w.heap.size, 0, none⟩) (by show w.heap.size < _; omega)).trans Q3.out
      have czr : wr.cell? ⟨g, o, none⟩ = some (.int .i64 (zs[0]?.getD 0)) := (hb.out.cell (p := ⟨g, o, none⟩) (by show g < _; omega)).trans ((B3.out.cell (p := ⟨g, o, none⟩) hgw).trans CZ.out)
      obtain ⟨us, ls, hs, hrows⟩ := hq.out
      rw [hL.out] at hrows
      have HROW := Lib.hid hrows
      have hloX := hlow
      have HBX := hb
      have hkn : k ≤ 2097152 := by omega
      have E1 : Hid (L ++ [[zs[0]?.getD 0, -1], [1, 1]] = sbA zs) := Lib.hid (by rw [E.out.1, hLn.out])
      obtain ⟨z0, hz00⟩ : ∃ z, zs[0]?.getD 0 = z := ⟨_, rfl⟩
      rw [hz00] at czr E1
      clear hrows hz00 hzf hki
      go_wp2_with (at_builtin; go_loud (refine Go.wpList_append_lies _ rfl _ _ 45 rfl lo 22 j0 (.slice none 0 0) 1 24 Try.underlying45 hj0 hj1 hj2 hj3 rfl (by decide) _ (k) us rfl (World.ownsRow.alloc (World.ownsRow.alloc (World.ownsRow.alloc HROW.out.1 _) _) _) ⟨wr.heap.size + 1 + 1, 0, none⟩ 2 2 [.slice (some ⟨wr.heap.size, 0, none⟩) 2 2, .slice (some ⟨wr.heap.size + 1, 0, none⟩) 2 2] rfl rfl (news3 wr _ _ _ rfl) (by simp [Value.oneCell']) (by decide) (by simp only [maxLen]; omega) (by omega) (by simp; omega) _ rfl ?_; intro g2 cap2 w3 hown3 hgrow3 hg3 hlt3; (have HQ3 := Lib.hid (rows_push22 HROW.out hL.out hloX rfl z0 (-1) 1 1 hown3 hgrow3 hg3 hlt3)); (have HB3 := Lib.hid ((((HBX.out.alloc hloX _).alloc (by (simp; omega)) _).alloc (by (simp; omega)) _).grown hgrow3 (by (simp; omega)) (fun k hk => (World.ownsRow.lt HROW.out.1 k hk).1))); clear hown3 hgrow3 hg3 hlt3))
      go_ret2
      have hq9 := HQ3.out
      have hb9 := HB3.out
      have hl9 : w.heap.size ≤ lo := by omega
      exact ansQ_end E1.out (by rw [E.out.2]) (ownQ_less hq9 hl9) (B3.out.trans (hb9.mono hl9))
end Go.Proofs.Ytaigcmhfhdapdaa
