/- Blocks of equal numbers, the model's: contract of spec.l04Blocks. Conditions: stated at the theorem. -/
import Derived.Test.YtncgkoanckefmaaBkI
import Derived.Test.YtncgkoanckefmaaBrS
namespace Go.Proofs.Ytncgkoanckefmaa
open Go.ChangeShapes Go.WideShapes Go.ChangeAt Go.RowKit Go.Deep
set_option linter.unusedVariables false
set_option linter.unusedSimpArgs false

theorem rows_push2 {WR w3 : World} {lo N c g2 cap2 : Nat} {A : Option Addr} {us : List Value} {ls hs : Nat → Nat} {L : List (List Int)} (hr : Rows2 WR lo WR.heap.size (.slice A N c) N us ls hs (fun i l h u => OwnI WR l h u (L.getD i [])))
    (hL : L.length = N) (hlo : lo ≤ WR.heap.size) (x y : Int) (hown : w3.ownsRow lo 22 1 (.slice (some ⟨g2, 0, none⟩) (N + 1) cap2) (N + 1) (us ++ [.slice (some ⟨WR.heap.size, 0, none⟩) 2 2]))
    (hgrow : ((WR.alloc (.cells #[.int .i64 x, .int .i64 y] 2)).alloc (.cells #[.slice (some ⟨WR.heap.size, 0, none⟩) 2 2] 22)).grownBy w3 (Value.slice A N c).ownBlock)
    (hg : (Value.slice A N c).ownBlock = some g2 ∨ g2 = ((WR.alloc (.cells #[.int .i64 x, .int .i64 y] 2)).alloc (.cells #[.slice (some ⟨WR.heap.size, 0, none⟩) 2 2] 22)).heap.size) (hlt : g2 < w3.heap.size) :
    OwnQ w3 lo w3.heap.size (.slice (some ⟨g2, 0, none⟩) (N + 1) cap2) (L ++ [[x, y]]) := by
  have hbw : Below WR.heap.size WR ((WR.alloc (.cells #[.int .i64 x, .int .i64 y] 2)).alloc (.cells #[.slice (some ⟨WR.heap.size, 0, none⟩) 2 2] 22)) := ((Below.refl _ _).alloc (Nat.le_refl _) _).alloc (by simp) _
  have hOE := (list2R (w := WR) (lo := WR.heap.size) (Nat.le_refl _) x y).kept (kept_boxR (WR.alloc (.cells #[.int .i64 x, .int .i64 y] 2)) (.cells #[.slice (some ⟨WR.heap.size, 0, none⟩) 2 2] 22) WR.heap.size _ (Nat.le_refl _))
  exact rows_snocR hr hL hlo hbw hOE (Nat.le_refl _) (by simp) hown hgrow hg hlt
theorem rows_last {w : World} {lo hi n c : Nat} {A : Option Addr} {D : List (List Int)} {a b : Int} (h : OwnQ w lo hi (.slice A (n + 1) c) (D ++ [[a, b]])) (hl : (D ++ [[a, b]]).length = n + 1) :
    ∃ go gi ci, A = some ⟨go, 0, none⟩ ∧ w.cell? ⟨go, n, none⟩ = some (.slice (some ⟨gi, 0, none⟩) 2 ci) ∧ lo ≤ gi ∧ w.cell? ⟨gi, 1, none⟩ = some (.int .i64 b) ∧ w.frozen? ⟨gi, 1, none⟩ = false ∧ ∀ z, OwnQ (w.setCell ⟨gi, 1, none⟩ (.int .i64 z)) lo hi (.slice A (n + 1) c) (D ++ [[a, z]]) := by
  have hgl := get_last hl
  obtain ⟨go, gi, ci, e, h1, h2, h3, h4, h5, h6, h7⟩ := rows_at (i := n) (j := 1) h hl (by omega) (by rw [hgl]; simp)
  rw [hgl] at h3 h6
  refine ⟨go, gi, ci, e, h3, h4, by simpa using h6, h7, fun z => ?_⟩
  have h8 := rows_set (i := n) (j := 1) (gi := gi) (ci := ci) h hl (by omega) (fun go' e' => by rw [e] at e'; cases e'; rw [hgl]; exact h3) z
  rw [set_last hl] at h8
  exact h8
theorem below_set {w0 w : World} {B : Nat} (h : Below B w0 w) {g o : Nat} (hg : B ≤ g) (u : Value) : Below B w0 (w.setCell ⟨g, o, none⟩ u) := h.setCell (p := ⟨g, o, none⟩) hg u
theorem setCell_size (w : World) (p : Addr) (u : Value) : (w.setCell p u).heap.size = w.heap.size := by simp [World.setCell]

set_option maxRecDepth 100000 in
set_option maxHeartbeats 2000000 in
theorem l04Blocks_any (v : Value) (zs : List Int) (w : World) (h : ReadI w w.heap.size v zs) (hn : zs.length ≤ 1048576) :
    Calls Try.prog 104 #[v] w fun e w' => ∃ A c, e = .returned (.slice A (bkQ zs).length c) ∧ OwnQ w' w.heap.size w'.heap.size (.slice A (bkQ zs).length c) (bkQ zs) ∧ Below w.heap.size w w' := by
  obtain ⟨n, A, c, rfl, hr, HL, _, hnc, HF, hcm⟩ := h.split2
  rw [HL.out] at hn
  have HR := Lib.hid hr
  clear h hr
  have HO : Hid (OwnQ (w.alloc (.cells #[] 22)) w.heap.size (w.alloc (.cells #[] 22)).heap.size (.slice (some ⟨w.heap.size, 0, none⟩) 0 0) []) := Lib.hid (ownQ_newR w w.heap.size (Nat.le_refl _))
  have HB : Hid (Below w.heap.size w (w.alloc (.cells #[] 22))) := Lib.hid (below_box2 _ _)
  obtain ⟨i0, hi0, hz0, hz1, hz2⟩ := info_parts ints_infoR
  go_enter Try.func104, Try.ntmps104
  go_wp2
  go_loopw [3, 4] (fun vo vi wr => ∃ (i N : Nat) (A' : Option Addr) (c' : Nat), i ≤ n ∧ N ≤ i ∧ vo = .slice A' N c' ∧ vi = .int .i64 i ∧ Hid ((bkQ (zs.take i)).length = N) ∧ Hid (OwnQ wr w.heap.size wr.heap.size (.slice A' N c') (bkQ (zs.take i))) ∧ Hid (Below w.heap.size w wr)) (fun _ vi _ => n - (intOf vi).toNat)
  case atStart => exact ⟨0, 0, _, _, by omega, by omega, rfl, rfl, Lib.hid rfl, HO, HB⟩
  case round =>
    obtain ⟨i, N, A', c', hi, hN, rfl, rfl, HN, ho, hb⟩ := hrel
    by_cases hin : i < n
    rotate_left
    · obtain rfl : i = n := by omega
      have HT : Hid (zs.take i = zs) := Lib.hid (List.take_of_length_le (by rw [HL.out]; exact Nat.le_refl _))
      rw [HT.out] at HN ho
      go_wp2
      go_ret
      exact ⟨A', c', by rw [HN.out]; rfl, by rw [HN.out]; exact ho.out, hb.out⟩
    obtain ⟨a, rfl, hlt, hc⟩ := HR.out.2 i hin
    obtain ⟨g, o, rfl⟩ := HF.out a rfl
    have hlt' : g < w.heap.size := hlt
    have d1 : wr.cell? ⟨g, o + i, none⟩ = some (.int .i64 (zs[i]?.getD 0)) := by rw [add_lit] at hc; rw [hb.out.cell (p := ⟨g, o + i, none⟩) hlt']; simpa using hc
    clear hlt
    have hin2 : (i : Int) < (n : Int) := by omega
    by_cases h0 : i = 0
    · subst h0
      rw [Nat.add_zero] at d1
      have HX : Hid (bkQ (zs.take (0 + 1)) = bkQ (zs.take 0) ++ [[zs[0]?.getD 0, 1]]) := Lib.hid (bkQ_first HL.out hin)
      generalize zs[0]?.getD 0 = z at *
      go_wp2_with fail
      go_quiet (fail)
      obtain ⟨WR, hWR⟩ : ∃ X, X = wr.drewN nq := ⟨_, rfl⟩
      rw [← hWR]
      have HOW : Hid (OwnQ WR w.heap.size WR.heap.size (.slice A' N c') (bkQ (zs.take 0))) := Lib.hid (by rw [hWR]; exact ho.out)
      have HBW : Hid (Below w.heap.size w WR) := Lib.hid (by rw [hWR]; exact below_drewN hb.out nq)
      have d2 : WR.cell? ⟨g, o, none⟩ = some (.int .i64 z) := by rw [hWR]; exact d1
      clear hWR d1 ho hb
      obtain ⟨us, ls, hs, hrows⟩ := HOW.out
      rw [HN.out] at hrows
      have HROW := Lib.hid hrows
      have hbs := HBW.out.size
      clear hrows
      go_wp2_with (at_builtin; refine wpList_append_lies rfl _ _ 51 rfl w.heap.size 22 i0 (.slice none 0 0) 1 24 Try.underlying51 hi0 hz0 hz1 hz2 rfl (by decide) _ N us rfl (World.ownsRow.alloc (World.ownsRow.alloc HROW.out.1 _) _) ⟨WR.heap.size + 1, 0, none⟩ 1 1 [.slice (some ⟨WR.heap.size, 0, none⟩) 2 2] rfl rfl (World.news_of_block (cs := #[.slice (some ⟨WR.heap.size, 0, none⟩) 2 2]) (t := 22) (fr := (0, 0)) (heap_alloc2_new WR _ _)) (by simp [Value.oneCell']) (by decide) (by simp only [maxLen]; omega) (by omega) (by simp; omega) ?_; intro g2 cap2 w3 hown3 hgrow3 hg3 hlt3; have HQ3 := Lib.hid (rows_push2 HROW.out HN.out hbs z 0 hown3 hgrow3 hg3 hlt3); have HB3 := Lib.hid (((HBW.out.alloc hbs _).alloc (by simp; omega) _).grown hgrow3 (by simp; omega) (fun k hk => (World.ownsRow.lt HROW.out.1 k hk).1)); clear hown3 hgrow3 hg3 hlt3; obtain ⟨go, gi, ci, e9, k1, k2, k3, k4, k5⟩ := rows_last HQ3.out (by rw [List.length_append, HN.out]; rfl); cases e9; have K5 := Lib.hid k5; clear k5)
      go_roundw
      case rel => exact ⟨0 + 1, N + 1, _, _, by omega, by omega, rfl, by go_num, Lib.hid (by rw [HX.out, List.length_append, HN.out]; rfl), Lib.hid (by rw [HX.out, setCell_size]; exact K5.out 1), Lib.hid (below_set HB3.out k2 _)⟩
      case measure => simp [intOf]; omega
    · have hi1 : 0 < i := by omega
      obtain ⟨a', ea, _, hc'⟩ := HR.out.2 (i - 1) (by omega)
      cases ea
      have dp : wr.cell? ⟨g, o + (i - 1), none⟩ = some (.int .i64 (zs[i - 1]?.getD 0)) := by rw [add_lit] at hc'; rw [hb.out.cell (p := ⟨g, o + (i - 1), none⟩) hlt']; simpa using hc'
      have p1 : IntKind.i64.wrap ((i : Int) - 1) = (i : Int) - 1 := IntWalk.i64_in _ (by omega)
      have p2 : ((i : Int) - 1).toNat = i - 1 := by omega
      have p3 : (0 : Int) ≤ (i : Int) - 1 := by omega
      have p4 : (i : Int) - 1 < (n : Int) := by omega
      have p5 : ((i : Int) == 0) = false := by simpa using h0
      have p6 : (i : Int) ≠ 0 := by omega
      clear hc hc'
      by_cases hzz : zs[i]?.getD 0 = zs[i - 1]?.getD 0
      · obtain ⟨D, k, hD, hX⟩ := bkQ_same HL.out hin hi1 hzz
        have hkb : 1 ≤ k ∧ k ≤ 1048576 := by
          have h5 := bk_bound (zs.take i)
          have h6 : [zs[i]?.getD 0, k] ∈ bkQ (zs.take i) := by rw [hD]; simp
          obtain ⟨p, hp, e⟩ := List.mem_map.1 h6
          have h7 := h5.2 p hp
          have h8 : p.2 = k := by
            simp only [List.cons.injEq] at e
            exact e.2.1
          have h9 : (zs.take i).length ≤ 1048576 := by rw [List.length_take]; omega
          omega
        have hzb : (zs[i]?.getD 0 == zs[i - 1]?.getD 0) = true := by simpa using hzz
        have hzn : (zs[i]?.getD 0 != zs[i - 1]?.getD 0) = false := by simp [hzz]
        rw [hD] at HN ho
        have HX := Lib.hid hX
        rw [hzz] at HN ho d1 HX
        clear hD hX hzb hzn
        generalize zs[i]?.getD 0 = z0 at *
        generalize zs[i - 1]?.getD 0 = z at *
        obtain ⟨M, rfl⟩ : ∃ M, N = M + 1 := ⟨N - 1, by have := HN.out; simp at this; omega⟩
        clear hzz
        have q1 : IntKind.i64.wrap ((M : Int) + 1 - 1) = (M : Int) := by rw [IntWalk.i64_in _ (by omega)]; omega
        go_wp2_with fail
        go_quiet (fail)
        obtain ⟨WR, hWR⟩ : ∃ X, X = wr.drewN nq := ⟨_, rfl⟩
        rw [← hWR]
        have HOW : Hid (OwnQ WR w.heap.size WR.heap.size (.slice A' (M + 1) c') (D ++ [[z, k]])) := Lib.hid (by rw [hWR]; exact ho.out)
        have HBW : Hid (Below w.heap.size w WR) := Lib.hid (by rw [hWR]; exact below_drewN hb.out nq)
        clear hWR d1 dp ho hb
        obtain ⟨go, gi, ci, e9, k1, k2, k3, k4, k5⟩ := rows_last HOW.out HN.out
        subst e9
        have K5 := Lib.hid k5
        clear k5
        go_wp2_with fail
        go_roundw
        case rel => exact ⟨i + 1, M + 1, _, _, by omega, by omega, rfl, by go_num, Lib.hid (by rw [HX.out]; have := HN.out; simp at this ⊢; exact this), Lib.hid (by rw [HX.out, setCell_size]; exact K5.out (k + 1)), Lib.hid (below_set HBW.out k2 _)⟩
        case measure => simp [intOf]; omega
      · have HX : Hid (bkQ (zs.take (i + 1)) = bkQ (zs.take i) ++ [[zs[i]?.getD 0, 1]]) := Lib.hid (bkQ_new HL.out hin hi1 hzz)
        generalize zs[i]?.getD 0 = z at *
        generalize zs[i - 1]?.getD 0 = z1 at *
        have hzn : (z != z1) = true := by simp [hzz]
        go_wp2_with fail
        go_quiet (fail)
        obtain ⟨WR, hWR⟩ : ∃ X, X = wr.drewN nq := ⟨_, rfl⟩
        rw [← hWR]
        have HOW : Hid (OwnQ WR w.heap.size WR.heap.size (.slice A' N c') (bkQ (zs.take i))) := Lib.hid (by rw [hWR]; exact ho.out)
        have HBW : Hid (Below w.heap.size w WR) := Lib.hid (by rw [hWR]; exact below_drewN hb.out nq)
        have d2 : WR.cell? ⟨g, o + i, none⟩ = some (.int .i64 z) := by rw [hWR]; exact d1
        clear hWR d1 ho hb
        obtain ⟨us, ls, hs, hrows⟩ := HOW.out
        rw [HN.out] at hrows
        have HROW := Lib.hid hrows
        have hbs := HBW.out.size
        clear hrows
        go_wp2_with (at_builtin; refine wpList_append_lies rfl _ _ 51 rfl w.heap.size 22 i0 (.slice none 0 0) 1 24 Try.underlying51 hi0 hz0 hz1 hz2 rfl (by decide) _ N us rfl (World.ownsRow.alloc (World.ownsRow.alloc HROW.out.1 _) _) ⟨WR.heap.size + 1, 0, none⟩ 1 1 [.slice (some ⟨WR.heap.size, 0, none⟩) 2 2] rfl rfl (World.news_of_block (cs := #[.slice (some ⟨WR.heap.size, 0, none⟩) 2 2]) (t := 22) (fr := (0, 0)) (heap_alloc2_new WR _ _)) (by simp [Value.oneCell']) (by decide) (by simp only [maxLen]; omega) (by omega) (by simp; omega) ?_; intro g2 cap2 w3 hown3 hgrow3 hg3 hlt3; have HQ3 := Lib.hid (rows_push2 HROW.out HN.out hbs z 0 hown3 hgrow3 hg3 hlt3); have HB3 := Lib.hid (((HBW.out.alloc hbs _).alloc (by simp; omega) _).grown hgrow3 (by simp; omega) (fun k hk => (World.ownsRow.lt HROW.out.1 k hk).1)); clear hown3 hgrow3 hg3 hlt3; obtain ⟨go, gi, ci, e9, k1, k2, k3, k4, k5⟩ := rows_last HQ3.out (by rw [List.length_append, HN.out]; rfl); cases e9; have K5 := Lib.hid k5; clear k5)
        go_roundw
        case rel => exact ⟨i + 1, N + 1, _, _, by omega, by omega, rfl, by go_num, Lib.hid (by rw [HX.out, List.length_append, HN.out]; rfl), Lib.hid (by rw [HX.out, setCell_size]; exact K5.out 1), Lib.hid (below_set HB3.out k2 _)⟩
        case measure => simp [intOf]; omega
end Go.Proofs.Ytncgkoanckefmaa
