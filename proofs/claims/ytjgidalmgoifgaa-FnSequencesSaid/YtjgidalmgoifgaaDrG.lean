/- Drawn branches and lists of generators: contracts of spec.DrawGapsOf and spec.DrawBranchOfGenerators. Conditions: stated at each theorem. -/
import Derived.Test.YtjgidalmgoifgaaZE
import Derived.Test.YtjgidalmgoifgaaZF
namespace Go.Proofs.Ytjgidalmgoifgaa
open Go.ChangeShapes Go.WideShapes Go.ChangeAt Go.RowKit Go.Deep
set_option linter.unusedVariables false
set_option linter.unusedSimpArgs false

set_option maxRecDepth 100000 in
set_option maxHeartbeats 2000000 in
theorem DrawGapsOf_any (A : Option Addr) (n c : Nat) (w : World) (hr : RB w w.heap.size A n) (hn : n ≤ 9223372036854775807) :
    Calls Try.prog 39 #[.slice A n c] w (DrPost w) := by
  have HR := Lib.hid hr
  clear hr
  obtain ⟨W0, HE⟩ : ∃ W, W = w.alloc (.cells #[.slice none 0 0] 26) := ⟨_, rfl⟩
  have hS0 : Start1 w W0 := by rw [HE]; exact Start1.new _
  have HB0 := Lib.hid hS0.below
  have HR0 := Lib.hid ((HR.out.below HB0.out).more HB0.out.size)
  have S0 := Lib.hid hS0
  have HEQ := Lib.hid HE
  have HSW := Lib.hid hS0.size
  have hwW : w.heap.size < W0.heap.size := by have := HSW.out; omega
  clear HR hS0 HE
  go_enter Try.func39, Try.ntmps39
  go_wp2_with fail
  rw [← HEQ.out]
  refine (l01From_any A n c W0 HR0.out hn).mono ?_
  rintro e w1 ⟨g, rfl, hs1, hb1⟩
  have hgn : W0.heap.size ≤ g := hs1.new
  have HS1 := Lib.hid hs1
  have HB1 := Lib.hid hb1
  clear hs1 hb1
  go_wp2_with fail
  refine (l03Spoil_any _ g n w1 HS1.out).mono ?_
  rintro e w2 ⟨Ab, nb, cb, L, rfl, hr2, hge, hL, hs2, hg2⟩
  have HB2 := Lib.hid (below_grown HB1.out hg2 hgn HB1.out.size)
  have HR2 := Lib.hid hr2
  have HSP := Lib.hid hL
  have HS2 : Hid (SrcOK (w2.alloc (.cells #[.slice Ab nb cb] 26)) W0.heap.size g n) := Lib.hid (hs2.alloc _)
  have HB3 : Hid (Below W0.heap.size W0 (w2.alloc (.cells #[.slice Ab nb cb] 26))) := Lib.hid (HB2.out.alloc HB2.out.size _)
  have c1 : (w2.alloc (.cells #[.slice Ab nb cb] 26)).cell? ⟨w2.heap.size, 0, none⟩ = some (.slice Ab nb cb) := by go_simp
  have hb1 : w2.heap.size < (w2.alloc (.cells #[.slice Ab nb cb] 26)).heap.size := by simp
  have HR3 : Hid (ReadI (w2.alloc (.cells #[.slice Ab nb cb] 26)) w2.heap.size (.slice Ab nb cb) L) := Lib.hid (hr2.below (below_box2 w2 _))
  have hlt2 : g < w2.heap.size := hs2.lt
  have hz2 := HB2.out.size
  have hz1 := HB1.out.size
  have HGE := Lib.hid hge
  have hgl1 : g < w1.heap.size := HS1.out.lt
  clear hr2 hL hs2 hg2 hge
  go_wp2_with fail
  generalize w2.alloc (.cells #[.slice Ab nb cb] 26) = W3 at *
  refine (l01Next_any _ g n 24 W3 HS2.out (by omega)).mono ?_
  rintro e W4 ⟨y, rfl, hq0, hq1, hs4, hg4⟩
  have HB4 := Lib.hid (below_grown HB3.out hg4 hgn HB3.out.size)
  have hz4 := hg4.size
  by_cases h0 : y = 0
  · have e0 : (y == 0) = true := by simpa using h0
    have HS4 := Lib.hid hs4
    have HY := Lib.hid h0
    clear hs4 hg4 h0
    obtain ⟨l2, l3, l4⟩ := S0.out.later HB4.out
    go_wp2_with fail
    have cr : ((W4.setCell ⟨w.heap.size, 0, none⟩ (.slice (some ⟨W4.heap.size, 0, none⟩) 2 2)).alloc (.cells #[.int .i64 64, .int .i64 1999] 2)).cell? ⟨w.heap.size, 0, none⟩ = some (.slice (some ⟨W4.heap.size, 0, none⟩) 2 2) := by go_simp
    refine bodyPost_ret (v := .agg #[.slice (some ⟨W4.heap.size, 0, none⟩) 2 2]) (by simp [results, Try.results39, go_sem, cr]) rfl ?_
    exact dr_two (HB0.out.trans (HB4.out.mono (by omega))) (by omega) 64 1999 (by omega) (by omega) _
  have e0 : (y == 0) = false := by simpa using h0
  have c4 := (grown_cellD hg4 (p := ⟨w2.heap.size, 0, none⟩) (by show ¬ w2.heap.size = g; omega) hb1).trans c1
  have hb4 : w2.heap.size < W4.heap.size := by omega
  have HR4 : Hid (ReadI W4 w2.heap.size (.slice Ab nb cb) L) := Lib.hid (read_src HR3.out hg4 (by omega) (fun a ha => by have := HGE.out a ha; omega))
  obtain ⟨l2, l3, l4⟩ := S0.out.later HB4.out
  clear hs4 hg4 c1 hb1
  go_wp2_with fail
  have cr : (W4.setCell ⟨w.heap.size, 0, none⟩ (.slice Ab nb cb)).cell? ⟨w.heap.size, 0, none⟩ = some (.slice Ab nb cb) := by go_simp
  refine bodyPost_ret (v := .agg #[.slice Ab nb cb]) (by simp [results, Try.results39, go_sem, cr]) rfl ?_
  exact dr_end (HB0.out.trans (HB4.out.mono (by omega))) (fun a ha => by have := HGE.out a ha; omega) (read_set (HR4.out.more (by omega)) (fun A' n' c' e a ha => by cases e; have := HGE.out a ha; show ¬ a.block = w.heap.size; omega)) HSP.out

/-- A drawn list. -/
def DrLPost (w : World) (e : Ending) (w' : World) : Prop := ∃ A m c L, e = .returned (.slice A m c) ∧ ReadI w' w'.heap.size (.slice A m c) L ∧ SpOK L ∧ Below w.heap.size w w'
/-- A list of the call's own beside the source. -/
structure DG (w0 : World) (b0 g n : Nat) (v : Value) (L : List Int) (w : World) : Prop where
  src : SrcOK w w0.heap.size g n
  own : OwnI w b0 w.heap.size v L
  below : Below w0.heap.size w0 w
  gb : g < b0
  up : b0 ≤ w.heap.size
theorem DG.drew {w0 w : World} {b0 g n : Nat} {v : Value} {L : List Int} (h : DG w0 b0 g n v L w) : DG w0 b0 g n v L w.drew := ⟨h.src, h.own, ⟨h.below.os, h.below.tape, h.below.output, h.below.size, h.below.block⟩, h.gb, h.up⟩
theorem DG.alloc {w0 w : World} {b0 g n : Nat} {v : Value} {L : List Int} (h : DG w0 b0 g n v L w) (o : Obj) : DG w0 b0 g n v L (w.alloc o) :=
  ⟨h.src.alloc o, draw_up h.own o, h.below.alloc h.below.size o, h.gb, by have := h.up; simp; omega⟩
theorem DG.step {w0 w w' : World} {b0 g n : Nat} {v : Value} {L : List Int} (h : DG w0 b0 g n v L w) (hs : SrcOK w' w0.heap.size g n) (hg : w.grownBy w' (some g)) : DG w0 b0 g n v L w' :=
  ⟨hs, OwnI.mk' (h.own.kept (kept_src hg h.gb (Nat.le_refl _))).1, below_grown h.below hg hs.new h.below.size, h.gb, Nat.le_trans h.up hg.size⟩
theorem DG.cell {w0 w : World} {b0 g n nb cb go j : Nat} {L : List Int} (h : DG w0 b0 g n (.slice (some ⟨go, 0, none⟩) nb cb) L w) (hl : L.length = nb) (hj : j < nb) : w.cell? ⟨go, j, none⟩ = some (.int .i64 (L[j]?.getD 0)) ∧ w.frozen? ⟨go, j, none⟩ = false := by
  obtain ⟨g9, e9, _, _, d3, k3⟩ := own_at h.own hl hj
  cases e9
  exact ⟨d3, k3⟩
theorem DG.store {w0 w : World} {b0 g n nb cb go j : Nat} {L : List Int} (h : DG w0 b0 g n (.slice (some ⟨go, 0, none⟩) nb cb) L w) (hl : L.length = nb) (hj : j < nb) (x : Int) : DG w0 b0 g n (.slice (some ⟨go, 0, none⟩) nb cb) (L.set j x) (w.setCell ⟨go, j, none⟩ (.int .i64 x)) := by
  obtain ⟨g9, e9, h1, h2, _, _⟩ := own_at h.own hl hj
  cases e9
  have B4 : Below b0 w (w.setCell ⟨go, j, none⟩ (.int .i64 x)) := (Below.refl _ _).setCell (p := ⟨go, j, none⟩) h1 _
  have ho := own_store (j := j) h.own hl x
  have hz := setCell_size w ⟨go, j, none⟩ (.int .i64 x)
  have hw0 : w0.heap.size ≤ b0 := by have := h.src.new; have := h.gb; omega
  refine ⟨h.src.above B4 h.gb, ?_, h.below.setCell (p := ⟨go, j, none⟩) (by show w0.heap.size ≤ go; omega) _, h.gb, by rw [hz]; exact h.up⟩
  rw [hz]; exact ho
theorem DG.fin {w0 w : World} {b0 g n m c : Nat} {A : Option Addr} {L : List Int} (h : DG w0 b0 g n (.slice A m c) L w) (hL : SpOK L) : DrLPost w0 (.returned (.slice A m c)) w := ⟨A, m, c, L, rfl, h.own.reads, hL, h.below⟩
theorem lit_src {w w' : World} {b m g : Nat} {zs : List Int} (h : RI w w.heap.size (some ⟨b, 0, none⟩) m zs) (hg : w.grownBy w' (some g)) (hne : b ≠ g) : RI w' w'.heap.size (some ⟨b, 0, none⟩) m zs := by
  refine ⟨h.1, fun k hk => ?_⟩
  obtain ⟨a, e, h3, h4⟩ := h.2 k hk
  cases e
  refine ⟨_, rfl, Nat.lt_of_lt_of_le h3 hg.size, ?_⟩
  rw [grown_cellD hg (by rw [add_block]; exact hne) (by rw [add_block]; exact h3)]
  exact h4

set_option maxRecDepth 100000 in
set_option maxHeartbeats 4000000 in
theorem DrawBranchOfGenerators_any (A : Option Addr) (n c : Nat) (w : World) (hr : RB w w.heap.size A n) (hn : n ≤ 9223372036854775807) :
    Calls Try.prog 49 #[.slice A n c] w (DrLPost w) := by
  have HR := Lib.hid hr
  clear hr
  go_enter Try.func49, Try.ntmps49
  go_wp2_with fail
  refine (l01From_any A n c w HR.out hn).mono ?_
  rintro e w1 ⟨g, rfl, hs1, hb1⟩
  have HS1 := Lib.hid hs1
  have HB1 := Lib.hid hb1
  clear hs1 hb1
  go_wp2_with fail
  refine (l03Draw_any w.heap.size g n w1 HS1.out).mono ?_
  rintro e w2 ⟨vb, L0, rfl, ho2, hbr, hlen, hs2, hg2⟩
  have hgn : w.heap.size ≤ g := HS1.out.new
  have HB2 := Lib.hid (below_grown HB1.out hg2 hgn HB1.out.size)
  have HO2 := Lib.hid ho2
  have HBR := Lib.hid hbr
  have HS2 := Lib.hid hs2
  have HLN := Lib.hid hlen
  have hgl : g < w2.heap.size := hs2.lt
  clear ho2 hbr hlen hs2 hg2
  go_wp2_with fail
  refine (l05Generators_any vb L0 w2 HO2.out.reads (by have := HLN.out; omega) HBR.out).mono ?_
  rintro e w3 ⟨vg, rfl, ho3, hb3⟩
  have HGL : Hid ((gnB L0).length = L0.length) := Lib.hid (gnB_len L0)
  have HGA := Lib.hid (gnB_all HBR.out)
  have hpos := brB_pos HBR.out
  obtain ⟨nb, hnb⟩ : ∃ nb, (gnB L0).length = nb := ⟨_, rfl⟩
  have hnb8 : 1 ≤ nb ∧ nb ≤ 8 := by have := HGL.out; have := HLN.out; omega
  obtain ⟨Ab, cb, rfl⟩ := ho3.form hnb
  obtain ⟨go, e1, hgo1, hgo2, _, _⟩ := own_at ho3 hnb (show 0 < nb by omega)
  cases e1
  have HD : Hid (DG w w2.heap.size g n (.slice (some ⟨go, 0, none⟩) nb cb) (gnB L0) w3) := Lib.hid ⟨HS2.out.far hb3, OwnI.mk' ho3.1, below_next HB2.out HB2.out.size hb3, hgl, hb3.size⟩
  have HNB := Lib.hid hnb
  have HSP : Hid (SpOK (gnB L0)) := Lib.hid ⟨by omega, fun z hz => by have := HGA.out z hz; omega⟩
  clear ho3 hb3 HB2 HS2 HO2 HGL hnb hpos HLN HBR
  generalize gnB L0 = L at *
  generalize w2.heap.size = b0 at *
  go_wp2_with fail
  refine (l01Next_any _ g n 10 w3 HD.out.src (by omega)).mono ?_
  rintro e W2 ⟨y, rfl, hq0, hq1, hs, hg⟩
  replace HD := Lib.hid (HD.out.step hs hg)
  have hgo3 : go < W2.heap.size := by have := hg.size; omega
  clear hs hg hgo2
  by_cases h0 : y = 0
  · have e0 : (y == 0) = true := by simpa using h0
    have HY := Lib.hid h0
    clear h0
    go_wp2_with fail
    refine (l01Next_any _ g n (nb : Int) W2 HD.out.src (by omega)).mono ?_
    rintro e W5 ⟨k, rfl, hka, hkb, hs, hg⟩
    replace HD := Lib.hid (HD.out.step hs hg)
    clear hs hg
    obtain ⟨j, rfl⟩ : ∃ j : Nat, k = (j : Int) := ⟨k.toNat, by omega⟩
    have hj1 : (j : Int) < (nb : Int) := by omega
    have hj0 : (0 : Int) ≤ (j : Int) := by omega
    have HA := Lib.hid (newRI W5 [1, 2, 5, 0, 1000001, 6] (by simp))
    have hglp : g < W5.heap.size := HD.out.src.lt
    go_wp2_with fail
    refine (l01Pick_any _ g n _ 6 6 [1, 2, 5, 0, 1000001, 6] (W5.alloc (.cells #[.int .i64 1, .int .i64 2, .int .i64 5, .int .i64 0, .int .i64 1000001, .int .i64 6] 2)) (HD.out.alloc _).src HA.out ?_ (by omega)).mono ?_
    · intro a ha; cases ha; show ¬ W5.heap.size = g; omega
    rintro e W6 ⟨x, rfl, hx, hs, hg⟩
    have hx2 : 0 ≤ x ∧ x ≤ 1000001 := by simp at hx; omega
    replace HD := Lib.hid ((HD.out.alloc _).step hs hg)
    clear hs hg hx HA hglp
    obtain ⟨d3, k3⟩ := HD.out.cell HNB.out (j := j) (by omega)
    have HF := Lib.hid (HD.out.store HNB.out (j := j) (by omega) x)
    go_wp2_with fail
    go_ret
    exact HF.out.fin (HSP.out.set _ (by omega))
  by_cases h1 : y = 1
  · have e0 : (y == 0) = false := by simpa using h0
    have e1 : (y == 1) = true := by simpa using h1
    have HY := Lib.hid h1
    clear h1
    obtain ⟨i0, hi0, hy0, hy1, hy2⟩ := info_parts int_info
    have HA := Lib.hid (newRI W2 [7, 50, 101] (by simp))
    have hglp : g < W2.heap.size := HD.out.src.lt
    go_wp2_with fail
    refine (l01Pick_any _ g n _ 3 3 [7, 50, 101] (W2.alloc (.cells #[.int .i64 7, .int .i64 50, .int .i64 101] 2)) (HD.out.alloc _).src HA.out ?_ (by omega)).mono ?_
    · intro a ha; cases ha; show ¬ W2.heap.size = g; omega
    rintro e W6 ⟨x, rfl, hx, hs, hg⟩
    have hx2 : 7 ≤ x ∧ x ≤ 101 := by simp at hx; omega
    replace HD := Lib.hid ((HD.out.alloc _).step hs hg)
    clear hs hg hx HA hglp
    have hb0 : b0 ≤ W6.heap.size := HD.out.up
    have hw0 : w.heap.size ≤ b0 := by have := HD.out.src.new; have := HD.out.gb; omega
    go_wp2_with (at_builtin; (refine wpList_append_lies _ rfl (.tmp 26) (.tmp 30) 24 rfl b0 2 i0 (.int .i64 0) 1 8 Try.underlying24 hi0 hy0 hy1 hy2 rfl (by decide) (Value.slice (some ⟨go, 0, none⟩) nb cb) nb (L.map (.int .i64)) rfl ?ga4 ⟨W6.heap.size, 0, none⟩ 1 1 [.int .i64 x] rfl rfl ?ga6 ?ga7 (by decide) ?ga8 ?ga9 ?ga10 _ rfl ?ga11; (have h3 := HD.out.own.1; rw [HNB.out] at h3; exact World.ownsRow.alloc h3 _); (exact World.news_of_block (cs := #[.int .i64 x]) (t := 2) (fr := (0, 0)) (heap_alloc_new W6 _)); (simp [Value.oneCell']); (simp only [maxLen]; omega); (omega); (show b0 ≤ (World.alloc W6 _).heap.size; simp; omega); intro g2 cap2 w4 hown2 hgrow hg2 hlt2; (have B4 : Below b0 W6 w4 := Below.grown (w := (W6.alloc (.cells #[.int .i64 x] 2))) ((Below.refl _ _).alloc hb0 _) ⟨hgrow.os, hgrow.tape, hgrow.output, hgrow.size, hgrow.block⟩ (by simp; omega) (fun k hk => (Own.lt HD.out.own.1 k hk).1)); (have HF : Hid (DG w b0 g n (Value.slice (some ⟨g2, 0, none⟩) (nb + 1) cap2) (L ++ [x]) w4) := Lib.hid ⟨HD.out.src.above B4 HD.out.gb, OwnI.mk' (n := nb + 1) (by (rw [List.map_append]; exact hown2)), HD.out.below.trans (B4.mono hw0), HD.out.gb, Nat.le_trans hb0 B4.size⟩); clear hown2 hgrow hg2 B4))
    go_ret
    exact HF.out.fin ⟨by rw [List.length_append, HNB.out, List.length_singleton]; omega, fun z hz => by
      rcases List.mem_append.1 hz with hz | hz
      · exact HSP.out.2 z hz
      · simp at hz; omega⟩
  by_cases h2 : y = 2
  · have e0 : (y == 0) = false := by simpa using h0
    have e1 : (y == 1) = false := by simpa using h1
    have e2 : (y == 2) = true := by simpa using h2
    have HY := Lib.hid h2
    clear h2
    have hcb : nb ≤ cb ∧ cb ≤ 9223372036854775807 := by
      obtain ⟨A', c', e7, _, _, h5, _, h6⟩ := HD.out.own.reads
      rw [HNB.out] at e7 h5
      cases e7; exact ⟨h5, h6⟩
    by_cases hC : cb = 1
    · obtain rfl : cb = 1 := hC
      obtain rfl : nb = 1 := by omega
      go_wp2_with fail
      go_ret
      have hd : L.drop 1 = [] := List.drop_eq_nil_of_le (by rw [HNB.out]; exact Nat.le_refl _)
      exact ⟨_, _, _, [], rfl, ⟨some ⟨go, 0, none⟩, 0, rfl, ⟨rfl, fun k hk => absurd hk (by simp)⟩, (by intro h; cases h), Nat.le_refl _, fun a ha => by cases ha; exact ⟨_, _, rfl⟩, by omega⟩, by rw [← hd]; exact HSP.out.drop 1, HD.out.below⟩
    obtain ⟨C, rfl⟩ : ∃ C, cb = C + 1 := ⟨cb - 1, by omega⟩
    obtain ⟨M, rfl⟩ : ∃ M, nb = M + 1 := ⟨nb - 1, by omega⟩
    have hC0 : ¬ C = 0 := by omega
    have h1M : (1 : Int) ≤ (M : Int) + 1 := by omega
    clear hC
    go_wp2_with fail
    go_ret
    exact ⟨_, _, _, _, rfl, own_tail HD.out.own HNB.out, HSP.out.drop 1, HD.out.below⟩
  by_cases h3 : y = 3
  · have e0 : (y == 0) = false := by simpa using h0
    have e1 : (y == 1) = false := by simpa using h1
    have e2 : (y == 2) = false := by simpa using h2
    have e3 : (y == 3) = true := by simpa using h3
    have HY := Lib.hid h3
    clear h3
    go_wp2_with fail
    refine (l01Next_any _ g n (nb : Int) W2 HD.out.src (by omega)).mono ?_
    rintro e W5 ⟨k, rfl, hka, hkb, hs, hg⟩
    replace HD := Lib.hid (HD.out.step hs hg)
    clear hs hg
    obtain ⟨j, rfl⟩ : ∃ j : Nat, k = (j : Int) := ⟨k.toNat, by omega⟩
    have hxr : -1 ≤ L[j]?.getD 0 ∧ L[j]?.getD 0 ≤ 128000 := by
      have hl := HNB.out
      have := HGA.out (L[j]?.getD 0) (by simp [show j < L.length by omega])
      omega
    obtain ⟨d1, k1⟩ := HD.out.cell HNB.out (j := j) (by omega)
    have HCC : Hid (∀ W, DG w b0 g n (Value.slice (some ⟨go, 0, none⟩) nb cb) L W → W.cell? ⟨go, j, none⟩ = some (.int .i64 (L[j]?.getD 0))) := Lib.hid (fun W h => (h.cell HNB.out (by omega)).1)
    generalize (L[j]?.getD 0 : Int) = z at *
    have hj1 : (j : Int) < (nb : Int) := by omega
    have hj0 : (0 : Int) ≤ (j : Int) := by omega
    have p1 : IntKind.i64.wrap (z + 1) = z + 1 := IntWalk.i64_in _ (by omega)
    go_wp2_with fail
    refine wp_region_held_drew (S := fun w' => True) (by kernel_rfl) trivial (fun hHeld => ?_)
    have HDd := Lib.hid HD.out.drew
    have d0 : W5.drew.cell? ⟨go, j, none⟩ = some (.int .i64 z) := d1
    refine takeY 0 _ (v := ?_) rfl rfl (by kernel_rfl) (by kernel_rfl) (by kernel_rfl) (fun _ _ _ h => h) (by kernel_rfl) ?_ (by assumption) ?_
    rotate_left 1
    · intro w hSw; (try dsimp only at hSw); go_simp; (try with_reducible rfl)
    try simp only [Act.put, List.setIfInBounds_toArray, List.set_cons_zero, List.set_cons_succ]
    refine takeY 1 _ (v := ?_) rfl rfl (by kernel_rfl) (by kernel_rfl) (by kernel_rfl) (fun _ _ _ h => h) (by kernel_rfl) ?_ (by assumption) ?_
    rotate_left 1
    · intro w hSw; (try dsimp only at hSw); go_simp; (try with_reducible rfl)
    try simp only [Act.put, List.setIfInBounds_toArray, List.set_cons_zero, List.set_cons_succ]
    refine takeY 2 _ (v := ?_) rfl rfl (by kernel_rfl) (by kernel_rfl) (by kernel_rfl) (fun _ _ _ h => h) (by kernel_rfl) ?_ (by assumption) ?_
    rotate_left 1
    · intro w hSw; (try dsimp only at hSw); go_simp; (try with_reducible rfl)
    try simp only [Act.put, List.setIfInBounds_toArray, List.set_cons_zero, List.set_cons_succ]
    refine takeY 3 _ (v := ?_) rfl rfl (by kernel_rfl) (by kernel_rfl) (by kernel_rfl) (fun _ _ _ h => h) (by kernel_rfl) ?_ (by assumption) ?_
    rotate_left 1
    · intro w hSw; (try dsimp only at hSw); go_simp; (try with_reducible rfl)
    try simp only [Act.put, List.setIfInBounds_toArray, List.set_cons_zero, List.set_cons_succ]
    refine takeY 4 _ (v := ?_) rfl rfl (by kernel_rfl) (by kernel_rfl) (by kernel_rfl) (fun _ _ _ h => h) (by kernel_rfl) ?_ (by assumption) ?_
    rotate_left 1
    · intro w hSw; (try dsimp only at hSw); go_simp; (try with_reducible rfl)
    try simp only [Act.put, List.setIfInBounds_toArray, List.set_cons_zero, List.set_cons_succ]
    refine takeY 7 _ (v := ?_) rfl rfl (by kernel_rfl) (by kernel_rfl) (by kernel_rfl) (fun _ _ _ h => h) (by kernel_rfl) ?_ (by assumption) ?_
    rotate_left 1
    · intro w hSw; (try dsimp only at hSw); go_simp; (try with_reducible rfl)
    try simp only [Act.put, List.setIfInBounds_toArray, List.set_cons_zero, List.set_cons_succ]
    refine wpAnyH_ready (rs := [5, 8]) (by kernel_rfl) (by simp) ?_
    refine AllReadyH.cons rfl (fun K hK => ?_) (AllReadyH.cons rfl (fun K hK => ?_) AllReadyH.nil)
    · go_simp
      refine hK.out _ (W5.drew) trivial (fun hHeld => ?_)
      clear hK K
      try simp only [Act.put, List.setIfInBounds_toArray, List.set_cons_zero, List.set_cons_succ]
      refine takeY 6 _ (v := ?_) rfl rfl (by kernel_rfl) (by kernel_rfl) (by kernel_rfl) (fun _ _ _ h => h) (by kernel_rfl) ?_ (by assumption) ?_
      rotate_left 1
      · intro w hSw; (try dsimp only at hSw); go_simp; (try with_reducible rfl)
      try simp only [Act.put, List.setIfInBounds_toArray, List.set_cons_zero, List.set_cons_succ]
      refine wpAnyH_ready (rs := [8]) (by kernel_rfl) (by simp) ?_
      refine AllReadyH.cons rfl (fun K hK => ?_) AllReadyH.nil
      go_simp
      refine (l01Next_any _ g n 4 W5.drew HDd.out.src (by omega)).mono ?_
      rintro e V1 ⟨q, rfl, hqa, hqb, hs, hg⟩
      have HE2 := Lib.hid (HDd.out.step hs hg)
      clear hs hg
      refine hK.out _ V1 trivial (fun hHeld => ?_)
      clear hK K
      try simp only [Act.put, List.setIfInBounds_toArray, List.set_cons_zero, List.set_cons_succ]
      have p2 : IntKind.i64.wrap (z + 1 + q) = z + 1 + q := IntWalk.i64_in _ (by omega)
      refine takeY 9 _ (v := ?_) rfl rfl (by kernel_rfl) (by kernel_rfl) (by kernel_rfl) (fun _ _ _ h => h) (by kernel_rfl) ?_ (by assumption) ?_
      rotate_left 1
      · intro w hSw; (try dsimp only at hSw); go_simp; (try with_reducible rfl)
      try simp only [Act.put, List.setIfInBounds_toArray, List.set_cons_zero, List.set_cons_succ]
      refine takeY 10 _ (v := ?_) rfl rfl (by kernel_rfl) (by kernel_rfl) (by kernel_rfl) (fun _ _ _ h => h) (by kernel_rfl) ?_ (by assumption) ?_
      rotate_left 1
      · intro w hSw; (try dsimp only at hSw); go_simp; (try with_reducible rfl)
      try simp only [Act.put, List.setIfInBounds_toArray, List.set_cons_zero, List.set_cons_succ]
      obtain ⟨d3, k3⟩ := HE2.out.cell HNB.out (j := j) (by omega)
      refine wpAnyH_ready (rs := [11]) (by kernel_rfl) (by simp) ?_
      refine AllReadyH.cons rfl (fun K hK => ?_) AllReadyH.nil
      go_simp
      refine hK.out _ (V1.setCell ⟨go, j, none⟩ (.int .i64 (z + 1 + q))) trivial (fun hHeld => ?_)
      clear hK K
      try simp only [Act.put, List.setIfInBounds_toArray, List.set_cons_zero, List.set_cons_succ]
      refine wpAnyH_done (by kernel_rfl) ?_ _
      have HF := Lib.hid (HE2.out.store HNB.out (j := j) (by omega) (z + 1 + q))
      generalize V1.setCell ⟨go, j, none⟩ (.int .i64 (z + 1 + q)) = WF at *
      go_wp2_with fail
      go_ret
      exact HF.out.fin (HSP.out.set _ (by omega))
    · go_simp
      refine (l01Next_any _ g n 4 W5.drew HDd.out.src (by omega)).mono ?_
      rintro e V3 ⟨q, rfl, hqa, hqb, hs, hg⟩
      have HE4 := Lib.hid (HDd.out.step hs hg)
      clear hs hg
      refine hK.out _ V3 trivial (fun hHeld => ?_)
      clear hK K
      try simp only [Act.put, List.setIfInBounds_toArray, List.set_cons_zero, List.set_cons_succ]
      have p2 : IntKind.i64.wrap (z + 1 + q) = z + 1 + q := IntWalk.i64_in _ (by omega)
      have d2 := HCC.out V3 HE4.out
      refine wpAnyH_ready (rs := [5]) (by kernel_rfl) (by simp) ?_
      refine AllReadyH.cons rfl (fun K hK => ?_) AllReadyH.nil
      go_simp
      refine hK.out _ (V3) trivial (fun hHeld => ?_)
      clear hK K
      try simp only [Act.put, List.setIfInBounds_toArray, List.set_cons_zero, List.set_cons_succ]
      refine takeY 6 _ (v := ?_) rfl rfl (by kernel_rfl) (by kernel_rfl) (by kernel_rfl) (fun _ _ _ h => h) (by kernel_rfl) ?_ (by assumption) ?_
      rotate_left 1
      · intro w hSw; (try dsimp only at hSw); go_simp; (try with_reducible rfl)
      try simp only [Act.put, List.setIfInBounds_toArray, List.set_cons_zero, List.set_cons_succ]
      refine takeY 9 _ (v := ?_) rfl rfl (by kernel_rfl) (by kernel_rfl) (by kernel_rfl) (fun _ _ _ h => h) (by kernel_rfl) ?_ (by assumption) ?_
      rotate_left 1
      · intro w hSw; (try dsimp only at hSw); go_simp; (try with_reducible rfl)
      try simp only [Act.put, List.setIfInBounds_toArray, List.set_cons_zero, List.set_cons_succ]
      refine takeY 10 _ (v := ?_) rfl rfl (by kernel_rfl) (by kernel_rfl) (by kernel_rfl) (fun _ _ _ h => h) (by kernel_rfl) ?_ (by assumption) ?_
      rotate_left 1
      · intro w hSw; (try dsimp only at hSw); go_simp; (try with_reducible rfl)
      try simp only [Act.put, List.setIfInBounds_toArray, List.set_cons_zero, List.set_cons_succ]
      obtain ⟨d3, k3⟩ := HE4.out.cell HNB.out (j := j) (by omega)
      refine wpAnyH_ready (rs := [11]) (by kernel_rfl) (by simp) ?_
      refine AllReadyH.cons rfl (fun K hK => ?_) AllReadyH.nil
      go_simp
      refine hK.out _ (V3.setCell ⟨go, j, none⟩ (.int .i64 (z + 1 + q))) trivial (fun hHeld => ?_)
      clear hK K
      try simp only [Act.put, List.setIfInBounds_toArray, List.set_cons_zero, List.set_cons_succ]
      refine wpAnyH_done (by kernel_rfl) ?_ _
      have HF := Lib.hid (HE4.out.store HNB.out (j := j) (by omega) (z + 1 + q))
      generalize V3.setCell ⟨go, j, none⟩ (.int .i64 (z + 1 + q)) = WF at *
      go_wp2_with fail
      go_ret
      exact HF.out.fin (HSP.out.set _ (by omega))
  have e0 : (y == 0) = false := by simpa using h0
  have e1 : (y == 1) = false := by simpa using h1
  have e2 : (y == 2) = false := by simpa using h2
  have e3 : (y == 3) = false := by simpa using h3
  go_wp2_with fail
  go_ret
  exact HD.out.fin HSP.out
end Go.Proofs.Ytjgidalmgoifgaa
